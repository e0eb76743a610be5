/- The document's own pieces and groups. -/
import Derived.Test.YtbejnnkdgcelmaaGreatDoorRefE
set_option linter.unusedSimpArgs false
set_option linter.unusedVariables false
namespace Go.Proofs.YtbejnnkdgcelmaaGreatDoor
open Go.RowKit

theorem P.cut_hit (c : UInt8) (cur l : List UInt8) : P.cutF c cur (c :: l) = cur :: P.cutF c [] l := by rw [P.cutF, if_pos rfl]
theorem P.cut_pass (c b : UInt8) (cur l : List UInt8) (h : b ≠ c) : P.cutF c cur (b :: l) = P.cutF c (cur ++ [b]) l := by rw [P.cutF, if_neg h]
theorem seg_snoc (s : ByteArray) (f k : Nat) (hk : k < s.size) (hf : f ≤ k) : (s.data.toList.take (k + 1)).drop f = (s.data.toList.take k).drop f ++ [s[k]] := by
  have h : s.data.toList[k]? = some s[k] := by rw [List.getElem?_eq_getElem (by rw [list_size]; exact hk)]; rfl
  rw [List.take_add_one, h, List.drop_append_of_le_length (by rw [List.length_take, list_size]; omega)]; rfl
theorem ext_eq (s : ByteArray) (f k : Nat) : s.extract f k = ⟨((s.data.toList.take k).drop f).toArray⟩ := by
  have h := Lib.extract_data s f k
  rw [ByteArray.ext_iff]
  apply Array.toList_inj.1
  rw [h]
  show _ = List.drop f (List.take k s.data.toList)
  rw [List.drop_take]

set_option maxHeartbeats 4000000 in
theorem cut_any (s : ByteArray) (c : UInt8) (w : World) (hs : s.size ≤ 4000) :
    Calls Tryz.prog 31 #[.string s, .int .u8 c.toNat] w fun e w' => ∃ v, e = .returned v ∧ w'.ownsRow w.heap.size 9 1 v (P.cutP c s.data.toList).length (P.strs (P.cutP c s.data.toList)) ∧ Below w.heap.size w w' := by
  obtain ⟨i0, hi, hz0, hz1, hz2⟩ := info_parts iStr
  have HL := Lib.hid (list_size s)
  go_enter Tryz.func31, Tryz.ntmps31
  go_wp2_with fail
  go_loopw [5, 6, 7] (fun u5 u6 u7 wr => ∃ (f k : Nat) (ps : List (List UInt8)), u6 = .int .i64 f ∧ u7 = .int .i64 k ∧ f ≤ k ∧ k ≤ s.size ∧ ps.length ≤ k ∧ Below w.heap.size w wr ∧ wr.ownsRow w.heap.size 9 1 u5 ps.length (P.strs ps) ∧ Hid (ps ++ P.cutF c ((s.data.toList.take k).drop f) (s.data.toList.drop k) = P.cutP c s.data.toList)) (fun _ _ u7 _ => s.size - (intOf u7).toNat)
  case atStart => exact ⟨0, 0, [], rfl, rfl, by omega, by omega, by simp, Below.refl _ _, World.ownsRow_nil _ _ _ _, Lib.hid rfl⟩
  case round =>
    obtain ⟨f, k, ps, rfl, rfl, hf, hk, hps, hbw, hown, hC⟩ := hrel
    have hbs := hbw.size
    by_cases hlt : k < s.size
    · have hC2 := hC.out
      rw [get_drop s k hlt] at hC2
      by_cases hbc : s[k]'hlt = c
      · have hbb : ((((s[k]'hlt).toNat : Nat) : Int) == (c.toNat : Int)) = true := by rw [hbc]; simp
        rw [hbc, P.cut_hit] at hC2
        have HC2 := Lib.hid (show (ps ++ [(s.data.toList.take k).drop f]) ++ P.cutF c ((s.data.toList.take (k + 1)).drop (k + 1)) (s.data.toList.drop (k + 1)) = P.cutP c s.data.toList by
          rw [show (s.data.toList.take (k + 1)).drop (k + 1) = [] from List.drop_eq_nil_of_le (by rw [List.length_take]; omega), ← hC2]; simp)
        have HT := Lib.hid (show P.strs (ps ++ [(s.data.toList.take k).drop f]) = P.strs ps ++ [.string (s.extract f k)] by rw [P.strs_append, ext_eq]; rfl)
        have HLn := Lib.hid (show (ps ++ [(s.data.toList.take k).drop f]).length = ps.length + 1 by simp)
        clear hC2 hbc
        go_wp2_with (at_builtin; refine wpList_append_own _ rfl _ _ 56 rfl w.heap.size 9 i0 (.string ByteArray.empty) 1 16 Tryz.underlying56 hi hz0 hz1 hz2 rfl (by decide) _ _ _ rfl (hown.alloc _) ⟨wr.heap.size, 0, none⟩ 1 1 _ rfl rfl (cell_one_new _ _ _) (by intro u hu; simp at hu; subst hu; rfl) (by unfold maxLen; omega) (by omega) (by simp; omega) ?_; intro v' w' hown' hgrow _)
        go_roundw
        case rel => exact ⟨k + 1, k + 1, ps ++ [(s.data.toList.take k).drop f], by go_num, by go_num, by omega, by omega, by rw [HLn.out]; omega, (hbw.alloc hbs _).grown hgrow (by simp; omega) (fun k hk => (hown.lt k hk).1), by rw [HLn.out, HT.out]; exact hown', HC2⟩
        case measure => simp [intOf]; omega
      · have hbb : ((((s[k]'hlt).toNat : Nat) : Int) == (c.toNat : Int)) = false := by
          have : (s[k]'hlt).toNat ≠ c.toNat := fun e => hbc (UInt8.toNat_inj.1 e)
          simp; omega
        rw [P.cut_pass c _ _ _ hbc, ← seg_snoc s f k hlt hf] at hC2
        have HC2 := Lib.hid hC2
        clear hC2 hbc
        go_wp2_with fail
        go_roundw
        case rel => exact ⟨f, k + 1, ps, rfl, by go_num, by omega, by omega, by omega, hbw, hown, HC2⟩
        case measure => simp [intOf]; omega
    · obtain rfl : k = s.size := by omega
      have HC2 := Lib.hid (show P.cutP c s.data.toList = ps ++ [(s.data.toList.take s.size).drop f] by
        rw [← hC.out, show s.data.toList.drop s.size = [] from List.drop_eq_nil_of_le (by rw [HL.out]; omega)]; rfl)
      have HT := Lib.hid (show P.strs (P.cutP c s.data.toList) = P.strs ps ++ [.string (s.extract f s.size)] by rw [HC2.out, P.strs_append, ext_eq]; rfl)
      have HLn := Lib.hid (show (P.cutP c s.data.toList).length = ps.length + 1 by rw [HC2.out]; simp)
      go_wp2_with (at_builtin; refine wpList_append_own _ rfl _ _ 56 rfl w.heap.size 9 i0 (.string ByteArray.empty) 1 16 Tryz.underlying56 hi hz0 hz1 hz2 rfl (by decide) _ _ _ rfl (hown.alloc _) ⟨wr.heap.size, 0, none⟩ 1 1 _ rfl rfl (cell_one_new _ _ _) (by intro u hu; simp at hu; subst hu; rfl) (by unfold maxLen; omega) (by omega) (by simp; omega) ?_; intro v' w' hown' hgrow _)
      go_ret
      exact ⟨v', rfl, by rw [HLn.out, HT.out]; exact hown', (hbw.alloc hbs _).grown hgrow (by simp; omega) (fun k hk => (hown.lt k hk).1)⟩
end Go.Proofs.YtbejnnkdgcelmaaGreatDoor
