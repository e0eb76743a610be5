/- The document's Fold. -/
import Derived.Test.YtpeohgmceadmeaaDoorFold
import Derived.WalkSmall
import Derived.ShutString
import Derived.WalkSpells
import Derived.Maps.AppendAt
namespace Go.Proofs.YtpeohgmceadmeaaDoor
open Go.RowKit

theorem Tryd.info5 : (Tryd.prog.info? 5).map (fun i => (i.zero, i.size, i.bytes)) = some (some (.int .u8 0), 1, 1) := by kernel_rfl

theorem or_fin : ∀ k : Fin 31, bits .or .u8 128 (bits .and .i32 ((192 + k.val : Nat) + 32 : Int) 63 % 256) = 128 + (((192 + k.val : Nat) : Int) + 32) % 64 := by decide +kernel
theorem or_low (r : Nat) (h1 : 192 ≤ r) (h2 : r ≤ 222) : bits .or .u8 128 (bits .and .i32 ((r : Int) + 32) 63 % 256) = 128 + ((r : Int) + 32) % 64 := by
  obtain ⟨k, rfl⟩ : ∃ k, r = 192 + k := ⟨r - 192, by omega⟩
  exact or_fin ⟨k, by omega⟩

set_option maxHeartbeats 4000000 in
set_option maxRecDepth 1000000 in
theorem rfold_yes (s : ByteArray) (w : World) (hs : s.size ≤ 4000) (hn : P.name s.data.toList = true) :
    Calls Tryd.prog 15 #[.string s] w fun e w' => e = .returned (.tuple #[.string ⟨(P.foldB s.data.toList).toArray⟩, .int .i64 0]) ∧ Below w.heap.size w w' := by
  have HV := Lib.hid (name_valid _ hn)
  have h64 : s.size ≤ 64 := by have := HV.out.1; simpa using this
  obtain ⟨i0, hi, hz0, hz1, hz2⟩ := info_parts Tryd.info5
  go_enter Tryd.func15, Tryd.ntmps15
  go_wp2_with fail
  refine (rvalid_any s _ hs).mono ?_
  rw [hn]
  rintro e w1 ⟨rfl, rfl⟩
  clear hn
  go_wp2_with fail
  go_loopw [4, 5] (fun v i wr => ∃ (pos : Nat) (b : Int) (acc : List UInt8), pos ≤ s.size ∧ i = .int .i64 pos ∧ wr.ownsRow w.heap.size 5 1 v acc.length (Lib.byteCells acc) ∧ Below w.heap.size w wr ∧ Hid (acc ++ P.foldL (P.runesOf (s.data.toList.drop pos)) = P.foldB s.data.toList) ∧ acc.length ≤ 4 * pos ∧ Hid (P.validR b (P.runesOf (s.data.toList.drop pos)) = true)) (fun _ i _ => s.size - (intOf i).toNat)
  case atStart => exact ⟨0, 46, [], by omega, rfl, World.ownsRow_nil _ _ _ _, Below.refl _ _, Lib.hid rfl, by simp, Lib.hid HV.out.2⟩
  case round =>
    obtain ⟨pos, b, acc, hp', rfl, hown, hbw, hacc, hal, hvr⟩ := hrel
    by_cases hp : pos < s.size
    · obtain ⟨r, n, ho⟩ : ∃ r n, P.one (s.data.toList.drop pos) = (r, n) := ⟨_, _, rfl⟩
      obtain ⟨hr1, hr2, hr3⟩ := one_room s pos r n hp ho
      obtain ⟨hn0, hf, hvr2⟩ := valid_on s pos r n b hp ho hvr.out
      have hn1 : 1 ≤ n := by omega
      obtain ⟨hr4, hr5, hr6⟩ := fol_bound b r hf
      have hfb := Lib.hid hf
      obtain ⟨hen, hcs⟩ := one_enc _ r n ho hn0 (by omega)
      have hfl := foldL_at s pos r n hp hn0 ho
      have HO := Lib.hid ho
      have HF := Lib.hid (And.intro hacc.out (And.intro hfl (And.intro hvr2 hen)))
      clear hacc hfl hvr2 hvr ho hf hn0 hen
      by_cases cA : n = 1 ∧ 65 ≤ r ∧ r ≤ 90
      · obtain ⟨rfl, c1, c2⟩ := cA
        go_wp2_with (first | (go_at_call 26; refine (rone_at s pos r 1 _ hp hs HO).mono ?_; rintro e w' ⟨rfl, rfl⟩) | (at_builtin; refine wpList_append_own _ rfl _ _ 37 rfl w.heap.size 5 i0 (.int .u8 0) 1 1 Tryd.underlying37 hi hz0 hz1 hz2 rfl (by decide) _ _ _ rfl (hown.alloc _) ⟨wr.heap.size, 0, none⟩ 1 1 _ rfl rfl (cell_one_new _ _ _) (by intro u hu; simp at hu; subst hu; rfl) (by unfold maxLen; omega) (by omega) (by simp; have := hbw.size; omega) ?_; intro v' w' hown' hgrow' _))
        go_roundw
        case rel =>
          have hE : Lib.encodeRune (P.foldR r) = [((r : Int) + 32).toNat.toUInt8] := by
            rw [P.foldR, if_pos (by omega)]; exact enc_bytes _ (by omega) (by omega)
          have hC : Lib.byteCells [((r : Int) + 32).toNat.toUInt8] = [Value.int .u8 ((r : Int) + 32)] := by
            simp [Lib.byteCells]; omega
          refine ⟨pos + 1, r, acc ++ Lib.encodeRune (P.foldR r), by omega, by go_num, ?_, (hbw.alloc hbw.size _).grown hgrow' (by simp; have := hbw.size; omega) (fun k hk => (hown.lt k hk).1), ?_, ?_, HF.out.2.2.1⟩
          · rw [Lib.byteCells_append, List.length_append, hE, hC]; exact hown'
          · exact Lib.hid (by rw [List.append_assoc, ← HF.out.2.1, HF.out.1])
          · rw [List.length_append, hE]; simp; omega
        case measure => simp [intOf]; omega
      · by_cases cB : n = 2 ∧ 192 ≤ r ∧ r ≤ 222
        · obtain ⟨rfl, c1, c2⟩ := cB
          have hlet := hr6 (by omega)
          clear hr6 cA
          go_wp2_with (first | (go_at_call 26; refine (rone_at s pos r 2 _ hp hs HO).mono ?_; rintro e w' ⟨rfl, rfl⟩) | (go_at_call 27; refine (rletter_any _ _).mono ?_; rintro e w' ⟨rfl, rfl⟩) | (at_builtin; refine wpList_append_own _ rfl _ _ 37 rfl w.heap.size 5 i0 (.int .u8 0) 1 1 Tryd.underlying37 hi hz0 hz1 hz2 rfl (by decide) _ _ _ rfl (hown.alloc _) ⟨wr.heap.size, 0, none⟩ 2 2 _ rfl rfl (cell_two_new _ _ _ _) (by intro u hu; simp at hu; rcases hu with rfl | rfl <;> rfl) (by unfold maxLen; omega) (by omega) (by simp; have := hbw.size; omega) ?_; intro v' w' hown' hgrow' _))
          go_roundw
          case rel =>
            have hE : Lib.encodeRune (P.foldR r) = [(192 + ((r : Int) + 32) / 64).toNat.toUInt8, (128 + ((r : Int) + 32) % 64).toNat.toUInt8] := by
              rw [P.foldR, if_pos (by omega)]; exact enc_bytes2 _ (by omega) (by omega)
            have hC : Lib.byteCells [(192 + ((r : Int) + 32) / 64).toNat.toUInt8, (128 + ((r : Int) + 32) % 64).toNat.toUInt8] = [Value.int .u8 (192 + ((r : Int) + 32) / 64), Value.int .u8 (128 + ((r : Int) + 32) % 64)] := by
              simp [Lib.byteCells]; omega
            refine ⟨pos + 2, r, acc ++ Lib.encodeRune (P.foldR r), by omega, by go_num, ?_, (hbw.alloc hbw.size _).grown hgrow' (by simp; have := hbw.size; omega) (fun k hk => (hown.lt k hk).1), ?_, ?_, HF.out.2.2.1⟩
            · rw [or_low r c1 c2] at hown'; rw [Lib.byteCells_append, List.length_append, hE, hC]; exact hown'
            · exact Lib.hid (by rw [List.append_assoc, ← HF.out.2.1, HF.out.1])
            · rw [List.length_append, hE]; simp; omega
          case measure => simp [intOf]; omega
        · have hC : (n = 1 ∧ r < 65) ∨ (n = 1 ∧ 90 < r ∧ r ≤ 127) ∨ (n = 2 ∧ 222 < r) := by
            rcases hcs with ⟨h1, h2⟩ | ⟨h1, h2⟩
            · omega
            · have : 192 ≤ r := by
                by_cases h3 : 192 ≤ r
                · exact h3
                · exfalso
                  have h4 := hfb.out
                  unfold P.fol P.letB P.digB at h4
                  rw [if_neg (by omega), if_neg (by omega)] at h4
                  simp at h4
                  omega
              omega
          have hfr : P.foldR r = r := by rw [P.foldR, if_neg (by omega)]
          have hext : s.extract pos (pos + n) = ⟨(Lib.encodeRune (P.foldR r)).toArray⟩ := by
            rw [Lib.extract_eq, Nat.add_sub_cancel_left, HF.out.2.2.2, hfr]
          have HX := Lib.hid hext
          have hsz : (s.extract pos (pos + n)).size = n := by simp; omega
          clear hext hr6 cA cB hcs
          have hsz := Lib.hid hsz
          rcases hC with ⟨rfl, c1⟩ | ⟨rfl, c1, c2⟩ | ⟨rfl, c1⟩
          · go_wp2_with (first | (go_at_call 26; refine (rone_at s pos r 1 _ hp hs HO).mono ?_; rintro e w' ⟨rfl, rfl⟩) | (at_builtin; refine Lib.wpList_append_own_string _ rfl _ _ 37 9 rfl w.heap.size 5 i0 Tryd.underlying37 Tryd.underlying9 hi hz0 hz1 hz2 _ _ _ rfl hown (s.extract pos (pos + 1)) rfl (by rw [hsz.out]; unfold maxLen; omega) (by rw [hsz.out]; omega) (by have := hbw.size; omega) ?_; intro v' w' hown' hgrow' _))
            go_roundw
            case rel =>
              rw [hsz.out] at hown'
              have hstr : Lib.strCells (s.extract pos (pos + 1)) = Lib.byteCells (Lib.encodeRune (P.foldR r)) := by rw [HX.out]; rfl
              have hlen : (Lib.encodeRune (P.foldR r)).length = 1 := by rw [← size_of_list, ← HX.out]; exact hsz.out
              refine ⟨pos + 1, r, acc ++ Lib.encodeRune (P.foldR r), hr1, by go_num, ?_, hbw.grown hgrow' hbw.size (fun k hk => (hown.lt k hk).1), ?_, ?_, HF.out.2.2.1⟩
              · rw [Lib.byteCells_append, List.length_append, ← hstr, hlen]; exact hown'
              · exact Lib.hid (by rw [List.append_assoc, ← HF.out.2.1, HF.out.1])
              · rw [List.length_append, hlen]; omega
            case measure => simp [intOf]; omega
          · go_wp2_with (first | (go_at_call 26; refine (rone_at s pos r 1 _ hp hs HO).mono ?_; rintro e w' ⟨rfl, rfl⟩) | (at_builtin; refine Lib.wpList_append_own_string _ rfl _ _ 37 9 rfl w.heap.size 5 i0 Tryd.underlying37 Tryd.underlying9 hi hz0 hz1 hz2 _ _ _ rfl hown (s.extract pos (pos + 1)) rfl (by rw [hsz.out]; unfold maxLen; omega) (by rw [hsz.out]; omega) (by have := hbw.size; omega) ?_; intro v' w' hown' hgrow' _))
            go_roundw
            case rel =>
              rw [hsz.out] at hown'
              have hstr : Lib.strCells (s.extract pos (pos + 1)) = Lib.byteCells (Lib.encodeRune (P.foldR r)) := by rw [HX.out]; rfl
              have hlen : (Lib.encodeRune (P.foldR r)).length = 1 := by rw [← size_of_list, ← HX.out]; exact hsz.out
              refine ⟨pos + 1, r, acc ++ Lib.encodeRune (P.foldR r), hr1, by go_num, ?_, hbw.grown hgrow' hbw.size (fun k hk => (hown.lt k hk).1), ?_, ?_, HF.out.2.2.1⟩
              · rw [Lib.byteCells_append, List.length_append, ← hstr, hlen]; exact hown'
              · exact Lib.hid (by rw [List.append_assoc, ← HF.out.2.1, HF.out.1])
              · rw [List.length_append, hlen]; omega
            case measure => simp [intOf]; omega
          · go_wp2_with (first | (go_at_call 26; refine (rone_at s pos r 2 _ hp hs HO).mono ?_; rintro e w' ⟨rfl, rfl⟩) | (at_builtin; refine Lib.wpList_append_own_string _ rfl _ _ 37 9 rfl w.heap.size 5 i0 Tryd.underlying37 Tryd.underlying9 hi hz0 hz1 hz2 _ _ _ rfl hown (s.extract pos (pos + 2)) rfl (by rw [hsz.out]; unfold maxLen; omega) (by rw [hsz.out]; omega) (by have := hbw.size; omega) ?_; intro v' w' hown' hgrow' _))
            go_roundw
            case rel =>
              rw [hsz.out] at hown'
              have hstr : Lib.strCells (s.extract pos (pos + 2)) = Lib.byteCells (Lib.encodeRune (P.foldR r)) := by rw [HX.out]; rfl
              have hlen : (Lib.encodeRune (P.foldR r)).length = 2 := by rw [← size_of_list, ← HX.out]; exact hsz.out
              refine ⟨pos + 2, r, acc ++ Lib.encodeRune (P.foldR r), hr1, by go_num, ?_, hbw.grown hgrow' hbw.size (fun k hk => (hown.lt k hk).1), ?_, ?_, HF.out.2.2.1⟩
              · rw [Lib.byteCells_append, List.length_append, ← hstr, hlen]; exact hown'
              · exact Lib.hid (by rw [List.append_assoc, ← HF.out.2.1, HF.out.1])
              · rw [List.length_append, hlen]; omega
            case measure => simp [intOf]; omega
    · obtain rfl : pos = s.size := by omega
      have hcv := run_own_string (Pr := Tryd.prog) 37 9 Tryd.underlying37 Tryd.underlying5 Tryd.underlying9 hown
      go_wp2_with fail
      go_ret2
      have hacc := hacc.out
      rw [foldL_end s s.size (by omega), List.append_nil] at hacc
      exact ⟨by rw [← hacc]; rfl, hbw⟩

set_option maxHeartbeats 4000000 in
set_option maxRecDepth 1000000 in
theorem rfold_no (s : ByteArray) (w : World) (hs : s.size ≤ 4000) (hn : P.name s.data.toList = false) :
    Calls Tryd.prog 15 #[.string s] w fun e w' => e = .returned (.tuple #[.string ByteArray.empty, .int .i64 10]) ∧ Below w.heap.size w w' := by
  go_enter Tryd.func15, Tryd.ntmps15
  go_wp2_with fail
  refine (rvalid_any s _ hs).mono ?_
  rw [hn]
  rintro e w1 ⟨rfl, rfl⟩
  clear hn
  go_wp2_with fail
  go_ret2
  exact ⟨rfl, Below.refl _ _⟩
end Go.Proofs.YtpeohgmceadmeaaDoor
