/- The document's own text of eight groups. -/
import Derived.Test.YtbejnnkdgcelmaaGreatDoorRefR
set_option linter.unusedSimpArgs false
set_option linter.unusedVariables false
namespace Go.Proofs.YtbejnnkdgcelmaaGreatDoor
open Go.RowKit

/-- How a run of noughts stands to what is left out: the places F to T, or nothing. -/
theorem P.run_cut (L : List Nat) (h : L.length = 8) : ∃ (F T : Nat) (a : Int) (m : Nat), (P.runR L 0 (-1) 1).1 = a ∧ (P.runR L 0 (-1) 1).2 = m ∧ P.sixS L F T 8 = P.tell6 L ∧ F ≤ 8 ∧ T ≤ 8 ∧ m ≤ 8 ∧ 1 ≤ m ∧ (a = -1 ∧ F = 8 ∧ T = 0 ∨ a = F ∧ F < T ∧ T = F + m) := by
  have hle := P.runP_le L
  rw [P.run_same L h]
  by_cases he : (P.runP L).1 = (P.runP L).2
  · rw [if_pos he]
    exact ⟨8, 0, -1, 1, rfl, rfl, P.sixS_none L h he, by omega, by omega, by omega, by omega, Or.inl ⟨rfl, rfl, rfl⟩⟩
  · rw [if_neg he]
    exact ⟨(P.runP L).1, (P.runP L).2, _, _, rfl, rfl, P.sixS_some L h he, by omega, by omega, by omega, by omega, Or.inr ⟨rfl, by omega, by omega⟩⟩

theorem P.sixA_cases (s : List UInt8) (g : Nat) : (s = [] ∧ P.sixA s g = P.hexD g) ∨ (∃ x, s = x ++ [58] ∧ P.sixA s g = P.hexD g) ∨ (∃ x b, s = x ++ [b] ∧ b ≠ 58 ∧ P.sixA s g = 58 :: P.hexD g) := by
  by_cases h0 : s = []
  · exact Or.inl ⟨h0, by rw [P.sixA, if_pos (Or.inl h0)]⟩
  · have e : s = s.dropLast ++ [s.getLast h0] := (List.dropLast_concat_getLast h0).symm
    by_cases h1 : s.getLast h0 = 58
    · refine Or.inr (Or.inl ⟨s.dropLast, by rw [← h1]; exact e, ?_⟩)
      rw [P.sixA, if_pos (Or.inr (by rw [List.getLast?_eq_some_getLast h0, h1]))]
    · refine Or.inr (Or.inr ⟨s.dropLast, s.getLast h0, e, h1, ?_⟩)
      rw [P.sixA, if_neg]
      rintro (h | h)
      · exact h0 h
      · rw [List.getLast?_eq_some_getLast h0] at h; exact h1 (Option.some.inj h)

theorem last_byte (x : List UInt8) (b : UInt8) (h : x.length < (⟨(x ++ [b]).toArray⟩ : ByteArray).size) : (⟨(x ++ [b]).toArray⟩ : ByteArray)[x.length] = b := by
  show (x ++ [b]).toArray[x.length]'_ = b
  simp

set_option maxHeartbeats 8000000 in
set_option maxRecDepth 1000000 in
theorem six_any (x0 x1 x2 x3 x4 x5 x6 x7 : Nat) (w : World) (hle : ∀ g ∈ [x0, x1, x2, x3, x4, x5, x6, x7], g ≤ 65535) :
    Calls Tryz.prog 25 #[.agg #[.int .u16 x0, .int .u16 x1, .int .u16 x2, .int .u16 x3, .int .u16 x4, .int .u16 x5, .int .u16 x6, .int .u16 x7]] w fun e w' =>
      e = .returned (.string ⟨(P.tell6 [x0, x1, x2, x3, x4, x5, x6, x7]).toArray⟩) ∧ Below w.heap.size w w' := by
  have hGS := gsAt_new x0 x1 x2 x3 x4 x5 x6 x7 w
  have hG8 := g8_new x0 x1 x2 x3 x4 x5 x6 x7 w 24
  have hB0 : Below w.heap.size w (w.alloc (Obj.cells #[.int .u16 (x0 : Int), .int .u16 (x1 : Int), .int .u16 (x2 : Int), .int .u16 (x3 : Int), .int .u16 (x4 : Int), .int .u16 (x5 : Int), .int .u16 (x6 : Int), .int .u16 (x7 : Int)] 24)) := (Below.refl _ w).alloc (Nat.le_refl _) _
  have HL := Lib.hid (show [x0, x1, x2, x3, x4, x5, x6, x7].length = 8 from rfl)
  have HRun := Lib.hid (run_any x0 x1 x2 x3 x4 x5 x6 x7)
  obtain ⟨L, hL⟩ : ∃ L, [x0, x1, x2, x3, x4, x5, x6, x7] = L := ⟨_, rfl⟩
  rw [hL] at hGS HL HRun hle ⊢
  clear hL
  have HGS := Lib.hid hGS
  have HG8 := Lib.hid hG8
  have HB0 := Lib.hid hB0
  have HLE := Lib.hid hle
  obtain ⟨F, T, a, m, hra, hrm, hend, hF, hT, hm8, hm1, hcut⟩ := P.run_cut L HL.out
  rw [hra, hrm] at HRun
  have HEnd := Lib.hid hend
  have hs1 : (w.alloc (Obj.cells #[.int .u16 (x0 : Int), .int .u16 (x1 : Int), .int .u16 (x2 : Int), .int .u16 (x3 : Int), .int .u16 (x4 : Int), .int .u16 (x5 : Int), .int .u16 (x6 : Int), .int .u16 (x7 : Int)] 24)).heap.size = w.heap.size + 1 := by simp
  have ha1 : -1 ≤ a := by omega
  have ha8 : a ≤ 8 := by omega
  have HCut := Lib.hid hcut
  clear hGS hG8 hB0 hle hra hrm hend hcut
  go_enter Tryz.func25, Tryz.ntmps25
  go_wp2_with fail
  generalize hW : w.alloc (Obj.cells #[.int .u16 (x0 : Int), .int .u16 (x1 : Int), .int .u16 (x2 : Int), .int .u16 (x3 : Int), .int .u16 (x4 : Int), .int .u16 (x5 : Int), .int .u16 (x6 : Int), .int .u16 (x7 : Int)] 24) = W1 at *
  clear hW
  with_reducible refine (HRun.out W1).mono ?_
  rintro e w2 ⟨rfl, hb2⟩
  have hs2 := hb2.size
  have HB2 := Lib.hid (HB0.out.trans (hb2.mono (by omega)))
  have HGS2 := Lib.hid (GsAt.below HGS.out hb2 (by omega))
  have HD := Lib.hid digits16
  have hlt : w.heap.size < w2.heap.size := by omega
  clear HG8 hb2 HRun HGS HB0 hs1 hs2
  go_wp2_with fail
  go_loopw [5, 6] (fun u5 u6 wr => ∃ (i : Nat) (S : ByteArray), u6 = .int .i64 i ∧ u5 = .string S ∧ i ≤ 8 ∧ Below w2.heap.size w2 wr ∧ Hid (i ≤ F ∨ (F < T ∧ T ≤ i)) ∧ S.size ≤ 82 ∧ Hid (S = ⟨(P.sixS L F T i).toArray⟩)) (fun _ u6 _ => 8 - (intOf u6).toNat)
  case atStart => exact ⟨0, ⟨#[]⟩, rfl, rfl, by omega, Below.refl _ _, Lib.hid (Or.inl (by omega)), by decide, Lib.hid (by rw [P.sixS_zero])⟩
  case round =>
    obtain ⟨i, S, rfl, rfl, hi, hbw, hP, hS, hSe⟩ := hrel
    by_cases h8 : i < 8
    · by_cases hia : (i : Int) = a
      · obtain ⟨rfl, hFT, hTm⟩ : F = i ∧ F < T ∧ T = F + m := by
          rcases HCut.out with ⟨h, h1, h2⟩ | ⟨h, h1, h2⟩
          · omega
          · exact ⟨by omega, h1, h2⟩
        obtain rfl : a = (F : Int) := hia.symm
        have HT := Lib.hid hTm
        have HFT := Lib.hid hFT
        clear hTm hia HCut
        go_wp2_with fail
        go_roundw
        case rel => exact ⟨T, S ++ ⟨#[58, 58]⟩, congrArg (Value.int .i64) (by have := HT.out; omega), rfl, hT, hbw, Lib.hid (Or.inr ⟨hFT, Nat.le_refl _⟩), by
          have e : S ++ ⟨#[58, 58]⟩ = ⟨(P.sixS L F T T).toArray⟩ := by rw [hSe.out, P.sixS_jump L F T hFT]; exact str_app _ [58, 58]
          rw [e, size_of_list]; exact P.sixS_len L F T T HL.out, Lib.hid (by rw [hSe.out, P.sixS_jump L F T hFT]; exact str_app _ [58, 58])⟩
        case measure => simp [intOf]; have := HT.out; omega
      · have hP2 : i < F ∨ (F < T ∧ T ≤ i) := by rcases HCut.out with ⟨h, h1, h2⟩ | ⟨h, h1, h2⟩ <;> rcases hP.out with k | k <;> omega
        obtain ⟨g, hg⟩ : ∃ g, L[i]? = some g := ⟨_, List.getElem?_eq_getElem (by rw [HL.out]; omega)⟩
        have hcg := (GsAt.below HGS2.out hbw hlt) i g hg
        rw [Nat.zero_add] at hcg
        have hg16 := HLE.out g (List.mem_of_getElem? hg)
        have hstep := P.sixS_step L F T i g hP2 hg
        have hia2 : (((i : Nat) : Int) == a) = false := by simp [hia]
        have HP3 := Lib.hid (show i + 1 ≤ F ∨ (F < T ∧ T ≤ i + 1) by omega)
        have hl2 := P.sixS_len L F T (i + 1) HL.out
        have HDg := Lib.hid (digits16 g)
        have hDs : (⟨(P.hexD g).toArray⟩ : ByteArray).size ≤ 4 := by rw [size_of_list]; exact (P.hexD_len g).2
        have hs0 : (⟨#[]⟩ : ByteArray).size = 0 := rfl
        rcases P.sixA_cases (P.sixS L F T i) g with ⟨h1, h2⟩ | ⟨x, h1, h2⟩ | ⟨x, b, h1, hb, h2⟩
        · rw [h2, h1] at hstep
          have HSt := Lib.hid (show P.sixS L F T (i + 1) = P.hexD g from hstep)
          obtain rfl : S = ⟨#[]⟩ := by rw [hSe.out, h1]
          clear hSe h1 h2 hstep hg hia hP2
          have HEQ := Lib.hid (show (⟨#[]⟩ : ByteArray) ++ ⟨(P.hexD g).toArray⟩ = ⟨(P.sixS L F T (i + 1)).toArray⟩ by rw [HSt.out]; exact str_app [] _)
          go_wp2_with fail
          with_reducible refine (HDg.out wr hg16).mono ?_
          rintro e w3 ⟨rfl, hb3⟩
          go_wp2_with fail
          go_roundw
          case rel => exact ⟨i + 1, _, by go_num, rfl, by omega, hbw.trans (hb3.mono hbw.size), HP3, by rw [HEQ.out, size_of_list]; exact hl2, Lib.hid (by exact HEQ.out)⟩
          case measure => simp [intOf]; omega
        · rw [h2, h1] at hstep
          have HSt := Lib.hid hstep
          have hSx := hSe.out
          rw [h1] at hSx
          have hsz : S.size = x.length + 1 := by rw [hSx, size_of_list]; simp
          have he1 : S.toList.isEmpty = false := by rw [ByteArray.toList_eq, hSx]; simp
          have he2 : (x ++ [(58 : UInt8)]).isEmpty = false := by cases x <;> rfl
          have HEQ := Lib.hid (show S ++ ⟨(P.hexD g).toArray⟩ = ⟨(P.sixS L F T (i + 1)).toArray⟩ by rw [HSt.out, hSx]; exact str_app _ _)
          clear hSe h1 h2 hstep hg hia hP2
          subst hSx
          have hq : (((⟨(x ++ [58]).toArray⟩ : ByteArray)[x.length]'(by rw [hsz]; omega)).toNat : Int) = 58 := by rw [last_byte]; rfl
          go_wp2_with fail
          with_reducible refine (HDg.out wr hg16).mono ?_
          rintro e w3 ⟨rfl, hb3⟩
          go_wp2_with fail
          go_roundw
          case rel => exact ⟨i + 1, _, by go_num, rfl, by omega, hbw.trans (hb3.mono hbw.size), HP3, by rw [HEQ.out, size_of_list]; exact hl2, Lib.hid (by exact HEQ.out)⟩
          case measure => simp [intOf]; omega
        · rw [h2, h1] at hstep
          have HSt := Lib.hid hstep
          have hSx := hSe.out
          rw [h1] at hSx
          have hsz : S.size = x.length + 1 := by rw [hSx, size_of_list]; simp
          have he1 : S.toList.isEmpty = false := by rw [ByteArray.toList_eq, hSx]; simp
          have he2 : (x ++ [b]).isEmpty = false := by cases x <;> rfl
          have HEQ := Lib.hid (show S ++ ⟨#[58]⟩ ++ ⟨(P.hexD g).toArray⟩ = ⟨(P.sixS L F T (i + 1)).toArray⟩ by
            rw [HSt.out, hSx, show (⟨#[58]⟩ : ByteArray) = ⟨([58] : List UInt8).toArray⟩ from rfl, str_app, str_app]; simp)
          have hbn : (((b.toNat : Nat) : Int) != 58) = true := by
            have : b.toNat ≠ 58 := fun e => hb (UInt8.toNat_inj.1 (by simpa using e))
            simp; omega
          have hs58 : (⟨#[58]⟩ : ByteArray).size = 1 := rfl
          clear hSe h1 h2 hstep hg hia hP2 hb
          have hs3 : (S ++ ⟨#[58]⟩).size ≤ 83 := by rw [ByteArray.size_append, hs58]; omega
          subst hSx
          have hq : (((⟨(x ++ [b]).toArray⟩ : ByteArray)[x.length]'(by rw [hsz]; omega)).toNat : Int) = b.toNat := by rw [last_byte]
          go_wp2_with fail
          with_reducible refine (HDg.out wr hg16).mono ?_
          rintro e w3 ⟨rfl, hb3⟩
          go_wp2_with fail
          go_roundw
          case rel => exact ⟨i + 1, _, by go_num, rfl, by omega, hbw.trans (hb3.mono hbw.size), HP3, by rw [HEQ.out, size_of_list]; exact hl2, Lib.hid (by exact HEQ.out)⟩
          case measure => simp [intOf]; omega
    · obtain rfl : i = 8 := by omega
      have HSt := Lib.hid (show S = ⟨(P.tell6 L).toArray⟩ by rw [hSe.out, HEnd.out])
      clear hSe
      go_wp2_with fail
      go_ret
      exact ⟨by rw [HSt.out]; rfl, HB2.out.trans (hbw.mono HB2.out.size)⟩
end Go.Proofs.YtbejnnkdgcelmaaGreatDoor
