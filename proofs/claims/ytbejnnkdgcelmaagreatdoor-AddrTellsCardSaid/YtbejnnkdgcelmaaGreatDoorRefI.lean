/- The document's own eight groups, read. -/
import Derived.Test.YtbejnnkdgcelmaaGreatDoorRefG
set_option linter.unusedSimpArgs false
set_option linter.unusedVariables false
namespace Go.Proofs.YtbejnnkdgcelmaaGreatDoor
open Go.RowKit

theorem P.idx_yes (r : List UInt8) : Lib.index (58 :: 58 :: r) [58, 58] = 0 := by simp [Lib.index, List.isPrefixOf]
theorem P.idx_no (a b : UInt8) (r : List UInt8) (h : ¬ (a = 58 ∧ b = 58)) : Lib.index (a :: b :: r) [58, 58] = P.sh 1 (Lib.index (b :: r) [58, 58]) := by
  have hp : List.isPrefixOf [58, 58] (a :: b :: r) = false := by
    simp only [List.isPrefixOf, Bool.and_true]
    by_cases h1 : a = 58
    · have h2 : b ≠ 58 := fun e => h ⟨h1, e⟩
      simp [Ne.symm h2]
    · simp [Ne.symm h1]
  rw [Lib.index, hp, P.sh]
  by_cases h3 : Lib.index (b :: r) [58, 58] = -1
  · rw [h3]; rfl
  · rw [if_neg h3]; simp [h3]; omega
theorem P.idx_short (l : List UInt8) (h : l.length ≤ 1) : Lib.index l [58, 58] = -1 := by
  match l, h with
  | [], _ => rfl
  | [a], _ => simp [Lib.index, List.isPrefixOf]
theorem P.idx_ge : ∀ l : List UInt8, -1 ≤ Lib.index l [58, 58] ∧ Lib.index l [58, 58] ≤ l.length
  | [] => by simp [Lib.index]
  | a :: l => by
    have := P.idx_ge l
    unfold Lib.index
    split
    · simp; omega
    · split
      · simp; omega
      · simp; omega

theorem P.grpsR_len (l : List UInt8) (gs : List Nat) (h : P.grpsR l = some gs) : gs.length ≤ l.length + 1 := by
  unfold P.grpsR at h
  split at h
  · cases h; simp
  · rw [(P.grpsF_len _ _ h).1]; exact (P.cutP_len 58 l).2
theorem ext_size (s : ByteArray) (f k : Nat) : (s.extract f k).size ≤ s.size := by
  rw [ext_eq, size_of_list, List.length_drop, List.length_take, list_size]; omega
def P.sixA1 : Option (List Nat) → Option (List Nat)
  | some A => P.sixG A [] false
  | none => none
def P.sixA2 : Option (List Nat) → Option (List Nat) → Option (List Nat)
  | some A, some B => P.sixG A B true
  | _, _ => none
theorem P.sixR_one (l : List UInt8) (h : Lib.index l [58, 58] = -1) : P.sixR l = P.sixA1 (P.grpsR l) := by
  have hcut : Lib.cut l [58, 58] = (l, [], false) := by rw [Lib.cut, if_neg (by rw [h]; decide)]
  have h0 : P.grpsR [] = some [] := rfl
  rw [P.sixR, hcut]
  simp only [h0]
  cases P.grpsR l <;> rfl
theorem P.sixR_two (l : List UInt8) (n : Nat) (h : Lib.index l [58, 58] = n) : P.sixR l = P.sixA2 (P.grpsR (l.take n)) (P.grpsR (l.drop (n + 2))) := by
  have hcut : Lib.cut l [58, 58] = (l.take n, l.drop (n + 2), true) := by rw [Lib.cut, if_pos (by rw [h]; omega), h]; rfl
  rw [P.sixR, hcut]
  cases P.grpsR (l.take n) <;> cases P.grpsR (l.drop (n + 2)) <;> rfl
theorem splice_eight (A : List Nat) (h : A.length = 8) : splice (P.u16s P.zeros8) 0 (P.u16s A) = P.u16s A := by
  unfold splice
  rw [List.take_zero, List.nil_append, List.drop_eq_nil_of_le (by simp only [u16s_len, h]; decide), List.append_nil]

theorem G8.block' {w w' : World} {b : Nat} {g0 g1 g2 g3 g4 g5 g6 g7 : Int} (h : G8 w b g0 g1 g2 g3 g4 g5 g6 g7) (hb : w'.heap[b]? = w.heap[b]?) : G8 w' b g0 g1 g2 g3 g4 g5 g6 g7 := by
  have hc : ∀ j, w'.cell? ⟨b, j, none⟩ = w.cell? ⟨b, j, none⟩ := fun j => by simp [World.cell?, hb]
  have hf : ∀ j, w'.frozen? ⟨b, j, none⟩ = w.frozen? ⟨b, j, none⟩ := fun j => by simp [World.frozen?, hb]
  obtain ⟨c0, c1, c2, c3, c4, c5, c6, c7, fz⟩ := h
  exact ⟨(hc _).trans c0, (hc _).trans c1, (hc _).trans c2, (hc _).trans c3, (hc _).trans c4, (hc _).trans c5, (hc _).trans c6, (hc _).trans c7, fun j => (hf j).trans (fz j)⟩
def IdxR (l : List UInt8) (i : Nat) (a : Int) : Prop := (a = -1 ∧ Lib.index l [58, 58] = P.sh i (Lib.index (l.drop i) [58, 58])) ∨ (0 ≤ a ∧ Lib.index l [58, 58] = a ∧ a + 2 ≤ l.length)

set_option maxHeartbeats 8000000 in
set_option maxRecDepth 1000000 in
theorem inner_any (s : ByteArray) (w : World) (hs : s.size ≤ 4000) :
    Calls Tryz.prog 30 #[.string s] w fun e w' => e = .returned (.tuple #[.agg (P.u16s ((P.sixP s.data.toList).getD P.zeros8)).toArray, .bool (P.sixP s.data.toList).isSome]) ∧ Below w.heap.size w w' := by
  rw [← P.sixR_eq]
  have hbw0 : Below w.heap.size w ((w.alloc (Obj.cells #[.int .u16 0, .int .u16 0, .int .u16 0, .int .u16 0, .int .u16 0, .int .u16 0, .int .u16 0, .int .u16 0] 24)).alloc (Obj.cells #[.int .u16 0, .int .u16 0, .int .u16 0, .int .u16 0, .int .u16 0, .int .u16 0, .int .u16 0, .int .u16 0] 24)) := ((Below.refl _ w).alloc (Nat.le_refl _) _).alloc (by simp) _
  have hHr : ((w.alloc (Obj.cells #[.int .u16 0, .int .u16 0, .int .u16 0, .int .u16 0, .int .u16 0, .int .u16 0, .int .u16 0, .int .u16 0] 24)).alloc (Obj.cells #[.int .u16 0, .int .u16 0, .int .u16 0, .int .u16 0, .int .u16 0, .int .u16 0, .int .u16 0, .int .u16 0] 24)).heap[w.heap.size]? = some (.cells (P.u16s P.zeros8).toArray 24 (0, 0)) := by
    simp only [World.alloc, Array.getElem?_push, Array.size_push]
    rw [if_neg (by omega)]
    simp only [if_true]
    rfl
  have hH : ((w.alloc (Obj.cells #[.int .u16 0, .int .u16 0, .int .u16 0, .int .u16 0, .int .u16 0, .int .u16 0, .int .u16 0, .int .u16 0] 24)).alloc (Obj.cells #[.int .u16 0, .int .u16 0, .int .u16 0, .int .u16 0, .int .u16 0, .int .u16 0, .int .u16 0, .int .u16 0] 24)).heap[w.heap.size + 1]? = some (.cells (P.u16s P.zeros8).toArray 24 (0, 0)) := by
    simp only [World.alloc, Array.getElem?_push, Array.size_push]
    simp only [if_true]
    rfl
  generalize hW : (w.alloc (Obj.cells #[.int .u16 0, .int .u16 0, .int .u16 0, .int .u16 0, .int .u16 0, .int .u16 0, .int .u16 0, .int .u16 0] 24)).alloc (Obj.cells #[.int .u16 0, .int .u16 0, .int .u16 0, .int .u16 0, .int .u16 0, .int .u16 0, .int .u16 0, .int .u16 0] 24) = W0 at *
  have hWs : W0.heap.size = w.heap.size + 2 := by rw [← hW]; simp
  have HL := Lib.hid (list_size s)
  have hix := P.idx_ge s.data.toList
  have HH := Lib.hid hH
  have HHr := Lib.hid hHr
  have HW := Lib.hid hW
  have HB0 := Lib.hid hbw0
  clear hH hHr hW hbw0
  have fin : ∀ (W : World) (y0 y1 y2 y3 y4 y5 y6 y7 : Nat) (o : Option (List Nat)), P.sixR s.data.toList = o → o.getD P.zeros8 = [y0, y1, y2, y3, y4, y5, y6, y7] → Below w.heap.size w W → G8 W w.heap.size 0 0 0 0 0 0 0 0 →
      ∀ act : Act, act.tmps.getD 2 undef = .pointer (some ⟨w.heap.size, 0, none⟩) → act.tmps.getD 3 undef = .bool o.isSome → act.defers = [] →
      bodyPost Tryz.prog Tryz.f30 (fun e w' => e = .returned (.tuple #[.agg (P.u16s ((P.sixR s.data.toList).getD P.zeros8)).toArray, .bool (P.sixR s.data.toList).isSome]) ∧ Below w.heap.size w w') Exit.ret act (set8 W w.heap.size y0 y1 y2 y3 y4 y5 y6 y7) := by
    intro W y0 y1 y2 y3 y4 y5 y6 y7 o ho hy hbW hG act h2 h3 h4
    have hGf := hG.set8 y0 y1 y2 y3 y4 y5 y6 y7
    have hbf := set8_below hbW (Nat.le_refl _) y0 y1 y2 y3 y4 y5 y6 y7
    generalize set8 W w.heap.size y0 y1 y2 y3 y4 y5 y6 y7 = Wf at *
    refine bodyPost_ret (res_cell_tmp rfl _ _ _ w.heap.size h2 _ (loadVar_groups hGf)) h4 ?_
    exact ⟨by rw [ho, hy, h3]; rfl, hbf⟩
  have HFin := Lib.hid fin
  clear fin
  have hi16 : (Tryz.prog.info? 23).map (·.size) = some 1 := by kernel_rfl
  go_enter Tryz.func30, Tryz.ntmps30
  go_wp2_with fail
  rw [HW.out]
  go_loop [5, 6] (fun u5 u6 => ∃ (i : Nat) (a : Int), u6 = .int .i64 i ∧ u5 = .int .i64 a ∧ -1 ≤ a ∧ a ≤ 4000 ∧ i ≤ s.size ∧ Hid (IdxR s.data.toList i a)) (fun _ u6 => s.size - (intOf u6).toNat)
  case atStart => exact ⟨0, -1, rfl, rfl, by omega, by omega, by omega, Lib.hid (Or.inl ⟨rfl, by rw [List.drop_zero, P.sh]; split <;> omega⟩)⟩
  case round =>
    obtain ⟨i, a, rfl, rfl, ha1, ha4, hi, hI⟩ := hrel
    by_cases hgo : i + 1 < s.size ∧ a < 0
    · obtain ⟨hi1, ha0⟩ := hgo
      obtain rfl : a = -1 := by omega
      have hI2 : Lib.index s.data.toList [58, 58] = P.sh i (Lib.index (s.data.toList.drop i) [58, 58]) := by
        rcases hI.out with ⟨_, h⟩ | ⟨h, _⟩
        · exact h
        · omega
      rw [get_drop s i (by omega), get_drop s (i + 1) hi1] at hI2
      have hi0 : i < s.size := by omega
      by_cases h1 : s[i]'hi0 = 58
      · by_cases h2 : s[i + 1]'hi1 = 58
        · have hb1 : ((((s[i]'hi0).toNat : Nat) : Int) == 58) = true := by rw [h1]; rfl
          have hb2 : ((((s[i + 1]'hi1).toNat : Nat) : Int) == 58) = true := by rw [h2]; rfl
          rw [h1, h2, P.idx_yes] at hI2
          have HI := Lib.hid (show IdxR s.data.toList (i + 1) i from Or.inr ⟨by omega, by rw [hI2, P.sh, if_neg (by omega)]; omega, by rw [HL.out]; omega⟩)
          clear hI2 h1 h2 hI
          go_wp2_with fail
          go_round
          case rel => exact ⟨i + 1, i, by go_num, rfl, by omega, by omega, by omega, HI⟩
          case measure => simp [intOf]; omega
        · have hb1 : ((((s[i]'hi0).toNat : Nat) : Int) == 58) = true := by rw [h1]; rfl
          have hb2 : ((((s[i + 1]'hi1).toNat : Nat) : Int) == 58) = false := by
            have : (s[i + 1]'hi1).toNat ≠ 58 := fun e => h2 (UInt8.toNat_inj.1 (by simpa using e))
            simp; omega
          rw [P.idx_no _ _ _ (fun h => h2 h.2), ← get_drop s (i + 1) hi1, P.sh_sh i 1 _ (P.idx_ge _).1] at hI2
          have HI := Lib.hid (show IdxR s.data.toList (i + 1) (-1) from Or.inl ⟨rfl, hI2⟩)
          clear hI2 h1 h2 hI
          go_wp2_with fail
          go_round
          case rel => exact ⟨i + 1, -1, by go_num, rfl, by omega, by omega, by omega, HI⟩
          case measure => simp [intOf]; omega
      · have hb1 : ((((s[i]'hi0).toNat : Nat) : Int) == 58) = false := by
          have : (s[i]'hi0).toNat ≠ 58 := fun e => h1 (UInt8.toNat_inj.1 (by simpa using e))
          simp; omega
        rw [P.idx_no _ _ _ (fun h => h1 h.1), ← get_drop s (i + 1) hi1, P.sh_sh i 1 _ (P.idx_ge _).1] at hI2
        have HI := Lib.hid (show IdxR s.data.toList (i + 1) (-1) from Or.inl ⟨rfl, hI2⟩)
        clear hI2 h1 hI
        go_wp2_with fail
        go_round
        case rel => exact ⟨i + 1, -1, by go_num, rfl, by omega, by omega, by omega, HI⟩
        case measure => simp [intOf]; omega
    · by_cases ha0 : a < 0
      · obtain rfl : a = -1 := by omega
        have hi1 : ¬ i + 1 < s.size := fun h => hgo ⟨h, ha0⟩
        have HI := Lib.hid (show Lib.index s.data.toList [58, 58] = -1 by
          rcases hI.out with ⟨_, h⟩ | ⟨h, _⟩
          · rw [h, P.idx_short _ (by rw [List.length_drop, HL.out]; omega)]; rfl
          · omega)
        clear hI hgo
        go_wp2_with fail
        have hP := P.sixR_one s.data.toList HI.out
        obtain ⟨o1, ho1⟩ : ∃ o, P.grpsR s.data.toList = o := ⟨_, rfl⟩
        rw [ho1] at hP
        have HP := Lib.hid hP
        have L1 := Lib.hid (P.grpsR_len s.data.toList)
        have HG := Lib.hid (groups_any s W0 hs)
        rw [ho1] at HG L1
        clear hP ho1 HI hix
        with_reducible refine HG.out.mono ?_
        rintro e w1 ⟨v1, rfl, hv1, hb1⟩
        have HB1 := Lib.hid (HB0.out.trans (hb1.mono (by omega)))
        have HGg := Lib.hid (g8_heap 0 0 0 0 0 0 0 0 (show w1.heap[w.heap.size + 1]? = some (.cells (P.u16s P.zeros8).toArray 24 (0, 0)) by rw [hb1.block _ (by omega)]; exact HH.out))
        have HGr := Lib.hid (g8_heap 0 0 0 0 0 0 0 0 (show w1.heap[w.heap.size]? = some (.cells (P.u16s P.zeros8).toArray 24 (0, 0)) by rw [hb1.block _ (by omega)]; exact HHr.out))
        have HX1 := Lib.hid (show w1.heap[w.heap.size + 1]? = some (.cells (P.u16s P.zeros8).toArray 24 (0, 0)) by rw [hb1.block _ (by omega)]; exact HH.out)
        have hs1 := hb1.size
        have HO1 := Lib.hid hv1
        clear hb1 hv1 HH HHr HW HG
        obtain ⟨c0, c1, c2, c3, c4, c5, c6, c7, fz⟩ := HGr.out
        obtain ⟨d0, d1, d2, d3, d4, d5, d6, d7, dz⟩ := HGg.out
        cases o1 with
        | none =>
          have HN := Lib.hid (HFin.out w1 0 0 0 0 0 0 0 0 none (by rw [HP.out]; rfl) rfl HB1.out HGr.out)
          simp only [Option.isSome_none]
          go_wp2_with fail
          exact HN.out _ rfl rfl rfl
        | some A =>
          simp only [Option.getD_some] at HO1
          have hAl := L1.out A rfl
          rw [HL.out] at hAl
          obtain ⟨a1, k1, rfl⟩ := row_form HO1.out
          simp only [Option.isSome_some]
          by_cases h8 : A.length = 8
          · have HN := Lib.hid (show P.sixR s.data.toList = some A by
              rw [HP.out]; show P.sixG A [] false = _
              rw [P.sixG, if_neg (by simp [h8]), h8]; simp)
            have hp1 : 0 < (P.u16s A).length → (some (⟨w.heap.size + 1, 0, none⟩ : Addr)) = some ⟨w.heap.size + 1, 0, none⟩ ∧ ∃ ad, a1 = some ad ∧ ∀ (j : Nat) (v : Value), (P.u16s A)[j]? = some v → w1.cell? (ad.add j) = some v := by
              intro h
              rw [u16s_len] at h
              obtain ⟨g, cap, he, hb, hg, hc, hcell⟩ := row_cell HO1.out h
              obtain ⟨rfl, rfl⟩ : a1 = some ⟨g, 0, none⟩ ∧ k1 = cap := by injection he with h1 h2 h3; exact ⟨h1, h3⟩
              exact ⟨rfl, _, rfl, fun j v hv => HO1.out.cells rfl j v hv⟩
            have H1 := (show ∀ v ∈ P.u16s A, v.oneCell' = true by intro v hv; simp only [P.u16s, List.mem_map] at hv; obtain ⟨x, _, rfl⟩ := hv; rfl)
            obtain ⟨w4, hcp1, hh4, hb4, hk4⟩ := copy_run (Pr := Tryz.prog) 62 62 3 23 Tryz.underlying62 hi16 (some ⟨w.heap.size + 1, 0, none⟩) a1 8 8 A.length k1 (w.heap.size + 1) 0 (P.u16s P.zeros8) 24 HX1.out (P.u16s A) (by rw [u16s_len]; show A.length = min A.length 8; omega) hp1 (by rw [u16s_len]; show 0 + A.length ≤ 8; omega) H1 w.heap.size w HB1.out (by omega)
            rw [splice_eight A h8] at hh4
            rw [u16s_len] at hcp1
            obtain ⟨y0, y1, y2, y3, y4, y5, y6, y7, hY⟩ := list8 A h8
            rw [hY] at hh4
            have HGg4 := Lib.hid (g8_heap y0 y1 y2 y3 y4 y5 y6 y7 hh4)
            have HGr4 := Lib.hid (G8.block' HGr.out (hk4 w.heap.size (by omega)))
            have HF := Lib.hid (HFin.out w4 y0 y1 y2 y3 y4 y5 y6 y7 (some A) HN.out (by rw [hY]; rfl) hb4 HGr4.out)
            have hlb : (((A.length : Nat) : Int) != 8) = false := by rw [h8]; rfl
            clear hh4 hb4 hk4 hY hp1 H1 h8 c0 c1 c2 c3 c4 c5 c6 c7 fz d0 d1 d2 d3 d4 d5 d6 d7 dz HN L1 HO1
            obtain ⟨c0, c1, c2, c3, c4, c5, c6, c7, fz⟩ := HGr4.out
            obtain ⟨d0, d1, d2, d3, d4, d5, d6, d7, dz⟩ := HGg4.out
            go_wp2_with fail
            change bodyPost _ _ _ _ _ (set8 w4 w.heap.size y0 y1 y2 y3 y4 y5 y6 y7)
            refine HF.out _ ?_ ?_ ?_ <;> rfl
          · have HN := Lib.hid (HFin.out w1 0 0 0 0 0 0 0 0 none (by rw [HP.out]; show P.sixG A [] false = none; rw [P.sixG, if_pos]; right; exact ⟨rfl, by simp; omega⟩) rfl HB1.out HGr.out)
            have hlb : (((A.length : Nat) : Int) != 8) = true := by simp; omega
            clear L1 HO1 HP h8
            go_wp2_with fail
            exact HN.out _ rfl rfl rfl
      · obtain ⟨n, rfl⟩ : ∃ n : Nat, a = n := ⟨a.toNat, by omega⟩
        have HI := Lib.hid (show Lib.index s.data.toList [58, 58] = n ∧ n + 2 ≤ s.size by
          rcases hI.out with ⟨h, _⟩ | ⟨_, h⟩
          · omega
          · exact ⟨h.1, by have := h.2; rw [HL.out] at this; omega⟩)
        have hn2 := HI.out.2
        clear hI hgo
        have hP := P.sixR_two s.data.toList n HI.out.1
        have R1 := fun W => groups_any (s.extract 0 n) W (Nat.le_trans (ext_size s 0 n) hs)
        have R2 := fun W => groups_any (s.extract (n + 2) s.size) W (Nat.le_trans (ext_size s (n + 2) s.size) hs)
        rw [show (s.extract 0 n).data.toList = s.data.toList.take n by rw [ext_eq]; simp] at R1
        rw [show (s.extract (n + 2) s.size).data.toList = s.data.toList.drop (n + 2) by rw [ext_eq, List.take_of_length_le (by rw [HL.out]; omega)]] at R2
        have L1 := P.grpsR_len (s.data.toList.take n)
        have L2 := P.grpsR_len (s.data.toList.drop (n + 2))
        rw [List.length_take, HL.out] at L1
        rw [List.length_drop, HL.out] at L2
        obtain ⟨o1, ho1⟩ : ∃ o, P.grpsR (s.data.toList.take n) = o := ⟨_, rfl⟩
        obtain ⟨o2, ho2⟩ : ∃ o, P.grpsR (s.data.toList.drop (n + 2)) = o := ⟨_, rfl⟩
        rw [ho1] at hP R1 L1
        rw [ho2] at hP R2 L2
        have HP := Lib.hid hP
        have HR1 := Lib.hid R1
        have HR2 := Lib.hid R2
        have HL1 := Lib.hid L1
        have HL2 := Lib.hid L2
        clear hP ho1 ho2 HI hix R1 R2 L1 L2
        rcases (show i + 1 < s.size ∨ ¬ i + 1 < s.size by omega) with hi1 | hi1
        all_goals
          go_wp2_with fail
          with_reducible refine (HR1.out W0).mono ?_
          rintro e w1 ⟨v1, rfl, hv1, hb1⟩
          have hs1 := hb1.size
          have HB1 := Lib.hid hb1
          have HV1 := Lib.hid hv1
          clear hb1 hv1
          go_wp2_with fail
          with_reducible refine (HR2.out w1).mono ?_
          rintro e w2 ⟨v2, rfl, hv2, hb2⟩
          have hs2 := hb2.size
          have HO1 := Lib.hid (own_below' HV1.out hb2)
          have HO2 := Lib.hid hv2
          have HB2 := Lib.hid (HB1.out.trans (hb2.mono hs1))
          have HBw := Lib.hid (HB0.out.trans (HB2.out.mono (by omega)))
          have HGg := Lib.hid (g8_heap 0 0 0 0 0 0 0 0 (show w2.heap[w.heap.size + 1]? = some (.cells (P.u16s P.zeros8).toArray 24 (0, 0)) by rw [HB2.out.block _ (by omega)]; exact HH.out))
          have HGr := Lib.hid (g8_heap 0 0 0 0 0 0 0 0 (show w2.heap[w.heap.size]? = some (.cells (P.u16s P.zeros8).toArray 24 (0, 0)) by rw [HB2.out.block _ (by omega)]; exact HHr.out))
          have HX2 := Lib.hid (show w2.heap[w.heap.size + 1]? = some (.cells (P.u16s P.zeros8).toArray 24 (0, 0)) by rw [HB2.out.block _ (by omega)]; exact HH.out)
          clear hb2 hv2 HH HHr HW HR1 HR2 HV1 HB1
          obtain ⟨c0, c1, c2, c3, c4, c5, c6, c7, fz⟩ := HGr.out
          obtain ⟨d0, d1, d2, d3, d4, d5, d6, d7, dz⟩ := HGg.out
          cases o1 with
          | none =>
            have HN := Lib.hid (HFin.out w2 0 0 0 0 0 0 0 0 none (by rw [HP.out]; rfl) rfl HBw.out HGr.out)
            simp only [Option.isSome_none]
            go_wp2_with fail
            exact HN.out _ rfl rfl rfl
          | some A =>
            cases o2 with
            | none =>
              have HN := Lib.hid (HFin.out w2 0 0 0 0 0 0 0 0 none (by rw [HP.out]; rfl) rfl HBw.out HGr.out)
              simp only [Option.isSome_none, Option.isSome_some]
              go_wp2_with fail
              exact HN.out _ rfl rfl rfl
            | some B =>
              simp only [Option.getD_some] at HO1 HO2
              have hA9 := HL1.out A rfl
              have hB9 := HL2.out B rfl
              obtain ⟨a1, k1, rfl⟩ := row_form HO1.out
              obtain ⟨a2, k2, rfl⟩ := row_form HO2.out
              simp only [Option.isSome_some]
              clear HL1 HL2
              by_cases hbad : 8 ≤ A.length + B.length
              · have HN := Lib.hid (HFin.out w2 0 0 0 0 0 0 0 0 none (by rw [HP.out]; show P.sixG A B true = none; rw [P.sixG, if_pos (Or.inl ⟨rfl, hbad⟩)]) rfl HBw.out HGr.out)
                clear HP HO1 HO2
                go_wp2_with fail
                exact HN.out _ rfl rfl rfl
              · have HN := Lib.hid (show P.sixR s.data.toList = some (A ++ (List.replicate (8 - A.length - B.length) 0 ++ B)) by
                  rw [HP.out]; show P.sixG A B true = _
                  rw [P.sixG, if_neg]; rintro (⟨_, h⟩ | ⟨h, _⟩)
                  · exact hbad h
                  · cases h)
                have h8 : A.length + B.length ≤ 8 := by omega
                have HF := Lib.hid (splice_six A B h8)
                have hLl : (A ++ (List.replicate (8 - A.length - B.length) 0 ++ B)).length = 8 := by simp; omega
                obtain ⟨o2, hsl, ho2⟩ : ∃ o2, (∀ W, (Instr.sliceAt 24 (.pointer (some ⟨w.heap.size + 1, 0, none⟩)) (some (.int .i64 (8 - (B.length : Int)))) none none).run Tryz.prog W = .ok (.slice (some ⟨w.heap.size + 1, o2, none⟩) B.length B.length) W) ∧ (0 < B.length → o2 = 8 - B.length) := by
                  by_cases h0 : B.length = 0
                  · refine ⟨0, fun W => ?_, by omega⟩
                    rw [run_sliceAt_array_l W 24 ⟨w.heap.size + 1, 0, none⟩ (by kernel_rfl) .i64 (8 - (B.length : Int)) (by omega) (by rw [show Tryz.prog.arrayLen 24 = 8 from by kernel_rfl]; omega)]
                    rw [show Tryz.prog.arrayLen 24 = 8 from by kernel_rfl, show Tryz.prog.elem 24 = 23 from by kernel_rfl, h0]
                    go_simp
                  · refine ⟨8 - B.length, fun W => ?_, fun _ => rfl⟩
                    rw [run_sliceAt_array_l W 24 ⟨w.heap.size + 1, 0, none⟩ (by kernel_rfl) .i64 (8 - (B.length : Int)) (by omega) (by rw [show Tryz.prog.arrayLen 24 = 8 from by kernel_rfl]; omega)]
                    rw [show Tryz.prog.arrayLen 24 = 8 from by kernel_rfl, show Tryz.prog.elem 24 = 23 from by kernel_rfl]
                    go_simp
                    omega
                have hp1 : 0 < (P.u16s A).length → (some (⟨w.heap.size + 1, 0, none⟩ : Addr)) = some ⟨w.heap.size + 1, 0, none⟩ ∧ ∃ ad, a1 = some ad ∧ ∀ (j : Nat) (v : Value), (P.u16s A)[j]? = some v → w2.cell? (ad.add j) = some v := by
                  intro h
                  rw [u16s_len] at h
                  obtain ⟨g, cap, he, hb, hg, hc, hcell⟩ := row_cell HO1.out h
                  obtain ⟨rfl, rfl⟩ : a1 = some ⟨g, 0, none⟩ ∧ k1 = cap := by injection he with h1 h2 h3; exact ⟨h1, h3⟩
                  exact ⟨rfl, _, rfl, fun j v hv => HO1.out.cells rfl j v hv⟩
                have H1 := (show ∀ v ∈ P.u16s A, v.oneCell' = true by intro v hv; simp only [P.u16s, List.mem_map] at hv; obtain ⟨x, _, rfl⟩ := hv; rfl)
                have H2 := (show ∀ v ∈ P.u16s B, v.oneCell' = true by intro v hv; simp only [P.u16s, List.mem_map] at hv; obtain ⟨x, _, rfl⟩ := hv; rfl)
                obtain ⟨w4, hcp1, hh4, hb4, hk4⟩ := copy_run (Pr := Tryz.prog) 62 62 3 23 Tryz.underlying62 hi16 (some ⟨w.heap.size + 1, 0, none⟩) a1 8 8 A.length k1 (w.heap.size + 1) 0 (P.u16s P.zeros8) 24 HX2.out (P.u16s A) (by rw [u16s_len]; show A.length = min A.length 8; omega) hp1 (by rw [u16s_len]; show 0 + A.length ≤ 8; omega) H1 w.heap.size w HBw.out (by omega)
                have hO2 : w4.ownsRow w1.heap.size 23 1 (.slice a2 B.length k2) B.length (P.u16s B) := own_block HO2.out (fun k hk => hk4 k (by have := (HO2.out.lt k hk).1; omega))
                have hp2 : 0 < (P.u16s B).length → (some (⟨w.heap.size + 1, o2, none⟩ : Addr)) = some ⟨w.heap.size + 1, 8 - B.length, none⟩ ∧ ∃ ad, a2 = some ad ∧ ∀ (j : Nat) (v : Value), (P.u16s B)[j]? = some v → w4.cell? (ad.add j) = some v := by
                  intro h
                  rw [u16s_len] at h
                  obtain ⟨g, cap, he, hb, hg, hc, hcell⟩ := row_cell hO2 h
                  obtain ⟨rfl, rfl⟩ : a2 = some ⟨g, 0, none⟩ ∧ k2 = cap := by injection he with h1 h2 h3; exact ⟨h1, h3⟩
                  exact ⟨by rw [ho2 h], _, rfl, fun j v hv => hO2.cells rfl j v hv⟩
                have hsp : (splice (P.u16s P.zeros8) 0 (P.u16s A)).length = 8 := by rw [length_splice _ _ _ (by rw [u16s_len, u16s_len]; show 0 + A.length ≤ 8; omega), u16s_len]; rfl
                obtain ⟨w5, hcp2, hh5, hb5, hk5⟩ := copy_run (Pr := Tryz.prog) 62 62 3 23 Tryz.underlying62 hi16 (some ⟨w.heap.size + 1, o2, none⟩) a2 B.length B.length B.length k2 (w.heap.size + 1) (8 - B.length) (splice (P.u16s P.zeros8) 0 (P.u16s A)) 24 hh4 (P.u16s B) (by rw [u16s_len]; show B.length = min B.length B.length; omega) hp2 (by rw [hsp, u16s_len]; omega) H2 w.heap.size w hb4 (by omega)
                rw [HF.out] at hh5
                obtain ⟨y0, y1, y2, y3, y4, y5, y6, y7, hY⟩ := list8 _ hLl
                rw [hY] at hh5
                have HGg5 := Lib.hid (g8_heap y0 y1 y2 y3 y4 y5 y6 y7 hh5)
                have HGr5 := Lib.hid (G8.block' (G8.block' HGr.out (hk4 w.heap.size (by omega))) (hk5 w.heap.size (by omega)))
                have HFn := Lib.hid (HFin.out w5 y0 y1 y2 y3 y4 y5 y6 y7 _ HN.out (by rw [Option.getD_some, hY]) hb5 HGr5.out)
                rw [u16s_len] at hcp1 hcp2
                clear hh4 hb4 hk4 hh5 hb5 hk5 hY hp1 hp2 H1 H2 hsp hLl hO2 ho2 HF HN HP HO1 HO2 c0 c1 c2 c3 c4 c5 c6 c7 fz d0 d1 d2 d3 d4 d5 d6 d7 dz
                obtain ⟨c0, c1, c2, c3, c4, c5, c6, c7, fz⟩ := HGr5.out
                obtain ⟨d0, d1, d2, d3, d4, d5, d6, d7, dz⟩ := HGg5.out
                go_wp2_with fail
                change bodyPost _ _ _ _ _ (set8 w5 w.heap.size y0 y1 y2 y3 y4 y5 y6 y7)
                refine HFn.out _ ?_ ?_ ?_ <;> rfl
end Go.Proofs.YtbejnnkdgcelmaaGreatDoor
