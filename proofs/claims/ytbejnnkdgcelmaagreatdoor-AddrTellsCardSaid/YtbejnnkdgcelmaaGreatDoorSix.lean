/- Groups of family 6 read. -/
import Derived.Test.YtbejnnkdgcelmaaGreatDoorFour
import Derived.Laws.CopyOwn
set_option linter.unusedSimpArgs false
set_option linter.unusedVariables false
namespace Go.Proofs.YtbejnnkdgcelmaaGreatDoor.P
def zeros8 : List Nat := [0, 0, 0, 0, 0, 0, 0, 0]
def sixG (A B : List Nat) (short : Bool) : Option (List Nat) :=
  if (short = true ∧ 8 ≤ A.length + B.length) ∨ (short = false ∧ A.length + B.length ≠ 8) then none else some (A ++ (List.replicate (8 - A.length - B.length) 0 ++ B))
def sixP (l : List UInt8) : Option (List Nat) :=
  match grpsP (Lib.cut l [58, 58]).1, grpsP (Lib.cut l [58, 58]).2.1 with
  | some A, some B => sixG A B (Lib.cut l [58, 58]).2.2
  | _, _ => none
theorem grpsF_len : ∀ (ps : List (List UInt8)) (gs : List Nat), grpsF ps = some gs → gs.length = ps.length ∧ ∀ g ∈ gs, g ≤ 65535
  | [], gs, h => by simp [grpsF] at h; subst h; simp
  | p :: ps, gs, h => by
    unfold grpsF at h
    cases hg : grpP p with
    | none => rw [hg] at h; cases h
    | some g =>
      rw [hg] at h
      cases hgs : grpsF ps with
      | none => rw [hgs] at h; cases h
      | some gs' =>
        rw [hgs] at h
        simp at h; subst h
        obtain ⟨h1, h2⟩ := grpsF_len ps gs' hgs
        refine ⟨by simp [h1], ?_⟩
        intro x hx
        rw [List.mem_cons] at hx
        rcases hx with rfl | hx
        · exact grpP_le _ _ hg
        · exact h2 x hx
theorem grpsP_len (l : List UInt8) (gs : List Nat) (h : grpsP l = some gs) : gs.length ≤ 9 ∧ ∀ g ∈ gs, g ≤ 65535 := by
  unfold grpsP at h
  split at h
  · simp at h; subst h; simp
  · obtain ⟨h1, h2⟩ := grpsF_len _ _ h
    have := splitN_len l [58] 9 (by omega)
    exact ⟨by omega, h2⟩
theorem cut_len (l sep : List UInt8) : (Lib.cut l sep).1.length ≤ l.length ∧ (Lib.cut l sep).2.1.length ≤ l.length := by
  unfold Lib.cut
  split
  · simp; omega
  · simp
end Go.Proofs.YtbejnnkdgcelmaaGreatDoor.P
namespace Go.Proofs.YtbejnnkdgcelmaaGreatDoor
open Go.RowKit

theorem u16s_len (l : List Nat) : (P.u16s l).length = l.length := by simp [P.u16s]
theorem list8 (L : List Nat) (h : L.length = 8) : ∃ y0 y1 y2 y3 y4 y5 y6 y7, L = [y0, y1, y2, y3, y4, y5, y6, y7] := by
  match L, h with
  | [y0, y1, y2, y3, y4, y5, y6, y7], _ => exact ⟨y0, y1, y2, y3, y4, y5, y6, y7, rfl⟩
theorem g8_heap {w : World} {b : Nat} {t : TypeId} (y0 y1 y2 y3 y4 y5 y6 y7 : Nat) (h : w.heap[b]? = some (.cells (P.u16s [y0, y1, y2, y3, y4, y5, y6, y7]).toArray t (0, 0))) : G8 w b y0 y1 y2 y3 y4 y5 y6 y7 := by
  have hc : ∀ j, w.cell? ⟨b, j, none⟩ = (P.u16s [y0, y1, y2, y3, y4, y5, y6, y7]).toArray[j]? := by intro j; simp [World.cell?, h]
  refine ⟨(hc 0).trans rfl, (hc 1).trans rfl, (hc 2).trans rfl, (hc 3).trans rfl, (hc 4).trans rfl, (hc 5).trans rfl, (hc 6).trans rfl, (hc 7).trans rfl, fun j => by simp [World.frozen?, h]⟩

theorem splice_six (A B : List Nat) (h : A.length + B.length ≤ 8) :
    splice (splice (P.u16s P.zeros8) 0 (P.u16s A)) (8 - B.length) (P.u16s B) = P.u16s (A ++ (List.replicate (8 - A.length - B.length) 0 ++ B)) := by
  have e0 : P.u16s P.zeros8 = List.replicate 8 (Value.int .u16 0) := rfl
  have e1 : splice (P.u16s P.zeros8) 0 (P.u16s A) = P.u16s A ++ List.replicate (8 - A.length) (Value.int .u16 0) := by
    unfold splice
    rw [List.take_zero, List.nil_append, Nat.zero_add, u16s_len, e0, List.drop_replicate]
  have hA : (P.u16s A).length = A.length := u16s_len A
  have hB : (P.u16s B).length = B.length := u16s_len B
  rw [e1]
  unfold splice
  rw [List.take_append, List.drop_append, hA, hB, List.take_of_length_le (by omega), List.drop_eq_nil_of_le (by omega), List.take_replicate, List.drop_replicate]
  simp only [List.nil_append]
  rw [show 8 - A.length - (8 - B.length + B.length - A.length) = 0 from by omega, show min (8 - B.length - A.length) (8 - A.length) = 8 - A.length - B.length from by omega]
  simp [P.u16s]

/-- copy into a row of the call's own, as one equation. -/
theorem copy_run {Pr : Program} {w : World} (dT sT ty elem : TypeId) (hu : Pr.underlying dT = some (.slice elem)) (hsz : (Pr.info? elem).map (·.size) = some 1) (dp sp : Option Addr) (dLen dCap sLen sCap : Nat)
    (g off : Nat) (cur : List Value) (t : TypeId) (hg : w.heap[g]? = some (.cells cur.toArray t (0, 0))) (cs : List Value) (hn : cs.length = Nat.min sLen dLen)
    (hpos : 0 < cs.length → dp = some ⟨g, off, none⟩ ∧ ∃ ad, sp = some ad ∧ ∀ (j : Nat) (v : Value), cs[j]? = some v → w.cell? (ad.add j) = some v)
    (hfit : off + cs.length ≤ cur.length) (h1 : ∀ v ∈ cs, v.oneCell' = true) (B : Nat) (w0 : World) (hb : Below B w0 w) (hBg : B ≤ g) :
    ∃ W', (Builtin.copy_ #[dT, sT] ty #[.slice dp dLen dCap, .slice sp sLen sCap]).run Pr w = .ok (goInt cs.length) W' ∧ W'.heap[g]? = some (.cells (splice cur off cs).toArray t (0, 0)) ∧ Below B w0 W' ∧ (∀ k, k ≠ g → W'.heap[k]? = w.heap[k]?) := by
  by_cases h0 : cs.length = 0
  · have hc : cs = [] := List.length_eq_zero_iff.1 h0
    subst hc
    refine ⟨w, ?_, ?_, hb, fun _ _ => rfl⟩
    · rw [run_copy_none w dT sT ty elem dp sp dLen dCap sLen sCap hu hsz (by rw [← hn]; rfl)]; rfl
    · rw [hg]; simp [splice]
  · obtain ⟨rfl, ad, rfl, hsrc⟩ := hpos (by omega)
    exact ⟨_, run_copy_row Pr w dT sT ty elem g off dLen dCap ad sLen sCap cur.toArray t cs hu hsz hg hn hsrc (by simpa using hfit) h1, by simpa [splice] using setRow_heap w g _ _ t _ hg, below_setRow hb hBg _, fun k hk => setRow_other w g k _ hk⟩
theorem own_block {w w' : World} {base : Nat} {e : TypeId} {size : Nat} {v : Value} {n : Nat} {xs : List Value} (h : w.ownsRow base e size v n xs) (hb : ∀ k, v.ownBlock = some k → w'.heap[k]? = w.heap[k]?) : w'.ownsRow base e size v n xs := by
  refine ⟨h.1, ?_⟩
  rcases h.2 with h2 | ⟨g, cap, cur, rfl, b, c, d⟩
  · exact .inl h2
  · exact .inr ⟨g, cap, cur, rfl, b, by rw [hb g rfl]; exact c, d⟩

set_option maxHeartbeats 16000000 in
set_option maxRecDepth 1000000 in
theorem readSix_any (s : ByteArray) (w : World) (hs : s.size ≤ 4000) (hE : Env w) :
    Calls Tryz.prog 48 #[.string s] w fun e w' => e = .returned (.tuple #[.agg (P.u16s ((P.sixP s.data.toList).getD P.zeros8)).toArray, .bool (P.sixP s.data.toList).isSome]) ∧ Below w.heap.size w w' := by
  have hbw0 : Below w.heap.size w (w.alloc (Obj.cells #[.int .u16 0, .int .u16 0, .int .u16 0, .int .u16 0, .int .u16 0, .int .u16 0, .int .u16 0, .int .u16 0] 24)) := (Below.refl _ w).alloc (Nat.le_refl _) _
  have hH : (w.alloc (Obj.cells #[.int .u16 0, .int .u16 0, .int .u16 0, .int .u16 0, .int .u16 0, .int .u16 0, .int .u16 0, .int .u16 0] 24)).heap[w.heap.size]? = some (.cells (P.u16s P.zeros8).toArray 24 (0, 0)) := by
    simp only [World.alloc, Array.getElem?_push, if_true]
    rfl
  generalize hW : w.alloc (Obj.cells #[.int .u16 0, .int .u16 0, .int .u16 0, .int .u16 0, .int .u16 0, .int .u16 0, .int .u16 0, .int .u16 0] 24) = W0 at *
  have hWs : W0.heap.size = w.heap.size + 1 := by rw [← hW]; simp
  have hE0 := hE.below hbw0
  obtain ⟨m, hm⟩ := hE0.max
  have hlen : s.data.toList.length = s.size := by simp
  have HC := Tryz.strings_Cut s ⟨#[58, 58]⟩ m W0 (by omega) hm
  rw [show (⟨#[58, 58]⟩ : ByteArray).data.toList = [58, 58] from rfl] at HC
  have hcl := P.cut_len s.data.toList [58, 58]
  obtain ⟨l1, h1⟩ : ∃ l1, (Lib.cut s.data.toList [58, 58]).1 = l1 := ⟨_, rfl⟩
  obtain ⟨l2, h2⟩ : ∃ l2, (Lib.cut s.data.toList [58, 58]).2.1 = l2 := ⟨_, rfl⟩
  obtain ⟨sh, h3⟩ : ∃ sh, (Lib.cut s.data.toList [58, 58]).2.2 = sh := ⟨_, rfl⟩
  rw [h1, h2, h3] at HC
  rw [h1, h2] at hcl
  have hP : P.sixP s.data.toList = (match P.grpsP l1, P.grpsP l2 with | some A, some B => P.sixG A B sh | _, _ => none) := by unfold P.sixP; rw [h1, h2, h3]
  have R1 := fun W (hW : Below W0.heap.size W0 W) => readGroups_any ⟨l1.toArray⟩ W (by rw [show (⟨l1.toArray⟩ : ByteArray).size = l1.length from by simp [ByteArray.size]]; omega) (hE0.below hW)
  have R2 := fun W (hW : Below W0.heap.size W0 W) => readGroups_any ⟨l2.toArray⟩ W (by rw [show (⟨l2.toArray⟩ : ByteArray).size = l2.length from by simp [ByteArray.size]]; omega) (hE0.below hW)
  rw [show (⟨l1.toArray⟩ : ByteArray).data.toList = l1 from by simp] at R1
  rw [show (⟨l2.toArray⟩ : ByteArray).data.toList = l2 from by simp] at R2
  have L1 := P.grpsP_len l1
  have L2 := P.grpsP_len l2
  have HC2 := Lib.hid HC
  have HP := Lib.hid hP
  have HR1 := Lib.hid R1
  have HR2 := Lib.hid R2
  have HH := Lib.hid hH
  have HW := Lib.hid hW
  clear h1 h2 h3 HC hP R1 R2 hH hW hlen hcl hE hE0 hm
  generalize (⟨l1.toArray⟩ : ByteArray) = S1 at *
  generalize (⟨l2.toArray⟩ : ByteArray) = S2 at *
  obtain ⟨o1, ho1⟩ : ∃ o, P.grpsP l1 = o := ⟨_, rfl⟩
  obtain ⟨o2, ho2⟩ : ∃ o, P.grpsP l2 = o := ⟨_, rfl⟩
  rw [ho1] at HR1 HP L1
  rw [ho2] at HR2 HP L2
  clear ho1 ho2
  have hi16 : (Tryz.prog.info? 23).map (·.size) = some 1 := by kernel_rfl
  go_enter Tryz.func48, Tryz.ntmps48
  go_wp2_with fail
  rw [HW.out]
  with_reducible refine HC2.out.mono ?_
  rintro e w1 ⟨rfl, q, hq⟩
  have hb1 : Below W0.heap.size W0 w1 := by rw [hq]; exact below_drewN (Below.refl _ _) _
  clear hq HC2
  go_wp2_with fail
  with_reducible refine (HR1.out w1 hb1).mono ?_
  rintro e w2 ⟨v1, rfl, hv1, hb2⟩
  have hb2' := hb1.trans (hb2.mono hb1.size)
  go_wp2_with fail
  with_reducible refine (HR2.out w2 hb2').mono ?_
  rintro e w3 ⟨v2, rfl, hv2, hb3⟩
  have hb3' := hb2'.trans (hb3.mono hb2'.size)
  have hv1' := own_below' hv1 hb3
  have hs2 := hb2'.size
  have hs1 := hb1.size
  have hs3 := hb3'.size
  have hbw3 := hbw0.trans (hb3'.mono (by omega))
  have HH3 : w3.heap[w.heap.size]? = some (.cells (P.u16s P.zeros8).toArray 24 (0, 0)) := by rw [hb3'.block _ (by omega)]; exact HH.out
  have hG3 := g8_heap 0 0 0 0 0 0 0 0 HH3
  obtain ⟨c0, c1, c2, c3, c4, c5, c6, c7, fz⟩ := id hG3
  have HO1 := Lib.hid hv1'
  have HO2 := Lib.hid hv2
  have HX3 := Lib.hid HH3
  clear hv1 hv1' hv2 HH3 hb2 hb3
  have bad : P.sixP s.data.toList = none → ∀ act : Act, act.tmps.getD 2 undef = .pointer (some ⟨w.heap.size, 0, none⟩) → act.tmps.getD 3 undef = .bool false → act.defers = [] →
      bodyPost Tryz.prog Tryz.f48 (fun e w' => e = .returned (.tuple #[.agg (P.u16s ((P.sixP s.data.toList).getD P.zeros8)).toArray, .bool (P.sixP s.data.toList).isSome]) ∧ Below w.heap.size w w') Exit.ret act (set8 w3 w.heap.size 0 0 0 0 0 0 0 0) := by
    intro hn act h2 h3 h4
    have hGf := hG3.set8 0 0 0 0 0 0 0 0
    have hbf := set8_below hbw3 (Nat.le_refl _) 0 0 0 0 0 0 0 0
    generalize set8 w3 w.heap.size 0 0 0 0 0 0 0 0 = Wf at *
    refine bodyPost_ret (res_cell_tmp rfl _ _ _ w.heap.size h2 _ (loadVar_groups hGf)) h4 ?_
    exact ⟨by rw [hn, h3]; rfl, hbf⟩
  have HBad := Lib.hid bad
  clear bad
  cases o1 with
  | none =>
    have HN := Lib.hid (HBad.out (by rw [HP.out]))
    simp only [Option.isSome_none]
    go_wp2_with fail
    exact HN.out _ rfl rfl rfl
  | some A =>
    cases o2 with
    | none =>
      have HN := Lib.hid (HBad.out (by rw [HP.out]))
      simp only [Option.isSome_none, Option.isSome_some]
      go_wp2_with fail
      exact HN.out _ rfl rfl rfl
    | some B =>
      simp only [Option.getD_some] at HO1 HO2
      obtain ⟨hA9, hAle⟩ := L1 A rfl
      obtain ⟨hB9, hBle⟩ := L2 B rfl
      obtain ⟨a1, k1, rfl⟩ := row_form HO1.out
      obtain ⟨a2, k2, rfl⟩ := row_form HO2.out
      simp only [Option.isSome_some]
      clear L1 L2
      by_cases hbad : (sh = true ∧ 8 ≤ A.length + B.length) ∨ (sh = false ∧ A.length + B.length ≠ 8)
      · have HN := Lib.hid (HBad.out (by rw [HP.out]; exact if_pos hbad))
        clear HBad
        rcases hbad with ⟨rfl, hb⟩ | ⟨rfl, hb⟩
        · go_wp2_with fail
          exact HN.out _ rfl rfl rfl
        · have hb' : (((A.length : Int) + (B.length : Int)) == 8) = false := by rw [beq_eq_false_iff_ne]; omega
          go_wp2_with fail
          exact HN.out _ rfl rfl rfl
      · have HN := Lib.hid (show P.sixP s.data.toList = some (A ++ (List.replicate (8 - A.length - B.length) 0 ++ B)) by rw [HP.out]; exact if_neg hbad)
        have h8 : A.length + B.length ≤ 8 := by cases sh <;> simp at hbad <;> omega
        have HF := Lib.hid (splice_six A B h8)
        have hLl : (A ++ (List.replicate (8 - A.length - B.length) 0 ++ B)).length = 8 := by simp; omega
        have HLl := Lib.hid hLl
        obtain ⟨o2, hsl, ho2⟩ : ∃ o2, (∀ W, (Instr.sliceAt 24 (.pointer (some ⟨w.heap.size, 0, none⟩)) (some (.int .i64 (8 - (B.length : Int)))) none none).run Tryz.prog W = .ok (.slice (some ⟨w.heap.size, o2, none⟩) B.length B.length) W) ∧ (0 < B.length → o2 = 8 - B.length) := by
          by_cases h0 : B.length = 0
          · refine ⟨0, fun W => ?_, by omega⟩
            rw [run_sliceAt_array_l W 24 ⟨w.heap.size, 0, none⟩ (by kernel_rfl) .i64 (8 - (B.length : Int)) (by omega) (by rw [show Tryz.prog.arrayLen 24 = 8 from by kernel_rfl]; omega)]
            rw [show Tryz.prog.arrayLen 24 = 8 from by kernel_rfl, show Tryz.prog.elem 24 = 23 from by kernel_rfl, h0]
            go_simp
          · refine ⟨8 - B.length, fun W => ?_, fun _ => rfl⟩
            rw [run_sliceAt_array_l W 24 ⟨w.heap.size, 0, none⟩ (by kernel_rfl) .i64 (8 - (B.length : Int)) (by omega) (by rw [show Tryz.prog.arrayLen 24 = 8 from by kernel_rfl]; omega)]
            rw [show Tryz.prog.arrayLen 24 = 8 from by kernel_rfl, show Tryz.prog.elem 24 = 23 from by kernel_rfl]
            go_simp
            omega
        have hp1 : 0 < (P.u16s A).length → (some (⟨w.heap.size, 0, none⟩ : Addr)) = some ⟨w.heap.size, 0, none⟩ ∧ ∃ ad, a1 = some ad ∧ ∀ (j : Nat) (v : Value), (P.u16s A)[j]? = some v → w3.cell? (ad.add j) = some v := by
          intro h
          rw [u16s_len] at h
          obtain ⟨g, cap, he, hb, hg, hc, hcell⟩ := row_cell HO1.out h
          obtain ⟨rfl, rfl⟩ : a1 = some ⟨g, 0, none⟩ ∧ k1 = cap := by injection he with h1 h2 h3; exact ⟨h1, h3⟩
          exact ⟨rfl, _, rfl, fun j v hv => HO1.out.cells rfl j v hv⟩
        have H1 := (show ∀ v ∈ P.u16s A, v.oneCell' = true by intro v hv; simp only [P.u16s, List.mem_map] at hv; obtain ⟨x, _, rfl⟩ := hv; rfl)
        have H2 := (show ∀ v ∈ P.u16s B, v.oneCell' = true by intro v hv; simp only [P.u16s, List.mem_map] at hv; obtain ⟨x, _, rfl⟩ := hv; rfl)
        obtain ⟨w4, hcp1, hh4, hb4, hk4⟩ := copy_run (Pr := Tryz.prog) 62 62 3 23 Tryz.underlying62 hi16 (some ⟨w.heap.size, 0, none⟩) a1 8 8 A.length k1 w.heap.size 0 (P.u16s P.zeros8) 24 HX3.out (P.u16s A) (by rw [u16s_len]; show A.length = min A.length 8; omega) hp1 (by rw [u16s_len]; show 0 + A.length ≤ 8; omega) H1 w.heap.size w hbw3 (Nat.le_refl _)
        have hO2 : w4.ownsRow w2.heap.size 23 1 (.slice a2 B.length k2) B.length (P.u16s B) := own_block HO2.out (fun k hk => hk4 k (by have := (HO2.out.lt k hk).1; omega))
        have hp2 : 0 < (P.u16s B).length → (some (⟨w.heap.size, o2, none⟩ : Addr)) = some ⟨w.heap.size, 8 - B.length, none⟩ ∧ ∃ ad, a2 = some ad ∧ ∀ (j : Nat) (v : Value), (P.u16s B)[j]? = some v → w4.cell? (ad.add j) = some v := by
          intro h
          rw [u16s_len] at h
          obtain ⟨g, cap, he, hb, hg, hc, hcell⟩ := row_cell hO2 h
          obtain ⟨rfl, rfl⟩ : a2 = some ⟨g, 0, none⟩ ∧ k2 = cap := by injection he with h1 h2 h3; exact ⟨h1, h3⟩
          exact ⟨by rw [ho2 h], _, rfl, fun j v hv => hO2.cells rfl j v hv⟩
        have hsp : (splice (P.u16s P.zeros8) 0 (P.u16s A)).length = 8 := by rw [length_splice _ _ _ (by rw [u16s_len, u16s_len]; show 0 + A.length ≤ 8; omega), u16s_len]; rfl
        obtain ⟨w5, hcp2, hh5, hb5, hk5⟩ := copy_run (Pr := Tryz.prog) 62 62 3 23 Tryz.underlying62 hi16 (some ⟨w.heap.size, o2, none⟩) a2 B.length B.length B.length k2 w.heap.size (8 - B.length) (splice (P.u16s P.zeros8) 0 (P.u16s A)) 24 hh4 (P.u16s B) (by rw [u16s_len]; show B.length = min B.length B.length; omega) hp2 (by rw [hsp, u16s_len]; omega) H2 w.heap.size w hb4 (Nat.le_refl _)
        rw [HF.out] at hh5
        obtain ⟨y0, y1, y2, y3, y4, y5, y6, y7, hY⟩ := list8 _ hLl
        rw [hY] at hh5
        have hG5 := g8_heap y0 y1 y2 y3 y4 y5 y6 y7 hh5
        have HN2 := Lib.hid (show P.sixP s.data.toList = some [y0, y1, y2, y3, y4, y5, y6, y7] by rw [HN.out, hY])
        have HB5 := Lib.hid hb5
        rw [u16s_len] at hcp1 hcp2
        have HG5 := Lib.hid hG5
        have hcond : (sh = true ∧ A.length + B.length < 8) ∨ (sh = false ∧ A.length + B.length = 8) := by cases sh <;> simp at hbad <;> simp <;> omega
        clear hbad HBad hp1 hLl hp2 hsp H1 H2 HN HF hY hh4 hh5 hk4 hk5 hO2 hb4 hb5 hG5 ho2 hG3 fz c0 c1 c2 c3 c4 c5 c6 c7
        obtain ⟨c0, c1, c2, c3, c4, c5, c6, c7, fz⟩ := HG5.out
        rcases hcond with ⟨rfl, hcd⟩ | ⟨rfl, hcd⟩
        all_goals
          try have hb' : (((A.length : Int) + (B.length : Int)) == 8) = true := by rw [beq_iff_eq]; omega
          go_wp2_with fail
          have hGf := HG5.out.set8 y0 y1 y2 y3 y4 y5 y6 y7
          have hbf := set8_below HB5.out (Nat.le_refl _) y0 y1 y2 y3 y4 y5 y6 y7
          change bodyPost _ _ _ _ _ (set8 w5 w.heap.size y0 y1 y2 y3 y4 y5 y6 y7)
          generalize set8 w5 w.heap.size y0 y1 y2 y3 y4 y5 y6 y7 = Wf at *
          refine bodyPost_ret (res_cell_tmp rfl _ _ _ w.heap.size rfl _ (loadVar_groups hGf)) rfl ?_
          exact ⟨by rw [HN2.out]; rfl, hbf⟩
end Go.Proofs.YtbejnnkdgcelmaaGreatDoor
