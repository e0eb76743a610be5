/- What the program's way gives is what is ready. Nothing here runs the program. -/
import Derived.Test.YtjiepdgflfhkcaaRun
set_option linter.unusedSimpArgs false
set_option linter.unusedVariables false
namespace Go.Proofs.Ytjiepdgflfhkcaa
open Go.RowKit Go.Proofs.Ytjiepdgflfhkcaa.Kind Go.Proofs.Ytjiepdgflfhkcaa.P7

def rowTk (D : List Dv) (q : Nat) (row : List Of) (k : Nat) (d : Nat) : List Tk := (List.range k).flatMap fun (j : Nat) => match row[j]? with
  | some b => if b.kind = 1 ∧ openB D b.duct = true ∧ b.duct = (d : Int) then [⟨q, j⟩] else []
  | none => []
def takL (D : List Dv) (R : List (List Of)) (n : Nat) (d : Nat) : List Tk := (List.range n).flatMap fun (q : Nat) => match R[q]? with
  | some row => rowTk D q row row.length d
  | none => []
theorem openB_pos {D : List Dv} {n : Int} (h : openB D n = true) : 0 ≤ n := by
  unfold openB at h
  cases h2 : atP D n with
  | none => rw [h2] at h; simp at h
  | some d => obtain ⟨k, hk, _⟩ := atP_some h2; omega
theorem stepT_get {D : List Dv} {q j : Nat} {b : Of} {T : List (List Tk)} {d : Nat} {l : List Tk} (h : T[d]? = some l) : (stepT D q j b T)[d]? = some (l ++ if b.kind = 1 ∧ openB D b.duct = true ∧ b.duct = (d : Int) then [⟨q, j⟩] else []) := by
  unfold stepT
  by_cases hc : b.kind = 1 ∧ openB D b.duct = true
  · have hp := openB_pos hc.2
    rw [if_pos hc, List.getElem?_modify, h]
    simp only [Option.map_eq_map, Option.map_some]
    by_cases hd : b.duct = (d : Int)
    · rw [if_pos (show b.duct.toNat = d by omega), if_pos ⟨hc.1, hc.2, hd⟩]
    · rw [if_neg (show ¬ b.duct.toNat = d by omega), if_neg (fun e : b.kind = 1 ∧ openB D b.duct = true ∧ b.duct = (d : Int) => hd e.2.2), List.append_nil]
  · rw [if_neg hc, if_neg (fun e => hc ⟨e.1, e.2.1⟩), List.append_nil]
    exact h
theorem rowT_get {D : List Dv} {q : Nat} {row : List Of} {T : List (List Tk)} {d : Nat} {l : List Tk} (h : T[d]? = some l) : ∀ k, (rowT D q row k T)[d]? = some (l ++ rowTk D q row k d)
  | 0 => by simpa [rowT, rowTk] using h
  | k + 1 => by
    have ih := rowT_get (D := D) (q := q) (row := row) h k
    have e : rowTk D q row (k + 1) d = rowTk D q row k d ++ (match row[k]? with
      | some b => if b.kind = 1 ∧ openB D b.duct = true ∧ b.duct = (d : Int) then [⟨q, k⟩] else []
      | none => []) := by
      unfold rowTk
      rw [List.range_succ, List.flatMap_append]
      simp
    rw [e]
    unfold rowT
    cases row[k]? with
    | none => dsimp only; rw [List.append_nil]; exact ih
    | some b =>
      dsimp only
      rw [stepT_get ih, List.append_assoc]
theorem allT_get {D : List Dv} {R : List (List Of)} {d : Nat} (hd : d < D.length) : ∀ n, (allT D R n)[d]? = some (takL D R n d)
  | 0 => by simp [allT, takL, hd]
  | n + 1 => by
    have ih := allT_get hd n (R := R)
    have e : takL D R (n + 1) d = takL D R n d ++ (match R[n]? with
      | some row => rowTk D n row row.length d
      | none => []) := by
      unfold takL
      rw [List.range_succ, List.flatMap_append]
      simp
    rw [e]
    unfold allT
    cases R[n]? with
    | none => dsimp only; rw [List.append_nil]; exact ih
    | some row => dsimp only; rw [rowT_get ih]

theorem meetL_flat (p i : Nat) (n : Nat) (f : Nat → List Tk) : meetL p i ((List.range n).flatMap f) = (List.range n).flatMap (fun q => meetL p i (f q)) := by
  induction n with
  | zero => rfl
  | succ n ih => rw [List.range_succ, List.flatMap_append, meetL_app, ih, List.flatMap_append]; simp
theorem flat_congr (n : Nat) (f g : Nat → List Mt) (h : ∀ q, q < n → f q = g q) : (List.range n).flatMap f = (List.range n).flatMap g := by
  induction n with
  | zero => rfl
  | succ n ih => rw [List.range_succ, List.flatMap_append, List.flatMap_append, ih (fun q hq => h q (by omega))]; simp [h n (by omega)]

theorem meet_iff {D : List Dv} {o b : Of} {d : Nat} (ho : o.kind = 0) (hd : o.duct = (d : Int)) : meetP D o b = decide (b.kind = 1 ∧ openB D b.duct = true ∧ b.duct = (d : Int)) := by
  unfold meetP
  by_cases hb : b.duct = (d : Int)
  · rw [hb, hd]
    unfold openB dvAt
    cases atP D (d : Int) with
    | none => simp
    | some x => simp [ho, Bool.and_assoc]
  · cases atP D o.duct with
    | none => simp [hb]
    | some x =>
      have : ¬ o.duct = b.duct := by rw [hd]; exact fun e => hb e.symm
      simp [hb, this]
theorem cellQ_same {D : List Dv} {R : List (List Of)} {p i q d : Nat} {o : Of} {row : List Of} (ho : o.kind = 0) (hd : o.duct = (d : Int)) : meetL p i (rowTk D q row row.length d) = cellQ (meetP D) R p i o q row := by
  unfold rowTk
  rw [meetL_flat]
  unfold cellQ
  by_cases hq : q = p
  · rw [if_pos hq]
    have : ∀ n (g : Nat → List Mt), (∀ j, g j = []) → (List.range n).flatMap g = [] := by
      intro n g hg
      induction n with
      | zero => rfl
      | succ n ih => rw [List.range_succ, List.flatMap_append, ih]; simp [hg]
    refine this _ _ (fun j => ?_)
    cases row[j]? with
    | none => rfl
    | some b =>
      dsimp only
      split <;> simp [meetL, hq]
  · rw [if_neg hq]
    refine flat_congr _ _ _ (fun j hj => ?_)
    cases row[j]? with
    | none => rfl
    | some b =>
      dsimp only
      rw [meet_iff ho hd]
      by_cases hc : b.kind = 1 ∧ openB D b.duct = true ∧ b.duct = (d : Int)
      · rw [if_pos hc, if_pos (by simpa using hc)]
        have : ¬ ((q : Int) = (p : Int)) := by omega
        simp [meetL, this]
      · rw [if_neg hc, if_neg (by simpa using hc)]
        rfl
theorem meetP_none {D : List Dv} {o b : Of} (h : ¬ (o.kind = 0 ∧ 0 ≤ o.duct ∧ o.duct < (D.length : Int))) : meetP D o b = false := by
  cases hm : meetP D o b with
  | false => rfl
  | true =>
    obtain ⟨d, h1, h2, _⟩ := meetP_true hm
    obtain ⟨k, hk, hk2⟩ := atP_some h1
    exact absurd ⟨h2, by omega, by rw [hk]; exact_mod_cast (List.getElem?_eq_some_iff.1 hk2).1⟩ h
theorem flat_nil (n : Nat) (g : Nat → List Mt) (hg : ∀ j, g j = []) : (List.range n).flatMap g = [] := by
  induction n with
  | zero => rfl
  | succ n ih => rw [List.range_succ, List.flatMap_append, ih]; simp [hg]
theorem cells_none {me : Of → Of → Bool} {R : List (List Of)} {p i : Nat} {o : Of} (h : ∀ b, me o b = false) (q : Nat) (row : List Of) : cellQ me R p i o q row = [] := by
  rw [List.eq_nil_iff_forall_not_mem]
  intro m hm
  obtain ⟨_, j, b, _, hb, _⟩ := (mem_cellQ me).1 hm
  rw [h b] at hb
  cases hb
theorem case_same (s : Sv) (p i : Nat) (o : Of) : caseL s p i o = cellP (fun p _ o => aloneP s.D s.clock o (told s.dl p) (told s.lk p)) (meetP s.D) s.R p i o := by
  unfold caseL cellP
  dsimp only
  by_cases ha : aloneP s.D s.clock o (told s.dl p) (told s.lk p) = true
  · have hme : ∀ b, meetP s.D o b = false := by
      intro b
      cases hm : meetP s.D o b with
      | false => rfl
      | true =>
        obtain ⟨d, h1, h2, _, _, h5, h6⟩ := meetP_true hm
        unfold aloneP at ha
        rw [if_pos h2, h1] at ha
        dsimp only at ha
        unfold roomB at ha
        rw [h5, if_pos (.inr (by omega))] at ha
        simp at ha
    rw [if_pos ha, if_pos ha, flat_nil, List.append_nil]
    intro q
    cases s.R[q]? with
    | none => rfl
    | some row => exact cells_none hme q row
  · rw [if_neg ha, if_neg ha, List.nil_append]
    unfold takP
    by_cases hk : o.kind = 0 ∧ 0 ≤ o.duct
    · rw [if_pos hk]
      obtain ⟨d, hd⟩ : ∃ d : Nat, o.duct = d := ⟨o.duct.toNat, by omega⟩
      rw [hd, Int.toNat_natCast]
      by_cases hl : d < s.D.length
      · rw [allT_get hl, Option.getD_some]
        unfold takL
        rw [meetL_flat]
        refine flat_congr _ _ _ (fun q hq => ?_)
        cases s.R[q]? with
        | none => rfl
        | some row => exact cellQ_same hk.1 hd
      · rw [List.getElem?_eq_none (by rw [allT_length]; omega), flat_nil]
        · rfl
        · intro q
          cases s.R[q]? with
          | none => rfl
          | some row => exact cells_none (fun b => meetP_none (by omega)) q row
    · rw [if_neg hk, flat_nil]
      · rfl
      · intro q
        cases s.R[q]? with
        | none => rfl
        | some row => exact cells_none (fun b => meetP_none (fun e => hk ⟨e.1, e.2.1⟩)) q row
theorem run_same (s : Sv) : runL s s.R.length = ready s.R s.D s.clock s.dl s.lk := by
  unfold runL ready allP
  refine flat_congr _ _ _ (fun p hp => ?_)
  cases s.R[p]? with
  | none => rfl
  | some row =>
    dsimp only
    unfold rowL rowP
    refine flat_congr _ _ _ (fun i hi => ?_)
    cases row[i]? with
    | none => rfl
    | some o => exact case_same s p i o
end Go.Proofs.Ytjiepdgflfhkcaa
