/- Package pace as it landed: what a history has come to, told by what is kept of it. -/
import Derived.Test.YtpncgcaepdkcnaaLandC
import Derived.Laws.OwnMore
set_option linter.unusedSimpArgs false
set_option linter.unusedVariables false
namespace Go.Proofs.Ytpncgcaepdkcnaa
open R3 Go.RowKit Go.Proofs.Ytpncgcaepdkcnaa.Kind

/-- A history h keeps the pace; F tells who of it has failed, since when its last one started. -/
structure Hist (g : Int) (h : List Pc) (F : List Bool) (since : Int) : Prop where
  keeps : keepsP g h = true
  len : (startsL h).length = F.length
  bad : ∀ n : Nat, n < F.length → failedL h n = F.getD n false
  none : ∀ n : Int, F.length ≤ n → failedL h n = false
  since : 0 < F.length → (startsL h).getD (F.length - 1) 0 = since
theorem hist_nil (g since : Int) : Hist g [] [] since where
  keeps := rfl
  len := rfl
  bad := fun n h => absurd h (by simp)
  none := fun n h => rfl
  since := fun h => absurd h (by simp)
theorem Hist.ok {g : Int} {h : List Pc} {F : List Bool} {since : Int} (H : Hist g h F since) (f : Bool) (n t : Int) :
    okP g h ⟨f, n, t⟩ = (riseP h ⟨f, n, t⟩ && (if f then mayFailP F n else mayStartP F since n g t)) := by
  unfold okP
  congr 1
  cases f with
  | true =>
    simp only [if_true, H.len]
    unfold mayFailP
    by_cases h0 : 0 ≤ n
    · by_cases h1 : n < F.length
      · obtain ⟨q, rfl⟩ : ∃ q : Nat, n = q := ⟨n.toNat, by omega⟩
        rw [H.bad q (by omega), Int.toNat_natCast]
      · rw [decide_eq_false h1, Bool.and_false, Bool.false_and, Bool.false_and]
    · rw [decide_eq_false h0, Bool.false_and, Bool.false_and, Bool.false_and]
  | false =>
    simp only [Bool.false_eq_true, if_false, H.len]
    unfold mayStartP mayP
    by_cases h0 : n = (F.length : Int)
    · subst h0
      rw [decide_eq_true (rfl : (F.length : Int) = F.length), Bool.true_and, Bool.true_and, decide_eq_true (show max (F.length : Int) 0 < F.length + 1 by omega), Bool.true_and]
      by_cases h1 : 0 < F.length
      · have e1 : decide ((F.length : Int) ≤ 0) = false := decide_eq_false (by omega)
        have e2 : decide ((F.length : Int) < 1) = false := decide_eq_false (by omega)
        have e3 : failedL h ((F.length : Int) - 1) = lastFB F := by
          unfold lastFB
          rw [decide_eq_true h1, Bool.true_and, ← H.bad (F.length - 1) (by omega)]
          congr 1
          omega
        rw [e1, e2, e3, show ((F.length : Int) - 1).toNat = F.length - 1 by omega, H.since h1]
      · rw [decide_eq_true (show (F.length : Int) ≤ 0 by omega), decide_eq_true (show (F.length : Int) < 1 by omega)]
        simp
    · rw [decide_eq_false h0, Bool.false_and, Bool.false_and]
theorem Hist.fail {g : Int} {h : List Pc} {F : List Bool} {since : Int} (H : Hist g h F since) {q : Nat} {t : Int} (hr : riseP h ⟨true, q, t⟩ = true) (hm : mayFailP F q = true) : Hist g (h ++ [⟨true, q, t⟩]) (F.set q true) since where
  keeps := by rw [keeps_snoc, H.keeps, Bool.true_and, H.ok, hr]; exact hm
  len := by
    have e : startsL [(⟨true, (q : Int), t⟩ : Pc)] = [] := rfl
    rw [starts_app, e, List.append_nil, List.length_set]; exact H.len
  bad := fun m hm2 => by
    rw [List.length_set] at hm2
    rw [failed_app, H.bad m hm2]
    have e : failedL [⟨true, (q : Int), t⟩] (m : Int) = decide (q = m) := by
      unfold failedL
      simp only [List.any_cons, List.any_nil, Bool.or_false, Bool.true_and]
      exact decide_eq_decide.2 (by omega)
    rw [e, List.getD_eq_getElem?_getD, List.getD_eq_getElem?_getD, List.getElem?_set]
    by_cases hnm : q = m
    · subst hnm
      simp [hm2]
    · simp [hnm]
  none := fun n hn => by
    rw [List.length_set] at hn
    unfold mayFailP at hm
    rw [Bool.and_eq_true, Bool.and_eq_true] at hm
    have h1 := of_decide_eq_true hm.1.2
    rw [failed_app, H.none n hn]
    unfold failedL
    simp only [List.any_cons, List.any_nil, Bool.or_false, Bool.true_and, Bool.false_or]
    exact decide_eq_false (by omega)
  since := fun h0 => by
    have e : startsL [(⟨true, (q : Int), t⟩ : Pc)] = [] := rfl
    rw [List.length_set] at h0 ⊢
    rw [starts_app, e, List.append_nil]
    exact H.since h0
theorem Hist.start {g : Int} {h : List Pc} {F : List Bool} {since : Int} (H : Hist g h F since) {n t : Int} (hr : riseP h ⟨false, n, t⟩ = true) (hm : mayStartP F since n g t = true) : Hist g (h ++ [⟨false, n, t⟩]) (F ++ [false]) t where
  keeps := by rw [keeps_snoc, H.keeps, Bool.true_and, H.ok, hr]; exact hm
  len := by
    have e : startsL [(⟨false, n, t⟩ : Pc)] = [t] := rfl
    rw [starts_app, e, List.length_append, List.length_append, H.len]; rfl
  bad := fun m hm2 => by
    have e : failedL [⟨false, n, t⟩] (m : Int) = false := rfl
    rw [failed_app, e, Bool.or_false]
    rw [List.length_append, List.length_singleton] at hm2
    by_cases h1 : m < F.length
    · rw [H.bad m h1, List.getD_eq_getElem?_getD, List.getD_eq_getElem?_getD, List.getElem?_append_left h1]
    · obtain rfl : m = F.length := by omega
      rw [H.none _ (Int.le_refl _)]
      simp
  none := fun m hm2 => by
    have e : failedL [⟨false, n, t⟩] (m : Int) = false := rfl
    rw [failed_app, e, Bool.or_false]
    rw [List.length_append, List.length_singleton] at hm2
    exact H.none m (by omega)
  since := fun _ => by
    have e : startsL [(⟨false, n, t⟩ : Pc)] = [t] := rfl
    have hl := H.len
    rw [starts_app, e, List.length_append, List.length_singleton, List.getD_eq_getElem?_getD, List.getElem?_append_right (by omega), hl]
    simp
/-- One that is not in keeping ends it. -/
theorem keeps_not {g : Int} {l : List Pc} {k : Nat} {x : Pc} (hx : l[k]? = some x) (ho : okP g (l.take k) x = false) : keepsP g l = false := by
  cases h : keepsP g l with
  | false => rfl
  | true =>
    have h2 := keeps_take h (k + 1)
    have e : l.take (k + 1) = l.take k ++ [x] := by rw [List.take_add_one, hx]; rfl
    rw [e, keeps_snoc, ho, Bool.and_false] at h2
    cases h2
theorem rise_zero (x : Pc) : riseP [] x = true := rfl
theorem rise_at {l : List Pc} {j : Nat} {y : Pc} (hy : l[j]? = some y) (x : Pc) : riseP (l.take (j + 1)) x = decide (y.at_ ≤ x.at_) := by
  have e : l.take (j + 1) = l.take j ++ [y] := by rw [List.take_add_one, hy]; rfl
  unfold riseP
  rw [e, List.getLast?_concat]
theorem BK.all_set : ∀ (F : List Bool) (q : Nat) (y : Bool), (BK.all F).set q (.bool y) = BK.all (F.set q y)
  | [], q, y => rfl
  | x :: F, 0, y => rfl
  | x :: F, q + 1, y => by
    show Value.bool x :: (BK.all F).set q (.bool y) = Value.bool x :: BK.all (F.set q y)
    rw [BK.all_set F q y]
theorem BK.poke {w : World} {base : Nat} {a : Option Addr} {c : Nat} {F : List Bool} (h : BK.Own w base (.slice a F.length c) F) {q : Nat} {x : Bool} (hx : F[q]? = some x) (y : Bool) :
    ∃ g, a = some ⟨g, 0, none⟩ ∧ base ≤ g ∧ g < w.heap.size ∧ w.cell? ⟨g, q, none⟩ = some (.bool x) ∧ w.frozen? ⟨g, q, none⟩ = false ∧ BK.Own (w.setCell ⟨g, q, none⟩ (.bool y)) base (.slice a (F.set q y).length c) (F.set q y) := by
  have hq : q < F.length := (List.getElem?_eq_some_iff.1 hx).1
  obtain ⟨a', c', e, hm⟩ := h.mine
  injection e with e1 e2 e3
  subst e1 e3
  obtain ⟨g, cur, t, rfl, h2⟩ := hm.2.2.2 (by omega)
  have hlt := World.ownsRow.lt h g rfl
  have hat : BK.At w g 0 F := by
    obtain ⟨b, o, e, hb, hat⟩ := hm.row.2.2.2 (by omega)
    injection e with e; injection e with e1 e2 e3; subst e1 e2; exact hat
  have hc := BK.one hat hx
  rw [Nat.zero_add] at hc
  refine ⟨g, rfl, hlt.1, hlt.2, hc, World.ownsRow.frozenAt h q, ?_⟩
  have h3 := (World.ownsRow.stored h q (.bool y)).1
  unfold Own
  rw [List.length_set, ← BK.all_set]
  exact h3
end Go.Proofs.Ytpncgcaepdkcnaa
