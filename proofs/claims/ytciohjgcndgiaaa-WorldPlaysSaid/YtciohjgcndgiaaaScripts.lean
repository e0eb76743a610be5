/- Dials of one address, one behind the other; lookups of one name: plain data. -/
import Derived.Test.YtciohjgcndgiaaaSpecs
set_option linter.unusedSimpArgs false
set_option linter.unusedVariables false
namespace Go.Proofs.Ytciohjgcndgiaaa
open Go.RowKit Go.Proofs.Ytciohjgcndgiaaa.Kind

/-- The row's text of addresses (the document's own; given by the round), and what is asked of it. -/
structure Texts where
  txt : List Ad → ByteArray
  nil : txt [] = { data := #[] }
  env : World → Prop
  keep : ∀ {w w' : World}, env w → Below w.heap.size w w' → env w'
/-- By's lookup's answer, of a plan that may be. -/
def ansM (X : Texts) (A : Wo) (y : Int) : Lt := match lookOf A y with
  | none => Lt.zero
  | some d => if d.over = true then Lt.zero else if (answerP A.plan d.name d.nth).length = 0 then ⟨7, 0, 0, 0, { data := #[] }, 110⟩ else ⟨7, 0, 0, 0, X.txt (answerP A.plan d.name d.nth), 0⟩
def ansE (A : Wo) (y : Int) : Int := if askedP A y = true then 0 else 101

theorem findIdx_by {α : Type} (f : α → Int) (p : α → Bool) (y : Int) (hp : ∀ d, p d = decide (f d = y)) (L : List α) (c : Int) (h : ∀ (j : Nat) (d : α), L[j]? = some d → f d = c + j) (k : Nat) (hk : k ≤ L.length) (hy : y = c + k) : L.findIdx p = k := by
  rcases Nat.lt_or_ge k L.length with hlt | hge
  · rw [List.findIdx_eq hlt]
    refine ⟨?_, fun j hj => ?_⟩
    · have := h k L[k] (List.getElem?_eq_getElem hlt)
      rw [hp, decide_eq_true_eq, this, hy]
    · have := h j L[j] (List.getElem?_eq_getElem (by omega))
      rw [hp, decide_eq_false_iff_not, this, hy]
      omega
  · obtain rfl : k = L.length := by omega
    rw [List.findIdx_eq_length]
    intro d hd
    obtain ⟨j, hj, e⟩ := List.getElem_of_mem hd
    have := h j d (by rw [List.getElem?_eq_getElem hj, e])
    rw [hp, decide_eq_false_iff_not, this, hy]
    omega

/-- Dials of one address, by 0, 1, ..; nothing else but what came of them. -/
structure FatesInv (P : Pl) (a : Ad) (A : Wo) (i : Nat) : Prop where
  plan : A.plan = P
  len : A.dials.length = i
  dials : ∀ (j : Nat) (d : Di), A.dials[j]? = some d → d.by_ = 0 + j ∧ d.ad = a
  socks : A.socks.length ≤ i
  marks : A.marks.length ≤ i
  looks : A.looks.length = 0
  clock : A.clock = 0
theorem FatesInv.room {P : Pl} {a : Ad} {A : Wo} {i : Nat} (h : FatesInv P a A i) (hi : i ≤ 100) (hf : Few P) (ht : P.ticks ≤ 200) (hm : Mem P) : Room A := by
  have h1 := h.len
  have h2 := h.socks
  have h3 := h.marks
  have h4 := h.looks
  have h5 := h.clock
  have h6 := h.plan
  exact ⟨by rw [h6]; exact hm, by rw [h6]; exact hf, by omega, by omega, by omega, by omega, by rw [h6]; omega, by omega⟩
theorem fates_new (P : Pl) (a : Ad) : FatesInv P a (Wo.new P) 0 := ⟨rfl, rfl, fun j d h => by simp [Wo.new] at h, by simp [Wo.new], by simp [Wo.new], rfl, rfl⟩
theorem FatesInv.ix {P : Pl} {a : Ad} {A : Wo} {i : Nat} (h : FatesInv P a A i) {k : Nat} (hk : k ≤ i) : dialIx A k = k :=
  findIdx_by (fun d : Di => d.by_) (byB k) k (fun d => rfl) A.dials 0 (fun j d hd => (h.dials j d hd).1) k (by rw [h.len]; exact hk) (by omega)
theorem FatesInv.none {P : Pl} {a : Ad} {A : Wo} {i : Nat} (h : FatesInv P a A i) : dialOf A i = Option.none := by
  unfold dialOf
  rw [h.ix (Nat.le_refl _), List.getElem?_eq_none (by rw [h.len]; exact Nat.le_refl _)]
theorem FatesInv.count {P : Pl} {a : Ad} {A : Wo} {i : Nat} (h : FatesInv P a A i) : A.dials.countP (fun d => decide (d.ad = a)) = i := by
  rw [List.countP_eq_length.2 ?_, h.len]
  intro d hd
  obtain ⟨j, hj, e⟩ := List.getElem_of_mem hd
  simp [(h.dials j d (by rw [List.getElem?_eq_getElem hj, e])).2]
theorem FatesInv.dialE {P : Pl} {a : Ad} {A : Wo} {i : Nat} (h : FatesInv P a A i) (ha : mayP a = true) : dialE A i a = 0 := by
  unfold Go.Proofs.Ytciohjgcndgiaaa.dialE
  rw [h.none, ha]
  rfl
/-- The world with one dial more; it cut; it over. -/
def oneMore (P : Pl) (A : Wo) (a : Ad) (i : Nat) (c o : Bool) : Wo := { A with dials := A.dials ++ [⟨i, a, fateP P a i, c, o⟩] }
theorem FatesInv.dialP {P : Pl} {a : Ad} {A : Wo} {i : Nat} (h : FatesInv P a A i) (ha : mayP a = true) : dialP A i a = oneMore P A a i false false := by
  unfold Go.Proofs.Ytciohjgcndgiaaa.dialP
  rw [if_pos (h.dialE ha)]
  unfold diNew oneMore
  rw [h.count, h.plan]
theorem FatesInv.more {P : Pl} {a : Ad} {A : Wo} {i : Nat} (h : FatesInv P a A i) (c o : Bool) : FatesInv P a (oneMore P A a i c o) (i + 1) := by
  refine ⟨h.plan, by simp [oneMore, h.len], fun j d hd => ?_, Nat.le_succ_of_le h.socks, Nat.le_succ_of_le h.marks, h.looks, h.clock⟩
  unfold oneMore at hd
  dsimp only at hd
  rw [List.getElem?_append] at hd
  split at hd
  · exact h.dials j d hd
  · rename_i hj
    rw [h.len] at hj hd
    have e0 : j - i = 0 := by
      have := (List.getElem?_eq_some_iff.1 hd).1
      simp at this
      omega
    rw [e0] at hd
    simp at hd
    subst hd
    exact ⟨by dsimp only; omega, rfl⟩
theorem FatesInv.last {P : Pl} {a : Ad} {A : Wo} {i : Nat} (h : FatesInv P a A i) (c o : Bool) : dialIx (oneMore P A a i c o) i = i ∧ dialOf (oneMore P A a i c o) i = some ⟨i, a, fateP P a i, c, o⟩ := by
  have hx := (h.more c o).ix (Nat.le_succ i)
  refine ⟨hx, ?_⟩
  unfold dialOf
  rw [hx]
  have e : A.dials.length = i := h.len
  unfold oneMore
  dsimp only
  rw [← e]
  simp
theorem FatesInv.cutP {P : Pl} {a : Ad} {A : Wo} {i : Nat} (h : FatesInv P a A i) : cutP (oneMore P A a i false false) i = oneMore P A a i true false := by
  obtain ⟨h1, h2⟩ := h.last false false
  unfold Go.Proofs.Ytciohjgcndgiaaa.cutP
  rw [h2, h1]
  have e : A.dials.length = i := h.len
  unfold oneMore
  dsimp only
  rw [List.set_append_right _ _ (by omega), e]
  simp
theorem FatesInv.readyP {P : Pl} {a : Ad} {A : Wo} {i : Nat} (h : FatesInv P a A i) (c o : Bool) : readyP (oneMore P A a i c o) i = readyD ⟨i, a, fateP P a i, c, o⟩ := by
  unfold Go.Proofs.Ytciohjgcndgiaaa.readyP
  rw [(h.last c o).2]
theorem ready_now {y f : Int} {a : Ad} {c : Bool} (hf : f = 0 ∨ f = 1) : readyD ⟨y, a, f, c, false⟩ = true := by
  rcases hf with rfl | rfl <;> simp [readyD]
theorem ready_cut {y f : Int} {a : Ad} (hf : f = 0 ∨ f = 1 ∨ f = 2) : readyD ⟨y, a, f, true, false⟩ = true := by
  rcases hf with rfl | rfl | rfl <;> simp [readyD]
/-- What a dial's end leaves. -/
def endOf (P : Pl) (A : Wo) (a : Ad) (i : Nat) (c : Bool) : Wo := if fateP P a i = 0 then { oneMore P A a i c true with socks := A.socks ++ [skNew a i 0], marks := A.marks ++ [⟨false, A.socks.length, 0⟩] } else oneMore P A a i c true
theorem FatesInv.overP {P : Pl} {a : Ad} {A : Wo} {i : Nat} (h : FatesInv P a A i) (c : Bool) : overP (oneMore P A a i c false) i = oneMore P A a i c true := by
  obtain ⟨h1, h2⟩ := h.last c false
  unfold Go.Proofs.Ytciohjgcndgiaaa.overP
  rw [h2, h1]
  have e : A.dials.length = i := h.len
  unfold oneMore
  dsimp only
  rw [List.set_append_right _ _ (by omega), e]
  simp
theorem FatesInv.endP {P : Pl} {a : Ad} {A : Wo} {i : Nat} (h : FatesInv P a A i) {c : Bool} (hr : readyD ⟨i, a, fateP P a i, c, false⟩ = true) : endP (oneMore P A a i c false) i = endOf P A a i c := by
  unfold Go.Proofs.Ytciohjgcndgiaaa.endP
  rw [(h.last c false).2, h.overP c]
  dsimp only
  rw [hr]
  have hc : (oneMore P A a i c false).clock = 0 := h.clock
  simp only [Bool.true_eq_false, if_false, hc]
  rfl
theorem FatesInv.endM {P : Pl} {a : Ad} {A : Wo} {i : Nat} (h : FatesInv P a A i) {c : Bool} (hr : readyD ⟨i, a, fateP P a i, c, false⟩ = true) : endM (oneMore P A a i c false) i = if fateP P a i = 0 then ⟨11, 0, 0, A.socks.length, { data := #[] }, 0⟩ else ⟨11, 0, 0, 0, { data := #[] }, 160⟩ := by
  unfold Go.Proofs.Ytciohjgcndgiaaa.endM
  rw [h.readyP c false, hr]
  unfold wellP
  rw [(h.last c false).2]
  simp only [Bool.true_eq_false, if_false, decide_eq_true_eq]
  rfl
theorem FatesInv.endE {P : Pl} {a : Ad} {A : Wo} {i : Nat} (h : FatesInv P a A i) {c : Bool} (hr : readyD ⟨i, a, fateP P a i, c, false⟩ = true) : endE (oneMore P A a i c false) i = 0 := by
  unfold Go.Proofs.Ytciohjgcndgiaaa.endE
  rw [h.readyP c false, hr]
  rfl
theorem FatesInv.ended {P : Pl} {a : Ad} {A : Wo} {i : Nat} (h : FatesInv P a A i) (c : Bool) : FatesInv P a (endOf P A a i c) (i + 1) := by
  have hm := h.more c true
  unfold endOf
  split
  · exact ⟨hm.plan, hm.len, hm.dials, by have := h.socks; simp; omega, by have := h.marks; simp; omega, hm.looks, hm.clock⟩
  · exact hm
/-- A plan's fates. -/
def fateOk (R : Rules) : Prop := ∀ f, R.fok f = true → ∀ x ∈ f.l, x = 0 ∨ x = 1 ∨ x = 2
theorem fate_ok {R : Rules} (hR : fateOk R) {P : Pl} (h : checkB R P = true) (a : Ad) (n : Int) : fateP P a n = 0 ∨ fateP P a n = 1 ∨ fateP P a n = 2 := by
  unfold fateP
  cases hz : rowOf P a with
  | none => simp
  | some f =>
    dsimp only
    have hf : R.fok f = true := by
      unfold checkB at h
      simp only [Bool.and_eq_true, List.all_eq_true] at h
      exact h.1.1.1.1.2 f (List.mem_of_find?_eq_some hz)
    cases hx : f.l[nthI n f.l.length]? with
    | none => simp
    | some x => exact hR f hf x (List.mem_of_getElem? hx)
theorem fate_none {P : Pl} (h : P.fates.length = 0) (a : Ad) (n : Int) : fateP P a n = 1 := by
  have e : P.fates = [] := List.eq_nil_of_length_eq_zero h
  unfold fateP rowOf
  rw [e]
  rfl

/-- Lookups of one name, by 100, 101, ..; some are over. -/
structure AskInv (P : Pl) (s : ByteArray) (A : Wo) (i : Nat) : Prop where
  plan : A.plan = P
  len : A.looks.length = i
  looks : ∀ (j : Nat) (d : Lo), A.looks[j]? = some d → d.by_ = 100 + j ∧ d.name = s ∧ d.nth = j
  rest : A.socks.length = 0 ∧ A.marks.length = 0 ∧ A.dials.length = 0
  clock : A.clock = 0
theorem AskInv.room {P : Pl} {s : ByteArray} {A : Wo} {i : Nat} (h : AskInv P s A i) (hi : i ≤ 100) (hf : Few P) (ht : P.ticks ≤ 200) (hm : Mem P) : Room A := by
  have h1 := h.len
  have h2 := h.rest
  have h5 := h.clock
  have h6 := h.plan
  exact ⟨by rw [h6]; exact hm, by rw [h6]; exact hf, by omega, by omega, by omega, by omega, by rw [h6]; omega, by omega⟩
theorem ask_new (P : Pl) (s : ByteArray) : AskInv P s (Wo.new P) 0 := ⟨rfl, rfl, fun j d h => by simp [Wo.new] at h, ⟨rfl, rfl, rfl⟩, rfl⟩
theorem AskInv.ix {P : Pl} {s : ByteArray} {A : Wo} {i : Nat} (h : AskInv P s A i) {k : Nat} (hk : k ≤ i) {y : Int} (hy : y = 100 + k) : lookIx A y = k :=
  findIdx_by (fun d : Lo => d.by_) (lookB y) y (fun d => rfl) A.looks 100 (fun j d hd => (h.looks j d hd).1) k (by rw [h.len]; exact hk) hy
theorem AskInv.askE {P : Pl} {s : ByteArray} {A : Wo} {i : Nat} (h : AskInv P s A i) {y : Int} (hy : y = 100 + i) : askE A y = 0 := by
  unfold Go.Proofs.Ytciohjgcndgiaaa.askE lookOf
  rw [h.ix (Nat.le_refl _) hy, List.getElem?_eq_none (by rw [h.len]; exact Nat.le_refl _)]
  rfl
theorem AskInv.count {P : Pl} {s : ByteArray} {A : Wo} {i : Nat} (h : AskInv P s A i) : A.looks.countP (fun d => decide (d.name = s)) = i := by
  rw [List.countP_eq_length.2 ?_, h.len]
  intro d hd
  obtain ⟨j, hj, e⟩ := List.getElem_of_mem hd
  simp [(h.looks j d (by rw [List.getElem?_eq_getElem hj, e])).2.1]
theorem AskInv.asked {P : Pl} {s : ByteArray} {A : Wo} {i : Nat} (h : AskInv P s A i) {y : Int} (hy : y = 100 + i) : AskInv P s (askP A y s) (i + 1) ∧ askedP (askP A y s) y = true := by
  have e : askP A y s = { A with looks := A.looks ++ [⟨y, s, i, false⟩] } := by
    unfold askP
    rw [if_pos (h.askE hy), h.count]
  have hn : AskInv P s (askP A y s) (i + 1) := by
    rw [e]
    refine ⟨h.plan, by simp [h.len], fun j d hd => ?_, h.rest, h.clock⟩
    dsimp only at hd
    rw [List.getElem?_append] at hd
    split at hd
    · exact h.looks j d hd
    · rename_i hj
      rw [h.len] at hj hd
      have hlt := (List.getElem?_eq_some_iff.1 hd).1
      simp at hlt
      obtain rfl : j = i := by omega
      simp at hd
      subst hd
      exact ⟨hy, rfl, rfl⟩
  refine ⟨hn, ?_⟩
  unfold askedP lookOf
  rw [hn.ix (Nat.le_succ i) hy, e]
  dsimp only
  rw [List.getElem?_append_right (by rw [h.len]; exact Nat.le_refl _), h.len]
  simp
theorem AskInv.get {P : Pl} {s : ByteArray} {A : Wo} {i : Nat} (h : AskInv P s A i) {k : Nat} (hk : k < i) {y : Int} (hy : y = 100 + k) : ∃ o : Bool, lookOf A y = some ⟨y, s, k, o⟩ := by
  have hlt : k < A.looks.length := by rw [h.len]; exact hk
  obtain ⟨h1, h2, h3⟩ := h.looks k _ (List.getElem?_eq_getElem hlt)
  refine ⟨(A.looks[k]).over, ?_⟩
  unfold lookOf
  rw [h.ix (Nat.le_of_lt hk) hy, List.getElem?_eq_getElem hlt]
  generalize A.looks[k] = d at *
  obtain ⟨d1, d2, d3, d4⟩ := d
  dsimp only at h1 h2 h3
  subst h1 h2 h3
  rw [hy]
theorem AskInv.answer {P : Pl} {s : ByteArray} {A : Wo} {i : Nat} (h : AskInv P s A i) {k : Nat} (hk : k < i) {y : Int} (hy : y = 100 + k) (hl : lookOf A y = some ⟨y, s, k, false⟩) : AskInv P s (answerW A y) i ∧ askedP (answerW A y) y = false := by
  have e : answerW A y = { A with looks := A.looks.set k ⟨y, s, k, true⟩ } := by
    unfold answerW
    rw [hl, h.ix (Nat.le_of_lt hk) hy]
    rfl
  have hn : AskInv P s (answerW A y) i := by
    rw [e]
    refine ⟨h.plan, by simp [h.len], fun j d hd => ?_, h.rest, h.clock⟩
    dsimp only at hd
    rw [List.getElem?_set] at hd
    split at hd
    · rename_i hj
      subst hj
      split at hd
      · simp at hd
        subst hd
        exact ⟨hy, rfl, rfl⟩
      · cases hd
    · exact h.looks j d hd
  refine ⟨hn, ?_⟩
  unfold askedP lookOf
  rw [hn.ix (Nat.le_of_lt hk) hy, e]
  dsimp only
  rw [List.getElem?_set_self (by rw [h.len]; exact hk)]
  rfl
theorem asked_over {A : Wo} {y k : Int} {s : ByteArray} {o : Bool} (h : lookOf A y = some ⟨y, s, k, o⟩) : askedP A y = !o := by
  unfold askedP
  rw [h]
theorem answer_over {A : Wo} {y k : Int} {s : ByteArray} (h : lookOf A y = some ⟨y, s, k, true⟩) : answerW A y = A := by
  unfold answerW
  rw [h]
  rfl
theorem ansM_at {X : Texts} {A : Wo} {y k : Int} {s : ByteArray} (h : lookOf A y = some ⟨y, s, k, false⟩) : ansM X A y = if (answerP A.plan s k).length = 0 then ⟨7, 0, 0, 0, { data := #[] }, 110⟩ else ⟨7, 0, 0, 0, X.txt (answerP A.plan s k), 0⟩ := by
  unfold ansM
  rw [h]
  rfl
end Go.Proofs.Ytciohjgcndgiaaa
