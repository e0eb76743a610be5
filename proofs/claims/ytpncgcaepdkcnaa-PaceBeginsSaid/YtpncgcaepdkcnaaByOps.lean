/- A region that draws its order, operation by operation, no order walked: each operation is shown once, from what is known of the values that it looks at; what is known of a value stays as memory grows. -/
import Derived.Orders
import Derived.RegionTactic
import Derived.Below
set_option linter.unusedSimpArgs false
set_option linter.unusedVariables false
namespace Go.Proofs.Ytpncgcaepdkcnaa.ByOps
open Go Go.RowKit

section
variable {P : Program} {ops : Array Oper} {Q : Exit → Act → World → Prop} {a0 : Act} {W0 : World} {φ : Nat → Value → World → Prop}

/-- Temporary t is no operation's. -/
def outer (ops : Array Oper) (t : Tmp) : Bool := ops.all fun o => o.dst != some t
/-- What is known of an operand's value. -/
def Src (ops : Array Oper) (a0 : Act) (φ : Nat → Value → World → Prop) (x : Operand) (v : Value) (w : World) : Prop :=
  (∀ t, x = .tmp t → ∀ (j : Nat) (oj : Oper), ops[j]? = some oj → oj.dst = some t → φ j v w) ∧
  ((∀ t, x = .tmp t → outer ops t = true) → v = a0.eval x)
/-- The operation runs to its end, memory grows, and what is wanted is known of its value. -/
def Runs (P : Program) (o : Oper) (ρ : Operand → Value) (w : World) (K : Value → World → Prop) : Prop :=
  match (execOp ρ o).run P w with
  | .ok (.value v) w' => Below w.heap.size w w' ∧ K v w'
  | .ok (.enter f args) w' => w' = w ∧ Calls P f args w fun e w'' => ∃ v, e = .returned v ∧ Below w.heap.size w w'' ∧ K v w''
  | _ => False
/-- The edges go up, each operation has a place of its own, and waits for what it looks at. -/
def fine (ops : Array Oper) (n : Nat) : Bool :=
  (List.range ops.size).all fun i => match ops[i]? with
    | none => true
    | some oi =>
      (match oi.dst with | none => false | some d => decide (d < n) && (List.range ops.size).all fun j => j == i || match ops[j]? with | none => true | some oj => oj.dst != some d) &&
      oi.after.all (fun e => !Region.binds .any e || decide (e.on < i)) &&
      (oi.op.operands.toList.all fun x => match x with
        | .tmp t => (List.range ops.size).all fun j => match ops[j]? with | none => true | some oj => oj.dst != some t || oi.after.any fun e => Region.binds .any e && e.on == j
        | _ => true) &&
      (match oi.guard with | none => true | some (g, _) => decide (g < ops.size) && oi.after.any fun e => Region.binds .any e && e.on == g)

structure Fine (ops : Array Oper) (n : Nat) : Prop where
  dst : ∀ (i : Nat) (oi : Oper), ops[i]? = some oi → ∃ d, oi.dst = some d ∧ d < n ∧ ∀ (j : Nat) (oj : Oper), ops[j]? = some oj → j ≠ i → oj.dst ≠ some d
  up : ∀ (i : Nat) (oi : Oper), ops[i]? = some oi → ∀ e ∈ oi.after, Region.binds .any e = true → e.on < i
  looks : ∀ (i : Nat) (oi : Oper), ops[i]? = some oi → ∀ t, Operand.tmp t ∈ oi.op.operands → ∀ (j : Nat) (oj : Oper), ops[j]? = some oj → oj.dst = some t → ∃ e ∈ oi.after, Region.binds .any e = true ∧ e.on = j
  guard : ∀ (i : Nat) (oi : Oper) (g : Nat) (b : Bool), ops[i]? = some oi → oi.guard = some (g, b) → g < ops.size ∧ ∃ e ∈ oi.after, Region.binds .any e = true ∧ e.on = g
theorem fine_spec {n : Nat} (h : fine ops n = true) : Fine ops n := by
  have key : ∀ (i : Nat) (oi : Oper), ops[i]? = some oi →
      (((match oi.dst with | none => false | some d => decide (d < n) && (List.range ops.size).all fun j => j == i || match ops[j]? with | none => true | some oj => oj.dst != some d) = true ∧
        oi.after.all (fun e => !Region.binds .any e || decide (e.on < i)) = true) ∧
        (oi.op.operands.toList.all fun x => match x with
          | .tmp t => (List.range ops.size).all fun j => match ops[j]? with | none => true | some oj => oj.dst != some t || oi.after.any fun e => Region.binds .any e && e.on == j
          | _ => true) = true) ∧
        (match oi.guard with | none => true | some (g, _) => decide (g < ops.size) && oi.after.any fun e => Region.binds .any e && e.on == g) = true := fun i oi hi => by
    have h1 := List.all_eq_true.1 h i (List.mem_range.2 (Array.getElem?_eq_some_iff.1 hi).1)
    simp only [hi, Bool.and_eq_true] at h1
    exact h1
  refine ⟨fun i oi hi => ?_, fun i oi hi e he hb => ?_, fun i oi hi t ht j oj hj hd => ?_, fun i oi g b hi hg => ?_⟩
  · have h1 := (key i oi hi).1.1.1
    cases hd : oi.dst with
    | none => rw [hd] at h1; cases h1
    | some d =>
      rw [hd] at h1
      simp only [Bool.and_eq_true, decide_eq_true_eq] at h1
      refine ⟨d, rfl, h1.1, fun j oj hj hji => ?_⟩
      have h2 := List.all_eq_true.1 h1.2 j (List.mem_range.2 (Array.getElem?_eq_some_iff.1 hj).1)
      simp only [hj, Bool.or_eq_true, beq_iff_eq, hji, false_or] at h2
      simpa using h2
  · have h1 := Array.all_eq_true_iff_forall_mem.1 (key i oi hi).1.1.2 e he
    simpa [hb] using h1
  · have h1 := List.all_eq_true.1 (key i oi hi).1.2 (.tmp t) (by simpa using ht)
    have h2 := List.all_eq_true.1 h1 j (List.mem_range.2 (Array.getElem?_eq_some_iff.1 hj).1)
    simp only [hj, hd, bne_self_eq_false, Bool.false_or] at h2
    obtain ⟨e, he, hb⟩ := Array.any_eq_true'.1 h2
    simp only [Bool.and_eq_true, beq_iff_eq] at hb
    exact ⟨e, he, hb.1, hb.2⟩
  · have h1 := (key i oi hi).2
    rw [hg] at h1
    simp only [Bool.and_eq_true, decide_eq_true_eq] at h1
    obtain ⟨e, he, hb⟩ := Array.any_eq_true'.1 h1.2
    simp only [Bool.and_eq_true, beq_iff_eq] at hb
    exact ⟨h1.1, e, he, hb.1, hb.2⟩

/-- What holds whatever has come up. -/
structure Inv (ops : Array Oper) (a0 : Act) (W0 : World) (φ : Nat → Value → World → Prop) (listed : Array Bool) (a : Act) (w : World) : Prop where
  defers : a.defers = a0.defers
  size : a.tmps.size = a0.tmps.size
  old : ∀ t, outer ops t = true → a.tmps[t]? = a0.tmps[t]?
  new : ∀ (j : Nat) (oj : Oper) (d : Tmp), ops[j]? = some oj → listed.getD j false = true → oj.dst = some d → ∃ v, a.tmps[d]? = some v ∧ φ j v w
  below : Below W0.heap.size W0 w

theorem outer_ne {t : Tmp} (h : outer ops t = true) {j : Nat} {oj : Oper} (hj : ops[j]? = some oj) : oj.dst ≠ some t := by
  have := Array.all_eq_true_iff_forall_mem.1 h oj (Array.mem_of_getElem? hj)
  simpa using this

theorem Inv.src {listed : Array Bool} {a : Act} {w : World} (h : Inv ops a0 W0 φ listed a w) (hF : Fine ops a0.tmps.size) {i : Nat} {oi : Oper} (hi : ops[i]? = some oi)
    (hl : ∀ e ∈ oi.after, Region.binds .any e = true → listed.getD e.on false = true) {x : Operand} (hx : x ∈ oi.op.operands) : Src ops a0 φ x (a.eval x) w := by
  refine ⟨fun t ht j oj hj hd => ?_, fun ht => ?_⟩
  · subst ht
    obtain ⟨e, he, hb, hon⟩ := hF.looks i oi hi t hx j oj hj hd
    have hlj := hl e he hb
    rw [hon] at hlj
    obtain ⟨v, hv, hp⟩ := h.new j oj t hj hlj hd
    have e2 : a.eval (.tmp t) = v := by simp [Act.eval, hv]
    rw [e2]
    exact hp
  · cases x with
    | tmp t =>
      have := h.old t (ht t rfl)
      simp [Act.eval, this]
    | _ => rfl

theorem Inv.put {listed : Array Bool} {a : Act} {w w' : World} (h : Inv ops a0 W0 φ listed a w) (hF : Fine ops a0.tmps.size) (hup : ∀ j v w w', φ j v w → Below w.heap.size w w' → φ j v w')
    {i : Nat} {oi : Oper} (hi : ops[i]? = some oi) {v : Value} (hb : Below w.heap.size w w') (hv : φ i v w') : Inv ops a0 W0 φ (listed.setIfInBounds i true) (a.put oi.dst v) w' := by
  obtain ⟨d, hd, hdn, hne⟩ := hF.dst i oi hi
  rw [hd]
  refine ⟨h.defers, by simpa [Act.put] using h.size, fun t ht => ?_, fun j oj dj hj hl hdj => ?_, h.below.trans (hb.mono h.below.size)⟩
  · have hdt : d ≠ t := fun e => outer_ne ht hi (e ▸ hd)
    show (a.tmps.setIfInBounds d v)[t]? = _
    rw [Array.getElem?_setIfInBounds_ne hdt]
    exact h.old t ht
  · by_cases hji : j = i
    · subst hji
      rw [hi] at hj
      cases hj
      rw [hd] at hdj
      cases hdj
      refine ⟨v, ?_, hv⟩
      show (a.tmps.setIfInBounds d v)[d]? = _
      rw [Array.getElem?_setIfInBounds_self_of_lt (by rw [h.size]; exact hdn)]
    · have hdd : d ≠ dj := fun e => hne j oj hj hji (e ▸ hdj)
      obtain ⟨u, hu, hp⟩ := h.new j oj dj hj (by rwa [getD_set_ne false (Ne.symm hji)] at hl) hdj
      refine ⟨u, ?_, hup j u w w' hp hb⟩
      show (a.tmps.setIfInBounds d v)[dj]? = _
      rw [Array.getElem?_setIfInBounds_ne hdd]
      exact hu

theorem getD_replicate_false' (m j : Nat) : (Array.replicate m false).getD j false = false := by
  rcases Nat.lt_or_ge j m with h | h
  · simp [h]
  · simp [h]
theorem countP_lt {p q : Nat → Bool} : ∀ {l : List Nat} {i : Nat}, (∀ x ∈ l, q x = true → p x = true) → i ∈ l → p i = true → q i = false → l.countP q < l.countP p
  | x :: l, i, h, hi, hp, hq => by
    have hle : l.countP q ≤ l.countP p := List.countP_mono_left (fun y hy => h y (by simp [hy]))
    rw [List.countP_cons, List.countP_cons]
    rcases List.mem_cons.1 hi with rfl | hi
    · simp only [hp, hq, if_true, Bool.false_eq_true, if_false]; omega
    · have := countP_lt (fun y hy => h y (by simp [hy])) hi hp hq
      have hx := h x (by simp)
      by_cases hqx : q x = true
      · simp only [hqx, hx hqx, if_true]; omega
      · rw [if_neg hqx]; split <;> omega

/-- THE LAW: each operation runs; at the end all values are known. -/
theorem region_by_ops {id : Nat} {w : World} (hm : P.follows .mixedOrders = true) (φ : Nat → Value → World → Prop) (hup : ∀ j v w w', φ j v w → Below w.heap.size w w' → φ j v w')
    (hfine : fine ops a0.tmps.size = true)
    (hops : ∀ (i : Nat) (oi : Oper), ops[i]? = some oi → ∀ (ρ : Operand → Value) (w' : World), Below w.drew.heap.size w.drew w' → (∀ x ∈ oi.op.operands, Src ops a0 φ x (ρ x) w') → Runs P oi ρ w' (φ i))
    (hgd : ∀ (i : Nat) (oi : Oper), ops[i]? = some oi → ∀ (g : Nat) (b : Bool), oi.guard = some (g, b) → ∀ v w, φ g v w → v = .bool b)
    (hend : ∀ a w', a.defers = a0.defers → a.tmps.size = a0.tmps.size → (∀ t, outer ops t = true → a.tmps[t]? = a0.tmps[t]?) →
      (∀ (j : Nat) (oj : Oper) (d : Tmp), ops[j]? = some oj → oj.dst = some d → ∃ v, a.tmps[d]? = some v ∧ φ j v w') → Below w.drew.heap.size w.drew w' → Q .normal a w') :
    (Code.region id ops true).wp P Q a0 w := by
  have hF := fine_spec hfine
  have hready : ∀ listed : Array Bool, listed.size = ops.size → Region.ready .any ops listed = [] → ∀ j, j < ops.size → listed.getD j false = true := by
    intro listed hsz hr j
    induction j using Nat.strongRecOn with
    | _ j ih =>
      intro hj
      cases hl : listed.getD j false with
      | true => rfl
      | false =>
        exfalso
        obtain ⟨oj, hoj⟩ : ∃ oj, ops[j]? = some oj := ⟨ops[j], Array.getElem?_eq_getElem hj⟩
        have hmem : j ∈ Region.ready .any ops listed := by
          rw [mem_ready]
          refine ⟨?_, oj, hoj, fun e he hb => ih e.on (hF.up j oj hoj e he hb) (Nat.lt_trans (hF.up j oj hoj e he hb) hj)⟩
          simp [show j < listed.size by omega] at hl ⊢
          exact hl
        rw [hr] at hmem
        cases hmem
  have main : ∀ (fuel : Nat) (listed : Array Bool) (a : Act) (w' : World), listed.size = ops.size → (List.range ops.size).countP (fun j => !listed.getD j true) ≤ fuel → Inv ops a0 w.drew φ listed a w' → wpAny P .any ops Q fuel listed a w' := by
    intro fuel
    have fin : ∀ (listed : Array Bool) (a : Act) (w' : World), listed.size = ops.size → Inv ops a0 w.drew φ listed a w' → Region.ready .any ops listed = [] → Q .normal a w' := fun listed a w' hsz hI hr =>
      hend a w' hI.defers hI.size hI.old (fun j oj d hj hd => hI.new j oj d hj (hready listed hsz hr j (Array.getElem?_eq_some_iff.1 hj).1) hd) hI.below
    induction fuel with
    | zero =>
      intro listed a w' hsz hc hI
      have hr : Region.ready .any ops listed = [] := by
        cases hq : Region.ready .any ops listed with
        | nil => rfl
        | cons i t =>
          exfalso
          have hi : i ∈ Region.ready .any ops listed := by rw [hq]; simp
          obtain ⟨h0, oi, hoi, _⟩ := mem_ready.1 hi
          have hpos := (List.countP_pos_iff (p := fun j => !listed.getD j true) (l := List.range ops.size)).2 ⟨i, List.mem_range.2 (Array.getElem?_eq_some_iff.1 hoi).1, by simp only [h0, Bool.not_false]⟩
          omega
      exact ⟨hr, fin listed a w' hsz hI hr⟩
    | succ fuel ih =>
      intro listed a w' hsz hc hI
      refine ⟨fin listed a w' hsz hI, fun i hi => ?_⟩
      obtain ⟨h0, oi, hoi, hl⟩ := mem_ready.1 hi
      have hil := (Array.getElem?_eq_some_iff.1 hoi).1
      have hrun := hops i oi hoi a.eval w' hI.below (fun x hx => hI.src hF hoi hl hx)
      have hwant : Region.wanted oi (yielded ops a.tmps) = true := by
        unfold Region.wanted
        cases hg : oi.guard with
        | none => rfl
        | some gb =>
          obtain ⟨g, b⟩ := gb
          obtain ⟨hgs, e, he, hb, hon⟩ := hF.guard i oi g b hoi hg
          obtain ⟨og, hog⟩ : ∃ og, ops[g]? = some og := ⟨ops[g], Array.getElem?_eq_getElem hgs⟩
          obtain ⟨d, hd, _⟩ := hF.dst g og hog
          have hlg := hl e he hb
          rw [hon] at hlg
          obtain ⟨v, hv, hp⟩ := hI.new g og d hog hlg hd
          have := hgd i oi hoi g b hg v w' hp
          subst this
          simp [yielded, hog, hd, hv]
      have hnext : ∀ v w2, Below w'.heap.size w' w2 → φ i v w2 → wpAny P .any ops Q fuel (listed.setIfInBounds i true) (a.put oi.dst v) w2 := fun v w2 hb hv => by
        refine ih _ _ _ (by simpa using hsz) ?_ (hI.put hF hup hoi hb hv)
        have := countP_lt (p := fun j => !listed.getD j true) (q := fun j => !(listed.setIfInBounds i true).getD j true) (l := List.range ops.size) (i := i)
          (fun x _ hx => by
            by_cases hxi : x = i
            · subst hxi; simp [show x < listed.size by omega] at hx
            · rwa [getD_set_ne true (Ne.symm hxi)] at hx) (List.mem_range.2 hil) (by simp only [h0, Bool.not_false]) (by simp [show i < listed.size by omega])
        omega
      unfold wpOp
      simp only [hoi, hwant, if_true]
      left
      unfold Oper.wp
      unfold Runs at hrun
      generalize (execOp a.eval oi).run P w' = r at hrun
      cases r with
      | ok n w2 =>
        cases n with
        | value v => exact hnext v w2 hrun.1 hrun.2
        | enter f args =>
          obtain ⟨rfl, hc2⟩ := hrun
          exact hc2.mono fun e w3 ⟨v, he, hb, hv⟩ => by subst he; exact hnext v w3 hb hv
        | _ => exact hrun.elim
      | halt x w2 => exact hrun.elim
  refine wp_region_any hm (main _ _ _ _ (by simp) ?_ ⟨rfl, rfl, fun _ _ => rfl, fun j oj d hj hl => ?_, Below.refl _ _⟩)
  · exact Nat.le_trans List.countP_le_length (by simp)
  · rw [getD_replicate_false'] at hl; cases hl

/-- .. where some operations are skipped, for their guards are false. -/
theorem region_by_sk {id : Nat} {w : World} (hm : P.follows .mixedOrders = true) (φ : Nat → Value → World → Prop) (hup : ∀ j v w w', φ j v w → Below w.heap.size w w' → φ j v w')
    (hfine : fine ops a0.tmps.size = true)
    (sk : Nat → Bool)
    (hops : ∀ (i : Nat) (oi : Oper), ops[i]? = some oi → sk i = false → ∀ (ρ : Operand → Value) (w' : World), Below w.drew.heap.size w.drew w' → (∀ x ∈ oi.op.operands, Src ops a0 φ x (ρ x) w') → Runs P oi ρ w' (φ i))
    (hsk : ∀ (i : Nat) (oi : Oper), ops[i]? = some oi → sk i = true → oi.guard ≠ none ∧ ∀ w, φ i undef w)
    (hgd : ∀ (i : Nat) (oi : Oper), ops[i]? = some oi → ∀ (g : Nat) (b : Bool), oi.guard = some (g, b) → ∀ v w, φ g v w → (sk i = false → v = .bool b) ∧ (sk i = true → v = .bool (!b) ∨ v = undef))
    (hend : ∀ a w', a.defers = a0.defers → a.tmps.size = a0.tmps.size → (∀ t, outer ops t = true → a.tmps[t]? = a0.tmps[t]?) →
      (∀ (j : Nat) (oj : Oper) (d : Tmp), ops[j]? = some oj → oj.dst = some d → ∃ v, a.tmps[d]? = some v ∧ φ j v w') → Below w.drew.heap.size w.drew w' → Q .normal a w') :
    (Code.region id ops true).wp P Q a0 w := by
  have hF := fine_spec hfine
  have hready : ∀ listed : Array Bool, listed.size = ops.size → Region.ready .any ops listed = [] → ∀ j, j < ops.size → listed.getD j false = true := by
    intro listed hsz hr j
    induction j using Nat.strongRecOn with
    | _ j ih =>
      intro hj
      cases hl : listed.getD j false with
      | true => rfl
      | false =>
        exfalso
        obtain ⟨oj, hoj⟩ : ∃ oj, ops[j]? = some oj := ⟨ops[j], Array.getElem?_eq_getElem hj⟩
        have hmem : j ∈ Region.ready .any ops listed := by
          rw [mem_ready]
          refine ⟨?_, oj, hoj, fun e he hb => ih e.on (hF.up j oj hoj e he hb) (Nat.lt_trans (hF.up j oj hoj e he hb) hj)⟩
          simp [show j < listed.size by omega] at hl ⊢
          exact hl
        rw [hr] at hmem
        cases hmem
  have main : ∀ (fuel : Nat) (listed : Array Bool) (a : Act) (w' : World), listed.size = ops.size → (List.range ops.size).countP (fun j => !listed.getD j true) ≤ fuel → Inv ops a0 w.drew φ listed a w' → wpAny P .any ops Q fuel listed a w' := by
    intro fuel
    have fin : ∀ (listed : Array Bool) (a : Act) (w' : World), listed.size = ops.size → Inv ops a0 w.drew φ listed a w' → Region.ready .any ops listed = [] → Q .normal a w' := fun listed a w' hsz hI hr =>
      hend a w' hI.defers hI.size hI.old (fun j oj d hj hd => hI.new j oj d hj (hready listed hsz hr j (Array.getElem?_eq_some_iff.1 hj).1) hd) hI.below
    induction fuel with
    | zero =>
      intro listed a w' hsz hc hI
      have hr : Region.ready .any ops listed = [] := by
        cases hq : Region.ready .any ops listed with
        | nil => rfl
        | cons i t =>
          exfalso
          have hi : i ∈ Region.ready .any ops listed := by rw [hq]; simp
          obtain ⟨h0, oi, hoi, _⟩ := mem_ready.1 hi
          have hpos := (List.countP_pos_iff (p := fun j => !listed.getD j true) (l := List.range ops.size)).2 ⟨i, List.mem_range.2 (Array.getElem?_eq_some_iff.1 hoi).1, by simp only [h0, Bool.not_false]⟩
          omega
      exact ⟨hr, fin listed a w' hsz hI hr⟩
    | succ fuel ih =>
      intro listed a w' hsz hc hI
      refine ⟨fin listed a w' hsz hI, fun i hi => ?_⟩
      obtain ⟨h0, oi, hoi, hl⟩ := mem_ready.1 hi
      have hil := (Array.getElem?_eq_some_iff.1 hoi).1
      have hwant : Region.wanted oi (yielded ops a.tmps) = !sk i := by
        unfold Region.wanted
        cases hg : oi.guard with
        | none =>
          cases hs : sk i with
          | false => rfl
          | true => exact absurd hg (hsk i oi hoi hs).1
        | some gb =>
          obtain ⟨g, b⟩ := gb
          obtain ⟨hgs, e, he, hb, hon⟩ := hF.guard i oi g b hoi hg
          obtain ⟨og, hog⟩ : ∃ og, ops[g]? = some og := ⟨ops[g], Array.getElem?_eq_getElem hgs⟩
          obtain ⟨d, hd, _⟩ := hF.dst g og hog
          have hlg := hl e he hb
          rw [hon] at hlg
          obtain ⟨v, hv, hp⟩ := hI.new g og d hog hlg hd
          have hvv := hgd i oi hoi g b hg v w' hp
          cases hs : sk i with
          | false =>
            have := hvv.1 hs
            subst this
            simp [yielded, hog, hd, hv]
          | true =>
            rcases hvv.2 hs with h2 | h2
            · subst h2
              cases b <;> simp [yielded, hog, hd, hv]
            · subst h2
              simp [yielded, hog, hd, hv, undef]
      have hnext : ∀ v w2, Below w'.heap.size w' w2 → φ i v w2 → wpAny P .any ops Q fuel (listed.setIfInBounds i true) (a.put oi.dst v) w2 := fun v w2 hb hv => by
        refine ih _ _ _ (by simpa using hsz) ?_ (hI.put hF hup hoi hb hv)
        have := countP_lt (p := fun j => !listed.getD j true) (q := fun j => !(listed.setIfInBounds i true).getD j true) (l := List.range ops.size) (i := i)
          (fun x _ hx => by
            by_cases hxi : x = i
            · subst hxi; simp [show x < listed.size by omega] at hx
            · rwa [getD_set_ne true (Ne.symm hxi)] at hx) (List.mem_range.2 hil) (by simp only [h0, Bool.not_false]) (by simp [show i < listed.size by omega])
        omega
      unfold wpOp
      cases hs : sk i with
      | true =>
        rw [hs] at hwant
        simp only [hoi, hwant, Bool.not_true, if_false]
        exact hnext undef w' (Below.refl _ _) ((hsk i oi hoi hs).2 w')
      | false =>
      have hrun := hops i oi hoi hs a.eval w' hI.below (fun x hx => hI.src hF hoi hl hx)
      rw [hs] at hwant
      simp only [hoi, hwant, Bool.not_false, if_true]
      left
      unfold Oper.wp
      unfold Runs at hrun
      generalize (execOp a.eval oi).run P w' = r at hrun
      cases r with
      | ok n w2 =>
        cases n with
        | value v => exact hnext v w2 hrun.1 hrun.2
        | enter f args =>
          obtain ⟨rfl, hc2⟩ := hrun
          exact hc2.mono fun e w3 ⟨v, he, hb, hv⟩ => by subst he; exact hnext v w3 hb hv
        | _ => exact hrun.elim
      | halt x w2 => exact hrun.elim
  refine wp_region_any hm (main _ _ _ _ (by simp) ?_ ⟨rfl, rfl, fun _ _ => rfl, fun j oj d hj hl => ?_, Below.refl _ _⟩)
  · exact Nat.le_trans List.countP_le_length (by simp)
  · rw [getD_replicate_false'] at hl; cases hl

theorem runs_value {o : Oper} {ρ : Operand → Value} {w w' : World} {v : Value} {K : Value → World → Prop} (h : (execOp ρ o).run P w = .ok (.value v) w') (hb : Below w.heap.size w w') (hk : K v w') : Runs P o ρ w K := by
  unfold Runs; rw [h]; exact ⟨hb, hk⟩
theorem runs_enter {o : Oper} {ρ : Operand → Value} {w : World} {f : FuncId} {args : Array Value} {K : Value → World → Prop} (h : (execOp ρ o).run P w = .ok (.enter f args) w)
    (hc : Calls P f args w fun e w'' => ∃ v, e = .returned v ∧ Below w.heap.size w w'' ∧ K v w'') : Runs P o ρ w K := by
  unfold Runs; rw [h]; exact ⟨rfl, hc⟩

/-- What is known of a value, for good. -/
structure Fact where
  p : Value → World → Prop
  up : ∀ v w w', p v w → Below w.heap.size w w' → p v w'
def Fact.val (u : Value) : Fact := ⟨fun v _ => v = u, fun _ _ _ h _ => h⟩
def Fact.un : Fact := ⟨fun v _ => v = undef, fun _ _ _ h _ => h⟩
def Fact.no : Fact := ⟨fun _ _ => False, fun _ _ _ h _ => h⟩
def facts (F : List Fact) (j : Nat) : Value → World → Prop := (F.getD j Fact.no).p
theorem facts_up (F : List Fact) (j : Nat) (v : Value) (w w' : World) (h : facts F j v w) (hb : Below w.heap.size w w') : facts F j v w' := (F.getD j Fact.no).up v w w' h hb

def AllFrom (G : Nat → Oper → Prop) : Nat → List Oper → Prop
  | _, [] => True
  | k, o :: l => G k o ∧ AllFrom G (k + 1) l
theorem all_from {G : Nat → Oper → Prop} : ∀ (l : List Oper) (k : Nat), AllFrom G k l → ∀ (i : Nat) (o : Oper), l[i]? = some o → G (k + i) o
  | [], _, _, i, o, h => by simp at h
  | x :: l, k, hA, i, o, h => by
    cases i with
    | zero => simp at h; subst h; exact hA.1
    | succ i =>
      have := all_from l (k + 1) hA.2 i o (by simpa using h)
      rwa [Nat.add_assoc, Nat.add_comm 1 i] at this
theorem all_ops {G : Nat → Oper → Prop} {l : List Oper} (h : AllFrom G 0 l) (i : Nat) (o : Oper) (hi : l.toArray[i]? = some o) : G i o := by
  have := all_from l 0 h i o (by simpa using hi)
  rwa [Nat.zero_add] at this

theorem act_eq : ∀ (ps : List (Tmp × Value)) (a a0 : Act), a.defers = a0.defers → a.tmps.size = a0.tmps.size → (∀ t, t ∉ ps.map (·.1) → a.tmps[t]? = a0.tmps[t]?) → (∀ p ∈ ps, a.tmps[p.1]? = some p.2) →
    a = ps.foldl (fun a p => a.put (some p.1) p.2) a0
  | [], a, a0, h1, h2, h3, _ => by
    obtain ⟨t, d⟩ := a
    obtain ⟨t0, d0⟩ := a0
    dsimp only at h1 h2 h3
    subst h1
    have : t = t0 := Array.ext_getElem? (fun i => h3 i (by simp))
    rw [this]
    rfl
  | p :: ps, a, a0, h1, h2, h3, h4 => by
    refine act_eq ps a (a0.put (some p.1) p.2) h1 (by simpa [Act.put] using h2) (fun t ht => ?_) (fun q hq => h4 q (by simp [hq]))
    have hp := h4 p (by simp)
    have hlt : p.1 < a0.tmps.size := by rw [← h2]; exact (Array.getElem?_eq_some_iff.1 hp).1
    by_cases e : p.1 = t
    · subst e
      show _ = (a0.tmps.setIfInBounds p.1 p.2)[p.1]?
      rw [Array.getElem?_setIfInBounds_self_of_lt hlt, hp]
    · show _ = (a0.tmps.setIfInBounds p.1 p.2)[t]?
      rw [Array.getElem?_setIfInBounds_ne e]
      exact h3 t (by simp only [List.map_cons, List.mem_cons, not_or]; exact ⟨fun h => e h.symm, ht⟩)
theorem outer_of {l : List Oper} {ts : List Tmp} (h : l.map (·.dst) = ts.map some) {t : Tmp} (ht : t ∉ ts) : outer l.toArray t = true := by
  unfold outer
  rw [Array.all_eq_true_iff_forall_mem]
  intro o ho
  have h1 : o.dst ∈ ts.map some := by rw [← h]; exact List.mem_map.2 ⟨o, by simpa using ho, rfl⟩
  obtain ⟨u, hu, e⟩ := List.mem_map.1 h1
  simp only [bne_iff_ne, ne_eq]
  rw [← e]
  intro e2
  injection e2 with e2
  exact ht (e2 ▸ hu)
end
end Go.Proofs.Ytpncgcaepdkcnaa.ByOps
