/- A range over a function: a law for iterators that themselves range over others, of rounds that go on always, of as many values as it hands on: each side names the blocks that are its own. Nothing here knows the program. -/
import Derived.RangeFuncNested
import Derived.RangeFuncLeaves
import Derived.Test.YtcihcdifjnobjaaKit
set_option linter.unusedSimpArgs false
set_option linter.unusedVariables false
namespace Go.Proofs.Ytcihcdifjnobjaa
open Go.RowKit

/-- What is in none of the blocks 'own' is as it was. -/
structure Turned (own : List Nat) (W W' : World) : Prop where
  os : W'.os = W.os
  tape : W'.tape = W.tape
  output : W'.output = W.output
  size : W.heap.size ≤ W'.heap.size
  block : ∀ k, k < W.heap.size → k ∉ own → W'.heap[k]? = W.heap[k]?
/-- What lies below B, or in one of the blocks 'own', is as it was. -/
structure Quiet (B : Nat) (own : List Nat) (W W' : World) : Prop where
  os : W'.os = W.os
  tape : W'.tape = W.tape
  output : W'.output = W.output
  size : W.heap.size ≤ W'.heap.size
  block : ∀ k, k < W.heap.size → (k < B ∨ k ∈ own) → W'.heap[k]? = W.heap[k]?
/-- own' has nothing more of W's blocks than own. -/
def Fewer (own own' : List Nat) (W : World) : Prop := ∀ k ∈ own', k < W.heap.size → k ∈ own

theorem Turned.refl (own : List Nat) (W : World) : Turned own W W := ⟨rfl, rfl, rfl, Nat.le_refl _, fun _ _ _ => rfl⟩
theorem Fewer.refl (own : List Nat) (W : World) : Fewer own own W := fun _ h _ => h
theorem Turned.trans {own own' : List Nat} {A B C : World} (h : Turned own A B) (hf : Fewer own own' A) (k : Turned own' B C) : Turned own A C :=
  ⟨k.os.trans h.os, k.tape.trans h.tape, k.output.trans h.output, Nat.le_trans h.size k.size, fun i hi hn => (k.block i (Nat.lt_of_lt_of_le hi h.size) (fun hm => hn (hf i hm hi))).trans (h.block i hi hn)⟩
theorem Fewer.trans {own own' own2 : List Nat} {A B : World} (h : Fewer own own' A) (hs : A.heap.size ≤ B.heap.size) (k : Fewer own' own2 B) : Fewer own own2 A := fun i hi hlt => h i (k i hi (Nat.lt_of_lt_of_le hlt hs)) hlt
theorem Turned.below {own : List Nat} {A B : World} (h : Below A.heap.size A B) : Turned own A B := ⟨h.os, h.tape, h.output, h.size, fun k hk _ => h.block k hk⟩
theorem Turned.ofBelow {own : List Nat} {A B C : World} (h : Turned own A B) (k : Below B.heap.size B C) : Turned own A C := ⟨k.os.trans h.os, k.tape.trans h.tape, k.output.trans h.output, Nat.le_trans h.size k.size, fun i hi hn => (k.block i (Nat.lt_of_lt_of_le hi h.size)).trans (h.block i hi hn)⟩
theorem Turned.atBelow {own : List Nat} {A B C : World} (h : Below A.heap.size A B) (k : Turned own B C) : Turned own A C := ⟨k.os.trans h.os, k.tape.trans h.tape, k.output.trans h.output, Nat.le_trans h.size k.size, fun i hi hn => (k.block i (Nat.lt_of_lt_of_le hi h.size) hn).trans (h.block i hi)⟩
theorem Fewer.atBelow {own own' : List Nat} {A B : World} (h : A.heap.size ≤ B.heap.size) (k : Fewer own own' B) : Fewer own own' A := fun i hi hlt => k i hi (Nat.lt_of_lt_of_le hlt h)
theorem Quiet.below {Bd : Nat} {own : List Nat} {A B : World} (h : Below A.heap.size A B) : Quiet Bd own A B := ⟨h.os, h.tape, h.output, h.size, fun k hk _ => h.block k hk⟩
theorem Quiet.trans {Bd : Nat} {own : List Nat} {A B C : World} (h : Quiet Bd own A B) (k : Quiet Bd own B C) : Quiet Bd own A C := ⟨k.os.trans h.os, k.tape.trans h.tape, k.output.trans h.output, Nat.le_trans h.size k.size, fun i hi hn => (k.block i (Nat.lt_of_lt_of_le hi h.size) hn).trans (h.block i hi hn)⟩
theorem Quiet.mono {Bd Bd' : Nat} {own own' : List Nat} {A B : World} (h : Quiet Bd own A B) (hB : Bd' ≤ Bd) (ho : ∀ k ∈ own', k ∈ own) : Quiet Bd' own' A B := ⟨h.os, h.tape, h.output, h.size, fun k hk hn => h.block k hk (hn.imp (fun e => Nat.lt_of_lt_of_le e hB) (ho k))⟩
/-- A block that is no one's of these, turned. -/
theorem Quiet.put {Bd : Nat} {own : List Nat} {W : World} {r : Nat} (o : Obj) (h1 : Bd ≤ r) (h2 : r ∉ own) : Quiet Bd own W (W.putObj r o) := ⟨rfl, rfl, rfl, by simp, fun k hk hn => World.putObj_heap_other (fun e => by subst e; rcases hn with hn | hn; omega; exact h2 hn)⟩
theorem Turned.put {own : List Nat} {W : World} {r : Nat} (o : Obj) (h : r ∈ own) : Turned own W (W.putObj r o) := ⟨rfl, rfl, rfl, by simp, fun k hk hn => World.putObj_heap_other (fun e => by subst e; exact hn h)⟩
theorem below_put {B : Nat} {W : World} {r : Nat} (o : Obj) (h : B ≤ r) : Below B W (W.putObj r o) := ⟨rfl, rfl, rfl, by simp, fun k hk => World.putObj_heap_other (fun e => by omega)⟩
theorem Turned.toBelow {own : List Nat} {A B : World} {b : Nat} (h : Turned own A B) (hb : b ≤ A.heap.size) (ho : ∀ k ∈ own, b ≤ k) : Below b A B := ⟨h.os, h.tape, h.output, h.size, fun k hk => h.block k (by omega) (fun hm => by have := ho k hm; omega)⟩

/-- What an iterator promises: each of xs in its order to a body that goes on. -/
def IterOk {α : Type} (Pr : Program) (gf : Nat) (args : Nat → Array Value) (enc : α → Array Value) (xs : List α) (Keep : Nat → Prop) (w : World) : Prop :=
  ∀ (l : Nat) (J : List α → List Nat → World → Prop) (own0 : List Nat) (W : World), Below w.heap.size w W →
    (∀ pre own A B, J pre own A → Quiet W.heap.size own A B → J pre own B) → (∀ pre own A, J pre own A → ∀ k ∈ own, k < A.heap.size) →
    (∀ m pre x own A, J pre own A → (pre ++ [x]) <+: xs → YieldAt Fence.wide m Pr l (enc x) A fun e A' => e = .returned (.bool true) ∧ ∃ own', J (pre ++ [x]) own' A' ∧ Turned own A A' ∧ Fewer own own' A) →
    (∀ k ∈ own0, ¬ Keep k) → J [] own0 W →
    CallsIn Fence.wide 0 Pr gf (args l) W fun e W' => (∃ v, e = .returned v) ∧ ∃ own', J xs own' W' ∧ Turned own0 W W' ∧ Fewer own0 own' W

def goesOn (R : World → Prop) : Exit → Act → World → Prop
  | .normal, _, W => R W
  | _, _, _ => False

theorem wide_any {n m : Nat} {Pr : Program} {f : FuncId} {args : Array Value} {w : World} {R : Ending → World → Prop} (h : CallsIn Fence.wide n Pr f args w R) : CallsIn Fence.wide m Pr f args w R := callsIn_wide.2 (callsIn_wide.1 h)

/-- The statement, where the loop's variable lies in no box. -/
theorem wp_range_bare {α : Type} {Pr : Program} {g : Operand} {ps : Array Tmp} {assign body : Code} {Q : Exit → Act → World → Prop} {a : Act} {w : World} {gf : Nat} {bnd lb : Array Value} (hg : a.eval g = .func (.func gf) bnd lb)
    (eg : ∀ args w, (callFunc gf args).run Pr w = .ok (.enter gf args) w) {enc : α → Array Value} {xs : List α} {Keep : Nat → Prop} {w0 : World}
    (hit : IterOk Pr gf (fun l => bnd ++ #[.func (.yield l) #[] #[]] ++ lb) enc xs Keep w0) (hb0 : Below w0.heap.size w0 w) (hps : ∀ x, (enc x).size = ps.size)
    (I : List α → List Nat → World → Prop) (hI : ∀ pre own A B, I pre own A → Quiet w.heap.size own A B → I pre own B) (hlt : ∀ pre own A, I pre own A → ∀ k ∈ own, k < A.heap.size)
    (own0 : List Nat) (h0 : I [] own0 w) (hk1 : ∀ k, w.heap.size ≤ k → ¬ Keep k) (hk2 : ∀ k ∈ own0, ¬ Keep k) (a₁ : α → Act)
    (hassign : ∀ (m l : Nat) (x : α) (W : World) (K : Act → World → Prop), K (a₁ x) W →
      assign.wpIn (Fence.wide.inRound l) m Pr (Exit.then K (fun _ _ _ => False)) { tmps := (ps.zip (enc x)).foldl (fun t (p, v) => t.setIfInBounds p v) a.tmps, defers := [] } W)
    (hbody : ∀ (m l : Nat) (pre : List α) (x : α) (own : List Nat) (W : World), (pre ++ [x]) <+: xs → I pre own W →
      body.wpIn (Fence.wide.inRound l) m Pr (goesOn (fun W' => ∃ own', I (pre ++ [x]) own' W' ∧ Turned own W W' ∧ Fewer own own' W)) (a₁ x) W)
    (hdone : ∀ (D : Nat) (own : List Nat) (W : World), I xs own W → Turned own0 w W → Fewer own0 own w → w.heap.size ≤ D → D < W.heap.size → D ∉ own → W.heap[D]? = some (.deferred (some [])) →
      Q .normal { a with defers := { target := .collected D, args := #[] } :: a.defers } W) :
    (Code.rangeFunc g ps assign body).wp Pr Q a w := by
  refine (wpIn_wide (n := 0)).1 (wpIn_rangeFunc ?_)
  intro fn hfn
  rw [show Fence.wide.round = none from rfl]
  obtain ⟨rec, hrec⟩ : ∃ rec : LoopState → Option Code → Loop, rec = fun st pe => { state := st, pending := pe, fn, tmps := a.tmps, params := ps, assign, body, defers := w.heap.size } := ⟨_, rfl⟩
  obtain ⟨W1, hW1⟩ : ∃ W1, (w.alloc (.deferred (some []))).alloc (.loop (rec .ready none)) = W1 := ⟨_, rfl⟩
  have hs1 : W1.heap.size = w.heap.size + 2 := by rw [← hW1]; simp
  have hL1 : W1.heap[w.heap.size + 1]? = some (.loop (rec .ready none)) := by
    rw [← hW1]; have := World.alloc_heap_new (w.alloc (.deferred (some []))) (.loop (rec .ready none)); rwa [World.size_alloc] at this
  have hK1 : W1.heap[w.heap.size]? = some (.deferred (some [])) := by
    rw [← hW1]; exact (Below.heap_alloc _ _ _ (by simp)).trans (World.alloc_heap_new w _)
  have hbw : Below w.heap.size w W1 := by rw [← hW1]; exact ((Below.refl _ w).alloc (Nat.le_refl _) _).alloc (by simp) _
  have hlo : ∀ k ∈ own0, k < w.heap.size := hlt _ _ _ h0
  refine ⟨w.heap.size + 1, [{ target := .collected w.heap.size, args := #[] }], W1, { target := .fn (.func gf) lb, args := bnd ++ #[.func (.yield (w.heap.size + 1)) #[] #[]] }, W1, gf,
    bnd ++ #[.func (.yield (w.heap.size + 1)) #[] #[]] ++ lb, W1, ?_, ?_, ?_, ?_, fun h => (by simp [Fence.wide] at h), wide_any (n := 0) ?_⟩
  · rw [← hW1, hrec]; exact run_enterLoop_outer _ _ _ _ _
  · simp only [resolve, hg]
    simp [go_sem]
  · intro f' hf'; exact trivial
  · simp [invoke, go_sem, eg]
  · refine (hit (w.heap.size + 1)
      (fun pre own W => ∃ o, own = (w.heap.size + 1) :: o ∧ I pre o W ∧ (w.heap.size + 1) ∉ o ∧ w.heap.size ∉ o ∧ W.heap[w.heap.size + 1]? = some (.loop (rec .ready none)) ∧ W.heap[w.heap.size]? = some (.deferred (some [])))
      ((w.heap.size + 1) :: own0) W1 (hb0.trans (hbw.mono hb0.size)) ?_ ?_ ?_ ?_ ⟨own0, rfl, hI _ _ _ _ h0 (Quiet.below hbw), fun hm => by have := hlo _ hm; omega, fun hm => by have := hlo _ hm; omega, hL1, hK1⟩).mono ?_
    · rintro pre own A B ⟨o, rfl, hi, h1, h2, h3, h4⟩ hq
      have hq' : Quiet w.heap.size o A B := hq.mono (by omega) (fun k hk => List.mem_cons_of_mem _ hk)
      exact ⟨o, rfl, hI _ _ _ _ hi hq', h1, h2, (hq.block _ (Array.getElem?_eq_some_iff.1 h3).1 (.inl (by omega))).trans h3, (hq.block _ (Array.getElem?_eq_some_iff.1 h4).1 (.inl (by omega))).trans h4⟩
    · rintro pre own A ⟨o, rfl, hi, h1, h2, h3, h4⟩ k hk
      rcases List.mem_cons.1 hk with rfl | hk
      · exact (Array.getElem?_eq_some_iff.1 h3).1
      · exact hlt _ _ _ hi k hk
    · rintro m pre x own A ⟨o, rfl, hi, h1, h2, hl, hk⟩ hpre
      have hltl : w.heap.size + 1 < A.heap.size := (Array.getElem?_eq_some_iff.1 hl).1
      have hy := run_yield (P := Pr) (args := (enc x)) hl (by rw [hrec]; exact hps x)
      rw [hrec] at hy
      refine ⟨fn, _, assign, body, hy, roundIn_of_wpIn trivial (hassign m _ x A _ ?_)⟩
      clear hy
      refine ⟨_, run_beginRound hl (by rw [hrec]), ?_⟩
      obtain ⟨W2, hW2⟩ : ∃ W2, A.putObj (w.heap.size + 1) (.loop { rec .ready none with state := .busy }) = W2 := ⟨_, rfl⟩
      rw [hW2]
      have hs2 : W2.heap.size = A.heap.size := by rw [← hW2]; simp
      have hl2 : W2.heap[w.heap.size + 1]? = some (.loop { rec .ready none with state := .busy }) := by rw [← hW2]; exact World.putObj_heap_same (by omega)
      have hot : ∀ k, k < A.heap.size → k ≠ w.heap.size + 1 → W2.heap[k]? = A.heap[k]? := fun k hk hne => by rw [← hW2]; exact World.putObj_heap_other hne
      have hk2' : W2.heap[w.heap.size]? = some (.deferred (some [])) := (hot _ (by omega) (by omega)).trans hk
      have hq2 : Quiet w.heap.size o A W2 := by
        rw [← hW2]
        exact Quiet.put _ (by omega) h1
      refine wpIn_mono (hbody m _ pre x o W2 hpre (hI _ _ _ _ hi hq2)) ?_
      rintro e a3 W3 hp
      cases e with
      | normal =>
        obtain ⟨o', hi3, ht3, hf3⟩ := hp
        have h1' : w.heap.size + 1 ∉ o' := fun hm => h1 (hf3 _ hm (by omega))
        have h2' : w.heap.size ∉ o' := fun hm => h2 (hf3 _ hm (by omega))
        have hl3 : W3.heap[w.heap.size + 1]? = some (.loop { rec .ready none with state := .busy }) := (ht3.block _ (by omega) h1).trans hl2
        have hk3 : W3.heap[w.heap.size]? = some (.deferred (some [])) := (ht3.block _ (by omega) h2).trans hk2'
        have hend := run_endRound (P := Pr) none hl3
        refine ⟨_, _, hend, rfl, (w.heap.size + 1) :: o', ⟨o', rfl, hI _ _ _ _ hi3 (Quiet.put _ (by omega) h1'), h1', h2', ?_, (World.putObj_heap_other (by omega)).trans hk3⟩, ?_, ?_⟩
        · rw [World.putObj_heap_same (Array.getElem?_eq_some_iff.1 hl3).1, hrec]
          rfl
        · refine ⟨ht3.os.trans hq2.os, ht3.tape.trans hq2.tape, ht3.output.trans hq2.output, by have := ht3.size; simp; omega, fun k hk' hn => ?_⟩
          rw [List.mem_cons, not_or] at hn
          exact (World.putObj_heap_other hn.1).trans ((ht3.block k (by omega) hn.2).trans (hot k hk' hn.1))
        · intro k hk' hlt'
          rcases List.mem_cons.1 hk' with rfl | hk'
          · exact List.mem_cons_self
          · exact List.mem_cons_of_mem _ (hf3 k hk' (by omega))
      | ret => exact hp.elim
      | exit id => exact hp.elim
      | goto t => exact hp.elim
      | panic ch => exact hp.elim
      | outgrown => exact hp.elim
    · intro k hk
      rcases List.mem_cons.1 hk with rfl | hk
      · exact hk1 _ (by omega)
      · exact hk2 k hk
    · rintro e W2 ⟨⟨v, rfl⟩, own', ⟨o, rfl, hi, h1, h2, hl, hk⟩, ht, hf⟩
      refine ⟨none, _, by have := run_endLoop (P := Pr) hl (by rw [hrec]; simp); rw [hrec] at this; exact this, ?_⟩
      have hltl := (Array.getElem?_eq_some_iff.1 hl).1
      refine hdone w.heap.size o _ (hI _ _ _ _ hi (Quiet.put _ (by omega) h1)) ?_ ?_ (Nat.le_refl _) (by simp; omega) h2 ((World.putObj_heap_other (by omega)).trans hk)
      · refine ⟨ht.os.trans hbw.os, ht.tape.trans hbw.tape, ht.output.trans hbw.output, by have := ht.size; simp; omega, fun k hk' hn => ?_⟩
        refine (World.putObj_heap_other (by omega)).trans ((ht.block k (by omega) (fun hm => ?_)).trans (hbw.block k hk'))
        rcases List.mem_cons.1 hm with rfl | hm
        · omega
        · exact hn hm
      · intro k hk' hlt'
        rcases List.mem_cons.1 (hf k (List.mem_cons_of_mem _ hk') (by omega)) with rfl | hm
        · omega
        · exact hm
end Go.Proofs.Ytcihcdifjnobjaa
