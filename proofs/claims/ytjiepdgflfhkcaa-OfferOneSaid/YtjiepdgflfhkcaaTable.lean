/- The table of takers: as plain data; in memory; one more taker. -/
import Derived.Test.YtjiepdgflfhkcaaMore1
set_option linter.unusedSimpArgs false
set_option linter.unusedVariables false
namespace Go.Proofs.Ytjiepdgflfhkcaa
open Go.RowKit Go.Proofs.Ytjiepdgflfhkcaa.Kind Go.Proofs.Ytjiepdgflfhkcaa.P7

def stepT (D : List Dv) (q j : Nat) (o : Of) (T : List (List Tk)) : List (List Tk) := if o.kind = 1 ∧ openB D o.duct = true then T.modify o.duct.toNat (· ++ [⟨q, j⟩]) else T
def rowT (D : List Dv) (q : Nat) (row : List Of) : Nat → List (List Tk) → List (List Tk)
  | 0, T => T
  | j + 1, T => match row[j]? with | some o => stepT D q j o (rowT D q row j T) | none => rowT D q row j T
def allT (D : List Dv) (R : List (List Of)) : Nat → List (List Tk)
  | 0 => List.replicate D.length []
  | q + 1 => match R[q]? with | some row => rowT D q row row.length (allT D R q) | none => allT D R q
theorem stepT_length (D : List Dv) (q j : Nat) (o : Of) (T : List (List Tk)) : (stepT D q j o T).length = T.length := by
  unfold stepT
  split <;> simp
theorem rowT_length (D : List Dv) (q : Nat) (row : List Of) (T : List (List Tk)) : ∀ j, (rowT D q row j T).length = T.length
  | 0 => rfl
  | j + 1 => by
    unfold rowT
    cases row[j]? with
    | none => exact rowT_length D q row T j
    | some o => dsimp only; rw [stepT_length, rowT_length D q row T j]
theorem allT_length (D : List Dv) (R : List (List Of)) : ∀ q, (allT D R q).length = D.length
  | 0 => by simp [allT]
  | q + 1 => by
    unfold allT
    cases R[q]? with
    | none => exact allT_length D R q
    | some row => dsimp only; rw [rowT_length, allT_length D R q]
theorem stepT_bound {D : List Dv} {q j n : Nat} {o : Of} {T : List (List Tk)} (h : ∀ l ∈ T, l.length ≤ n) : ∀ l ∈ stepT D q j o T, l.length ≤ n + 1 := by
  unfold stepT
  split
  · intro l hl
    obtain ⟨i, hi⟩ := List.mem_iff_getElem?.1 hl
    rw [List.getElem?_modify] at hi
    cases hT : T[i]? with
    | none => rw [hT] at hi; simp at hi
    | some r =>
      have hr := h r (List.mem_of_getElem? hT)
      rw [hT] at hi
      split at hi <;> simp at hi <;> subst hi <;> simp <;> omega
  · exact fun l hl => Nat.le_succ_of_le (h l hl)
theorem rowT_bound {D : List Dv} {q n : Nat} {row : List Of} {T : List (List Tk)} (h : ∀ l ∈ T, l.length ≤ n) : ∀ j, ∀ l ∈ rowT D q row j T, l.length ≤ n + j
  | 0 => h
  | j + 1 => by
    unfold rowT
    cases row[j]? with
    | none => exact fun l hl => Nat.le_succ_of_le (rowT_bound h j l hl)
    | some o => exact stepT_bound (rowT_bound h j)
theorem allT_bound (D : List Dv) (R : List (List Of)) (h : ∀ row ∈ R, row.length ≤ 100) : ∀ q, ∀ l ∈ allT D R q, l.length ≤ 100 * q
  | 0 => fun l hl => by simp [allT] at hl; simp [hl.2]
  | q + 1 => by
    unfold allT
    cases hR : R[q]? with
    | none => exact fun l hl => Nat.le_trans (allT_bound D R h q l hl) (by omega)
    | some row =>
      intro l hl
      have h1 := rowT_bound (allT_bound D R h q) row.length l hl
      have h2 := h row (List.mem_of_getElem? hR)
      omega

/-- The table while it is made: its headers in block g, its rows in blocks beyond. -/
def TabL (w : World) (g : Nat) (hs : List Hv) (T : List (List Tk)) : Prop :=
  w.heap[g]? = some (.cells (hs.map (fun h => Value.slice h.a h.n h.c)).toArray 71 (0, 0)) ∧ hs.length = T.length ∧
  (∀ (d : Nat) (h : Hv) (l : List Tk), hs[d]? = some h → T[d]? = some l → h.n = l.length ∧ TK.Loose w (g + 1) h.a h.c l) ∧
  (∀ (d d' : Nat) (h h' : Hv), d ≠ d' → hs[d]? = some h → hs[d']? = some h' → ∀ x x', h.a = some x → h'.a = some x' → x.block ≠ x'.block)
theorem TabL.below {w w' : World} {g : Nat} {hs : List Hv} {T : List (List Tk)} (h : TabL w g hs T) (hb : Below w.heap.size w w') : TabL w' g hs T :=
  ⟨(hb.block g (lt_of_block h.1)).trans h.1, h.2.1, fun d x l e1 e2 => ⟨(h.2.2.1 d x l e1 e2).1, (h.2.2.1 d x l e1 e2).2.below hb⟩, h.2.2.2⟩
theorem tab_nil (w : World) (n : Nat) : TabL (w.alloc (.cells (List.replicate n (Value.slice none 0 0)).toArray 71)) w.heap.size (List.replicate n ⟨none, 0, 0⟩) (List.replicate n []) := by
  refine ⟨?_, by simp, fun d h l e1 e2 => ?_, fun d d' h h' hne e1 e2 x x' e3 e4 => ?_⟩
  · rw [laid1, List.map_replicate]
  · rw [List.getElem?_replicate] at e1 e2
    split at e1
    · rw [if_pos (by assumption)] at e2
      simp only [Option.some.injEq] at e1 e2
      subst e1 e2
      exact ⟨rfl, loose_nil _ _⟩
    · cases e1
  · rw [List.getElem?_replicate] at e1
    split at e1
    · simp only [Option.some.injEq] at e1
      subst e1
      cases e3
    · cases e1
theorem TabL.table {w : World} {g : Nat} {hs : List Hv} {T : List (List Tk)} (h : TabL w g hs T) (hl : hs.length ≤ 1000) : TableC w (some ⟨g, 0, none⟩) hs.length hs T := by
  refine ⟨⟨Nat.le_refl _, by unfold maxLen; omega, (fun e => by cases e), fun h0 => ⟨g, 0, rfl, lt_of_block h.1, ?_⟩⟩, h.2.1, fun j x l e1 e2 => ⟨(h.2.2.1 j x l e1 e2).1, (h.2.2.1 j x l e1 e2).2.row⟩⟩
  intro j x hx i v hv
  have hi : i = 0 := by
    have := (List.getElem?_eq_some_iff.1 hv).1
    rw [HK.hk] at this
    have : HK.k = 1 := rfl
    omega
  subst hi
  have hv' : v = Value.slice x.a x.n x.c := by
    have : (HK.enc x)[0]? = some (Value.slice x.a x.n x.c) := rfl
    rw [this] at hv
    exact (Option.some.inj hv).symm
  subst hv'
  have e : 0 + j * HK.k + 0 = j := by show 0 + j * 1 + 0 = j; omega
  rw [e]
  have h1 := h.1
  unfold World.cell?
  rw [h1]
  simp [hx]
theorem hdr_at {w : World} {g : Nat} {hs : List Hv} (h1 : w.heap[g]? = some (.cells (hs.map (fun h => Value.slice h.a h.n h.c)).toArray 71 (0, 0))) {d : Nat} {x : Hv} (hx : hs[d]? = some x) : w.cell? ⟨g, d, none⟩ = some (.slice x.a x.n x.c) ∧ w.frozen? ⟨g, d, none⟩ = false := by
  constructor
  · unfold World.cell?
    rw [h1]
    simp [hx]
  · unfold World.frozen?
    rw [h1]
    simp
/-- What is read of it. -/
theorem TabL.at {w : World} {g : Nat} {hs : List Hv} {T : List (List Tk)} (h : TabL w g hs T) {d : Nat} {x : Hv} (hx : hs[d]? = some x) : w.cell? ⟨g, d, none⟩ = some (.slice x.a x.n x.c) ∧ w.frozen? ⟨g, d, none⟩ = false := by
  have h1 := h.1
  constructor
  · unfold World.cell?
    rw [h1]
    simp [hx]
  · unfold World.frozen?
    rw [h1]
    simp
theorem loose_other {w w' : World} {B : Nat} {a : Option Addr} {c : Nat} {l : List Tk} {row : Option Nat} (h : TK.Loose w B a c l) (hg : w.grownBy w' row) (hne : ∀ x, a = some x → row ≠ some x.block) : TK.Loose w' B a c l := by
  refine ⟨h.1, h.2.1, h.2.2.1, fun hc => ?_⟩
  obtain ⟨g, o, h1, h2, h3, h4, h5⟩ := h.2.2.2 hc
  have hb := hg.block g h3 (fun e => hne _ h1 e.symm)
  have hs := hg.size
  refine ⟨g, o, h1, h2, by omega, fun j hj => ?_, fun j x hx i v hv => ?_⟩
  · rw [World.cell?_of_block (w := w) (w' := w') (a := ⟨g, o + j, none⟩) hb, World.frozen?_of_block (w := w) (w' := w') (a := ⟨g, o + j, none⟩) hb]
    exact h4 j hj
  · rw [World.cell?_of_block (w := w) (w' := w') (a := ⟨g, o + j * TK.k + i, none⟩) hb]
    exact h5 j x hx i v hv
theorem loose_set {w : World} {B : Nat} {a : Option Addr} {c : Nat} {l : List Tk} (h : TK.Loose w B a c l) (g d : Nat) (v : Value) (hg : g < B) : TK.Loose (w.setCell ⟨g, d, none⟩ v) B a c l := by
  refine ⟨h.1, h.2.1, h.2.2.1, fun hc => ?_⟩
  obtain ⟨b, o, h1, h2, h3, h4, h5⟩ := h.2.2.2 hc
  have hb : (w.setCell ⟨g, d, none⟩ v).heap[b]? = w.heap[b]? := Below.heap_setCell _ _ _ _ (by show b ≠ g; omega)
  refine ⟨b, o, h1, h2, by simp; omega, fun j hj => ?_, fun j x hx i u hu => ?_⟩
  · rw [World.cell?_of_block (w := w) (a := ⟨b, o + j, none⟩) hb, World.frozen?_of_block (w := w) (a := ⟨b, o + j, none⟩) hb]
    exact h4 j hj
  · rw [World.cell?_of_block (w := w) (a := ⟨b, o + j * TK.k + i, none⟩) hb]
    exact h5 j x hx i u hu
theorem loose_block {w : World} {B : Nat} {a : Option Addr} {c : Nat} {l : List Tk} (h : TK.Loose w B a c l) {x : Addr} (hx : a = some x) (hc : 0 < c) : B ≤ x.block ∧ x.block < w.heap.size := by
  obtain ⟨b, o, h1, h2, h3, _⟩ := h.2.2.2 hc
  rw [hx] at h1
  injection h1 with h1
  subst h1
  exact ⟨h2, h3⟩
/-- One more taker: behind the append, and behind the header's store. -/
theorem TabL.more {w w' : World} {g : Nat} {hs : List Hv} {T : List (List Tk)} (h : TabL w g hs T) {d : Nat} {x : Hv} {l : List Tk} (hx : hs[d]? = some x) (hl : T[d]? = some l) (hnz : ∀ (d : Nat) (x : Hv), hs[d]? = some x → ∀ y, x.a = some y → 0 < x.c)
    (t : Tk) (a' : Option Addr) (c' : Nat) (hL : TK.Loose w' (g + 1) a' c' (l ++ [t])) (hG : ∃ row, w.grownBy w' row ∧ ∀ j, row = some j → g + 1 ≤ j ∧ 0 < x.c ∧ ∃ ad, x.a = some ad ∧ ad.block = j) (hA : (∃ b, a' = some ⟨b, 0, none⟩ ∧ w.heap.size ≤ b) ∨ (a' = x.a ∧ 0 < x.c)) :
    w'.heap[g]? = some (.cells (hs.map (fun h => Value.slice h.a h.n h.c)).toArray 71 (0, 0)) ∧
    TabL (w'.setCell ⟨g, d, none⟩ (.slice a' (l ++ [t]).length c')) g (hs.set d ⟨a', (l ++ [t]).length, c'⟩) (T.modify d (· ++ [t])) ∧
    (∀ (d2 : Nat) (x2 : Hv), (hs.set d ⟨a', (l ++ [t]).length, c'⟩)[d2]? = some x2 → ∀ y, x2.a = some y → 0 < x2.c) := by
  obtain ⟨row, hG, hrow⟩ := hG
  have hgl := lt_of_block h.1
  have h1 : w'.heap[g]? = some (.cells (hs.map (fun h => Value.slice h.a h.n h.c)).toArray 71 (0, 0)) := (hG.block g hgl (fun e => by have := (hrow g e.symm).1; omega)).trans h.1
  have hdlt : d < hs.length := (List.getElem?_eq_some_iff.1 hx).1
  have hc' : 0 < c' := by have := hL.1; simp at this; omega
  refine ⟨h1, ⟨?_, by simp [h.2.1], ?_, ?_⟩, ?_⟩
  · have := set_at h1 d (.slice a' (l ++ [t]).length c')
    rw [this]
    congr 2
    apply Array.ext'
    simp [List.map_set]
  · intro d2 x2 l2 e1 e2
    rw [List.getElem?_modify] at e2
    by_cases hd : d = d2
    · subst hd
      rw [List.getElem?_set_self hdlt] at e1
      simp only [Option.some.injEq] at e1
      rw [hl] at e2
      simp at e2
      subst e1 e2
      exact ⟨rfl, loose_set hL g d _ (by omega)⟩
    · rw [List.getElem?_set_ne hd] at e1
      simp [hd] at e2
      obtain ⟨f1, f2⟩ := h.2.2.1 d2 x2 l2 e1 e2
      refine ⟨f1, loose_set (loose_other f2 hG (fun y hy e => ?_)) g d _ (by omega)⟩
      obtain ⟨_, _, ad, hxa, hab⟩ := hrow _ e
      exact h.2.2.2 d d2 x x2 hd hx e1 ad y hxa hy hab
  · -- no two in one block
    have key : ∀ (d2 : Nat) (x2 : Hv), d ≠ d2 → hs[d2]? = some x2 → ∀ y y2, a' = some y → x2.a = some y2 → y.block ≠ y2.block := by
      intro d2 x2 hd e2 y y2 e3 e4
      rcases hA with ⟨b, hb, hbs⟩ | ⟨hb, hb2⟩
      · rw [hb] at e3
        injection e3 with e3
        subst e3
        obtain ⟨l2, hl2⟩ : ∃ l2, T[d2]? = some l2 := ⟨_, List.getElem?_eq_getElem (by rw [← h.2.1]; exact (List.getElem?_eq_some_iff.1 e2).1)⟩
        have := (loose_block (h.2.2.1 d2 x2 l2 e2 hl2).2 e4 (hnz d2 x2 e2 y2 e4)).2
        show b ≠ y2.block
        omega
      · rw [hb] at e3
        exact h.2.2.2 d d2 x x2 hd hx e2 y y2 e3 e4
    intro d1 d2 x1 x2 hne e1 e2 y1 y2 e3 e4
    by_cases h1d : d = d1
    · subst h1d
      rw [List.getElem?_set_self hdlt] at e1
      simp only [Option.some.injEq] at e1
      subst e1
      rw [List.getElem?_set_ne hne] at e2
      exact key d2 x2 hne e2 y1 y2 e3 e4
    · rw [List.getElem?_set_ne h1d] at e1
      by_cases h2d : d = d2
      · subst h2d
        rw [List.getElem?_set_self hdlt] at e2
        simp only [Option.some.injEq] at e2
        subst e2
        exact (key d1 x1 h1d e1 y2 y1 e4 e3).symm
      · rw [List.getElem?_set_ne h2d] at e2
        exact h.2.2.2 d1 d2 x1 x2 hne e1 e2 y1 y2 e3 e4
  · intro d2 x2 e y hy
    by_cases hd : d = d2
    · subst hd
      rw [List.getElem?_set_self hdlt] at e
      simp only [Option.some.injEq] at e
      subst e
      exact hc'
    · rw [List.getElem?_set_ne hd] at e
      exact hnz d2 x2 e y hy

section
variable {Pr : Program} {α : Type}
theorem step_append_loose (K : Kind Pr α) {w : World} {ops : Array Oper} {o : Oper} {act : Act} {K' : Act → World → Prop} {Q : Exit → Act → World → Prop} {E : Prop} (hgd : o.guard = none) (s x : Operand)
    (ho : o.op = .call { callee := .builtin .append, args := #[s, x], argTypes := #[K.S, K.S] })
    (base : Nat) (a : Option Addr) (n c : Nat) (hs : act.eval s = .slice a n c) (l : List α) (hn : n = l.length) (hD : K.Loose w base a c l) (b : Option Addr) (m d : Nat) (hx : act.eval x = .slice b m d) (k : List α) (hm : m = k.length) (hk : 0 < k.length) (hR : K.RowC w b d k) (hlen : l.length + k.length ≤ 4000000) (hbase : base ≤ w.heap.size)
    (L : List α) (hL : L = l ++ k)
    (h : ∀ a' c' w', K.Loose w' base a' c' L → (∃ row, w.grownBy w' row ∧ ∀ j, row = some j → base ≤ j ∧ 0 < c ∧ ∃ ad, a = some ad ∧ ad.block = j) → ((∃ g, a' = some ⟨g, 0, none⟩ ∧ w.heap.size ≤ g) ∨ (a' = a ∧ 0 < c)) → K' (act.put o.dst (.slice a' L.length c')) w') : if Region.wanted o (yielded ops act.tmps) = true then Oper.wp Pr o act w K' Q else E := by
  have hw : Region.wanted o (yielded ops act.tmps) = true := by simp [Region.wanted, hgd]
  rw [if_pos hw]
  obtain ⟨a', c', w', hrun, r1, r2, r3⟩ := run_append_loose w o.type base a c n l hn hD b d m k hm hk hR hlen hbase
  rw [← hL] at r1 hrun
  unfold Oper.wp
  simp [execOp, ho, resolve, invoke, builtin, hs, hx, hrun, Result.andThen]
  exact h a' c' w' r1 r2 r3
end
theorem run_made (w : World) (n : Nat) (hn : n ≤ 1000) : (Instr.makeSlice 55 (.int .i64 n) (.int .i64 n)).run Try.prog w = .ok (.slice (some ⟨w.heap.size, 0, none⟩) n n) (w.alloc (.cells (List.replicate n (Value.slice none 0 0)).toArray 71)) := by
  obtain ⟨i0, hi, hz0, hz1, hz2⟩ := info_parts HK.hi
  have h := run_makeSlice (P := Try.prog) (w := w) 55 71 i0 HK.z HK.hu hi hz0 .i64 .i64 n n (by omega) (by omega) (by rw [hz1]; show (n : Int).toNat * 1 ≤ _; omega) (by rw [hz2]; show ((24 : Nat) : Int) * (n : Int) ≤ _; omega) (by omega)
  rw [hz1, Int.toNat_natCast] at h
  have e : madeCells HK.z.cells (n * HK.k) = (List.replicate n (Value.slice none 0 0)).toArray := by
    show madeCells #[Value.slice none 0 0] (n * 1) = _
    rw [Nat.mul_one]
    unfold madeCells
    apply Array.ext
    · simp
    · intro i h1 h2
      simp [Nat.mod_one]
  rw [e] at h
  exact h
end Go.Proofs.Ytjiepdgflfhkcaa
