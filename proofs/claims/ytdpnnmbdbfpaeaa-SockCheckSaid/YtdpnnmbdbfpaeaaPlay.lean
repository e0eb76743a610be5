/- How a script's record stands between two acts. -/
import Derived.Test.YtdpnnmbdbfpaeaaSpecs
set_option linter.unusedSimpArgs false
set_option linter.unusedVariables false
namespace Go.Proofs.Ytdpnnmbdbfpaeaa
open Go.RowKit Go.Proofs.Ytdpnnmbdbfpaeaa.Kind

def shutAt (S : List Sk) (k : Nat) : Bool := match S[k]? with | some x => !isOpen x | none => false
def goneN (S : List Sk) : Nat := S.countP (fun x => !isOpen x)
theorem live_gone (S : List Sk) : (liveP S).length + goneN S = S.length := by
  rw [live_length, goneN]
  induction S with
  | nil => rfl
  | cons x S ih =>
    simp only [List.countP_cons, List.length_cons]
    cases isOpen x <;> simp <;> omega
theorem gone_open (S : List Sk) (a : Ad) (y t : Int) : goneN (S ++ [skNew a y t]) = goneN S := by
  simp [goneN, skNew, isOpen]
theorem shut_open (S : List Sk) (a : Ad) (y t : Int) (k : Nat) : shutAt (S ++ [skNew a y t]) k = shutAt S k := by
  unfold shutAt
  by_cases h : k < S.length
  · rw [List.getElem?_append_left h]
  · rw [List.getElem?_append_right (by omega), List.getElem?_eq_none (l := S) (by omega)]
    cases hk : k - S.length with
    | zero => rfl
    | succ m => simp
theorem gone_set {S : List Sk} {n : Nat} {x y : Sk} (hx : S[n]? = some x) : goneN (S.set n y) + (if isOpen x = true then 0 else 1) = goneN S + (if isOpen y = true then 0 else 1) := by
  obtain ⟨h, e⟩ := List.getElem?_eq_some_iff.1 hx
  unfold goneN
  rw [List.countP_set h, e]
  have hp : 0 < S.countP (fun x => !isOpen x) ∨ isOpen x = true := by
    cases ho : isOpen x with
    | true => exact .inr rfl
    | false => exact .inl (List.countP_pos_iff.2 ⟨x, List.mem_of_getElem? hx, by simp [ho]⟩)
  have key : ∀ (C : Nat) (p q : Bool), (0 < C ∨ p = true) → (C - if (!p) = true then 1 else 0) + (if (!q) = true then 1 else 0) + (if p = true then 0 else 1) = C + (if q = true then 0 else 1) := by
    intro C p q h
    cases p <;> cases q <;> simp at h ⊢ <;> omega
  exact key _ _ _ hp
theorem shut_set {S : List Sk} {n : Nat} {x y : Sk} (hx : S[n]? = some x) (k : Nat) : shutAt (S.set n y) k = if k = n then !isOpen y else shutAt S k := by
  have h := (List.getElem?_eq_some_iff.1 hx).1
  unfold shutAt
  by_cases hk : k = n
  · subst hk
    rw [if_pos rfl, List.getElem?_set_self h]
  · rw [if_neg hk, List.getElem?_set_ne (by omega)]
theorem open_is {S : List Sk} {n : Nat} {x : Sk} (hx : S[n]? = some x) : openP S (n : Int) = isOpen x := by
  unfold openP
  rw [if_neg (by omega), Int.toNat_natCast, hx]
theorem open_no {S : List Sk} {n : Int} (hn : (S.length : Int) ≤ n) : openP S n = false := by
  unfold openP
  split
  · rfl
  · rw [List.getElem?_eq_none (show S.length ≤ n.toNat by omega)]
theorem shut_is {S : List Sk} {n : Nat} {x : Sk} (hx : S[n]? = some x) : shutAt S n = !isOpen x := by
  unfold shutAt
  rw [hx]
theorem goes_shuts {S : List Sk} {M : List Nk} (h : goesB S M = true) {n : Nat} {x : Sk} (hx : S[n]? = some x) : 0 ≤ x.shut ∧ x.shut ≤ M.length := by
  have h1 := (goesB_iff.1 h).2 n x hx
  have h2 : shutsOf M n ≤ M.length := List.countP_le_length
  omega
theorem wrap_more {z : Int} (h : 0 ≤ z) (h2 : z ≤ 1000) : wrap64 (z + 1) = z + 1 := by
  unfold wrap64
  omega

theorem loose_far {α : Type} {K : Kind Try.prog α} {w : World} {base : Nat} {a : Option Addr} {c : Nat} {l : List α} (h : K.Loose w base a c l) : K.FarC w base a c l := ⟨h.row, fun hl ad e => by
  obtain ⟨g, o, h1, h2, _⟩ := h.2.2.2 (by have := h.1; omega)
  rw [h1] at e
  injection e with e
  subst e
  exact h2⟩

/-- How it stands between two acts. -/
structure PlayIn (w0 : World) (gs i : Nat) (S : List Sk) (M : List Nk) (t : Int) (a : Option Addr) (c : Nat) (b : Option Addr) (d : Nat) (wr : World) : Prop where
  sl : S.length ≤ i
  ml : M.length ≤ i
  n0 : 0 ≤ t
  n1 : t ≤ 1000 * i
  ats : ∀ m ∈ M, m.at_ ≤ t ∧ 0 ≤ m.at_
  goes : goesB S M = true
  rs : SK.FarC wr (gs + 1) a c S
  rm : NK.FarC wr (gs + 1) b d M
  shut : ∀ k, k < 100 → wr.cell? ⟨gs, k, none⟩ = some (.bool (shutAt S k)) ∧ wr.frozen? ⟨gs, k, none⟩ = false
  below : Below w0.heap.size w0 wr
  lt : gs < wr.heap.size
  ge : w0.heap.size ≤ gs
theorem PlayIn.on {w0 : World} {gs i : Nat} {S : List Sk} {M : List Nk} {t : Int} {a b : Option Addr} {c d : Nat} {wr w' : World} (h : PlayIn w0 gs i S M t a c b d wr) (hb : Below wr.heap.size wr w') : PlayIn w0 gs i S M t a c b d w' :=
  { h with
    rs := h.rs.below hb
    rm := h.rm.below hb
    shut := fun k hk => by
      rw [hb.cell (p := ⟨gs, k, none⟩) h.lt, hb.frozen (p := ⟨gs, k, none⟩) h.lt]
      exact h.shut k hk
    below := h.below.trans (hb.mono h.below.size)
    lt := Nat.lt_of_lt_of_le h.lt hb.size }
/-- Later on. -/
theorem PlayIn.late {w0 : World} {gs i : Nat} {S : List Sk} {M : List Nk} {t : Int} {a b : Option Addr} {c d : Nat} {wr : World} (h : PlayIn w0 gs i S M t a c b d wr) (x : Int) (h0 : 0 ≤ x) (h1 : x ≤ 1000) : PlayIn w0 gs (i + 1) S M (t + x) a c b d wr :=
  { h with
    sl := by have := h.sl; omega
    ml := by have := h.ml; omega
    n0 := by have := h.n0; omega
    n1 := by have := h.n1; omega
    ats := fun m hm => by have := h.ats m hm; omega }
/-- One opened (the act's number counted already). -/
theorem PlayIn.opened {w0 : World} {gs i : Nat} {S : List Sk} {M : List Nk} {t0 t : Int} {a b a2 b2 : Option Addr} {c d c2 d2 : Nat} {wr w' : World} (h : PlayIn w0 gs i S M t0 a c b d wr) (h0 : t0 ≤ t) (h1 : t ≤ t0 + 1000) (ad : Ad) (y : Int) (L : List Sk) (K : List Nk) (hL : L = S ++ [skNew ad y t]) (hK : K = M ++ [⟨false, S.length, t⟩])
    (hb : Below wr.heap.size wr w') (hs : SK.Loose w' wr.heap.size a2 c2 L) (hm : NK.Loose w' wr.heap.size b2 d2 K) : PlayIn w0 gs (i + 1) L K t a2 c2 b2 d2 w' := by
  have h' := h.on hb
  subst hL hK
  refine ⟨by have := h.sl; simp; omega, by have := h.ml; simp; omega, by have := h.n0; omega, by have := h.n1; omega, fun m hm => ?_, goes_open h.goes ad y t (fun m hm => by have := h.ats m hm; omega), (loose_far hs).mono h.lt, (loose_far hm).mono h.lt, fun k hk => ?_, h'.below, h'.lt, h'.ge⟩
  · rcases List.mem_append.1 hm with hm | hm
    · have := h.ats m hm; omega
    · simp at hm
      subst hm
      exact ⟨Int.le_refl _, by have := h.n0; show (0 : Int) ≤ t; omega⟩
  · rw [shut_open]
    exact h'.shut k hk
theorem PlayIn.dropped {w0 : World} {gs i : Nat} {S : List Sk} {M : List Nk} {t : Int} {a b a2 : Option Addr} {c d c2 : Nat} {wr w' : World} (h : PlayIn w0 gs i S M t a c b d wr) (n : Nat) (x : Sk) (hx : S[n]? = some x) (L : List Sk) (hL : L = S.set n { x with dead := true })
    (hb : Below wr.heap.size wr w') (hs : SK.Loose w' wr.heap.size a2 c2 L) : PlayIn w0 gs i L M t a2 c2 b d w' := by
  have h' := h.on hb
  subst hL
  refine ⟨by simpa using h.sl, h.ml, h.n0, h.n1, h.ats, goes_drop h.goes n x hx, (loose_far hs).mono h.lt, h'.rm, fun k hk => ?_, h'.below, h'.lt, h'.ge⟩
  rw [shut_set hx]
  have := h'.shut k hk
  split
  · rename_i e
    subst e
    rw [shut_is hx] at this
    exact this
  · exact this
/-- One shut, and its place marked. -/
theorem PlayIn.shutted {w0 : World} {gs i : Nat} {S : List Sk} {M : List Nk} {t0 t : Int} {a b a2 b2 : Option Addr} {c d c2 d2 : Nat} {wr w' : World} (h : PlayIn w0 gs i S M t0 a c b d wr) (h0 : t0 ≤ t) (h1 : t ≤ t0 + 1000) (hi : i < 100) (n : Nat) (x : Sk) (hx : S[n]? = some x) (L : List Sk) (K : List Nk) (hL : L = S.set n { x with shut := wrap64 (x.shut + 1) }) (hK : K = M ++ [⟨true, n, t⟩])
    (hb : Below wr.heap.size wr w') (hs : SK.Loose w' wr.heap.size a2 c2 L) (hm : NK.Loose w' wr.heap.size b2 d2 K) : PlayIn w0 gs (i + 1) L K t a2 c2 b2 d2 (w'.setCell ⟨gs, n, none⟩ (.bool true)) := by
  have h' := h.on hb
  obtain ⟨hz0, hz1⟩ := goes_shuts h.goes hx
  have hml := h.ml
  have hn := (List.getElem?_eq_some_iff.1 hx).1
  have hsl := h.sl
  rw [wrap_more hz0 (by omega)] at hL
  subst hL hK
  refine ⟨by simpa using Nat.le_succ_of_le h.sl, by simp; omega, by have := h.n0; omega, by have := h.n1; omega, fun m hm => ?_, goes_shut h.goes n x hx t (fun m hm => by have := h.ats m hm; omega), ((loose_far hs).mono h.lt).set (Nat.lt_succ_self _) _, ((loose_far hm).mono h.lt).set (Nat.lt_succ_self _) _, fun k hk => ?_, h'.below.setCell h.ge _, by simpa using h'.lt, h'.ge⟩
  · rcases List.mem_append.1 hm with hm | hm
    · have := h.ats m hm; omega
    · simp at hm
      subst hm
      exact ⟨Int.le_refl _, by have := h.n0; show (0 : Int) ≤ t; omega⟩
  · rw [shut_set hx, World.frozen?_setCell]
    have hk2 := h'.shut k hk
    refine ⟨?_, hk2.2⟩
    by_cases e : k = n
    · subst e
      rw [if_pos rfl, World.cell?_setCell_same _ _ _ hk2.1]
      simp [isOpen]
      omega
    · rw [if_neg e]
      exact (World.cell?_setCell_other _ _ _ _ (by intro e2; injection e2 with _ e3; exact e e3.symm)).trans hk2.1
theorem gone_shutted {S : List Sk} {n : Nat} {x : Sk} (hx : S[n]? = some x) (h0 : 0 ≤ x.shut) (h1 : x.shut ≤ 1000) : goneN (S.set n { x with shut := wrap64 (x.shut + 1) }) = goneN S + (if isOpen x = true then 1 else 0) := by
  have h := gone_set (y := { x with shut := wrap64 (x.shut + 1) }) hx
  rw [wrap_more h0 h1] at h ⊢
  have e : isOpen { x with shut := x.shut + 1 } = false := by simp [isOpen]; omega
  rw [e] at h
  simp only [Bool.false_eq_true, if_false] at h
  by_cases ho : isOpen x = true
  · rw [if_pos ho] at h ⊢
    omega
  · rw [if_neg ho] at h ⊢
    omega
theorem gone_dropped {S : List Sk} {n : Nat} {x : Sk} (hx : S[n]? = some x) : goneN (S.set n { x with dead := true }) = goneN S := by
  have h := gone_set (y := { x with dead := true }) hx
  have e : isOpen { x with dead := true } = isOpen x := rfl
  rw [e] at h
  omega

theorem run_made (w : World) (n : Nat) (hn : n ≤ 1000) : (Instr.makeSlice 26 (.int .i64 n) (.int .i64 n)).run Try.prog w = .ok (.slice (some ⟨w.heap.size, 0, none⟩) n n) (w.alloc (.cells (List.replicate n (Value.bool false)).toArray 4)) := by
  obtain ⟨i0, hi, hz0, hz1, hz2⟩ := info_parts BK.hi
  have h := run_makeSlice (P := Try.prog) (w := w) 26 4 i0 BK.z BK.hu hi hz0 .i64 .i64 n n (by omega) (by omega) (by rw [hz1]; show (n : Int).toNat * 1 ≤ _; omega) (by rw [hz2]; show ((1 : Nat) : Int) * (n : Int) ≤ _; omega) (by omega)
  rw [hz1, Int.toNat_natCast] at h
  have e : madeCells BK.z.cells (n * BK.k) = (List.replicate n (Value.bool false)).toArray := by
    show madeCells #[Value.bool false] (n * 1) = _
    rw [Nat.mul_one]
    unfold madeCells
    apply Array.ext
    · simp
    · intro i h1 h2
      simp [Nat.mod_one]
  rw [e] at h
  exact h
theorem made_cells (n : Nat) (w : World) (arr : Array Value) (h : arr = (List.replicate n (Value.bool false)).toArray) (t : TypeId) (k : Nat) (hk : k < n) : (w.alloc (.cells arr t)).cell? ⟨w.heap.size, k, none⟩ = some (.bool false) ∧ (w.alloc (.cells arr t)).frozen? ⟨w.heap.size, k, none⟩ = false := by
  have hl := heap_alloc_new w (.cells arr t)
  subst h
  constructor
  · unfold World.cell?
    rw [hl]
    simp [hk]
  · unfold World.frozen?
    rw [hl]
    simp
theorem run_hundred (arr : Array Value) (h : arr = (List.replicate 100 (Value.bool false)).toArray) (w : World) : (Instr.makeSlice 26 (.int .i64 100) (.int .i64 100)).run Try.prog w = .ok (.slice (some ⟨w.heap.size, 0, none⟩) 100 100) (w.alloc (.cells arr 4)) := by
  rw [h]
  exact run_made w 100 (by omega)
theorem play_start (w : World) (arr : Array Value) (h : arr = (List.replicate 100 (Value.bool false)).toArray) (t : TypeId) : PlayIn w w.heap.size 0 [] [] 0 none 0 none 0 (w.alloc (.cells arr t)) := by
  refine ⟨by simp, by simp, by omega, by omega, by simp, by decide +kernel, ⟨row_none _, by simp⟩, ⟨row_none _, by simp⟩, fun k hk => ?_, below1 w _, by simp, Nat.le_refl _⟩
  have e : shutAt [] k = false := by simp [shutAt]
  rw [e]
  exact made_cells 100 w arr h t k hk
end Go.Proofs.Ytdpnnmbdbfpaeaa
