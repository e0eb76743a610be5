/- Addresses, and families, as keys of a map; which a map knows. -/
import Derived.Test.YtcihcdifjnobjaaSpecs
import Derived.Maps.OwnSet
import Derived.Maps.Range
import Derived.Maps.Views
import Derived.Maps.Ext
import Derived.DeepKeys4
import Derived.ChangeKeys
set_option linter.unusedSimpArgs false
set_option linter.unusedVariables false
namespace Go.Proofs.Ytcihcdifjnobjaa
open Go.RowKit Go.Maps Go.Proofs.Ytcihcdifjnobjaa.Kind

def litsA (a : Ad) : List Lit := [.int .i8 a.f, .int .u16 a.g0, .int .u16 a.g1, .int .u16 a.g2, .int .u16 a.g3, .int .u16 a.g4, .int .u16 a.g5, .int .u16 a.g6, .int .u16 a.g7, .int .i64 a.p]
def keyA (a : Ad) : Lit := .string (keyBytes (litsA a))
theorem okA_wf {a : Ad} (h : okA a) : ∀ x ∈ litsA a, x.keyWf := by
  intro x hx
  obtain ⟨h0, ⟨h1, h2, h3, h4, h5, h6, h7, h8⟩, h9⟩ := h
  simp only [litsA, List.mem_cons, List.not_mem_nil, or_false] at hx
  rcases hx with rfl | rfl | rfl | rfl | rfl | rfl | rfl | rfl | rfl | rfl <;> simp [Lit.keyWf, Lit.wf, IntKind.min, IntKind.max, IntKind.signed, IntKind.bits] <;> omega
theorem keyA_inj {a b : Ad} (ha : okA a) (hb : okA b) (h : keyA a = keyA b) : a = b := by
  unfold keyA at h
  injection h with h
  have h2 := keyBytes_inj (by simp [litsA, Alike, Lit.sameKind]) (okA_wf ha) (okA_wf hb) h
  obtain ⟨f, g0, g1, g2, g3, g4, g5, g6, g7, p⟩ := a
  obtain ⟨f', k0, k1, k2, k3, k4, k5, k6, k7, p'⟩ := b
  simp [litsA] at h2
  simp [h2]
theorem lits_int {q : IntKind} {t : TypeId} {n : Int} (d : Nat) (hu : Try.prog.underlying t = some (.int q)) (hw : (Lit.int q n).wf = true) : Try.prog.keyLits (d + 1) t [.int q n] = some [.int q n] := by
  simp [Program.keyLits, hu, hw]
theorem lits_arr {g0 g1 g2 g3 g4 g5 g6 g7 : Int} (d : Nat) (h0 : (Lit.int .u16 g0).wf = true) (h1 : (Lit.int .u16 g1).wf = true) (h2 : (Lit.int .u16 g2).wf = true) (h3 : (Lit.int .u16 g3).wf = true) (h4 : (Lit.int .u16 g4).wf = true) (h5 : (Lit.int .u16 g5).wf = true) (h6 : (Lit.int .u16 g6).wf = true) (h7 : (Lit.int .u16 g7).wf = true) :
    Try.prog.keyLits (d + 2) 25 [.int .u16 g0, .int .u16 g1, .int .u16 g2, .int .u16 g3, .int .u16 g4, .int .u16 g5, .int .u16 g6, .int .u16 g7] = some [.int .u16 g0, .int .u16 g1, .int .u16 g2, .int .u16 g3, .int .u16 g4, .int .u16 g5, .int .u16 g6, .int .u16 g7] := by
  have c1 : Try.prog.cellsOf 24 = 1 := by kernel_rfl
  have c8 : Try.prog.cellsOf 25 = 8 := by kernel_rfl
  have hu := Try.underlying24
  have k0 := lits_int d hu h0
  have k1 := lits_int d hu h1
  have k2 := lits_int d hu h2
  have k3 := lits_int d hu h3
  have k4 := lits_int d hu h4
  have k5 := lits_int d hu h5
  have k6 := lits_int d hu h6
  have k7 := lits_int d hu h7
  unfold Program.keyLits
  rw [Try.underlying25]
  simp [c1, c8, List.range, List.range.loop, k0, k1, k2, k3, k4, k5, k6, k7]
theorem lits_ad {a : Ad} (h : okA a) (d : Nat) : Try.prog.keyLits (d + 3) 27 a.enc = some (litsA a) := by
  have hw := okA_wf h
  obtain ⟨f, g0, g1, g2, g3, g4, g5, g6, g7, p⟩ := a
  simp only [litsA, List.mem_cons, List.not_mem_nil, or_false, forall_eq_or_imp, forall_eq, Lit.keyWf] at hw
  obtain ⟨w0, w1, w2, w3, w4, w5, w6, w7, w8, w9⟩ := hw
  have c1 : Try.prog.cellsOf 23 = 1 := by kernel_rfl
  have c8 : Try.prog.cellsOf 25 = 8 := by kernel_rfl
  have c2 : Try.prog.cellsOf 3 = 1 := by kernel_rfl
  have ca : Try.prog.cellsOf 27 = 10 := by kernel_rfl
  have k0 := lits_int (d + 1) Try.underlying23 w0
  have k1 := lits_arr d w1 w2 w3 w4 w5 w6 w7 w8
  have k2 := lits_int (d + 1) Try.underlying3 w9
  unfold Program.keyLits
  rw [Try.underlying27]
  simp [Ad.enc, litsA, c1, c8, c2, ca, k0, k1, k2]
theorem key_ad {a : Ad} (h : okA a) : keyOf Try.prog 27 (.agg #[.int .i8 a.f, .int .u16 a.g0, .int .u16 a.g1, .int .u16 a.g2, .int .u16 a.g3, .int .u16 a.g4, .int .u16 a.g5, .int .u16 a.g6, .int .u16 a.g7, .int .i64 a.p]) = some (keyA a) := by
  have hk : Try.prog.keyType 27 = true := by kernel_rfl
  have ca : Try.prog.cellsOf 27 = 10 := by kernel_rfl
  have hs : 2 ≤ Try.prog.types.size := of_decide_eq_true (by kernel_rfl)
  obtain ⟨d, hd⟩ : ∃ d, Try.prog.types.size + 1 = d + 3 := ⟨Try.prog.types.size - 2, by omega⟩
  have hl := lits_ad h d
  rw [← hd] at hl
  simp only [Ad.enc] at hl
  have hfm : (Value.agg #[.int .i8 a.f, .int .u16 a.g0, .int .u16 a.g1, .int .u16 a.g2, .int .u16 a.g3, .int .u16 a.g4, .int .u16 a.g5, .int .u16 a.g6, .int .u16 a.g7, .int .i64 a.p]).formed Try.prog 27 = true := by
    unfold Value.formed
    rw [Try.underlying27, ca]
    rfl
  unfold keyOf
  rw [Try.underlying27]
  dsimp only
  rw [if_pos (by rw [hk, hfm]; rfl)]
  show Option.map _ (Try.prog.keyLits (Try.prog.types.size + 1) 27 [.int .i8 a.f, .int .u16 a.g0, .int .u16 a.g1, .int .u16 a.g2, .int .u16 a.g3, .int .u16 a.g4, .int .u16 a.g5, .int .u16 a.g6, .int .u16 a.g7, .int .i64 a.p]) = _
  rw [hl]
  rfl
theorem law_ad : Keyed Try.prog 27 := Keyed.of_law (Go.deep_law_laid (m := Try.prog.types.size) (by kernel_rfl) (of_decide_eq_true (by kernel_rfl)) (of_decide_eq_true (by kernel_rfl)) (by kernel_rfl) (by kernel_rfl))
theorem run_make_hint (t k e : TypeId) (kd : IntKind) (n : Int) (ht : Try.prog.underlying t = some (.map k e)) (w : World) :
    (Instr.makeMap t (some (.int kd n))).run Try.prog w = .ok (.map (some w.heap.size)) (w.alloc (.map #[] 0)) := by
  simp [Instr.makeMap, run_underlying ht]; rfl
theorem zero_i64 (w : World) : (zeroValue 3).run Try.prog w = .ok (.int .i64 0) w := by kernel_rfl
/-- How a place lies in the map. -/
def rawI (v : Value) : Option (DataW Unit × List MemPlace) := match v with
  | .int .i64 n => some (.lit (.int .i64 n), [])
  | _ => none
theorem rawI_inv {v : Value} {z : DataW Unit × List MemPlace} (h : rawI v = some z) : ∃ n, v = .int .i64 n ∧ z = (.lit (.int .i64 n), []) := by
  unfold rawI at h
  split at h
  · rename_i n
    cases h
    exact ⟨n, rfl, rfl⟩
  · cases h
theorem map_below {H : Type} {Pr : Program} {k : TypeId} {R : Value → Option (DataW H × List MemPlace)} {b n : Nat} {D : DataW H} {w w' : World} (h : w.ownsMap Pr k R b n D) (hb : Below w.heap.size w w') : w'.ownsMap Pr k R b n D := by
  have hlt := h.lt
  obtain ⟨es, clock, h1, h2⟩ := h
  exact ⟨es, clock, (hb.block b hlt).trans h1, h2⟩
theorem map_below2 {H : Type} {Pr : Program} {k : TypeId} {R : Value → Option (DataW H × List MemPlace)} {b n N : Nat} {D : DataW H} {w w' : World} (h : w.ownsMap Pr k R b n D) (hb : Below N w w') (hN : b < N) : w'.ownsMap Pr k R b n D := by
  obtain ⟨es, clock, h1, h2⟩ := h
  exact ⟨es, clock, (hb.block b hN).trans h1, h2⟩
theorem zero_unit (w : World) : (zeroValue 40).run Try.prog w = .ok (.agg #[]) w := by kernel_rfl
/-- The block is a set of addresses. -/
def OwnU (w : World) (b n : Nat) (D : DataW Unit) : Prop := w.ownsMap Try.prog 27 unitElem b n D
/-- The set knows just these. -/
def SetTo (ds : List Ad) (D : DataW Unit) : Prop := ∀ x : Ad, okA x → Maps.has D (keyA x) = decide (x ∈ ds)
theorem setTo_nil : SetTo [] (.map []) := fun x _ => by simp [Maps.has]
theorem setTo_put {ds : List Ad} {D : DataW Unit} {a : Ad} (h : SetTo ds D) (hD : Maps.IsMap D) (ho : okA a) : SetTo (ds ++ [a]) (D.put (keyA a) (.agg [])) := by
  have hkl : WideAt.IsKeyLit (keyA a) := by simp [keyA, WideAt.IsKeyLit]
  intro x hx
  by_cases e : a = x
  · subst e
    rw [has_put_same hD hkl]; simp
  · have hne : keyA x ≠ keyA a := fun e2 => e (keyA_inj hx ho e2).symm
    rw [has_put_other hne, h x hx]
    have e2 : ¬ x = a := fun e3 => e e3.symm
    simp [e2]
theorem setTo_same {ds es : List Ad} {D : DataW Unit} (h : SetTo ds D) (he : ∀ x, x ∈ es ↔ x ∈ ds) : SetTo es D := fun x hx => by rw [h x hx]; exact decide_eq_decide.2 (he x).symm
/-- Families as keys. -/
theorem key_fam {f : Int} (h : -128 ≤ f ∧ f ≤ 127) : keyOf Try.prog 23 (.int .i8 f) = some (.int .i8 f) := keyOf_int_mk Try.underlying23 (by simp [Lit.wf, IntKind.min, IntKind.max, IntKind.signed, IntKind.bits]; omega)
theorem law_fam : Keyed Try.prog 23 := int_keyed Try.underlying23
theorem map_grown {H : Type} {Pr : Program} {k : TypeId} {R : Value → Option (DataW H × List MemPlace)} {b n : Nat} {D : DataW H} {w w' : World} {row : Option Nat} (h : w.ownsMap Pr k R b n D) (hg : w.grownBy w' row) (hne : row ≠ some b) : w'.ownsMap Pr k R b n D := by
  have hlt := h.lt
  obtain ⟨es, clock, h1, h2⟩ := h
  exact ⟨es, clock, (hg.block b hlt (fun e => hne e.symm)).trans h1, h2⟩
theorem own_grown {α : Type} {Pr : Program} {K : Kind Pr α} {w w' : World} {base b : Nat} {v : Value} {l : List α} (h : K.Own w base v l) (hg : w.grownBy w' (some b)) (hb : b < base) : K.Own w' base v l := by
  refine World.ownsRow.kept h hg ?_
  cases e : v.ownBlock with
  | none => exact .inl rfl
  | some k => refine .inr ?_; have := (World.ownsRow.lt h k e).1; intro e2; injection e2 with e2; omega
end Go.Proofs.Ytcihcdifjnobjaa
