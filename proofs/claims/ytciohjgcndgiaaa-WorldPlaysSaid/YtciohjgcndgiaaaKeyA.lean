/- Addresses as keys of a set. -/
import Derived.Test.YtciohjgcndgiaaaFind
import Derived.Maps.OwnSet
import Derived.Maps.Range
import Derived.Maps.Views
import Derived.DeepKeys4
import Derived.ChangeKeys
set_option linter.unusedSimpArgs false
set_option linter.unusedVariables false
namespace Go.Proofs.Ytciohjgcndgiaaa
open Go.RowKit Go.Maps Go.Proofs.Ytciohjgcndgiaaa.Kind

def litsA (a : Ad) : List Lit := [.int .i8 a.f, .int .u16 a.g0, .int .u16 a.g1, .int .u16 a.g2, .int .u16 a.g3, .int .u16 a.g4, .int .u16 a.g5, .int .u16 a.g6, .int .u16 a.g7, .int .i64 a.p]
def keyA (a : Ad) : Lit := .string (keyBytes (litsA a))
theorem okA_wf {a : Ad} (h : okA a) : ∀ x ∈ litsA a, x.keyWf := by
  intro x hx
  obtain ⟨h0, ⟨h1, h2, h3, h4, h5, h6, h7, h8⟩, h9⟩ := h
  simp only [litsA, List.mem_cons, List.not_mem_nil, or_false] at hx
  rcases hx with rfl | rfl | rfl | rfl | rfl | rfl | rfl | rfl | rfl | rfl <;> simp [Lit.keyWf, Lit.wf, IntKind.min, IntKind.max, IntKind.signed, IntKind.bits] <;> omega
theorem keyA_inj {a b : Ad} (ha : okA a) (hb : okA b) (h : keyA a = keyA b) : a = b := by
  unfold keyA at h
  injection h with h
  have h2 := keyBytes_inj (by simp [litsA, Alike, Lit.sameKind]) (okA_wf ha) (okA_wf hb) h
  obtain ⟨f, g0, g1, g2, g3, g4, g5, g6, g7, p⟩ := a
  obtain ⟨f', k0, k1, k2, k3, k4, k5, k6, k7, p'⟩ := b
  simp [litsA] at h2
  simp [h2]
theorem lits_int {q : IntKind} {t : TypeId} {n : Int} (d : Nat) (hu : Try.prog.underlying t = some (.int q)) (hw : (Lit.int q n).wf = true) : Try.prog.keyLits (d + 1) t [.int q n] = some [.int q n] := by
  simp [Program.keyLits, hu, hw]
theorem lits_arr {g0 g1 g2 g3 g4 g5 g6 g7 : Int} (d : Nat) (h0 : (Lit.int .u16 g0).wf = true) (h1 : (Lit.int .u16 g1).wf = true) (h2 : (Lit.int .u16 g2).wf = true) (h3 : (Lit.int .u16 g3).wf = true) (h4 : (Lit.int .u16 g4).wf = true) (h5 : (Lit.int .u16 g5).wf = true) (h6 : (Lit.int .u16 g6).wf = true) (h7 : (Lit.int .u16 g7).wf = true) :
    Try.prog.keyLits (d + 2) 41 [.int .u16 g0, .int .u16 g1, .int .u16 g2, .int .u16 g3, .int .u16 g4, .int .u16 g5, .int .u16 g6, .int .u16 g7] = some [.int .u16 g0, .int .u16 g1, .int .u16 g2, .int .u16 g3, .int .u16 g4, .int .u16 g5, .int .u16 g6, .int .u16 g7] := by
  have c1 : Try.prog.cellsOf 40 = 1 := by kernel_rfl
  have c8 : Try.prog.cellsOf 41 = 8 := by kernel_rfl
  have hu := Try.underlying40
  have k0 := lits_int d hu h0
  have k1 := lits_int d hu h1
  have k2 := lits_int d hu h2
  have k3 := lits_int d hu h3
  have k4 := lits_int d hu h4
  have k5 := lits_int d hu h5
  have k6 := lits_int d hu h6
  have k7 := lits_int d hu h7
  unfold Program.keyLits
  rw [Try.underlying41]
  simp [c1, c8, List.range, List.range.loop, k0, k1, k2, k3, k4, k5, k6, k7]
theorem lits_ad {a : Ad} (h : okA a) (d : Nat) : Try.prog.keyLits (d + 3) 43 a.enc = some (litsA a) := by
  have hw := okA_wf h
  obtain ⟨f, g0, g1, g2, g3, g4, g5, g6, g7, p⟩ := a
  simp only [litsA, List.mem_cons, List.not_mem_nil, or_false, forall_eq_or_imp, forall_eq, Lit.keyWf] at hw
  obtain ⟨w0, w1, w2, w3, w4, w5, w6, w7, w8, w9⟩ := hw
  have c1 : Try.prog.cellsOf 39 = 1 := by kernel_rfl
  have c8 : Try.prog.cellsOf 41 = 8 := by kernel_rfl
  have c2 : Try.prog.cellsOf 3 = 1 := by kernel_rfl
  have ca : Try.prog.cellsOf 43 = 10 := by kernel_rfl
  have k0 := lits_int (d + 1) Try.underlying39 w0
  have k1 := lits_arr d w1 w2 w3 w4 w5 w6 w7 w8
  have k2 := lits_int (d + 1) Try.underlying3 w9
  unfold Program.keyLits
  rw [Try.underlying43]
  simp [Ad.enc, litsA, c1, c8, c2, ca, k0, k1, k2]
theorem key_ad {a : Ad} (h : okA a) : keyOf Try.prog 43 (.agg #[.int .i8 a.f, .int .u16 a.g0, .int .u16 a.g1, .int .u16 a.g2, .int .u16 a.g3, .int .u16 a.g4, .int .u16 a.g5, .int .u16 a.g6, .int .u16 a.g7, .int .i64 a.p]) = some (keyA a) := by
  have hk : Try.prog.keyType 43 = true := by kernel_rfl
  have ca : Try.prog.cellsOf 43 = 10 := by kernel_rfl
  have hs : 2 ≤ Try.prog.types.size := of_decide_eq_true (by kernel_rfl)
  obtain ⟨d, hd⟩ : ∃ d, Try.prog.types.size + 1 = d + 3 := ⟨Try.prog.types.size - 2, by omega⟩
  have hl := lits_ad h d
  rw [← hd] at hl
  simp only [Ad.enc] at hl
  have hfm : (Value.agg #[.int .i8 a.f, .int .u16 a.g0, .int .u16 a.g1, .int .u16 a.g2, .int .u16 a.g3, .int .u16 a.g4, .int .u16 a.g5, .int .u16 a.g6, .int .u16 a.g7, .int .i64 a.p]).formed Try.prog 43 = true := by
    unfold Value.formed
    rw [Try.underlying43, ca]
    rfl
  unfold keyOf
  rw [Try.underlying43]
  dsimp only
  rw [if_pos (by rw [hk, hfm]; rfl)]
  show Option.map _ (Try.prog.keyLits (Try.prog.types.size + 1) 43 [.int .i8 a.f, .int .u16 a.g0, .int .u16 a.g1, .int .u16 a.g2, .int .u16 a.g3, .int .u16 a.g4, .int .u16 a.g5, .int .u16 a.g6, .int .u16 a.g7, .int .i64 a.p]) = _
  rw [hl]
  rfl
theorem law_ad : Keyed Try.prog 43 := Keyed.of_law (Go.deep_law_laid (m := Try.prog.types.size) (by kernel_rfl) (of_decide_eq_true (by kernel_rfl)) (of_decide_eq_true (by kernel_rfl)) (by kernel_rfl) (by kernel_rfl))

/-- What the set holds behind the first k of l. -/
def SetTo (l : List Ad) (D : DataW Unit) (k : Nat) : Prop := ∀ x : Ad, okA x → Maps.has D (keyA x) = decide (x ∈ l.take k)
theorem setTo_zero (l : List Ad) : SetTo l (.map []) 0 := fun x _ => by simp [Maps.has]
theorem setTo_step {l : List Ad} {D : DataW Unit} {k : Nat} {z : Ad} {d : DataW Unit} (h : SetTo l D k) (hD : Maps.IsMap D) (hz : l[k]? = some z) (ho : okA z) : SetTo l (D.put (keyA z) d) (k + 1) := fun x hx => by
  have hkl : WideAt.IsKeyLit (keyA z) := by simp [keyA, WideAt.IsKeyLit]
  have ht : l.take (k + 1) = l.take k ++ [z] := by rw [List.take_add_one, hz]; rfl
  by_cases e : x = z
  · subst e
    rw [has_put_same hD hkl, ht]
    simp
  · have hne : keyA x ≠ keyA z := fun e2 => e (keyA_inj hx ho e2)
    rw [has_put_other hne, h x hx, ht]
    simp [e]
theorem map_below {H : Type} {Pr : Program} {k : TypeId} {R : Value → Option (DataW H × List MemPlace)} {b n : Nat} {D : DataW H} {w w' : World} (h : w.ownsMap Pr k R b n D) (hb : Below w.heap.size w w') : w'.ownsMap Pr k R b n D := by
  have hlt := h.lt
  obtain ⟨es, clock, h1, h2⟩ := h
  exact ⟨es, clock, (hb.block b hlt).trans h1, h2⟩
end Go.Proofs.Ytciohjgcndgiaaa
