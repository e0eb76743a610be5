/- Paces as plain data, their rows. -/
import Derived.Test.YtpncgcaepdkcnaaProg
import Derived.Test.YtpncgcaepdkcnaaKit
import Derived.ShutString
import Derived.Laws.StructEq
import Derived.ChangeKeysEq
set_option linter.unusedSimpArgs false
set_option linter.unusedVariables false
namespace Go.Proofs.Ytpncgcaepdkcnaa
open Go.RowKit Go.Proofs.Ytpncgcaepdkcnaa.Kind

def IK : Kind Try.prog Int where
  enc := fun n => [.int .i64 n]
  k := 1
  T := 3
  S := 22
  z := .int .i64 0
  bytes := 8
  hk := fun _ => rfl
  h1 := by
    intro x v hv
    simp only [List.mem_cons, List.not_mem_nil, or_false] at hv
    rcases hv with rfl
    rfl
  hu := Try.underlying22
  hi := by kernel_rfl
  hz := rfl
  hk0 := by decide
  hb := by decide
theorem IK.one {w : World} {b o : Nat} {l : List Int} (h : IK.At w b o l) {j : Nat} {x : Int} (hx : l[j]? = some x) : w.cell? ⟨b, o + j, none⟩ = some (.int .i64 x) := by
  have := h j x hx 0 _ rfl
  simpa [IK] using this
/-- api.Pace. -/
structure Pc where
  fail : Bool
  n : Int
  at_ : Int
  deriving DecidableEq, Inhabited
def Pc.enc (x : Pc) : List Value := [.bool x.fail, .int .i64 x.n, .int .i64 x.at_]
def Pc.v (x : Pc) : Value := .agg #[.bool x.fail, .int .i64 x.n, .int .i64 x.at_]
def PK : Kind Try.prog Pc where
  enc := Pc.enc
  k := 3
  T := 26
  S := 24
  z := .agg #[.bool false, .int .i64 0, .int .i64 0]
  bytes := 24
  hk := fun _ => rfl
  h1 := by
    intro x v hv
    simp only [Pc.enc, List.mem_cons, List.not_mem_nil, or_false] at hv
    rcases hv with rfl | rfl | rfl <;> rfl
  hu := Try.underlying24
  hi := by kernel_rfl
  hz := rfl
  hk0 := by decide
  hb := by decide
theorem PK.cells {w : World} {b o : Nat} {l : List Pc} (h : PK.At w b o l) {j : Nat} {x : Pc} (hx : l[j]? = some x) :
    w.cell? ⟨b, o + j * 3, none⟩ = some (.bool x.fail) ∧ w.cell? ⟨b, o + j * 3 + 1, none⟩ = some (.int .i64 x.n) ∧ w.cell? ⟨b, o + j * 3 + 2, none⟩ = some (.int .i64 x.at_) :=
  ⟨h j x hx 0 _ rfl, h j x hx 1 _ rfl, h j x hx 2 _ rfl⟩
theorem boxes3 {w : World} {g : Nat} {x0 x1 x2 : Value} {t : TypeId} (h : w.heap[g]? = some (.cells #[x0, x1, x2] t (0, 0))) :
    (w.cell? ⟨g, 0, none⟩ = some x0 ∧ w.cell? ⟨g, 1, none⟩ = some x1 ∧ w.cell? ⟨g, 2, none⟩ = some x2) ∧ (w.frozen? ⟨g, 0, none⟩ = false ∧ w.frozen? ⟨g, 1, none⟩ = false ∧ w.frozen? ⟨g, 2, none⟩ = false) := by
  simp [World.cell?, World.frozen?, h]
theorem load_Pc {w : World} {b : Nat} {x : Pc} {t : TypeId} (h : w.heap[b]? = some (.cells #[.bool x.fail, .int .i64 x.n, .int .i64 x.at_] t (0, 0))) :
    (loadVar 26 ⟨b, 0, none⟩).run Try.prog w = .ok (.agg #[.bool x.fail, .int .i64 x.n, .int .i64 x.at_]) w := by
  obtain ⟨⟨h0, h1, h2⟩, _⟩ := boxes3 h
  have ag1 := Try.isAgg26
  have sz1 := Try.sizeOf26
  clear h
  simp [loadVar, go_sem, *]
/-- switchboardlaw14.Act. -/
structure Ac where
  n : Int
  later : Int
  deriving DecidableEq, Inhabited
def Ac.enc (x : Ac) : List Value := [.int .i64 x.n, .int .i64 x.later]
def Ac.v (x : Ac) : Value := .agg #[.int .i64 x.n, .int .i64 x.later]
def CK : Kind Try.prog Ac where
  enc := Ac.enc
  k := 2
  T := 39
  S := 36
  z := .agg #[.int .i64 0, .int .i64 0]
  bytes := 16
  hk := fun _ => rfl
  h1 := by
    intro x v hv
    simp only [Ac.enc, List.mem_cons, List.not_mem_nil, or_false] at hv
    rcases hv with rfl | rfl <;> rfl
  hu := Try.underlying36
  hi := by kernel_rfl
  hz := rfl
  hk0 := by decide
  hb := by decide
theorem CK.cells {w : World} {b o : Nat} {l : List Ac} (h : CK.At w b o l) {j : Nat} {x : Ac} (hx : l[j]? = some x) :
    w.cell? ⟨b, o + j * 2, none⟩ = some (.int .i64 x.n) ∧ w.cell? ⟨b, o + j * 2 + 1, none⟩ = some (.int .i64 x.later) :=
  ⟨h j x hx 0 _ rfl, h j x hx 1 _ rfl⟩
theorem boxes2 {w : World} {g : Nat} {x0 x1 : Value} {t : TypeId} (h : w.heap[g]? = some (.cells #[x0, x1] t (0, 0))) :
    (w.cell? ⟨g, 0, none⟩ = some x0 ∧ w.cell? ⟨g, 1, none⟩ = some x1) ∧ (w.frozen? ⟨g, 0, none⟩ = false ∧ w.frozen? ⟨g, 1, none⟩ = false) := by
  simp [World.cell?, World.frozen?, h]
theorem load_Ac {w : World} {b : Nat} {x : Ac} {t : TypeId} (h : w.heap[b]? = some (.cells #[.int .i64 x.n, .int .i64 x.later] t (0, 0))) :
    (loadVar 39 ⟨b, 0, none⟩).run Try.prog w = .ok (.agg #[.int .i64 x.n, .int .i64 x.later]) w := by
  obtain ⟨⟨h0, h1⟩, _⟩ := boxes2 h
  have ag1 := Try.isAgg39
  have sz1 := Try.sizeOf39
  clear h
  simp [loadVar, go_sem, *]
end Go.Proofs.Ytpncgcaepdkcnaa
