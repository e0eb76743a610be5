/- Acts as plain data. -/
import Derived.Test.YtomiajgedcpjiaaNum
set_option linter.unusedSimpArgs false
set_option linter.unusedVariables false
namespace Go.Proofs.Ytomiajgedcpjiaa
open Go.RowKit Go.Proofs.Ytomiajgedcpjiaa.Kind

structure Ac where
  act : Int
  m : Lt
  deriving Inhabited
def Ac.enc (x : Ac) : List Value := [.int .i64 x.act, .int .i8 x.m.kind, .int .i64 x.m.fr, .int .i64 x.m.num, .int .i64 x.m.sock, .string x.m.text, .int .i64 x.m.e]
def AK : Kind Try.prog Ac where
  enc := Ac.enc
  k := 7
  T := 34
  S := 22
  z := .agg #[.int .i64 0, .int .i8 0, .int .i64 0, .int .i64 0, .int .i64 0, .string ⟨#[]⟩, .int .i64 0]
  bytes := 64
  hk := fun _ => rfl
  h1 := by
    intro x v hv
    simp only [Ac.enc, List.mem_cons, List.not_mem_nil, or_false] at hv
    rcases hv with rfl | rfl | rfl | rfl | rfl | rfl | rfl <;> rfl
  hu := Try.underlying22
  hi := by kernel_rfl
  hz := rfl
  hk0 := by decide
  hb := by decide
/-- The seven cells of an act. -/
theorem AK.seven {w : World} {b o : Nat} {l : List Ac} (h : AK.At w b o l) {j : Nat} {x : Ac} (hx : l[j]? = some x) :
    w.cell? ⟨b, o + j * 7, none⟩ = some (.int .i64 x.act) ∧ w.cell? ⟨b, o + j * 7 + 1, none⟩ = some (.int .i8 x.m.kind) ∧ w.cell? ⟨b, o + j * 7 + 2, none⟩ = some (.int .i64 x.m.fr) ∧ w.cell? ⟨b, o + j * 7 + 3, none⟩ = some (.int .i64 x.m.num) ∧
    w.cell? ⟨b, o + j * 7 + 4, none⟩ = some (.int .i64 x.m.sock) ∧ w.cell? ⟨b, o + j * 7 + 5, none⟩ = some (.string x.m.text) ∧ w.cell? ⟨b, o + j * 7 + 6, none⟩ = some (.int .i64 x.m.e) :=
  ⟨h j x hx 0 _ rfl, h j x hx 1 _ rfl, h j x hx 2 _ rfl, h j x hx 3 _ rfl, h j x hx 4 _ rfl, h j x hx 5 _ rfl, h j x hx 6 _ rfl⟩
end Go.Proofs.Ytomiajgedcpjiaa
