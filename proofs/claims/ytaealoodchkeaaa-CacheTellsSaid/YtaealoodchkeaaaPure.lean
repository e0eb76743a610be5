/- Entries as plain data, their rows. -/
import Derived.Test.YtaealoodchkeaaaProg
import Derived.Test.YtaealoodchkeaaaKit
import Derived.ShutString
import Derived.Laws.StructEq
import Derived.ChangeKeysEq
set_option linter.unusedSimpArgs false
set_option linter.unusedVariables false
namespace Go.Proofs.Ytaealoodchkeaaa
open Go.RowKit Go.Proofs.Ytaealoodchkeaaa.Kind

theorem text_eq (a b : ByteArray) : (a.toList == b.toList) = decide (a = b) := by
  by_cases h : a = b
  · subst h; simp
  · have hne : a.toList ≠ b.toList := fun e => by
      rw [ByteArray.toList_eq, ByteArray.toList_eq] at e
      exact h (ByteArray.ext (Array.toList_inj.1 e))
    simp [h, hne]
def IK : Kind Try.prog Int where
  enc := fun n => [.int .i64 n]
  k := 1
  T := 3
  S := 52
  z := .int .i64 0
  bytes := 8
  hk := fun _ => rfl
  h1 := by
    intro x v hv
    simp only [List.mem_cons, List.not_mem_nil, or_false] at hv
    rcases hv with rfl
    rfl
  hu := Try.underlying52
  hi := by kernel_rfl
  hz := rfl
  hk0 := by decide
  hb := by decide
/-- api.Known. -/
structure Kn where
  name : ByteArray
  row : ByteArray
  e : Int
  until_ : Int
  deriving DecidableEq, Inhabited
def Kn.enc (x : Kn) : List Value := [.string x.name, .string x.row, .int .i64 x.e, .int .i64 x.until_]
def Kn.v (x : Kn) : Value := .agg #[.string x.name, .string x.row, .int .i64 x.e, .int .i64 x.until_]
def KK : Kind Try.prog Kn where
  enc := Kn.enc
  k := 4
  T := 29
  S := 24
  z := .agg #[.string { data := #[] }, .string { data := #[] }, .int .i64 0, .int .i64 0]
  bytes := 48
  hk := fun _ => rfl
  h1 := by
    intro x v hv
    simp only [Kn.enc, List.mem_cons, List.not_mem_nil, or_false] at hv
    rcases hv with rfl | rfl | rfl | rfl <;> rfl
  hu := Try.underlying24
  hi := by kernel_rfl
  hz := rfl
  hk0 := by decide
  hb := by decide
theorem KK.cells {w : World} {b o : Nat} {l : List Kn} (h : KK.At w b o l) {j : Nat} {x : Kn} (hx : l[j]? = some x) :
    w.cell? ⟨b, o + j * 4, none⟩ = some (.string x.name) ∧ w.cell? ⟨b, o + j * 4 + 1, none⟩ = some (.string x.row) ∧ w.cell? ⟨b, o + j * 4 + 2, none⟩ = some (.int .i64 x.e) ∧ w.cell? ⟨b, o + j * 4 + 3, none⟩ = some (.int .i64 x.until_) :=
  ⟨h j x hx 0 _ rfl, h j x hx 1 _ rfl, h j x hx 2 _ rfl, h j x hx 3 _ rfl⟩
theorem boxes4 {w : World} {g : Nat} {x0 x1 x2 x3 : Value} {t : TypeId} (h : w.heap[g]? = some (.cells #[x0, x1, x2, x3] t (0, 0))) :
    (w.cell? ⟨g, 0, none⟩ = some x0 ∧ w.cell? ⟨g, 1, none⟩ = some x1 ∧ w.cell? ⟨g, 2, none⟩ = some x2 ∧ w.cell? ⟨g, 3, none⟩ = some x3) ∧ (w.frozen? ⟨g, 0, none⟩ = false ∧ w.frozen? ⟨g, 1, none⟩ = false ∧ w.frozen? ⟨g, 2, none⟩ = false ∧ w.frozen? ⟨g, 3, none⟩ = false) := by
  simp [World.cell?, World.frozen?, h]
theorem load_Kn {w : World} {b : Nat} {x : Kn} {t : TypeId} (h : w.heap[b]? = some (.cells #[.string x.name, .string x.row, .int .i64 x.e, .int .i64 x.until_] t (0, 0))) :
    (loadVar 29 ⟨b, 0, none⟩).run Try.prog w = .ok (.agg #[.string x.name, .string x.row, .int .i64 x.e, .int .i64 x.until_]) w := by
  obtain ⟨⟨h0, h1, h2, h3⟩, _⟩ := boxes4 h
  have ag1 := Try.isAgg29
  have sz1 := Try.sizeOf29
  clear h
  simp [loadVar, go_sem, *]
set_option maxHeartbeats 1000000 in
theorem self_Kn_10000 (w : World) (x : Kn) : (Op.equalIn 10000 29 x.v x.v).run Try.prog w = .ok true w := by
  have hS : Try.prog.underlying 29 = some (.struct (Try.prog.fieldsOf 29)) := by kernel_rfl
  have hp : Try.prog.stoodInHeld 29 = false := by kernel_rfl
  have a0 := Try.isAgg9
  have z0 := Try.sizeOf9
  have u0 := Try.underlying9
  have a1 := Try.isAgg25
  have z1 := Try.sizeOf25
  have u1 := Try.underlying25
  have a2 := Try.isAgg3
  have z2 := Try.sizeOf3
  have u2 := Try.underlying3
  simp only [Kn.v]
  rw [show (10000 : Nat) = 9999 + 1 from rfl, run_equalIn_agg w _ _ _ _ hS hp]
  simp only [Program.fieldsOf, Try.underlying29]
  go_simp
theorem guard_Kn (op : BinOp) (x y : Operand) (xs ys : Array Value) (w : World) : (eqGuard op 29 x y (.agg xs) (.agg ys)).run Try.prog w = .ok () w := run_eqGuard_agg w op _ x y xs ys (by kernel_rfl)
theorem neq_self_Kn (x : Kn) (W : World) : (binOp .neq 29 (.agg #[.string x.name, .string x.row, .int .i64 x.e, .int .i64 x.until_]) (.agg #[.string x.name, .string x.row, .int .i64 x.e, .int .i64 x.until_])).run Try.prog W = .ok (.bool false) W := by
  have h := self_Kn_10000 W x
  simp only [Kn.v] at h
  rw [run_neq_struct, h]
  try simp
theorem eql_self_Kn (x : Kn) (W : World) : (binOp .eql 29 (.agg #[.string x.name, .string x.row, .int .i64 x.e, .int .i64 x.until_]) (.agg #[.string x.name, .string x.row, .int .i64 x.e, .int .i64 x.until_])).run Try.prog W = .ok (.bool true) W := by
  have h := self_Kn_10000 W x
  simp only [Kn.v] at h
  rw [run_eql_struct, h]
  try simp

end Go.Proofs.Ytaealoodchkeaaa
