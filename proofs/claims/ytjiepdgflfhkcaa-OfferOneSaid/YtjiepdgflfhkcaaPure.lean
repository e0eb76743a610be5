/- Letters and ducts as plain data; how they lie in cells; '==' of letters. -/
import Derived.Test.YtjiepdgflfhkcaaProg
import Derived.Test.YtjiepdgflfhkcaaKit
import Derived.ShutString
import Derived.Laws.StructEq
import Derived.ChangeKeysEq
set_option linter.unusedSimpArgs false
set_option linter.unusedVariables false
namespace Go.Proofs.Ytjiepdgflfhkcaa
open Go.RowKit

structure Lt where
  kind : Int
  fr : Int
  num : Int
  sock : Int
  text : ByteArray
  e : Int
  deriving DecidableEq, Inhabited

def Lt.enc (a : Lt) : List Value := [.int .i8 a.kind, .int .i64 a.fr, .int .i64 a.num, .int .i64 a.sock, .string a.text, .int .i64 a.e]
def Lt.v (a : Lt) : Value := .agg #[.int .i8 a.kind, .int .i64 a.fr, .int .i64 a.num, .int .i64 a.sock, .string a.text, .int .i64 a.e]
def Lt.zero : Lt := ⟨0, 0, 0, 0, ⟨#[]⟩, 0⟩

/-- A duct as a value: its room, where its letters lie, whether it is closed. -/
structure Dv where
  cap : Int
  a : Option Addr
  n : Nat
  c : Nat
  closed : Bool
  deriving Inhabited
def Dv.enc (d : Dv) : List Value := [.int .i64 d.cap, .slice d.a d.n d.c, .bool d.closed]
def Dv.v (d : Dv) : Value := .agg #[.int .i64 d.cap, .slice d.a d.n d.c, .bool d.closed]

def LK : Kind Try.prog Lt where
  enc := Lt.enc
  k := 6
  T := 36
  S := 40
  z := .agg #[.int .i8 0, .int .i64 0, .int .i64 0, .int .i64 0, .string ⟨#[]⟩, .int .i64 0]
  bytes := 56
  hk := fun _ => rfl
  h1 := by
    intro x v hv
    simp only [Lt.enc, List.mem_cons, List.not_mem_nil, or_false] at hv
    rcases hv with rfl | rfl | rfl | rfl | rfl | rfl <;> rfl
  hu := Try.underlying40
  hi := by kernel_rfl
  hz := rfl
  hk0 := by decide
  hb := by decide

def DK : Kind Try.prog Dv where
  enc := Dv.enc
  k := 3
  T := 42
  S := 23
  z := .agg #[.int .i64 0, .slice none 0 0, .bool false]
  bytes := 40
  hk := fun _ => rfl
  h1 := by
    intro x v hv
    simp only [Dv.enc, List.mem_cons, List.not_mem_nil, or_false] at hv
    rcases hv with rfl | rfl | rfl <;> rfl
  hu := Try.underlying23
  hi := by kernel_rfl
  hz := rfl
  hk0 := by decide
  hb := by decide

/-- The six cells of a letter. -/
theorem LK.six {w : World} {b o : Nat} {l : List Lt} (h : LK.At w b o l) {j : Nat} {x : Lt} (hx : l[j]? = some x) :
    w.cell? ⟨b, o + j * 6, none⟩ = some (.int .i8 x.kind) ∧ w.cell? ⟨b, o + j * 6 + 1, none⟩ = some (.int .i64 x.fr) ∧ w.cell? ⟨b, o + j * 6 + 2, none⟩ = some (.int .i64 x.num) ∧
    w.cell? ⟨b, o + j * 6 + 3, none⟩ = some (.int .i64 x.sock) ∧ w.cell? ⟨b, o + j * 6 + 4, none⟩ = some (.string x.text) ∧ w.cell? ⟨b, o + j * 6 + 5, none⟩ = some (.int .i64 x.e) :=
  ⟨h j x hx 0 _ rfl, h j x hx 1 _ rfl, h j x hx 2 _ rfl, h j x hx 3 _ rfl, h j x hx 4 _ rfl, h j x hx 5 _ rfl⟩

theorem guard_letter (op : BinOp) (x y : Operand) (xs ys : Array Value) (w : World) : (eqGuard op 36 x y (.agg xs) (.agg ys)).run Try.prog w = .ok () w := run_eqGuard_agg w op _ x y xs ys (by kernel_rfl)

set_option maxHeartbeats 1000000 in
theorem equalIn_letter (w : World) (a b : Lt) : (Op.equalIn 10000 36 a.v b.v).run Try.prog w = .ok (a == b) w := by
  have hS : Try.prog.underlying 36 = some (.struct (Try.prog.fieldsOf 36)) := by kernel_rfl
  have hp : Try.prog.stoodInHeld 36 = false := by kernel_rfl
  have u1 := Try.underlying33
  have u2 := Try.underlying3
  have u3 := Try.underlying9
  have u4 := Try.underlying34
  have a1 := Try.isAgg33
  have a2 := Try.isAgg3
  have a3 := Try.isAgg9
  have a4 := Try.isAgg34
  have z1 := Try.sizeOf33
  have z2 := Try.sizeOf3
  have z3 := Try.sizeOf9
  have z4 := Try.sizeOf34
  obtain ⟨k, f, n, s, t, e⟩ := a
  obtain ⟨k', f', n', s', t', e'⟩ := b
  simp only [Lt.v] at *
  rw [show (10000 : Nat) = 9999 + 1 from rfl, run_equalIn_agg w _ _ _ _ hS hp]
  simp only [Program.fieldsOf, Try.underlying36]
  have ee : ((⟨k, f, n, s, t, e⟩ : Lt) == ⟨k', f', n', s', t', e'⟩) = (k == k' && (f == f' && (n == n' && (s == s' && (decide (t = t') && e == e'))))) := by
    rw [Bool.eq_iff_iff]
    simp only [beq_iff_eq, Lt.mk.injEq, Bool.and_eq_true, decide_eq_true_eq]
  rw [ee]
  have ht : (t.toList = t'.toList) ↔ t = t' := by
    rw [ByteArray.toList_eq, ByteArray.toList_eq]
    exact ⟨WideShapes.bytes_inj, fun h => by rw [h]⟩
  go_simp
  try simp only [ht]
  clear ee
  by_cases h1 : k = k' <;> by_cases h2 : f = f' <;> by_cases h3 : n = n' <;> by_cases h4 : s = s' <;> by_cases h5 : t = t' <;> by_cases h6 : e = e' <;> simp_all
theorem eql_letter (w : World) (a b : Lt) : (binOp .eql 36 a.v b.v).run Try.prog w = .ok (.bool (a == b)) w := by
  have h := equalIn_letter w a b
  simp only [Lt.v] at h ⊢
  rw [run_eql_struct, h]
  rfl
theorem neq_letter (w : World) (a b : Lt) : (binOp .neq 36 a.v b.v).run Try.prog w = .ok (.bool (a != b)) w := by
  have h := equalIn_letter w a b
  simp only [Lt.v] at h ⊢
  rw [run_neq_struct, h]
  rfl
def BK : Kind Try.prog Bool where
  enc := fun b => [.bool b]
  k := 1
  T := 4
  S := 24
  z := .bool false
  bytes := 1
  hk := fun _ => rfl
  h1 := by
    intro x v hv
    simp only [List.mem_cons, List.not_mem_nil, or_false] at hv
    rcases hv with rfl
    rfl
  hu := Try.underlying24
  hi := by kernel_rfl
  hz := rfl
  hk0 := by decide
  hb := by decide
theorem BK.one {w : World} {b o : Nat} {l : List Bool} (h : BK.At w b o l) {j : Nat} {x : Bool} (hx : l[j]? = some x) : w.cell? ⟨b, o + j, none⟩ = some (.bool x) := by
  have h1 := h j x hx 0 _ rfl
  have e : o + j * BK.k + 0 = o + j := by show o + j * 1 + 0 = o + j; omega
  rwa [e] at h1
end Go.Proofs.Ytjiepdgflfhkcaa
