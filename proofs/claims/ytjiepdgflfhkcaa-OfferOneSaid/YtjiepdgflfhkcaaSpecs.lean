/- What is asked of the program's calls: the document's words, as contracts. -/
import Derived.Test.YtjiepdgflfhkcaaSmall
set_option linter.unusedSimpArgs false
set_option linter.unusedVariables false
namespace Go.Proofs.Ytjiepdgflfhkcaa
open Go.RowKit Go.Proofs.Ytjiepdgflfhkcaa.Kind Go.Proofs.Ytjiepdgflfhkcaa.P7

def AllSpec : Prop := ∀ (hs : List Hv) (R : List (List Of)) (D : List Dv) (clock : Int) (dl lk : List Bool) (a b e f : Option Addr) (c d g h : Nat) (w : World), R.length ≤ 31 → D.length ≤ 200 → (∀ x ∈ D, x.n ≤ 100 ∧ x.cap ≤ 9223372036854775807) → (R.map (fun l => l.length)).sum ≤ 100 →
  RowsC w a c hs R → DK.RowC w b d D → BK.RowC w e g dl → BK.RowC w f h lk →
  Calls Try.prog 8 #[.slice a hs.length c, .slice b D.length d, .int .i64 clock, .slice e dl.length g, .slice f lk.length h] w fun x w' => ∃ a' c', x = .returned (.slice a' (ready R D clock dl lk).length c') ∧ MK.FarC w' w.heap.size a' c' (ready R D clock dl lk) ∧ Below w.heap.size w w'
def caseP (R : List (List Of)) (p i : Int) : Option Of := if p < 0 ∨ i < 0 then none else (R[p.toNat]?).bind (fun row => row[i.toNat]?)
def letterP (m : Mt) (R : List (List Of)) : Lt × Bool := match caseP R m.p m.i, caseP R m.q m.j with
  | some a, some b => if a.kind = 0 ∧ b.kind = 1 ∧ a.duct = b.duct then (a.m, true) else (Lt.zero, false)
  | _, _ => (Lt.zero, false)
def LetterSpec : Prop := ∀ (m : Mt) (hs : List Hv) (R : List (List Of)) (a : Option Addr) (c : Nat) (w : World) (x : Lt) (ok : Bool), letterP m R = (x, ok) → RowsC w a c hs R →
  Calls Try.prog 11 #[.agg #[.int .i64 m.p, .int .i64 m.i, .int .i64 m.q, .int .i64 m.j], .slice a hs.length c] w fun e w' => e = .returned (.tuple #[.agg #[.int .i8 x.kind, .int .i64 x.fr, .int .i64 x.num, .int .i64 x.sock, .string x.text, .int .i64 x.e], .bool ok]) ∧ Below w.heap.size w w'
def IsSpec : Prop := ∀ (m : Mt) (l : List Mt) (a : Option Addr) (c : Nat) (w : World), l.length ≤ 20000 → MK.RowC w a c l →
  Calls Try.prog 12 #[.agg #[.int .i64 m.p, .int .i64 m.i, .int .i64 m.q, .int .i64 m.j], .slice a l.length c] w fun e w' => e = .returned (.bool (decide (m ∈ l))) ∧ Below w.heap.size w w'
def AloneSpec : Prop := ∀ (o : Of) (D : List Dv) (clock : Int) (dial look : Bool) (b : Option Addr) (d : Nat) (w : World), D.length ≤ 200 → (∀ x ∈ D, x.n ≤ 100 ∧ x.cap ≤ 9223372036854775807) → DK.RowC w b d D →
  Calls Try.prog 14 #[.agg #[.int .i8 o.kind, .int .i64 o.duct, .int .i8 o.m.kind, .int .i64 o.m.fr, .int .i64 o.m.num, .int .i64 o.m.sock, .string o.m.text, .int .i64 o.m.e, .int .i64 o.t], .slice b D.length d, .int .i64 clock, .bool dial, .bool look] w fun e w' => e = .returned (.bool (aloneP D clock o dial look)) ∧ Below w.heap.size w w'
def PickSpec : Prop := ∀ (n : Int) (l : List Mt) (m : Mt) (a : Option Addr) (c : Nat) (w : World), 0 ≤ n → l.length ≤ 20000 → 0 < l.length → l[(n % (l.length : Int)).toNat]? = some m → MK.RowC w a c l →
  Calls Try.prog 17 #[.int .i64 n, .slice a l.length c] w fun e w' => e = .returned (.tuple #[.agg #[.int .i64 m.p, .int .i64 m.i, .int .i64 m.q, .int .i64 m.j], .int .i64 0]) ∧ Below w.heap.size w w'
def WakesSpec : Prop := ∀ w : World, Calls Try.prog 7 #[] w fun e w' => e = .returned (.bool true) ∧ Below w.heap.size w w'

theorem ready_len (R : List (List Of)) (D : List Dv) (clock : Int) (dl lk : List Bool) (h : (R.map (fun l => l.length)).sum ≤ 100) (hR : R.length ≤ 31) : (ready R D clock dl lk).length ≤ 20000 := by
  unfold ready
  refine Nat.le_trans (allP_le _ _ R) ?_
  have h1 := Nat.mul_le_mul h (Nat.add_le_add_left h 1)
  omega
end Go.Proofs.Ytjiepdgflfhkcaa
