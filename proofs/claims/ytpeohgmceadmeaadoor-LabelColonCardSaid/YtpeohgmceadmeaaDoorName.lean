/- PLAIN LEAN for layer 1: names. -/
import Derived.Test.YtpeohgmceadmeaaDoorPure
namespace Go.Proofs.YtpeohgmceadmeaaDoor.P

def letB (r : Int) : Bool := decide (97 ≤ r ∧ r ≤ 122 ∨ 65 ≤ r ∧ r ≤ 90 ∨ (192 ≤ r ∧ r ≤ 591 ∧ ¬ r = 215 ∧ ¬ r = 247))
def digB (r : Int) : Bool := decide (48 ≤ r ∧ r ≤ 57)
def portB (n : Int) : Bool := decide (1 ≤ n ∧ n ≤ 65535)
/-- Is r a sign? -/
def sgB (r : Int) : Bool := letB r || digB r || r == 45
/-- May r stand behind b in a name? -/
def fol (b r : Int) : Bool := if r = 46 then decide (¬ b = 46 ∧ ¬ b = 45) else if r = 45 then decide (¬ b = 46) else letB r || digB r
def validR : Int → List (Nat × Nat) → Bool
  | b, [] => fol b 46
  | b, o :: t => fol b o.1 && validR o.1 t
def name (l : List UInt8) : Bool := decide (l.length ≤ 64) && validR 46 (runesOf l)
def foldR (r : Int) : Int := if 65 ≤ r ∧ r ≤ 90 ∨ 192 ≤ r ∧ r ≤ 222 then r + 32 else r
def foldL (t : List (Nat × Nat)) : List UInt8 := t.flatMap fun o => Lib.encodeRune (foldR o.1)
def foldB (l : List UInt8) : List UInt8 := foldL (runesOf l)
def wells (t : List (Nat × Nat)) : Nat := (t.filter fun o => decide (o.2 ≠ 0)).length
def ills (t : List (Nat × Nat)) : Nat := (t.filter fun o => decide (o.2 = 0)).length

theorem fol_cases (b r : Int) (t : Bool) (h : t = true ↔ b = 46) : fol b r = if r == 46 then (!t && !(b == 45)) else (sgB r && !(t && r == 45)) := by
  have hb : ∀ x y : Int, (x == y) = decide (x = y) := fun x y => by rw [Bool.eq_iff_iff]; simp
  simp only [fol, sgB, hb]
  cases t <;> by_cases h1 : r = 46 <;> by_cases h2 : r = 45 <;> by_cases h3 : b = 46 <;> by_cases h4 : b = 45 <;> simp_all
theorem fol_bad (b : Int) : fol b 0 = false ∧ fol b 65533 = false := by
  constructor <;> (unfold fol letB digB; simp)
end Go.Proofs.YtpeohgmceadmeaaDoor.P
