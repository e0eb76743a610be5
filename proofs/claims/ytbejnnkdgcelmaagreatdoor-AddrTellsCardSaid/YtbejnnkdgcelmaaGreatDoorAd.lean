/- Addresses as plain data, and how they lie in cells. -/
import Derived.Test.YtbejnnkdgcelmaaGreatDoorProg
import Derived.WalkKit
import Derived.Handy
import Derived.WalkSpells
import Derived.WalkLawsBesides
import Derived.WalkSmall
import Derived.ShutString
import Derived.Lib.Hide
import Derived.Below
import Derived.Deep.Light
import Derived.Deep.LoopGhost
import Derived.Deep.QuietTactic
import Derived.BigQuiet
import Derived.ProofKit
set_option linter.unusedSimpArgs false
set_option linter.unusedVariables false
namespace Go.Proofs.YtbejnnkdgcelmaaGreatDoor
open Go.RowKit

structure Ad where
  f : Int
  g0 : Int
  g1 : Int
  g2 : Int
  g3 : Int
  g4 : Int
  g5 : Int
  g6 : Int
  g7 : Int
  p : Int
  deriving DecidableEq, Inhabited

def Ad.gs (a : Ad) : List Int := [a.g0, a.g1, a.g2, a.g3, a.g4, a.g5, a.g6, a.g7]
def Ad.gv (a : Ad) : List Value := [.int .u16 a.g0, .int .u16 a.g1, .int .u16 a.g2, .int .u16 a.g3, .int .u16 a.g4, .int .u16 a.g5, .int .u16 a.g6, .int .u16 a.g7]
def Ad.enc (a : Ad) : List Value := [.int .i8 a.f, .int .u16 a.g0, .int .u16 a.g1, .int .u16 a.g2, .int .u16 a.g3, .int .u16 a.g4, .int .u16 a.g5, .int .u16 a.g6, .int .u16 a.g7, .int .i64 a.p]
def Ad.v (a : Ad) : Value := .agg a.enc.toArray
def Ad.Ok (a : Ad) : Prop := (-128 ≤ a.f ∧ a.f ≤ 127) ∧ ((0 ≤ a.g0 ∧ a.g0 ≤ 65535) ∧ (0 ≤ a.g1 ∧ a.g1 ≤ 65535) ∧ (0 ≤ a.g2 ∧ a.g2 ≤ 65535) ∧ (0 ≤ a.g3 ∧ a.g3 ≤ 65535) ∧ (0 ≤ a.g4 ∧ a.g4 ≤ 65535) ∧ (0 ≤ a.g5 ∧ a.g5 ≤ 65535) ∧ (0 ≤ a.g6 ∧ a.g6 ≤ 65535) ∧ (0 ≤ a.g7 ∧ a.g7 ≤ 65535)) ∧ -9223372036854775808 ≤ a.p ∧ a.p ≤ 9223372036854775807
/-- May the groups be those of such a family? -/
def mayG (a : Ad) : Bool := if a.f == 4 then a.g2 == 0 && a.g3 == 0 && a.g4 == 0 && a.g5 == 0 && a.g6 == 0 && a.g7 == 0 else a.f == 6
def mayP (a : Ad) : Bool := mayG a && decide (1 ≤ a.p) && decide (a.p ≤ 65535)
theorem Ad.enc_length (a : Ad) : a.enc.length = 10 := rfl
theorem Ad.enc_one (a : Ad) : ∀ v ∈ a.enc, v.oneCell' = true := by
  intro v hv
  simp only [Ad.enc, List.mem_cons, List.not_mem_nil, or_false] at hv
  rcases hv with rfl | rfl | rfl | rfl | rfl | rfl | rfl | rfl | rfl | rfl <;> rfl
end Go.Proofs.YtbejnnkdgcelmaaGreatDoor
