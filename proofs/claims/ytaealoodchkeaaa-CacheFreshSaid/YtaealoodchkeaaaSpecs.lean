/- What is asked of package cache's calls: the document's words, as contracts. -/
import Derived.Test.YtaealoodchkeaaaRefP
set_option linter.unusedSimpArgs false
set_option linter.unusedVariables false
namespace Go.Proofs.Ytaealoodchkeaaa
open Go.RowKit Go.Proofs.Ytaealoodchkeaaa.Kind

def Cf.enc (x : Cf) : List Value := [.int .i64 x.perHost, .int .i64 x.idle, .int .i64 x.waiters, .int .i64 x.attempts, .int .i64 x.stagger, .int .i64 x.idleAge, .int .i64 x.ttl, .int .i64 x.negTTL, .int .i64 x.scarAge]
def EntrySpec : Prop := ∀ (x : Cf) (s row : ByteArray) (e now : Int) (y : Kn) (w : World), y = entryK x.ttl x.negTTL s row e now →
  Calls Try.prog 14 #[x.v, .string s, .string row, .int .i64 e, .int .i64 now] w fun e' w' => e' = .returned y.v ∧ Below w.heap.size w w'
def GetSpec : Prop := ∀ (l : List Kn) (s : ByteArray) (n : Int) (a : Option Addr) (c : Nat) (x : Kn) (r : Bool) (w : World), l.length ≤ 1000 → x = getV l s n → r = getB l s n → KK.RowC w a c l →
  Calls Try.prog 10 #[.slice a l.length c, .string s, .int .i64 n] w fun e w' => e = .returned (.tuple #[x.v, .bool r]) ∧ Below w.heap.size w w'
def PutSpec : Prop := ∀ (l more L : List Kn) (a b : Option Addr) (c d : Nat) (w : World), l.length ≤ 400 → more.length ≤ 400 → L = putK l more → KK.RowC w a c l → KK.RowC w b d more →
  Calls Try.prog 17 #[.slice a l.length c, .slice b more.length d] w fun e w' => ∃ a1 c1, e = .returned (.slice a1 L.length c1) ∧ KK.RowC w' a1 c1 L ∧ Below w.heap.size w w'
def FreshSpec : Prop := ∀ (l L : List Kn) (n : Int) (a : Option Addr) (c : Nat) (w : World), l.length ≤ 1000 → L = freshK l n → KK.RowC w a c l →
  Calls Try.prog 19 #[.slice a l.length c, .int .i64 n] w fun e w' => ∃ a1 c1, e = .returned (.slice a1 L.length c1) ∧ KK.RowC w' a1 c1 L ∧ Below w.heap.size w w'
def UntilSpec : Prop := ∀ (l : List Kn) (a : Option Addr) (c : Nat) (i t : Int) (w : World), l.length ≤ 1000 → i = (untilK l).1 → t = (untilK l).2 → KK.RowC w a c l →
  Calls Try.prog 12 #[.slice a l.length c] w fun e w' => e = .returned (.tuple #[.int .i64 i, .int .i64 t]) ∧ Below w.heap.size w w'
def MaySpec : Prop := ∀ (l : List Kn) (a : Option Addr) (c : Nat) (r : Bool) (w : World), l.length ≤ 1000 → r = mayK l → KK.RowC w a c l →
  Calls Try.prog 21 #[.slice a l.length c] w fun e w' => e = .returned (.bool r) ∧ Below w.heap.size w w'
def WakesSpec : Prop := ∀ w : World, Calls Try.prog 9 #[] w fun e w' => e = .returned (.bool true) ∧ Below w.heap.size w w'
theorem put_le (l : List Kn) : ∀ more : List Kn, (putK l more).length ≤ l.length + more.length := by
  intro more
  induction more generalizing l with
  | nil => simp [putK]
  | cons x t ih =>
    have h := ih (oneK l x)
    have h2 := one_len l x
    simp only [List.length_cons]
    show (putK (oneK l x) t).length ≤ _
    omega
end Go.Proofs.Ytaealoodchkeaaa
