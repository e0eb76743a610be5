/- What is asked of the world package's lookups. -/
import Derived.Test.YtciohjgcndgiaaaGreatDoorScripts
set_option linter.unusedSimpArgs false
set_option linter.unusedVariables false
namespace Go.Proofs.YtciohjgcndgiaaaGreatDoor
open Go.RowKit Go.Proofs.YtciohjgcndgiaaaGreatDoor.Kind

def AskSpec : Prop := ∀ (N : Nat → Prop) (A : Wo) (v : Wv) (y : Int) (s : ByteArray) (w : World) (B : Wo) (r : Int), (∀ b, N b → b < w.heap.size) → Room A → s.size ≤ 400 → FlatN N w v A → B = askP A y s → r = askE A y →
  Calls Tryz.prog 7 #[v.val A, .int .i64 y, .string s] w (RetW N w B r)
def AskedSpec : Prop := ∀ (A : Wo) (v : Wv) (y : Int) (w : World) (r : Bool), Room A → WorldC w v A → r = askedP A y →
  Calls Tryz.prog 8 #[v.val A, .int .i64 y] w (RetB w r)
def AnswerWSpec (R : Rules) (X : Texts) : Prop := ∀ (N : Nat → Prop) (A : Wo) (v : Wv) (y : Int) (w : World) (B : Wo) (m : Lt) (r : Int), (∀ b, N b → b < w.heap.size) → Room A → X.env w → Fits A.plan → checkB R A.plan = true → FlatN N w v A → B = answerW A y → m = ansM X A y → r = ansE A y →
  Calls Tryz.prog 9 #[v.val A, .int .i64 y] w (RetM N w B m r)
end Go.Proofs.YtciohjgcndgiaaaGreatDoor
