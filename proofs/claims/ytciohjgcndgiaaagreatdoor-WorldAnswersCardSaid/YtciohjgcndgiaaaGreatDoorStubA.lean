/- What is asked of the landed package world for answers: all of it real. -/
import Derived.Test.YtciohjgcndgiaaaGreatDoorWakes
import Derived.Test.YtciohjgcndgiaaaGreatDoorScripts
import Derived.Test.YtciohjgcndgiaaaGreatDoorCheckQ
import Derived.Test.YtciohjgcndgiaaaGreatDoorEvNew
import Derived.Test.YtciohjgcndgiaaaGreatDoorEvDial
import Derived.Test.YtciohjgcndgiaaaGreatDoorEvCut
import Derived.Test.YtciohjgcndgiaaaGreatDoorEvEnd
import Derived.Test.YtciohjgcndgiaaaGreatDoorEvEndM
import Derived.Test.YtciohjgcndgiaaaGreatDoorUnder
import Derived.Test.YtciohjgcndgiaaaGreatDoorEvAsk
import Derived.Test.YtciohjgcndgiaaaGreatDoorEvAns
import Derived.Test.YtciohjgcndgiaaaGreatDoorTexts
import Derived.Test.YtciohjgcndgiaaaGreatDoorRefAns
namespace Go.Proofs.YtciohjgcndgiaaaGreatDoor
open Go.RowKit Go.Proofs.YtciohjgcndgiaaaGreatDoor.Kind
theorem theR_ans : ansOk theR := by
  intro z hz l hl
  have h : zokB z = true := hz
  unfold zokB at h
  simp only [Bool.and_eq_true, List.all_eq_true] at h
  have h2 := h.2 l hl
  unfold ansB at h2
  simp only [Bool.and_eq_true, decide_eq_true_eq] at h2
  omega
theorem end_spec : EndSpec := end_walk (fun base g u A k x W h1 h2 h3 h4 h5 B M h6 h7 => endm_any base g u A k x W h1 h2 h3 h4 h5 B M h6 h7)
theorem under_ok : UnderOkSpec := fun A v l a c w r _ hl hoD hol hA ha hr => under_any A v l a c w r hl hol hoD hA ha hr
theorem wakes_spec : WakesSpec := wakes_walk theR (by decide +kernel) new_spec dial_spec ready_spec under_ok cut_spec end_spec
theorem answers_all (P : Pl) (pv : Pv) (s : ByteArray) (L : List Int) (al : Option Addr) (cl : Nat) (w : World) (hE : R2.Env w) (hM : Mem P) (hP : PlanC w pv P) (hL : IK.RowC w al cl L) :
    Calls Tryz.prog 3 #[pv.val P, .string s, .slice al L.length cl] w fun e w' => e = .returned (.bool true) ∧ Below w.heap.size w w' :=
  worldanswers_walk theR theX theR_ans new_spec ask_spec asked_spec answer_spec ref_answer refrow_real wakes_spec P pv s L al cl w hE hM hP hL
end Go.Proofs.YtciohjgcndgiaaaGreatDoor
