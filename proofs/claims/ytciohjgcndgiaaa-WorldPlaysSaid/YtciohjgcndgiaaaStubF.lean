/- What is asked of the landed package world for fates: all of it real. -/
import Derived.Test.YtciohjgcndgiaaaWakes
import Derived.Test.YtciohjgcndgiaaaScripts
import Derived.Test.YtciohjgcndgiaaaCheckQ
import Derived.Test.YtciohjgcndgiaaaEvNew
import Derived.Test.YtciohjgcndgiaaaEvDial
import Derived.Test.YtciohjgcndgiaaaEvCut
import Derived.Test.YtciohjgcndgiaaaEvEnd
import Derived.Test.YtciohjgcndgiaaaEvEndM
import Derived.Test.YtciohjgcndgiaaaUnder
namespace Go.Proofs.Ytciohjgcndgiaaa
theorem theR_ok : fateOk theR := by
  intro f hf x hx
  have h : fokB f = true := hf
  unfold fokB at h
  simp only [Bool.and_eq_true, List.all_eq_true] at h
  simpa using h.2 x hx
theorem end_spec : EndSpec := end_walk (fun base g u A k x W h1 h2 h3 h4 h5 B M h6 h7 => endm_any base g u A k x W h1 h2 h3 h4 h5 B M h6 h7)
theorem under_ok : UnderOkSpec := fun A v l a c w r _ hl hoD hol hA ha hr => under_any A v l a c w r hl hol hoD hA ha hr
theorem wakes_spec : WakesSpec := wakes_walk theR (by decide +kernel) new_spec dial_spec ready_spec under_ok cut_spec end_spec
end Go.Proofs.Ytciohjgcndgiaaa
