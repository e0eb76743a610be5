/- What is asked of the landed package world for plans: all of it real. -/
import Derived.Test.YtciohjgcndgiaaaGreatWakes
import Derived.Test.YtciohjgcndgiaaaGreatScripts
import Derived.Test.YtciohjgcndgiaaaGreatCheckQ
import Derived.Test.YtciohjgcndgiaaaGreatEvNew
import Derived.Test.YtciohjgcndgiaaaGreatEvDial
import Derived.Test.YtciohjgcndgiaaaGreatEvCut
import Derived.Test.YtciohjgcndgiaaaGreatEvEnd
import Derived.Test.YtciohjgcndgiaaaGreatEvEndM
import Derived.Test.YtciohjgcndgiaaaGreatEvTick
import Derived.Test.YtciohjgcndgiaaaGreatEvDrop
import Derived.Test.YtciohjgcndgiaaaGreatUnder
import Derived.Test.YtciohjgcndgiaaaGreatRefWhole
namespace Go.Proofs.YtciohjgcndgiaaaGreat
theorem theR_ok : fateOk theR := by
  intro f hf x hx
  have h : fokB f = true := hf
  unfold fokB at h
  simp only [Bool.and_eq_true, List.all_eq_true] at h
  simpa using h.2 x hx
theorem end_spec : EndSpec := end_walk (fun base g u A k x W h1 h2 h3 h4 h5 B M h6 h7 => endm_any base g u A k x W h1 h2 h3 h4 h5 B M h6 h7)
theorem under_ok : UnderOkSpec := fun A v l a c w r _ hl hoD hol hA ha hr => under_any A v l a c w r hl hol hoD hA ha hr
theorem wakes_spec : WakesSpec := wakes_walk theR (by decide +kernel) new_spec dial_spec ready_spec under_ok cut_spec end_spec
theorem refcheck_spec : RefCheckSpec theR := refcheck_real
end Go.Proofs.YtciohjgcndgiaaaGreat
