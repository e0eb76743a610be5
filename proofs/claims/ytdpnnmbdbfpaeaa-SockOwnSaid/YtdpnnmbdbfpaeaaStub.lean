/- The calls of the program: what is open, what was shut twice; and the contracts together. -/
import Derived.Test.YtdpnnmbdbfpaeaaLiveLaw
import Derived.Test.YtdpnnmbdbfpaeaaCheckLaw
import Derived.Test.YtdpnnmbdbfpaeaaOwnLaw
import Derived.Test.YtdpnnmbdbfpaeaaPlaysLaw
import Derived.Test.YtdpnnmbdbfpaeaaCheckC
set_option linter.unusedSimpArgs false
set_option linter.unusedVariables false
namespace Go.Proofs.Ytdpnnmbdbfpaeaa
open Go.RowKit Go.Proofs.Ytdpnnmbdbfpaeaa.Kind

set_option maxHeartbeats 4000000 in
set_option maxRecDepth 1000000 in
theorem live_is (S : List Sk) (w1 : World) : Is_live S (fun _ x => isOpen x) w1 := by
  intro W' hb k x hx
  have hq := below1 W' (.cells #[.int .i8 x.ad.f, .int .u16 x.ad.g0, .int .u16 x.ad.g1, .int .u16 x.ad.g2, .int .u16 x.ad.g3, .int .u16 x.ad.g4, .int .u16 x.ad.g5, .int .u16 x.ad.g6, .int .u16 x.ad.g7, .int .i64 x.ad.p, .int .i64 x.by_, .int .i64 x.opened, .int .i64 x.shut, .bool x.dead] 48)
  have HQ := Lib.hid hq
  have HO := Lib.hid (fun W => open_any x (isOpen x) rfl W)
  clear hb hx hq
  go_enter Try.func24, Try.ntmps24
  go_wp2_with fail
  with_reducible refine (HO.out _).mono ?_
  rintro e w2 ⟨rfl, hb⟩
  have HB := Lib.hid (HQ.out.trans (hb.mono HQ.out.size))
  clear hb
  go_wp2_with fail
  go_ret
  exact ⟨rfl, HB.out⟩
set_option maxHeartbeats 4000000 in
set_option maxRecDepth 1000000 in
theorem twice_is (S : List Sk) (w1 : World) : Is_twice S (fun _ x => isTwice x) w1 := by
  intro W' hb k x hx
  have hq := below1 W' (.cells #[.int .i8 x.ad.f, .int .u16 x.ad.g0, .int .u16 x.ad.g1, .int .u16 x.ad.g2, .int .u16 x.ad.g3, .int .u16 x.ad.g4, .int .u16 x.ad.g5, .int .u16 x.ad.g6, .int .u16 x.ad.g7, .int .i64 x.ad.p, .int .i64 x.by_, .int .i64 x.opened, .int .i64 x.shut, .bool x.dead] 48)
  have HQ := Lib.hid hq
  clear hb hx hq
  go_enter Try.func26, Try.ntmps26
  go_wp2_with fail
  go_ret
  refine ⟨?_, HQ.out⟩
  unfold isTwice
  rfl

set_option maxHeartbeats 4000000 in
set_option maxRecDepth 1000000 in
theorem live_spec : LiveSpec := by
  intro S L a c w hS hL hA
  have HN := Lib.hid (numbers_live S (fun _ x => isOpen x) L (by rw [hL]; rfl) a c w (by omega) hA (live_is S w))
  clear hL hA hS
  go_enter Try.func12, Try.ntmps12
  go_wp2_with fail
  with_reducible refine HN.out.mono ?_
  rintro e w2 ⟨a1, c1, rfl, hI, hb⟩
  have HI := Lib.hid hI
  have HB := Lib.hid hb
  clear hI hb HN
  go_wp2_with fail
  go_ret
  exact ⟨_, _, rfl, HI.out, HB.out⟩
set_option maxHeartbeats 4000000 in
set_option maxRecDepth 1000000 in
theorem twice_spec : TwiceSpec := by
  intro S L a c w hS hL hA
  have HN := Lib.hid (numbers_twice S (fun _ x => isTwice x) L (by rw [hL]; rfl) a c w (by omega) hA (twice_is S w))
  clear hL hA hS
  go_enter Try.func16, Try.ntmps16
  go_wp2_with fail
  with_reducible refine HN.out.mono ?_
  rintro e w2 ⟨a1, c1, rfl, hI, hb⟩
  have HI := Lib.hid hI
  have HB := Lib.hid hb
  clear hI hb HN
  go_wp2_with fail
  go_ret
  exact ⟨_, _, rfl, HI.out, HB.out⟩
theorem wakes_spec : WakesSpec := wakes_walk open_spec shut_spec live_spec twice_spec check_spec
end Go.Proofs.Ytdpnnmbdbfpaeaa
