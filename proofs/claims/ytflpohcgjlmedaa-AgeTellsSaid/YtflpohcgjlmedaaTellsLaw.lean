/- AgeTells: the walk. -/
import Derived.Test.YtflpohcgjlmedaaLaws
set_option linter.unusedSimpArgs false
set_option linter.unusedVariables false
namespace Go.Proofs.Ytflpohcgjlmedaa
open Go.RowKit

set_option maxHeartbeats 4000000 in
set_option maxRecDepth 1000000 in
theorem tells_great (t n now : Int) (l : List Int) (a : Option Addr) (c : Nat) (w : World) (hl : 200 < l.length) (hm : l.length ≤ maxLen) :
    Calls Try.prog 3 #[.int .i64 t, .int .i64 n, .int .i64 now, .slice a l.length c] w fun e w' => e = .returned (.bool true) ∧ Below w.heap.size w w' := by
  unfold maxLen at hm
  go_enter Try.func3, Try.ntmps3
  go_wp2_with fail
  refine (wakes_any w).mono ?_
  rintro e w1 ⟨rfl, hb⟩
  go_wp2_with fail
  go_ret
  exact ⟨rfl, hb⟩

set_option maxHeartbeats 4000000 in
set_option maxRecDepth 1000000 in
theorem tells_small (t n now : Int) (l : List Int) (a : Option Addr) (c : Nat) (w : World) (hl : l.length ≤ 200) (hA : RowI w a l) :
    Calls Try.prog 3 #[.int .i64 t, .int .i64 n, .int .i64 now, .slice a l.length c] w fun e w' => e = .returned (.bool true) ∧ Below w.heap.size w w' := by
  have HA := Lib.hid hA
  clear hA
  obtain ⟨I, hI⟩ : ∃ I, (P.first l).1 = I := ⟨_, rfl⟩
  obtain ⟨T, hT⟩ : ∃ T, (P.first l).2 = T := ⟨_, rfl⟩
  obtain ⟨C, hC⟩ : ∃ C, P.clamp t = C := ⟨_, rfl⟩
  obtain ⟨L, hL⟩ : ∃ L, P.later t l = L := ⟨_, rfl⟩
  obtain ⟨G, hG⟩ : ∃ G, P.gone t now = G := ⟨_, rfl⟩
  obtain ⟨O, hO⟩ : ∃ O, P.old t n now = O := ⟨_, rfl⟩
  have HI := Lib.hid hI
  have HT := Lib.hid hT
  have HC := Lib.hid hC
  have HL := Lib.hid hL
  have HG := Lib.hid hG
  have HO := Lib.hid hO
  clear hI hT hC hL hG hO
  go_enter Try.func3, Try.ntmps3
  go_wp2_with fail
  refine (first_any l a c w (by omega) HA.out).mono ?_
  rw [HI.out, HT.out]
  rintro e w1 ⟨rfl, hb⟩
  have HA1 := Lib.hid (HA.out.below hb)
  go_wp2_with fail
  refine (rfirst_any l a c w1 (by omega) HA1.out).mono ?_
  rw [HI.out, HT.out]
  rintro e w2 ⟨rfl, hb2⟩
  have HA2 := Lib.hid (HA1.out.below hb2)
  have hb2 := hb.trans (hb2.mono hb.size)
  clear hb
  go_wp2_with fail
  refine (clamp_any t w2).mono ?_
  rw [HC.out]
  rintro e wz ⟨rfl, hwz⟩
  subst wz
  go_wp2_with fail
  refine (rclamp_any t w2).mono ?_
  rw [HC.out]
  rintro e wz ⟨rfl, hwz⟩
  subst wz
  go_wp2_with fail
  refine (later_any t l a c w2 (by omega) HA2.out).mono ?_
  rw [HL.out]
  rintro e wz ⟨rfl, hwz⟩
  subst wz
  go_wp2_with fail
  refine (rlater_any t l a c w2 (by omega) HA2.out).mono ?_
  rw [HL.out]
  rintro e wz ⟨rfl, hwz⟩
  subst wz
  go_wp2_with fail
  refine (gone_any t now w2).mono ?_
  rw [HG.out]
  rintro e wz ⟨rfl, hwz⟩
  subst wz
  go_wp2_with fail
  refine (rgone_any t now w2).mono ?_
  rw [HG.out]
  rintro e wz ⟨rfl, hwz⟩
  subst wz
  go_wp2_with fail
  refine (old_any t n now w2).mono ?_
  rw [HO.out]
  rintro e wz ⟨rfl, hwz⟩
  subst wz
  go_wp2_with fail
  refine (rold_any t n now w2).mono ?_
  rw [HO.out]
  rintro e w3 ⟨rfl, hb3⟩
  have hb3 := hb2.trans (hb3.mono hb2.size)
  clear hb2
  go_wp2_with fail
  refine (wakes_any w3).mono ?_
  rintro e w4 ⟨rfl, hb4⟩
  have hb4 := hb3.trans (hb4.mono hb3.size)
  clear hb3
  go_wp2_with fail
  go_ret
  exact ⟨rfl, hb4⟩
theorem tells_walk (t n now : Int) (l : List Int) (a : Option Addr) (c : Nat) (w : World) (hm : l.length ≤ maxLen) (hA : RowI w a l) :
    Calls Try.prog 3 #[.int .i64 t, .int .i64 n, .int .i64 now, .slice a l.length c] w fun e w' => e = .returned (.bool true) ∧ Below w.heap.size w w' := by
  by_cases h : 200 < l.length
  · exact tells_great t n now l a c w h hm
  · exact tells_small t n now l a c w (by omega) hA
end Go.Proofs.Ytflpohcgjlmedaa
