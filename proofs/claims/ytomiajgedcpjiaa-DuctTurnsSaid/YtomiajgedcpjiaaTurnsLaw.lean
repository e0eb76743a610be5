/- DuctTurns: the walk. -/
import Derived.Test.YtomiajgedcpjiaaBox
set_option linter.unusedSimpArgs false
set_option linter.unusedVariables false
namespace Go.Proofs.Ytomiajgedcpjiaa
open Go.RowKit Go.Proofs.Ytomiajgedcpjiaa.Kind

set_option maxHeartbeats 4000000 in
set_option maxRecDepth 1000000 in
theorem ductturns_great (z : Int) (l : List Lt) (a : Option Addr) (c : Nat) (w : World) (hA : LK.RowC w a c l) (h : greatB l = true ∨ (greatB l = false ∧ z < 0) ∨ (greatB l = false ∧ 0 ≤ z ∧ 64 < z)) :
    Calls Try.prog 6 #[.int .i64 z, .slice a l.length c] w fun e w' => e = .returned (.bool true) ∧ Below w.heap.size w w' := by
  have HW := Lib.hid (wakes_any w)
  have HG := Lib.hid (rgreat_any l a c w hA)
  clear hA
  rcases h with h1 | ⟨h1, h2⟩ | ⟨h1, h2, h3⟩
  all_goals
    rw [h1] at HG
    go_enter Try.func6, Try.ntmps6
    go_wp2_with fail
    with_reducible refine HG.out.mono ?_
    rintro e w1 ⟨rfl, hw⟩
    subst w1
    go_wp2_with fail
    with_reducible refine HW.out.mono ?_
    rintro e w1 ⟨rfl, hB⟩
    go_wp2_with fail
    go_ret
    exact ⟨rfl, hB⟩

set_option maxHeartbeats 8000000 in
set_option maxRecDepth 1000000 in
theorem ductturns_small (z : Int) (l : List Lt) (a : Option Addr) (c : Nat) (w : World) (hA : LK.RowC w a c l) (hg : greatB l = false) (hz : 0 ≤ z) (hz2 : z ≤ 64) (hl : l.length ≤ 100) :
    Calls Try.prog 6 #[.int .i64 z, .slice a l.length c] w fun e w' => e = .returned (.bool true) ∧ Below w.heap.size w w' := by
  have HG := Lib.hid (rgreat_any l a c w hA)
  rw [hg] at HG
  have hm0 : mayB z 0 = true := by simp [mayB, hz, hz2]
  have HA := Lib.hid hA
  have HM0 := Lib.hid hm0
  have HN := Lib.hid (new_any z [] hm0 none 0 w (row_none w))
  rw [List.length_nil] at HN
  clear hA hg hm0
  go_enter Try.func6, Try.ntmps6
  go_wp2_with fail
  with_reducible refine HG.out.mono ?_
  rintro e w1 ⟨rfl, hw⟩
  subst w1
  go_wp2_with fail
  with_reducible refine HN.out.mono ?_
  rintro e w1 ⟨a1, c1, rfl, hF, hB⟩
  have hs1 := hB.size
  have HD := Lib.hid (laid2 w1 (.cells #[.int .i64 z, .slice a1 0 c1, .bool false] 26) (.cells #[.int .i64 z, .slice a1 0 c1, .bool false] 26))
  have HB := Lib.hid ((hB.alloc hs1 (.cells #[.int .i64 z, .slice a1 0 c1, .bool false] 26)).alloc (by simp; omega) (.cells #[.int .i64 z, .slice a1 0 c1, .bool false] 26))
  have HR1 := Lib.hid hF.row
  clear hF hB HN HG
  go_wp2_with fail
  go_loopw [4, 8] (fun u4 u8 wr => ∃ (k c2 : Nat) (a2 : Option Addr), u8 = .int .i64 k ∧ k ≤ l.length ∧ u4 = .bool false ∧ Hid (wr.heap[w1.heap.size]? = some (.cells #[.int .i64 z, .slice a2 0 c2, .bool false] 26 (0, 0))) ∧ Hid (LK.RowC wr a2 c2 []) ∧
    Hid (wr.heap[w1.heap.size + 1]? = some (.cells #[.int .i64 z, .slice a1 0 c1, .bool false] 26 (0, 0))) ∧ Below w.heap.size w wr) (fun _ u _ => l.length - (intOf u).toNat)
  case atStart => exact ⟨0, c1, a1, rfl, by omega, rfl, Lib.hid HD.out.1, Lib.hid (row_bare HR1.out), Lib.hid HD.out.2, HB.out⟩
  case round =>
    obtain ⟨k, c2, a2, rfl, hk, rfl, hD, hR, hS, hbw⟩ := hrel
    have HD := Lib.hid hD.out
    have HR := Lib.hid hR.out
    have HS := Lib.hid hS.out
    have HBW := Lib.hid hbw
    have hbs := hbw.size
    clear hD hR hS hbw
    by_cases hlt : k < l.length
    · obtain ⟨b, o, rfl, hb, hat⟩ := (HA.out.below HBW.out).2.2.2 (by omega)
      obtain ⟨x, hx⟩ : ∃ x, l[k]? = some x := ⟨_, List.getElem?_eq_getElem hlt⟩
      obtain ⟨z0, z1, z2, z3, z4, z5⟩ := LK.six hat hx
      obtain ⟨⟨p0, p1, p2⟩, p3, p4, p5⟩ := box3 HD.out
      have hlb : (k : Int) < (l.length : Int) := by omega
      have hk0 : (0 : Int) ≤ (k : Int) := by omega
      clear hx hat
      obtain ⟨er, L, hPR⟩ : ∃ er L, PutR z false [] [x] er L := by
        by_cases h : z = 0
        · exact ⟨50, [], .inr (.inl ⟨rfl, by simp [roomB, h], rfl, rfl⟩)⟩
        · exact ⟨0, [x], .inr (.inr ⟨rfl, by simp [roomB]; omega, rfl, rfl⟩)⟩
      have HPR := Lib.hid hPR
      have HP := Lib.hid (fun W g h => put_any z false [] [x] er L HPR.out HM0.out (by simp) a2 (some ⟨g, 0, none⟩) c2 1 W (row_bare HR.out) (row_in (w := W) (g := g) (x := x) (t := 32) h))
      rw [List.length_nil, List.length_singleton] at HP
      have hd5 : w1.heap.size < wr.heap.size := lt_of_block HD.out
      have F1 := Lib.hid (show (wr.alloc (.cells #[.int .i8 x.kind, .int .i64 x.fr, .int .i64 x.num, .int .i64 x.sock, .string x.text, .int .i64 x.e] 32)).drew.heap[wr.heap.size]? = some (.cells #[.int .i8 x.kind, .int .i64 x.fr, .int .i64 x.num, .int .i64 x.sock, .string x.text, .int .i64 x.e] 32) from laid1 wr _)
      have F2 := Lib.hid (show ((wr.alloc (.cells #[.int .i8 x.kind, .int .i64 x.fr, .int .i64 x.num, .int .i64 x.sock, .string x.text, .int .i64 x.e] 32)).alloc (.cells #[.int .i64 0, .slice none 0 0, .bool false] 26)).drew.heap[wr.heap.size]? = some (.cells #[.int .i8 x.kind, .int .i64 x.fr, .int .i64 x.num, .int .i64 x.sock, .string x.text, .int .i64 x.e] 32) ∧ ((wr.alloc (.cells #[.int .i8 x.kind, .int .i64 x.fr, .int .i64 x.num, .int .i64 x.sock, .string x.text, .int .i64 x.e] 32)).alloc (.cells #[.int .i64 0, .slice none 0 0, .bool false] 26)).drew.heap[wr.heap.size + 1]? = some (.cells #[.int .i64 0, .slice none 0 0, .bool false] 26) from laid2 wr _ _)
      have F3 := Lib.hid (show ((wr.alloc (.cells #[.int .i64 0, .slice none 0 0, .bool false] 26)).alloc (.cells #[.int .i8 x.kind, .int .i64 x.fr, .int .i64 x.num, .int .i64 x.sock, .string x.text, .int .i64 x.e] 32)).drew.heap[wr.heap.size]? = some (.cells #[.int .i64 0, .slice none 0 0, .bool false] 26) ∧ ((wr.alloc (.cells #[.int .i64 0, .slice none 0 0, .bool false] 26)).alloc (.cells #[.int .i8 x.kind, .int .i64 x.fr, .int .i64 x.num, .int .i64 x.sock, .string x.text, .int .i64 x.e] 32)).drew.heap[wr.heap.size + 1]? = some (.cells #[.int .i8 x.kind, .int .i64 x.fr, .int .i64 x.num, .int .i64 x.sock, .string x.text, .int .i64 x.e] 32) from laid2 wr _ _)
      have B1 := Lib.hid (show Below wr.heap.size wr (wr.alloc (.cells #[.int .i8 x.kind, .int .i64 x.fr, .int .i64 x.num, .int .i64 x.sock, .string x.text, .int .i64 x.e] 32)).drew from ((Below.refl _ _).alloc (Nat.le_refl _) _).drew)
      have B2 := Lib.hid (show Below wr.heap.size wr ((wr.alloc (.cells #[.int .i8 x.kind, .int .i64 x.fr, .int .i64 x.num, .int .i64 x.sock, .string x.text, .int .i64 x.e] 32)).alloc (.cells #[.int .i64 0, .slice none 0 0, .bool false] 26)).drew from (((Below.refl _ _).alloc (Nat.le_refl _) _).alloc (by simp) _).drew)
      have B3 := Lib.hid (show Below wr.heap.size wr ((wr.alloc (.cells #[.int .i64 0, .slice none 0 0, .bool false] 26)).alloc (.cells #[.int .i8 x.kind, .int .i64 x.fr, .int .i64 x.num, .int .i64 x.sock, .string x.text, .int .i64 x.e] 32)).drew from (((Below.refl _ _).alloc (Nat.le_refl _) _).alloc (by simp) _).drew)
      have HZ := Lib.hid (And.intro (And.intro p0 (And.intro p1 p2)) (And.intro z0 (And.intro z1 (And.intro z2 (And.intro z3 (And.intro z4 z5))))))
      have S2 := Lib.hid (show wr.heap.size + 1 < ((wr.alloc (.cells #[.int .i8 x.kind, .int .i64 x.fr, .int .i64 x.num, .int .i64 x.sock, .string x.text, .int .i64 x.e] 32)).alloc (.cells #[.int .i64 0, .slice none 0 0, .bool false] 26)).drew.heap.size by show wr.heap.size + 1 < ((wr.alloc _).alloc _).heap.size; simp)
      have S3 := Lib.hid (show wr.heap.size < ((wr.alloc (.cells #[.int .i64 0, .slice none 0 0, .bool false] 26)).alloc (.cells #[.int .i8 x.kind, .int .i64 x.fr, .int .i64 x.num, .int .i64 x.sock, .string x.text, .int .i64 x.e] 32)).drew.heap.size by show wr.heap.size < ((wr.alloc _).alloc _).heap.size; simp; omega)
      have e1 : ¬ wr.heap.size + 1 = w1.heap.size := by omega
      have e2 : ¬ wr.heap.size = w1.heap.size := by omega
      have e3 : ¬ wr.heap.size + 1 = b := by omega
      have e4 : ¬ wr.heap.size = b := by omega
      have e5 : ¬ w1.heap.size = wr.heap.size + 1 := by omega
      have e6 : ¬ w1.heap.size = wr.heap.size := by omega
      have e7 : ¬ b = wr.heap.size + 1 := by omega
      have e8 : ¬ b = wr.heap.size := by omega
      clear hPR
      go_upto_region 10 with fail
      go_cut [9, 10] (fun s9 s10 wx => Hid (Left wr wx z false L s9) ∧ s10 = .int .i64 er)
      case first =>
        go_region_held3 (fun w' => (w'.cell? ⟨w1.heap.size, 0, none⟩ = some (.int .i64 z) ∧ w'.cell? ⟨w1.heap.size, 1, none⟩ = some (.slice a2 0 c2) ∧ w'.cell? ⟨w1.heap.size, 2, none⟩ = some (.bool false)) ∧ (w'.cell? ⟨b, o + k * 6, none⟩ = some (.int .i8 x.kind) ∧ w'.cell? ⟨b, o + k * 6 + 1, none⟩ = some (.int .i64 x.fr) ∧ w'.cell? ⟨b, o + k * 6 + 2, none⟩ = some (.int .i64 x.num) ∧ w'.cell? ⟨b, o + k * 6 + 3, none⟩ = some (.int .i64 x.sock) ∧ w'.cell? ⟨b, o + k * 6 + 4, none⟩ = some (.string x.text) ∧ w'.cell? ⟨b, o + k * 6 + 5, none⟩ = some (.int .i64 x.e))) (go_keep) (first
          | (go_at_call 9; first | (with_reducible refine (HP.out _ _ F1.out).mono ?_) | (with_reducible refine (HP.out _ _ F2.out.1).mono ?_) | (with_reducible refine (HP.out _ _ F3.out.2).mono ?_)
             rintro e w2 ⟨a3, c3, rfl, hF, hB⟩
             have hW : Below wr.heap.size wr w2 := by first | exact B1.out.trans (hB.mono B1.out.size) | exact B2.out.trans (hB.mono B2.out.size) | exact B3.out.trans (hB.mono B3.out.size)
             first | (have hq := (hB.block (wr.heap.size + 1) S2.out).trans F2.out.2; obtain ⟨⟨q0, q1, q2⟩, q3, q4, q5⟩ := box3 hq; have HQ := Lib.hid hq; clear hq) | (have hq := (hB.block wr.heap.size S3.out).trans F3.out.1; obtain ⟨⟨q0, q1, q2⟩, q3, q4, q5⟩ := box3 hq; have HQ := Lib.hid hq; clear hq) | skip
             have f0 := (hW.cell (p := ⟨w1.heap.size, 0, none⟩) hd5).trans HZ.out.1.1
             have f1 := (hW.cell (p := ⟨w1.heap.size, 1, none⟩) hd5).trans HZ.out.1.2.1
             have f2 := (hW.cell (p := ⟨w1.heap.size, 2, none⟩) hd5).trans HZ.out.1.2.2
             have g0 := (hW.cell (p := ⟨b, o + k * 6, none⟩) hb).trans HZ.out.2.1
             have g1 := (hW.cell (p := ⟨b, o + k * 6 + 1, none⟩) hb).trans HZ.out.2.2.1
             have g2 := (hW.cell (p := ⟨b, o + k * 6 + 2, none⟩) hb).trans HZ.out.2.2.2.1
             have g3 := (hW.cell (p := ⟨b, o + k * 6 + 3, none⟩) hb).trans HZ.out.2.2.2.2.1
             have g4 := (hW.cell (p := ⟨b, o + k * 6 + 4, none⟩) hb).trans HZ.out.2.2.2.2.2.1
             have g5 := (hW.cell (p := ⟨b, o + k * 6 + 5, none⟩) hb).trans HZ.out.2.2.2.2.2.2
             have HF := Lib.hid hF
             have HW2 := Lib.hid hW
             clear hF hB hW))
        all_goals
          go_wp2_with fail
          go_meet
          first | exact ⟨Lib.hid (left_new HF.out HW2.out), rfl⟩ | exact ⟨Lib.hid (left_set HF.out HW2.out S2.out (by omega) HQ.out), rfl⟩ | exact ⟨Lib.hid (left_set HF.out HW2.out S3.out (by omega) HQ.out), rfl⟩
      case rest =>
        obtain ⟨hLf, rfl⟩ := hcut
        obtain ⟨g, a3, c3, rfl, hgw, hq, hR3, hBw⟩ := hLf.out
        clear F1 F2 F3 B1 B2 B3 S2 S3 HP p0 p1 p2 p3 p4 p5
        have hd7 : w1.heap.size + 1 < wr.heap.size := lt_of_block HS.out
        have hdc := (hBw.block w1.heap.size hd5).trans HD.out
        have hsc := (hBw.block (w1.heap.size + 1) hd7).trans HS.out
        have HDc := Lib.hid hdc
        have HSc := Lib.hid hsc
        have HQc := Lib.hid hq
        have HR3 := Lib.hid hR3
        have HBc := Lib.hid (HBW.out.trans (hBw.mono hbs))
        have HBcx := Lib.hid hBw
        have hwc := hBw.size
        have hgc : g < wc.heap.size := lt_of_block hq
        obtain ⟨⟨p0, p1, p2⟩, p3, p4, p5⟩ := box3 hq
        obtain ⟨⟨q0, q1, q2⟩, q3, q4, q5⟩ := box3 hsc
        by_cases hz0 : z = 0
        · obtain ⟨rfl, rfl⟩ : er = 50 ∧ L = [] := by
            rcases HPR.out with ⟨h, _⟩ | ⟨_, _, h1, h2⟩ | ⟨_, h, _⟩
            · cases h
            · exact ⟨h1, h2⟩
            · simp [roomB, hz0] at h
          have hzb : (z == 0) = true := by rw [beq_iff_eq]; exact hz0
          have HSm := Lib.hid (rsame_eq z false [] a3 a1 c3 c1 wc (by simp) HR3.out (row_bare HR1.out))
          rw [List.length_nil] at *
          clear hz0
          clear hq hsc hR3 hdc hBw hLf
          go_wp2_with fail
          with_reducible refine HSm.out.mono ?_
          rintro e w2 ⟨rfl, hB⟩
          have HB2 := Lib.hid hB
          clear hB
          go_wp2_with fail
          go_roundw
          case rel => exact ⟨k + 1, c2, a2, by go_num, by omega, by trivial, Lib.hid ((HB2.out.block _ (by omega)).trans HDc.out), Lib.hid (row_bare HR.out), Lib.hid ((HB2.out.block _ (by omega)).trans HSc.out), HBc.out.trans (HB2.out.mono (by omega))⟩
          case measure => simp [intOf]; omega
        · obtain ⟨rfl, rfl⟩ : er = 0 ∧ L = [x] := by
            rcases HPR.out with ⟨h, _⟩ | ⟨_, h, _⟩ | ⟨_, _, h1, h2⟩
            · cases h
            · simp [roomB] at h; omega
            · exact ⟨h1, h2⟩
          have hzb : (z == 0) = false := by rw [beq_eq_false_iff_ne]; exact hz0
          have HT := Lib.hid (take_any z false [x] 0 x [] (.inr ⟨rfl, rfl⟩) (by simp [mayB]; omega) a3 c3 wc HR3.out)
          simp only [Lt.v, List.length_singleton, List.length_nil] at HT
          rw [List.length_singleton] at *
          clear hq hsc hR3 hdc hBw hLf
          go_wp2_with fail
          with_reducible refine HT.out.mono ?_
          rintro e w3 ⟨a4, c4, rfl, hF, hB⟩
          have h3 := hB.size
          have hB4 := (hB.alloc h3 (.cells #[.int .i8 x.kind, .int .i64 x.fr, .int .i64 x.num, .int .i64 x.sock, .string x.text, .int .i64 x.e] 32)).alloc (by simp; omega) (.cells #[.int .i64 z, .slice a4 0 c4, .bool false] 26)
          have hl4 := laid2 w3 (.cells #[.int .i8 x.kind, .int .i64 x.fr, .int .i64 x.num, .int .i64 x.sock, .string x.text, .int .i64 x.e] 32) (.cells #[.int .i64 z, .slice a4 0 c4, .bool false] 26)
          have hs4 := (hB4.block (w1.heap.size + 1) (by omega)).trans HSc.out
          have hd4 := (hB4.block w1.heap.size (by omega)).trans HDc.out
          obtain ⟨⟨q0, q1, q2⟩, q3, q4, q5⟩ := box3 hs4
          obtain ⟨⟨m0, m1, m2, m3, m4, m5⟩, _⟩ := box6 hl4.1
          obtain ⟨⟨n0, n1, n2⟩, _⟩ := box3 hl4.2
          have k0 := (hB4.cell (p := ⟨b, o + k * 6, none⟩) (by simp; omega)).trans ((HBcx.out.cell (p := ⟨b, o + k * 6, none⟩) hb).trans z0)
          have k1 := (hB4.cell (p := ⟨b, o + k * 6 + 1, none⟩) (by simp; omega)).trans ((HBcx.out.cell (p := ⟨b, o + k * 6 + 1, none⟩) hb).trans z1)
          have k2 := (hB4.cell (p := ⟨b, o + k * 6 + 2, none⟩) (by simp; omega)).trans ((HBcx.out.cell (p := ⟨b, o + k * 6 + 2, none⟩) hb).trans z2)
          have k3 := (hB4.cell (p := ⟨b, o + k * 6 + 3, none⟩) (by simp; omega)).trans ((HBcx.out.cell (p := ⟨b, o + k * 6 + 3, none⟩) hb).trans z3)
          have k4 := (hB4.cell (p := ⟨b, o + k * 6 + 4, none⟩) (by simp; omega)).trans ((HBcx.out.cell (p := ⟨b, o + k * 6 + 4, none⟩) hb).trans z4)
          have k5 := (hB4.cell (p := ⟨b, o + k * 6 + 5, none⟩) (by simp; omega)).trans ((HBcx.out.cell (p := ⟨b, o + k * 6 + 5, none⟩) hb).trans z5)
          have HSm := Lib.hid (rsame_eq z false [] a4 a1 c4 c1 ((w3.alloc (.cells #[.int .i8 x.kind, .int .i64 x.fr, .int .i64 x.num, .int .i64 x.sock, .string x.text, .int .i64 x.e] 32)).alloc (.cells #[.int .i64 z, .slice a4 0 c4, .bool false] 26)).drew (by simp) (row_bare hF.row) (row_bare HR1.out))
          rw [List.length_nil] at HSm
          have HB4 := Lib.hid hB4
          have HD4 := Lib.hid hd4
          have HS4 := Lib.hid hs4
          have HL4 := Lib.hid hl4
          have HF4 := Lib.hid hF.row
          have hnq := neq_self x
          have hgd := guard_letter
          clear hB hB4 hd4 hs4 hl4 hF HT p0 p1 p2 p3 p4 p5
          go_wp2_with fail
          have C0 := Lib.hid (show ((w3.alloc (.cells #[.int .i8 x.kind, .int .i64 x.fr, .int .i64 x.num, .int .i64 x.sock, .string x.text, .int .i64 x.e] 32)).alloc (.cells #[.int .i64 z, .slice a4 0 c4, .bool false] 26)).drew.cell? ⟨w3.heap.size, 0, none⟩ = some (.int .i8 x.kind) from m0)
          have C1 := Lib.hid (show ((w3.alloc (.cells #[.int .i8 x.kind, .int .i64 x.fr, .int .i64 x.num, .int .i64 x.sock, .string x.text, .int .i64 x.e] 32)).alloc (.cells #[.int .i64 z, .slice a4 0 c4, .bool false] 26)).drew.cell? ⟨w3.heap.size, 1, none⟩ = some (.int .i64 x.fr) from m1)
          have C2 := Lib.hid (show ((w3.alloc (.cells #[.int .i8 x.kind, .int .i64 x.fr, .int .i64 x.num, .int .i64 x.sock, .string x.text, .int .i64 x.e] 32)).alloc (.cells #[.int .i64 z, .slice a4 0 c4, .bool false] 26)).drew.cell? ⟨w3.heap.size, 2, none⟩ = some (.int .i64 x.num) from m2)
          have C3 := Lib.hid (show ((w3.alloc (.cells #[.int .i8 x.kind, .int .i64 x.fr, .int .i64 x.num, .int .i64 x.sock, .string x.text, .int .i64 x.e] 32)).alloc (.cells #[.int .i64 z, .slice a4 0 c4, .bool false] 26)).drew.cell? ⟨w3.heap.size, 3, none⟩ = some (.int .i64 x.sock) from m3)
          have C4 := Lib.hid (show ((w3.alloc (.cells #[.int .i8 x.kind, .int .i64 x.fr, .int .i64 x.num, .int .i64 x.sock, .string x.text, .int .i64 x.e] 32)).alloc (.cells #[.int .i64 z, .slice a4 0 c4, .bool false] 26)).drew.cell? ⟨w3.heap.size, 4, none⟩ = some (.string x.text) from m4)
          have C5 := Lib.hid (show ((w3.alloc (.cells #[.int .i8 x.kind, .int .i64 x.fr, .int .i64 x.num, .int .i64 x.sock, .string x.text, .int .i64 x.e] 32)).alloc (.cells #[.int .i64 z, .slice a4 0 c4, .bool false] 26)).drew.cell? ⟨w3.heap.size, 5, none⟩ = some (.int .i64 x.e) from m5)
          have C6 := Lib.hid (show ((w3.alloc (.cells #[.int .i8 x.kind, .int .i64 x.fr, .int .i64 x.num, .int .i64 x.sock, .string x.text, .int .i64 x.e] 32)).alloc (.cells #[.int .i64 z, .slice a4 0 c4, .bool false] 26)).drew.cell? ⟨b, o + k * 6, none⟩ = some (.int .i8 x.kind) from k0)
          have C7 := Lib.hid (show ((w3.alloc (.cells #[.int .i8 x.kind, .int .i64 x.fr, .int .i64 x.num, .int .i64 x.sock, .string x.text, .int .i64 x.e] 32)).alloc (.cells #[.int .i64 z, .slice a4 0 c4, .bool false] 26)).drew.cell? ⟨b, o + k * 6 + 1, none⟩ = some (.int .i64 x.fr) from k1)
          have C8 := Lib.hid (show ((w3.alloc (.cells #[.int .i8 x.kind, .int .i64 x.fr, .int .i64 x.num, .int .i64 x.sock, .string x.text, .int .i64 x.e] 32)).alloc (.cells #[.int .i64 z, .slice a4 0 c4, .bool false] 26)).drew.cell? ⟨b, o + k * 6 + 2, none⟩ = some (.int .i64 x.num) from k2)
          have C9 := Lib.hid (show ((w3.alloc (.cells #[.int .i8 x.kind, .int .i64 x.fr, .int .i64 x.num, .int .i64 x.sock, .string x.text, .int .i64 x.e] 32)).alloc (.cells #[.int .i64 z, .slice a4 0 c4, .bool false] 26)).drew.cell? ⟨b, o + k * 6 + 3, none⟩ = some (.int .i64 x.sock) from k3)
          have C10 := Lib.hid (show ((w3.alloc (.cells #[.int .i8 x.kind, .int .i64 x.fr, .int .i64 x.num, .int .i64 x.sock, .string x.text, .int .i64 x.e] 32)).alloc (.cells #[.int .i64 z, .slice a4 0 c4, .bool false] 26)).drew.cell? ⟨b, o + k * 6 + 4, none⟩ = some (.string x.text) from k4)
          have C11 := Lib.hid (show ((w3.alloc (.cells #[.int .i8 x.kind, .int .i64 x.fr, .int .i64 x.num, .int .i64 x.sock, .string x.text, .int .i64 x.e] 32)).alloc (.cells #[.int .i64 z, .slice a4 0 c4, .bool false] 26)).drew.cell? ⟨b, o + k * 6 + 5, none⟩ = some (.int .i64 x.e) from k5)
          have C12 := Lib.hid (show ((w3.alloc (.cells #[.int .i8 x.kind, .int .i64 x.fr, .int .i64 x.num, .int .i64 x.sock, .string x.text, .int .i64 x.e] 32)).alloc (.cells #[.int .i64 z, .slice a4 0 c4, .bool false] 26)).drew.cell? ⟨w3.heap.size + 1, 0, none⟩ = some (.int .i64 z) from n0)
          have C13 := Lib.hid (show ((w3.alloc (.cells #[.int .i8 x.kind, .int .i64 x.fr, .int .i64 x.num, .int .i64 x.sock, .string x.text, .int .i64 x.e] 32)).alloc (.cells #[.int .i64 z, .slice a4 0 c4, .bool false] 26)).drew.cell? ⟨w3.heap.size + 1, 1, none⟩ = some (.slice a4 0 c4) from n1)
          have C14 := Lib.hid (show ((w3.alloc (.cells #[.int .i8 x.kind, .int .i64 x.fr, .int .i64 x.num, .int .i64 x.sock, .string x.text, .int .i64 x.e] 32)).alloc (.cells #[.int .i64 z, .slice a4 0 c4, .bool false] 26)).drew.cell? ⟨w3.heap.size + 1, 2, none⟩ = some (.bool false) from n2)
          have C15 := Lib.hid (show ((w3.alloc (.cells #[.int .i8 x.kind, .int .i64 x.fr, .int .i64 x.num, .int .i64 x.sock, .string x.text, .int .i64 x.e] 32)).alloc (.cells #[.int .i64 z, .slice a4 0 c4, .bool false] 26)).drew.cell? ⟨w1.heap.size + 1, 0, none⟩ = some (.int .i64 z) from q0)
          have C16 := Lib.hid (show ((w3.alloc (.cells #[.int .i8 x.kind, .int .i64 x.fr, .int .i64 x.num, .int .i64 x.sock, .string x.text, .int .i64 x.e] 32)).alloc (.cells #[.int .i64 z, .slice a4 0 c4, .bool false] 26)).drew.cell? ⟨w1.heap.size + 1, 1, none⟩ = some (.slice a1 0 c1) from q1)
          have C17 := Lib.hid (show ((w3.alloc (.cells #[.int .i8 x.kind, .int .i64 x.fr, .int .i64 x.num, .int .i64 x.sock, .string x.text, .int .i64 x.e] 32)).alloc (.cells #[.int .i64 z, .slice a4 0 c4, .bool false] 26)).drew.cell? ⟨w1.heap.size + 1, 2, none⟩ = some (.bool false) from q2)
          have T3 := Lib.hid (show w3.heap.size < ((w3.alloc (.cells #[.int .i8 x.kind, .int .i64 x.fr, .int .i64 x.num, .int .i64 x.sock, .string x.text, .int .i64 x.e] 32)).alloc (.cells #[.int .i64 z, .slice a4 0 c4, .bool false] 26)).drew.heap.size by show w3.heap.size < ((w3.alloc _).alloc _).heap.size; simp; omega)
          have T4 := Lib.hid (show w3.heap.size + 1 < ((w3.alloc (.cells #[.int .i8 x.kind, .int .i64 x.fr, .int .i64 x.num, .int .i64 x.sock, .string x.text, .int .i64 x.e] 32)).alloc (.cells #[.int .i64 z, .slice a4 0 c4, .bool false] 26)).drew.heap.size by show w3.heap.size + 1 < ((w3.alloc _).alloc _).heap.size; simp)
          have TB := Lib.hid (show b < ((w3.alloc (.cells #[.int .i8 x.kind, .int .i64 x.fr, .int .i64 x.num, .int .i64 x.sock, .string x.text, .int .i64 x.e] 32)).alloc (.cells #[.int .i64 z, .slice a4 0 c4, .bool false] 26)).drew.heap.size by show b < ((w3.alloc _).alloc _).heap.size; simp; omega)
          have T1 := Lib.hid (show w1.heap.size + 1 < ((w3.alloc (.cells #[.int .i8 x.kind, .int .i64 x.fr, .int .i64 x.num, .int .i64 x.sock, .string x.text, .int .i64 x.e] 32)).alloc (.cells #[.int .i64 z, .slice a4 0 c4, .bool false] 26)).drew.heap.size by show w1.heap.size + 1 < ((w3.alloc _).alloc _).heap.size; simp; omega)
          go_region_held3 (fun w' => w'.cell? ⟨w3.heap.size, 0, none⟩ = some (.int .i8 x.kind) ∧ w'.cell? ⟨w3.heap.size, 1, none⟩ = some (.int .i64 x.fr) ∧ w'.cell? ⟨w3.heap.size, 2, none⟩ = some (.int .i64 x.num) ∧ w'.cell? ⟨w3.heap.size, 3, none⟩ = some (.int .i64 x.sock) ∧ w'.cell? ⟨w3.heap.size, 4, none⟩ = some (.string x.text) ∧ w'.cell? ⟨w3.heap.size, 5, none⟩ = some (.int .i64 x.e) ∧ w'.cell? ⟨b, o + k * 6, none⟩ = some (.int .i8 x.kind) ∧ w'.cell? ⟨b, o + k * 6 + 1, none⟩ = some (.int .i64 x.fr) ∧ w'.cell? ⟨b, o + k * 6 + 2, none⟩ = some (.int .i64 x.num) ∧ w'.cell? ⟨b, o + k * 6 + 3, none⟩ = some (.int .i64 x.sock) ∧ w'.cell? ⟨b, o + k * 6 + 4, none⟩ = some (.string x.text) ∧ w'.cell? ⟨b, o + k * 6 + 5, none⟩ = some (.int .i64 x.e) ∧ w'.cell? ⟨w3.heap.size + 1, 0, none⟩ = some (.int .i64 z) ∧ w'.cell? ⟨w3.heap.size + 1, 1, none⟩ = some (.slice a4 0 c4) ∧ w'.cell? ⟨w3.heap.size + 1, 2, none⟩ = some (.bool false) ∧ w'.cell? ⟨w1.heap.size + 1, 0, none⟩ = some (.int .i64 z) ∧ w'.cell? ⟨w1.heap.size + 1, 1, none⟩ = some (.slice a1 0 c1) ∧ w'.cell? ⟨w1.heap.size + 1, 2, none⟩ = some (.bool false)) (go_keep) (first
            | (go_at_call 23; with_reducible refine HSm.out.mono ?_; rintro e w5 ⟨rfl, hB⟩; have f0 := (hB.cell (p := ⟨w3.heap.size, 0, none⟩) T3.out).trans C0.out; have f1 := (hB.cell (p := ⟨w3.heap.size, 1, none⟩) T3.out).trans C1.out; have f2 := (hB.cell (p := ⟨w3.heap.size, 2, none⟩) T3.out).trans C2.out; have f3 := (hB.cell (p := ⟨w3.heap.size, 3, none⟩) T3.out).trans C3.out; have f4 := (hB.cell (p := ⟨w3.heap.size, 4, none⟩) T3.out).trans C4.out; have f5 := (hB.cell (p := ⟨w3.heap.size, 5, none⟩) T3.out).trans C5.out; have f6 := (hB.cell (p := ⟨b, o + k * 6, none⟩) TB.out).trans C6.out; have f7 := (hB.cell (p := ⟨b, o + k * 6 + 1, none⟩) TB.out).trans C7.out; have f8 := (hB.cell (p := ⟨b, o + k * 6 + 2, none⟩) TB.out).trans C8.out; have f9 := (hB.cell (p := ⟨b, o + k * 6 + 3, none⟩) TB.out).trans C9.out; have f10 := (hB.cell (p := ⟨b, o + k * 6 + 4, none⟩) TB.out).trans C10.out; have f11 := (hB.cell (p := ⟨b, o + k * 6 + 5, none⟩) TB.out).trans C11.out; have f12 := (hB.cell (p := ⟨w3.heap.size + 1, 0, none⟩) T4.out).trans C12.out; have f13 := (hB.cell (p := ⟨w3.heap.size + 1, 1, none⟩) T4.out).trans C13.out; have f14 := (hB.cell (p := ⟨w3.heap.size + 1, 2, none⟩) T4.out).trans C14.out; have f15 := (hB.cell (p := ⟨w1.heap.size + 1, 0, none⟩) T1.out).trans C15.out; have f16 := (hB.cell (p := ⟨w1.heap.size + 1, 1, none⟩) T1.out).trans C16.out; have f17 := (hB.cell (p := ⟨w1.heap.size + 1, 2, none⟩) T1.out).trans C17.out; have HB5 := Lib.hid hB; clear hB))
          have hd5 := (HB5.out.block w1.heap.size (by show w1.heap.size < ((w3.alloc _).alloc _).heap.size; simp; omega)).trans HD4.out
          have HD5 := Lib.hid hd5
          obtain ⟨⟨p0, p1, p2⟩, p3, p4, p5⟩ := box3 hd5
          clear hd5
          have hs5 := (HB5.out.block (w1.heap.size + 1) T1.out).trans HS4.out
          have hb5 := HBc.out.trans (HB4.out.mono (by omega))
          have hb5 := hb5.drew.trans (HB5.out.mono (by show w.heap.size ≤ ((w3.alloc _).alloc _).heap.size; simp; omega))
          have R1 := Lib.hid (set3_at HD5.out (.int .i64 z) (.slice a4 0 c4) (.bool false))
          have R2 := Lib.hid ((set3_other w5 w1.heap.size (w1.heap.size + 1) (.int .i64 z) (.slice a4 0 c4) (.bool false) (by omega)).trans hs5)
          have R3 := Lib.hid (set3_below hb5 hs1 (.int .i64 z) (.slice a4 0 c4) (.bool false))
          unfold set3 at R1 R2 R3
          clear hs5 hb5
          go_wp2_with fail
          go_roundw
          case rel => exact ⟨k + 1, c4, a4, by go_num, by omega, by trivial, R1, Lib.hid (row_bare HF4.out), R2, R3.out⟩
          case measure => simp [intOf]; omega
    · obtain rfl : k = l.length := by omega
      obtain ⟨⟨p0, p1, p2⟩, p3, p4, p5⟩ := box3 HD.out
      have hd5 : w1.heap.size < wr.heap.size := lt_of_block HD.out
      obtain ⟨⟨r0, r1, r2⟩, _⟩ := box3 ((Below.heap_alloc wr (.cells #[.int .i64 z, .slice a2 0 c2, .bool false] 26) _ hd5).trans HD.out)
      have hro : roomB z 0 false = z := by unfold roomB; split <;> simp at * <;> omega
      have HRm := Lib.hid (room_any z a2 0 c2 false wr (by omega))
      rw [hro] at HRm
      have HRd := Lib.hid (ready_any z a2 0 c2 false (wr.alloc (.cells #[.int .i64 z, .slice a2 0 c2, .bool false] 26)))
      rw [show (decide (0 < 0) || false) = false from rfl] at HRd
      clear hro
      go_wp2_with fail
      with_reducible refine HRm.out.mono ?_
      rintro e w2 ⟨rfl, rfl⟩
      go_wp2_with fail
      with_reducible refine HRd.out.mono ?_
      rintro e w2 ⟨rfl, rfl⟩
      go_wp2_with fail
      with_reducible refine (wakes_any _).mono ?_
      rintro e w4 ⟨rfl, hB⟩
      have HB4 := Lib.hid (((HBW.out.alloc hbs _).alloc (by simp; omega) _).trans (hB.mono (by simp; omega)))
      clear hB
      go_wp2_with fail
      go_ret
      exact ⟨rfl, HB4.out⟩

theorem ductturns_walk (z : Int) (l : List Lt) (a : Option Addr) (c : Nat) (w : World) (hA : LK.RowC w a c l) :
    Calls Try.prog 6 #[.int .i64 z, .slice a l.length c] w fun e w' => e = .returned (.bool true) ∧ Below w.heap.size w w' := by
  by_cases hg : greatB l = true
  · exact ductturns_great z l a c w hA (.inl hg)
  · have hg : greatB l = false := by simpa using hg
    by_cases h1 : z < 0
    · exact ductturns_great z l a c w hA (.inr (.inl ⟨hg, h1⟩))
    · by_cases h2 : 64 < z
      · exact ductturns_great z l a c w hA (.inr (.inr ⟨hg, by omega, h2⟩))
      · exact ductturns_small z l a c w hA hg (by omega) (by omega) (by unfold greatB at hg; simp at hg; omega)
end Go.Proofs.Ytomiajgedcpjiaa
