/- DuctOrder: the walk. -/
import Derived.Test.YtomiajgedcpjiaaState
import Derived.Test.YtomiajgedcpjiaaWakes
set_option linter.unusedSimpArgs false
set_option linter.unusedVariables false
namespace Go.Proofs.Ytomiajgedcpjiaa
open Go.RowKit Go.Proofs.Ytomiajgedcpjiaa.Kind

set_option maxHeartbeats 4000000 in
set_option maxRecDepth 1000000 in
theorem ductorder_great (z : Int) (l : List Ac) (a : Option Addr) (c : Nat) (w : World) (h : 200 < l.length ∨ (l.length ≤ 200 ∧ z < 0) ∨ (l.length ≤ 200 ∧ 0 ≤ z ∧ 64 < z)) :
    Calls Try.prog 3 #[.int .i64 z, .slice a l.length c] w fun e w' => e = .returned (.bool true) ∧ Below w.heap.size w w' := by
  have HW := Lib.hid (wakes_any w)
  rcases h with h1 | ⟨h1, h2⟩ | ⟨h1, h2, h3⟩
  all_goals
    go_enter Try.func3, Try.ntmps3
    go_wp2_with fail
    with_reducible refine HW.out.mono ?_
    rintro e w1 ⟨rfl, hB⟩
    go_wp2_with fail
    go_ret
    exact ⟨rfl, hB⟩

set_option maxHeartbeats 40000000 in
set_option maxRecDepth 1000000 in
theorem ductorder_small (z : Int) (l : List Ac) (a0 : Option Addr) (c0 : Nat) (w : World) (hA : AK.RowC w a0 c0 l) (hl : l.length ≤ 200) (hz : 0 ≤ z) (hz2 : z ≤ 64) :
    Calls Try.prog 3 #[.int .i64 z, .slice a0 l.length c0] w fun e w' => e = .returned (.bool true) ∧ Below w.heap.size w w' := by
  have hm0 : mayB z 0 = true := by simp [mayB, hz, hz2]
  have HA := Lib.hid hA
  have HN := Lib.hid (new_any z [] hm0 none 0 w (row_none w))
  rw [List.length_nil] at HN
  clear hA hm0
  go_enter Try.func3, Try.ntmps3
  go_wp2_with fail
  with_reducible refine HN.out.mono ?_
  rintro e w1 ⟨a1, c1, rfl, hF, hB⟩
  have hs1 := hB.size
  have HD := Lib.hid (laid1 w1 (.cells #[.int .i64 z, .slice a1 0 c1, .bool false] 26))
  have HB := Lib.hid (hB.alloc hs1 (.cells #[.int .i64 z, .slice a1 0 c1, .bool false] 26))
  have HR1 := Lib.hid hF.row
  clear hF hB HN
  go_wp2_with fail
  go_loopw [7, 8, 9] (fun u7 u8 u9 wr => ∃ (i c ci : Nat) (a ai : Option Addr) (J : List Lt) (cl : Bool), u9 = .int .i64 i ∧ i ≤ l.length ∧ u7 = .slice ai J.length ci ∧ u8 = .bool cl ∧ Hid (Good z w1.heap.size wr J cl a c ai ci) ∧ Below w.heap.size w wr) (fun _ _ u _ => l.length - (intOf u).toNat)
  case atStart => exact ⟨0, c1, 0, a1, none, [], false, rfl, by omega, rfl, rfl, Lib.hid ⟨HD.out, row_bare HR1.out, loose_nil _ _, fun h => by simp at h, by simpa using hz⟩, HB.out⟩
  case round =>
    obtain ⟨i, c, ci, a, ai, J, cl, rfl, hi, rfl, rfl, hG, hbw⟩ := hrel
    have HG := Lib.hid hG.out
    have HBW := Lib.hid hbw
    have hbs := hbw.size
    have hd5 : w1.heap.size < wr.heap.size := lt_of_block HG.out.box
    clear hG hbw
    by_cases hlt : i < l.length
    · obtain ⟨b, o, rfl, hb, hat⟩ := (HA.out.below HBW.out).2.2.2 (by omega)
      obtain ⟨x, hx⟩ : ∃ x, l[i]? = some x := ⟨_, List.getElem?_eq_getElem hlt⟩
      obtain ⟨zz, z0, z1, z2, z3, z4, z5⟩ := AK.seven hat hx
      have hlb : (i : Int) < (l.length : Int) := by omega
      have hi0 : (0 : Int) ≤ (i : Int) := by omega
      have hmJ : mayB z J.length = true := by have := HG.out.fits; simp [mayB]; omega
      have HMJ := Lib.hid hmJ
      obtain ⟨⟨p0, p1, p2⟩, p3, p4, p5⟩ := box3 HG.out.box
      clear hx hat hmJ
      go_upto_block 2 with fail
      go_cut [7, 8, 10, 11, 12, 13, 14, 15, 16, 17] from 37 to 193 (fun s7 s8 s10 s11 s12 s13 s14 s15 s16 s17 wx => ∃ (c2 ci2 : Nat) (a2 ai2 : Option Addr) (J2 : List Lt) (cl2 : Bool), s7 = .slice ai2 J2.length ci2 ∧ s8 = .bool cl2 ∧ Hid (Good z w1.heap.size wx J2 cl2 a2 c2 ai2 ci2) ∧ Hid (Below w.heap.size w wx))
      case first =>
        by_cases ha0 : x.act = 0
        · have hab : (x.act == 0) = true := by rw [ha0]; rfl
          clear ha0
          obtain ⟨er, L, hPR⟩ := putR_ex z cl J [x.m]
          have HPR := Lib.hid hPR
          have HP := Lib.hid (fun W g h hR => put_any z cl J [x.m] er L HPR.out HMJ.out (by simp) a (some ⟨g, 0, none⟩) c 1 W hR (row_in (w := W) (g := g) (x := x.m) (t := 32) h))
          rw [List.length_singleton] at HP
          have F1 := Lib.hid (show (wr.alloc (.cells #[.int .i8 x.m.kind, .int .i64 x.m.fr, .int .i64 x.m.num, .int .i64 x.m.sock, .string x.m.text, .int .i64 x.m.e] 32)).drew.heap[wr.heap.size]? = some (.cells #[.int .i8 x.m.kind, .int .i64 x.m.fr, .int .i64 x.m.num, .int .i64 x.m.sock, .string x.m.text, .int .i64 x.m.e] 32) from laid1 wr _)
          have F2 := Lib.hid (show ((wr.alloc (.cells #[.int .i8 x.m.kind, .int .i64 x.m.fr, .int .i64 x.m.num, .int .i64 x.m.sock, .string x.m.text, .int .i64 x.m.e] 32)).alloc (.cells #[.int .i64 0, .slice none 0 0, .bool false] 26)).drew.heap[wr.heap.size]? = some (.cells #[.int .i8 x.m.kind, .int .i64 x.m.fr, .int .i64 x.m.num, .int .i64 x.m.sock, .string x.m.text, .int .i64 x.m.e] 32) ∧ ((wr.alloc (.cells #[.int .i8 x.m.kind, .int .i64 x.m.fr, .int .i64 x.m.num, .int .i64 x.m.sock, .string x.m.text, .int .i64 x.m.e] 32)).alloc (.cells #[.int .i64 0, .slice none 0 0, .bool false] 26)).drew.heap[wr.heap.size + 1]? = some (.cells #[.int .i64 0, .slice none 0 0, .bool false] 26) from laid2 wr _ _)
          have F3 := Lib.hid (show ((wr.alloc (.cells #[.int .i64 0, .slice none 0 0, .bool false] 26)).alloc (.cells #[.int .i8 x.m.kind, .int .i64 x.m.fr, .int .i64 x.m.num, .int .i64 x.m.sock, .string x.m.text, .int .i64 x.m.e] 32)).drew.heap[wr.heap.size]? = some (.cells #[.int .i64 0, .slice none 0 0, .bool false] 26) ∧ ((wr.alloc (.cells #[.int .i64 0, .slice none 0 0, .bool false] 26)).alloc (.cells #[.int .i8 x.m.kind, .int .i64 x.m.fr, .int .i64 x.m.num, .int .i64 x.m.sock, .string x.m.text, .int .i64 x.m.e] 32)).drew.heap[wr.heap.size + 1]? = some (.cells #[.int .i8 x.m.kind, .int .i64 x.m.fr, .int .i64 x.m.num, .int .i64 x.m.sock, .string x.m.text, .int .i64 x.m.e] 32) from laid2 wr _ _)
          have B1 := Lib.hid (show Below wr.heap.size wr (wr.alloc (.cells #[.int .i8 x.m.kind, .int .i64 x.m.fr, .int .i64 x.m.num, .int .i64 x.m.sock, .string x.m.text, .int .i64 x.m.e] 32)).drew from ((Below.refl _ _).alloc (Nat.le_refl _) _).drew)
          have B2 := Lib.hid (show Below wr.heap.size wr ((wr.alloc (.cells #[.int .i8 x.m.kind, .int .i64 x.m.fr, .int .i64 x.m.num, .int .i64 x.m.sock, .string x.m.text, .int .i64 x.m.e] 32)).alloc (.cells #[.int .i64 0, .slice none 0 0, .bool false] 26)).drew from (((Below.refl _ _).alloc (Nat.le_refl _) _).alloc (by simp) _).drew)
          have B3 := Lib.hid (show Below wr.heap.size wr ((wr.alloc (.cells #[.int .i64 0, .slice none 0 0, .bool false] 26)).alloc (.cells #[.int .i8 x.m.kind, .int .i64 x.m.fr, .int .i64 x.m.num, .int .i64 x.m.sock, .string x.m.text, .int .i64 x.m.e] 32)).drew from (((Below.refl _ _).alloc (Nat.le_refl _) _).alloc (by simp) _).drew)
          have R1 := Lib.hid (HG.out.row.below B1.out)
          have R2 := Lib.hid (HG.out.row.below B2.out)
          have R3 := Lib.hid (HG.out.row.below B3.out)
          have S2 := Lib.hid (show wr.heap.size + 1 < ((wr.alloc (.cells #[.int .i8 x.m.kind, .int .i64 x.m.fr, .int .i64 x.m.num, .int .i64 x.m.sock, .string x.m.text, .int .i64 x.m.e] 32)).alloc (.cells #[.int .i64 0, .slice none 0 0, .bool false] 26)).drew.heap.size by show wr.heap.size + 1 < ((wr.alloc _).alloc _).heap.size; simp)
          have S3 := Lib.hid (show wr.heap.size < ((wr.alloc (.cells #[.int .i64 0, .slice none 0 0, .bool false] 26)).alloc (.cells #[.int .i8 x.m.kind, .int .i64 x.m.fr, .int .i64 x.m.num, .int .i64 x.m.sock, .string x.m.text, .int .i64 x.m.e] 32)).drew.heap.size by show wr.heap.size < ((wr.alloc _).alloc _).heap.size; simp; omega)
          have Z0 := Lib.hid p0
          have Z1 := Lib.hid p1
          have Z2 := Lib.hid p2
          have Z3 := Lib.hid z0
          have Z4 := Lib.hid z1
          have Z5 := Lib.hid z2
          have Z6 := Lib.hid z3
          have Z7 := Lib.hid z4
          have Z8 := Lib.hid z5
          have e1 : ¬ wr.heap.size + 1 = w1.heap.size := by omega
          have e2 : ¬ wr.heap.size = w1.heap.size := by omega
          have e3 : ¬ wr.heap.size + 1 = b := by omega
          have e4 : ¬ wr.heap.size = b := by omega
          have e5 : ¬ w1.heap.size = wr.heap.size + 1 := by omega
          have e6 : ¬ w1.heap.size = wr.heap.size := by omega
          have e7 : ¬ b = wr.heap.size + 1 := by omega
          have e8 : ¬ b = wr.heap.size := by omega
          clear hPR
          go_upto_region 13 with fail
          go_cut [10, 11] from 50 to 60 (fun s10 s11 wx => Hid (LeftF wr wx z cl L s10) ∧ s11 = .int .i64 er)
          case first =>
            go_region_held3 (fun w' => w'.cell? ⟨w1.heap.size, 0, none⟩ = some (.int .i64 z) ∧ w'.cell? ⟨w1.heap.size, 1, none⟩ = some (.slice a J.length c) ∧ w'.cell? ⟨w1.heap.size, 2, none⟩ = some (.bool cl) ∧ w'.cell? ⟨b, o + i * 7 + 1, none⟩ = some (.int .i8 x.m.kind) ∧ w'.cell? ⟨b, o + i * 7 + 2, none⟩ = some (.int .i64 x.m.fr) ∧ w'.cell? ⟨b, o + i * 7 + 3, none⟩ = some (.int .i64 x.m.num) ∧ w'.cell? ⟨b, o + i * 7 + 4, none⟩ = some (.int .i64 x.m.sock) ∧ w'.cell? ⟨b, o + i * 7 + 5, none⟩ = some (.string x.m.text) ∧ w'.cell? ⟨b, o + i * 7 + 6, none⟩ = some (.int .i64 x.m.e)) (go_keep) (first
              | (go_at_call 9; first | (with_reducible refine (HP.out _ _ F1.out R1.out).mono ?_) | (with_reducible refine (HP.out _ _ F2.out.1 R2.out).mono ?_) | (with_reducible refine (HP.out _ _ F3.out.2 R3.out).mono ?_)
                 rintro e w2 ⟨a3, c3, rfl, hF, hB⟩
                 have hW : Below wr.heap.size wr w2 := by first | exact B1.out.trans (hB.mono B1.out.size) | exact B2.out.trans (hB.mono B2.out.size) | exact B3.out.trans (hB.mono B3.out.size)
                 first | (have hq := (hB.block (wr.heap.size + 1) S2.out).trans F2.out.2; obtain ⟨⟨q0, q1, q2⟩, q3, q4, q5⟩ := box3 hq; have HQ := Lib.hid hq; clear hq) | (have hq := (hB.block wr.heap.size S3.out).trans F3.out.1; obtain ⟨⟨q0, q1, q2⟩, q3, q4, q5⟩ := box3 hq; have HQ := Lib.hid hq; clear hq) | skip
                 have f0 := (hW.cell (p := ⟨w1.heap.size, 0, none⟩) hd5).trans Z0.out
                 have f1 := (hW.cell (p := ⟨w1.heap.size, 1, none⟩) hd5).trans Z1.out
                 have f2 := (hW.cell (p := ⟨w1.heap.size, 2, none⟩) hd5).trans Z2.out
                 have f3 := (hW.cell (p := ⟨b, o + i * 7 + 1, none⟩) hb).trans Z3.out
                 have f4 := (hW.cell (p := ⟨b, o + i * 7 + 2, none⟩) hb).trans Z4.out
                 have f5 := (hW.cell (p := ⟨b, o + i * 7 + 3, none⟩) hb).trans Z5.out
                 have f6 := (hW.cell (p := ⟨b, o + i * 7 + 4, none⟩) hb).trans Z6.out
                 have f7 := (hW.cell (p := ⟨b, o + i * 7 + 5, none⟩) hb).trans Z7.out
                 have f8 := (hW.cell (p := ⟨b, o + i * 7 + 6, none⟩) hb).trans Z8.out
                 have HF := Lib.hid hF
                 have HW2 := Lib.hid hW
                 clear hF hB hW))
            all_goals
              go_wp2_with fail
              go_meet
              first | exact ⟨Lib.hid (leftF_new HF.out (by first | exact B1.out.size) HW2.out), rfl⟩ | exact ⟨Lib.hid (leftF_set HF.out B2.out.size HW2.out S2.out (by omega) HQ.out), rfl⟩ | exact ⟨Lib.hid (leftF_set HF.out B3.out.size HW2.out S3.out (by omega) HQ.out), rfl⟩
          case rest =>
            obtain ⟨hLf, rfl⟩ := hcut
            obtain ⟨g, a3, c3, rfl, hgw, hq, hF3, hBw⟩ := hLf.out
            clear F1 F2 F3 B1 B2 B3 R1 R2 R3 S2 S3 HP p0 p1 p2 p3 p4 p5 e1 e2 e3 e4 e5 e6 e7 e8 Z0 Z1 Z2
            have hwc := hBw.size
            have hgc : g < wc.heap.size := lt_of_block hq
            have hdc := (hBw.block w1.heap.size hd5).trans HG.out.box
            obtain ⟨⟨p0, p1, p2⟩, _⟩ := box3 hq
            obtain ⟨⟨q0, q1, q2⟩, q3, q4, q5⟩ := box3 hdc
            have HBw := Lib.hid hBw
            have HBc := Lib.hid (HBW.out.trans (hBw.mono hbs))
            have HF3 := Lib.hid hF3
            have HDc := Lib.hid hdc
            have HQc := Lib.hid hq
            clear hLf hq hF3 hBw hdc
            by_cases hfit : cl = false ∧ (J.length : Int) < z
            · -- it is put
              obtain ⟨hcl, hlt2⟩ := hfit
              obtain ⟨rfl, hL⟩ : er = 0 ∧ L = J ++ [x.m] := by
                rcases HPR.out with ⟨h, _⟩ | ⟨_, h, _⟩ | ⟨_, _, h1, h2⟩
                · rw [hcl] at h; cases h
                · exfalso; rw [hcl] at h; unfold roomB at h; simp at h; split at h <;> omega
                · exact ⟨h1, h2⟩
              subst hcl
              have hLn : (L.length : Int) ≤ z := by rw [hL]; simp; omega
              have k0 := (HBw.out.cell (p := ⟨b, o + i * 7 + 1, none⟩) hb).trans z0
              have k1 := (HBw.out.cell (p := ⟨b, o + i * 7 + 2, none⟩) hb).trans z1
              have k2 := (HBw.out.cell (p := ⟨b, o + i * 7 + 3, none⟩) hb).trans z2
              have k3 := (HBw.out.cell (p := ⟨b, o + i * 7 + 4, none⟩) hb).trans z3
              have k4 := (HBw.out.cell (p := ⟨b, o + i * 7 + 5, none⟩) hb).trans z4
              have k5 := (HBw.out.cell (p := ⟨b, o + i * 7 + 6, none⟩) hb).trans z5
              have hbl := (Below.refl wc.heap.size wc).alloc (Nat.le_refl _) (.cells #[.int .i8 x.m.kind, .int .i64 x.m.fr, .int .i64 x.m.num, .int .i64 x.m.sock, .string x.m.text, .int .i64 x.m.e] 32)
              have HBL := Lib.hid hbl
              have HLo := Lib.hid ((HG.out.loose.below HBw.out).below hbl)
              have HRo := Lib.hid (row_in (g := wc.heap.size) (x := x.m) (t := 32) (laid1 wc (.cells #[.int .i8 x.m.kind, .int .i64 x.m.fr, .int .i64 x.m.num, .int .i64 x.m.sock, .string x.m.text, .int .i64 x.m.e] 32)))
              have HL := Lib.hid hL
              have HLn := Lib.hid hLn
              clear hL hLn hbl
              go_wp2_with (at_builtin; refine LK.wpList_append_loose rfl _ _ rfl (w1.heap.size + 1) ai J.length ci rfl J rfl HLo.out (some ⟨wc.heap.size, 0, none⟩) 1 1 rfl [x.m] rfl (by simp) HRo.out (by simp; omega) (by simp; omega) L HL.out ?_; intro a6 c6 w6 hL6 hG6 hO6; obtain ⟨row, hG6, hrow⟩ := hG6; have hnx := app_next HG.out HBw.out hG6 hrow hO6 HF3.out; have hqB := (hnx.1 w1.heap.size (by omega) (.inl rfl)).trans HDc.out; have hqG := (hnx.1 g hgc (.inr hgw)).trans HQc.out; have HqB := Lib.hid hqB; have HL6 := Lib.hid hL6; have HX := Lib.hid hnx.2; obtain ⟨⟨r0, r1, r2⟩, _⟩ := box3 hqG; obtain ⟨⟨t0, t1, t2⟩, t3, t4, t5⟩ := box3 hqB; clear hL6 hG6 hO6 hrow hnx hqB hqG)
              have hg6 := good_set (cl := false) HqB.out HX.out.1 hd5 HL6.out HX.out.2.1 HLn.out
              have hb6 := set3_below (b := w1.heap.size) (HX.out.2.2 w.heap.size w hs1 (by omega) HBc.out) hs1 (.int .i64 z) (.slice a3 L.length c3) (.bool false)
              unfold set3 at hb6
              go_meet
              exact ⟨c3, c6, a3, a6, L, false, rfl, rfl, Lib.hid hg6, Lib.hid hb6⟩
            · -- it is not
              have hLJ : L = J := by
                rcases HPR.out with ⟨_, _, h⟩ | ⟨_, _, _, h⟩ | ⟨h, h1, _⟩
                · exact h
                · exact h
                · exfalso; rw [h] at h1; unfold roomB at h1; simp at h1; split at h1 <;> (apply hfit; exact ⟨h, by omega⟩)
              subst hLJ
              have hg6 := good_set (cl := cl) HDc.out HF3.out hd5 (HG.out.loose.below HBw.out) (apart_old HF3.out HG.out.lt) HG.out.fits
              have hb6 := set3_below (b := w1.heap.size) HBc.out hs1 (.int .i64 z) (.slice a3 L.length c3) (.bool cl)
              unfold set3 at hb6
              have HG6 := Lib.hid hg6
              have HB6 := Lib.hid hb6
              clear hg6 hb6
              cases cl
              · obtain ⟨rfl, hlt2⟩ : er = 50 ∧ ¬ (L.length : Int) < z := by
                  rcases HPR.out with ⟨h, _⟩ | ⟨_, h1, h2, _⟩ | ⟨_, _, _, h⟩
                  · cases h
                  · exact ⟨h2, fun h => hfit ⟨rfl, h⟩⟩
                  · exact absurd (congrArg List.length h) (by simp)
                clear hfit
                go_wp2_with fail
                go_meet
                exact ⟨c3, ci, a3, ai, L, false, rfl, rfl, HG6, HB6⟩
              · obtain rfl : er = 52 := by
                  rcases HPR.out with ⟨_, h, _⟩ | ⟨h, _⟩ | ⟨h, _⟩
                  · exact h
                  · cases h
                  · cases h
                clear hfit
                go_wp2_with fail
                go_meet
                exact ⟨c3, ci, a3, ai, L, true, rfl, rfl, HG6, HB6⟩
        · have hab : (x.act == 0) = false := by rw [beq_eq_false_iff_ne]; exact ha0
          by_cases ha1 : x.act = 1
          · have hab1 : (x.act == 1) = true := by rw [ha1]; rfl
            clear ha0 ha1
            as_aux_lemma =>
              rcases (show J = [] ∨ ∃ m L, J = m :: L by cases J with | nil => exact .inl rfl | cons m L => exact .inr ⟨m, L, rfl⟩) with hJ | ⟨m, L, hJ⟩
              · -- nothing in it
                have hJn : J.length = 0 := by rw [hJ]; rfl
                have HJn := Lib.hid hJn
                have HJ := Lib.hid hJ
                clear hJ
                cases cl
                · have HT := Lib.hid (take_any z false J 51 Lt.zero [] (.inl ⟨HJ.out, rfl, rfl, rfl⟩) HMJ.out a c wr HG.out.row)
                  rw [hJn, List.length_nil] at HT
                  simp only [Lt.v, Lt.zero] at HT
                  rw [hJn] at p1
                  go_wp2_with fail
                  with_reducible refine HT.out.mono ?_
                  rintro e w3 ⟨a3, c3, rfl, hF, hB⟩
                  have hs3 := hB.size
                  have hb4 := (hB.alloc hs3 (.cells #[.int .i8 0, .int .i64 0, .int .i64 0, .int .i64 0, .string ⟨#[]⟩, .int .i64 0] 32)).alloc (by simp; omega) (.cells #[.int .i64 z, .slice a3 0 c3, .bool false] 26)
                  have hl4 := laid2 w3 (.cells #[.int .i8 0, .int .i64 0, .int .i64 0, .int .i64 0, .string ⟨#[]⟩, .int .i64 0] 32) (.cells #[.int .i64 z, .slice a3 0 c3, .bool false] 26)
                  obtain ⟨⟨m0, m1, m2, m3, m4, m5⟩, _⟩ := box6 hl4.1
                  obtain ⟨⟨n0, n1, n2⟩, _⟩ := box3 hl4.2
                  have hbx := (hb4.block w1.heap.size hd5).trans HG.out.box
                  obtain ⟨⟨t0, t1, t2⟩, t3, t4, t5⟩ := box3 hbx
                  have hnq := neq_self Lt.zero
                  simp only [Lt.zero] at hnq
                  have hgd := guard_letter
                  have HB4 := Lib.hid hb4
                  have HX4 := Lib.hid hbx
                  have HF4 := Lib.hid (hF.below (((Below.refl _ w3).alloc (Nat.le_refl _) (.cells #[.int .i8 0, .int .i64 0, .int .i64 0, .int .i64 0, .string ⟨#[]⟩, .int .i64 0] 32)).alloc (by simp) (.cells #[.int .i64 z, .slice a3 0 c3, .bool false] 26)))
                  have HBa := Lib.hid (HBW.out.trans (hb4.mono hbs))
                  clear hB hb4 hl4 hbx hF HT
                  go_wp2_with fail
                  go_quiet (fail)
                  go_wp2_with fail
                  go_meet
                  have hlo := HG.out.loose
                  rw [HJ.out] at hlo
                  have hbq := below_drewN HB4.out nq
                  have hg6 := good_set (z := z) (cl := false) (L := []) ((hbq.block w1.heap.size hd5).trans HG.out.box) (HF4.out.below (below_drewN (Below.refl _ _) nq)) hd5 (hlo.below hbq) (fun h => by simp at h) (by simpa using hz)
                  have hb6 := set3_below (b := w1.heap.size) (below_drewN HBa.out nq) hs1 (.int .i64 z) (.slice a3 0 c3) (.bool false)
                  unfold set3 at hb6
                  exact ⟨c3, ci, a3, ai, [], false, by first | rfl | (rw [HJn.out]; rfl), rfl, Lib.hid hg6, Lib.hid hb6⟩
                · have HT := Lib.hid (take_any z true J 0 Lt.zero [] (.inl ⟨HJ.out, rfl, rfl, rfl⟩) HMJ.out a c wr HG.out.row)
                  rw [hJn, List.length_nil] at HT
                  simp only [Lt.v, Lt.zero] at HT
                  rw [hJn] at p1
                  go_wp2_with fail
                  with_reducible refine HT.out.mono ?_
                  rintro e w3 ⟨a3, c3, rfl, hF, hB⟩
                  have hs3 := hB.size
                  have hb4 := (hB.alloc hs3 (.cells #[.int .i8 0, .int .i64 0, .int .i64 0, .int .i64 0, .string ⟨#[]⟩, .int .i64 0] 32)).alloc (by simp; omega) (.cells #[.int .i64 z, .slice a3 0 c3, .bool true] 26)
                  have hl4 := laid2 w3 (.cells #[.int .i8 0, .int .i64 0, .int .i64 0, .int .i64 0, .string ⟨#[]⟩, .int .i64 0] 32) (.cells #[.int .i64 z, .slice a3 0 c3, .bool true] 26)
                  obtain ⟨⟨m0, m1, m2, m3, m4, m5⟩, _⟩ := box6 hl4.1
                  obtain ⟨⟨n0, n1, n2⟩, _⟩ := box3 hl4.2
                  have hbx := (hb4.block w1.heap.size hd5).trans HG.out.box
                  obtain ⟨⟨t0, t1, t2⟩, t3, t4, t5⟩ := box3 hbx
                  have hnq := neq_self Lt.zero
                  simp only [Lt.zero] at hnq
                  have hgd := guard_letter
                  have HB4 := Lib.hid hb4
                  have HX4 := Lib.hid hbx
                  have HF4 := Lib.hid (hF.below (((Below.refl _ w3).alloc (Nat.le_refl _) (.cells #[.int .i8 0, .int .i64 0, .int .i64 0, .int .i64 0, .string ⟨#[]⟩, .int .i64 0] 32)).alloc (by simp) (.cells #[.int .i64 z, .slice a3 0 c3, .bool true] 26)))
                  have HBa := Lib.hid (HBW.out.trans (hb4.mono hbs))
                  clear hB hb4 hl4 hbx hF HT
                  go_wp2_with fail
                  go_quiet (fail)
                  go_wp2_with fail
                  go_meet
                  have hlo := HG.out.loose
                  rw [HJ.out] at hlo
                  have hbq := below_drewN HB4.out nq
                  have hg6 := good_set (z := z) (cl := true) (L := []) ((hbq.block w1.heap.size hd5).trans HG.out.box) (HF4.out.below (below_drewN (Below.refl _ _) nq)) hd5 (hlo.below hbq) (fun h => by simp at h) (by simpa using hz)
                  have hb6 := set3_below (b := w1.heap.size) (below_drewN HBa.out nq) hs1 (.int .i64 z) (.slice a3 0 c3) (.bool true)
                  unfold set3 at hb6
                  exact ⟨c3, ci, a3, ai, [], true, by first | rfl | (rw [HJn.out]; rfl), rfl, Lib.hid hg6, Lib.hid hb6⟩
              · -- the first one
                have hJn : J.length = L.length + 1 := by rw [hJ]; rfl
                obtain ⟨s, hs⟩ : ∃ s, L.length = s := ⟨_, rfl⟩
                have HJ := Lib.hid hJ
                have hci := HG.out.loose.1
                have hcm := HG.out.loose.2.1
                unfold maxLen at hcm
                obtain ⟨gi, pi, rfl, hgb, hgl, _, hat⟩ := HG.out.loose.2.2.2 (by omega)
                obtain ⟨y0, y1, y2, y3, y4, y5⟩ := LK.six hat (j := 0) (x := m) (by rw [hJ]; rfl)
                simp only [Nat.zero_mul, Nat.add_zero] at y0 y1 y2 y3 y4 y5
                have HT := Lib.hid (take_any z cl J 0 m L (.inr ⟨hJ, rfl⟩) HMJ.out a c wr HG.out.row)
                simp only [Lt.v] at HT
                have HLo := Lib.hid (HG.out.loose.drop (a' := if ci = 1 then some ⟨gi, pi, none⟩ else some ⟨gi, pi + 6, none⟩) 1 (by omega) (by simp [add_at']; try rfl))
                have hdr : J.drop 1 = L := by rw [hJ]; rfl
                rw [hdr] at HLo
                have HGb := Lib.hid (show ∀ ad, (if ci = 1 then some (⟨gi, pi, none⟩ : Addr) else some ⟨gi, pi + 6, none⟩) = some ad → ad.block < wr.heap.size from fun ad e => by split at e <;> (injection e with e; subst e; exact hgl))
                have HFz := Lib.hid (show (L.length : Int) ≤ z by have := HG.out.fits; rw [hJ] at this; simp at this; omega)
                have HS := Lib.hid hs
                rw [hs] at hJn HT
                rw [hJn] at HT
                have HJn := Lib.hid hJn
                have HC := Lib.hid hcm
                have hx1 : (s : Int) + 1 ≤ (ci : Int) := by omega
                have hx2 : (1 : Int) ≤ (s : Int) + 1 := by omega
                have hx3 : (0 : Int) < (s : Int) + 1 := by omega
                have hx4 : decide ((0 : Int) < (s : Int) + 1) = true := decide_eq_true (by omega)
                have hx5 : ((s : Int) + 1 == 0) = false := by rw [beq_eq_false_iff_ne]; omega
                clear hJ hs hdr hat hcm hci
                rw [hJn] at p1
                go_wp2_with fail
                with_reducible refine HT.out.mono ?_
                rintro e w3 ⟨a3, c3, rfl, hF, hB⟩
                have hs3 := hB.size
                have hb4 := (hB.alloc hs3 (.cells #[.int .i8 m.kind, .int .i64 m.fr, .int .i64 m.num, .int .i64 m.sock, .string m.text, .int .i64 m.e] 32)).alloc (by simp; omega) (.cells #[.int .i64 z, .slice a3 s c3, .bool cl] 26)
                have hl4 := laid2 w3 (.cells #[.int .i8 m.kind, .int .i64 m.fr, .int .i64 m.num, .int .i64 m.sock, .string m.text, .int .i64 m.e] 32) (.cells #[.int .i64 z, .slice a3 s c3, .bool cl] 26)
                obtain ⟨⟨m0, m1, m2, m3, m4, m5⟩, _⟩ := box6 hl4.1
                obtain ⟨⟨n0, n1, n2⟩, _⟩ := box3 hl4.2
                have hbx := (hb4.block w1.heap.size hd5).trans HG.out.box
                obtain ⟨⟨t0, t1, t2⟩, t3, t4, t5⟩ := box3 hbx
                have y0 := (hb4.cell (p := ⟨gi, pi, none⟩) hgl).trans y0
                have y1 := (hb4.cell (p := ⟨gi, pi + 1, none⟩) hgl).trans y1
                have y2 := (hb4.cell (p := ⟨gi, pi + 2, none⟩) hgl).trans y2
                have y3 := (hb4.cell (p := ⟨gi, pi + 3, none⟩) hgl).trans y3
                have y4 := (hb4.cell (p := ⟨gi, pi + 4, none⟩) hgl).trans y4
                have y5 := (hb4.cell (p := ⟨gi, pi + 5, none⟩) hgl).trans y5
                have hnq := neq_self m
                have hgd := guard_letter
                have HB4 := Lib.hid hb4
                have HX4 := Lib.hid hbx
                have HF4 := Lib.hid (hF.below (((Below.refl _ w3).alloc (Nat.le_refl _) (.cells #[.int .i8 m.kind, .int .i64 m.fr, .int .i64 m.num, .int .i64 m.sock, .string m.text, .int .i64 m.e] 32)).alloc (by simp) (.cells #[.int .i64 z, .slice a3 s c3, .bool cl] 26)))
                have HBa := Lib.hid (HBW.out.trans (hb4.mono hbs))
                clear hB hb4 hl4 hbx hF HT
                by_cases hc1 : ci = 1
                all_goals
                  simp only [hc1, if_true, if_false] at HLo HGb
                  go_wp2_with fail
                  go_quiet (fail)
                  go_wp2_with fail
                  go_meet
                  have hbq := below_drewN HB4.out nq
                  have hg6 := good_set (z := z) (cl := cl) ((hbq.block w1.heap.size hd5).trans HG.out.box) (HF4.out.below (below_drewN (Below.refl _ _) nq)) hd5 (HLo.out.below hbq) (apart_old HF4.out (fun _ ad e => HGb.out ad e)) HFz.out
                  have hb6 := set3_below (b := w1.heap.size) (below_drewN HBa.out nq) hs1 (.int .i64 z) (.slice a3 s c3) (.bool cl)
                  unfold set3 at hb6
                  rw [HS.out] at hg6
                  exact ⟨c3, _, a3, _, L, cl, by rw [HS.out], rfl, Lib.hid hg6, Lib.hid hb6⟩
          · have hab1 : (x.act == 1) = false := by rw [beq_eq_false_iff_ne]; exact ha1
            by_cases ha2 : x.act = 2
            · have hab2 : (x.act == 2) = true := by rw [ha2]; rfl
              clear ha0 ha1 ha2
              as_aux_lemma =>
                obtain ⟨er, her⟩ : ∃ er, CloseR cl er := ⟨_, rfl⟩
                have HC := Lib.hid (close_any z cl J er her HMJ.out a c wr HG.out.row)
                unfold CloseR at her
                cases cl
                all_goals
                  simp only [if_true, Bool.false_eq_true, if_false] at her
                  subst her
                  go_wp2_with fail
                  with_reducible refine HC.out.mono ?_
                  rintro e w3 ⟨a3, c3, rfl, hF, hB⟩
                  have hs3 := hB.size
                  have hb4 := hB.alloc hs3 (.cells #[.int .i64 z, .slice a3 J.length c3, .bool true] 26)
                  have hl4 := laid1 w3 (.cells #[.int .i64 z, .slice a3 J.length c3, .bool true] 26)
                  obtain ⟨⟨n0, n1, n2⟩, _⟩ := box3 hl4
                  have hbx := (hb4.block w1.heap.size hd5).trans HG.out.box
                  obtain ⟨⟨t0, t1, t2⟩, t3, t4, t5⟩ := box3 hbx
                  have HB4 := Lib.hid hb4
                  have HX4 := Lib.hid hbx
                  have HF4 := Lib.hid (hF.below ((Below.refl _ w3).alloc (Nat.le_refl _) (.cells #[.int .i64 z, .slice a3 J.length c3, .bool true] 26)))
                  have HBa := Lib.hid (HBW.out.trans (hb4.mono hbs))
                  clear hB hb4 hl4 hbx hF HC
                  go_wp2_with fail
                  go_meet
                  have hg6 := good_set (z := z) (cl := true) HX4.out HF4.out hd5 (HG.out.loose.below HB4.out) (apart_old HF4.out HG.out.lt) HG.out.fits
                  have hb6 := set3_below (b := w1.heap.size) HBa.out hs1 (.int .i64 z) (.slice a3 J.length c3) (.bool true)
                  unfold set3 at hb6
                  exact ⟨c3, ci, a3, ai, J, true, rfl, rfl, Lib.hid hg6, Lib.hid hb6⟩
            · have hab2 : (x.act == 2) = false := by rw [beq_eq_false_iff_ne]; exact ha2
              clear ha0 ha1 ha2
              go_wp2_with fail
              go_meet
              exact ⟨c, ci, a, ai, J, cl, rfl, rfl, HG, HBW⟩
      case rest =>
        as_aux_lemma =>
          obtain ⟨c2, ci2, a2, ai2, J2, cl2, rfl, rfl, hG2, hB2⟩ := hcut
          have HG2 := Lib.hid hG2.out
          have HB2 := Lib.hid hB2.out
          have hs2 := hB2.out.size
          have hd5 : w1.heap.size < wc.heap.size := lt_of_block hG2.out.box
          have hq := hG2.out.box
          obtain ⟨⟨q0, q1, q2⟩, _⟩ := box3 hq
          have hm2 : mayB z J2.length = true := by have := hG2.out.fits; simp [mayB]; omega
          have hb1 := (Below.refl wc.heap.size wc).alloc (Nat.le_refl _) (.cells #[.int .i64 z, .slice a2 J2.length c2, .bool cl2] 26)
          obtain ⟨⟨r0, r1, r2⟩, _⟩ := box3 ((hb1.block _ hd5).trans hq)
          have HRd := Lib.hid (ready_any z a2 J2.length c2 cl2 wc)
          have HMy := Lib.hid (may_one z a2 J2.length c2 cl2 26 (wc.heap.size + 1) _ (laid2 wc (.cells #[.int .i64 z, .slice a2 J2.length c2, .bool cl2] 26) (.cells #[.int .i64 z, .slice a2 J2.length c2, .bool cl2] 26)).2)
          rw [hm2] at HMy
          obtain ⟨n2, hn2⟩ : ∃ n, J2.length = n := ⟨_, rfl⟩
          have HN2 := Lib.hid hn2
          rw [hn2] at HRd HMy q1 r1 hb1 ⊢
          have HB1 := Lib.hid hb1
          clear hb1
          clear hG2 hB2 hq hm2 p0 p1 p2 p3 p4 p5 hn2
          rcases (show n2 = 0 ∨ 0 < n2 by omega) with rfl | hn0 <;> cases cl2
          all_goals
            try (have hd : decide (0 < n2) = true := by simp; omega
                 have hdi : (0 : Int) < (n2 : Int) := by omega
                 rw [hd] at HRd
                 clear hd)
            simp only [Nat.lt_irrefl, decide_false, Bool.or_false, Bool.or_true, Bool.true_or, Bool.false_or] at HRd
            go_wp2_with fail
            with_reducible refine HRd.out.mono ?_
            rintro e w4 ⟨rfl, rfl⟩
            go_wp2_with fail
            with_reducible refine HMy.out.mono ?_
            rintro e w4 ⟨rfl, hB⟩
            have hbd := (HB1.out.alloc (by simp) _).trans (hB.mono (by simp; omega))
            have HB5 := Lib.hid (HB2.out.trans (hbd.mono hs2))
            have HG5 := Lib.hid (HG2.out.below hbd)
            clear hB hbd
            go_wp2_with fail
            go_roundw
            case rel => exact ⟨i + 1, c2, ci2, a2, ai2, J2, _, by go_num, by omega, by rw [HN2.out], rfl, HG5, HB5.out⟩
            case measure => simp [intOf]; omega
    · obtain rfl : i = l.length := by omega
      go_wp2_with fail
      with_reducible refine (wakes_any wr).mono ?_
      rintro e w4 ⟨rfl, hB⟩
      have HB4 := Lib.hid (HBW.out.trans (hB.mono hbs))
      clear hB
      go_wp2_with fail
      go_ret
      exact ⟨rfl, HB4.out⟩

theorem ductorder_walk (z : Int) (l : List Ac) (a : Option Addr) (c : Nat) (w : World) (hA : AK.RowC w a c l) :
    Calls Try.prog 3 #[.int .i64 z, .slice a l.length c] w fun e w' => e = .returned (.bool true) ∧ Below w.heap.size w w' := by
  by_cases hg : 200 < l.length
  · exact ductorder_great z l a c w (.inl hg)
  · by_cases h1 : z < 0
    · exact ductorder_great z l a c w (.inr (.inl ⟨by omega, h1⟩))
    · by_cases h2 : 64 < z
      · exact ductorder_great z l a c w (.inr (.inr ⟨by omega, by omega, h2⟩))
      · exact ductorder_small z l a c w hA (by omega) (by omega) (by omega)
end Go.Proofs.Ytomiajgedcpjiaa
