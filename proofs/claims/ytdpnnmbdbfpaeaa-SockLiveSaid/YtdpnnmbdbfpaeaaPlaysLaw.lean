/- What a script of openings, droppings and shuttings comes to. -/
import Derived.Test.YtdpnnmbdbfpaeaaPlay
set_option linter.unusedSimpArgs false
set_option linter.unusedVariables false
namespace Go.Proofs.Ytdpnnmbdbfpaeaa
open Go.RowKit Go.Proofs.Ytdpnnmbdbfpaeaa.Kind

set_option maxHeartbeats 16000000 in
set_option maxRecDepth 1000000 in
theorem sockplays_walk (HO : OpenSpec) (HS : ShutSpec) (HN : ShutNone) (HD : DropSpec) (HDN : DropNone) (HL : LiveSpec) (HC : CheckSpec) (HWk : WakesSpec) (L : List Ac) (a : Option Addr) (c : Nat) (w : World) (hA : CK.RowC w a c L) :
    Calls Try.prog 3 #[.slice a L.length c] w fun e w' => e = .returned (.bool true) ∧ Below w.heap.size w w' := by
  have HWk := Lib.hid (fun w => HWk w)
  by_cases hg : 100 < L.length
  · have hgi : (100 : Int) < (L.length : Int) := by omega
    clear hA HO HS HN HD HDN HL HC
    go_enter Try.func3, Try.ntmps3
    go_wp2_with fail
    with_reducible refine (HWk.out _).mono ?_
    rintro e w1 ⟨rfl, hb⟩
    have HB := Lib.hid hb
    clear hb
    go_wp2_with fail
    go_ret
    exact ⟨rfl, HB.out⟩
  · have hgi : ¬ (100 : Int) < (L.length : Int) := by omega
    have HOp := Lib.hid (fun S M y t a b c d w L K h1 h2 h3 h4 h5 h6 => HO S M Ad.zero y t a b c d w L K h1 h2 h3 h4 h5 h6)
    simp only [Ad.zero] at HOp
    have HS := Lib.hid (fun S M n x t a b c d w L K h1 h2 h3 h4 h5 h6 h7 => HS S M n x t a b c d w L K h1 h2 h3 h4 h5 h6 h7)
    have HN := Lib.hid (fun S M n t a b c d w h1 h2 h3 h4 h5 => HN S M n t a b c d w h1 h2 h3 h4 h5)
    have HD := Lib.hid (fun S n x a c w L h1 h2 h3 h4 h5 => HD S n x a c w L h1 h2 h3 h4 h5)
    have HDN := Lib.hid (fun S n a c w h1 h2 h3 => HDN S n a c w h1 h2 h3)
    have HLv := Lib.hid (fun S L a c w h1 h2 h3 => HL S L a c w h1 h2 h3)
    have HCk := Lib.hid (fun S M a b c d w h1 h2 hl h3 h4 h5 => HC S M 0 a b c d w h1 h2 hl h3 h4 h5)
    have HA := Lib.hid hA
    obtain ⟨arr, harr⟩ : ∃ arr, arr = (List.replicate 100 (Value.bool false)).toArray := ⟨_, rfl⟩
    have hmk := run_hundred arr harr
    have HP0 := Lib.hid (play_start w arr harr 4)
    clear hA HO HL HC harr hg
    go_enter Try.func3, Try.ntmps3
    go_wp2_with fail
    go_loopw [3, 4, 5, 7, 8, 9] (fun u3 u4 u5 u7 u8 u9 wr => ∃ (k : Nat) (S : List Sk) (M : List Nk) (t : Int) (a : Option Addr) (c : Nat) (b : Option Addr) (d : Nat) (gone many : Nat), u3 = .slice a S.length c ∧ u4 = .slice b M.length d ∧ u5 = .int .i64 t ∧ u7 = .int .i64 many ∧ u8 = .int .i64 gone ∧ u9 = .int .i64 k ∧ k ≤ L.length ∧ many = S.length ∧ gone = goneN S ∧ Hid (PlayIn w w.heap.size k S M t a c b d wr)) (fun _ _ _ _ _ u _ => L.length - (intOf u).toNat)
    case atStart => exact ⟨0, [], [], 0, none, 0, none, 0, 0, 0, rfl, rfl, rfl, rfl, rfl, rfl, by omega, rfl, rfl, HP0⟩
    case round =>
      obtain ⟨k, S, M, t, sa, sc, ma, mc, gone, many, rfl, rfl, rfl, rfl, rfl, rfl, hk, hmany, hgone, hP⟩ := hrel
      have HP := Lib.hid hP.out
      subst hmany
      have HGo := Lib.hid hgone
      clear hP HP0 hgone
      by_cases hlt : k < L.length
      · obtain ⟨⟨n, x, dr⟩, hx⟩ : ∃ x, L[k]? = some x := ⟨_, List.getElem?_eq_getElem hlt⟩
        obtain ⟨ba, oa, rfl, hba, hat⟩ := (HA.out.below HP.out.below).2.2.2 (by omega)
        have hcs := CK.three hat hx
        obtain ⟨x0, x1, x2⟩ := hcs
        dsimp only at x0 x1 x2
        have HX := Lib.hid (And.intro x0 (And.intro x1 x2))
        have hki : (k : Int) < (L.length : Int) := by omega
        have hk100 : k < 100 := by omega
        have hSl : S.length ≤ k := HP.out.sl
        have hMl : M.length ≤ k := HP.out.ml
        have ht0 : 0 ≤ t := HP.out.n0
        have ht1 : t ≤ 1000 * k := HP.out.n1
        have hgl : gone ≤ S.length := by rw [HGo.out]; exact List.countP_le_length
        have hkw : IntKind.i64.wrap ((k : Int) + 1) = (k : Int) + 1 := by rw [IntKind.wrap_i64]; omega
        have hmw : IntKind.i64.wrap ((S.length : Int) + 1) = (S.length : Int) + 1 := by rw [IntKind.wrap_i64]; omega
        have hgw : IntKind.i64.wrap ((gone : Int) + 1) = (gone : Int) + 1 := by rw [IntKind.wrap_i64]; omega
        have hbawr : ba < wr.heap.size := hba
        clear hat hx
        go_upto_region 12 with fail
        clear x0 x1 x2
        have hb2 := (below1 wr (.cells #[.int .i64 n, .int .i64 x, .bool dr] 28))
        have HBX := Lib.hid (laid1 wr (.cells #[.int .i64 n, .int .i64 x, .bool dr] 28))
        have HP2 := Lib.hid (HP.out.on hb2)
        obtain ⟨W2, hW2⟩ : ∃ W2, W2 = (wr.alloc (.cells #[.int .i64 n, .int .i64 x, .bool dr] 28)) := ⟨_, rfl⟩
        rw [← hW2] at HBX HP2 ⊢
        have hAO : wr.heap.size < W2.heap.size := lt_of_block HBX.out
        have hGA : w.heap.size < wr.heap.size := HP.out.lt
        clear hb2 HX hW2 HP
        generalize wr.heap.size = AO at *
        obtain ⟨⟨y0, y1, y2⟩, _⟩ := box3 HBX.out
        by_cases hx0 : x < 0
        · have hz : decide (x < 0) = true := by simp [hx0]
          clear HA HS HN HD HDN HOp HLv HCk
          go_wp2_with fail
          with_reducible refine (HWk.out _).mono ?_
          rintro e w1 ⟨rfl, hb⟩
          have HBf := Lib.hid (HP2.out.below.trans (hb.mono HP2.out.below.size))
          clear hb
          go_wp2_with fail
          go_ret
          exact ⟨rfl, HBf.out⟩
        · by_cases hx1 : 1000 < x
          · have hz : decide (1000 < x) = true := by simp [hx1]
            clear HA HS HN HD HDN HOp HLv HCk
            go_wp2_with fail
            with_reducible refine (HWk.out _).mono ?_
            rintro e w1 ⟨rfl, hb⟩
            have HBf := Lib.hid (HP2.out.below.trans (hb.mono HP2.out.below.size))
            clear hb
            go_wp2_with fail
            go_ret
            exact ⟨rfl, HBf.out⟩
          · have hz0 : decide (x < 0) = false := by simp [hx0]
            have hz1 : decide (1000 < x) = false := by simp [hx1]
            have htw : IntKind.i64.wrap (t + x) = t + x := by rw [IntKind.wrap_i64]; omega
            by_cases hn0 : n < 0
            · clear HS HN HD HDN
              have HOx := Lib.hid (HOp.out S M k (t + x) sa ma sc mc W2 _ _ (by omega) (by omega) rfl rfl HP2.out.rs.row HP2.out.rm.row)
              go_wp2_with fail
              with_reducible refine HOx.out.mono ?_
              rintro e wx ⟨a2, c2, b2, d2, rfl, hs, hm, hb⟩
              have hg1 := Lib.hid ((gone_open S ⟨0, 0, 0, 0, 0, 0, 0, 0, 0, 0⟩ k (t + x)).trans HGo.out.symm)
              have HQ := Lib.hid (HP2.out.opened (t := t + x) (by omega) (by omega) ⟨0, 0, 0, 0, 0, 0, 0, 0, 0, 0⟩ k _ _ rfl rfl hb hs hm)
              obtain ⟨S2, hS2⟩ : ∃ S2, S2 = S ++ [skNew ⟨0, 0, 0, 0, 0, 0, 0, 0, 0, 0⟩ k (t + x)] := ⟨_, rfl⟩
              obtain ⟨M2, hM2⟩ : ∃ M2, M2 = M ++ [⟨false, S.length, t + x⟩] := ⟨_, rfl⟩
              have hg2 := Lib.hid (show S2.length = S.length + 1 by rw [hS2]; simp)
              rw [← hS2, ← hM2] at HQ ⊢
              rw [← hS2] at hg1
              clear hs hm hb HOx HP2 hS2 hM2
              have HCx := Lib.hid (HCk.out S2 M2 a2 b2 c2 d2 wx (by have := HQ.out.sl; omega) (by have := HQ.out.ml; omega) (fun m hm => by have := HQ.out.ats m hm; omega) (by rw [if_pos HQ.out.goes]) HQ.out.rs.row HQ.out.rm.row)
              go_wp2_with fail
              with_reducible refine HCx.out.mono ?_
              rintro e wy ⟨rfl, hb⟩
              have HQ2 := Lib.hid (HQ.out.on hb)
              obtain ⟨V, hV⟩ : ∃ V, V = liveP S2 := ⟨_, rfl⟩
              have HLx := Lib.hid (HLv.out S2 V a2 c2 wy (by have := HQ2.out.sl; omega) hV HQ2.out.rs.row)
              have HLn := live_gone S2
              rw [← hV, hg1.out, hg2.out] at HLn
              have hsub : IntKind.i64.wrap (((S.length : Int) + 1) - (gone : Int)) = (V.length : Int) := by rw [IntKind.wrap_i64]; omega
              have hlen : (S2.length : Int) = ((S.length : Int) + 1) := by have := hg2.out; omega
              clear hb HCx HQ hV HLn
              go_wp2_with fail
              with_reducible refine HLx.out.mono ?_
              rintro e wz ⟨za, zc, rfl, _, hb⟩
              have HQ3 := Lib.hid (HQ2.out.on hb)
              clear hb HLx HQ2
              go_wp2_with fail
              go_roundw
              case rel => exact ⟨k + 1, S2, M2, t + x, a2, c2, b2, d2, gone, (S.length + 1), by first | rfl | go_num, by first | rfl | go_num, by first | rfl | go_num, by first | rfl | go_num, by first | rfl | go_num, by first | rfl | go_num, by omega, hg2.out.symm, hg1.out.symm, HQ3⟩
              case measure => simp [intOf]; omega
            · obtain ⟨N, rfl⟩ : ∃ N : Nat, n = N := ⟨n.toNat, by omega⟩
              have hn1 : ¬ (N : Int) < 0 := hn0
              have HP3 := Lib.hid (HP2.out.late x (by omega) (by omega))
              clear HOp
              by_cases hN : N < S.length
              · obtain ⟨s, hs⟩ : ∃ s, S[N]? = some s := ⟨_, List.getElem?_eq_getElem hN⟩
                have hNi : (N : Int) < (S.length : Int) := by omega
                have hN99 : (N : Int) < 99 := by omega
                have hN99' : ¬ (99 : Int) < (N : Int) := by omega
                have HS0 := Lib.hid hs
                cases dr with
                | true =>
                  cases hop : isOpen s with
                  | true =>
                    have HDx := Lib.hid (HD.out S N s sa sc W2 _ (by omega) hs (by simpa [isOpen] using hop) rfl HP2.out.rs.row)
                    have HC0 := Lib.hid ((HP2.out.shut N (by omega)).1)
                    rw [shut_is hs, hop] at HC0
                    clear HD HDN HS HN hs
                    go_wp2_with fail
                    with_reducible refine HDx.out.mono ?_
                    rintro e wx ⟨a2, c2, rfl, hl, hb⟩
                    have z0 := (hb.cell (p := ⟨AO, 0, none⟩) hAO).trans y0
                    have cz := (hb.cell (p := ⟨w.heap.size, N, none⟩) HP2.out.lt).trans HC0.out
                    have HQ := Lib.hid (HP3.out.dropped N s HS0.out _ rfl hb hl)
                    have hg1 := Lib.hid ((gone_dropped HS0.out).trans HGo.out.symm)
                    obtain ⟨S2, hS2⟩ : ∃ S2, S2 = S.set N { s with dead := true } := ⟨_, rfl⟩
                    have hg2 := Lib.hid (show S2.length = S.length by rw [hS2]; simp)
                    rw [← hS2] at HQ hg1 ⊢
                    clear hl hb HDx HP2 HP3 hS2 HC0
                    have HCx := Lib.hid (HCk.out S2 M a2 ma c2 mc wx (by have := HQ.out.sl; omega) (by have := HQ.out.ml; omega) (fun m hm => by have := HQ.out.ats m hm; omega) (by rw [if_pos HQ.out.goes]) HQ.out.rs.row HQ.out.rm.row)
                    go_wp2_with fail
                    with_reducible refine HCx.out.mono ?_
                    rintro e wy ⟨rfl, hb⟩
                    have HQ2 := Lib.hid (HQ.out.on hb)
                    obtain ⟨V, hV⟩ : ∃ V, V = liveP S2 := ⟨_, rfl⟩
                    have HLx := Lib.hid (HLv.out S2 V a2 c2 wy (by have := HQ2.out.sl; omega) hV HQ2.out.rs.row)
                    have HLn := live_gone S2
                    rw [← hV, hg1.out, hg2.out] at HLn
                    have hsub : IntKind.i64.wrap ((S.length : Int) - (gone : Int)) = (V.length : Int) := by rw [IntKind.wrap_i64]; omega
                    have hlen : (S2.length : Int) = (S.length : Int) := by have := hg2.out; omega
                    clear hb HCx HQ hV HLn
                    go_wp2_with fail
                    with_reducible refine HLx.out.mono ?_
                    rintro e wz ⟨za, zc, rfl, _, hb⟩
                    have HQ3 := Lib.hid (HQ2.out.on hb)
                    clear hb HLx HQ2
                    go_wp2_with fail
                    go_roundw
                    case rel => exact ⟨k + 1, S2, M, t + x, a2, c2, ma, mc, gone, S.length, by first | rfl | go_num, by first | rfl | go_num, by first | rfl | go_num, by first | rfl | go_num, by first | rfl | go_num, by first | rfl | go_num, by omega, hg2.out.symm, hg1.out.symm, HQ3⟩
                    case measure => simp [intOf]; omega
                  | false =>
                    have HDx := Lib.hid (HDN.out S N sa sc W2 (by omega) (by rw [open_is hs, hop]) HP2.out.rs.row)
                    have HC0 := Lib.hid ((HP2.out.shut N (by omega)).1)
                    rw [shut_is hs, hop] at HC0
                    clear HD HDN HS HN hs
                    go_wp2_with fail
                    with_reducible refine HDx.out.mono ?_
                    rintro e wx ⟨rfl, hb⟩
                    have z0 := (hb.cell (p := ⟨AO, 0, none⟩) hAO).trans y0
                    have cz := (hb.cell (p := ⟨w.heap.size, N, none⟩) HP2.out.lt).trans HC0.out
                    have HQ := Lib.hid (HP3.out.on hb)
                    have hg1 := Lib.hid HGo.out.symm
                    clear hb HDx HP2 HP3 HC0
                    have HCx := Lib.hid (HCk.out S M sa ma sc mc wx (by have := HQ.out.sl; omega) (by have := HQ.out.ml; omega) (fun m hm => by have := HQ.out.ats m hm; omega) (by rw [if_pos HQ.out.goes]) HQ.out.rs.row HQ.out.rm.row)
                    go_wp2_with fail
                    with_reducible refine HCx.out.mono ?_
                    rintro e wy ⟨rfl, hb⟩
                    have HQ2 := Lib.hid (HQ.out.on hb)
                    obtain ⟨V, hV⟩ : ∃ V, V = liveP S := ⟨_, rfl⟩
                    have HLx := Lib.hid (HLv.out S V sa sc wy (by have := HQ2.out.sl; omega) hV HQ2.out.rs.row)
                    have HLn := live_gone S
                    rw [← hV, hg1.out] at HLn
                    have hsub : IntKind.i64.wrap ((S.length : Int) - (gone : Int)) = (V.length : Int) := by rw [IntKind.wrap_i64]; omega
                    have hlen : (S.length : Int) = (S.length : Int) := by omega
                    clear hb HCx HQ hV HLn
                    go_wp2_with fail
                    with_reducible refine HLx.out.mono ?_
                    rintro e wz ⟨za, zc, rfl, _, hb⟩
                    have HQ3 := Lib.hid (HQ2.out.on hb)
                    clear hb HLx HQ2
                    go_wp2_with fail
                    go_roundw
                    case rel => exact ⟨k + 1, S, M, t + x, sa, sc, ma, mc, gone, S.length, by first | rfl | go_num, by first | rfl | go_num, by first | rfl | go_num, by first | rfl | go_num, by first | rfl | go_num, by first | rfl | go_num, by omega, rfl, hg1.out.symm, HQ3⟩
                    case measure => simp [intOf]; omega
                | false =>
                  have HSx := Lib.hid (HS.out S M N s (t + x) sa ma sc mc W2 _ _ (by omega) (by omega) hs rfl rfl HP2.out.rs.row HP2.out.rm.row)
                  have HC0 := Lib.hid (HP2.out.shut N (by omega))
                  have hbz := goes_shuts HP2.out.goes hs
                  have hgs := gone_shutted hs hbz.1 (by omega)
                  rw [shut_is hs, ← HGo.out] at *
                  clear HD HDN HS HN hs
                  go_wp2_with fail
                  with_reducible refine HSx.out.mono ?_
                  rintro e wx ⟨a2, c2, b2, d2, rfl, hl, hm, hb⟩
                  have z0 := (hb.cell (p := ⟨AO, 0, none⟩) hAO).trans y0
                  have cz := (hb.cell (p := ⟨w.heap.size, N, none⟩) HP2.out.lt).trans HC0.out.1
                  have cf := (hb.frozen (p := ⟨w.heap.size, N, none⟩) HP2.out.lt).trans HC0.out.2
                  have HQ := Lib.hid (HP2.out.shutted (t := t + x) (by omega) (by omega) hk100 N s HS0.out _ _ rfl rfl hb hl hm)
                  obtain ⟨S2, hS2⟩ : ∃ S2, S2 = S.set N { s with shut := wrap64 (s.shut + 1) } := ⟨_, rfl⟩
                  obtain ⟨M2, hM2⟩ : ∃ M2, M2 = M ++ [⟨true, N, t + x⟩] := ⟨_, rfl⟩
                  have hg2 := Lib.hid (show S2.length = S.length by rw [hS2]; simp)
                  rw [← hS2, ← hM2] at HQ ⊢
                  rw [← hS2] at hgs
                  have hAw : w.heap.size ≠ AO := by omega
                  clear hl hm hb HSx HP2 HP3 hS2 hM2 HC0 hbz
                  cases hop : isOpen s with
                  | true =>
                    have hg1 := Lib.hid (show goneN S2 = gone + 1 by rw [hgs, hop]; rfl)
                    rw [hop] at cz
                    clear hgs
                    have HCx := Lib.hid (HCk.out S2 M2 a2 b2 c2 d2 _ (by have := HQ.out.sl; omega) (by have := HQ.out.ml; omega) (fun m hm => by have := HQ.out.ats m hm; omega) (by rw [if_pos HQ.out.goes]) HQ.out.rs.row HQ.out.rm.row)
                    go_wp2_with fail
                    with_reducible refine HCx.out.mono ?_
                    rintro e wy ⟨rfl, hb⟩
                    have HQ2 := Lib.hid (HQ.out.on hb)
                    obtain ⟨V, hV⟩ : ∃ V, V = liveP S2 := ⟨_, rfl⟩
                    have HLx := Lib.hid (HLv.out S2 V a2 c2 wy (by have := HQ2.out.sl; omega) hV HQ2.out.rs.row)
                    have HLn := live_gone S2
                    rw [← hV, hg1.out, hg2.out] at HLn
                    have hsub : IntKind.i64.wrap ((S.length : Int) - ((gone : Int) + 1)) = (V.length : Int) := by rw [IntKind.wrap_i64]; omega
                    have hlen : (S2.length : Int) = (S.length : Int) := by have := hg2.out; omega
                    clear hb HCx HQ hV HLn
                    go_wp2_with fail
                    with_reducible refine HLx.out.mono ?_
                    rintro e wz ⟨za, zc, rfl, _, hb⟩
                    have HQ3 := Lib.hid (HQ2.out.on hb)
                    clear hb HLx HQ2
                    go_wp2_with fail
                    go_roundw
                    case rel => exact ⟨k + 1, S2, M2, t + x, a2, c2, b2, d2, (gone + 1), S.length, by first | rfl | go_num, by first | rfl | go_num, by first | rfl | go_num, by first | rfl | go_num, by first | rfl | go_num, by first | rfl | go_num, by omega, hg2.out.symm, hg1.out.symm, HQ3⟩
                    case measure => simp [intOf]; omega
                  | false =>
                    have hg1 := Lib.hid (show goneN S2 = gone by rw [hgs, hop]; rfl)
                    rw [hop] at cz
                    clear hgs
                    have HCx := Lib.hid (HCk.out S2 M2 a2 b2 c2 d2 _ (by have := HQ.out.sl; omega) (by have := HQ.out.ml; omega) (fun m hm => by have := HQ.out.ats m hm; omega) (by rw [if_pos HQ.out.goes]) HQ.out.rs.row HQ.out.rm.row)
                    go_wp2_with fail
                    with_reducible refine HCx.out.mono ?_
                    rintro e wy ⟨rfl, hb⟩
                    have HQ2 := Lib.hid (HQ.out.on hb)
                    obtain ⟨V, hV⟩ : ∃ V, V = liveP S2 := ⟨_, rfl⟩
                    have HLx := Lib.hid (HLv.out S2 V a2 c2 wy (by have := HQ2.out.sl; omega) hV HQ2.out.rs.row)
                    have HLn := live_gone S2
                    rw [← hV, hg1.out, hg2.out] at HLn
                    have hsub : IntKind.i64.wrap ((S.length : Int) - (gone : Int)) = (V.length : Int) := by rw [IntKind.wrap_i64]; omega
                    have hlen : (S2.length : Int) = (S.length : Int) := by have := hg2.out; omega
                    clear hb HCx HQ hV HLn
                    go_wp2_with fail
                    with_reducible refine HLx.out.mono ?_
                    rintro e wz ⟨za, zc, rfl, _, hb⟩
                    have HQ3 := Lib.hid (HQ2.out.on hb)
                    clear hb HLx HQ2
                    go_wp2_with fail
                    go_roundw
                    case rel => exact ⟨k + 1, S2, M2, t + x, a2, c2, b2, d2, gone, S.length, by first | rfl | go_num, by first | rfl | go_num, by first | rfl | go_num, by first | rfl | go_num, by first | rfl | go_num, by first | rfl | go_num, by omega, hg2.out.symm, hg1.out.symm, HQ3⟩
                    case measure => simp [intOf]; omega
              · have hNi : ¬ (N : Int) < (S.length : Int) := by omega
                have hNj : (S.length : Int) ≤ (N : Int) := by omega
                cases dr with
                | true =>
                  have HDx := Lib.hid (HDN.out S N sa sc W2 (by omega) (open_no hNj) HP2.out.rs.row)
                  clear HD HDN HS HN
                  go_wp2_with fail
                  with_reducible refine HDx.out.mono ?_
                  rintro e wx ⟨rfl, hb⟩
                  have z0 := (hb.cell (p := ⟨AO, 0, none⟩) hAO).trans y0
                  have HQ := Lib.hid (HP3.out.on hb)
                  have hg1 := Lib.hid HGo.out.symm
                  clear hb HDx HP2 HP3
                  have HCx := Lib.hid (HCk.out S M sa ma sc mc wx (by have := HQ.out.sl; omega) (by have := HQ.out.ml; omega) (fun m hm => by have := HQ.out.ats m hm; omega) (by rw [if_pos HQ.out.goes]) HQ.out.rs.row HQ.out.rm.row)
                  go_wp2_with fail
                  with_reducible refine HCx.out.mono ?_
                  rintro e wy ⟨rfl, hb⟩
                  have HQ2 := Lib.hid (HQ.out.on hb)
                  obtain ⟨V, hV⟩ : ∃ V, V = liveP S := ⟨_, rfl⟩
                  have HLx := Lib.hid (HLv.out S V sa sc wy (by have := HQ2.out.sl; omega) hV HQ2.out.rs.row)
                  have HLn := live_gone S
                  rw [← hV, hg1.out] at HLn
                  have hsub : IntKind.i64.wrap ((S.length : Int) - (gone : Int)) = (V.length : Int) := by rw [IntKind.wrap_i64]; omega
                  have hlen : (S.length : Int) = (S.length : Int) := by omega
                  clear hb HCx HQ hV HLn
                  go_wp2_with fail
                  with_reducible refine HLx.out.mono ?_
                  rintro e wz ⟨za, zc, rfl, _, hb⟩
                  have HQ3 := Lib.hid (HQ2.out.on hb)
                  clear hb HLx HQ2
                  go_wp2_with fail
                  go_roundw
                  case rel => exact ⟨k + 1, S, M, t + x, sa, sc, ma, mc, gone, S.length, by first | rfl | go_num, by first | rfl | go_num, by first | rfl | go_num, by first | rfl | go_num, by first | rfl | go_num, by first | rfl | go_num, by omega, rfl, hg1.out.symm, HQ3⟩
                  case measure => simp [intOf]; omega
                | false =>
                  have HDx := Lib.hid (HN.out S M N (t + x) sa ma sc mc W2 (by omega) (by omega) (.inr hNj) HP2.out.rs.row HP2.out.rm.row)
                  clear HD HDN HS HN
                  go_wp2_with fail
                  with_reducible refine HDx.out.mono ?_
                  rintro e wx ⟨rfl, hb⟩
                  have z0 := (hb.cell (p := ⟨AO, 0, none⟩) hAO).trans y0
                  have HQ := Lib.hid (HP3.out.on hb)
                  have hg1 := Lib.hid HGo.out.symm
                  clear hb HDx HP2 HP3
                  have HCx := Lib.hid (HCk.out S M sa ma sc mc wx (by have := HQ.out.sl; omega) (by have := HQ.out.ml; omega) (fun m hm => by have := HQ.out.ats m hm; omega) (by rw [if_pos HQ.out.goes]) HQ.out.rs.row HQ.out.rm.row)
                  go_wp2_with fail
                  with_reducible refine HCx.out.mono ?_
                  rintro e wy ⟨rfl, hb⟩
                  have HQ2 := Lib.hid (HQ.out.on hb)
                  obtain ⟨V, hV⟩ : ∃ V, V = liveP S := ⟨_, rfl⟩
                  have HLx := Lib.hid (HLv.out S V sa sc wy (by have := HQ2.out.sl; omega) hV HQ2.out.rs.row)
                  have HLn := live_gone S
                  rw [← hV, hg1.out] at HLn
                  have hsub : IntKind.i64.wrap ((S.length : Int) - (gone : Int)) = (V.length : Int) := by rw [IntKind.wrap_i64]; omega
                  have hlen : (S.length : Int) = (S.length : Int) := by omega
                  clear hb HCx HQ hV HLn
                  go_wp2_with fail
                  with_reducible refine HLx.out.mono ?_
                  rintro e wz ⟨za, zc, rfl, _, hb⟩
                  have HQ3 := Lib.hid (HQ2.out.on hb)
                  clear hb HLx HQ2
                  go_wp2_with fail
                  go_roundw
                  case rel => exact ⟨k + 1, S, M, t + x, sa, sc, ma, mc, gone, S.length, by first | rfl | go_num, by first | rfl | go_num, by first | rfl | go_num, by first | rfl | go_num, by first | rfl | go_num, by first | rfl | go_num, by omega, rfl, hg1.out.symm, HQ3⟩
                  case measure => simp [intOf]; omega
      · obtain rfl : k = L.length := by omega
        clear HA HS HN HD HDN HOp HLv HCk
        go_wp2_with fail
        with_reducible refine (HWk.out _).mono ?_
        rintro e w1 ⟨rfl, hb⟩
        have HBf := Lib.hid (HP.out.below.trans (hb.mono HP.out.below.size))
        clear hb
        go_wp2_with fail
        go_ret
        exact ⟨rfl, HBf.out⟩
end Go.Proofs.Ytdpnnmbdbfpaeaa
