/- Sockets: which there are, which are open; Open, Shut, Drop, IsOpen. -/
import Derived.Test.YtciohjgcndgiaaaSockO
import Derived.Test.YtciohjgcndgiaaaSpecs
set_option linter.unusedSimpArgs false
set_option linter.unusedVariables false
namespace Go.Proofs.Ytciohjgcndgiaaa
open Go.RowKit Go.Proofs.Ytciohjgcndgiaaa.Kind

theorem shas_any (n : Int) (m : Nat) (a : Option Addr) (c : Nat) (r : Bool) (hr : r = (decide (0 ≤ n) && decide (n < (m : Int)))) (w : World) :
    Calls Try.prog 67 #[.slice a m c, .int .i64 n] w fun e w' => e = .returned (.bool r) ∧ w' = w := by
  by_cases h0 : n < 0
  · obtain rfl : r = false := by rw [hr]; simp [Int.not_le.2 h0]
    clear hr
    go_enter Try.func67, Try.ntmps67
    go_wp2_with fail
    go_ret
    exact ⟨rfl, rfl⟩
  · by_cases h1 : n < (m : Int)
    · obtain rfl : r = true := by rw [hr]; simp [h1]; omega
      clear hr
      have h0' : 0 ≤ n := by omega
      go_enter Try.func67, Try.ntmps67
      go_wp2_with fail
      go_ret
      exact ⟨rfl, rfl⟩
    · obtain rfl : r = false := by rw [hr]; simp [h1]
      clear hr
      have h0' : 0 ≤ n := by omega
      go_enter Try.func67, Try.ntmps67
      go_wp2_with fail
      go_ret
      exact ⟨rfl, rfl⟩

theorem sopen_any (x : Sk) (r : Bool) (hr : r = isOpen x) (w : World) :
    Calls Try.prog 75 #[.agg #[.int .i8 x.ad.f, .int .u16 x.ad.g0, .int .u16 x.ad.g1, .int .u16 x.ad.g2, .int .u16 x.ad.g3, .int .u16 x.ad.g4, .int .u16 x.ad.g5, .int .u16 x.ad.g6, .int .u16 x.ad.g7, .int .i64 x.ad.p, .int .i64 x.by_, .int .i64 x.opened, .int .i64 x.shut, .bool x.dead]] w fun e w' => e = .returned (.bool r) ∧ Below w.heap.size w w' := by
  have hb := below1 w (.cells #[.int .i8 x.ad.f, .int .u16 x.ad.g0, .int .u16 x.ad.g1, .int .u16 x.ad.g2, .int .u16 x.ad.g3, .int .u16 x.ad.g4, .int .u16 x.ad.g5, .int .u16 x.ad.g6, .int .u16 x.ad.g7, .int .i64 x.ad.p, .int .i64 x.by_, .int .i64 x.opened, .int .i64 x.shut, .bool x.dead] 64)
  have hr' : r = (x.shut == 0) := by
    rw [hr]; unfold isOpen
    by_cases h : x.shut = 0 <;> simp [h]
  have HR := Lib.hid hr'
  have HB := Lib.hid hb
  clear hr hr' hb
  go_enter Try.func75, Try.ntmps75
  go_wp2_with fail
  go_ret
  exact ⟨by rw [HR.out]; rfl, HB.out⟩

set_option maxHeartbeats 4000000 in
set_option maxRecDepth 1000000 in
theorem sshut_none : SShutNone := by
  intro S M n t a b c d w hS hM hn hA hB
  have HH := Lib.hid (shas_any n S.length a c false (by rcases hn with h | h; simp [Int.not_le.2 h]; simp [Int.not_lt.2 h]) w)
  clear hA hB hn hS hM
  go_enter Try.func34, Try.ntmps34
  go_wp2_with fail
  with_reducible refine HH.out.mono ?_
  rintro e w1 ⟨rfl, rfl⟩
  go_wp2_with fail
  go_ret3
  exact ⟨rfl, Below.refl _ _⟩

set_option maxHeartbeats 4000000 in
set_option maxRecDepth 1000000 in
theorem sshut_spec : SShutSpec := by
  intro S M n x t a b c d w L K hS hM hx hL hK hA hB
  have hlt := (List.getElem?_eq_some_iff.1 hx).1
  have HH := Lib.hid (shas_any n S.length a c true (by simp; omega) w)
  have HW := Lib.hid (with_sock S [] S (by simp) (by simp; omega) a none c 0 w hA (row_none _))
  have HM := Lib.hid (fun W (hb : Below w.heap.size w W) (g2 : Nat) (hg2 : g2 = W.heap.size) => with_mark M [⟨true, n, t⟩] K hK (by simp; omega) b (some ⟨g2, 0, none⟩) d 1 (W.alloc (.cells #[.bool true, .int .i64 n, .int .i64 t] 105)) ((hB.below hb).below (below1 W _)) (rowC_at (K := NK) _ 105 [⟨true, n, t⟩] _ g2 1 hg2 rfl rfl (by simp)))
  have HX := Lib.hid hx
  have HL := Lib.hid hL
  have HLn : L.length = S.length := by rw [hL]; simp
  have HLN := Lib.hid HLn
  have hni : (n : Int) < (S.length : Int) := by omega
  have hn0 : ¬ (n : Int) < 0 := by omega
  simp only [List.length_cons, List.length_nil, Nat.zero_add] at HW HM
  clear hA hB hL hK hS hM hx HLn
  go_enter Try.func34, Try.ntmps34
  go_wp2_with fail
  with_reducible refine HH.out.mono ?_
  rintro e w1 ⟨rfl, rfl⟩
  clear HH
  go_wp2_with fail
  with_reducible refine HW.out.mono ?_
  rintro e w2 ⟨a1, c1, rfl, hO, hb⟩
  obtain ⟨g, o, rfl, hg, hg2, hlo, hcell, hfz⟩ := hO.loose.poke (K := SK) (i := 12) (y := { x with shut := wrap64 (x.shut + 1) }) (v := .int .i64 (wrap64 (x.shut + 1))) HX.out (by decide) rfl
  have hc12 : w2.cell? ⟨g, o + n * 14 + 12, none⟩ = some (.int .i64 x.shut) := hcell
  have hf12 : w2.frozen? ⟨g, o + n * 14 + 12, none⟩ = false := hfz
  have hlo2 : SK.Loose (w2.setCell ⟨g, o + n * 14 + 12, none⟩ (.int .i64 (wrap64 (x.shut + 1)))) w1.heap.size (some ⟨g, o, none⟩) c1 L := by rw [HL.out]; exact hlo
  have hb2 := hb.setCell (p := ⟨g, o + n * 14 + 12, none⟩) hg (.int .i64 (wrap64 (x.shut + 1)))
  have HLO := Lib.hid hlo2
  have HB2 := Lib.hid hb2
  have HY := Lib.hid (HM.out _ hb2 w2.heap.size (by simp))
  have HQ := Lib.hid (below1 (w2.setCell ⟨g, o + n * 14 + 12, none⟩ (.int .i64 (wrap64 (x.shut + 1)))) (.cells #[.bool true, .int .i64 n, .int .i64 t] 105))
  have hgw : g < w2.heap.size := hg2
  clear hO hb HW HM hlo hlo2 hb2 hcell hfz
  go_wp2_with fail
  with_reducible refine HY.out.mono ?_
  rintro e w3 ⟨a2, c2, rfl, hO, hb⟩
  have hq := HQ.out.trans (hb.mono HQ.out.size)
  have HO2 := Lib.hid (hO.loose.mono (b2 := w1.heap.size) (by have := HB2.out.size; have := HQ.out.size; omega))
  have HO3 := Lib.hid (HLO.out.below hq)
  have HB3 := Lib.hid (HB2.out.trans (hq.mono HB2.out.size))
  clear hO hb hq HY HQ
  go_wp2_with fail
  go_ret3
  exact ⟨_, _, _, _, by rw [HLN.out]; rfl, HO3.out, HO2.out, HB3.out⟩
set_option maxHeartbeats 4000000 in
set_option maxRecDepth 1000000 in
theorem sisopen_spec : SIsOpenSpec := by
  intro S ns r a b c d w hS hns hr hA hN
  have HA := Lib.hid hA
  have HN := Lib.hid hN
  have HR := Lib.hid hr
  have hw0 := Below.refl w.heap.size w
  have HW0 := Lib.hid hw0
  clear hA hN hr hw0
  go_enter Try.func57, Try.ntmps57
  go_wp2_with fail
  go_loopw [6, 9, 11, 12, 13, 14, 15, 16, 17, 18, 19, 20, 21, 22, 23, 24, 25] (fun _ u9 _ _ _ _ _ _ _ _ _ _ _ _ _ _ _ wr => ∃ k : Nat, k ≤ ns.length ∧ u9 = .int .i64 k ∧ Hid ((ns.take k).all (openP S) = true) ∧ Hid (Below w.heap.size w wr)) (fun _ u _ _ _ _ _ _ _ _ _ _ _ _ _ _ _ _ => ns.length - (intOf u).toNat)
  case atStart => exact ⟨0, by omega, rfl, Lib.hid (by simp), HW0⟩
  case round =>
    obtain ⟨k, hk, rfl, hall, hb⟩ := hrel
    have HALL := Lib.hid hall.out
    have HB := Lib.hid hb.out
    clear hall hb HW0
    by_cases hlt : k < ns.length
    · obtain ⟨n, hn⟩ : ∃ n, ns[k]? = some n := ⟨_, List.getElem?_eq_getElem hlt⟩
      obtain ⟨g, o, rfl, hg, hat⟩ := (HN.out.below HB.out).2.2.2 (by omega)
      have i0 := IK.one hat hn
      have hE : (ns.take (k + 1)).all (openP S) = openP S n := by
        rw [List.take_add_one, hn, List.all_append, HALL.out]; simp
      have hki : (k : Int) < (ns.length : Int) := by omega
      have HN' := Lib.hid hn
      clear hat hn
      by_cases h0 : 0 ≤ n ∧ n < (S.length : Int)
      · have HH := Lib.hid (shas_any n S.length a c true (by simp [h0]) wr)
        obtain ⟨m, rfl⟩ : ∃ m : Nat, n = m := ⟨n.toNat, by omega⟩
        have hm : m < S.length := by omega
        obtain ⟨x, hx⟩ : ∃ x, S[m]? = some x := ⟨_, List.getElem?_eq_getElem hm⟩
        obtain ⟨q, p, rfl, hq, hat2⟩ := (HA.out.below HB.out).2.2.2 (by omega)
        obtain ⟨⟨z0, z1, z2, z3, z4, z5, z6⟩, z7, z8, z9, z10, z11, z12, z13⟩ := SK.fourteen hat2 hx
        have hO : openP S m = isOpen x := by
          unfold openP
          rw [if_neg (by omega), show ((m : Int)).toNat = m by omega, hx]
        have HOp := Lib.hid (sopen_any x (isOpen x) rfl wr)
        have HE := Lib.hid (hE.trans hO)
        have hmi : (m : Int) < (S.length : Int) := h0.2
        have hm0 : ¬ (m : Int) < 0 := by omega
        clear hE hO hat2 hx h0
        go_wp2_with fail
        with_reducible refine HH.out.mono ?_
        rintro e w1 ⟨rfl, rfl⟩
        clear HH
        go_wp2_with fail
        with_reducible refine HOp.out.mono ?_
        rintro e w2 ⟨rfl, hb2⟩
        have HB2 := Lib.hid (HB.out.trans (hb2.mono HB.out.size))
        clear hb2 HOp HB z0 z1 z2 z3 z4 z5 z6 z7 z8 z9 z10 z11 z12 z13 i0
        cases hio : isOpen x with
        | true =>
          go_wp2_with fail
          go_roundw
          case rel => exact ⟨k + 1, by omega, by go_num, Lib.hid (HE.out.trans hio), HB2⟩
          case measure => simp [intOf]; omega
        | false =>
          have HF : r = false := by
            rw [HR.out, List.all_eq_false]
            refine ⟨m, List.mem_of_getElem? HN'.out, ?_⟩
            have := HE.out.trans hio
            rw [List.take_add_one, HN'.out, List.all_append, HALL.out] at this
            simpa using this
          go_wp2_with fail
          go_ret
          exact ⟨by rw [HF]; rfl, HB2.out⟩
      · have HH := Lib.hid (shas_any n S.length a c false (by
          by_cases h : 0 ≤ n
          · simp [h]; omega
          · simp [h]) wr)
        have HF : r = false := by
          rw [HR.out, List.all_eq_false]
          refine ⟨n, List.mem_of_getElem? HN'.out, ?_⟩
          unfold openP
          by_cases h : n < 0
          · simp [h]
          · rw [if_neg h, List.getElem?_eq_none (by omega)]; simp
        clear hE h0
        go_wp2_with fail
        with_reducible refine HH.out.mono ?_
        rintro e w1 ⟨rfl, rfl⟩
        clear HH
        go_wp2_with fail
        go_ret
        exact ⟨by rw [HF]; rfl, HB.out⟩
    · obtain rfl : k = ns.length := by omega
      have HF : r = true := by rw [HR.out, ← List.take_length (l := ns)]; exact HALL.out
      go_wp2_with fail
      go_ret
      exact ⟨by rw [HF]; rfl, HB.out⟩

set_option maxHeartbeats 4000000 in
set_option maxRecDepth 1000000 in
theorem sdrop_none : SDropNone := by
  intro S n a c w hS hn hA
  have HI := Lib.hid (sisopen_spec S [n] false a (some ⟨w.heap.size, 0, none⟩) c 1 (w.alloc (.cells #[.int .i64 n] 3)) hS (by simp) (by simp [hn]) (hA.below (below1 w _)) (rowC_at (K := IK) w 3 [n] _ w.heap.size 1 rfl rfl rfl (by simp)))
  have HB0 := Lib.hid (below1 w (.cells #[.int .i64 n] 3))
  simp only [List.length_cons, List.length_nil, Nat.zero_add] at HI
  clear hA hn hS
  go_enter Try.func25, Try.ntmps25
  go_wp2_with fail
  with_reducible refine HI.out.mono ?_
  rintro e w1 ⟨rfl, hb⟩
  have HB := Lib.hid (HB0.out.trans (hb.mono HB0.out.size))
  clear hb HI HB0
  go_wp2_with fail
  go_ret2
  exact ⟨rfl, HB.out⟩

set_option maxHeartbeats 4000000 in
set_option maxRecDepth 1000000 in
theorem sdrop_spec : SDropSpec := by
  intro S n x a c w L hS hx h0 hL hA
  have hlt := (List.getElem?_eq_some_iff.1 hx).1
  have hop : openP S n = true := by
    unfold openP
    rw [if_neg (by omega), show ((n : Int)).toNat = n by omega, hx]
    simp [isOpen, h0]
  have HI := Lib.hid (sisopen_spec S [(n : Int)] true a (some ⟨w.heap.size, 0, none⟩) c 1 (w.alloc (.cells #[.int .i64 n] 3)) hS (by simp) (by simp [hop]) (hA.below (below1 w _)) (rowC_at (K := IK) w 3 [(n : Int)] _ w.heap.size 1 rfl rfl rfl (by simp)))
  have HB0 := Lib.hid (below1 w (.cells #[.int .i64 n] 3))
  have HW := Lib.hid (fun W (hb : Below w.heap.size w W) => with_sock S [] S (by simp) (by simp; omega) a none c 0 W (hA.below hb) (row_none _))
  have HX := Lib.hid hx
  have HL := Lib.hid hL
  have HLn : L.length = S.length := by rw [hL]; simp
  have HLN := Lib.hid HLn
  have hni : (n : Int) < (S.length : Int) := by omega
  have hn0 : ¬ (n : Int) < 0 := by omega
  simp only [List.length_cons, List.length_nil, Nat.zero_add] at HI HW
  clear hA hL hS hx HLn hop h0
  go_enter Try.func25, Try.ntmps25
  go_wp2_with fail
  with_reducible refine HI.out.mono ?_
  rintro e w1 ⟨rfl, hb⟩
  have HB := Lib.hid (HB0.out.trans (hb.mono HB0.out.size))
  have HW1 := Lib.hid (HW.out w1 HB.out)
  clear hb HI HB0 HW
  go_wp2_with fail
  with_reducible refine HW1.out.mono ?_
  rintro e w2 ⟨a1, c1, rfl, hO, hb⟩
  obtain ⟨g, o, rfl, hg, hg2, hlo, hcell, hfz⟩ := (hO.loose.mono (b2 := w.heap.size) HB.out.size).poke (K := SK) (i := 13) (y := { x with dead := true }) (v := .bool true) HX.out (by decide) rfl
  have hc13 : w2.cell? ⟨g, o + n * 14 + 13, none⟩ = some (.bool x.dead) := hcell
  have hf13 : w2.frozen? ⟨g, o + n * 14 + 13, none⟩ = false := hfz
  have HLO := Lib.hid (show SK.Loose (w2.setCell ⟨g, o + n * 14 + 13, none⟩ (.bool true)) w.heap.size (some ⟨g, o, none⟩) c1 L by rw [HL.out]; exact hlo)
  have HB2 := Lib.hid ((HB.out.trans (hb.mono HB.out.size)).setCell (p := ⟨g, o + n * 14 + 13, none⟩) hg (.bool true))
  clear hO hb hlo hcell hfz HB HW1
  go_wp2_with fail
  go_ret2
  exact ⟨_, _, by rw [HLN.out]; rfl, HLO.out, HB2.out⟩
end Go.Proofs.Ytciohjgcndgiaaa
