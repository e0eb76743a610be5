/- PaceKeeps walked. -/
import Derived.Test.YtpncgcaepdkcnaaLawB
set_option linter.unusedSimpArgs false
set_option linter.unusedVariables false
namespace Go.Proofs.Ytpncgcaepdkcnaa
open R3 Go.RowKit Go.Proofs.Ytpncgcaepdkcnaa.Kind

theorem bad_cell {w : World} {g : Nat} {bs : List Bool} {t : TypeId} (h : w.heap[g]? = some (.cells ((bs.map Value.bool).toArray) t (0, 0))) {n : Nat} (hn : n < bs.length) : w.cell? ⟨g, n, none⟩ = some (.bool (bs.getD n false)) ∧ w.frozen? ⟨g, n, none⟩ = false := by
  constructor
  · simp [World.cell?, h, List.getD_eq_getElem?_getD, List.getElem?_eq_getElem hn]
  · simp [World.frozen?, h]
theorem bad_set {w : World} {g : Nat} {bs : List Bool} {t : TypeId} (h : w.heap[g]? = some (.cells ((bs.map Value.bool).toArray) t (0, 0))) (n : Nat) (v : Bool) : (w.setCell ⟨g, n, none⟩ (.bool v)).heap[g]? = some (.cells (((bs.set n v).map Value.bool).toArray) t (0, 0)) := by
  rw [set_at h n (.bool v)]
  simp [List.map_set]
theorem box_2 {w : World} {g : Nat} {x0 x1 : Value} {t : TypeId} (h : w.heap[g]? = some (.cells #[x0, x1] t (0, 0))) :
    (w.cell? ⟨g, 0, none⟩ = some x0 ∧ w.cell? ⟨g, 1, none⟩ = some x1) ∧ w.frozen? ⟨g, 0, none⟩ = false ∧ w.frozen? ⟨g, 1, none⟩ = false := by
  simp [World.cell?, World.frozen?, h]
def lastB (st : Nat) (bs : List Bool) : Bool := decide (0 < st) && bs.getD (st - 1) false
set_option maxHeartbeats 40000000 in
set_option maxRecDepth 1000000 in
theorem pacekeeps_walk (HMa : MaySpec) (HWh : WhenSpec) (HPl : PlanSpec) (HKe : KeepsSpec) (HSt : StartsSpec) (HWk : WakesSpec) (t g : Int) (l : List Ac) (s : Option Addr) (c : Nat) (w : World) (hR : CK.RowC w s c l) :
    Calls Try.prog 4 #[.int .i64 t, .int .i64 g, .slice s l.length c] w fun e w' => e = .returned (.bool true) ∧ Below w.heap.size w w' := by
  have HMa := Lib.hid (fun s n f since g now r w h => HMa s n f since g now r w h)
  have HWh := Lib.hid (fun s n since g t r w h h1 => HWh s n since g t r w h h1)
  have HPl := Lib.hid (fun n t g L w h => HPl n t g L w h)
  have HKe := Lib.hid (fun g l s c r w h h1 h2 => HKe g l s c r w h h1 h2)
  have HSt := Lib.hid (fun l s c L w h h1 h2 => HSt l s c L w h h1 h2)
  have HWk := Lib.hid (fun w => HWk w)
  have HB := Lib.hid (Below.refl w.heap.size w)
  have Hl := Lib.hid hR
  have hml : l.length ≤ 9223372036854775807 := by have h1 := hR.1; have h2 := hR.2.1; unfold maxLen at h2; omega
  clear hR
  go_enter Try.func4, Try.ntmps4
  by_cases hl1 : (60 : Int) < (l.length : Int)
  · have hd := decide_eq_true hl1
    go_wp2_with fail
    with_reducible refine (HWk.out _).mono ?_
    rintro e wf ⟨rfl, hb⟩
    have HBf := Lib.hid (HB.out.trans (hb.mono HB.out.size))
    clear hb
    go_wp2_with fail
    go_ret
    exact ⟨rfl, HBf.out⟩
  have hl1d := decide_eq_false hl1
  by_cases ht1 : t < 0
  · have hd := decide_eq_true ht1
    go_wp2_with fail
    with_reducible refine (HWk.out _).mono ?_
    rintro e wf ⟨rfl, hb⟩
    have HBf := Lib.hid (HB.out.trans (hb.mono HB.out.size))
    clear hb
    go_wp2_with fail
    go_ret
    exact ⟨rfl, HBf.out⟩
  have ht1d := decide_eq_false ht1
  by_cases ht2 : 8 < t
  · have hd := decide_eq_true ht2
    go_wp2_with fail
    with_reducible refine (HWk.out _).mono ?_
    rintro e wf ⟨rfl, hb⟩
    have HBf := Lib.hid (HB.out.trans (hb.mono HB.out.size))
    clear hb
    go_wp2_with fail
    go_ret
    exact ⟨rfl, HBf.out⟩
  have ht2d := decide_eq_false ht2
  by_cases hg1 : g < 0
  · have hd := decide_eq_true hg1
    go_wp2_with fail
    with_reducible refine (HWk.out _).mono ?_
    rintro e wf ⟨rfl, hb⟩
    have HBf := Lib.hid (HB.out.trans (hb.mono HB.out.size))
    clear hb
    go_wp2_with fail
    go_ret
    exact ⟨rfl, HBf.out⟩
  have hg1d := decide_eq_false hg1
  by_cases hg2 : 100 < g
  · have hd := decide_eq_true hg2
    go_wp2_with fail
    with_reducible refine (HWk.out _).mono ?_
    rintro e wf ⟨rfl, hb⟩
    have HBf := Lib.hid (HB.out.trans (hb.mono HB.out.size))
    clear hb
    go_wp2_with fail
    go_ret
    exact ⟨rfl, HBf.out⟩
  have hg2d := decide_eq_false hg2
  have hll : l.length ≤ 60 := by omega
  go_wp2_with fail
  obtain ⟨w1, hw1⟩ : ∃ X, X = w.alloc (.cells #[.bool false, .bool false, .bool false, .bool false, .bool false, .bool false, .bool false, .bool false] 37) := ⟨_, rfl⟩
  have hb : Below w.heap.size w w1 := by rw [hw1]; exact below1 _ _
  have hL : w1.heap[w.heap.size]? = some (.cells ((([false, false, false, false, false, false, false, false] : List Bool).map Value.bool).toArray) 37 (0, 0)) := by rw [hw1]; exact laid1 _ _
  have hs1 : w1.heap.size = w.heap.size + 1 := by rw [hw1]; simp
  rw [← hw1]
  clear hw1 hl1 hl1d ht1d ht2d hg1d hg2d
  have HL0 := Lib.hid hL
  clear hL
  replace HB := Lib.hid (HB.out.trans (hb.mono HB.out.size))
  clear hb
  go_loopw [6, 7, 9, 10, 11, 12] (fun r o nw sn sst i wr => ∃ (e st m c2 : Nat) (now since : Int) (a2 : Option Addr) (h : List Pc) (bs : List Bool), r = .bool false ∧ o = .slice a2 m c2 ∧ nw = .int .i64 now ∧ sn = .int .i64 since ∧ sst = .int .i64 st ∧ i = .int .i64 e ∧ e ≤ l.length ∧ m ≤ e ∧ 0 ≤ now ∧ now ≤ 100 * e ∧ Hid (m = h.length) ∧ Hid (PK.Own wr w1.heap.size (.slice a2 m c2) h) ∧ Hid (Sim g h bs now since st) ∧ Hid (wr.heap[w.heap.size]? = some (.cells ((bs.map Value.bool).toArray) 37 (0, 0))) ∧ Hid (w1.heap.size ≤ wr.heap.size) ∧ Hid (Below w.heap.size w wr)) (fun _ _ _ _ _ i _ => l.length - (intOf i).toNat)
  case atStart => exact ⟨0, 0, 0, 0, 0, 0, none, [], _, rfl, rfl, rfl, rfl, rfl, rfl, by omega, by omega, by omega, by omega, Lib.hid rfl, Lib.hid (own_nil _ _), Lib.hid (sim_zero g), HL0, Lib.hid (Nat.le_refl _), HB⟩
  case round =>
    obtain ⟨e, st, m, c2, now, since, a2, hs, bs, rfl, rfl, rfl, rfl, rfl, rfl, hk, hme, hn0, hn1, hm, hO, hS, hL, hz, hB⟩ := hrel
    have HM := Lib.hid hm.out
    have HO := Lib.hid hO.out
    have HS := Lib.hid hS.out
    have HL := Lib.hid hL.out
    have HZ := Lib.hid hz.out
    have HBr := Lib.hid hB.out
    clear hm hO hS hL hz hB
    by_cases hlt : e < l.length
    · obtain ⟨b, o, rfl, hbl, hat⟩ := Hl.out.2.2.2 (by omega)
      obtain ⟨x, hx⟩ : ∃ x, l[e]? = some x := ⟨_, List.getElem?_eq_getElem hlt⟩
      obtain ⟨c0, c1⟩ := CK.cells (hat.below HBr.out hbl) hx
      have hel : (e : Int) < (l.length : Int) := by omega
      clear hat hx
      have hst8 : st ≤ 8 := HS.out.st8
      have hbs8 : bs.length = 8 := HS.out.bad8
      replace hbs8 := Lib.hid hbs8
      obtain ⟨wb, hwb⟩ : ∃ X, X = wr.alloc (.cells #[.int .i64 x.n, .int .i64 x.later] 39) := ⟨_, rfl⟩
      have hbb : Below wr.heap.size wr wb := by rw [hwb]; exact below1 _ _
      have hlb : wb.heap[wr.heap.size]? = some (.cells #[.int .i64 x.n, .int .i64 x.later] 39) := by rw [hwb]; exact laid1 _ _
      obtain ⟨gx, hgx⟩ : ∃ n, n = wr.heap.size := ⟨_, rfl⟩
      have HZb := Lib.hid (Nat.le_trans HZ.out hbb.size)
      have HOb := Lib.hid (HO.out.below hbb (Nat.le_refl _))
      have HLb := Lib.hid ((hbb.block _ (lt_of_block HL.out)).trans HL.out)
      have HBb := Lib.hid (HBr.out.trans (hbb.mono HBr.out.size))
      have hgl : w.heap.size < gx := by have := lt_of_block HL.out; omega
      go_upto_region 10 with fail
      rw [← hwb, ← hgx]
      rw [← hgx] at hlb
      have HXb := Lib.hid hlb
      clear hwb hbb hlb hgx c0 c1 HO HL HZ HBr
      obtain ⟨⟨c0, c1⟩, _⟩ := box_2 HXb.out
      by_cases hx1 : x.later < 0
      · have hxd := decide_eq_true hx1
        go_wp2_with fail
        (with_reducible refine (HWk.out _).mono ?_)
        rintro e wf ⟨rfl, hb⟩
        have HBf := Lib.hid (HBb.out.trans (hb.mono HBb.out.size))
        clear hb c0 c1
        go_wp2_with fail
        go_ret
        exact ⟨rfl, HBf.out⟩
      have hx1d := decide_eq_false hx1
      by_cases hx2 : 100 < x.later
      · have hxd := decide_eq_true hx2
        go_wp2_with fail
        (with_reducible refine (HWk.out _).mono ?_)
        rintro e wf ⟨rfl, hb⟩
        have HBf := Lib.hid (HBb.out.trans (hb.mono HBb.out.size))
        clear hb c0 c1
        go_wp2_with fail
        go_ret
        exact ⟨rfl, HBf.out⟩
      have hx2d := decide_eq_false hx2
      have hwn : IntKind.i64.wrap (now + x.later) = now + x.later := by rw [IntKind.wrap_i64]; omega
      go_upto_region 13 with fail
      clear hx1d hx2d hwn
      obtain ⟨nw, hnw⟩ : ∃ z : Int, z = now + x.later := ⟨_, rfl⟩
      rw [← hnw]
      have hnw0 : 0 ≤ nw := by omega
      have hnw1 : nw ≤ 100 * ((e : Int) + 1) := by omega
      have HS1 := Lib.hid (HS.out.later (n := nw) (by omega))
      clear hnw hx1 hx2 HS hn0 hn1
      obtain ⟨la, hla⟩ : ∃ v, v = lastB st bs := ⟨_, rfl⟩
      go_cut [14] from 59 to 66 (fun s14 wx => s14 = .bool la ∧ wx = wb)
      case first =>
        by_cases hz0 : st = 0
        · have hd : decide ((0 : Int) < (st : Int)) = false := decide_eq_false (by omega)
          have hd2 : ¬ (0 : Int) < (st : Int) := by omega
          have hd3 : ¬ 0 < st := by omega
          have hlf : la = false := by rw [hla]; unfold lastB; rw [decide_eq_false hd3]; rfl
          replace hlf := Lib.hid hlf
          clear hla hz0
          go_wp2_with fail
          go_meet
          exact ⟨by rw [hlf.out], rfl⟩
        · obtain ⟨K, hK⟩ : ∃ K : Nat, st = K + 1 := ⟨st - 1, by omega⟩
          have hd : decide ((0 : Int) < (st : Int)) = true := decide_eq_true (by omega)
          have hd2 : (0 : Int) < (st : Int) := by omega
          have hd3 : 0 < st := by omega
          have hlf : la = bs.getD K false := by rw [hla]; unfold lastB; rw [decide_eq_true hd3, hK]; rfl
          replace hlf := Lib.hid hlf
          have hw : IntKind.i64.wrap ((st : Int) - 1) = (K : Int) := by rw [IntKind.wrap_i64]; omega
          have hK8 : (K : Int) < 8 := by omega
          have hK0 : (0 : Int) ≤ (K : Int) := by omega
          obtain ⟨d0, d1⟩ := bad_cell HLb.out (n := K) (by rw [hbs8.out]; omega)
          rw [← hlf.out] at d0
          clear hla hz0 hK
          go_wp2_with fail
          go_meet
          exact ⟨rfl, rfl⟩
      case rest =>
        obtain ⟨rfl, hwq⟩ := hcut
        have hwq2 := hwq.symm
        subst hwq2
        clear hwq
        obtain ⟨M, hM⟩ : ∃ r, r = mayP (st : Int) t la since g nw := ⟨_, rfl⟩
        have HMM := Lib.hid hM
        have HLA := Lib.hid hla
        clear hM hla c0 c1
        have HX := Lib.hid (HMa.out (st : Int) t la since g nw M wb HMM.out)
        go_wp2_with fail
        with_reducible refine HX.out.mono ?_
        rintro e w2 ⟨rfl, hb⟩
        clear HX
        replace HZb := Lib.hid (Nat.le_trans HZb.out hb.size)
        replace HOb := Lib.hid (HOb.out.below hb (Nat.le_refl _))
        replace HLb := Lib.hid ((hb.block _ (lt_of_block HLb.out)).trans HLb.out)
        replace HXb := Lib.hid ((hb.block _ (lt_of_block HXb.out)).trans HXb.out)
        replace HBb := Lib.hid (HBb.out.trans (hb.mono HBb.out.size))
        clear hb
        cases M with
        | false =>
          by_cases hxn : 0 ≤ x.n
          · obtain ⟨N, hN⟩ : ∃ N : Nat, x.n = (N : Int) := ⟨x.n.toNat, by omega⟩
            rw [hN] at HXb
            obtain ⟨⟨c0, c1⟩, _⟩ := box_2 HXb.out
            have hdn : decide ((0 : Int) ≤ (N : Int)) = true := decide_eq_true (by omega)
            have hdn2 : (0 : Int) ≤ (N : Int) := by omega
            clear hxn hN
            by_cases hns : N < st
            · have hdm : decide ((N : Int) < (st : Int)) = true := decide_eq_true (by omega)
              have hdm2 : (N : Int) < (st : Int) := by omega
              have hN8 : (N : Int) < 8 := by omega
              obtain ⟨d0, d1⟩ := bad_cell HLb.out (n := N) (by rw [hbs8.out]; omega)
              cases hbN : bs.getD N false with
              | false =>
                rw [hbN] at d0
                have HSn := Lib.hid (HS1.out.fail hns hbN)
                clear hbN
                go_upto_region 20 with fail
                obtain ⟨ws, hws⟩ : ∃ X, X = w2.setCell ⟨w.heap.size, N, none⟩ (.bool true) := ⟨_, rfl⟩
                have HZs := Lib.hid (show w1.heap.size ≤ ws.heap.size by rw [hws]; simpa using HZb.out)
                have HOs := Lib.hid (show PK.Own ws w1.heap.size (.slice a2 m c2) hs by rw [hws]; exact HOb.out.set (by show w.heap.size < w1.heap.size; omega) _)
                have HLs := Lib.hid (show ws.heap[w.heap.size]? = some (.cells (((bs.set N true).map Value.bool).toArray) 37 (0, 0)) by rw [hws]; exact bad_set HLb.out N true)
                have HXs := Lib.hid (show ws.heap[gx]? = some (.cells #[.int .i64 (N : Int), .int .i64 x.later] 39) by rw [hws]; exact (Below.heap_setCell _ _ _ _ (by show gx ≠ w.heap.size; omega)).trans HXb.out)
                have HBs := Lib.hid (show Below w.heap.size w ws by rw [hws]; exact HBb.out.setCell (Nat.le_refl _) _)
                rw [← hws]
                clear hws c0 c1 d0 d1 HZb HOb HLb HXb HBb
                obtain ⟨⟨c0, c1⟩, _⟩ := box_2 HXs.out
                have hsz := HZs.out
                have HLa := Lib.hid (((below1 ws (.cells #[.bool true, .int .i64 (N : Int), .int .i64 nw] 26)).block _ (lt_of_block HLs.out)).trans HLs.out)
                have hml9 : hs.length ≤ 60 := by rw [← HM.out]; omega
                go_wp2_with (at_builtin; refine PK.wpList_append_owned rfl _ _ rfl w1.heap.size (.slice a2 m c2) rfl hs (HOs.out.below (below1 ws _) (Nat.le_refl _)) (some ⟨ws.heap.size, 0, none⟩) 1 1 rfl [(⟨true, (N : Int), nw⟩ : Pc)] rfl (rowC_at (K := PK) ws 26 [(⟨true, (N : Int), nw⟩ : Pc)] _ _ 1 rfl rfl rfl (by simp)) (by simp; omega) (by simp; omega) (hs ++ [(⟨true, (N : Int), nw⟩ : Pc)]) rfl ?_; intro a3 c3 w9 hO2 hG2; have HO9 := Lib.hid hO2; have HZ9 := Lib.hid (Nat.le_trans (Nat.le_trans hsz (below1 ws (.cells #[.bool true, .int .i64 (N : Int), .int .i64 nw] 26)).size) hG2.size); have HL9 := Lib.hid ((hG2.block w.heap.size (lt_of_block HLa.out) (fun e => by have := (HOs.out.lt _ e.symm).1; omega)).trans HLa.out); have HB9 := Lib.hid ((HBs.out.trans ((below1 ws (.cells #[.bool true, .int .i64 (N : Int), .int .i64 nw] 26)).mono HBs.out.size)).grown hG2 (by simp; omega) (fun j hj => by have := (HOs.out.lt j hj).1; omega)); clear hO2 hG2; rw [show (hs ++ [(⟨true, (N : Int), nw⟩ : Pc)]).length = m + 1 by rw [List.length_append, ← HM.out]; rfl] at HO9 ⊢)
                go_roundw
                case rel => exact ⟨e + 1, st, m + 1, c3, nw, since, a3, hs ++ [⟨true, (N : Int), nw⟩], bs.set N true, rfl, rfl, rfl, rfl, rfl, by go_num, by omega, by omega, hnw0, by omega, Lib.hid (by rw [List.length_append, ← HM.out]; rfl), HO9, HSn, HL9, HZ9, HB9⟩
                case measure => simp [intOf]; omega
              | true =>
                rw [hbN] at d0
                clear hbN
                go_wp2_with fail
                go_roundw
                case rel => exact ⟨e + 1, st, m, c2, nw, since, a2, hs, bs, rfl, rfl, rfl, rfl, rfl, by go_num, by omega, by omega, hnw0, by omega, HM, HOb, HS1, HLb, HZb, HBb⟩
                case measure => simp [intOf]; omega
            · have hdm : decide ((N : Int) < (st : Int)) = false := decide_eq_false (by omega)
              have hdm2 : ¬ (N : Int) < (st : Int) := by omega
              go_wp2_with fail
              go_roundw
              case rel => exact ⟨e + 1, st, m, c2, nw, since, a2, hs, bs, rfl, rfl, rfl, rfl, rfl, by go_num, by omega, by omega, hnw0, by omega, HM, HOb, HS1, HLb, HZb, HBb⟩
              case measure => simp [intOf]; omega
          · have hdn : decide ((0 : Int) ≤ x.n) = false := decide_eq_false hxn
            obtain ⟨⟨c0, c1⟩, _⟩ := box_2 HXb.out
            go_wp2_with fail
            go_roundw
            case rel => exact ⟨e + 1, st, m, c2, nw, since, a2, hs, bs, rfl, rfl, rfl, rfl, rfl, by go_num, by omega, by omega, hnw0, by omega, HM, HOb, HS1, HLb, HZb, HBb⟩
            case measure => simp [intOf]; omega
        | true =>
          obtain ⟨hmt, hmn⟩ := may_next HMM.out.symm
          have hdt : decide (t ≤ (st : Int)) = false := decide_eq_false (by omega)
          have hdt2 : ¬ t ≤ (st : Int) := by omega
          have hwn : IntKind.i64.wrap (nw + 1) = nw + 1 := by rw [IntKind.wrap_i64]; omega
          have HX := Lib.hid (HMa.out (st : Int) t la since g (nw + 1) true w2 hmn.symm)
          clear hmn
          go_wp2_with fail
          with_reducible refine HX.out.mono ?_
          rintro e w3 ⟨rfl, hb⟩
          clear HX hwn
          replace HZb := Lib.hid (Nat.le_trans HZb.out hb.size)
          replace HOb := Lib.hid (HOb.out.below hb (Nat.le_refl _))
          replace HLb := Lib.hid ((hb.block _ (lt_of_block HLb.out)).trans HLb.out)
          replace HXb := Lib.hid ((hb.block _ (lt_of_block HXb.out)).trans HXb.out)
          replace HBb := Lib.hid (HBb.out.trans (hb.mono HBb.out.size))
          clear hb
          by_cases hxn : 0 ≤ x.n
          · obtain ⟨N, hN⟩ : ∃ N : Nat, x.n = (N : Int) := ⟨x.n.toNat, by omega⟩
            rw [hN] at HXb
            obtain ⟨⟨c0, c1⟩, _⟩ := box_2 HXb.out
            have hdn : decide ((0 : Int) ≤ (N : Int)) = true := decide_eq_true (by omega)
            have hdn2 : (0 : Int) ≤ (N : Int) := by omega
            clear hxn hN
            by_cases hns : N < st
            · have hdm : decide ((N : Int) < (st : Int)) = true := decide_eq_true (by omega)
              have hdm2 : (N : Int) < (st : Int) := by omega
              have hN8 : (N : Int) < 8 := by omega
              obtain ⟨d0, d1⟩ := bad_cell HLb.out (n := N) (by rw [hbs8.out]; omega)
              cases hbN : bs.getD N false with
              | false =>
                rw [hbN] at d0
                have HSn := Lib.hid (HS1.out.fail hns hbN)
                clear hbN
                go_upto_region 20 with fail
                obtain ⟨ws, hws⟩ : ∃ X, X = w3.setCell ⟨w.heap.size, N, none⟩ (.bool true) := ⟨_, rfl⟩
                have HZs := Lib.hid (show w1.heap.size ≤ ws.heap.size by rw [hws]; simpa using HZb.out)
                have HOs := Lib.hid (show PK.Own ws w1.heap.size (.slice a2 m c2) hs by rw [hws]; exact HOb.out.set (by show w.heap.size < w1.heap.size; omega) _)
                have HLs := Lib.hid (show ws.heap[w.heap.size]? = some (.cells (((bs.set N true).map Value.bool).toArray) 37 (0, 0)) by rw [hws]; exact bad_set HLb.out N true)
                have HXs := Lib.hid (show ws.heap[gx]? = some (.cells #[.int .i64 (N : Int), .int .i64 x.later] 39) by rw [hws]; exact (Below.heap_setCell _ _ _ _ (by show gx ≠ w.heap.size; omega)).trans HXb.out)
                have HBs := Lib.hid (show Below w.heap.size w ws by rw [hws]; exact HBb.out.setCell (Nat.le_refl _) _)
                rw [← hws]
                clear hws c0 c1 d0 d1 HZb HOb HLb HXb HBb
                obtain ⟨⟨c0, c1⟩, _⟩ := box_2 HXs.out
                have hsz := HZs.out
                have HLa := Lib.hid (((below1 ws (.cells #[.bool true, .int .i64 (N : Int), .int .i64 nw] 26)).block _ (lt_of_block HLs.out)).trans HLs.out)
                have hml9 : hs.length ≤ 60 := by rw [← HM.out]; omega
                go_wp2_with (at_builtin; refine PK.wpList_append_owned rfl _ _ rfl w1.heap.size (.slice a2 m c2) rfl hs (HOs.out.below (below1 ws _) (Nat.le_refl _)) (some ⟨ws.heap.size, 0, none⟩) 1 1 rfl [(⟨true, (N : Int), nw⟩ : Pc)] rfl (rowC_at (K := PK) ws 26 [(⟨true, (N : Int), nw⟩ : Pc)] _ _ 1 rfl rfl rfl (by simp)) (by simp; omega) (by simp; omega) (hs ++ [(⟨true, (N : Int), nw⟩ : Pc)]) rfl ?_; intro a3 c3 w9 hO2 hG2; have HO9 := Lib.hid hO2; have HZ9 := Lib.hid (Nat.le_trans (Nat.le_trans hsz (below1 ws (.cells #[.bool true, .int .i64 (N : Int), .int .i64 nw] 26)).size) hG2.size); have HL9 := Lib.hid ((hG2.block w.heap.size (lt_of_block HLa.out) (fun e => by have := (HOs.out.lt _ e.symm).1; omega)).trans HLa.out); have HB9 := Lib.hid ((HBs.out.trans ((below1 ws (.cells #[.bool true, .int .i64 (N : Int), .int .i64 nw] 26)).mono HBs.out.size)).grown hG2 (by simp; omega) (fun j hj => by have := (HOs.out.lt j hj).1; omega)); clear hO2 hG2; rw [show (hs ++ [(⟨true, (N : Int), nw⟩ : Pc)]).length = m + 1 by rw [List.length_append, ← HM.out]; rfl] at HO9 ⊢)
                go_roundw
                case rel => exact ⟨e + 1, st, m + 1, c3, nw, since, a3, hs ++ [⟨true, (N : Int), nw⟩], bs.set N true, rfl, rfl, rfl, rfl, rfl, by go_num, by omega, by omega, hnw0, by omega, Lib.hid (by rw [List.length_append, ← HM.out]; rfl), HO9, HSn, HL9, HZ9, HB9⟩
                case measure => simp [intOf]; omega
              | true =>
                rw [hbN] at d0
                clear hbN
                go_wp2_with fail
                go_roundw
                case rel => exact ⟨e + 1, st, m, c2, nw, since, a2, hs, bs, rfl, rfl, rfl, rfl, rfl, by go_num, by omega, by omega, hnw0, by omega, HM, HOb, HS1, HLb, HZb, HBb⟩
                case measure => simp [intOf]; omega
            · have hdm : decide ((N : Int) < (st : Int)) = false := decide_eq_false (by omega)
              have hdm2 : ¬ (N : Int) < (st : Int) := by omega
              go_wp2_with fail
              go_roundw
              case rel => exact ⟨e + 1, st, m, c2, nw, since, a2, hs, bs, rfl, rfl, rfl, rfl, rfl, by go_num, by omega, by omega, hnw0, by omega, HM, HOb, HS1, HLb, HZb, HBb⟩
              case measure => simp [intOf]; omega
          · have hdn : decide ((0 : Int) ≤ x.n) = false := decide_eq_false hxn
            obtain ⟨⟨c0, c1⟩, _⟩ := box_2 HXb.out
            have HSn := Lib.hid (HS1.out.start (total := t) (by omega) (by rw [HLA.out] at HMM; exact HMM.out.symm))
            have hwst : IntKind.i64.wrap ((st : Int) + 1) = (st : Int) + 1 := by rw [IntKind.wrap_i64]; omega
            have hsz := HZb.out
            have HLa := Lib.hid (((below1 w3 (.cells #[.bool false, .int .i64 (st : Int), .int .i64 nw] 26)).block _ (lt_of_block HLb.out)).trans HLb.out)
            have hml9 : hs.length ≤ 60 := by rw [← HM.out]; omega
            go_wp2_with (at_builtin; refine PK.wpList_append_owned rfl _ _ rfl w1.heap.size (.slice a2 m c2) rfl hs (HOb.out.below (below1 w3 _) (Nat.le_refl _)) (some ⟨w3.heap.size, 0, none⟩) 1 1 rfl [(⟨false, (st : Int), nw⟩ : Pc)] rfl (rowC_at (K := PK) w3 26 [(⟨false, (st : Int), nw⟩ : Pc)] _ _ 1 rfl rfl rfl (by simp)) (by simp; omega) (by simp; omega) (hs ++ [(⟨false, (st : Int), nw⟩ : Pc)]) rfl ?_; intro a3 c3 w9 hO2 hG2; have HO9 := Lib.hid hO2; have HZ9 := Lib.hid (Nat.le_trans (Nat.le_trans hsz (below1 w3 (.cells #[.bool false, .int .i64 (st : Int), .int .i64 nw] 26)).size) hG2.size); have HL9 := Lib.hid ((hG2.block w.heap.size (lt_of_block HLa.out) (fun e => by have := (HOb.out.lt _ e.symm).1; omega)).trans HLa.out); have HB9 := Lib.hid ((HBb.out.trans ((below1 w3 (.cells #[.bool false, .int .i64 (st : Int), .int .i64 nw] 26)).mono HBb.out.size)).grown hG2 (by simp; omega) (fun j hj => by have := (HOb.out.lt j hj).1; omega)); clear hO2 hG2; rw [show (hs ++ [(⟨false, (st : Int), nw⟩ : Pc)]).length = m + 1 by rw [List.length_append, ← HM.out]; rfl] at HO9 ⊢)
            go_roundw
            case rel => exact ⟨e + 1, st + 1, m + 1, c3, nw, nw, a3, hs ++ [⟨false, (st : Int), nw⟩], bs, rfl, rfl, rfl, rfl, by go_num, by go_num, by omega, by omega, hnw0, by omega, Lib.hid (by rw [List.length_append, ← HM.out]; rfl), HO9, HSn, HL9, HZ9, HB9⟩
            case measure => simp [intOf]; omega
    · obtain rfl : e = l.length := by omega
      have HKp := Lib.hid HS.out.keeps.symm
      have hsl := HS.out.starts
      replace hsl := Lib.hid hsl
      have hm60 : m ≤ 60 := by omega
      obtain ⟨A, hA⟩ : ∃ A, A = startsL hs := ⟨_, rfl⟩
      have hAl : A.length = st := by rw [hA]; exact hsl.out
      have HA := Lib.hid hA
      have hml9 : hs.length ≤ 500 := by rw [← HM.out]; omega
      have HRp := Lib.hid HO.out.row
      have HX := Lib.hid (HKe.out g hs a2 c2 true wr HKp.out hml9 HRp.out)
      rw [← HM.out] at HX
      clear hA HO HL HZ
      go_wp2_with fail
      with_reducible refine HX.out.mono ?_
      rintro e wk ⟨rfl, hb⟩
      clear HX
      replace HRp := Lib.hid (HRp.out.below hb)
      replace HBr := Lib.hid (HBr.out.trans (hb.mono HBr.out.size))
      clear hb
      have HX := Lib.hid (HSt.out hs a2 c2 A wk HA.out hml9 HRp.out)
      rw [← HM.out] at HX
      go_wp2_with fail
      with_reducible refine HX.out.mono ?_
      rintro e wj ⟨aj, cj, rfl, _, hb⟩
      clear HX
      replace HBr := Lib.hid (HBr.out.trans (hb.mono HBr.out.size))
      clear hb
      go_wp2_with fail
      (with_reducible refine (HWk.out _).mono ?_)
      rintro e wf ⟨rfl, hb⟩
      have HBf := Lib.hid (HBr.out.trans (hb.mono HBr.out.size))
      clear hb
      go_wp2_with fail
      go_ret
      exact ⟨rfl, HBf.out⟩
end Go.Proofs.Ytpncgcaepdkcnaa
