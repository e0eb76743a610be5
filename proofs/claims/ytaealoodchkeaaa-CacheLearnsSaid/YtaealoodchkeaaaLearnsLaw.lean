/- CacheLearns walked. -/
import Derived.Test.YtaealoodchkeaaaLawB
import Derived.Deep.Cut
set_option linter.unusedSimpArgs false
set_option linter.unusedVariables false
namespace Go.Proofs.Ytaealoodchkeaaa
open R3 Go.RowKit Go.Proofs.Ytaealoodchkeaaa.Kind

theorem later_one (now n : Int) (h0 : 0 ≤ now) (h1 : now ≤ 1048577) (h2 : 1 ≤ n) (h3 : n ≤ 1000) : P.later now [n] = now + n := by
  show P.plus (P.clamp now) n = now + n
  unfold P.plus
  rw [P.clamp_id now h0 (by omega), P.clamp_id n (by omega) (by omega), P.clamp_id _ (by omega) (by omega)]
theorem fresh_yes {k : Kn} {n u : Int} (hu : k.until_ = u) (h0 : 0 ≤ n) (h1 : n < u) (h2 : u ≤ 1073741824) : freshB n k = true := by
  unfold freshB
  rw [hu, P.clamp_id n h0 (by omega), P.clamp_id u (by omega) h2]
  simp [h1]
theorem fresh_no {k : Kn} {n u : Int} (hu : k.until_ = u) (h0 : 0 ≤ u) (h1 : u ≤ n) (h2 : n ≤ 1073741824) : freshB n k = false := by
  unfold freshB
  rw [hu, P.clamp_id n (by omega) h2, P.clamp_id u h0 (by omega)]
  simp [h1]
theorem get_one (k : Kn) (n : Int) : getV [k] k.name n = (if freshB n k then k else Kn.no) ∧ getB [k] k.name n = freshB n k := by
  unfold getV getB getK findK
  simp only [List.find?_cons, is, decide_true]
  cases freshB n k <;> simp
theorem put_new (k : Kn) : putK [] [k] = [k] := by simp [putK, oneK]
theorem put_over {k y : Kn} (h : y.name = k.name) : putK [k] [y] = [y] := by simp [putK, oneK, is, h, List.findIdx?_cons]
set_option maxHeartbeats 40000000 in
set_option maxRecDepth 1000000 in
theorem cachelearns_walk (HEn : EntrySpec) (HGt : GetSpec) (HPt : PutSpec) (HFr : FreshSpec) (HUn : UntilSpec) (HMy : MaySpec) (HWk : WakesSpec) (ttl neg now : Int) (s row : ByteArray) (e : Int) (ag : ByteArray) (w : World) (hs : s.size ≤ 140737488355328) (hrw : row.size ≤ 140737488355328) (hag : ag.size ≤ 140737488355328) :
    Calls Try.prog 7 #[.int .i64 ttl, .int .i64 neg, .int .i64 now, .string s, .string row, .int .i64 e, .string ag] w fun e w' => e = .returned (.bool true) ∧ Below w.heap.size w w' := by
  have HEn := Lib.hid (fun x s row e now y w h => HEn x s row e now y w h)
  have HGt := Lib.hid (fun l s n a c x r w h h1 h2 h3 => HGt l s n a c x r w h h1 h2 h3)
  have HPt := Lib.hid (fun l more L a b c d w h h1 h2 h3 h4 => HPt l more L a b c d w h h1 h2 h3 h4)
  have HFr := Lib.hid (fun l L n a c w h h1 h2 => HFr l L n a c w h h1 h2)
  have HUn := Lib.hid (fun l a c i t w h h1 h2 h3 => HUn l a c i t w h h1 h2 h3)
  have HMy := Lib.hid (fun l a c r w h h1 h2 => HMy l a c r w h h1 h2)
  have HWk := Lib.hid (fun w => HWk w)
  have HB := Lib.hid (Below.refl w.heap.size w)
  have hws : IntKind.i64.wrap ((s.size : Int) + (row.size : Int)) = (s.size : Int) + (row.size : Int) := by rw [IntKind.wrap_i64]; omega
  have hwt : IntKind.i64.wrap ((s.size : Int) + (row.size : Int) + (ag.size : Int)) = (s.size : Int) + (row.size : Int) + (ag.size : Int) := by rw [IntKind.wrap_i64]; omega
  by_cases hq : (min ttl neg < 1 ∨ 1000 < max ttl neg) ∨ (now < 0 ∨ 1048576 < now) ∨ 2000 < (s.size : Int) + (row.size : Int) + (ag.size : Int)
  · go_enter Try.func7, Try.ntmps7
    go_upto_region 2 with fail
    all_goals first
      | (go_wp2_with fail; with_reducible refine (HWk.out _).mono ?_; rintro e wf ⟨rfl, hb⟩; have HBf := Lib.hid (HB.out.trans (hb.mono HB.out.size)); clear hb; go_wp2_with fail; go_ret; exact ⟨rfl, HBf.out⟩)
      | (exfalso; omega)
  · obtain ⟨⟨hq1, hq2⟩, ⟨hq3, hq4⟩, hq5⟩ : (1 ≤ min ttl neg ∧ max ttl neg ≤ 1000) ∧ (0 ≤ now ∧ now ≤ 1048576) ∧ (s.size : Int) + (row.size : Int) + (ag.size : Int) ≤ 2000 := by omega
    have ht1 : 1 ≤ ttl := by omega
    have ht2 : ttl ≤ 1000 := by omega
    have hn1 : 1 ≤ neg := by omega
    have hn2 : neg ≤ 1000 := by omega
    clear hq
    obtain ⟨lg, hlg⟩ : ∃ lg, lg = (if e = 0 then ttl else neg) := ⟨_, rfl⟩
    have hlg1 : 1 ≤ lg ∧ lg ≤ 1000 := by rw [hlg]; split <;> omega
    obtain ⟨y1, hy1⟩ : ∃ y, y = entryK ttl neg s row e now := ⟨_, rfl⟩
    have hyn : y1.name = s := by rw [hy1]; unfold entryK; split <;> rfl
    have hye : y1.e = e := by rw [hy1]; unfold entryK; split <;> simp_all
    have hyu : y1.until_ = now + lg := by rw [hy1, hlg]; unfold entryK; split <;> (dsimp only; exact later_one _ _ (by omega) (by omega) (by omega) (by omega))
    have hyr : y1.row = if e = 0 then row else .empty := by rw [hy1]; unfold entryK; split <;> rfl
    obtain ⟨y2, hy2⟩ : ∃ y, y = entryK ttl neg s ag 0 (now + 1) := ⟨_, rfl⟩
    have hzn : y2.name = s := by rw [hy2]; unfold entryK; rfl
    have hze : y2.e = 0 := by rw [hy2]; unfold entryK; rfl
    have hzr : y2.row = ag := by rw [hy2]; unfold entryK; rfl
    have hzu : y2.until_ = now + 1 + ttl := by rw [hy2]; unfold entryK; exact later_one _ _ (by omega) (by omega) (by omega) (by omega)
    have HG1 := Lib.hid (show y1 = getV [y1] s (now + lg - 1) ∧ true = getB [y1] s (now + lg - 1) by have h := get_one y1 (now + lg - 1); rw [fresh_yes hyu (by omega) (by omega) (by omega), hyn] at h; exact ⟨h.1.symm, h.2.symm⟩)
    have HG2 := Lib.hid (show Kn.no = getV [y1] s (now + lg) ∧ false = getB [y1] s (now + lg) by have h := get_one y1 (now + lg); rw [fresh_no hyu (by omega) (by omega) (by omega), hyn] at h; exact ⟨h.1.symm, h.2.symm⟩)
    have HG3 := Lib.hid (show y2 = getV [y2] s (now + ttl) ∧ true = getB [y2] s (now + ttl) by have h := get_one y2 (now + ttl); rw [fresh_yes hzu (by omega) (by omega) (by omega), hzn] at h; exact ⟨h.1.symm, h.2.symm⟩)
    have HP1 := Lib.hid (show [y1] = putK [] [y1] from (put_new y1).symm)
    have HP2 := Lib.hid (show [y2] = putK [y1] [y2] from (put_over (by rw [hzn, hyn])).symm)
    have hwa : IntKind.i64.wrap (now + lg) = now + lg := by rw [IntKind.wrap_i64]; omega
    have hwb : IntKind.i64.wrap (now + lg - 1) = now + lg - 1 := by rw [IntKind.wrap_i64]; omega
    have hwc : IntKind.i64.wrap (now + 1) = now + 1 := by rw [IntKind.wrap_i64]; omega
    have hwd : IntKind.i64.wrap (now + ttl) = now + ttl := by rw [IntKind.wrap_i64]; omega
    replace hy1 := Lib.hid hy1
    replace hyn := Lib.hid hyn
    replace hye := Lib.hid hye
    replace hyu := Lib.hid hyu
    replace hyr := Lib.hid hyr
    replace hy2 := Lib.hid hy2
    replace hzn := Lib.hid hzn
    replace hze := Lib.hid hze
    replace hzr := Lib.hid hzr
    replace hzu := Lib.hid hzu
    replace hlg := Lib.hid hlg
    have hmn : ¬ min ttl neg < 1 := by omega
    have hmx : ¬ 1000 < max ttl neg := by omega
    have hnn : ¬ now < 0 := by omega
    have hnm : ¬ 1048576 < now := by omega
    have hsz : ¬ 2000 < (s.size : Int) + (row.size : Int) + (ag.size : Int) := by omega
    go_enter Try.func7, Try.ntmps7
    go_upto_region 1 with fail
    go_cut [52] from 24 to 51 (fun u52 wx => u52 = .bool false ∧ wx = w)
    case first =>
      go_wp2_with fail
      all_goals (go_meet; refine ⟨?_, rfl⟩; simp; omega)
    case rest =>
      obtain ⟨rfl, hwq⟩ := hcut
      have hwq2 := hwq.symm
      subst hwq2
      clear hwq
      clear hmn hmx hnn hnm hsz hq1 hq2 hq3 hq4 hq5 ht1 ht2 hn1 hn2 hlg1 hws hwt
      go_upto_region 4 with fail
      obtain ⟨q1, hq1⟩ : ∃ X, X = w.alloc (.cells #[.int .i64 0, .int .i64 0, .int .i64 0, .int .i64 0, .int .i64 0, .int .i64 0, .int .i64 ttl, .int .i64 neg, .int .i64 0] 23) := ⟨_, rfl⟩
      have hb : Below w.heap.size w q1 := by rw [hq1]; exact below1 _ _
      have hL := laid1 w (.cells #[.int .i64 0, .int .i64 0, .int .i64 0, .int .i64 0, .int .i64 0, .int .i64 0, .int .i64 ttl, .int .i64 neg, .int .i64 0] 23)
      rw [← hq1] at hL ⊢
      clear hq1
      obtain ⟨bcf, hbcf⟩ : ∃ n, n = w.heap.size := ⟨_, rfl⟩
      rw [← hbcf] at hL ⊢
      have hscf : w.heap.size ≤ bcf := by rw [hbcf]; exact HB.out.size
      clear hbcf
      replace HB := Lib.hid (HB.out.trans (hb.mono HB.out.size))
      clear hb
      have Hcf := Lib.hid hL
      clear hL
      have HX := Lib.hid (HEn.out ⟨0, 0, 0, 0, 0, 0, ttl, neg, 0⟩ s row e now y1 q1 hy1.out)
      simp only [Kn.v, Cf.v] at HX
      obtain ⟨⟨c_cf_0, c_cf_1, c_cf_2, c_cf_3, c_cf_4, c_cf_5, c_cf_6, c_cf_7, c_cf_8⟩, f_cf_0, f_cf_1, f_cf_2, f_cf_3, f_cf_4, f_cf_5, f_cf_6, f_cf_7, f_cf_8⟩ := box_9 Hcf.out
      go_wp2_with fail
      with_reducible refine HX.out.mono ?_
      rintro e w2 ⟨rfl, hb⟩
      clear c_cf_0 c_cf_1 c_cf_2 c_cf_3 c_cf_4 c_cf_5 c_cf_6 c_cf_7 c_cf_8 f_cf_0 f_cf_1 f_cf_2 f_cf_3 f_cf_4 f_cf_5 f_cf_6 f_cf_7 f_cf_8
      clear HX
      replace Hcf := Lib.hid ((hb.block _ (lt_of_block Hcf.out)).trans Hcf.out)
      replace HB := Lib.hid (HB.out.trans (hb.mono HB.out.size))
      clear hb
      simp only [Kn.v]
      have HX := Lib.hid (HPt.out [] [y1] [y1] none (some ⟨w2.heap.size, 0, none⟩) 0 1 (w2.alloc (.cells #[.string y1.name, .string y1.row, .int .i64 y1.e, .int .i64 y1.until_] 29)) (by simp) (by simp) HP1.out (row_none _) (rowC_at (K := KK) w2 29 [y1] #[.string y1.name, .string y1.row, .int .i64 y1.e, .int .i64 y1.until_] w2.heap.size 1 rfl rfl rfl (by simp)))
      simp only [List.length_cons, List.length_nil, Nat.zero_add, Nat.reduceAdd] at HX
      go_wp2_with fail
      with_reducible refine HX.out.mono ?_
      rintro e w3 ⟨a1, c1, rfl, hR, hb⟩
      clear HX
      replace hb := (below1 w2 (.cells #[.string y1.name, .string y1.row, .int .i64 y1.e, .int .i64 y1.until_] 29)).trans (hb.mono (by simp))
      replace Hcf := Lib.hid ((hb.block _ (lt_of_block Hcf.out)).trans Hcf.out)
      replace HB := Lib.hid (HB.out.trans (hb.mono HB.out.size))
      clear hb
      have Hl := Lib.hid hR
      clear hR
      by_cases he : e = 0
      · obtain rfl : ttl = lg := by rw [hlg.out]; simp [he]
        subst he
        have HX := Lib.hid (HGt.out [y1] s (now + ttl - 1) a1 c1 y1 true w3 (by simp) HG1.out.1 HG1.out.2 Hl.out)
        simp only [Kn.v, List.length_cons, List.length_nil, Nat.zero_add] at HX
        go_wp2_with fail
        with_reducible refine HX.out.mono ?_
        rintro e w4 ⟨rfl, hb⟩
        clear HX
        replace Hl := Lib.hid (Hl.out.below hb)
        replace Hcf := Lib.hid ((hb.block _ (lt_of_block Hcf.out)).trans Hcf.out)
        replace HB := Lib.hid (HB.out.trans (hb.mono HB.out.size))
        clear hb
        simp only [Kn.v]
        go_upto_region 9 with fail
        obtain ⟨q5, hq5⟩ : ∃ X, X = w4.alloc (.cells #[.string y1.name, .string y1.row, .int .i64 y1.e, .int .i64 y1.until_] 29) := ⟨_, rfl⟩
        have hb : Below w4.heap.size w4 q5 := by rw [hq5]; exact below1 _ _
        have hL := laid1 w4 (.cells #[.string y1.name, .string y1.row, .int .i64 y1.e, .int .i64 y1.until_] 29)
        rw [← hq5] at hL ⊢
        clear hq5
        obtain ⟨bxk, hbxk⟩ : ∃ n, n = w4.heap.size := ⟨_, rfl⟩
        rw [← hbxk] at hL ⊢
        have hsxk : w.heap.size ≤ bxk := by rw [hbxk]; exact HB.out.size
        clear hbxk
        replace Hl := Lib.hid (Hl.out.below hb)
        replace Hcf := Lib.hid ((hb.block _ (lt_of_block Hcf.out)).trans Hcf.out)
        replace HB := Lib.hid (HB.out.trans (hb.mono HB.out.size))
        clear hb
        have Hxk := Lib.hid hL
        clear hL
        have HX := Lib.hid (HGt.out [y1] s (now + ttl) a1 c1 Kn.no false q5 (by simp) HG2.out.1 HG2.out.2 Hl.out)
        simp only [Kn.v, List.length_cons, List.length_nil, Nat.zero_add] at HX
        go_wp2_with fail
        with_reducible refine HX.out.mono ?_
        rintro e w6 ⟨rfl, hb⟩
        clear HX
        replace Hl := Lib.hid (Hl.out.below hb)
        replace Hcf := Lib.hid ((hb.block _ (lt_of_block Hcf.out)).trans Hcf.out)
        replace Hxk := Lib.hid ((hb.block _ (lt_of_block Hxk.out)).trans Hxk.out)
        replace HB := Lib.hid (HB.out.trans (hb.mono HB.out.size))
        clear hb
        simp only [Kn.v]
        go_upto_region 10 with fail
        obtain ⟨q7, hq7⟩ : ∃ X, X = w6.alloc (.cells #[.string Kn.no.name, .string Kn.no.row, .int .i64 Kn.no.e, .int .i64 Kn.no.until_] 29) := ⟨_, rfl⟩
        have hb : Below w6.heap.size w6 q7 := by rw [hq7]; exact below1 _ _
        have hL := laid1 w6 (.cells #[.string Kn.no.name, .string Kn.no.row, .int .i64 Kn.no.e, .int .i64 Kn.no.until_] 29)
        rw [← hq7] at hL ⊢
        clear hq7
        obtain ⟨bxn, hbxn⟩ : ∃ n, n = w6.heap.size := ⟨_, rfl⟩
        rw [← hbxn] at hL ⊢
        have hsxn : w.heap.size ≤ bxn := by rw [hbxn]; exact HB.out.size
        clear hbxn
        replace Hl := Lib.hid (Hl.out.below hb)
        replace Hcf := Lib.hid ((hb.block _ (lt_of_block Hcf.out)).trans Hcf.out)
        replace Hxk := Lib.hid ((hb.block _ (lt_of_block Hxk.out)).trans Hxk.out)
        replace HB := Lib.hid (HB.out.trans (hb.mono HB.out.size))
        clear hb
        have Hxn := Lib.hid hL
        clear hL
        have hke : (y1.e != 0) = false := by simp [hye.out]
        have hkn : (y1.name.toList == s.toList) = true := by rw [text_eq]; simp [hyn.out]
        have hkm : (y1.name.toList != s.toList) = false := by simp [bne, hkn]
        have hkr : (y1.row.toList == row.toList) = true := by rw [text_eq]; simp [hyr.out]
        have hks : (y1.row.toList != row.toList) = false := by simp [bne, hkr]
        obtain ⟨⟨c_xk_0, c_xk_1, c_xk_2, c_xk_3⟩, f_xk_0, f_xk_1, f_xk_2, f_xk_3⟩ := box_4 Hxk.out
        go_upto_region 12 with fail
        clear c_xk_0 c_xk_1 c_xk_2 c_xk_3 f_xk_0 f_xk_1 f_xk_2 f_xk_3
        have HX := Lib.hid (HEn.out ⟨0, 0, 0, 0, 0, 0, ttl, neg, 0⟩ s ag 0 (now + 1) y2 q7 hy2.out)
        simp only [Kn.v, Cf.v] at HX
        obtain ⟨⟨c_cf_0, c_cf_1, c_cf_2, c_cf_3, c_cf_4, c_cf_5, c_cf_6, c_cf_7, c_cf_8⟩, f_cf_0, f_cf_1, f_cf_2, f_cf_3, f_cf_4, f_cf_5, f_cf_6, f_cf_7, f_cf_8⟩ := box_9 Hcf.out
        go_wp2_with fail
        with_reducible refine HX.out.mono ?_
        rintro e w8 ⟨rfl, hb⟩
        clear c_cf_0 c_cf_1 c_cf_2 c_cf_3 c_cf_4 c_cf_5 c_cf_6 c_cf_7 c_cf_8 f_cf_0 f_cf_1 f_cf_2 f_cf_3 f_cf_4 f_cf_5 f_cf_6 f_cf_7 f_cf_8
        clear HX
        replace Hl := Lib.hid (Hl.out.below hb)
        replace Hcf := Lib.hid ((hb.block _ (lt_of_block Hcf.out)).trans Hcf.out)
        replace Hxk := Lib.hid ((hb.block _ (lt_of_block Hxk.out)).trans Hxk.out)
        replace Hxn := Lib.hid ((hb.block _ (lt_of_block Hxn.out)).trans Hxn.out)
        replace HB := Lib.hid (HB.out.trans (hb.mono HB.out.size))
        clear hb
        simp only [Kn.v]
        have HX := Lib.hid (HPt.out [y1] [y2] [y2] a1 (some ⟨w8.heap.size, 0, none⟩) c1 1 (w8.alloc (.cells #[.string y2.name, .string y2.row, .int .i64 y2.e, .int .i64 y2.until_] 29)) (by simp) (by simp) HP2.out (Hl.out.below (below1 w8 (.cells #[.string y2.name, .string y2.row, .int .i64 y2.e, .int .i64 y2.until_] 29))) (rowC_at (K := KK) w8 29 [y2] #[.string y2.name, .string y2.row, .int .i64 y2.e, .int .i64 y2.until_] w8.heap.size 1 rfl rfl rfl (by simp)))
        simp only [List.length_cons, List.length_nil, Nat.zero_add, Nat.reduceAdd] at HX
        go_wp2_with fail
        with_reducible refine HX.out.mono ?_
        rintro e w9 ⟨a2, c2, rfl, hR, hb⟩
        clear HX
        replace hb := (below1 w8 (.cells #[.string y2.name, .string y2.row, .int .i64 y2.e, .int .i64 y2.until_] 29)).trans (hb.mono (by simp))
        replace Hl := Lib.hid (Hl.out.below hb)
        replace Hcf := Lib.hid ((hb.block _ (lt_of_block Hcf.out)).trans Hcf.out)
        replace Hxk := Lib.hid ((hb.block _ (lt_of_block Hxk.out)).trans Hxk.out)
        replace Hxn := Lib.hid ((hb.block _ (lt_of_block Hxn.out)).trans Hxn.out)
        replace HB := Lib.hid (HB.out.trans (hb.mono HB.out.size))
        clear hb
        have Hm := Lib.hid hR
        clear hR
        have HX := Lib.hid (HGt.out [y2] s (now + ttl) a2 c2 y2 true w9 (by simp) HG3.out.1 HG3.out.2 Hm.out)
        simp only [Kn.v, List.length_cons, List.length_nil, Nat.zero_add] at HX
        go_wp2_with fail
        with_reducible refine HX.out.mono ?_
        rintro e w10 ⟨rfl, hb⟩
        clear HX
        replace Hl := Lib.hid (Hl.out.below hb)
        replace Hm := Lib.hid (Hm.out.below hb)
        replace Hcf := Lib.hid ((hb.block _ (lt_of_block Hcf.out)).trans Hcf.out)
        replace Hxk := Lib.hid ((hb.block _ (lt_of_block Hxk.out)).trans Hxk.out)
        replace Hxn := Lib.hid ((hb.block _ (lt_of_block Hxn.out)).trans Hxn.out)
        replace HB := Lib.hid (HB.out.trans (hb.mono HB.out.size))
        clear hb
        simp only [Kn.v]
        go_upto_region 14 with fail
        obtain ⟨q11, hq11⟩ : ∃ X, X = w10.alloc (.cells #[.string y2.name, .string y2.row, .int .i64 y2.e, .int .i64 y2.until_] 29) := ⟨_, rfl⟩
        have hb : Below w10.heap.size w10 q11 := by rw [hq11]; exact below1 _ _
        have hL := laid1 w10 (.cells #[.string y2.name, .string y2.row, .int .i64 y2.e, .int .i64 y2.until_] 29)
        rw [← hq11] at hL ⊢
        clear hq11
        obtain ⟨bxx, hbxx⟩ : ∃ n, n = w10.heap.size := ⟨_, rfl⟩
        rw [← hbxx] at hL ⊢
        have hsxx : w.heap.size ≤ bxx := by rw [hbxx]; exact HB.out.size
        clear hbxx
        replace Hl := Lib.hid (Hl.out.below hb)
        replace Hm := Lib.hid (Hm.out.below hb)
        replace Hcf := Lib.hid ((hb.block _ (lt_of_block Hcf.out)).trans Hcf.out)
        replace Hxk := Lib.hid ((hb.block _ (lt_of_block Hxk.out)).trans Hxk.out)
        replace Hxn := Lib.hid ((hb.block _ (lt_of_block Hxn.out)).trans Hxn.out)
        replace HB := Lib.hid (HB.out.trans (hb.mono HB.out.size))
        clear hb
        have Hxx := Lib.hid hL
        clear hL
        have hxr : (y2.row.toList == ag.toList) = true := by rw [text_eq]; simp [hzr.out]
        have hxe : (y2.e == 0) = true := by simp [hze.out]
        obtain ⟨⟨c_xx_0, c_xx_1, c_xx_2, c_xx_3⟩, f_xx_0, f_xx_1, f_xx_2, f_xx_3⟩ := box_4 Hxx.out
        go_wp2_with fail
        clear c_xx_0 c_xx_1 c_xx_2 c_xx_3 f_xx_0 f_xx_1 f_xx_2 f_xx_3
        with_reducible refine (HWk.out _).mono ?_
        rintro e wf ⟨rfl, hb⟩
        have HBf := Lib.hid (HB.out.trans (hb.mono HB.out.size))
        clear hb
        go_wp2_with fail
        go_ret
        exact ⟨rfl, HBf.out⟩
      · obtain rfl : neg = lg := by rw [hlg.out]; simp [he]
        have heb : (e == 0) = false := by simp [he]
        have hen : (e != 0) = true := by simp [he]
        replace he := Lib.hid he
        have HX := Lib.hid (HGt.out [y1] s (now + neg - 1) a1 c1 y1 true w3 (by simp) HG1.out.1 HG1.out.2 Hl.out)
        simp only [Kn.v, List.length_cons, List.length_nil, Nat.zero_add] at HX
        go_wp2_with fail
        with_reducible refine HX.out.mono ?_
        rintro e w4 ⟨rfl, hb⟩
        clear HX
        replace Hl := Lib.hid (Hl.out.below hb)
        replace Hcf := Lib.hid ((hb.block _ (lt_of_block Hcf.out)).trans Hcf.out)
        replace HB := Lib.hid (HB.out.trans (hb.mono HB.out.size))
        clear hb
        simp only [Kn.v]
        go_upto_region 9 with fail
        obtain ⟨q5, hq5⟩ : ∃ X, X = w4.alloc (.cells #[.string y1.name, .string y1.row, .int .i64 y1.e, .int .i64 y1.until_] 29) := ⟨_, rfl⟩
        have hb : Below w4.heap.size w4 q5 := by rw [hq5]; exact below1 _ _
        have hL := laid1 w4 (.cells #[.string y1.name, .string y1.row, .int .i64 y1.e, .int .i64 y1.until_] 29)
        rw [← hq5] at hL ⊢
        clear hq5
        obtain ⟨bxk, hbxk⟩ : ∃ n, n = w4.heap.size := ⟨_, rfl⟩
        rw [← hbxk] at hL ⊢
        have hsxk : w.heap.size ≤ bxk := by rw [hbxk]; exact HB.out.size
        clear hbxk
        replace Hl := Lib.hid (Hl.out.below hb)
        replace Hcf := Lib.hid ((hb.block _ (lt_of_block Hcf.out)).trans Hcf.out)
        replace HB := Lib.hid (HB.out.trans (hb.mono HB.out.size))
        clear hb
        have Hxk := Lib.hid hL
        clear hL
        have HX := Lib.hid (HGt.out [y1] s (now + neg) a1 c1 Kn.no false q5 (by simp) HG2.out.1 HG2.out.2 Hl.out)
        simp only [Kn.v, List.length_cons, List.length_nil, Nat.zero_add] at HX
        go_wp2_with fail
        with_reducible refine HX.out.mono ?_
        rintro e w6 ⟨rfl, hb⟩
        clear HX
        replace Hl := Lib.hid (Hl.out.below hb)
        replace Hcf := Lib.hid ((hb.block _ (lt_of_block Hcf.out)).trans Hcf.out)
        replace Hxk := Lib.hid ((hb.block _ (lt_of_block Hxk.out)).trans Hxk.out)
        replace HB := Lib.hid (HB.out.trans (hb.mono HB.out.size))
        clear hb
        simp only [Kn.v]
        go_upto_region 10 with fail
        obtain ⟨q7, hq7⟩ : ∃ X, X = w6.alloc (.cells #[.string Kn.no.name, .string Kn.no.row, .int .i64 Kn.no.e, .int .i64 Kn.no.until_] 29) := ⟨_, rfl⟩
        have hb : Below w6.heap.size w6 q7 := by rw [hq7]; exact below1 _ _
        have hL := laid1 w6 (.cells #[.string Kn.no.name, .string Kn.no.row, .int .i64 Kn.no.e, .int .i64 Kn.no.until_] 29)
        rw [← hq7] at hL ⊢
        clear hq7
        obtain ⟨bxn, hbxn⟩ : ∃ n, n = w6.heap.size := ⟨_, rfl⟩
        rw [← hbxn] at hL ⊢
        have hsxn : w.heap.size ≤ bxn := by rw [hbxn]; exact HB.out.size
        clear hbxn
        replace Hl := Lib.hid (Hl.out.below hb)
        replace Hcf := Lib.hid ((hb.block _ (lt_of_block Hcf.out)).trans Hcf.out)
        replace Hxk := Lib.hid ((hb.block _ (lt_of_block Hxk.out)).trans Hxk.out)
        replace HB := Lib.hid (HB.out.trans (hb.mono HB.out.size))
        clear hb
        have Hxn := Lib.hid hL
        clear hL
        have hke : (y1.e != e) = false := by simp [hye.out]
        have hkn : (y1.name.toList == s.toList) = true := by rw [text_eq]; simp [hyn.out]
        have hkm : (y1.name.toList != s.toList) = false := by simp [bne, hkn]
        have hkr : (y1.row.toList == []) = true := by rw [text_is]; simp [hyr.out, he.out]
        have hks : (y1.row.toList != []) = false := by simp [bne, hkr]
        have hkt : y1.row.toList = [] := by simpa using hkr
        obtain ⟨⟨c_xk_0, c_xk_1, c_xk_2, c_xk_3⟩, f_xk_0, f_xk_1, f_xk_2, f_xk_3⟩ := box_4 Hxk.out
        go_upto_region 12 with fail
        clear c_xk_0 c_xk_1 c_xk_2 c_xk_3 f_xk_0 f_xk_1 f_xk_2 f_xk_3
        have HX := Lib.hid (HEn.out ⟨0, 0, 0, 0, 0, 0, ttl, neg, 0⟩ s ag 0 (now + 1) y2 q7 hy2.out)
        simp only [Kn.v, Cf.v] at HX
        obtain ⟨⟨c_cf_0, c_cf_1, c_cf_2, c_cf_3, c_cf_4, c_cf_5, c_cf_6, c_cf_7, c_cf_8⟩, f_cf_0, f_cf_1, f_cf_2, f_cf_3, f_cf_4, f_cf_5, f_cf_6, f_cf_7, f_cf_8⟩ := box_9 Hcf.out
        go_wp2_with fail
        with_reducible refine HX.out.mono ?_
        rintro e w8 ⟨rfl, hb⟩
        clear c_cf_0 c_cf_1 c_cf_2 c_cf_3 c_cf_4 c_cf_5 c_cf_6 c_cf_7 c_cf_8 f_cf_0 f_cf_1 f_cf_2 f_cf_3 f_cf_4 f_cf_5 f_cf_6 f_cf_7 f_cf_8
        clear HX
        replace Hl := Lib.hid (Hl.out.below hb)
        replace Hcf := Lib.hid ((hb.block _ (lt_of_block Hcf.out)).trans Hcf.out)
        replace Hxk := Lib.hid ((hb.block _ (lt_of_block Hxk.out)).trans Hxk.out)
        replace Hxn := Lib.hid ((hb.block _ (lt_of_block Hxn.out)).trans Hxn.out)
        replace HB := Lib.hid (HB.out.trans (hb.mono HB.out.size))
        clear hb
        simp only [Kn.v]
        have HX := Lib.hid (HPt.out [y1] [y2] [y2] a1 (some ⟨w8.heap.size, 0, none⟩) c1 1 (w8.alloc (.cells #[.string y2.name, .string y2.row, .int .i64 y2.e, .int .i64 y2.until_] 29)) (by simp) (by simp) HP2.out (Hl.out.below (below1 w8 (.cells #[.string y2.name, .string y2.row, .int .i64 y2.e, .int .i64 y2.until_] 29))) (rowC_at (K := KK) w8 29 [y2] #[.string y2.name, .string y2.row, .int .i64 y2.e, .int .i64 y2.until_] w8.heap.size 1 rfl rfl rfl (by simp)))
        simp only [List.length_cons, List.length_nil, Nat.zero_add, Nat.reduceAdd] at HX
        go_wp2_with fail
        with_reducible refine HX.out.mono ?_
        rintro e w9 ⟨a2, c2, rfl, hR, hb⟩
        clear HX
        replace hb := (below1 w8 (.cells #[.string y2.name, .string y2.row, .int .i64 y2.e, .int .i64 y2.until_] 29)).trans (hb.mono (by simp))
        replace Hl := Lib.hid (Hl.out.below hb)
        replace Hcf := Lib.hid ((hb.block _ (lt_of_block Hcf.out)).trans Hcf.out)
        replace Hxk := Lib.hid ((hb.block _ (lt_of_block Hxk.out)).trans Hxk.out)
        replace Hxn := Lib.hid ((hb.block _ (lt_of_block Hxn.out)).trans Hxn.out)
        replace HB := Lib.hid (HB.out.trans (hb.mono HB.out.size))
        clear hb
        have Hm := Lib.hid hR
        clear hR
        have HX := Lib.hid (HGt.out [y2] s (now + ttl) a2 c2 y2 true w9 (by simp) HG3.out.1 HG3.out.2 Hm.out)
        simp only [Kn.v, List.length_cons, List.length_nil, Nat.zero_add] at HX
        go_wp2_with fail
        with_reducible refine HX.out.mono ?_
        rintro e w10 ⟨rfl, hb⟩
        clear HX
        replace Hl := Lib.hid (Hl.out.below hb)
        replace Hm := Lib.hid (Hm.out.below hb)
        replace Hcf := Lib.hid ((hb.block _ (lt_of_block Hcf.out)).trans Hcf.out)
        replace Hxk := Lib.hid ((hb.block _ (lt_of_block Hxk.out)).trans Hxk.out)
        replace Hxn := Lib.hid ((hb.block _ (lt_of_block Hxn.out)).trans Hxn.out)
        replace HB := Lib.hid (HB.out.trans (hb.mono HB.out.size))
        clear hb
        simp only [Kn.v]
        go_upto_region 14 with fail
        obtain ⟨q11, hq11⟩ : ∃ X, X = w10.alloc (.cells #[.string y2.name, .string y2.row, .int .i64 y2.e, .int .i64 y2.until_] 29) := ⟨_, rfl⟩
        have hb : Below w10.heap.size w10 q11 := by rw [hq11]; exact below1 _ _
        have hL := laid1 w10 (.cells #[.string y2.name, .string y2.row, .int .i64 y2.e, .int .i64 y2.until_] 29)
        rw [← hq11] at hL ⊢
        clear hq11
        obtain ⟨bxx, hbxx⟩ : ∃ n, n = w10.heap.size := ⟨_, rfl⟩
        rw [← hbxx] at hL ⊢
        have hsxx : w.heap.size ≤ bxx := by rw [hbxx]; exact HB.out.size
        clear hbxx
        replace Hl := Lib.hid (Hl.out.below hb)
        replace Hm := Lib.hid (Hm.out.below hb)
        replace Hcf := Lib.hid ((hb.block _ (lt_of_block Hcf.out)).trans Hcf.out)
        replace Hxk := Lib.hid ((hb.block _ (lt_of_block Hxk.out)).trans Hxk.out)
        replace Hxn := Lib.hid ((hb.block _ (lt_of_block Hxn.out)).trans Hxn.out)
        replace HB := Lib.hid (HB.out.trans (hb.mono HB.out.size))
        clear hb
        have Hxx := Lib.hid hL
        clear hL
        have hxr : (y2.row.toList == ag.toList) = true := by rw [text_eq]; simp [hzr.out]
        have hxe : (y2.e == 0) = true := by simp [hze.out]
        obtain ⟨⟨c_xx_0, c_xx_1, c_xx_2, c_xx_3⟩, f_xx_0, f_xx_1, f_xx_2, f_xx_3⟩ := box_4 Hxx.out
        go_wp2_with fail
        clear c_xx_0 c_xx_1 c_xx_2 c_xx_3 f_xx_0 f_xx_1 f_xx_2 f_xx_3
        with_reducible refine (HWk.out _).mono ?_
        rintro e wf ⟨rfl, hb⟩
        have HBf := Lib.hid (HB.out.trans (hb.mono HB.out.size))
        clear hb
        go_wp2_with fail
        go_ret
        exact ⟨rfl, HBf.out⟩
end Go.Proofs.Ytaealoodchkeaaa
