/- wakes: the chapter's small example, walked. -/
import Derived.Test.YtaealoodchkeaaaLawB
set_option linter.unusedSimpArgs false
set_option linter.unusedVariables false
namespace Go.Proofs.Ytaealoodchkeaaa
open R3 Go.RowKit Go.Proofs.Ytaealoodchkeaaa.Kind

def kA : Kn := ⟨⟨#[97]⟩, ⟨#[120]⟩, 0, 13⟩
def kB : Kn := ⟨⟨#[98]⟩, ⟨#[]⟩, 110, 11⟩
set_option maxHeartbeats 16000000 in
set_option maxRecDepth 1000000 in
theorem wakes_walk (HEn : EntrySpec) (HGt : GetSpec) (HPt : PutSpec) (HFr : FreshSpec) (HUn : UntilSpec) : WakesSpec := by
  intro w
  have HEn := Lib.hid (fun x s row e now y w h => HEn x s row e now y w h)
  have HGt := Lib.hid (fun l s n a c x r w h h1 h2 h3 => HGt l s n a c x r w h h1 h2 h3)
  have HPt := Lib.hid (fun l more L a b c d w h h1 h2 h3 h4 => HPt l more L a b c d w h h1 h2 h3 h4)
  have HFr := Lib.hid (fun l L n a c w h h1 h2 => HFr l L n a c w h h1 h2)
  have HUn := Lib.hid (fun l a c i t w h h1 h2 h3 => HUn l a c i t w h h1 h2 h3)
  have HB := Lib.hid (Below.refl w.heap.size w)
  have h1 : kA = entryK 3 1 ⟨#[97]⟩ ⟨#[120]⟩ 0 10 := by decide +kernel
  have h2 : kB = entryK 3 1 ⟨#[98]⟩ ⟨#[120]⟩ 110 10 := by decide +kernel
  have h3 : [kA, kB] = putK [] [kB, kA] := by decide +kernel
  have h4 : kA = getV [kA, kB] ⟨#[97]⟩ 12 ∧ true = getB [kA, kB] ⟨#[97]⟩ 12 := by constructor <;> decide +kernel
  have h5 : Kn.no = getV [kA, kB] ⟨#[97]⟩ 13 ∧ false = getB [kA, kB] ⟨#[97]⟩ 13 := by constructor <;> decide +kernel
  have h6 : (1 : Int) = (untilK [kA, kB]).1 ∧ (11 : Int) = (untilK [kA, kB]).2 := by constructor <;> decide +kernel
  have h7 : [kA] = freshK [kA, kB] 11 := by decide +kernel
  replace h1 := Lib.hid h1
  replace h2 := Lib.hid h2
  replace h3 := Lib.hid h3
  replace h4 := Lib.hid h4
  replace h5 := Lib.hid h5
  replace h6 := Lib.hid h6
  replace h7 := Lib.hid h7
  go_enter Try.func9, Try.ntmps9
  obtain ⟨ya, hya⟩ : ∃ y, y = kA := ⟨_, rfl⟩
  obtain ⟨yb, hyb⟩ : ∃ y, y = kB := ⟨_, rfl⟩
  rw [← hya] at h1 h3 h4 h5 h6 h7
  rw [← hyb] at h2 h3 h4 h5 h6 h7
  have hr1 : (ya.row.toList == (⟨#[120]⟩ : ByteArray).toList) = true := by rw [hya]; decide +kernel
  have hr2 : (yb.row.toList == (⟨#[]⟩ : ByteArray).toList) = true := by rw [hyb]; decide +kernel
  have hr3 : (yb.until_ == 11) = true := by rw [hyb]; decide +kernel
  have hr4 : ya.row.toList = [120] := by rw [hya]; decide +kernel
  have hr5 : yb.row.toList = [] := by rw [hyb]; decide +kernel
  have hr6 : yb.until_ = 11 := by rw [hyb]; rfl
  have HR9 := Lib.hid (And.intro hr1 (And.intro hr2 (And.intro hr3 (And.intro hr4 (And.intro hr5 hr6)))))
  clear hya hyb hr1 hr2 hr3 hr4 hr5 hr6
  have HX := Lib.hid (HEn.out ⟨0, 0, 0, 0, 0, 0, 3, 1, 0⟩ ⟨#[97]⟩ ⟨#[120]⟩ 0 10 ya w h1.out)
  simp only [Kn.v, Cf.v] at HX
  go_wp2_with fail
  with_reducible refine HX.out.mono ?_
  rintro e w1 ⟨rfl, hb⟩
  clear HX
  replace HB := Lib.hid (HB.out.trans (hb.mono HB.out.size))
  clear hb
  simp only [Kn.v]
  go_upto_region 2 with fail
  obtain ⟨q2, hq2⟩ : ∃ X, X = w1.alloc (.cells #[.string ya.name, .string ya.row, .int .i64 ya.e, .int .i64 ya.until_] 29) := ⟨_, rfl⟩
  have hb : Below w1.heap.size w1 q2 := by rw [hq2]; exact below1 _ _
  have hL := laid1 w1 (.cells #[.string ya.name, .string ya.row, .int .i64 ya.e, .int .i64 ya.until_] 29)
  rw [← hq2] at hL ⊢
  clear hq2
  obtain ⟨bxa, hbxa⟩ : ∃ n, n = w1.heap.size := ⟨_, rfl⟩
  rw [← hbxa] at hL ⊢
  have hsxa : w.heap.size ≤ bxa := by rw [hbxa]; exact HB.out.size
  clear hbxa
  replace HB := Lib.hid (HB.out.trans (hb.mono HB.out.size))
  clear hb
  have Hxa := Lib.hid hL
  clear hL
  have HX := Lib.hid (HEn.out ⟨0, 0, 0, 0, 0, 0, 3, 1, 0⟩ ⟨#[98]⟩ ⟨#[120]⟩ 110 10 yb q2 h2.out)
  simp only [Kn.v, Cf.v] at HX
  go_wp2_with fail
  with_reducible refine HX.out.mono ?_
  rintro e w3 ⟨rfl, hb⟩
  clear HX
  replace Hxa := Lib.hid ((hb.block _ (lt_of_block Hxa.out)).trans Hxa.out)
  replace HB := Lib.hid (HB.out.trans (hb.mono HB.out.size))
  clear hb
  simp only [Kn.v]
  go_upto_region 3 with fail
  obtain ⟨q4, hq4⟩ : ∃ X, X = w3.alloc (.cells #[.string yb.name, .string yb.row, .int .i64 yb.e, .int .i64 yb.until_] 29) := ⟨_, rfl⟩
  have hb : Below w3.heap.size w3 q4 := by rw [hq4]; exact below1 _ _
  have hL := laid1 w3 (.cells #[.string yb.name, .string yb.row, .int .i64 yb.e, .int .i64 yb.until_] 29)
  rw [← hq4] at hL ⊢
  clear hq4
  obtain ⟨bxb, hbxb⟩ : ∃ n, n = w3.heap.size := ⟨_, rfl⟩
  rw [← hbxb] at hL ⊢
  have hsxb : w.heap.size ≤ bxb := by rw [hbxb]; exact HB.out.size
  clear hbxb
  replace Hxa := Lib.hid ((hb.block _ (lt_of_block Hxa.out)).trans Hxa.out)
  replace HB := Lib.hid (HB.out.trans (hb.mono HB.out.size))
  clear hb
  have Hxb := Lib.hid hL
  clear hL
  have HX := Lib.hid (HPt.out [] [yb, ya] [ya, yb] none (some ⟨q4.heap.size, 0, none⟩) 0 2 (q4.alloc (.cells #[.string yb.name, .string yb.row, .int .i64 yb.e, .int .i64 yb.until_, .string ya.name, .string ya.row, .int .i64 ya.e, .int .i64 ya.until_] 29)) (by simp) (by simp) h3.out (row_none _) (rowC_at (K := KK) q4 29 [yb, ya] #[.string yb.name, .string yb.row, .int .i64 yb.e, .int .i64 yb.until_, .string ya.name, .string ya.row, .int .i64 ya.e, .int .i64 ya.until_] q4.heap.size 2 rfl rfl rfl (by simp)))
  simp only [List.length_cons, List.length_nil, Nat.zero_add, Nat.reduceAdd] at HX
  obtain ⟨⟨c_xa_0, c_xa_1, c_xa_2, c_xa_3⟩, f_xa_0, f_xa_1, f_xa_2, f_xa_3⟩ := box_4 Hxa.out
  obtain ⟨⟨c_xb_0, c_xb_1, c_xb_2, c_xb_3⟩, f_xb_0, f_xb_1, f_xb_2, f_xb_3⟩ := box_4 Hxb.out
  go_wp2_with fail
  with_reducible refine HX.out.mono ?_
  rintro e w5 ⟨a1, c1, rfl, hR, hb⟩
  clear c_xa_0 c_xa_1 c_xa_2 c_xa_3 f_xa_0 f_xa_1 f_xa_2 f_xa_3 c_xb_0 c_xb_1 c_xb_2 c_xb_3 f_xb_0 f_xb_1 f_xb_2 f_xb_3
  clear HX
  replace hb := (below1 q4 (.cells #[.string yb.name, .string yb.row, .int .i64 yb.e, .int .i64 yb.until_, .string ya.name, .string ya.row, .int .i64 ya.e, .int .i64 ya.until_] 29)).trans (hb.mono (by simp))
  replace Hxa := Lib.hid ((hb.block _ (lt_of_block Hxa.out)).trans Hxa.out)
  replace Hxb := Lib.hid ((hb.block _ (lt_of_block Hxb.out)).trans Hxb.out)
  replace HB := Lib.hid (HB.out.trans (hb.mono HB.out.size))
  clear hb
  have Hl := Lib.hid hR
  clear hR
  have HX := Lib.hid (HGt.out [ya, yb] ⟨#[97]⟩ 12 a1 c1 ya true w5 (by simp) h4.out.1 h4.out.2 Hl.out)
  simp only [Kn.v, List.length_cons, List.length_nil, Nat.zero_add, Nat.reduceAdd] at HX
  go_wp2_with fail
  with_reducible refine HX.out.mono ?_
  rintro e w6 ⟨rfl, hb⟩
  clear HX
  replace Hl := Lib.hid (Hl.out.below hb)
  replace Hxa := Lib.hid ((hb.block _ (lt_of_block Hxa.out)).trans Hxa.out)
  replace Hxb := Lib.hid ((hb.block _ (lt_of_block Hxb.out)).trans Hxb.out)
  replace HB := Lib.hid (HB.out.trans (hb.mono HB.out.size))
  clear hb
  simp only [Kn.v]
  go_upto_region 5 with fail
  obtain ⟨q7, hq7⟩ : ∃ X, X = w6.alloc (.cells #[.string ya.name, .string ya.row, .int .i64 ya.e, .int .i64 ya.until_] 29) := ⟨_, rfl⟩
  have hb : Below w6.heap.size w6 q7 := by rw [hq7]; exact below1 _ _
  have hL := laid1 w6 (.cells #[.string ya.name, .string ya.row, .int .i64 ya.e, .int .i64 ya.until_] 29)
  rw [← hq7] at hL ⊢
  clear hq7
  obtain ⟨bxc, hbxc⟩ : ∃ n, n = w6.heap.size := ⟨_, rfl⟩
  rw [← hbxc] at hL ⊢
  have hsxc : w.heap.size ≤ bxc := by rw [hbxc]; exact HB.out.size
  clear hbxc
  replace Hl := Lib.hid (Hl.out.below hb)
  replace Hxa := Lib.hid ((hb.block _ (lt_of_block Hxa.out)).trans Hxa.out)
  replace Hxb := Lib.hid ((hb.block _ (lt_of_block Hxb.out)).trans Hxb.out)
  replace HB := Lib.hid (HB.out.trans (hb.mono HB.out.size))
  clear hb
  have Hxc := Lib.hid hL
  clear hL
  have HX := Lib.hid (HGt.out [ya, yb] ⟨#[97]⟩ 13 a1 c1 Kn.no false q7 (by simp) h5.out.1 h5.out.2 Hl.out)
  simp only [Kn.v, List.length_cons, List.length_nil, Nat.zero_add, Nat.reduceAdd] at HX
  go_wp2_with fail
  with_reducible refine HX.out.mono ?_
  rintro e w8 ⟨rfl, hb⟩
  clear HX
  replace Hl := Lib.hid (Hl.out.below hb)
  replace Hxa := Lib.hid ((hb.block _ (lt_of_block Hxa.out)).trans Hxa.out)
  replace Hxb := Lib.hid ((hb.block _ (lt_of_block Hxb.out)).trans Hxb.out)
  replace Hxc := Lib.hid ((hb.block _ (lt_of_block Hxc.out)).trans Hxc.out)
  replace HB := Lib.hid (HB.out.trans (hb.mono HB.out.size))
  clear hb
  simp only [Kn.v]
  go_upto_region 6 with fail
  obtain ⟨q9, hq9⟩ : ∃ X, X = w8.alloc (.cells #[.string Kn.no.name, .string Kn.no.row, .int .i64 Kn.no.e, .int .i64 Kn.no.until_] 29) := ⟨_, rfl⟩
  have hb : Below w8.heap.size w8 q9 := by rw [hq9]; exact below1 _ _
  have hL := laid1 w8 (.cells #[.string Kn.no.name, .string Kn.no.row, .int .i64 Kn.no.e, .int .i64 Kn.no.until_] 29)
  rw [← hq9] at hL ⊢
  clear hq9
  obtain ⟨bxd, hbxd⟩ : ∃ n, n = w8.heap.size := ⟨_, rfl⟩
  rw [← hbxd] at hL ⊢
  have hsxd : w.heap.size ≤ bxd := by rw [hbxd]; exact HB.out.size
  clear hbxd
  replace Hl := Lib.hid (Hl.out.below hb)
  replace Hxa := Lib.hid ((hb.block _ (lt_of_block Hxa.out)).trans Hxa.out)
  replace Hxb := Lib.hid ((hb.block _ (lt_of_block Hxb.out)).trans Hxb.out)
  replace Hxc := Lib.hid ((hb.block _ (lt_of_block Hxc.out)).trans Hxc.out)
  replace HB := Lib.hid (HB.out.trans (hb.mono HB.out.size))
  clear hb
  have Hxd := Lib.hid hL
  clear hL
  have HX := Lib.hid (HUn.out [ya, yb] a1 c1 1 11 q9 (by simp) h6.out.1 h6.out.2 Hl.out)
  simp only [List.length_cons, List.length_nil, Nat.zero_add, Nat.reduceAdd] at HX
  go_wp2_with fail
  with_reducible refine HX.out.mono ?_
  rintro e w10 ⟨rfl, hb⟩
  clear HX
  replace Hl := Lib.hid (Hl.out.below hb)
  replace Hxa := Lib.hid ((hb.block _ (lt_of_block Hxa.out)).trans Hxa.out)
  replace Hxb := Lib.hid ((hb.block _ (lt_of_block Hxb.out)).trans Hxb.out)
  replace Hxc := Lib.hid ((hb.block _ (lt_of_block Hxc.out)).trans Hxc.out)
  replace Hxd := Lib.hid ((hb.block _ (lt_of_block Hxd.out)).trans Hxd.out)
  replace HB := Lib.hid (HB.out.trans (hb.mono HB.out.size))
  clear hb
  go_upto_region 7 with fail
  obtain ⟨bl, ol, rfl, hbl, hat⟩ := Hl.out.2.2.2 (by simp)
  obtain ⟨d0, d1, d2, d3⟩ := KK.cells hat (j := 0) (x := ya) rfl
  simp only [Nat.zero_mul, Nat.add_zero] at d0 d1 d2 d3
  have HSB := Lib.hid (show ∀ W : World, Below w10.heap.size w10 W → ((W.cell? ⟨bxa, 0, none⟩ = some (.string ya.name) ∧ W.cell? ⟨bxa, 1, none⟩ = some (.string ya.row) ∧ W.cell? ⟨bxa, 2, none⟩ = some (.int .i64 ya.e) ∧ W.cell? ⟨bxa, 3, none⟩ = some (.int .i64 ya.until_)) ∧ (W.cell? ⟨bxb, 0, none⟩ = some (.string yb.name) ∧ W.cell? ⟨bxb, 1, none⟩ = some (.string yb.row) ∧ W.cell? ⟨bxb, 2, none⟩ = some (.int .i64 yb.e) ∧ W.cell? ⟨bxb, 3, none⟩ = some (.int .i64 yb.until_)) ∧ (W.cell? ⟨bxc, 0, none⟩ = some (.string ya.name) ∧ W.cell? ⟨bxc, 1, none⟩ = some (.string ya.row) ∧ W.cell? ⟨bxc, 2, none⟩ = some (.int .i64 ya.e) ∧ W.cell? ⟨bxc, 3, none⟩ = some (.int .i64 ya.until_)) ∧ (W.cell? ⟨bl, ol, none⟩ = some (.string ya.name) ∧ W.cell? ⟨bl, ol + 1, none⟩ = some (.string ya.row) ∧ W.cell? ⟨bl, ol + 2, none⟩ = some (.int .i64 ya.e) ∧ W.cell? ⟨bl, ol + 3, none⟩ = some (.int .i64 ya.until_))) ∧ Below w10.heap.size w10 W from fun W h => ⟨⟨(box_4 ((h.block _ (lt_of_block Hxa.out)).trans Hxa.out)).1, (box_4 ((h.block _ (lt_of_block Hxb.out)).trans Hxb.out)).1, (box_4 ((h.block _ (lt_of_block Hxc.out)).trans Hxc.out)).1, (h.cell (p := ⟨bl, ol, none⟩) hbl).trans d0, (h.cell (p := ⟨bl, ol + 1, none⟩) hbl).trans d1, (h.cell (p := ⟨bl, ol + 2, none⟩) hbl).trans d2, (h.cell (p := ⟨bl, ol + 3, none⟩) hbl).trans d3⟩, h⟩)
  have HC1 := Lib.hid (fun W (h : Below w10.heap.size w10 W) => HFr.out [ya, yb] [ya] 11 (some ⟨bl, ol, none⟩) c1 W (by simp) h7.out (Hl.out.below h))
  simp only [List.length_cons, List.length_nil, Nat.zero_add, Nat.reduceAdd] at HC1
  obtain ⟨hr1, hr2, hr3, hr4, hr5, hr6⟩ := HR9.out
  have heq := eql_self_Kn ya
  have hgd := guard_Kn
  clear d0 d1 d2 d3 hat
  go_region_held3 (fun W => ((W.cell? ⟨bxa, 0, none⟩ = some (.string ya.name) ∧ W.cell? ⟨bxa, 1, none⟩ = some (.string ya.row) ∧ W.cell? ⟨bxa, 2, none⟩ = some (.int .i64 ya.e) ∧ W.cell? ⟨bxa, 3, none⟩ = some (.int .i64 ya.until_)) ∧ (W.cell? ⟨bxb, 0, none⟩ = some (.string yb.name) ∧ W.cell? ⟨bxb, 1, none⟩ = some (.string yb.row) ∧ W.cell? ⟨bxb, 2, none⟩ = some (.int .i64 yb.e) ∧ W.cell? ⟨bxb, 3, none⟩ = some (.int .i64 yb.until_)) ∧ (W.cell? ⟨bxc, 0, none⟩ = some (.string ya.name) ∧ W.cell? ⟨bxc, 1, none⟩ = some (.string ya.row) ∧ W.cell? ⟨bxc, 2, none⟩ = some (.int .i64 ya.e) ∧ W.cell? ⟨bxc, 3, none⟩ = some (.int .i64 ya.until_)) ∧ (W.cell? ⟨bl, ol, none⟩ = some (.string ya.name) ∧ W.cell? ⟨bl, ol + 1, none⟩ = some (.string ya.row) ∧ W.cell? ⟨bl, ol + 2, none⟩ = some (.int .i64 ya.e) ∧ W.cell? ⟨bl, ol + 3, none⟩ = some (.int .i64 ya.until_))) ∧ Below w10.heap.size w10 W)
    (first | assumption | exact HSB.out _ (Below.refl _ _) | exact HSB.out _ (kept_call (by assumption) hbC) | exact HSB.out _ (Below.refl _ _).drew)
    (first
      | (go_at_call 19; (with_reducible refine (HC1.out _ (kept_self (by assumption))).mono ?_); rintro e wC ⟨a2, c2, rfl, hR, hbC⟩))
  have hbf := HB.out.trans ((show Below w10.heap.size w10 wC by first | exact kept_self (by assumption) | exact kept_call (by assumption) hbC).mono HB.out.size)
  clear HSB HC1 hr1 hr2 hr3 hr4 hr5 hr6 heq hgd
  go_wp2_with fail
  go_ret
  exact ⟨rfl, hbf⟩
end Go.Proofs.Ytaealoodchkeaaa
