/- CacheTells walked. -/
import Derived.Test.YtaealoodchkeaaaLawB
set_option linter.unusedSimpArgs false
set_option linter.unusedVariables false
namespace Go.Proofs.Ytaealoodchkeaaa
open R3 Go.RowKit Go.Proofs.Ytaealoodchkeaaa.Kind

set_option maxHeartbeats 16000000 in
set_option maxRecDepth 1000000 in
theorem cachetells_walk (HEn : EntrySpec) (HGt : GetSpec) (HPt : PutSpec) (HFr : FreshSpec) (HUn : UntilSpec) (HMy : MaySpec) (HWk : WakesSpec) (x : Cf) (l more : List Kn) (s row : ByteArray) (e now : Int) (a b : Option Addr) (c d : Nat) (w : World) (hFl : ∀ y ∈ l, FitS y) (hFm : ∀ y ∈ more, FitS y) (hs : s.size ≤ 140737488355328) (hrw : row.size ≤ 140737488355328) (hA : KK.RowC w a c l) (hB : KK.RowC w b d more) :
    Calls Try.prog 3 #[x.v, .slice a l.length c, .slice b more.length d, .string s, .string row, .int .i64 e, .int .i64 now] w fun e w' => e = .returned (.bool true) ∧ Below w.heap.size w w' := by
  have HEn := Lib.hid (fun x s row e now y w h => HEn x s row e now y w h)
  have HGt := Lib.hid (fun l s n a c x r w h h1 h2 h3 => HGt l s n a c x r w h h1 h2 h3)
  have HPt := Lib.hid (fun l more L a b c d w h h1 h2 h3 h4 => HPt l more L a b c d w h h1 h2 h3 h4)
  have HFr := Lib.hid (fun l L n a c w h h1 h2 => HFr l L n a c w h h1 h2)
  have HUn := Lib.hid (fun l a c i t w h h1 h2 h3 => HUn l a c i t w h h1 h2 h3)
  have HMy := Lib.hid (fun l a c r w h h1 h2 => HMy l a c r w h h1 h2)
  have HWk := Lib.hid (fun w => HWk w)
  have HB := Lib.hid (Below.refl w.heap.size w)
  have HFl := Lib.hid hFl
  have HFm := Lib.hid hFm
  have Hl := Lib.hid hA
  have Hm := Lib.hid hB
  clear hFl hFm hA hB
  simp only [Cf.v]
  have hw : IntKind.i64.wrap ((s.size : Int) + (row.size : Int)) = (s.size : Int) + (row.size : Int) := by rw [IntKind.wrap_i64]; omega
  go_enter Try.func3, Try.ntmps3
  go_upto_region 1 with fail
  obtain ⟨q1, hq1⟩ : ∃ X, X = w.alloc (.cells #[.int .i64 x.perHost, .int .i64 x.idle, .int .i64 x.waiters, .int .i64 x.attempts, .int .i64 x.stagger, .int .i64 x.idleAge, .int .i64 x.ttl, .int .i64 x.negTTL, .int .i64 x.scarAge] 23) := ⟨_, rfl⟩
  have hb : Below w.heap.size w q1 := by rw [hq1]; exact below1 _ _
  have hL := laid1 w (.cells #[.int .i64 x.perHost, .int .i64 x.idle, .int .i64 x.waiters, .int .i64 x.attempts, .int .i64 x.stagger, .int .i64 x.idleAge, .int .i64 x.ttl, .int .i64 x.negTTL, .int .i64 x.scarAge] 23)
  rw [← hq1] at hL ⊢
  clear hq1
  obtain ⟨bx7, hbx7⟩ : ∃ n, n = w.heap.size := ⟨_, rfl⟩
  rw [← hbx7] at hL ⊢
  have hsx7 : w.heap.size ≤ bx7 := by rw [hbx7]; exact HB.out.size
  clear hbx7
  replace Hl := Lib.hid (Hl.out.below hb)
  replace Hm := Lib.hid (Hm.out.below hb)
  replace HB := Lib.hid (HB.out.trans (hb.mono HB.out.size))
  clear hb
  have Hx7 := Lib.hid hL
  clear hL
  have HX := Lib.hid (rgreat_any l a c q1 HFl.out Hl.out)
  go_wp2_with fail
  with_reducible refine HX.out.mono ?_
  rintro e w2 ⟨⟨r1, rfl, hf1⟩, hb⟩
  clear HX
  replace Hl := Lib.hid (Hl.out.below hb)
  replace Hm := Lib.hid (Hm.out.below hb)
  replace Hx7 := Lib.hid ((hb.block _ (lt_of_block Hx7.out)).trans Hx7.out)
  replace HB := Lib.hid (HB.out.trans (hb.mono HB.out.size))
  clear hb
  have HF1 := Lib.hid hf1
  clear hf1
  cases r1 with
  | true =>
    go_wp2_with fail
    with_reducible refine (HWk.out _).mono ?_
    rintro e wf ⟨rfl, hb⟩
    have HBf := Lib.hid (HB.out.trans (hb.mono HB.out.size))
    clear hb
    go_wp2_with fail
    go_ret
    exact ⟨rfl, HBf.out⟩
  | false =>
    have HX := Lib.hid (rgreat_any more b d w2 HFm.out Hm.out)
    go_wp2_with fail
    with_reducible refine HX.out.mono ?_
    rintro e w3 ⟨⟨r2, rfl, hf2⟩, hb⟩
    clear HX
    replace Hl := Lib.hid (Hl.out.below hb)
    replace Hm := Lib.hid (Hm.out.below hb)
    replace Hx7 := Lib.hid ((hb.block _ (lt_of_block Hx7.out)).trans Hx7.out)
    replace HB := Lib.hid (HB.out.trans (hb.mono HB.out.size))
    clear hb
    have HF2 := Lib.hid hf2
    clear hf2
    cases r2 with
    | true =>
      go_wp2_with fail
      with_reducible refine (HWk.out _).mono ?_
      rintro e wf ⟨rfl, hb⟩
      have HBf := Lib.hid (HB.out.trans (hb.mono HB.out.size))
      clear hb
      go_wp2_with fail
      go_ret
      exact ⟨rfl, HBf.out⟩
    | false =>
      have HW1 := Lib.hid (HF1.out (by first | rfl | trivial))
      have HW2 := Lib.hid (HF2.out (by first | rfl | trivial))
      have hll : l.length ≤ 60 := HW1.out.1
      have hlm : more.length ≤ 60 := HW2.out.1
      by_cases hq : (2000 : Int) < (s.size : Int) + (row.size : Int)
      · go_wp2_with fail
        with_reducible refine (HWk.out _).mono ?_
        rintro e wf ⟨rfl, hb⟩
        have HBf := Lib.hid (HB.out.trans (hb.mono HB.out.size))
        clear hb
        go_wp2_with fail
        go_ret
        exact ⟨rfl, HBf.out⟩
      · obtain ⟨k, hk⟩ : ∃ k, k = getV l s now := ⟨_, rfl⟩
        obtain ⟨r, hr⟩ : ∃ r, r = getB l s now := ⟨_, rfl⟩
        obtain ⟨i, hi⟩ : ∃ i, i = (untilK l).1 := ⟨_, rfl⟩
        obtain ⟨u, hu⟩ : ∃ u, u = (untilK l).2 := ⟨_, rfl⟩
        obtain ⟨y, hy⟩ : ∃ y, y = entryK x.ttl x.negTTL s row e now := ⟨_, rfl⟩
        obtain ⟨L, hL⟩ : ∃ L, L = putK l more := ⟨_, rfl⟩
        obtain ⟨M, hM⟩ : ∃ M, M = freshK l now := ⟨_, rfl⟩
        obtain ⟨v, hv⟩ : ∃ v, v = mayK l := ⟨_, rfl⟩
        replace hk := Lib.hid hk
        replace hr := Lib.hid hr
        replace hi := Lib.hid hi
        replace hu := Lib.hid hu
        replace hy := Lib.hid hy
        replace hL := Lib.hid hL
        replace hM := Lib.hid hM
        replace hv := Lib.hid hv
        have HX := Lib.hid (HGt.out l s now a c k r w3 (by omega) hk.out hr.out Hl.out)
        simp only [Kn.v] at HX
        go_wp2_with fail
        with_reducible refine HX.out.mono ?_
        rintro e w4 ⟨rfl, hb⟩
        clear HX
        replace Hl := Lib.hid (Hl.out.below hb)
        replace Hm := Lib.hid (Hm.out.below hb)
        replace Hx7 := Lib.hid ((hb.block _ (lt_of_block Hx7.out)).trans Hx7.out)
        replace HB := Lib.hid (HB.out.trans (hb.mono HB.out.size))
        clear hb
        simp only [Kn.v]
        go_upto_region 4 with fail
        obtain ⟨q5, hq5⟩ : ∃ X, X = w4.alloc (.cells #[.string k.name, .string k.row, .int .i64 k.e, .int .i64 k.until_] 29) := ⟨_, rfl⟩
        have hb : Below w4.heap.size w4 q5 := by rw [hq5]; exact below1 _ _
        have hL := laid1 w4 (.cells #[.string k.name, .string k.row, .int .i64 k.e, .int .i64 k.until_] 29)
        rw [← hq5] at hL ⊢
        clear hq5
        obtain ⟨bxa, hbxa⟩ : ∃ n, n = w4.heap.size := ⟨_, rfl⟩
        rw [← hbxa] at hL ⊢
        have hsxa : w.heap.size ≤ bxa := by rw [hbxa]; exact HB.out.size
        clear hbxa
        replace Hl := Lib.hid (Hl.out.below hb)
        replace Hm := Lib.hid (Hm.out.below hb)
        replace Hx7 := Lib.hid ((hb.block _ (lt_of_block Hx7.out)).trans Hx7.out)
        replace HB := Lib.hid (HB.out.trans (hb.mono HB.out.size))
        clear hb
        have Hxa := Lib.hid hL
        clear hL
        have HX := Lib.hid (rget_any l s now a c k r hk.out hr.out q5 Hl.out)
        simp only [Kn.v] at HX
        go_wp2_with fail
        with_reducible refine HX.out.mono ?_
        rintro e w6 ⟨rfl, hb⟩
        clear HX
        replace Hl := Lib.hid (Hl.out.below hb)
        replace Hm := Lib.hid (Hm.out.below hb)
        replace Hx7 := Lib.hid ((hb.block _ (lt_of_block Hx7.out)).trans Hx7.out)
        replace Hxa := Lib.hid ((hb.block _ (lt_of_block Hxa.out)).trans Hxa.out)
        replace HB := Lib.hid (HB.out.trans (hb.mono HB.out.size))
        clear hb
        simp only [Kn.v]
        go_upto_region 5 with fail
        obtain ⟨q7, hq7⟩ : ∃ X, X = w6.alloc (.cells #[.string k.name, .string k.row, .int .i64 k.e, .int .i64 k.until_] 29) := ⟨_, rfl⟩
        have hb : Below w6.heap.size w6 q7 := by rw [hq7]; exact below1 _ _
        have hL := laid1 w6 (.cells #[.string k.name, .string k.row, .int .i64 k.e, .int .i64 k.until_] 29)
        rw [← hq7] at hL ⊢
        clear hq7
        obtain ⟨bxb, hbxb⟩ : ∃ n, n = w6.heap.size := ⟨_, rfl⟩
        rw [← hbxb] at hL ⊢
        have hsxb : w.heap.size ≤ bxb := by rw [hbxb]; exact HB.out.size
        clear hbxb
        replace Hl := Lib.hid (Hl.out.below hb)
        replace Hm := Lib.hid (Hm.out.below hb)
        replace Hx7 := Lib.hid ((hb.block _ (lt_of_block Hx7.out)).trans Hx7.out)
        replace Hxa := Lib.hid ((hb.block _ (lt_of_block Hxa.out)).trans Hxa.out)
        replace HB := Lib.hid (HB.out.trans (hb.mono HB.out.size))
        clear hb
        have Hxb := Lib.hid hL
        clear hL
        have HX := Lib.hid (HUn.out l a c i u q7 (by omega) hi.out hu.out Hl.out)
        go_wp2_with fail
        with_reducible refine HX.out.mono ?_
        rintro e w8 ⟨rfl, hb⟩
        clear HX
        replace Hl := Lib.hid (Hl.out.below hb)
        replace Hm := Lib.hid (Hm.out.below hb)
        replace Hx7 := Lib.hid ((hb.block _ (lt_of_block Hx7.out)).trans Hx7.out)
        replace Hxa := Lib.hid ((hb.block _ (lt_of_block Hxa.out)).trans Hxa.out)
        replace Hxb := Lib.hid ((hb.block _ (lt_of_block Hxb.out)).trans Hxb.out)
        replace HB := Lib.hid (HB.out.trans (hb.mono HB.out.size))
        clear hb
        have HX := Lib.hid (runtil_any l a c w8 (by omega) Hl.out)
        rw [← hi.out, ← hu.out] at HX
        go_wp2_with fail
        with_reducible refine HX.out.mono ?_
        rintro e w9 ⟨rfl, hb⟩
        clear HX
        replace Hl := Lib.hid (Hl.out.below hb)
        replace Hm := Lib.hid (Hm.out.below hb)
        replace Hx7 := Lib.hid ((hb.block _ (lt_of_block Hx7.out)).trans Hx7.out)
        replace Hxa := Lib.hid ((hb.block _ (lt_of_block Hxa.out)).trans Hxa.out)
        replace Hxb := Lib.hid ((hb.block _ (lt_of_block Hxb.out)).trans Hxb.out)
        replace HB := Lib.hid (HB.out.trans (hb.mono HB.out.size))
        clear hb
        have hne := neq_self_Kn k
        have hgd := guard_Kn
        have hney := neq_self_Kn y
        have hrr : (r != r) = false := by simp
        have hii : (i != i) = false := by simp
        have huu : (u != u) = false := by simp
        go_upto_region 7 with fail
        have HSB := Lib.hid (show ∀ W : World, Below w9.heap.size w9 W → ((W.cell? ⟨bx7, 0, none⟩ = some (.int .i64 x.perHost) ∧ W.cell? ⟨bx7, 1, none⟩ = some (.int .i64 x.idle) ∧ W.cell? ⟨bx7, 2, none⟩ = some (.int .i64 x.waiters) ∧ W.cell? ⟨bx7, 3, none⟩ = some (.int .i64 x.attempts) ∧ W.cell? ⟨bx7, 4, none⟩ = some (.int .i64 x.stagger) ∧ W.cell? ⟨bx7, 5, none⟩ = some (.int .i64 x.idleAge) ∧ W.cell? ⟨bx7, 6, none⟩ = some (.int .i64 x.ttl) ∧ W.cell? ⟨bx7, 7, none⟩ = some (.int .i64 x.negTTL) ∧ W.cell? ⟨bx7, 8, none⟩ = some (.int .i64 x.scarAge)) ∧ (W.cell? ⟨bxa, 0, none⟩ = some (.string k.name) ∧ W.cell? ⟨bxa, 1, none⟩ = some (.string k.row) ∧ W.cell? ⟨bxa, 2, none⟩ = some (.int .i64 k.e) ∧ W.cell? ⟨bxa, 3, none⟩ = some (.int .i64 k.until_)) ∧ (W.cell? ⟨bxb, 0, none⟩ = some (.string k.name) ∧ W.cell? ⟨bxb, 1, none⟩ = some (.string k.row) ∧ W.cell? ⟨bxb, 2, none⟩ = some (.int .i64 k.e) ∧ W.cell? ⟨bxb, 3, none⟩ = some (.int .i64 k.until_))) ∧ Below w9.heap.size w9 W from fun W h => ⟨⟨(box_9 ((h.block _ (lt_of_block Hx7.out)).trans Hx7.out)).1, (box_4 ((h.block _ (lt_of_block Hxa.out)).trans Hxa.out)).1, (box_4 ((h.block _ (lt_of_block Hxb.out)).trans Hxb.out)).1⟩, h⟩)
        have HC1 := Lib.hid (fun W => HEn.out x s row e now y W hy.out)
        have HC2 := Lib.hid (fun W => rentry_any x s row e now y hy.out W)
        simp only [Cf.v, Kn.v] at HC1 HC2
        go_region_held3 (fun W => ((W.cell? ⟨bx7, 0, none⟩ = some (.int .i64 x.perHost) ∧ W.cell? ⟨bx7, 1, none⟩ = some (.int .i64 x.idle) ∧ W.cell? ⟨bx7, 2, none⟩ = some (.int .i64 x.waiters) ∧ W.cell? ⟨bx7, 3, none⟩ = some (.int .i64 x.attempts) ∧ W.cell? ⟨bx7, 4, none⟩ = some (.int .i64 x.stagger) ∧ W.cell? ⟨bx7, 5, none⟩ = some (.int .i64 x.idleAge) ∧ W.cell? ⟨bx7, 6, none⟩ = some (.int .i64 x.ttl) ∧ W.cell? ⟨bx7, 7, none⟩ = some (.int .i64 x.negTTL) ∧ W.cell? ⟨bx7, 8, none⟩ = some (.int .i64 x.scarAge)) ∧ (W.cell? ⟨bxa, 0, none⟩ = some (.string k.name) ∧ W.cell? ⟨bxa, 1, none⟩ = some (.string k.row) ∧ W.cell? ⟨bxa, 2, none⟩ = some (.int .i64 k.e) ∧ W.cell? ⟨bxa, 3, none⟩ = some (.int .i64 k.until_)) ∧ (W.cell? ⟨bxb, 0, none⟩ = some (.string k.name) ∧ W.cell? ⟨bxb, 1, none⟩ = some (.string k.row) ∧ W.cell? ⟨bxb, 2, none⟩ = some (.int .i64 k.e) ∧ W.cell? ⟨bxb, 3, none⟩ = some (.int .i64 k.until_))) ∧ Below w9.heap.size w9 W)
          (first | assumption | exact HSB.out _ (Below.refl _ _) | exact HSB.out _ (kept_call (by assumption) hbC) | exact HSB.out _ (Below.refl _ _).drew)
          (first
            | (go_at_call 14; (with_reducible refine (HC1.out _).mono ?_); rintro e wC ⟨rfl, hbC⟩)
            | (go_at_call 15; (with_reducible refine (HC2.out _).mono ?_); rintro e wC ⟨rfl, hbC⟩))
        all_goals
          have hb : Below w9.heap.size w9 wC := by first | exact kept_self (by assumption) | exact kept_call (by assumption) hbC | exact kept_call (by assumption) (Below.refl _ wC)
          clear HSB HC1 HC2 hne hgd hney hrr hii huu
          replace Hl := Lib.hid (Hl.out.below hb)
          replace Hm := Lib.hid (Hm.out.below hb)
          replace Hx7 := Lib.hid ((hb.block _ (lt_of_block Hx7.out)).trans Hx7.out)
          replace Hxa := Lib.hid ((hb.block _ (lt_of_block Hxa.out)).trans Hxa.out)
          replace Hxb := Lib.hid ((hb.block _ (lt_of_block Hxb.out)).trans Hxb.out)
          replace HB := Lib.hid (HB.out.trans (hb.mono HB.out.size))
          clear hb
          have HX := Lib.hid (HPt.out l more L a b c d wC (by omega) (by omega) hL.out Hl.out Hm.out)
          go_wp2_with fail
          with_reducible refine HX.out.mono ?_
          rintro e w9 ⟨a3, c3, rfl, hR, hb⟩
          clear HX
          replace Hl := Lib.hid (Hl.out.below hb)
          replace Hm := Lib.hid (Hm.out.below hb)
          replace Hx7 := Lib.hid ((hb.block _ (lt_of_block Hx7.out)).trans Hx7.out)
          replace Hxa := Lib.hid ((hb.block _ (lt_of_block Hxa.out)).trans Hxa.out)
          replace Hxb := Lib.hid ((hb.block _ (lt_of_block Hxb.out)).trans Hxb.out)
          replace HB := Lib.hid (HB.out.trans (hb.mono HB.out.size))
          clear hb
          have HP1 := Lib.hid hR
          clear hR
          have HX := Lib.hid (rput_any l more L hL.out a b c d w9 (by omega) Hl.out Hm.out)
          go_wp2_with fail
          with_reducible refine HX.out.mono ?_
          rintro e w10 ⟨a4, c4, rfl, hR, hb⟩
          clear HX
          replace Hl := Lib.hid (Hl.out.below hb)
          replace Hm := Lib.hid (Hm.out.below hb)
          replace HP1 := Lib.hid (HP1.out.below hb)
          replace Hx7 := Lib.hid ((hb.block _ (lt_of_block Hx7.out)).trans Hx7.out)
          replace Hxa := Lib.hid ((hb.block _ (lt_of_block Hxa.out)).trans Hxa.out)
          replace Hxb := Lib.hid ((hb.block _ (lt_of_block Hxb.out)).trans Hxb.out)
          replace HB := Lib.hid (HB.out.trans (hb.mono HB.out.size))
          clear hb
          have HP2 := Lib.hid hR
          clear hR
          have HX := Lib.hid (rsame_yes L a3 a4 c3 c4 w10 HP1.out HP2.out)
          go_wp2_with fail
          with_reducible refine HX.out.mono ?_
          rintro e w11 ⟨rfl, hb⟩
          clear HX
          replace Hl := Lib.hid (Hl.out.below hb)
          replace Hm := Lib.hid (Hm.out.below hb)
          replace HP1 := Lib.hid (HP1.out.below hb)
          replace HP2 := Lib.hid (HP2.out.below hb)
          replace Hx7 := Lib.hid ((hb.block _ (lt_of_block Hx7.out)).trans Hx7.out)
          replace Hxa := Lib.hid ((hb.block _ (lt_of_block Hxa.out)).trans Hxa.out)
          replace Hxb := Lib.hid ((hb.block _ (lt_of_block Hxb.out)).trans Hxb.out)
          replace HB := Lib.hid (HB.out.trans (hb.mono HB.out.size))
          clear hb
          clear HP1 HP2
          have HX := Lib.hid (HFr.out l M now a c w11 (by omega) hM.out Hl.out)
          go_wp2_with fail
          with_reducible refine HX.out.mono ?_
          rintro e w12 ⟨a5, c5, rfl, hR, hb⟩
          clear HX
          replace Hl := Lib.hid (Hl.out.below hb)
          replace Hm := Lib.hid (Hm.out.below hb)
          replace Hx7 := Lib.hid ((hb.block _ (lt_of_block Hx7.out)).trans Hx7.out)
          replace Hxa := Lib.hid ((hb.block _ (lt_of_block Hxa.out)).trans Hxa.out)
          replace Hxb := Lib.hid ((hb.block _ (lt_of_block Hxb.out)).trans Hxb.out)
          replace HB := Lib.hid (HB.out.trans (hb.mono HB.out.size))
          clear hb
          have HP1 := Lib.hid hR
          clear hR
          have HX := Lib.hid (rfreshs_any l now a c w12 (by omega) Hl.out)
          rw [← hM.out] at HX
          go_wp2_with fail
          with_reducible refine HX.out.mono ?_
          rintro e w20 ⟨a6, c6, rfl, hR, hb⟩
          clear HX
          replace Hl := Lib.hid (Hl.out.below hb)
          replace Hm := Lib.hid (Hm.out.below hb)
          replace HP1 := Lib.hid (HP1.out.below hb)
          replace Hx7 := Lib.hid ((hb.block _ (lt_of_block Hx7.out)).trans Hx7.out)
          replace Hxa := Lib.hid ((hb.block _ (lt_of_block Hxa.out)).trans Hxa.out)
          replace Hxb := Lib.hid ((hb.block _ (lt_of_block Hxb.out)).trans Hxb.out)
          replace HB := Lib.hid (HB.out.trans (hb.mono HB.out.size))
          clear hb
          have HP2 := Lib.hid hR
          clear hR
          have HX := Lib.hid (rsame_yes M a5 a6 c5 c6 w20 HP1.out HP2.out)
          go_wp2_with fail
          with_reducible refine HX.out.mono ?_
          rintro e w13 ⟨rfl, hb⟩
          clear HX
          replace Hl := Lib.hid (Hl.out.below hb)
          replace Hm := Lib.hid (Hm.out.below hb)
          replace HP1 := Lib.hid (HP1.out.below hb)
          replace HP2 := Lib.hid (HP2.out.below hb)
          replace Hx7 := Lib.hid ((hb.block _ (lt_of_block Hx7.out)).trans Hx7.out)
          replace Hxa := Lib.hid ((hb.block _ (lt_of_block Hxa.out)).trans Hxa.out)
          replace Hxb := Lib.hid ((hb.block _ (lt_of_block Hxb.out)).trans Hxb.out)
          replace HB := Lib.hid (HB.out.trans (hb.mono HB.out.size))
          clear hb
          clear HP1 HP2
          have HX := Lib.hid (HMy.out l a c v w13 (by omega) hv.out Hl.out)
          go_wp2_with fail
          with_reducible refine HX.out.mono ?_
          rintro e w14 ⟨rfl, hb⟩
          clear HX
          replace Hl := Lib.hid (Hl.out.below hb)
          replace Hm := Lib.hid (Hm.out.below hb)
          replace Hx7 := Lib.hid ((hb.block _ (lt_of_block Hx7.out)).trans Hx7.out)
          replace Hxa := Lib.hid ((hb.block _ (lt_of_block Hxa.out)).trans Hxa.out)
          replace Hxb := Lib.hid ((hb.block _ (lt_of_block Hxb.out)).trans Hxb.out)
          replace HB := Lib.hid (HB.out.trans (hb.mono HB.out.size))
          clear hb
          have HX := Lib.hid (rmay_any l a c w14 Hl.out)
          rw [← hv.out] at HX
          go_wp2_with fail
          with_reducible refine HX.out.mono ?_
          rintro e w22 ⟨rfl, hb⟩
          clear HX
          replace Hl := Lib.hid (Hl.out.below hb)
          replace Hm := Lib.hid (Hm.out.below hb)
          replace Hx7 := Lib.hid ((hb.block _ (lt_of_block Hx7.out)).trans Hx7.out)
          replace Hxa := Lib.hid ((hb.block _ (lt_of_block Hxa.out)).trans Hxa.out)
          replace Hxb := Lib.hid ((hb.block _ (lt_of_block Hxb.out)).trans Hxb.out)
          replace HB := Lib.hid (HB.out.trans (hb.mono HB.out.size))
          clear hb
          have hvv : (v == v) = true := by simp
          go_wp2_with fail
          with_reducible refine (HWk.out _).mono ?_
          rintro e wf ⟨rfl, hb⟩
          have HBf := Lib.hid (HB.out.trans (hb.mono HB.out.size))
          clear hb
          go_wp2_with fail
          go_ret
          exact ⟨rfl, HBf.out⟩
end Go.Proofs.Ytaealoodchkeaaa
