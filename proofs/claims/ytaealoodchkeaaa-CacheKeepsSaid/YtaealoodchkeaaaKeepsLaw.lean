/- CacheKeeps walked. -/
import Derived.Test.YtaealoodchkeaaaLawB
set_option linter.unusedSimpArgs false
set_option linter.unusedVariables false
namespace Go.Proofs.Ytaealoodchkeaaa
open R3 Go.RowKit Go.Proofs.Ytaealoodchkeaaa.Kind

theorem find_take {l : List Kn} {s : ByteArray} {k : Nat} {y : Kn} (hy : l[k]? = some y) : (findK (l.take (k + 1)) s).isSome = ((findK (l.take k) s).isSome || decide (y.name = s)) := by
  have : l.take (k + 1) = l.take k ++ [y] := by rw [List.take_add_one, hy]; rfl
  unfold findK
  rw [this, List.find?_append]
  cases h : List.find? (is s) (l.take k) with
  | some z => simp
  | none => by_cases hn : y.name = s <;> simp [is, hn]
set_option maxHeartbeats 40000000 in
set_option maxRecDepth 1000000 in
theorem cachekeeps_walk (HEn : EntrySpec) (HGt : GetSpec) (HPt : PutSpec) (HFr : FreshSpec) (HUn : UntilSpec) (HMy : MaySpec) (HWk : WakesSpec) (l : List Kn) (x : Kn) (now : Int) (s : ByteArray) (a : Option Addr) (c : Nat) (w : World) (hFl : ∀ y ∈ l, FitS y) (hFx : FitS x) (hA : KK.RowC w a c l) :
    Calls Try.prog 4 #[.slice a l.length c, x.v, .int .i64 now, .string s] w fun e w' => e = .returned (.bool true) ∧ Below w.heap.size w w' := by
  have HEn := Lib.hid (fun x s row e now y w h => HEn x s row e now y w h)
  have HGt := Lib.hid (fun l s n a c x r w h h1 h2 h3 => HGt l s n a c x r w h h1 h2 h3)
  have HPt := Lib.hid (fun l more L a b c d w h h1 h2 h3 h4 => HPt l more L a b c d w h h1 h2 h3 h4)
  have HFr := Lib.hid (fun l L n a c w h h1 h2 => HFr l L n a c w h h1 h2)
  have HUn := Lib.hid (fun l a c i t w h h1 h2 h3 => HUn l a c i t w h h1 h2 h3)
  have HMy := Lib.hid (fun l a c r w h h1 h2 => HMy l a c r w h h1 h2)
  have HWk := Lib.hid (fun w => HWk w)
  have HB := Lib.hid (Below.refl w.heap.size w)
  have HFl := Lib.hid hFl
  have HFx := Lib.hid hFx
  have Hl := Lib.hid hA
  clear hFl hFx hA
  simp only [Kn.v]
  go_enter Try.func4, Try.ntmps4
  go_upto_region 1 with fail
  obtain ⟨q1, hq1⟩ : ∃ X, X = w.alloc (.cells #[.string x.name, .string x.row, .int .i64 x.e, .int .i64 x.until_] 29) := ⟨_, rfl⟩
  have hb : Below w.heap.size w q1 := by rw [hq1]; exact below1 _ _
  have hL := laid1 w (.cells #[.string x.name, .string x.row, .int .i64 x.e, .int .i64 x.until_] 29)
  rw [← hq1] at hL ⊢
  clear hq1
  obtain ⟨bx, hbx⟩ : ∃ n, n = w.heap.size := ⟨_, rfl⟩
  rw [← hbx] at hL ⊢
  have hsx : w.heap.size ≤ bx := by rw [hbx]; exact HB.out.size
  clear hbx
  replace Hl := Lib.hid (Hl.out.below hb)
  replace HB := Lib.hid (HB.out.trans (hb.mono HB.out.size))
  clear hb
  have Hx := Lib.hid hL
  clear hL
  have HX := Lib.hid (rgreat_any l a c q1 HFl.out Hl.out)
  go_wp2_with fail
  with_reducible refine HX.out.mono ?_
  rintro e w2 ⟨⟨r1, rfl, hf1⟩, hb⟩
  clear HX
  replace Hl := Lib.hid (Hl.out.below hb)
  replace Hx := Lib.hid ((hb.block _ (lt_of_block Hx.out)).trans Hx.out)
  replace HB := Lib.hid (HB.out.trans (hb.mono HB.out.size))
  clear hb
  have HF1 := Lib.hid hf1
  clear hf1
  cases r1 with
  | true =>
    go_wp2_with fail
    with_reducible refine (HWk.out _).mono ?_
    rintro e wf ⟨rfl, hb⟩
    have HBf := Lib.hid (HB.out.trans (hb.mono HB.out.size))
    clear hb
    go_wp2_with fail
    go_ret
    exact ⟨rfl, HBf.out⟩
  | false =>
    have HX := Lib.hid (rgreat_any [x] (some ⟨w2.heap.size, 0, none⟩) 1 (w2.alloc (.cells #[.string x.name, .string x.row, .int .i64 x.e, .int .i64 x.until_] 29)) (by intro y hy; simp at hy; rw [hy]; exact HFx.out) (rowC_at (K := KK) w2 29 [x] #[.string x.name, .string x.row, .int .i64 x.e, .int .i64 x.until_] w2.heap.size 1 rfl rfl rfl (by simp)))
    simp only [List.length_cons, List.length_nil, Nat.zero_add, Nat.reduceAdd] at HX
    obtain ⟨⟨c_x_0, c_x_1, c_x_2, c_x_3⟩, f_x_0, f_x_1, f_x_2, f_x_3⟩ := box_4 Hx.out
    go_wp2_with fail
    with_reducible refine HX.out.mono ?_
    rintro e w3 ⟨⟨r2, rfl, hf2⟩, hb⟩
    clear c_x_0 c_x_1 c_x_2 c_x_3 f_x_0 f_x_1 f_x_2 f_x_3
    clear HX
    replace hb := (below1 w2 (.cells #[.string x.name, .string x.row, .int .i64 x.e, .int .i64 x.until_] 29)).trans (hb.mono (by simp))
    replace Hl := Lib.hid (Hl.out.below hb)
    replace Hx := Lib.hid ((hb.block _ (lt_of_block Hx.out)).trans Hx.out)
    replace HB := Lib.hid (HB.out.trans (hb.mono HB.out.size))
    clear hb
    clear hf2
    cases r2 with
    | true =>
      go_wp2_with fail
      with_reducible refine (HWk.out _).mono ?_
      rintro e wf ⟨rfl, hb⟩
      have HBf := Lib.hid (HB.out.trans (hb.mono HB.out.size))
      clear hb
      go_wp2_with fail
      go_ret
      exact ⟨rfl, HBf.out⟩
    | false =>
      have HW1 := Lib.hid (HF1.out (by first | rfl | trivial))
      have hll : l.length ≤ 60 := HW1.out.1
      by_cases hq : (2000 : Int) < (s.size : Int)
      · go_wp2_with fail
        with_reducible refine (HWk.out _).mono ?_
        rintro e wf ⟨rfl, hb⟩
        have HBf := Lib.hid (HB.out.trans (hb.mono HB.out.size))
        clear hb
        go_wp2_with fail
        go_ret
        exact ⟨rfl, HBf.out⟩
      · obtain ⟨v, hv⟩ : ∃ v, v = mayK l := ⟨_, rfl⟩
        replace hv := Lib.hid hv
        have HX := Lib.hid (rmay_any l a c w3 Hl.out)
        rw [← hv.out] at HX
        go_wp2_with fail
        with_reducible refine HX.out.mono ?_
        rintro e w31 ⟨rfl, hb⟩
        clear HX
        replace Hl := Lib.hid (Hl.out.below hb)
        replace Hx := Lib.hid ((hb.block _ (lt_of_block Hx.out)).trans Hx.out)
        replace HB := Lib.hid (HB.out.trans (hb.mono HB.out.size))
        clear hb
        cases v with
        | false =>
          go_wp2_with fail
          with_reducible refine (HWk.out _).mono ?_
          rintro e wf ⟨rfl, hb⟩
          have HBf := Lib.hid (HB.out.trans (hb.mono HB.out.size))
          clear hb
          go_wp2_with fail
          go_ret
          exact ⟨rfl, HBf.out⟩
        | true =>
          obtain ⟨v2, hv2⟩ : ∃ v, v = mayK [x] := ⟨_, rfl⟩
          replace hv2 := Lib.hid hv2
          have HX := Lib.hid (hv2.out ▸ rmay_any [x] (some ⟨w31.heap.size, 0, none⟩) 1 (w31.alloc (.cells #[.string x.name, .string x.row, .int .i64 x.e, .int .i64 x.until_] 29)) (rowC_at (K := KK) w31 29 [x] #[.string x.name, .string x.row, .int .i64 x.e, .int .i64 x.until_] w31.heap.size 1 rfl rfl rfl (by simp)))
          simp only [List.length_cons, List.length_nil, Nat.zero_add, Nat.reduceAdd] at HX
          obtain ⟨⟨c_x_0, c_x_1, c_x_2, c_x_3⟩, f_x_0, f_x_1, f_x_2, f_x_3⟩ := box_4 Hx.out
          go_wp2_with fail
          with_reducible refine HX.out.mono ?_
          rintro e w4 ⟨rfl, hb⟩
          clear c_x_0 c_x_1 c_x_2 c_x_3 f_x_0 f_x_1 f_x_2 f_x_3
          clear HX
          replace hb := (below1 w31 (.cells #[.string x.name, .string x.row, .int .i64 x.e, .int .i64 x.until_] 29)).trans (hb.mono (by simp))
          replace Hl := Lib.hid (Hl.out.below hb)
          replace Hx := Lib.hid ((hb.block _ (lt_of_block Hx.out)).trans Hx.out)
          replace HB := Lib.hid (HB.out.trans (hb.mono HB.out.size))
          clear hb
          cases v2 with
          | false =>
            go_wp2_with fail
            with_reducible refine (HWk.out _).mono ?_
            rintro e wf ⟨rfl, hb⟩
            have HBf := Lib.hid (HB.out.trans (hb.mono HB.out.size))
            clear hb
            go_wp2_with fail
            go_ret
            exact ⟨rfl, HBf.out⟩
          | true =>
            obtain ⟨L, hL⟩ : ∃ L, L = putK l [x] := ⟨_, rfl⟩
            have hup : Up l := (may_iff.1 hv.out.symm).2
            have HML := Lib.hid (show true = mayK L by rw [hL]; exact (put_may hv.out.symm hv2.out.symm).symm)
            have HLn := Lib.hid (show L.length = if (findK l x.name).isSome then l.length else l.length + 1 by rw [hL]; exact put_len hup)
            have HLA := Lib.hid (show L = putK L [x] by rw [hL]; exact (put_again hup).symm)
            have HGL := Lib.hid (show ∀ n, getK L x.name n = if freshB n x then some x else none from fun n => by rw [hL]; exact get_put hup n)
            have HGO := Lib.hid (show s ≠ x.name → ∀ n, getK L s n = getK l s n from fun h n => by rw [hL]; exact get_other hup h n)
            have hLl : L.length ≤ 61 := by rw [HLn.out]; split <;> omega
            replace hL := Lib.hid hL
            clear hup
            have HX := Lib.hid (HPt.out l [x] L a (some ⟨w4.heap.size, 0, none⟩) c 1 (w4.alloc (.cells #[.string x.name, .string x.row, .int .i64 x.e, .int .i64 x.until_] 29)) (by omega) (by simp) hL.out (Hl.out.below (below1 w4 (.cells #[.string x.name, .string x.row, .int .i64 x.e, .int .i64 x.until_] 29))) (rowC_at (K := KK) w4 29 [x] #[.string x.name, .string x.row, .int .i64 x.e, .int .i64 x.until_] w4.heap.size 1 rfl rfl rfl (by simp)))
            simp only [List.length_cons, List.length_nil, Nat.zero_add, Nat.reduceAdd] at HX
            obtain ⟨⟨c_x_0, c_x_1, c_x_2, c_x_3⟩, f_x_0, f_x_1, f_x_2, f_x_3⟩ := box_4 Hx.out
            go_wp2_with fail
            with_reducible refine HX.out.mono ?_
            rintro e w5 ⟨a1, c1, rfl, hR, hb⟩
            clear c_x_0 c_x_1 c_x_2 c_x_3 f_x_0 f_x_1 f_x_2 f_x_3
            clear HX
            replace hb := (below1 w4 (.cells #[.string x.name, .string x.row, .int .i64 x.e, .int .i64 x.until_] 29)).trans (hb.mono (by simp))
            replace Hl := Lib.hid (Hl.out.below hb)
            replace Hx := Lib.hid ((hb.block _ (lt_of_block Hx.out)).trans Hx.out)
            replace HB := Lib.hid (HB.out.trans (hb.mono HB.out.size))
            clear hb
            have Hm := Lib.hid hR
            clear hR
            obtain ⟨fb, hfb⟩ : ∃ fb, fb = freshB now x := ⟨_, rfl⟩
            obtain ⟨k, hk, hkr⟩ : ∃ k, k = getV L x.name now ∧ (if fb = true then k = x else k = Kn.no) := ⟨_, rfl, by unfold getV; rw [HGL.out, ← hfb]; cases fb <;> rfl⟩
            have hrb : fb = getB L x.name now := by unfold getB; rw [HGL.out, ← hfb]; cases fb <;> rfl
            have hcl : decide (P.clamp now < P.clamp x.until_) = fb := hfb.symm
            replace hk := Lib.hid hk
            replace hrb := Lib.hid hrb
            replace hkr := Lib.hid hkr
            replace hcl := Lib.hid hcl
            clear hfb
            have HX := Lib.hid (HGt.out L x.name now a1 c1 k fb w5 (by omega) hk.out hrb.out Hm.out)
            simp only [Kn.v] at HX
            obtain ⟨⟨c_x_0, c_x_1, c_x_2, c_x_3⟩, f_x_0, f_x_1, f_x_2, f_x_3⟩ := box_4 Hx.out
            go_wp2_with fail
            with_reducible refine HX.out.mono ?_
            rintro e w6 ⟨rfl, hb⟩
            clear c_x_0 c_x_1 c_x_2 c_x_3 f_x_0 f_x_1 f_x_2 f_x_3
            clear HX
            replace Hl := Lib.hid (Hl.out.below hb)
            replace Hm := Lib.hid (Hm.out.below hb)
            replace Hx := Lib.hid ((hb.block _ (lt_of_block Hx.out)).trans Hx.out)
            replace HB := Lib.hid (HB.out.trans (hb.mono HB.out.size))
            clear hb
            simp only [Kn.v]
            go_upto_region 5 with fail
            obtain ⟨q7, hq7⟩ : ∃ X, X = w6.alloc (.cells #[.string k.name, .string k.row, .int .i64 k.e, .int .i64 k.until_] 29) := ⟨_, rfl⟩
            have hb : Below w6.heap.size w6 q7 := by rw [hq7]; exact below1 _ _
            have hL := laid1 w6 (.cells #[.string k.name, .string k.row, .int .i64 k.e, .int .i64 k.until_] 29)
            rw [← hq7] at hL ⊢
            clear hq7
            obtain ⟨bxa, hbxa⟩ : ∃ n, n = w6.heap.size := ⟨_, rfl⟩
            rw [← hbxa] at hL ⊢
            have hsxa : w.heap.size ≤ bxa := by rw [hbxa]; exact HB.out.size
            clear hbxa
            replace Hl := Lib.hid (Hl.out.below hb)
            replace Hm := Lib.hid (Hm.out.below hb)
            replace Hx := Lib.hid ((hb.block _ (lt_of_block Hx.out)).trans Hx.out)
            replace HB := Lib.hid (HB.out.trans (hb.mono HB.out.size))
            clear hb
            have Hxa := Lib.hid hL
            clear hL
            cases fb with
            | false =>
              obtain rfl : k = Kn.no := by have h := hkr.out; simpa using h
              clear hkr
              have HSB := Lib.hid (show ∀ W : World, Below q7.heap.size q7 W → ((W.cell? ⟨bx, 0, none⟩ = some (.string x.name) ∧ W.cell? ⟨bx, 1, none⟩ = some (.string x.row) ∧ W.cell? ⟨bx, 2, none⟩ = some (.int .i64 x.e) ∧ W.cell? ⟨bx, 3, none⟩ = some (.int .i64 x.until_)) ∧ (W.cell? ⟨bxa, 0, none⟩ = some (.string Kn.no.name) ∧ W.cell? ⟨bxa, 1, none⟩ = some (.string Kn.no.row) ∧ W.cell? ⟨bxa, 2, none⟩ = some (.int .i64 Kn.no.e) ∧ W.cell? ⟨bxa, 3, none⟩ = some (.int .i64 Kn.no.until_))) ∧ Below q7.heap.size q7 W from fun W h => ⟨⟨(box_4 ((h.block _ (lt_of_block Hx.out)).trans Hx.out)).1, (box_4 ((h.block _ (lt_of_block Hxa.out)).trans Hxa.out)).1⟩, h⟩)
              have HC1 := Lib.hid (fun W => rclamp_any now W)
              have HC2 := Lib.hid (fun W => rclamp_any x.until_ W)
              have HC3 := Lib.hid (fun W (h : Below q7.heap.size q7 W) => HMy.out L a1 c1 true W (by omega) HML.out (Hm.out.below h))
              have hno1 : Kn.no.name.toList = [] := text_no
              have hno2 : Kn.no.row.toList = [] := text_no
              have hno3 : Kn.no.e = 0 := rfl
              have hno4 : Kn.no.until_ = 0 := rfl
              have hcl9 := hcl.out
              have hnk := neq_self_Kn Kn.no
              have hgd := guard_Kn
              refine wp_region_held_drew (S := (fun W => ((W.cell? ⟨bx, 0, none⟩ = some (.string x.name) ∧ W.cell? ⟨bx, 1, none⟩ = some (.string x.row) ∧ W.cell? ⟨bx, 2, none⟩ = some (.int .i64 x.e) ∧ W.cell? ⟨bx, 3, none⟩ = some (.int .i64 x.until_)) ∧ (W.cell? ⟨bxa, 0, none⟩ = some (.string Kn.no.name) ∧ W.cell? ⟨bxa, 1, none⟩ = some (.string Kn.no.row) ∧ W.cell? ⟨bxa, 2, none⟩ = some (.int .i64 Kn.no.e) ∧ W.cell? ⟨bxa, 3, none⟩ = some (.int .i64 Kn.no.until_))) ∧ Below q7.heap.size q7 W)) (by kernel_rfl) ?_ (fun hHeld => ?_)
              · (first | assumption | exact HSB.out _ (kept_call (by assumption) hbC) | exact HSB.out _ (Below.refl _ _).drew | exact HSB.out _ (Below.refl _ _))
              refine wpAnyH_take (i := 0) (oi := { dst := some 54, op := Go.Op.move (Go.Operand.tmp 11), type := 4, pos := "law.go:44", after := #[], guard := none }) (v := ?_) rfl (by kernel_rfl) (by kernel_rfl) (by kernel_rfl) (fun _ _ _ h => h) (Or.inl ⟨by rfl, ?_⟩) (by assumption) ?_
              rotate_left
              · (intro w hSw; (try dsimp only at hSw); go_simp; try with_reducible rfl)
              simp only [Act.put, List.setIfInBounds_toArray, List.set_cons_zero, List.set_cons_succ]
              refine wpAnyH_take (i := 1) (oi := { dst := some 55, op := Go.Op.move (Go.Operand.tmp 2), type := 3, pos := "law.go:44", after := #[], guard := none }) (v := ?_) rfl (by kernel_rfl) (by kernel_rfl) (by kernel_rfl) (fun _ _ _ h => h) (Or.inl ⟨by rfl, ?_⟩) (by assumption) ?_
              rotate_left
              · (intro w hSw; (try dsimp only at hSw); go_simp; try with_reducible rfl)
              simp only [Act.put, List.setIfInBounds_toArray, List.set_cons_zero, List.set_cons_succ]
              refine wpAnyH_take (i := 3) (oi := { dst := some 57, op := Go.Op.fieldAddr 29 (Go.Operand.tmp 5) 3, type := 0, pos := "law.go:44", after := #[], guard := none }) (v := ?_) rfl (by kernel_rfl) (by kernel_rfl) (by kernel_rfl) (fun _ _ _ h => h) (Or.inl ⟨by rfl, ?_⟩) (by assumption) ?_
              rotate_left
              · (intro w hSw; (try dsimp only at hSw); go_simp; try with_reducible rfl)
              simp only [Act.put, List.setIfInBounds_toArray, List.set_cons_zero, List.set_cons_succ]
              refine wpAnyH_take (i := 4) (oi := { dst := some 58, op := Go.Op.load 3 (Go.Operand.tmp 57), type := 3, pos := "law.go:44", after := #[{ on := 3, ground := Go.Ground.data }], guard := none }) (v := ?_) rfl (by kernel_rfl) (by kernel_rfl) (by kernel_rfl) (fun _ _ _ h => h) (Or.inl ⟨by rfl, ?_⟩) (by assumption) ?_
              rotate_left
              · (intro w hSw; (try dsimp only at hSw); go_simp; try with_reducible rfl)
              simp only [Act.put, List.setIfInBounds_toArray, List.set_cons_zero, List.set_cons_succ]
              refine wpAnyH_ready (rs := [2]) (by kernel_rfl) (by simp) ?_
              refine AllReadyH.cons (o := { dst := some 56, op := Go.Op.call { callee := Go.Callee.value (Go.Operand.func 23), args := #[Go.Operand.tmp 55], argTypes := #[3] }, type := 3, pos := "law.go:44", after := #[{ on := 1, ground := Go.Ground.data }], guard := none }) rfl (fun K hK => ?_) AllReadyH.nil
              go_simp
              go_at_call 23; (with_reducible refine (HC1.out _).mono ?_); rintro e wC ⟨rfl, rfl⟩
              go_wp2_with fail
              refine hK.out _ _ ?_ (fun hHeld2 => ?_)
              · (first | assumption | exact HSB.out _ (kept_call (by assumption) hbC) | exact HSB.out _ (Below.refl _ _).drew | exact HSB.out _ (Below.refl _ _))
              clear hK K
              try simp only [Act.put, List.setIfInBounds_toArray, List.set_cons_zero, List.set_cons_succ]
              refine wpAnyH_ready (rs := [5]) (by kernel_rfl) (by simp) ?_
              refine AllReadyH.cons (o := { dst := some 59, op := Go.Op.call { callee := Go.Callee.value (Go.Operand.func 23), args := #[Go.Operand.tmp 58], argTypes := #[3] }, type := 3, pos := "law.go:44", after := #[{ on := 4, ground := Go.Ground.data }, { on := 2, ground := Go.Ground.chain }], guard := none }) rfl (fun K hK => ?_) AllReadyH.nil
              go_simp
              go_at_call 23; (with_reducible refine (HC2.out _).mono ?_); rintro e wC ⟨rfl, rfl⟩
              go_wp2_with fail
              refine hK.out _ _ ?_ (fun hHeld2 => ?_)
              · (first | assumption | exact HSB.out _ (kept_call (by assumption) hbC) | exact HSB.out _ (Below.refl _ _).drew | exact HSB.out _ (Below.refl _ _))
              clear hK K
              try simp only [Act.put, List.setIfInBounds_toArray, List.set_cons_zero, List.set_cons_succ]
              refine wpAnyH_take (i := 6) (oi := { dst := some 60, op := Go.Op.binOp Go.BinOp.lss 3 (Go.Operand.tmp 56) (Go.Operand.tmp 59) 3, type := 4, pos := "law.go:44", after := #[{ on := 2, ground := Go.Ground.data }, { on := 5, ground := Go.Ground.data }], guard := none }) (v := ?_) rfl (by kernel_rfl) (by kernel_rfl) (by kernel_rfl) (fun _ _ _ h => h) (Or.inl ⟨by rfl, ?_⟩) (by assumption) ?_
              rotate_left
              · (intro w hSw; (try dsimp only at hSw); go_simp; try with_reducible rfl)
              simp only [Act.put, List.setIfInBounds_toArray, List.set_cons_zero, List.set_cons_succ]
              refine wpAnyH_take (i := 7) (oi := { dst := some 61, op := Go.Op.binOp Go.BinOp.neq 4 (Go.Operand.tmp 54) (Go.Operand.tmp 60) 4, type := 4, pos := "law.go:44", after := #[{ on := 0, ground := Go.Ground.data }, { on := 6, ground := Go.Ground.data }], guard := none }) (v := ?_) rfl (by kernel_rfl) (by kernel_rfl) (by kernel_rfl) (fun _ _ _ h => h) (Or.inl ⟨by rfl, ?_⟩) (by assumption) ?_
              rotate_left
              · (intro w hSw; (try dsimp only at hSw); go_simp; try with_reducible rfl)
              simp only [Act.put, List.setIfInBounds_toArray, List.set_cons_zero, List.set_cons_succ]
              refine wpAnyH_take (i := 8) (oi := { dst := some 62, op := Go.Op.move (Go.Operand.tmp 61), type := 4, pos := "law.go:44", after := #[{ on := 7, ground := Go.Ground.data }, { on := 5, ground := Go.Ground.chain }], guard := none }) (v := ?_) rfl (by kernel_rfl) (by kernel_rfl) (by kernel_rfl) (fun _ _ _ h => h) (Or.inl ⟨by rfl, ?_⟩) (by assumption) ?_
              rotate_left
              · (intro w hSw; (try dsimp only at hSw); go_simp; try with_reducible rfl)
              simp only [Act.put, List.setIfInBounds_toArray, List.set_cons_zero, List.set_cons_succ]
              refine wpAnyH_take (i := 9) (oi := { dst := some 63, op := Go.Op.move (Go.Operand.tmp 11), type := 4, pos := "law.go:44", after := #[{ on := 8, ground := Go.Ground.guard }], guard := some (8, false) }) (v := ?_) rfl (by kernel_rfl) (by kernel_rfl) (by kernel_rfl) (fun _ _ _ h => h) (Or.inl ⟨by rfl, ?_⟩) (by assumption) ?_
              rotate_left
              · (intro w hSw; (try dsimp only at hSw); go_simp; try with_reducible rfl)
              simp only [Act.put, List.setIfInBounds_toArray, List.set_cons_zero, List.set_cons_succ]
              refine wpAnyH_take (i := 10) (oi := { dst := some 64, op := Go.Op.move (Go.Operand.tmp 63), type := 4, pos := "law.go:44", after := #[{ on := 9, ground := Go.Ground.data }, { on := 8, ground := Go.Ground.chain }, { on := 8, ground := Go.Ground.guard }], guard := some (8, false) }) (v := ?_) rfl (by kernel_rfl) (by kernel_rfl) (by kernel_rfl) (fun _ _ _ h => h) (Or.inl ⟨by rfl, ?_⟩) (by assumption) ?_
              rotate_left
              · (intro w hSw; (try dsimp only at hSw); go_simp; try with_reducible rfl)
              simp only [Act.put, List.setIfInBounds_toArray, List.set_cons_zero, List.set_cons_succ]
              refine wpAnyH_take (i := 11) (oi := { dst := some 65, op := Go.Op.load 29 (Go.Operand.tmp 10), type := 29, pos := "law.go:44", after := #[{ on := 10, ground := Go.Ground.guard }], guard := some (10, true) }) (v := undef) rfl (by kernel_rfl) (by kernel_rfl) (by kernel_rfl) (fun _ _ _ h => h) (Or.inr ⟨by rfl, rfl⟩) (by assumption) ?_
              simp only [Act.put, List.setIfInBounds_toArray, List.set_cons_zero, List.set_cons_succ]
              refine wpAnyH_take (i := 12) (oi := { dst := some 66, op := Go.Op.load 29 (Go.Operand.tmp 5), type := 29, pos := "law.go:44", after := #[{ on := 10, ground := Go.Ground.guard }], guard := some (10, true) }) (v := undef) rfl (by kernel_rfl) (by kernel_rfl) (by kernel_rfl) (fun _ _ _ h => h) (Or.inr ⟨by rfl, rfl⟩) (by assumption) ?_
              simp only [Act.put, List.setIfInBounds_toArray, List.set_cons_zero, List.set_cons_succ]
              refine wpAnyH_take (i := 13) (oi := { dst := some 67, op := Go.Op.binOp Go.BinOp.neq 29 (Go.Operand.tmp 65) (Go.Operand.tmp 66) 29, type := 4, pos := "law.go:44", after := #[{ on := 11, ground := Go.Ground.data }, { on := 12, ground := Go.Ground.data }, { on := 10, ground := Go.Ground.guard }], guard := some (10, true) }) (v := undef) rfl (by kernel_rfl) (by kernel_rfl) (by kernel_rfl) (fun _ _ _ h => h) (Or.inr ⟨by rfl, rfl⟩) (by assumption) ?_
              simp only [Act.put, List.setIfInBounds_toArray, List.set_cons_zero, List.set_cons_succ]
              refine wpAnyH_take (i := 14) (oi := { dst := some 68, op := Go.Op.pick (Go.Operand.tmp 64) (Go.Operand.tmp 67) (Go.Operand.const (Go.Value.bool false)), type := 4, pos := "law.go:44", after := #[{ on := 10, ground := Go.Ground.data }, { on := 13, ground := Go.Ground.data }, { on := 8, ground := Go.Ground.guard }], guard := some (8, false) }) (v := ?_) rfl (by kernel_rfl) (by kernel_rfl) (by kernel_rfl) (fun _ _ _ h => h) (Or.inl ⟨by rfl, ?_⟩) (by assumption) ?_
              rotate_left
              · (intro w hSw; (try dsimp only at hSw); go_simp; try with_reducible rfl)
              simp only [Act.put, List.setIfInBounds_toArray, List.set_cons_zero, List.set_cons_succ]
              refine wpAnyH_take (i := 15) (oi := { dst := some 69, op := Go.Op.pick (Go.Operand.tmp 62) (Go.Operand.const (Go.Value.bool true)) (Go.Operand.tmp 68), type := 4, pos := "law.go:44", after := #[{ on := 8, ground := Go.Ground.data }, { on := 14, ground := Go.Ground.data }], guard := none }) (v := ?_) rfl (by kernel_rfl) (by kernel_rfl) (by kernel_rfl) (fun _ _ _ h => h) (Or.inl ⟨by rfl, ?_⟩) (by assumption) ?_
              rotate_left
              · (intro w hSw; (try dsimp only at hSw); go_simp; try with_reducible rfl)
              simp only [Act.put, List.setIfInBounds_toArray, List.set_cons_zero, List.set_cons_succ]
              refine wpAnyH_take (i := 16) (oi := { dst := some 70, op := Go.Op.move (Go.Operand.tmp 69), type := 4, pos := "law.go:44", after := #[{ on := 15, ground := Go.Ground.data }, { on := 10, ground := Go.Ground.chain }], guard := none }) (v := ?_) rfl (by kernel_rfl) (by kernel_rfl) (by kernel_rfl) (fun _ _ _ h => h) (Or.inl ⟨by rfl, ?_⟩) (by assumption) ?_
              rotate_left
              · (intro w hSw; (try dsimp only at hSw); go_simp; try with_reducible rfl)
              simp only [Act.put, List.setIfInBounds_toArray, List.set_cons_zero, List.set_cons_succ]
              refine wpAnyH_take (i := 17) (oi := { dst := some 71, op := Go.Op.move (Go.Operand.tmp 11), type := 4, pos := "law.go:44", after := #[{ on := 16, ground := Go.Ground.guard }], guard := some (16, false) }) (v := ?_) rfl (by kernel_rfl) (by kernel_rfl) (by kernel_rfl) (fun _ _ _ h => h) (Or.inl ⟨by rfl, ?_⟩) (by assumption) ?_
              rotate_left
              · (intro w hSw; (try dsimp only at hSw); go_simp; try with_reducible rfl)
              simp only [Act.put, List.setIfInBounds_toArray, List.set_cons_zero, List.set_cons_succ]
              refine wpAnyH_take (i := 18) (oi := { dst := some 72, op := Go.Op.unOp Go.UnOp.not 4 (Go.Operand.tmp 71), type := 4, pos := "law.go:44", after := #[{ on := 17, ground := Go.Ground.data }, { on := 16, ground := Go.Ground.guard }], guard := some (16, false) }) (v := ?_) rfl (by kernel_rfl) (by kernel_rfl) (by kernel_rfl) (fun _ _ _ h => h) (Or.inl ⟨by rfl, ?_⟩) (by assumption) ?_
              rotate_left
              · (intro w hSw; (try dsimp only at hSw); go_simp; try with_reducible rfl)
              simp only [Act.put, List.setIfInBounds_toArray, List.set_cons_zero, List.set_cons_succ]
              refine wpAnyH_take (i := 19) (oi := { dst := some 73, op := Go.Op.move (Go.Operand.tmp 72), type := 4, pos := "law.go:44", after := #[{ on := 18, ground := Go.Ground.data }, { on := 16, ground := Go.Ground.chain }, { on := 16, ground := Go.Ground.guard }], guard := some (16, false) }) (v := ?_) rfl (by kernel_rfl) (by kernel_rfl) (by kernel_rfl) (fun _ _ _ h => h) (Or.inl ⟨by rfl, ?_⟩) (by assumption) ?_
              rotate_left
              · (intro w hSw; (try dsimp only at hSw); go_simp; try with_reducible rfl)
              simp only [Act.put, List.setIfInBounds_toArray, List.set_cons_zero, List.set_cons_succ]
              refine wpAnyH_take (i := 20) (oi := { dst := some 74, op := Go.Op.load 29 (Go.Operand.tmp 10), type := 29, pos := "law.go:44", after := #[{ on := 19, ground := Go.Ground.guard }], guard := some (19, true) }) (v := ?_) rfl (by kernel_rfl) (by kernel_rfl) (by kernel_rfl) (fun _ _ _ h => h) (Or.inl ⟨by rfl, ?_⟩) (by assumption) ?_
              rotate_left
              · (intro w hSw; (try dsimp only at hSw); go_simp; try with_reducible rfl)
              simp only [Act.put, List.setIfInBounds_toArray, List.set_cons_zero, List.set_cons_succ]
              refine wpAnyH_take (i := 21) (oi := { dst := some 75, op := Go.Op.build 29 #[], type := 29, pos := "law.go:44", after := #[{ on := 19, ground := Go.Ground.guard }], guard := some (19, true) }) (v := ?_) rfl (by kernel_rfl) (by kernel_rfl) (by kernel_rfl) (fun _ _ _ h => h) (Or.inl ⟨by rfl, ?_⟩) (by assumption) ?_
              rotate_left
              · (intro w hSw; (try dsimp only at hSw); go_simp; try with_reducible rfl)
              simp only [Act.put, List.setIfInBounds_toArray, List.set_cons_zero, List.set_cons_succ]
              refine wpAnyH_take (i := 22) (oi := { dst := some 76, op := Go.Op.binOp Go.BinOp.neq 29 (Go.Operand.tmp 74) (Go.Operand.tmp 75) 29, type := 4, pos := "law.go:44", after := #[{ on := 20, ground := Go.Ground.data }, { on := 21, ground := Go.Ground.data }, { on := 19, ground := Go.Ground.guard }], guard := some (19, true) }) (v := ?_) rfl (by kernel_rfl) (by kernel_rfl) (by kernel_rfl) (fun _ _ _ h => h) (Or.inl ⟨by rfl, ?_⟩) (by assumption) ?_
              rotate_left
              · (intro w hSw; (try dsimp only at hSw); go_simp; try with_reducible rfl)
              simp only [Act.put, List.setIfInBounds_toArray, List.set_cons_zero, List.set_cons_succ]
              refine wpAnyH_take (i := 23) (oi := { dst := some 77, op := Go.Op.pick (Go.Operand.tmp 73) (Go.Operand.tmp 76) (Go.Operand.const (Go.Value.bool false)), type := 4, pos := "law.go:44", after := #[{ on := 19, ground := Go.Ground.data }, { on := 22, ground := Go.Ground.data }, { on := 16, ground := Go.Ground.guard }], guard := some (16, false) }) (v := ?_) rfl (by kernel_rfl) (by kernel_rfl) (by kernel_rfl) (fun _ _ _ h => h) (Or.inl ⟨by rfl, ?_⟩) (by assumption) ?_
              rotate_left
              · (intro w hSw; (try dsimp only at hSw); go_simp; try with_reducible rfl)
              simp only [Act.put, List.setIfInBounds_toArray, List.set_cons_zero, List.set_cons_succ]
              refine wpAnyH_take (i := 24) (oi := { dst := some 78, op := Go.Op.pick (Go.Operand.tmp 70) (Go.Operand.const (Go.Value.bool true)) (Go.Operand.tmp 77), type := 4, pos := "law.go:44", after := #[{ on := 16, ground := Go.Ground.data }, { on := 23, ground := Go.Ground.data }], guard := none }) (v := ?_) rfl (by kernel_rfl) (by kernel_rfl) (by kernel_rfl) (fun _ _ _ h => h) (Or.inl ⟨by rfl, ?_⟩) (by assumption) ?_
              rotate_left
              · (intro w hSw; (try dsimp only at hSw); go_simp; try with_reducible rfl)
              simp only [Act.put, List.setIfInBounds_toArray, List.set_cons_zero, List.set_cons_succ]
              refine wpAnyH_take (i := 25) (oi := { dst := some 79, op := Go.Op.move (Go.Operand.tmp 78), type := 4, pos := "law.go:44", after := #[{ on := 24, ground := Go.Ground.data }, { on := 19, ground := Go.Ground.chain }], guard := none }) (v := ?_) rfl (by kernel_rfl) (by kernel_rfl) (by kernel_rfl) (fun _ _ _ h => h) (Or.inl ⟨by rfl, ?_⟩) (by assumption) ?_
              rotate_left
              · (intro w hSw; (try dsimp only at hSw); go_simp; try with_reducible rfl)
              simp only [Act.put, List.setIfInBounds_toArray, List.set_cons_zero, List.set_cons_succ]
              refine wpAnyH_take (i := 26) (oi := { dst := some 80, op := Go.Op.move (Go.Operand.tmp 9), type := 24, pos := "law.go:44", after := #[{ on := 25, ground := Go.Ground.guard }], guard := some (25, false) }) (v := ?_) rfl (by kernel_rfl) (by kernel_rfl) (by kernel_rfl) (fun _ _ _ h => h) (Or.inl ⟨by rfl, ?_⟩) (by assumption) ?_
              rotate_left
              · (intro w hSw; (try dsimp only at hSw); go_simp; try with_reducible rfl)
              simp only [Act.put, List.setIfInBounds_toArray, List.set_cons_zero, List.set_cons_succ]
              refine wpAnyH_ready (rs := [27]) (by kernel_rfl) (by simp) ?_
              refine AllReadyH.cons (o := { dst := some 81, op := Go.Op.call { callee := Go.Callee.value (Go.Operand.func 21), args := #[Go.Operand.tmp 80], argTypes := #[24] }, type := 4, pos := "law.go:44", after := #[{ on := 26, ground := Go.Ground.data }, { on := 25, ground := Go.Ground.chain }, { on := 25, ground := Go.Ground.guard }], guard := some (25, false) }) rfl (fun K hK => ?_) AllReadyH.nil
              go_simp
              go_at_call 21; (with_reducible refine (HC3.out _ (kept_self (by assumption))).mono ?_); rintro e wC ⟨rfl, hbC⟩
              go_wp2_with fail
              refine hK.out _ _ ?_ (fun hHeld2 => ?_)
              · (first | assumption | exact HSB.out _ (kept_call (by assumption) hbC) | exact HSB.out _ (Below.refl _ _).drew | exact HSB.out _ (Below.refl _ _))
              clear hK K
              try simp only [Act.put, List.setIfInBounds_toArray, List.set_cons_zero, List.set_cons_succ]
              refine wpAnyH_take (i := 28) (oi := { dst := some 82, op := Go.Op.unOp Go.UnOp.not 4 (Go.Operand.tmp 81), type := 4, pos := "law.go:44", after := #[{ on := 27, ground := Go.Ground.data }, { on := 25, ground := Go.Ground.guard }], guard := some (25, false) }) (v := ?_) rfl (by kernel_rfl) (by kernel_rfl) (by kernel_rfl) (fun _ _ _ h => h) (Or.inl ⟨by rfl, ?_⟩) (by assumption) ?_
              rotate_left
              · (intro w hSw; (try dsimp only at hSw); go_simp; try with_reducible rfl)
              simp only [Act.put, List.setIfInBounds_toArray, List.set_cons_zero, List.set_cons_succ]
              refine wpAnyH_take (i := 29) (oi := { dst := some 83, op := Go.Op.pick (Go.Operand.tmp 79) (Go.Operand.const (Go.Value.bool true)) (Go.Operand.tmp 82), type := 4, pos := "law.go:44", after := #[{ on := 25, ground := Go.Ground.data }, { on := 28, ground := Go.Ground.data }], guard := none }) (v := ?_) rfl (by kernel_rfl) (by kernel_rfl) (by kernel_rfl) (fun _ _ _ h => h) (Or.inl ⟨by rfl, ?_⟩) (by assumption) ?_
              rotate_left
              · (intro w hSw; (try dsimp only at hSw); go_simp; try with_reducible rfl)
              simp only [Act.put, List.setIfInBounds_toArray, List.set_cons_zero, List.set_cons_succ]
              refine wpAnyH_done (by kernel_rfl) ?_ _
              have hb : Below q7.heap.size q7 wC := by first | exact kept_self (by assumption) | exact kept_call (by assumption) hbC
              clear HSB HC1 HC2 HC3 hcl9 hnk hgd hno1 hno2 hno3 hno4
              replace Hl := Lib.hid (Hl.out.below hb)
              replace Hm := Lib.hid (Hm.out.below hb)
              replace Hx := Lib.hid ((hb.block _ (lt_of_block Hx.out)).trans Hx.out)
              replace Hxa := Lib.hid ((hb.block _ (lt_of_block Hxa.out)).trans Hxa.out)
              replace HB := Lib.hid (HB.out.trans (hb.mono HB.out.size))
              clear hb
              by_cases hne : s = x.name
              · have hts : (s.toList == x.name.toList) = true := by rw [text_eq]; simp [hne]
                have htn : (s.toList != x.name.toList) = false := by simp [bne, hts]
                clear hne
                have hwl : IntKind.i64.wrap ((l.length : Int) + 1) = (l.length : Int) + 1 := by rw [IntKind.wrap_i64]; omega
                obtain ⟨⟨c_x_0, c_x_1, c_x_2, c_x_3⟩, f_x_0, f_x_1, f_x_2, f_x_3⟩ := box_4 Hx.out
                go_wp2_with fail
                clear c_x_0 c_x_1 c_x_2 c_x_3 f_x_0 f_x_1 f_x_2 f_x_3
                go_loopw [16, 17] (fun u16 u17 wr => ∃ j : Nat, u17 = .int .i64 j ∧ u16 = .int .i64 ((if (findK (l.take j) x.name).isSome then l.length else l.length + 1 : Nat) : Int) ∧ j ≤ l.length ∧ Hid (Below wC.heap.size wC wr)) (fun _ u _ => l.length - (intOf u).toNat)
                case atStart => exact ⟨0, rfl, by simp [findK], by omega, Lib.hid (Below.refl _ _)⟩
                case round =>
                  obtain ⟨j, rfl, rfl, hj, hbr⟩ := hrel
                  have hjw : IntKind.i64.wrap ((j : Int) + 1) = (j : Int) + 1 := by rw [IntKind.wrap_i64]; omega
                  by_cases hlt : j < l.length
                  · have hji : (j : Int) < (l.length : Int) := by omega
                    obtain ⟨y, hy⟩ : ∃ y, l[j]? = some y := ⟨_, List.getElem?_eq_getElem hlt⟩
                    obtain ⟨bl, ol, rfl, hbl, hat⟩ := (Hl.out.below hbr.out).2.2.2 (by omega)
                    obtain ⟨d0, d1, d2, d3⟩ := KK.cells hat hy
                    have hft := find_take (s := x.name) hy
                    obtain ⟨n0, hn0⟩ : ∃ n0, n0 = (if (findK (l.take j) x.name).isSome then l.length else l.length + 1 : Nat) := ⟨_, rfl⟩
                    rw [← hn0]
                    obtain ⟨⟨e0, e1, e2, e3⟩, _⟩ := box_4 ((hbr.out.block _ (lt_of_block Hx.out)).trans Hx.out)
                    clear hat hy
                    by_cases hyn : y.name = x.name
                    · have hte : (y.name.toList == x.name.toList) = true := by rw [text_eq]; simp [hyn]
                      have HN := Lib.hid (show (if (findK (l.take (j + 1)) x.name).isSome then l.length else l.length + 1 : Nat) = l.length by rw [hft]; simp [hyn])
                      clear hft hn0 hyn
                      go_wp2_with fail
                      go_quiet (fail)
                      go_wp2_with fail
                      go_roundw
                      case rel => exact ⟨j + 1, by go_num, by rw [HN.out], by omega, by first | exact hbr | exact Lib.hid (below_drewN hbr.out _)⟩
                      case measure => simp [intOf]; omega
                    · have hte : (y.name.toList == x.name.toList) = false := by rw [text_eq]; simp [hyn]
                      have HN := Lib.hid (show (if (findK (l.take (j + 1)) x.name).isSome then l.length else l.length + 1 : Nat) = n0 by rw [hft, hn0]; simp [hyn])
                      clear hft hn0 hyn
                      go_wp2_with fail
                      go_quiet (fail)
                      go_wp2_with fail
                      go_roundw
                      case rel => exact ⟨j + 1, by go_num, by rw [HN.out], by omega, by first | exact hbr | exact Lib.hid (below_drewN hbr.out _)⟩
                      case measure => simp [intOf]; omega
                  · obtain rfl : j = l.length := by omega
                    rw [List.take_length, ← HLn.out]
                    have hb := hbr.out
                    clear hbr
                    replace Hl := Lib.hid (Hl.out.below hb)
                    replace Hm := Lib.hid (Hm.out.below hb)
                    replace Hx := Lib.hid ((hb.block _ (lt_of_block Hx.out)).trans Hx.out)
                    replace Hxa := Lib.hid ((hb.block _ (lt_of_block Hxa.out)).trans Hxa.out)
                    replace HB := Lib.hid (HB.out.trans (hb.mono HB.out.size))
                    clear hb
                    have hle : ((L.length : Int) == (L.length : Int)) = true := by simp
                    have HX := Lib.hid (HPt.out L [x] L a1 (some ⟨wr.heap.size, 0, none⟩) c1 1 (wr.alloc (.cells #[.string x.name, .string x.row, .int .i64 x.e, .int .i64 x.until_] 29)) (by omega) (by simp) HLA.out (Hm.out.below (below1 wr (.cells #[.string x.name, .string x.row, .int .i64 x.e, .int .i64 x.until_] 29))) (rowC_at (K := KK) wr 29 [x] #[.string x.name, .string x.row, .int .i64 x.e, .int .i64 x.until_] wr.heap.size 1 rfl rfl rfl (by simp)))
                    simp only [List.length_cons, List.length_nil, Nat.zero_add, Nat.reduceAdd] at HX
                    obtain ⟨⟨c_x_0, c_x_1, c_x_2, c_x_3⟩, f_x_0, f_x_1, f_x_2, f_x_3⟩ := box_4 Hx.out
                    go_wp2_with fail
                    with_reducible refine HX.out.mono ?_
                    rintro e w8 ⟨a7, c7, rfl, hR, hb⟩
                    clear c_x_0 c_x_1 c_x_2 c_x_3 f_x_0 f_x_1 f_x_2 f_x_3
                    clear HX
                    replace hb := (below1 wr (.cells #[.string x.name, .string x.row, .int .i64 x.e, .int .i64 x.until_] 29)).trans (hb.mono (by simp))
                    replace Hl := Lib.hid (Hl.out.below hb)
                    replace Hm := Lib.hid (Hm.out.below hb)
                    replace Hx := Lib.hid ((hb.block _ (lt_of_block Hx.out)).trans Hx.out)
                    replace Hxa := Lib.hid ((hb.block _ (lt_of_block Hxa.out)).trans Hxa.out)
                    replace HB := Lib.hid (HB.out.trans (hb.mono HB.out.size))
                    clear hb
                    have HP7 := Lib.hid hR
                    clear hR
                    have HX := Lib.hid (rsame_yes L a7 a1 c7 c1 w8 HP7.out Hm.out)
                    go_wp2_with fail
                    with_reducible refine HX.out.mono ?_
                    rintro e w9 ⟨rfl, hb⟩
                    clear HX
                    replace Hl := Lib.hid (Hl.out.below hb)
                    replace Hm := Lib.hid (Hm.out.below hb)
                    replace HP7 := Lib.hid (HP7.out.below hb)
                    replace Hx := Lib.hid ((hb.block _ (lt_of_block Hx.out)).trans Hx.out)
                    replace Hxa := Lib.hid ((hb.block _ (lt_of_block Hxa.out)).trans Hxa.out)
                    replace HB := Lib.hid (HB.out.trans (hb.mono HB.out.size))
                    clear hb
                    go_wp2_with fail
                    with_reducible refine (HWk.out _).mono ?_
                    rintro e wf ⟨rfl, hb⟩
                    have HBf := Lib.hid (HB.out.trans (hb.mono HB.out.size))
                    clear hb
                    go_wp2_with fail
                    go_ret
                    exact ⟨rfl, HBf.out⟩
              · have hts : (s.toList == x.name.toList) = false := by rw [text_eq]; simp [hne]
                have htn : (s.toList != x.name.toList) = true := by simp [bne, hts]
                obtain ⟨k2, hk2⟩ : ∃ k, k = getV l s now := ⟨_, rfl⟩
                obtain ⟨r2, hr2⟩ : ∃ r, r = getB l s now := ⟨_, rfl⟩
                have HK3 := Lib.hid (show k2 = getV L s now by rw [hk2]; unfold getV; rw [HGO.out hne])
                have HR3 := Lib.hid (show r2 = getB L s now by rw [hr2]; unfold getB; rw [HGO.out hne])
                replace hk2 := Lib.hid hk2
                replace hr2 := Lib.hid hr2
                clear hne
                have HX := Lib.hid (HGt.out l s now a c k2 r2 wC (by omega) hk2.out hr2.out Hl.out)
                simp only [Kn.v] at HX
                obtain ⟨⟨c_x_0, c_x_1, c_x_2, c_x_3⟩, f_x_0, f_x_1, f_x_2, f_x_3⟩ := box_4 Hx.out
                go_wp2_with fail
                with_reducible refine HX.out.mono ?_
                rintro e w8 ⟨rfl, hb⟩
                clear c_x_0 c_x_1 c_x_2 c_x_3 f_x_0 f_x_1 f_x_2 f_x_3
                clear HX
                replace Hl := Lib.hid (Hl.out.below hb)
                replace Hm := Lib.hid (Hm.out.below hb)
                replace Hx := Lib.hid ((hb.block _ (lt_of_block Hx.out)).trans Hx.out)
                replace Hxa := Lib.hid ((hb.block _ (lt_of_block Hxa.out)).trans Hxa.out)
                replace HB := Lib.hid (HB.out.trans (hb.mono HB.out.size))
                clear hb
                simp only [Kn.v]
                go_upto_region 9 with fail
                obtain ⟨q9, hq9⟩ : ∃ X, X = w8.alloc (.cells #[.string k2.name, .string k2.row, .int .i64 k2.e, .int .i64 k2.until_] 29) := ⟨_, rfl⟩
                have hb : Below w8.heap.size w8 q9 := by rw [hq9]; exact below1 _ _
                have hL := laid1 w8 (.cells #[.string k2.name, .string k2.row, .int .i64 k2.e, .int .i64 k2.until_] 29)
                rw [← hq9] at hL ⊢
                clear hq9
                obtain ⟨bxb, hbxb⟩ : ∃ n, n = w8.heap.size := ⟨_, rfl⟩
                rw [← hbxb] at hL ⊢
                have hsxb : w.heap.size ≤ bxb := by rw [hbxb]; exact HB.out.size
                clear hbxb
                replace Hl := Lib.hid (Hl.out.below hb)
                replace Hm := Lib.hid (Hm.out.below hb)
                replace Hx := Lib.hid ((hb.block _ (lt_of_block Hx.out)).trans Hx.out)
                replace Hxa := Lib.hid ((hb.block _ (lt_of_block Hxa.out)).trans Hxa.out)
                replace HB := Lib.hid (HB.out.trans (hb.mono HB.out.size))
                clear hb
                have Hxb := Lib.hid hL
                clear hL
                have HX := Lib.hid (HGt.out L s now a1 c1 k2 r2 q9 (by omega) HK3.out HR3.out Hm.out)
                simp only [Kn.v] at HX
                go_wp2_with fail
                with_reducible refine HX.out.mono ?_
                rintro e w10 ⟨rfl, hb⟩
                clear HX
                replace Hl := Lib.hid (Hl.out.below hb)
                replace Hm := Lib.hid (Hm.out.below hb)
                replace Hx := Lib.hid ((hb.block _ (lt_of_block Hx.out)).trans Hx.out)
                replace Hxa := Lib.hid ((hb.block _ (lt_of_block Hxa.out)).trans Hxa.out)
                replace Hxb := Lib.hid ((hb.block _ (lt_of_block Hxb.out)).trans Hxb.out)
                replace HB := Lib.hid (HB.out.trans (hb.mono HB.out.size))
                clear hb
                simp only [Kn.v]
                go_upto_region 10 with fail
                obtain ⟨q11, hq11⟩ : ∃ X, X = w10.alloc (.cells #[.string k2.name, .string k2.row, .int .i64 k2.e, .int .i64 k2.until_] 29) := ⟨_, rfl⟩
                have hb : Below w10.heap.size w10 q11 := by rw [hq11]; exact below1 _ _
                have hL := laid1 w10 (.cells #[.string k2.name, .string k2.row, .int .i64 k2.e, .int .i64 k2.until_] 29)
                rw [← hq11] at hL ⊢
                clear hq11
                obtain ⟨bxc, hbxc⟩ : ∃ n, n = w10.heap.size := ⟨_, rfl⟩
                rw [← hbxc] at hL ⊢
                have hsxc : w.heap.size ≤ bxc := by rw [hbxc]; exact HB.out.size
                clear hbxc
                replace Hl := Lib.hid (Hl.out.below hb)
                replace Hm := Lib.hid (Hm.out.below hb)
                replace Hx := Lib.hid ((hb.block _ (lt_of_block Hx.out)).trans Hx.out)
                replace Hxa := Lib.hid ((hb.block _ (lt_of_block Hxa.out)).trans Hxa.out)
                replace Hxb := Lib.hid ((hb.block _ (lt_of_block Hxb.out)).trans Hxb.out)
                replace HB := Lib.hid (HB.out.trans (hb.mono HB.out.size))
                clear hb
                have Hxc := Lib.hid hL
                clear hL
                have hnk := neq_self_Kn k2
                have hgd := guard_Kn
                have hrr : (r2 != r2) = false := by simp
                obtain ⟨⟨c_xb_0, c_xb_1, c_xb_2, c_xb_3⟩, f_xb_0, f_xb_1, f_xb_2, f_xb_3⟩ := box_4 Hxb.out
                obtain ⟨⟨c_xc_0, c_xc_1, c_xc_2, c_xc_3⟩, f_xc_0, f_xc_1, f_xc_2, f_xc_3⟩ := box_4 Hxc.out
                go_upto_region 12 with fail
                clear c_xb_0 c_xb_1 c_xb_2 c_xb_3 f_xb_0 f_xb_1 f_xb_2 f_xb_3 c_xc_0 c_xc_1 c_xc_2 c_xc_3 f_xc_0 f_xc_1 f_xc_2 f_xc_3
                clear hnk hgd hrr
                have hwl : IntKind.i64.wrap ((l.length : Int) + 1) = (l.length : Int) + 1 := by rw [IntKind.wrap_i64]; omega
                obtain ⟨⟨c_x_0, c_x_1, c_x_2, c_x_3⟩, f_x_0, f_x_1, f_x_2, f_x_3⟩ := box_4 Hx.out
                go_wp2_with fail
                clear c_x_0 c_x_1 c_x_2 c_x_3 f_x_0 f_x_1 f_x_2 f_x_3
                go_loopw [16, 17] (fun u16 u17 wr => ∃ j : Nat, u17 = .int .i64 j ∧ u16 = .int .i64 ((if (findK (l.take j) x.name).isSome then l.length else l.length + 1 : Nat) : Int) ∧ j ≤ l.length ∧ Hid (Below q11.heap.size q11 wr)) (fun _ u _ => l.length - (intOf u).toNat)
                case atStart => exact ⟨0, rfl, by simp [findK], by omega, Lib.hid (Below.refl _ _)⟩
                case round =>
                  obtain ⟨j, rfl, rfl, hj, hbr⟩ := hrel
                  have hjw : IntKind.i64.wrap ((j : Int) + 1) = (j : Int) + 1 := by rw [IntKind.wrap_i64]; omega
                  by_cases hlt : j < l.length
                  · have hji : (j : Int) < (l.length : Int) := by omega
                    obtain ⟨y, hy⟩ : ∃ y, l[j]? = some y := ⟨_, List.getElem?_eq_getElem hlt⟩
                    obtain ⟨bl, ol, rfl, hbl, hat⟩ := (Hl.out.below hbr.out).2.2.2 (by omega)
                    obtain ⟨d0, d1, d2, d3⟩ := KK.cells hat hy
                    have hft := find_take (s := x.name) hy
                    obtain ⟨n0, hn0⟩ : ∃ n0, n0 = (if (findK (l.take j) x.name).isSome then l.length else l.length + 1 : Nat) := ⟨_, rfl⟩
                    rw [← hn0]
                    obtain ⟨⟨e0, e1, e2, e3⟩, _⟩ := box_4 ((hbr.out.block _ (lt_of_block Hx.out)).trans Hx.out)
                    clear hat hy
                    by_cases hyn : y.name = x.name
                    · have hte : (y.name.toList == x.name.toList) = true := by rw [text_eq]; simp [hyn]
                      have HN := Lib.hid (show (if (findK (l.take (j + 1)) x.name).isSome then l.length else l.length + 1 : Nat) = l.length by rw [hft]; simp [hyn])
                      clear hft hn0 hyn
                      go_wp2_with fail
                      go_quiet (fail)
                      go_wp2_with fail
                      go_roundw
                      case rel => exact ⟨j + 1, by go_num, by rw [HN.out], by omega, by first | exact hbr | exact Lib.hid (below_drewN hbr.out _)⟩
                      case measure => simp [intOf]; omega
                    · have hte : (y.name.toList == x.name.toList) = false := by rw [text_eq]; simp [hyn]
                      have HN := Lib.hid (show (if (findK (l.take (j + 1)) x.name).isSome then l.length else l.length + 1 : Nat) = n0 by rw [hft, hn0]; simp [hyn])
                      clear hft hn0 hyn
                      go_wp2_with fail
                      go_quiet (fail)
                      go_wp2_with fail
                      go_roundw
                      case rel => exact ⟨j + 1, by go_num, by rw [HN.out], by omega, by first | exact hbr | exact Lib.hid (below_drewN hbr.out _)⟩
                      case measure => simp [intOf]; omega
                  · obtain rfl : j = l.length := by omega
                    rw [List.take_length, ← HLn.out]
                    have hb := hbr.out
                    clear hbr
                    replace Hl := Lib.hid (Hl.out.below hb)
                    replace Hm := Lib.hid (Hm.out.below hb)
                    replace Hx := Lib.hid ((hb.block _ (lt_of_block Hx.out)).trans Hx.out)
                    replace Hxa := Lib.hid ((hb.block _ (lt_of_block Hxa.out)).trans Hxa.out)
                    replace Hxb := Lib.hid ((hb.block _ (lt_of_block Hxb.out)).trans Hxb.out)
                    replace Hxc := Lib.hid ((hb.block _ (lt_of_block Hxc.out)).trans Hxc.out)
                    replace HB := Lib.hid (HB.out.trans (hb.mono HB.out.size))
                    clear hb
                    have hle : ((L.length : Int) == (L.length : Int)) = true := by simp
                    have HX := Lib.hid (HPt.out L [x] L a1 (some ⟨wr.heap.size, 0, none⟩) c1 1 (wr.alloc (.cells #[.string x.name, .string x.row, .int .i64 x.e, .int .i64 x.until_] 29)) (by omega) (by simp) HLA.out (Hm.out.below (below1 wr (.cells #[.string x.name, .string x.row, .int .i64 x.e, .int .i64 x.until_] 29))) (rowC_at (K := KK) wr 29 [x] #[.string x.name, .string x.row, .int .i64 x.e, .int .i64 x.until_] wr.heap.size 1 rfl rfl rfl (by simp)))
                    simp only [List.length_cons, List.length_nil, Nat.zero_add, Nat.reduceAdd] at HX
                    obtain ⟨⟨c_x_0, c_x_1, c_x_2, c_x_3⟩, f_x_0, f_x_1, f_x_2, f_x_3⟩ := box_4 Hx.out
                    go_wp2_with fail
                    with_reducible refine HX.out.mono ?_
                    rintro e w12 ⟨a7, c7, rfl, hR, hb⟩
                    clear c_x_0 c_x_1 c_x_2 c_x_3 f_x_0 f_x_1 f_x_2 f_x_3
                    clear HX
                    replace hb := (below1 wr (.cells #[.string x.name, .string x.row, .int .i64 x.e, .int .i64 x.until_] 29)).trans (hb.mono (by simp))
                    replace Hl := Lib.hid (Hl.out.below hb)
                    replace Hm := Lib.hid (Hm.out.below hb)
                    replace Hx := Lib.hid ((hb.block _ (lt_of_block Hx.out)).trans Hx.out)
                    replace Hxa := Lib.hid ((hb.block _ (lt_of_block Hxa.out)).trans Hxa.out)
                    replace Hxb := Lib.hid ((hb.block _ (lt_of_block Hxb.out)).trans Hxb.out)
                    replace Hxc := Lib.hid ((hb.block _ (lt_of_block Hxc.out)).trans Hxc.out)
                    replace HB := Lib.hid (HB.out.trans (hb.mono HB.out.size))
                    clear hb
                    have HP7 := Lib.hid hR
                    clear hR
                    have HX := Lib.hid (rsame_yes L a7 a1 c7 c1 w12 HP7.out Hm.out)
                    go_wp2_with fail
                    with_reducible refine HX.out.mono ?_
                    rintro e w13 ⟨rfl, hb⟩
                    clear HX
                    replace Hl := Lib.hid (Hl.out.below hb)
                    replace Hm := Lib.hid (Hm.out.below hb)
                    replace HP7 := Lib.hid (HP7.out.below hb)
                    replace Hx := Lib.hid ((hb.block _ (lt_of_block Hx.out)).trans Hx.out)
                    replace Hxa := Lib.hid ((hb.block _ (lt_of_block Hxa.out)).trans Hxa.out)
                    replace Hxb := Lib.hid ((hb.block _ (lt_of_block Hxb.out)).trans Hxb.out)
                    replace Hxc := Lib.hid ((hb.block _ (lt_of_block Hxc.out)).trans Hxc.out)
                    replace HB := Lib.hid (HB.out.trans (hb.mono HB.out.size))
                    clear hb
                    go_wp2_with fail
                    with_reducible refine (HWk.out _).mono ?_
                    rintro e wf ⟨rfl, hb⟩
                    have HBf := Lib.hid (HB.out.trans (hb.mono HB.out.size))
                    clear hb
                    go_wp2_with fail
                    go_ret
                    exact ⟨rfl, HBf.out⟩
            | true =>
              obtain rfl : x = k := by have h := hkr.out; simp at h; exact h.symm
              clear hkr
              have HSB := Lib.hid (show ∀ W : World, Below q7.heap.size q7 W → ((W.cell? ⟨bx, 0, none⟩ = some (.string x.name) ∧ W.cell? ⟨bx, 1, none⟩ = some (.string x.row) ∧ W.cell? ⟨bx, 2, none⟩ = some (.int .i64 x.e) ∧ W.cell? ⟨bx, 3, none⟩ = some (.int .i64 x.until_)) ∧ (W.cell? ⟨bxa, 0, none⟩ = some (.string x.name) ∧ W.cell? ⟨bxa, 1, none⟩ = some (.string x.row) ∧ W.cell? ⟨bxa, 2, none⟩ = some (.int .i64 x.e) ∧ W.cell? ⟨bxa, 3, none⟩ = some (.int .i64 x.until_))) ∧ Below q7.heap.size q7 W from fun W h => ⟨⟨(box_4 ((h.block _ (lt_of_block Hx.out)).trans Hx.out)).1, (box_4 ((h.block _ (lt_of_block Hxa.out)).trans Hxa.out)).1⟩, h⟩)
              have HC1 := Lib.hid (fun W => rclamp_any now W)
              have HC2 := Lib.hid (fun W => rclamp_any x.until_ W)
              have HC3 := Lib.hid (fun W (h : Below q7.heap.size q7 W) => HMy.out L a1 c1 true W (by omega) HML.out (Hm.out.below h))
              have hcl9 := hcl.out
              have hnk := neq_self_Kn x
              have hgd := guard_Kn
              refine wp_region_held_drew (S := (fun W => ((W.cell? ⟨bx, 0, none⟩ = some (.string x.name) ∧ W.cell? ⟨bx, 1, none⟩ = some (.string x.row) ∧ W.cell? ⟨bx, 2, none⟩ = some (.int .i64 x.e) ∧ W.cell? ⟨bx, 3, none⟩ = some (.int .i64 x.until_)) ∧ (W.cell? ⟨bxa, 0, none⟩ = some (.string x.name) ∧ W.cell? ⟨bxa, 1, none⟩ = some (.string x.row) ∧ W.cell? ⟨bxa, 2, none⟩ = some (.int .i64 x.e) ∧ W.cell? ⟨bxa, 3, none⟩ = some (.int .i64 x.until_))) ∧ Below q7.heap.size q7 W)) (by kernel_rfl) ?_ (fun hHeld => ?_)
              · (first | assumption | exact HSB.out _ (kept_call (by assumption) hbC) | exact HSB.out _ (Below.refl _ _).drew | exact HSB.out _ (Below.refl _ _))
              refine wpAnyH_take (i := 0) (oi := { dst := some 54, op := Go.Op.move (Go.Operand.tmp 11), type := 4, pos := "law.go:44", after := #[], guard := none }) (v := ?_) rfl (by kernel_rfl) (by kernel_rfl) (by kernel_rfl) (fun _ _ _ h => h) (Or.inl ⟨by rfl, ?_⟩) (by assumption) ?_
              rotate_left
              · (intro w hSw; (try dsimp only at hSw); go_simp; try with_reducible rfl)
              simp only [Act.put, List.setIfInBounds_toArray, List.set_cons_zero, List.set_cons_succ]
              refine wpAnyH_take (i := 1) (oi := { dst := some 55, op := Go.Op.move (Go.Operand.tmp 2), type := 3, pos := "law.go:44", after := #[], guard := none }) (v := ?_) rfl (by kernel_rfl) (by kernel_rfl) (by kernel_rfl) (fun _ _ _ h => h) (Or.inl ⟨by rfl, ?_⟩) (by assumption) ?_
              rotate_left
              · (intro w hSw; (try dsimp only at hSw); go_simp; try with_reducible rfl)
              simp only [Act.put, List.setIfInBounds_toArray, List.set_cons_zero, List.set_cons_succ]
              refine wpAnyH_take (i := 3) (oi := { dst := some 57, op := Go.Op.fieldAddr 29 (Go.Operand.tmp 5) 3, type := 0, pos := "law.go:44", after := #[], guard := none }) (v := ?_) rfl (by kernel_rfl) (by kernel_rfl) (by kernel_rfl) (fun _ _ _ h => h) (Or.inl ⟨by rfl, ?_⟩) (by assumption) ?_
              rotate_left
              · (intro w hSw; (try dsimp only at hSw); go_simp; try with_reducible rfl)
              simp only [Act.put, List.setIfInBounds_toArray, List.set_cons_zero, List.set_cons_succ]
              refine wpAnyH_take (i := 4) (oi := { dst := some 58, op := Go.Op.load 3 (Go.Operand.tmp 57), type := 3, pos := "law.go:44", after := #[{ on := 3, ground := Go.Ground.data }], guard := none }) (v := ?_) rfl (by kernel_rfl) (by kernel_rfl) (by kernel_rfl) (fun _ _ _ h => h) (Or.inl ⟨by rfl, ?_⟩) (by assumption) ?_
              rotate_left
              · (intro w hSw; (try dsimp only at hSw); go_simp; try with_reducible rfl)
              simp only [Act.put, List.setIfInBounds_toArray, List.set_cons_zero, List.set_cons_succ]
              refine wpAnyH_ready (rs := [2]) (by kernel_rfl) (by simp) ?_
              refine AllReadyH.cons (o := { dst := some 56, op := Go.Op.call { callee := Go.Callee.value (Go.Operand.func 23), args := #[Go.Operand.tmp 55], argTypes := #[3] }, type := 3, pos := "law.go:44", after := #[{ on := 1, ground := Go.Ground.data }], guard := none }) rfl (fun K hK => ?_) AllReadyH.nil
              go_simp
              go_at_call 23; (with_reducible refine (HC1.out _).mono ?_); rintro e wC ⟨rfl, rfl⟩
              go_wp2_with fail
              refine hK.out _ _ ?_ (fun hHeld2 => ?_)
              · (first | assumption | exact HSB.out _ (kept_call (by assumption) hbC) | exact HSB.out _ (Below.refl _ _).drew | exact HSB.out _ (Below.refl _ _))
              clear hK K
              try simp only [Act.put, List.setIfInBounds_toArray, List.set_cons_zero, List.set_cons_succ]
              refine wpAnyH_ready (rs := [5]) (by kernel_rfl) (by simp) ?_
              refine AllReadyH.cons (o := { dst := some 59, op := Go.Op.call { callee := Go.Callee.value (Go.Operand.func 23), args := #[Go.Operand.tmp 58], argTypes := #[3] }, type := 3, pos := "law.go:44", after := #[{ on := 4, ground := Go.Ground.data }, { on := 2, ground := Go.Ground.chain }], guard := none }) rfl (fun K hK => ?_) AllReadyH.nil
              go_simp
              go_at_call 23; (with_reducible refine (HC2.out _).mono ?_); rintro e wC ⟨rfl, rfl⟩
              go_wp2_with fail
              refine hK.out _ _ ?_ (fun hHeld2 => ?_)
              · (first | assumption | exact HSB.out _ (kept_call (by assumption) hbC) | exact HSB.out _ (Below.refl _ _).drew | exact HSB.out _ (Below.refl _ _))
              clear hK K
              try simp only [Act.put, List.setIfInBounds_toArray, List.set_cons_zero, List.set_cons_succ]
              refine wpAnyH_take (i := 6) (oi := { dst := some 60, op := Go.Op.binOp Go.BinOp.lss 3 (Go.Operand.tmp 56) (Go.Operand.tmp 59) 3, type := 4, pos := "law.go:44", after := #[{ on := 2, ground := Go.Ground.data }, { on := 5, ground := Go.Ground.data }], guard := none }) (v := ?_) rfl (by kernel_rfl) (by kernel_rfl) (by kernel_rfl) (fun _ _ _ h => h) (Or.inl ⟨by rfl, ?_⟩) (by assumption) ?_
              rotate_left
              · (intro w hSw; (try dsimp only at hSw); go_simp; try with_reducible rfl)
              simp only [Act.put, List.setIfInBounds_toArray, List.set_cons_zero, List.set_cons_succ]
              refine wpAnyH_take (i := 7) (oi := { dst := some 61, op := Go.Op.binOp Go.BinOp.neq 4 (Go.Operand.tmp 54) (Go.Operand.tmp 60) 4, type := 4, pos := "law.go:44", after := #[{ on := 0, ground := Go.Ground.data }, { on := 6, ground := Go.Ground.data }], guard := none }) (v := ?_) rfl (by kernel_rfl) (by kernel_rfl) (by kernel_rfl) (fun _ _ _ h => h) (Or.inl ⟨by rfl, ?_⟩) (by assumption) ?_
              rotate_left
              · (intro w hSw; (try dsimp only at hSw); go_simp; try with_reducible rfl)
              simp only [Act.put, List.setIfInBounds_toArray, List.set_cons_zero, List.set_cons_succ]
              refine wpAnyH_take (i := 8) (oi := { dst := some 62, op := Go.Op.move (Go.Operand.tmp 61), type := 4, pos := "law.go:44", after := #[{ on := 7, ground := Go.Ground.data }, { on := 5, ground := Go.Ground.chain }], guard := none }) (v := ?_) rfl (by kernel_rfl) (by kernel_rfl) (by kernel_rfl) (fun _ _ _ h => h) (Or.inl ⟨by rfl, ?_⟩) (by assumption) ?_
              rotate_left
              · (intro w hSw; (try dsimp only at hSw); go_simp; try with_reducible rfl)
              simp only [Act.put, List.setIfInBounds_toArray, List.set_cons_zero, List.set_cons_succ]
              refine wpAnyH_take (i := 9) (oi := { dst := some 63, op := Go.Op.move (Go.Operand.tmp 11), type := 4, pos := "law.go:44", after := #[{ on := 8, ground := Go.Ground.guard }], guard := some (8, false) }) (v := ?_) rfl (by kernel_rfl) (by kernel_rfl) (by kernel_rfl) (fun _ _ _ h => h) (Or.inl ⟨by rfl, ?_⟩) (by assumption) ?_
              rotate_left
              · (intro w hSw; (try dsimp only at hSw); go_simp; try with_reducible rfl)
              simp only [Act.put, List.setIfInBounds_toArray, List.set_cons_zero, List.set_cons_succ]
              refine wpAnyH_take (i := 10) (oi := { dst := some 64, op := Go.Op.move (Go.Operand.tmp 63), type := 4, pos := "law.go:44", after := #[{ on := 9, ground := Go.Ground.data }, { on := 8, ground := Go.Ground.chain }, { on := 8, ground := Go.Ground.guard }], guard := some (8, false) }) (v := ?_) rfl (by kernel_rfl) (by kernel_rfl) (by kernel_rfl) (fun _ _ _ h => h) (Or.inl ⟨by rfl, ?_⟩) (by assumption) ?_
              rotate_left
              · (intro w hSw; (try dsimp only at hSw); go_simp; try with_reducible rfl)
              simp only [Act.put, List.setIfInBounds_toArray, List.set_cons_zero, List.set_cons_succ]
              refine wpAnyH_take (i := 11) (oi := { dst := some 65, op := Go.Op.load 29 (Go.Operand.tmp 10), type := 29, pos := "law.go:44", after := #[{ on := 10, ground := Go.Ground.guard }], guard := some (10, true) }) (v := ?_) rfl (by kernel_rfl) (by kernel_rfl) (by kernel_rfl) (fun _ _ _ h => h) (Or.inl ⟨by rfl, ?_⟩) (by assumption) ?_
              rotate_left
              · (intro w hSw; (try dsimp only at hSw); go_simp; try with_reducible rfl)
              simp only [Act.put, List.setIfInBounds_toArray, List.set_cons_zero, List.set_cons_succ]
              refine wpAnyH_take (i := 12) (oi := { dst := some 66, op := Go.Op.load 29 (Go.Operand.tmp 5), type := 29, pos := "law.go:44", after := #[{ on := 10, ground := Go.Ground.guard }], guard := some (10, true) }) (v := ?_) rfl (by kernel_rfl) (by kernel_rfl) (by kernel_rfl) (fun _ _ _ h => h) (Or.inl ⟨by rfl, ?_⟩) (by assumption) ?_
              rotate_left
              · (intro w hSw; (try dsimp only at hSw); go_simp; try with_reducible rfl)
              simp only [Act.put, List.setIfInBounds_toArray, List.set_cons_zero, List.set_cons_succ]
              refine wpAnyH_take (i := 13) (oi := { dst := some 67, op := Go.Op.binOp Go.BinOp.neq 29 (Go.Operand.tmp 65) (Go.Operand.tmp 66) 29, type := 4, pos := "law.go:44", after := #[{ on := 11, ground := Go.Ground.data }, { on := 12, ground := Go.Ground.data }, { on := 10, ground := Go.Ground.guard }], guard := some (10, true) }) (v := ?_) rfl (by kernel_rfl) (by kernel_rfl) (by kernel_rfl) (fun _ _ _ h => h) (Or.inl ⟨by rfl, ?_⟩) (by assumption) ?_
              rotate_left
              · (intro w hSw; (try dsimp only at hSw); go_simp; try with_reducible rfl)
              simp only [Act.put, List.setIfInBounds_toArray, List.set_cons_zero, List.set_cons_succ]
              refine wpAnyH_take (i := 14) (oi := { dst := some 68, op := Go.Op.pick (Go.Operand.tmp 64) (Go.Operand.tmp 67) (Go.Operand.const (Go.Value.bool false)), type := 4, pos := "law.go:44", after := #[{ on := 10, ground := Go.Ground.data }, { on := 13, ground := Go.Ground.data }, { on := 8, ground := Go.Ground.guard }], guard := some (8, false) }) (v := ?_) rfl (by kernel_rfl) (by kernel_rfl) (by kernel_rfl) (fun _ _ _ h => h) (Or.inl ⟨by rfl, ?_⟩) (by assumption) ?_
              rotate_left
              · (intro w hSw; (try dsimp only at hSw); go_simp; try with_reducible rfl)
              simp only [Act.put, List.setIfInBounds_toArray, List.set_cons_zero, List.set_cons_succ]
              refine wpAnyH_take (i := 15) (oi := { dst := some 69, op := Go.Op.pick (Go.Operand.tmp 62) (Go.Operand.const (Go.Value.bool true)) (Go.Operand.tmp 68), type := 4, pos := "law.go:44", after := #[{ on := 8, ground := Go.Ground.data }, { on := 14, ground := Go.Ground.data }], guard := none }) (v := ?_) rfl (by kernel_rfl) (by kernel_rfl) (by kernel_rfl) (fun _ _ _ h => h) (Or.inl ⟨by rfl, ?_⟩) (by assumption) ?_
              rotate_left
              · (intro w hSw; (try dsimp only at hSw); go_simp; try with_reducible rfl)
              simp only [Act.put, List.setIfInBounds_toArray, List.set_cons_zero, List.set_cons_succ]
              refine wpAnyH_take (i := 16) (oi := { dst := some 70, op := Go.Op.move (Go.Operand.tmp 69), type := 4, pos := "law.go:44", after := #[{ on := 15, ground := Go.Ground.data }, { on := 10, ground := Go.Ground.chain }], guard := none }) (v := ?_) rfl (by kernel_rfl) (by kernel_rfl) (by kernel_rfl) (fun _ _ _ h => h) (Or.inl ⟨by rfl, ?_⟩) (by assumption) ?_
              rotate_left
              · (intro w hSw; (try dsimp only at hSw); go_simp; try with_reducible rfl)
              simp only [Act.put, List.setIfInBounds_toArray, List.set_cons_zero, List.set_cons_succ]
              refine wpAnyH_take (i := 17) (oi := { dst := some 71, op := Go.Op.move (Go.Operand.tmp 11), type := 4, pos := "law.go:44", after := #[{ on := 16, ground := Go.Ground.guard }], guard := some (16, false) }) (v := ?_) rfl (by kernel_rfl) (by kernel_rfl) (by kernel_rfl) (fun _ _ _ h => h) (Or.inl ⟨by rfl, ?_⟩) (by assumption) ?_
              rotate_left
              · (intro w hSw; (try dsimp only at hSw); go_simp; try with_reducible rfl)
              simp only [Act.put, List.setIfInBounds_toArray, List.set_cons_zero, List.set_cons_succ]
              refine wpAnyH_take (i := 18) (oi := { dst := some 72, op := Go.Op.unOp Go.UnOp.not 4 (Go.Operand.tmp 71), type := 4, pos := "law.go:44", after := #[{ on := 17, ground := Go.Ground.data }, { on := 16, ground := Go.Ground.guard }], guard := some (16, false) }) (v := ?_) rfl (by kernel_rfl) (by kernel_rfl) (by kernel_rfl) (fun _ _ _ h => h) (Or.inl ⟨by rfl, ?_⟩) (by assumption) ?_
              rotate_left
              · (intro w hSw; (try dsimp only at hSw); go_simp; try with_reducible rfl)
              simp only [Act.put, List.setIfInBounds_toArray, List.set_cons_zero, List.set_cons_succ]
              refine wpAnyH_take (i := 19) (oi := { dst := some 73, op := Go.Op.move (Go.Operand.tmp 72), type := 4, pos := "law.go:44", after := #[{ on := 18, ground := Go.Ground.data }, { on := 16, ground := Go.Ground.chain }, { on := 16, ground := Go.Ground.guard }], guard := some (16, false) }) (v := ?_) rfl (by kernel_rfl) (by kernel_rfl) (by kernel_rfl) (fun _ _ _ h => h) (Or.inl ⟨by rfl, ?_⟩) (by assumption) ?_
              rotate_left
              · (intro w hSw; (try dsimp only at hSw); go_simp; try with_reducible rfl)
              simp only [Act.put, List.setIfInBounds_toArray, List.set_cons_zero, List.set_cons_succ]
              refine wpAnyH_take (i := 20) (oi := { dst := some 74, op := Go.Op.load 29 (Go.Operand.tmp 10), type := 29, pos := "law.go:44", after := #[{ on := 19, ground := Go.Ground.guard }], guard := some (19, true) }) (v := undef) rfl (by kernel_rfl) (by kernel_rfl) (by kernel_rfl) (fun _ _ _ h => h) (Or.inr ⟨by rfl, rfl⟩) (by assumption) ?_
              simp only [Act.put, List.setIfInBounds_toArray, List.set_cons_zero, List.set_cons_succ]
              refine wpAnyH_take (i := 21) (oi := { dst := some 75, op := Go.Op.build 29 #[], type := 29, pos := "law.go:44", after := #[{ on := 19, ground := Go.Ground.guard }], guard := some (19, true) }) (v := undef) rfl (by kernel_rfl) (by kernel_rfl) (by kernel_rfl) (fun _ _ _ h => h) (Or.inr ⟨by rfl, rfl⟩) (by assumption) ?_
              simp only [Act.put, List.setIfInBounds_toArray, List.set_cons_zero, List.set_cons_succ]
              refine wpAnyH_take (i := 22) (oi := { dst := some 76, op := Go.Op.binOp Go.BinOp.neq 29 (Go.Operand.tmp 74) (Go.Operand.tmp 75) 29, type := 4, pos := "law.go:44", after := #[{ on := 20, ground := Go.Ground.data }, { on := 21, ground := Go.Ground.data }, { on := 19, ground := Go.Ground.guard }], guard := some (19, true) }) (v := undef) rfl (by kernel_rfl) (by kernel_rfl) (by kernel_rfl) (fun _ _ _ h => h) (Or.inr ⟨by rfl, rfl⟩) (by assumption) ?_
              simp only [Act.put, List.setIfInBounds_toArray, List.set_cons_zero, List.set_cons_succ]
              refine wpAnyH_take (i := 23) (oi := { dst := some 77, op := Go.Op.pick (Go.Operand.tmp 73) (Go.Operand.tmp 76) (Go.Operand.const (Go.Value.bool false)), type := 4, pos := "law.go:44", after := #[{ on := 19, ground := Go.Ground.data }, { on := 22, ground := Go.Ground.data }, { on := 16, ground := Go.Ground.guard }], guard := some (16, false) }) (v := ?_) rfl (by kernel_rfl) (by kernel_rfl) (by kernel_rfl) (fun _ _ _ h => h) (Or.inl ⟨by rfl, ?_⟩) (by assumption) ?_
              rotate_left
              · (intro w hSw; (try dsimp only at hSw); go_simp; try with_reducible rfl)
              simp only [Act.put, List.setIfInBounds_toArray, List.set_cons_zero, List.set_cons_succ]
              refine wpAnyH_take (i := 24) (oi := { dst := some 78, op := Go.Op.pick (Go.Operand.tmp 70) (Go.Operand.const (Go.Value.bool true)) (Go.Operand.tmp 77), type := 4, pos := "law.go:44", after := #[{ on := 16, ground := Go.Ground.data }, { on := 23, ground := Go.Ground.data }], guard := none }) (v := ?_) rfl (by kernel_rfl) (by kernel_rfl) (by kernel_rfl) (fun _ _ _ h => h) (Or.inl ⟨by rfl, ?_⟩) (by assumption) ?_
              rotate_left
              · (intro w hSw; (try dsimp only at hSw); go_simp; try with_reducible rfl)
              simp only [Act.put, List.setIfInBounds_toArray, List.set_cons_zero, List.set_cons_succ]
              refine wpAnyH_take (i := 25) (oi := { dst := some 79, op := Go.Op.move (Go.Operand.tmp 78), type := 4, pos := "law.go:44", after := #[{ on := 24, ground := Go.Ground.data }, { on := 19, ground := Go.Ground.chain }], guard := none }) (v := ?_) rfl (by kernel_rfl) (by kernel_rfl) (by kernel_rfl) (fun _ _ _ h => h) (Or.inl ⟨by rfl, ?_⟩) (by assumption) ?_
              rotate_left
              · (intro w hSw; (try dsimp only at hSw); go_simp; try with_reducible rfl)
              simp only [Act.put, List.setIfInBounds_toArray, List.set_cons_zero, List.set_cons_succ]
              refine wpAnyH_take (i := 26) (oi := { dst := some 80, op := Go.Op.move (Go.Operand.tmp 9), type := 24, pos := "law.go:44", after := #[{ on := 25, ground := Go.Ground.guard }], guard := some (25, false) }) (v := ?_) rfl (by kernel_rfl) (by kernel_rfl) (by kernel_rfl) (fun _ _ _ h => h) (Or.inl ⟨by rfl, ?_⟩) (by assumption) ?_
              rotate_left
              · (intro w hSw; (try dsimp only at hSw); go_simp; try with_reducible rfl)
              simp only [Act.put, List.setIfInBounds_toArray, List.set_cons_zero, List.set_cons_succ]
              refine wpAnyH_ready (rs := [27]) (by kernel_rfl) (by simp) ?_
              refine AllReadyH.cons (o := { dst := some 81, op := Go.Op.call { callee := Go.Callee.value (Go.Operand.func 21), args := #[Go.Operand.tmp 80], argTypes := #[24] }, type := 4, pos := "law.go:44", after := #[{ on := 26, ground := Go.Ground.data }, { on := 25, ground := Go.Ground.chain }, { on := 25, ground := Go.Ground.guard }], guard := some (25, false) }) rfl (fun K hK => ?_) AllReadyH.nil
              go_simp
              go_at_call 21; (with_reducible refine (HC3.out _ (kept_self (by assumption))).mono ?_); rintro e wC ⟨rfl, hbC⟩
              go_wp2_with fail
              refine hK.out _ _ ?_ (fun hHeld2 => ?_)
              · (first | assumption | exact HSB.out _ (kept_call (by assumption) hbC) | exact HSB.out _ (Below.refl _ _).drew | exact HSB.out _ (Below.refl _ _))
              clear hK K
              try simp only [Act.put, List.setIfInBounds_toArray, List.set_cons_zero, List.set_cons_succ]
              refine wpAnyH_take (i := 28) (oi := { dst := some 82, op := Go.Op.unOp Go.UnOp.not 4 (Go.Operand.tmp 81), type := 4, pos := "law.go:44", after := #[{ on := 27, ground := Go.Ground.data }, { on := 25, ground := Go.Ground.guard }], guard := some (25, false) }) (v := ?_) rfl (by kernel_rfl) (by kernel_rfl) (by kernel_rfl) (fun _ _ _ h => h) (Or.inl ⟨by rfl, ?_⟩) (by assumption) ?_
              rotate_left
              · (intro w hSw; (try dsimp only at hSw); go_simp; try with_reducible rfl)
              simp only [Act.put, List.setIfInBounds_toArray, List.set_cons_zero, List.set_cons_succ]
              refine wpAnyH_take (i := 29) (oi := { dst := some 83, op := Go.Op.pick (Go.Operand.tmp 79) (Go.Operand.const (Go.Value.bool true)) (Go.Operand.tmp 82), type := 4, pos := "law.go:44", after := #[{ on := 25, ground := Go.Ground.data }, { on := 28, ground := Go.Ground.data }], guard := none }) (v := ?_) rfl (by kernel_rfl) (by kernel_rfl) (by kernel_rfl) (fun _ _ _ h => h) (Or.inl ⟨by rfl, ?_⟩) (by assumption) ?_
              rotate_left
              · (intro w hSw; (try dsimp only at hSw); go_simp; try with_reducible rfl)
              simp only [Act.put, List.setIfInBounds_toArray, List.set_cons_zero, List.set_cons_succ]
              refine wpAnyH_done (by kernel_rfl) ?_ _
              have hb : Below q7.heap.size q7 wC := by first | exact kept_self (by assumption) | exact kept_call (by assumption) hbC
              clear HSB HC1 HC2 HC3 hcl9 hnk hgd
              replace Hl := Lib.hid (Hl.out.below hb)
              replace Hm := Lib.hid (Hm.out.below hb)
              replace Hx := Lib.hid ((hb.block _ (lt_of_block Hx.out)).trans Hx.out)
              replace Hxa := Lib.hid ((hb.block _ (lt_of_block Hxa.out)).trans Hxa.out)
              replace HB := Lib.hid (HB.out.trans (hb.mono HB.out.size))
              clear hb
              by_cases hne : s = x.name
              · have hts : (s.toList == x.name.toList) = true := by rw [text_eq]; simp [hne]
                have htn : (s.toList != x.name.toList) = false := by simp [bne, hts]
                clear hne
                have hwl : IntKind.i64.wrap ((l.length : Int) + 1) = (l.length : Int) + 1 := by rw [IntKind.wrap_i64]; omega
                obtain ⟨⟨c_x_0, c_x_1, c_x_2, c_x_3⟩, f_x_0, f_x_1, f_x_2, f_x_3⟩ := box_4 Hx.out
                go_wp2_with fail
                clear c_x_0 c_x_1 c_x_2 c_x_3 f_x_0 f_x_1 f_x_2 f_x_3
                go_loopw [16, 17] (fun u16 u17 wr => ∃ j : Nat, u17 = .int .i64 j ∧ u16 = .int .i64 ((if (findK (l.take j) x.name).isSome then l.length else l.length + 1 : Nat) : Int) ∧ j ≤ l.length ∧ Hid (Below wC.heap.size wC wr)) (fun _ u _ => l.length - (intOf u).toNat)
                case atStart => exact ⟨0, rfl, by simp [findK], by omega, Lib.hid (Below.refl _ _)⟩
                case round =>
                  obtain ⟨j, rfl, rfl, hj, hbr⟩ := hrel
                  have hjw : IntKind.i64.wrap ((j : Int) + 1) = (j : Int) + 1 := by rw [IntKind.wrap_i64]; omega
                  by_cases hlt : j < l.length
                  · have hji : (j : Int) < (l.length : Int) := by omega
                    obtain ⟨y, hy⟩ : ∃ y, l[j]? = some y := ⟨_, List.getElem?_eq_getElem hlt⟩
                    obtain ⟨bl, ol, rfl, hbl, hat⟩ := (Hl.out.below hbr.out).2.2.2 (by omega)
                    obtain ⟨d0, d1, d2, d3⟩ := KK.cells hat hy
                    have hft := find_take (s := x.name) hy
                    obtain ⟨n0, hn0⟩ : ∃ n0, n0 = (if (findK (l.take j) x.name).isSome then l.length else l.length + 1 : Nat) := ⟨_, rfl⟩
                    rw [← hn0]
                    obtain ⟨⟨e0, e1, e2, e3⟩, _⟩ := box_4 ((hbr.out.block _ (lt_of_block Hx.out)).trans Hx.out)
                    clear hat hy
                    by_cases hyn : y.name = x.name
                    · have hte : (y.name.toList == x.name.toList) = true := by rw [text_eq]; simp [hyn]
                      have HN := Lib.hid (show (if (findK (l.take (j + 1)) x.name).isSome then l.length else l.length + 1 : Nat) = l.length by rw [hft]; simp [hyn])
                      clear hft hn0 hyn
                      go_wp2_with fail
                      go_quiet (fail)
                      go_wp2_with fail
                      go_roundw
                      case rel => exact ⟨j + 1, by go_num, by rw [HN.out], by omega, by first | exact hbr | exact Lib.hid (below_drewN hbr.out _)⟩
                      case measure => simp [intOf]; omega
                    · have hte : (y.name.toList == x.name.toList) = false := by rw [text_eq]; simp [hyn]
                      have HN := Lib.hid (show (if (findK (l.take (j + 1)) x.name).isSome then l.length else l.length + 1 : Nat) = n0 by rw [hft, hn0]; simp [hyn])
                      clear hft hn0 hyn
                      go_wp2_with fail
                      go_quiet (fail)
                      go_wp2_with fail
                      go_roundw
                      case rel => exact ⟨j + 1, by go_num, by rw [HN.out], by omega, by first | exact hbr | exact Lib.hid (below_drewN hbr.out _)⟩
                      case measure => simp [intOf]; omega
                  · obtain rfl : j = l.length := by omega
                    rw [List.take_length, ← HLn.out]
                    have hb := hbr.out
                    clear hbr
                    replace Hl := Lib.hid (Hl.out.below hb)
                    replace Hm := Lib.hid (Hm.out.below hb)
                    replace Hx := Lib.hid ((hb.block _ (lt_of_block Hx.out)).trans Hx.out)
                    replace Hxa := Lib.hid ((hb.block _ (lt_of_block Hxa.out)).trans Hxa.out)
                    replace HB := Lib.hid (HB.out.trans (hb.mono HB.out.size))
                    clear hb
                    have hle : ((L.length : Int) == (L.length : Int)) = true := by simp
                    have HX := Lib.hid (HPt.out L [x] L a1 (some ⟨wr.heap.size, 0, none⟩) c1 1 (wr.alloc (.cells #[.string x.name, .string x.row, .int .i64 x.e, .int .i64 x.until_] 29)) (by omega) (by simp) HLA.out (Hm.out.below (below1 wr (.cells #[.string x.name, .string x.row, .int .i64 x.e, .int .i64 x.until_] 29))) (rowC_at (K := KK) wr 29 [x] #[.string x.name, .string x.row, .int .i64 x.e, .int .i64 x.until_] wr.heap.size 1 rfl rfl rfl (by simp)))
                    simp only [List.length_cons, List.length_nil, Nat.zero_add, Nat.reduceAdd] at HX
                    obtain ⟨⟨c_x_0, c_x_1, c_x_2, c_x_3⟩, f_x_0, f_x_1, f_x_2, f_x_3⟩ := box_4 Hx.out
                    go_wp2_with fail
                    with_reducible refine HX.out.mono ?_
                    rintro e w8 ⟨a7, c7, rfl, hR, hb⟩
                    clear c_x_0 c_x_1 c_x_2 c_x_3 f_x_0 f_x_1 f_x_2 f_x_3
                    clear HX
                    replace hb := (below1 wr (.cells #[.string x.name, .string x.row, .int .i64 x.e, .int .i64 x.until_] 29)).trans (hb.mono (by simp))
                    replace Hl := Lib.hid (Hl.out.below hb)
                    replace Hm := Lib.hid (Hm.out.below hb)
                    replace Hx := Lib.hid ((hb.block _ (lt_of_block Hx.out)).trans Hx.out)
                    replace Hxa := Lib.hid ((hb.block _ (lt_of_block Hxa.out)).trans Hxa.out)
                    replace HB := Lib.hid (HB.out.trans (hb.mono HB.out.size))
                    clear hb
                    have HP7 := Lib.hid hR
                    clear hR
                    have HX := Lib.hid (rsame_yes L a7 a1 c7 c1 w8 HP7.out Hm.out)
                    go_wp2_with fail
                    with_reducible refine HX.out.mono ?_
                    rintro e w9 ⟨rfl, hb⟩
                    clear HX
                    replace Hl := Lib.hid (Hl.out.below hb)
                    replace Hm := Lib.hid (Hm.out.below hb)
                    replace HP7 := Lib.hid (HP7.out.below hb)
                    replace Hx := Lib.hid ((hb.block _ (lt_of_block Hx.out)).trans Hx.out)
                    replace Hxa := Lib.hid ((hb.block _ (lt_of_block Hxa.out)).trans Hxa.out)
                    replace HB := Lib.hid (HB.out.trans (hb.mono HB.out.size))
                    clear hb
                    go_wp2_with fail
                    with_reducible refine (HWk.out _).mono ?_
                    rintro e wf ⟨rfl, hb⟩
                    have HBf := Lib.hid (HB.out.trans (hb.mono HB.out.size))
                    clear hb
                    go_wp2_with fail
                    go_ret
                    exact ⟨rfl, HBf.out⟩
              · have hts : (s.toList == x.name.toList) = false := by rw [text_eq]; simp [hne]
                have htn : (s.toList != x.name.toList) = true := by simp [bne, hts]
                obtain ⟨k2, hk2⟩ : ∃ k, k = getV l s now := ⟨_, rfl⟩
                obtain ⟨r2, hr2⟩ : ∃ r, r = getB l s now := ⟨_, rfl⟩
                have HK3 := Lib.hid (show k2 = getV L s now by rw [hk2]; unfold getV; rw [HGO.out hne])
                have HR3 := Lib.hid (show r2 = getB L s now by rw [hr2]; unfold getB; rw [HGO.out hne])
                replace hk2 := Lib.hid hk2
                replace hr2 := Lib.hid hr2
                clear hne
                have HX := Lib.hid (HGt.out l s now a c k2 r2 wC (by omega) hk2.out hr2.out Hl.out)
                simp only [Kn.v] at HX
                obtain ⟨⟨c_x_0, c_x_1, c_x_2, c_x_3⟩, f_x_0, f_x_1, f_x_2, f_x_3⟩ := box_4 Hx.out
                go_wp2_with fail
                with_reducible refine HX.out.mono ?_
                rintro e w8 ⟨rfl, hb⟩
                clear c_x_0 c_x_1 c_x_2 c_x_3 f_x_0 f_x_1 f_x_2 f_x_3
                clear HX
                replace Hl := Lib.hid (Hl.out.below hb)
                replace Hm := Lib.hid (Hm.out.below hb)
                replace Hx := Lib.hid ((hb.block _ (lt_of_block Hx.out)).trans Hx.out)
                replace Hxa := Lib.hid ((hb.block _ (lt_of_block Hxa.out)).trans Hxa.out)
                replace HB := Lib.hid (HB.out.trans (hb.mono HB.out.size))
                clear hb
                simp only [Kn.v]
                go_upto_region 9 with fail
                obtain ⟨q9, hq9⟩ : ∃ X, X = w8.alloc (.cells #[.string k2.name, .string k2.row, .int .i64 k2.e, .int .i64 k2.until_] 29) := ⟨_, rfl⟩
                have hb : Below w8.heap.size w8 q9 := by rw [hq9]; exact below1 _ _
                have hL := laid1 w8 (.cells #[.string k2.name, .string k2.row, .int .i64 k2.e, .int .i64 k2.until_] 29)
                rw [← hq9] at hL ⊢
                clear hq9
                obtain ⟨bxb, hbxb⟩ : ∃ n, n = w8.heap.size := ⟨_, rfl⟩
                rw [← hbxb] at hL ⊢
                have hsxb : w.heap.size ≤ bxb := by rw [hbxb]; exact HB.out.size
                clear hbxb
                replace Hl := Lib.hid (Hl.out.below hb)
                replace Hm := Lib.hid (Hm.out.below hb)
                replace Hx := Lib.hid ((hb.block _ (lt_of_block Hx.out)).trans Hx.out)
                replace Hxa := Lib.hid ((hb.block _ (lt_of_block Hxa.out)).trans Hxa.out)
                replace HB := Lib.hid (HB.out.trans (hb.mono HB.out.size))
                clear hb
                have Hxb := Lib.hid hL
                clear hL
                have HX := Lib.hid (HGt.out L s now a1 c1 k2 r2 q9 (by omega) HK3.out HR3.out Hm.out)
                simp only [Kn.v] at HX
                go_wp2_with fail
                with_reducible refine HX.out.mono ?_
                rintro e w10 ⟨rfl, hb⟩
                clear HX
                replace Hl := Lib.hid (Hl.out.below hb)
                replace Hm := Lib.hid (Hm.out.below hb)
                replace Hx := Lib.hid ((hb.block _ (lt_of_block Hx.out)).trans Hx.out)
                replace Hxa := Lib.hid ((hb.block _ (lt_of_block Hxa.out)).trans Hxa.out)
                replace Hxb := Lib.hid ((hb.block _ (lt_of_block Hxb.out)).trans Hxb.out)
                replace HB := Lib.hid (HB.out.trans (hb.mono HB.out.size))
                clear hb
                simp only [Kn.v]
                go_upto_region 10 with fail
                obtain ⟨q11, hq11⟩ : ∃ X, X = w10.alloc (.cells #[.string k2.name, .string k2.row, .int .i64 k2.e, .int .i64 k2.until_] 29) := ⟨_, rfl⟩
                have hb : Below w10.heap.size w10 q11 := by rw [hq11]; exact below1 _ _
                have hL := laid1 w10 (.cells #[.string k2.name, .string k2.row, .int .i64 k2.e, .int .i64 k2.until_] 29)
                rw [← hq11] at hL ⊢
                clear hq11
                obtain ⟨bxc, hbxc⟩ : ∃ n, n = w10.heap.size := ⟨_, rfl⟩
                rw [← hbxc] at hL ⊢
                have hsxc : w.heap.size ≤ bxc := by rw [hbxc]; exact HB.out.size
                clear hbxc
                replace Hl := Lib.hid (Hl.out.below hb)
                replace Hm := Lib.hid (Hm.out.below hb)
                replace Hx := Lib.hid ((hb.block _ (lt_of_block Hx.out)).trans Hx.out)
                replace Hxa := Lib.hid ((hb.block _ (lt_of_block Hxa.out)).trans Hxa.out)
                replace Hxb := Lib.hid ((hb.block _ (lt_of_block Hxb.out)).trans Hxb.out)
                replace HB := Lib.hid (HB.out.trans (hb.mono HB.out.size))
                clear hb
                have Hxc := Lib.hid hL
                clear hL
                have hnk := neq_self_Kn k2
                have hgd := guard_Kn
                have hrr : (r2 != r2) = false := by simp
                obtain ⟨⟨c_xb_0, c_xb_1, c_xb_2, c_xb_3⟩, f_xb_0, f_xb_1, f_xb_2, f_xb_3⟩ := box_4 Hxb.out
                obtain ⟨⟨c_xc_0, c_xc_1, c_xc_2, c_xc_3⟩, f_xc_0, f_xc_1, f_xc_2, f_xc_3⟩ := box_4 Hxc.out
                go_upto_region 12 with fail
                clear c_xb_0 c_xb_1 c_xb_2 c_xb_3 f_xb_0 f_xb_1 f_xb_2 f_xb_3 c_xc_0 c_xc_1 c_xc_2 c_xc_3 f_xc_0 f_xc_1 f_xc_2 f_xc_3
                clear hnk hgd hrr
                have hwl : IntKind.i64.wrap ((l.length : Int) + 1) = (l.length : Int) + 1 := by rw [IntKind.wrap_i64]; omega
                obtain ⟨⟨c_x_0, c_x_1, c_x_2, c_x_3⟩, f_x_0, f_x_1, f_x_2, f_x_3⟩ := box_4 Hx.out
                go_wp2_with fail
                clear c_x_0 c_x_1 c_x_2 c_x_3 f_x_0 f_x_1 f_x_2 f_x_3
                go_loopw [16, 17] (fun u16 u17 wr => ∃ j : Nat, u17 = .int .i64 j ∧ u16 = .int .i64 ((if (findK (l.take j) x.name).isSome then l.length else l.length + 1 : Nat) : Int) ∧ j ≤ l.length ∧ Hid (Below q11.heap.size q11 wr)) (fun _ u _ => l.length - (intOf u).toNat)
                case atStart => exact ⟨0, rfl, by simp [findK], by omega, Lib.hid (Below.refl _ _)⟩
                case round =>
                  obtain ⟨j, rfl, rfl, hj, hbr⟩ := hrel
                  have hjw : IntKind.i64.wrap ((j : Int) + 1) = (j : Int) + 1 := by rw [IntKind.wrap_i64]; omega
                  by_cases hlt : j < l.length
                  · have hji : (j : Int) < (l.length : Int) := by omega
                    obtain ⟨y, hy⟩ : ∃ y, l[j]? = some y := ⟨_, List.getElem?_eq_getElem hlt⟩
                    obtain ⟨bl, ol, rfl, hbl, hat⟩ := (Hl.out.below hbr.out).2.2.2 (by omega)
                    obtain ⟨d0, d1, d2, d3⟩ := KK.cells hat hy
                    have hft := find_take (s := x.name) hy
                    obtain ⟨n0, hn0⟩ : ∃ n0, n0 = (if (findK (l.take j) x.name).isSome then l.length else l.length + 1 : Nat) := ⟨_, rfl⟩
                    rw [← hn0]
                    obtain ⟨⟨e0, e1, e2, e3⟩, _⟩ := box_4 ((hbr.out.block _ (lt_of_block Hx.out)).trans Hx.out)
                    clear hat hy
                    by_cases hyn : y.name = x.name
                    · have hte : (y.name.toList == x.name.toList) = true := by rw [text_eq]; simp [hyn]
                      have HN := Lib.hid (show (if (findK (l.take (j + 1)) x.name).isSome then l.length else l.length + 1 : Nat) = l.length by rw [hft]; simp [hyn])
                      clear hft hn0 hyn
                      go_wp2_with fail
                      go_quiet (fail)
                      go_wp2_with fail
                      go_roundw
                      case rel => exact ⟨j + 1, by go_num, by rw [HN.out], by omega, by first | exact hbr | exact Lib.hid (below_drewN hbr.out _)⟩
                      case measure => simp [intOf]; omega
                    · have hte : (y.name.toList == x.name.toList) = false := by rw [text_eq]; simp [hyn]
                      have HN := Lib.hid (show (if (findK (l.take (j + 1)) x.name).isSome then l.length else l.length + 1 : Nat) = n0 by rw [hft, hn0]; simp [hyn])
                      clear hft hn0 hyn
                      go_wp2_with fail
                      go_quiet (fail)
                      go_wp2_with fail
                      go_roundw
                      case rel => exact ⟨j + 1, by go_num, by rw [HN.out], by omega, by first | exact hbr | exact Lib.hid (below_drewN hbr.out _)⟩
                      case measure => simp [intOf]; omega
                  · obtain rfl : j = l.length := by omega
                    rw [List.take_length, ← HLn.out]
                    have hb := hbr.out
                    clear hbr
                    replace Hl := Lib.hid (Hl.out.below hb)
                    replace Hm := Lib.hid (Hm.out.below hb)
                    replace Hx := Lib.hid ((hb.block _ (lt_of_block Hx.out)).trans Hx.out)
                    replace Hxa := Lib.hid ((hb.block _ (lt_of_block Hxa.out)).trans Hxa.out)
                    replace Hxb := Lib.hid ((hb.block _ (lt_of_block Hxb.out)).trans Hxb.out)
                    replace Hxc := Lib.hid ((hb.block _ (lt_of_block Hxc.out)).trans Hxc.out)
                    replace HB := Lib.hid (HB.out.trans (hb.mono HB.out.size))
                    clear hb
                    have hle : ((L.length : Int) == (L.length : Int)) = true := by simp
                    have HX := Lib.hid (HPt.out L [x] L a1 (some ⟨wr.heap.size, 0, none⟩) c1 1 (wr.alloc (.cells #[.string x.name, .string x.row, .int .i64 x.e, .int .i64 x.until_] 29)) (by omega) (by simp) HLA.out (Hm.out.below (below1 wr (.cells #[.string x.name, .string x.row, .int .i64 x.e, .int .i64 x.until_] 29))) (rowC_at (K := KK) wr 29 [x] #[.string x.name, .string x.row, .int .i64 x.e, .int .i64 x.until_] wr.heap.size 1 rfl rfl rfl (by simp)))
                    simp only [List.length_cons, List.length_nil, Nat.zero_add, Nat.reduceAdd] at HX
                    obtain ⟨⟨c_x_0, c_x_1, c_x_2, c_x_3⟩, f_x_0, f_x_1, f_x_2, f_x_3⟩ := box_4 Hx.out
                    go_wp2_with fail
                    with_reducible refine HX.out.mono ?_
                    rintro e w12 ⟨a7, c7, rfl, hR, hb⟩
                    clear c_x_0 c_x_1 c_x_2 c_x_3 f_x_0 f_x_1 f_x_2 f_x_3
                    clear HX
                    replace hb := (below1 wr (.cells #[.string x.name, .string x.row, .int .i64 x.e, .int .i64 x.until_] 29)).trans (hb.mono (by simp))
                    replace Hl := Lib.hid (Hl.out.below hb)
                    replace Hm := Lib.hid (Hm.out.below hb)
                    replace Hx := Lib.hid ((hb.block _ (lt_of_block Hx.out)).trans Hx.out)
                    replace Hxa := Lib.hid ((hb.block _ (lt_of_block Hxa.out)).trans Hxa.out)
                    replace Hxb := Lib.hid ((hb.block _ (lt_of_block Hxb.out)).trans Hxb.out)
                    replace Hxc := Lib.hid ((hb.block _ (lt_of_block Hxc.out)).trans Hxc.out)
                    replace HB := Lib.hid (HB.out.trans (hb.mono HB.out.size))
                    clear hb
                    have HP7 := Lib.hid hR
                    clear hR
                    have HX := Lib.hid (rsame_yes L a7 a1 c7 c1 w12 HP7.out Hm.out)
                    go_wp2_with fail
                    with_reducible refine HX.out.mono ?_
                    rintro e w13 ⟨rfl, hb⟩
                    clear HX
                    replace Hl := Lib.hid (Hl.out.below hb)
                    replace Hm := Lib.hid (Hm.out.below hb)
                    replace HP7 := Lib.hid (HP7.out.below hb)
                    replace Hx := Lib.hid ((hb.block _ (lt_of_block Hx.out)).trans Hx.out)
                    replace Hxa := Lib.hid ((hb.block _ (lt_of_block Hxa.out)).trans Hxa.out)
                    replace Hxb := Lib.hid ((hb.block _ (lt_of_block Hxb.out)).trans Hxb.out)
                    replace Hxc := Lib.hid ((hb.block _ (lt_of_block Hxc.out)).trans Hxc.out)
                    replace HB := Lib.hid (HB.out.trans (hb.mono HB.out.size))
                    clear hb
                    go_wp2_with fail
                    with_reducible refine (HWk.out _).mono ?_
                    rintro e wf ⟨rfl, hb⟩
                    have HBf := Lib.hid (HB.out.trans (hb.mono HB.out.size))
                    clear hb
                    go_wp2_with fail
                    go_ret
                    exact ⟨rfl, HBf.out⟩
end Go.Proofs.Ytaealoodchkeaaa
