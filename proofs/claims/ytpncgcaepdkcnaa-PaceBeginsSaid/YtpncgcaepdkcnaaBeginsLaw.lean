/- PaceBegins walked. -/
import Derived.Test.YtpncgcaepdkcnaaLawB
set_option linter.unusedSimpArgs false
set_option linter.unusedVariables false
namespace Go.Proofs.Ytpncgcaepdkcnaa
open R3 Go.RowKit Go.Proofs.Ytpncgcaepdkcnaa.Kind

theorem cut_in (x : Int) (n : Nat) : ∃ q : Nat, q ≤ n ∧ (x.tmod ((n : Int) + 1) + (n : Int) + 1).tmod ((n : Int) + 1) = (q : Int) := by
  have h1 : -((n : Int) + 1) < x.tmod ((n : Int) + 1) := by have := Int.lt_tmod_of_pos x (show (0 : Int) < (n : Int) + 1 by omega); omega
  have h3 : 0 ≤ (x.tmod ((n : Int) + 1) + (n : Int) + 1).tmod ((n : Int) + 1) := Int.tmod_nonneg _ (by omega)
  have h4 := Int.tmod_lt_of_pos (x.tmod ((n : Int) + 1) + (n : Int) + 1) (show (0 : Int) < (n : Int) + 1 by omega)
  exact ⟨((x.tmod ((n : Int) + 1) + (n : Int) + 1).tmod ((n : Int) + 1)).toNat, by omega, by omega⟩
theorem tmod_in (x : Int) (n : Nat) : -((n : Int) + 1) < x.tmod ((n : Int) + 1) ∧ x.tmod ((n : Int) + 1) < (n : Int) + 1 :=
  ⟨by have := Int.lt_tmod_of_pos x (show (0 : Int) < (n : Int) + 1 by omega); omega, Int.tmod_lt_of_pos x (by omega)⟩
theorem more_step {k : Int} {l : List Pc} {i : Nat} {x : Pc} (hx : l[i]? = some x) : (l.take (i + 1)).map (moreP k) = (l.take i).map (moreP k) ++ [moreP k x] := by
  rw [List.take_add_one, hx]; simp
set_option maxHeartbeats 40000000 in
set_option maxRecDepth 1000000 in
theorem pacebegins_walk (HMa : MaySpec) (HWh : WhenSpec) (HPl : PlanSpec) (HKe : KeepsSpec) (HSt : StartsSpec) (HWk : WakesSpec) (l : List Pc) (g cut k : Int) (s : Option Addr) (c : Nat) (w : World) (hR : PK.RowC w s c l) :
    Calls Try.prog 6 #[.slice s l.length c, .int .i64 g, .int .i64 cut, .int .i64 k] w fun e w' => e = .returned (.bool true) ∧ Below w.heap.size w w' := by
  have HMa := Lib.hid (fun s n f since g now r w h => HMa s n f since g now r w h)
  have HWh := Lib.hid (fun s n since g t r w h h1 => HWh s n since g t r w h h1)
  have HPl := Lib.hid (fun n t g L w h => HPl n t g L w h)
  have HKe := Lib.hid (fun g l s c r w h h1 h2 => HKe g l s c r w h h1 h2)
  have HSt := Lib.hid (fun l s c L w h h1 h2 => HSt l s c L w h h1 h2)
  have HWk := Lib.hid (fun w => HWk w)
  have HB := Lib.hid (Below.refl w.heap.size w)
  have Hl := Lib.hid hR
  have hml : l.length ≤ 9223372036854775807 := by have h1 := hR.1; have h2 := hR.2.1; unfold maxLen at h2; omega
  clear hR
  go_enter Try.func6, Try.ntmps6
  have HG := Lib.hid (rgreat_any l s c _ w rfl hml)
  by_cases hgr : 100 < l.length
  · rw [decide_eq_true hgr] at HG
    go_wp2_with fail
    (with_reducible refine HG.out.mono ?_)
    rintro e w1 ⟨rfl, hw1⟩
    subst w1
    go_wp2_with fail
    with_reducible refine (HWk.out _).mono ?_
    rintro e wf ⟨rfl, hb⟩
    have HBf := Lib.hid (HB.out.trans (hb.mono HB.out.size))
    clear hb
    go_wp2_with fail
    go_ret
    exact ⟨rfl, HBf.out⟩
  rw [decide_eq_false hgr] at HG
  have hll : l.length ≤ 100 := by omega
  by_cases hk1 : k < 0
  · have hd := decide_eq_true hk1
    go_wp2_with fail
    (with_reducible refine HG.out.mono ?_)
    rintro e w1 ⟨rfl, hw1⟩
    subst w1
    go_wp2_with fail
    with_reducible refine (HWk.out _).mono ?_
    rintro e wf ⟨rfl, hb⟩
    have HBf := Lib.hid (HB.out.trans (hb.mono HB.out.size))
    clear hb
    go_wp2_with fail
    go_ret
    exact ⟨rfl, HBf.out⟩
  have hk1d := decide_eq_false hk1
  by_cases hk2 : 1000 < k
  · have hd := decide_eq_true hk2
    go_wp2_with fail
    (with_reducible refine HG.out.mono ?_)
    rintro e w1 ⟨rfl, hw1⟩
    subst w1
    go_wp2_with fail
    with_reducible refine (HWk.out _).mono ?_
    rintro e wf ⟨rfl, hb⟩
    have HBf := Lib.hid (HB.out.trans (hb.mono HB.out.size))
    clear hb
    go_wp2_with fail
    go_ret
    exact ⟨rfl, HBf.out⟩
  have hk2d := decide_eq_false hk2
  by_cases hg1 : g < 0
  · have hd := decide_eq_true hg1
    go_wp2_with fail
    (with_reducible refine HG.out.mono ?_)
    rintro e w1 ⟨rfl, hw1⟩
    subst w1
    go_wp2_with fail
    with_reducible refine (HWk.out _).mono ?_
    rintro e wf ⟨rfl, hb⟩
    have HBf := Lib.hid (HB.out.trans (hb.mono HB.out.size))
    clear hb
    go_wp2_with fail
    go_ret
    exact ⟨rfl, HBf.out⟩
  have hg1d := decide_eq_false hg1
  by_cases hg2 : 1048576 < g
  · have hd := decide_eq_true hg2
    go_wp2_with fail
    (with_reducible refine HG.out.mono ?_)
    rintro e w1 ⟨rfl, hw1⟩
    subst w1
    go_wp2_with fail
    with_reducible refine (HWk.out _).mono ?_
    rintro e wf ⟨rfl, hb⟩
    have HBf := Lib.hid (HB.out.trans (hb.mono HB.out.size))
    clear hb
    go_wp2_with fail
    go_ret
    exact ⟨rfl, HBf.out⟩
  have hg2d := decide_eq_false hg2
  obtain ⟨q, hq, hcq⟩ := cut_in cut l.length
  obtain ⟨hm1, hm2⟩ := tmod_in cut l.length
  have hwa : IntKind.i64.wrap ((l.length : Int) + 1) = (l.length : Int) + 1 := by rw [IntKind.wrap_i64]; omega
  have hwm : IntKind.i64.wrap (cut.tmod ((l.length : Int) + 1)) = cut.tmod ((l.length : Int) + 1) := by rw [IntKind.wrap_i64]; omega
  have hwb : IntKind.i64.wrap (cut.tmod ((l.length : Int) + 1) + (l.length : Int)) = cut.tmod ((l.length : Int) + 1) + (l.length : Int) := by rw [IntKind.wrap_i64]; omega
  have hwc : IntKind.i64.wrap (cut.tmod ((l.length : Int) + 1) + (l.length : Int) + 1) = cut.tmod ((l.length : Int) + 1) + (l.length : Int) + 1 := by rw [IntKind.wrap_i64]; omega
  have hwd : IntKind.i64.wrap (q : Int) = (q : Int) := by rw [IntKind.wrap_i64]; omega
  have hnz : ((l.length : Int) + 1 == 0) = false := by rw [beq_eq_false_iff_ne]; omega
  have hnz2 : ¬ (l.length : Int) + 1 = 0 := by omega
  obtain ⟨r, hr⟩ : ∃ r, r = keepsP g l := ⟨_, rfl⟩
  have hrt : r = true → true = keepsP g (l.take q) := fun h => (keeps_take (by rw [← hr]; exact h) q).symm
  obtain ⟨A, hA⟩ : ∃ A, A = startsL l := ⟨_, rfl⟩
  obtain ⟨B, hB⟩ : ∃ B, B = startsL (l.take q) := ⟨_, rfl⟩
  have hAB : A.take B.length = B := by rw [hA, hB]; exact (starts_take l q).symm
  have hAl : A.length ≤ 100 := by have := starts_len l; rw [hA]; omega
  have hBl : B.length ≤ A.length := by rw [← hAB, List.length_take]; omega
  have hql : (l.take q).length = q := by rw [List.length_take]; omega
  replace hr := Lib.hid hr
  replace hrt := Lib.hid hrt
  replace hA := Lib.hid hA
  replace hB := Lib.hid hB
  replace hAB := Lib.hid hAB
  replace hql := Lib.hid hql
  have hqc : (q : Int) ≤ (c : Int) := by have := Hl.out.1; omega
  have hqi : (q : Int) ≤ (l.length : Int) := by omega
  have hq0 : (0 : Int) ≤ (q : Int) := by omega
  go_wp2_with fail
  (with_reducible refine HG.out.mono ?_)
  rintro e w1 ⟨rfl, hw1⟩
  subst w1
  clear HG hm1 hm2
  have HTq := Lib.hid (fun (W : World) (h : PK.RowC W s c l) => (h.take (a' := s) q hq rfl : PK.RowC W s c (l.take q)))
  have HX := Lib.hid (HKe.out g l s c r w hr.out (by omega) Hl.out)
  go_wp2_with fail
  with_reducible refine HX.out.mono ?_
  rintro e w1 ⟨rfl, hb⟩
  clear HX
  replace Hl := Lib.hid (Hl.out.below hb)
  replace HB := Lib.hid (HB.out.trans (hb.mono HB.out.size))
  clear hb
  clear hwa hwm hwb hwc hwd hnz hnz2 hcq
  cases r with
  | false =>
    go_upto_region 7 with fail
    have HSq := Lib.hid (fun (W : World) (h : PK.RowC W s c l) => (by have := HSt.out (l.take q) s c B W hB.out (by rw [hql.out]; omega) (HTq.out W h); rw [hql.out] at this; exact this : Calls Try.prog 13 #[.slice s q c] W fun e w' => ∃ a1 c1, e = .returned (.slice a1 B.length c1) ∧ IK.RowC w' a1 c1 B ∧ Below W.heap.size W w'))
    refine ByOps.region_by_sk (by kernel_rfl) (ByOps.facts [.val (.slice s l.length c), rowI (A), .val (.slice s l.length c), .val (.int .i64 (q : Int)), .val (.slice s q c), rowI (B), rowI (A), rowI (B)]) (ByOps.facts_up _) (by kernel_rfl) (fun _ => false) (ByOps.all_ops ?_) (ByOps.all_ops ?_) (ByOps.all_ops ?_) ?_
    · refine ⟨?_, ?_, ?_, ?_, ?_, ?_, ?_, ?_, trivial⟩
      · intro _ ρ w9 hB hs
        have hBB : Below w1.heap.size w1 w9 := ⟨hB.os, hB.tape, hB.output, hB.size, hB.block⟩
        have h0 : ρ (.tmp 0) = .slice s l.length c := (hs _ (by simp [Op.operands, Call.operands])).2 (fun t ht => by cases ht; kernel_rfl)
        exact ByOps.runs_value (by first | rfl | go_simp) (Below.refl _ _) h0
      · intro _ ρ w9 hB hs
        have hBB : Below w1.heap.size w1 w9 := ⟨hB.os, hB.tape, hB.output, hB.size, hB.block⟩
        have h59 : ρ (.tmp 59) = .slice s l.length c := (hs (.tmp 59) (by simp [Op.operands, Call.operands])).1 59 rfl 0 _ rfl rfl
        have hfn : ρ (.func 13) = .func (.func 13) #[] #[] := (hs _ (by simp [Op.operands, Call.operands])).2 (fun t ht => by cases ht)
        refine ByOps.runs_enter (f := 13) (args := #[.slice s l.length c]) (by go_simp) ?_
        exact (HSt.out l s c A w9 hA.out (by omega) (Hl.out.below hBB)).mono fun e w2 ⟨a1, c1, he, hR, hb⟩ => ⟨_, he, hb, a1, c1, rfl, hR⟩
      · intro _ ρ w9 hB hs
        have hBB : Below w1.heap.size w1 w9 := ⟨hB.os, hB.tape, hB.output, hB.size, hB.block⟩
        have h0 : ρ (.tmp 0) = .slice s l.length c := (hs _ (by simp [Op.operands, Call.operands])).2 (fun t ht => by cases ht; kernel_rfl)
        exact ByOps.runs_value (by first | rfl | go_simp) (Below.refl _ _) h0
      · intro _ ρ w9 hB hs
        have hBB : Below w1.heap.size w1 w9 := ⟨hB.os, hB.tape, hB.output, hB.size, hB.block⟩
        have h2 : ρ (.tmp 2) = .int .i64 (q : Int) := (hs _ (by simp [Op.operands, Call.operands])).2 (fun t ht => by cases ht; kernel_rfl)
        exact ByOps.runs_value (by first | rfl | go_simp) (Below.refl _ _) h2
      · intro _ ρ w9 hB hs
        have hBB : Below w1.heap.size w1 w9 := ⟨hB.os, hB.tape, hB.output, hB.size, hB.block⟩
        have h61 : ρ (.tmp 61) = .slice s l.length c := (hs (.tmp 61) (by simp [Op.operands, Call.operands])).1 61 rfl 2 _ rfl rfl
        have h62 : ρ (.tmp 62) = .int .i64 (q : Int) := (hs (.tmp 62) (by simp [Op.operands, Call.operands])).1 62 rfl 3 _ rfl rfl
        exact ByOps.runs_value (v := .slice s q c) (by first | rfl | go_simp) (Below.refl _ _) rfl
      · intro _ ρ w9 hB hs
        have hBB : Below w1.heap.size w1 w9 := ⟨hB.os, hB.tape, hB.output, hB.size, hB.block⟩
        have h63 : ρ (.tmp 63) = .slice s q c := (hs (.tmp 63) (by simp [Op.operands, Call.operands])).1 63 rfl 4 _ rfl rfl
        have hfn : ρ (.func 13) = .func (.func 13) #[] #[] := (hs _ (by simp [Op.operands, Call.operands])).2 (fun t ht => by cases ht)
        refine ByOps.runs_enter (f := 13) (args := #[.slice s q c]) (by go_simp) ?_
        exact (HSq.out w9 (Hl.out.below hBB)).mono fun e w2 ⟨a1, c1, he, hR, hb⟩ => ⟨_, he, hb, a1, c1, rfl, hR⟩
      · intro _ ρ w9 hB hs
        have hBB : Below w1.heap.size w1 w9 := ⟨hB.os, hB.tape, hB.output, hB.size, hB.block⟩
        have h60 : ∃ a1 c1, ρ (.tmp 60) = .slice a1 (A : List Int).length c1 ∧ IK.RowC w9 a1 c1 (A) := (hs (.tmp 60) (by simp [Op.operands, Call.operands])).1 60 rfl 1 _ rfl rfl
        obtain ⟨ra60, rc60, h60, hR60⟩ := h60
        exact ByOps.runs_value (v := .slice ra60 (A : List Int).length rc60) (by first | rfl | go_simp) (Below.refl _ _) ⟨_, _, rfl, hR60⟩
      · intro _ ρ w9 hB hs
        have hBB : Below w1.heap.size w1 w9 := ⟨hB.os, hB.tape, hB.output, hB.size, hB.block⟩
        have h64 : ∃ a1 c1, ρ (.tmp 64) = .slice a1 (B : List Int).length c1 ∧ IK.RowC w9 a1 c1 (B) := (hs (.tmp 64) (by simp [Op.operands, Call.operands])).1 64 rfl 5 _ rfl rfl
        obtain ⟨ra64, rc64, h64, hR64⟩ := h64
        exact ByOps.runs_value (v := .slice ra64 (B : List Int).length rc64) (by first | rfl | go_simp) (Below.refl _ _) ⟨_, _, rfl, hR64⟩
    · refine ⟨?_, ?_, ?_, ?_, ?_, ?_, ?_, ?_, trivial⟩
      all_goals first | (intro hs0; cases hs0; done) | (intro _; exact ⟨by simp, fun _ => rfl⟩)
    · refine ⟨?_, ?_, ?_, ?_, ?_, ?_, ?_, ?_, trivial⟩
      all_goals first | (intro g b h; cases h; done) | (intro g b h; cases h; intro v w h; exact ⟨fun h0 => (by first | exact h | cases h0), fun h0 => (by first | cases h0; done | exact .inl h | exact .inr h)⟩)
    · intro a9 w7 hd9 hs9 ho9 hn9 hB9
      obtain ⟨v0, e0, p0⟩ := hn9 0 _ 59 rfl rfl
      obtain ⟨v1, e1, p1⟩ := hn9 1 _ 60 rfl rfl
      obtain ⟨v2, e2, p2⟩ := hn9 2 _ 61 rfl rfl
      obtain ⟨v3, e3, p3⟩ := hn9 3 _ 62 rfl rfl
      obtain ⟨v4, e4, p4⟩ := hn9 4 _ 63 rfl rfl
      obtain ⟨v5, e5, p5⟩ := hn9 5 _ 64 rfl rfl
      obtain ⟨v6, e6, p6⟩ := hn9 6 _ 10 rfl rfl
      obtain ⟨v7, e7, p7⟩ := hn9 7 _ 11 rfl rfl
      obtain rfl : v0 = .slice s l.length c := p0
      obtain ⟨qa1, qc1, rfl, hQ1⟩ := p1
      obtain rfl : v2 = .slice s l.length c := p2
      obtain rfl : v3 = .int .i64 (q : Int) := p3
      obtain rfl : v4 = .slice s q c := p4
      obtain ⟨qa5, qc5, rfl, hQ5⟩ := p5
      obtain ⟨qa6, qc6, rfl, hQ6⟩ := p6
      obtain ⟨qa7, qc7, rfl, hQ7⟩ := p7
      have ha := ByOps.act_eq [(59, .slice s l.length c), (60, .slice qa1 (A : List Int).length qc1), (61, .slice s l.length c), (62, .int .i64 (q : Int)), (63, .slice s q c), (64, .slice qa5 (B : List Int).length qc5), (10, .slice qa6 (A : List Int).length qc6), (11, .slice qa7 (B : List Int).length qc7)] a9 _ hd9 hs9 (fun t ht => ho9 t (ByOps.outer_of (ts := [59, 60, 61, 62, 63, 64, 10, 11]) rfl ht)) (by intro p hp; simp only [List.mem_cons, List.not_mem_nil, or_false] at hp; rcases hp with rfl | rfl | rfl | rfl | rfl | rfl | rfl | rfl <;> assumption)
      rw [ha]
      clear ha hn9 ho9 hs9 hd9 e0 e1 e2 e3 e4 e5 e6 e7
      simp only [List.foldl, Act.put, List.setIfInBounds_toArray, List.set_cons_zero, List.set_cons_succ]
      have hb9 : Below w1.heap.size w1 w7 := ⟨hB9.os, hB9.tape, hB9.output, hB9.size, hB9.block⟩
      clear hB9
      have hb := hb9
      clear hb9
      have Ha := Lib.hid hQ6
      have Hb := Lib.hid hQ7
      clear hQ1 hQ5 hQ6 hQ7
      replace Hl := Lib.hid (Hl.out.below hb)
      replace HB := Lib.hid (HB.out.trans (hb.mono HB.out.size))
      clear hb
      have hd1 : decide ((A.length : Int) < (B.length : Int)) = false := decide_eq_false (by omega)
      have hd2 : decide (A.length < B.length) = false := decide_eq_false (by omega)
      have hd3 : ¬ A.length < B.length := by omega
      have hd4 : ¬ (A.length : Int) < (B.length : Int) := by omega
      have hbc : (B.length : Int) ≤ (qc6 : Int) := by have := Ha.out.1; omega
      have hbi : (B.length : Int) ≤ (A.length : Int) := by omega
      have HX := Lib.hid (rsame_any B B qa6 qa7 qc6 qc7 true w7 (by simp) (hAB.out ▸ Ha.out.take (a' := qa6) B.length hBl rfl : IK.RowC w7 qa6 qc6 B) Hb.out)
      go_wp2_with fail
      with_reducible refine HX.out.mono ?_
      rintro e w2 ⟨rfl, hb⟩
      clear HX
      replace Hl := Lib.hid (Hl.out.below hb)
      replace Ha := Lib.hid (Ha.out.below hb)
      replace Hb := Lib.hid (Hb.out.below hb)
      replace HB := Lib.hid (HB.out.trans (hb.mono HB.out.size))
      clear hb
      clear Ha Hb
      clear hd1 hd2 hd3 hd4 hbc hbi
      go_wp2_with fail
      go_loopw [8, 12, 13] (fun r o i wr => ∃ (e c2 : Nat) (a2 : Option Addr), r = .bool false ∧ o = .slice a2 e c2 ∧ i = .int .i64 e ∧ e ≤ l.length ∧ Hid (PK.Own wr w2.heap.size (.slice a2 e c2) ((l.take e).map (moreP k))) ∧ Hid (∀ y ∈ l.take e, 0 ≤ y.at_ ∧ y.at_ ≤ 1048576) ∧ Hid (Below w2.heap.size w2 wr)) (fun _ _ i _ => l.length - (intOf i).toNat)
      case atStart => exact ⟨0, 0, none, rfl, rfl, rfl, by omega, Lib.hid (own_nil _ _), Lib.hid (by simp), Lib.hid (Below.refl _ _)⟩
      case round =>
        obtain ⟨e, c2, a2, rfl, rfl, rfl, hk, hO, hI, hB⟩ := hrel
        have HO := Lib.hid hO.out
        have HI := Lib.hid hI.out
        have HBr := Lib.hid hB.out
        clear hO hI hB
        by_cases hlt : e < l.length
        · obtain ⟨b, o, rfl, hbl, hat⟩ := Hl.out.2.2.2 (by omega)
          obtain ⟨x, hx⟩ : ∃ x, l[e]? = some x := ⟨_, List.getElem?_eq_getElem hlt⟩
          obtain ⟨c0, c1, c3⟩ := PK.cells (hat.below HBr.out hbl) hx
          have HX := Lib.hid hx
          have HS := Lib.hid (more_step (k := k) hx)
          have hel : (e : Int) < (l.length : Int) := by omega
          clear hat hx
          by_cases hx1 : x.at_ < 0
          · have hxd := decide_eq_true hx1
            clear c0 c1
            go_wp2_with fail
            have hb := HBr.out
            replace Hl := Lib.hid (Hl.out.below hb)
            replace HB := Lib.hid (HB.out.trans (hb.mono HB.out.size))
            clear hb
            with_reducible refine (HWk.out _).mono ?_
            rintro e wf ⟨rfl, hb⟩
            have HBf := Lib.hid (HB.out.trans (hb.mono HB.out.size))
            clear hb
            go_wp2_with fail
            go_ret
            exact ⟨rfl, HBf.out⟩
          have hx1d := decide_eq_false hx1
          by_cases hx2 : 1048576 < x.at_
          · have hxd := decide_eq_true hx2
            clear c0 c1
            go_wp2_with fail
            have hb := HBr.out
            replace Hl := Lib.hid (Hl.out.below hb)
            replace HB := Lib.hid (HB.out.trans (hb.mono HB.out.size))
            clear hb
            with_reducible refine (HWk.out _).mono ?_
            rintro e wf ⟨rfl, hb⟩
            have HBf := Lib.hid (HB.out.trans (hb.mono HB.out.size))
            clear hb
            go_wp2_with fail
            go_ret
            exact ⟨rfl, HBf.out⟩
          have hx2d := decide_eq_false hx2
          have hwx : IntKind.i64.wrap (x.at_ + k) = x.at_ + k := by rw [IntKind.wrap_i64]; omega
          have HIn := Lib.hid (show ∀ y ∈ l.take (e + 1), 0 ≤ y.at_ ∧ y.at_ ≤ 1048576 from fun y hy => by rw [List.take_add_one, HX.out] at hy; rcases List.mem_append.1 hy with h | h; exact HI.out y h; (have h2 : y = x := by simpa using h); subst h2; omega)
          obtain ⟨M2, hM2⟩ : ∃ M2, M2 = (l.take (e + 1)).map (moreP k) := ⟨_, rfl⟩
          have hM0 : ((l.take e).map (moreP k)).length = e := by rw [List.length_map, List.length_take]; omega
          have hsl : M2.length = e + 1 := by rw [hM2, List.length_map, List.length_take]; omega
          rw [← hM2] at HS
          have HM2 := Lib.hid hM2
          clear hM2 hx1 hx2
          go_upto_region 18 with fail
          obtain ⟨wb, hwb⟩ : ∃ X, X = wr.alloc (.cells #[.bool x.fail, .int .i64 x.n, .int .i64 (x.at_ + k)] 26) := ⟨_, rfl⟩
          have hbb : Below wr.heap.size wr wb := by rw [hwb]; exact below1 _ _
          have hlb : wb.heap[wr.heap.size]? = some (.cells #[.bool x.fail, .int .i64 x.n, .int .i64 (x.at_ + k)] 26) := by rw [hwb]; exact laid1 _ _
          rw [← hwb]
          clear hwb c0 c1 c3
          have HBb := Lib.hid (HBr.out.trans (hbb.mono HBr.out.size))
          have HOb := Lib.hid (HO.out.below hbb (Nat.le_refl _))
          obtain ⟨⟨c0, c1, c3⟩, _⟩ := box_3 hlb
          have hbs := HBb.out.size
          clear hbb hlb
          go_wp2_with (at_builtin; refine PK.wpList_append_owned rfl _ _ rfl w2.heap.size (.slice a2 e c2) rfl ((l.take e).map (moreP k)) (HOb.out.below (below1 wb _) (Nat.le_refl _)) (some ⟨wb.heap.size, 0, none⟩) 1 1 rfl [moreP k x] rfl (rowC_at (K := PK) wb 26 [moreP k x] _ _ 1 rfl rfl rfl (by simp)) (by rw [hM0]; simp; omega) (by simp; omega) M2 HS.out ?_; intro a3 c4 w2 hO2 hG2; have HO2 := Lib.hid hO2; have HB2 := Lib.hid ((HBb.out.trans ((below1 wb (.cells #[.bool x.fail, .int .i64 x.n, .int .i64 (x.at_ + k)] 26)).mono hbs)).grown hG2 (by simp; omega) (fun j hj => (HOb.out.lt j hj).1)); clear hO2 hG2)
          go_roundw
          case rel => exact ⟨e + 1, c4, a3, rfl, rfl, by go_num, by omega, Lib.hid (by rw [← HM2.out, ← hsl]; exact HO2.out), HIn, HB2⟩
          case measure => simp [intOf]; omega
        · obtain rfl : e = l.length := by omega
          have hI := HI.out
          rw [List.take_length] at hI
          have hkp : false = keepsP g (l.map (moreP k)) := by rw [more_keeps ⟨by omega, by omega⟩ ⟨by omega, by omega⟩ hI]; exact hr.out
          have HKp := Lib.hid hkp
          have HRp := Lib.hid (by have := HO.out.row; rw [List.take_length] at this; exact this : PK.RowC wr a2 c2 (l.map (moreP k)))
          have hb := HBr.out
          clear HO HBr HI hI hlt hkp
          replace Hl := Lib.hid (Hl.out.below hb)
          replace HB := Lib.hid (HB.out.trans (hb.mono HB.out.size))
          clear hb
          have HX := Lib.hid (HKe.out g (l.map (moreP k)) a2 c2 false wr HKp.out (by rw [List.length_map]; omega) HRp.out)
          rw [List.length_map] at HX
          go_wp2_with fail
          with_reducible refine HX.out.mono ?_
          rintro e wk ⟨rfl, hb⟩
          clear HX
          replace Hl := Lib.hid (Hl.out.below hb)
          replace HRp := Lib.hid (HRp.out.below hb)
          replace HB := Lib.hid (HB.out.trans (hb.mono HB.out.size))
          clear hb
          go_wp2_with fail
          with_reducible refine (HWk.out _).mono ?_
          rintro e wf ⟨rfl, hb⟩
          have HBf := Lib.hid (HB.out.trans (hb.mono HB.out.size))
          clear hb
          go_wp2_with fail
          go_ret
          exact ⟨rfl, HBf.out⟩
  | true =>
    have HX := Lib.hid (HKe.out g (l.take q) s c true w1 (hrt.out rfl) (by rw [hql.out]; omega) (HTq.out _ Hl.out))
    rw [hql.out] at HX
    go_wp2_with fail
    with_reducible refine HX.out.mono ?_
    rintro e wk ⟨rfl, hb⟩
    clear HX
    replace Hl := Lib.hid (Hl.out.below hb)
    replace HB := Lib.hid (HB.out.trans (hb.mono HB.out.size))
    clear hb
    go_upto_region 7 with fail
    have HSq := Lib.hid (fun (W : World) (h : PK.RowC W s c l) => (by have := HSt.out (l.take q) s c B W hB.out (by rw [hql.out]; omega) (HTq.out W h); rw [hql.out] at this; exact this : Calls Try.prog 13 #[.slice s q c] W fun e w' => ∃ a1 c1, e = .returned (.slice a1 B.length c1) ∧ IK.RowC w' a1 c1 B ∧ Below W.heap.size W w'))
    refine ByOps.region_by_sk (by kernel_rfl) (ByOps.facts [.val (.slice s l.length c), rowI (A), .val (.slice s l.length c), .val (.int .i64 (q : Int)), .val (.slice s q c), rowI (B), rowI (A), rowI (B)]) (ByOps.facts_up _) (by kernel_rfl) (fun _ => false) (ByOps.all_ops ?_) (ByOps.all_ops ?_) (ByOps.all_ops ?_) ?_
    · refine ⟨?_, ?_, ?_, ?_, ?_, ?_, ?_, ?_, trivial⟩
      · intro _ ρ w9 hB hs
        have hBB : Below wk.heap.size wk w9 := ⟨hB.os, hB.tape, hB.output, hB.size, hB.block⟩
        have h0 : ρ (.tmp 0) = .slice s l.length c := (hs _ (by simp [Op.operands, Call.operands])).2 (fun t ht => by cases ht; kernel_rfl)
        exact ByOps.runs_value (by first | rfl | go_simp) (Below.refl _ _) h0
      · intro _ ρ w9 hB hs
        have hBB : Below wk.heap.size wk w9 := ⟨hB.os, hB.tape, hB.output, hB.size, hB.block⟩
        have h59 : ρ (.tmp 59) = .slice s l.length c := (hs (.tmp 59) (by simp [Op.operands, Call.operands])).1 59 rfl 0 _ rfl rfl
        have hfn : ρ (.func 13) = .func (.func 13) #[] #[] := (hs _ (by simp [Op.operands, Call.operands])).2 (fun t ht => by cases ht)
        refine ByOps.runs_enter (f := 13) (args := #[.slice s l.length c]) (by go_simp) ?_
        exact (HSt.out l s c A w9 hA.out (by omega) (Hl.out.below hBB)).mono fun e w2 ⟨a1, c1, he, hR, hb⟩ => ⟨_, he, hb, a1, c1, rfl, hR⟩
      · intro _ ρ w9 hB hs
        have hBB : Below wk.heap.size wk w9 := ⟨hB.os, hB.tape, hB.output, hB.size, hB.block⟩
        have h0 : ρ (.tmp 0) = .slice s l.length c := (hs _ (by simp [Op.operands, Call.operands])).2 (fun t ht => by cases ht; kernel_rfl)
        exact ByOps.runs_value (by first | rfl | go_simp) (Below.refl _ _) h0
      · intro _ ρ w9 hB hs
        have hBB : Below wk.heap.size wk w9 := ⟨hB.os, hB.tape, hB.output, hB.size, hB.block⟩
        have h2 : ρ (.tmp 2) = .int .i64 (q : Int) := (hs _ (by simp [Op.operands, Call.operands])).2 (fun t ht => by cases ht; kernel_rfl)
        exact ByOps.runs_value (by first | rfl | go_simp) (Below.refl _ _) h2
      · intro _ ρ w9 hB hs
        have hBB : Below wk.heap.size wk w9 := ⟨hB.os, hB.tape, hB.output, hB.size, hB.block⟩
        have h61 : ρ (.tmp 61) = .slice s l.length c := (hs (.tmp 61) (by simp [Op.operands, Call.operands])).1 61 rfl 2 _ rfl rfl
        have h62 : ρ (.tmp 62) = .int .i64 (q : Int) := (hs (.tmp 62) (by simp [Op.operands, Call.operands])).1 62 rfl 3 _ rfl rfl
        exact ByOps.runs_value (v := .slice s q c) (by first | rfl | go_simp) (Below.refl _ _) rfl
      · intro _ ρ w9 hB hs
        have hBB : Below wk.heap.size wk w9 := ⟨hB.os, hB.tape, hB.output, hB.size, hB.block⟩
        have h63 : ρ (.tmp 63) = .slice s q c := (hs (.tmp 63) (by simp [Op.operands, Call.operands])).1 63 rfl 4 _ rfl rfl
        have hfn : ρ (.func 13) = .func (.func 13) #[] #[] := (hs _ (by simp [Op.operands, Call.operands])).2 (fun t ht => by cases ht)
        refine ByOps.runs_enter (f := 13) (args := #[.slice s q c]) (by go_simp) ?_
        exact (HSq.out w9 (Hl.out.below hBB)).mono fun e w2 ⟨a1, c1, he, hR, hb⟩ => ⟨_, he, hb, a1, c1, rfl, hR⟩
      · intro _ ρ w9 hB hs
        have hBB : Below wk.heap.size wk w9 := ⟨hB.os, hB.tape, hB.output, hB.size, hB.block⟩
        have h60 : ∃ a1 c1, ρ (.tmp 60) = .slice a1 (A : List Int).length c1 ∧ IK.RowC w9 a1 c1 (A) := (hs (.tmp 60) (by simp [Op.operands, Call.operands])).1 60 rfl 1 _ rfl rfl
        obtain ⟨ra60, rc60, h60, hR60⟩ := h60
        exact ByOps.runs_value (v := .slice ra60 (A : List Int).length rc60) (by first | rfl | go_simp) (Below.refl _ _) ⟨_, _, rfl, hR60⟩
      · intro _ ρ w9 hB hs
        have hBB : Below wk.heap.size wk w9 := ⟨hB.os, hB.tape, hB.output, hB.size, hB.block⟩
        have h64 : ∃ a1 c1, ρ (.tmp 64) = .slice a1 (B : List Int).length c1 ∧ IK.RowC w9 a1 c1 (B) := (hs (.tmp 64) (by simp [Op.operands, Call.operands])).1 64 rfl 5 _ rfl rfl
        obtain ⟨ra64, rc64, h64, hR64⟩ := h64
        exact ByOps.runs_value (v := .slice ra64 (B : List Int).length rc64) (by first | rfl | go_simp) (Below.refl _ _) ⟨_, _, rfl, hR64⟩
    · refine ⟨?_, ?_, ?_, ?_, ?_, ?_, ?_, ?_, trivial⟩
      all_goals first | (intro hs0; cases hs0; done) | (intro _; exact ⟨by simp, fun _ => rfl⟩)
    · refine ⟨?_, ?_, ?_, ?_, ?_, ?_, ?_, ?_, trivial⟩
      all_goals first | (intro g b h; cases h; done) | (intro g b h; cases h; intro v w h; exact ⟨fun h0 => (by first | exact h | cases h0), fun h0 => (by first | cases h0; done | exact .inl h | exact .inr h)⟩)
    · intro a9 w7 hd9 hs9 ho9 hn9 hB9
      obtain ⟨v0, e0, p0⟩ := hn9 0 _ 59 rfl rfl
      obtain ⟨v1, e1, p1⟩ := hn9 1 _ 60 rfl rfl
      obtain ⟨v2, e2, p2⟩ := hn9 2 _ 61 rfl rfl
      obtain ⟨v3, e3, p3⟩ := hn9 3 _ 62 rfl rfl
      obtain ⟨v4, e4, p4⟩ := hn9 4 _ 63 rfl rfl
      obtain ⟨v5, e5, p5⟩ := hn9 5 _ 64 rfl rfl
      obtain ⟨v6, e6, p6⟩ := hn9 6 _ 10 rfl rfl
      obtain ⟨v7, e7, p7⟩ := hn9 7 _ 11 rfl rfl
      obtain rfl : v0 = .slice s l.length c := p0
      obtain ⟨qa1, qc1, rfl, hQ1⟩ := p1
      obtain rfl : v2 = .slice s l.length c := p2
      obtain rfl : v3 = .int .i64 (q : Int) := p3
      obtain rfl : v4 = .slice s q c := p4
      obtain ⟨qa5, qc5, rfl, hQ5⟩ := p5
      obtain ⟨qa6, qc6, rfl, hQ6⟩ := p6
      obtain ⟨qa7, qc7, rfl, hQ7⟩ := p7
      have ha := ByOps.act_eq [(59, .slice s l.length c), (60, .slice qa1 (A : List Int).length qc1), (61, .slice s l.length c), (62, .int .i64 (q : Int)), (63, .slice s q c), (64, .slice qa5 (B : List Int).length qc5), (10, .slice qa6 (A : List Int).length qc6), (11, .slice qa7 (B : List Int).length qc7)] a9 _ hd9 hs9 (fun t ht => ho9 t (ByOps.outer_of (ts := [59, 60, 61, 62, 63, 64, 10, 11]) rfl ht)) (by intro p hp; simp only [List.mem_cons, List.not_mem_nil, or_false] at hp; rcases hp with rfl | rfl | rfl | rfl | rfl | rfl | rfl | rfl <;> assumption)
      rw [ha]
      clear ha hn9 ho9 hs9 hd9 e0 e1 e2 e3 e4 e5 e6 e7
      simp only [List.foldl, Act.put, List.setIfInBounds_toArray, List.set_cons_zero, List.set_cons_succ]
      have hb9 : Below wk.heap.size wk w7 := ⟨hB9.os, hB9.tape, hB9.output, hB9.size, hB9.block⟩
      clear hB9
      have hb := hb9
      clear hb9
      have Ha := Lib.hid hQ6
      have Hb := Lib.hid hQ7
      clear hQ1 hQ5 hQ6 hQ7
      replace Hl := Lib.hid (Hl.out.below hb)
      replace HB := Lib.hid (HB.out.trans (hb.mono HB.out.size))
      clear hb
      have hd1 : decide ((A.length : Int) < (B.length : Int)) = false := decide_eq_false (by omega)
      have hd2 : decide (A.length < B.length) = false := decide_eq_false (by omega)
      have hd3 : ¬ A.length < B.length := by omega
      have hd4 : ¬ (A.length : Int) < (B.length : Int) := by omega
      have hbc : (B.length : Int) ≤ (qc6 : Int) := by have := Ha.out.1; omega
      have hbi : (B.length : Int) ≤ (A.length : Int) := by omega
      have HX := Lib.hid (rsame_any B B qa6 qa7 qc6 qc7 true w7 (by simp) (hAB.out ▸ Ha.out.take (a' := qa6) B.length hBl rfl : IK.RowC w7 qa6 qc6 B) Hb.out)
      go_wp2_with fail
      with_reducible refine HX.out.mono ?_
      rintro e w2 ⟨rfl, hb⟩
      clear HX
      replace Hl := Lib.hid (Hl.out.below hb)
      replace Ha := Lib.hid (Ha.out.below hb)
      replace Hb := Lib.hid (Hb.out.below hb)
      replace HB := Lib.hid (HB.out.trans (hb.mono HB.out.size))
      clear hb
      clear Ha Hb
      clear hd1 hd2 hd3 hd4 hbc hbi
      go_wp2_with fail
      go_loopw [8, 12, 13] (fun r o i wr => ∃ (e c2 : Nat) (a2 : Option Addr), r = .bool false ∧ o = .slice a2 e c2 ∧ i = .int .i64 e ∧ e ≤ l.length ∧ Hid (PK.Own wr w2.heap.size (.slice a2 e c2) ((l.take e).map (moreP k))) ∧ Hid (∀ y ∈ l.take e, 0 ≤ y.at_ ∧ y.at_ ≤ 1048576) ∧ Hid (Below w2.heap.size w2 wr)) (fun _ _ i _ => l.length - (intOf i).toNat)
      case atStart => exact ⟨0, 0, none, rfl, rfl, rfl, by omega, Lib.hid (own_nil _ _), Lib.hid (by simp), Lib.hid (Below.refl _ _)⟩
      case round =>
        obtain ⟨e, c2, a2, rfl, rfl, rfl, hk, hO, hI, hB⟩ := hrel
        have HO := Lib.hid hO.out
        have HI := Lib.hid hI.out
        have HBr := Lib.hid hB.out
        clear hO hI hB
        by_cases hlt : e < l.length
        · obtain ⟨b, o, rfl, hbl, hat⟩ := Hl.out.2.2.2 (by omega)
          obtain ⟨x, hx⟩ : ∃ x, l[e]? = some x := ⟨_, List.getElem?_eq_getElem hlt⟩
          obtain ⟨c0, c1, c3⟩ := PK.cells (hat.below HBr.out hbl) hx
          have HX := Lib.hid hx
          have HS := Lib.hid (more_step (k := k) hx)
          have hel : (e : Int) < (l.length : Int) := by omega
          clear hat hx
          by_cases hx1 : x.at_ < 0
          · have hxd := decide_eq_true hx1
            clear c0 c1
            go_wp2_with fail
            have hb := HBr.out
            replace Hl := Lib.hid (Hl.out.below hb)
            replace HB := Lib.hid (HB.out.trans (hb.mono HB.out.size))
            clear hb
            with_reducible refine (HWk.out _).mono ?_
            rintro e wf ⟨rfl, hb⟩
            have HBf := Lib.hid (HB.out.trans (hb.mono HB.out.size))
            clear hb
            go_wp2_with fail
            go_ret
            exact ⟨rfl, HBf.out⟩
          have hx1d := decide_eq_false hx1
          by_cases hx2 : 1048576 < x.at_
          · have hxd := decide_eq_true hx2
            clear c0 c1
            go_wp2_with fail
            have hb := HBr.out
            replace Hl := Lib.hid (Hl.out.below hb)
            replace HB := Lib.hid (HB.out.trans (hb.mono HB.out.size))
            clear hb
            with_reducible refine (HWk.out _).mono ?_
            rintro e wf ⟨rfl, hb⟩
            have HBf := Lib.hid (HB.out.trans (hb.mono HB.out.size))
            clear hb
            go_wp2_with fail
            go_ret
            exact ⟨rfl, HBf.out⟩
          have hx2d := decide_eq_false hx2
          have hwx : IntKind.i64.wrap (x.at_ + k) = x.at_ + k := by rw [IntKind.wrap_i64]; omega
          have HIn := Lib.hid (show ∀ y ∈ l.take (e + 1), 0 ≤ y.at_ ∧ y.at_ ≤ 1048576 from fun y hy => by rw [List.take_add_one, HX.out] at hy; rcases List.mem_append.1 hy with h | h; exact HI.out y h; (have h2 : y = x := by simpa using h); subst h2; omega)
          obtain ⟨M2, hM2⟩ : ∃ M2, M2 = (l.take (e + 1)).map (moreP k) := ⟨_, rfl⟩
          have hM0 : ((l.take e).map (moreP k)).length = e := by rw [List.length_map, List.length_take]; omega
          have hsl : M2.length = e + 1 := by rw [hM2, List.length_map, List.length_take]; omega
          rw [← hM2] at HS
          have HM2 := Lib.hid hM2
          clear hM2 hx1 hx2
          go_upto_region 18 with fail
          obtain ⟨wb, hwb⟩ : ∃ X, X = wr.alloc (.cells #[.bool x.fail, .int .i64 x.n, .int .i64 (x.at_ + k)] 26) := ⟨_, rfl⟩
          have hbb : Below wr.heap.size wr wb := by rw [hwb]; exact below1 _ _
          have hlb : wb.heap[wr.heap.size]? = some (.cells #[.bool x.fail, .int .i64 x.n, .int .i64 (x.at_ + k)] 26) := by rw [hwb]; exact laid1 _ _
          rw [← hwb]
          clear hwb c0 c1 c3
          have HBb := Lib.hid (HBr.out.trans (hbb.mono HBr.out.size))
          have HOb := Lib.hid (HO.out.below hbb (Nat.le_refl _))
          obtain ⟨⟨c0, c1, c3⟩, _⟩ := box_3 hlb
          have hbs := HBb.out.size
          clear hbb hlb
          go_wp2_with (at_builtin; refine PK.wpList_append_owned rfl _ _ rfl w2.heap.size (.slice a2 e c2) rfl ((l.take e).map (moreP k)) (HOb.out.below (below1 wb _) (Nat.le_refl _)) (some ⟨wb.heap.size, 0, none⟩) 1 1 rfl [moreP k x] rfl (rowC_at (K := PK) wb 26 [moreP k x] _ _ 1 rfl rfl rfl (by simp)) (by rw [hM0]; simp; omega) (by simp; omega) M2 HS.out ?_; intro a3 c4 w2 hO2 hG2; have HO2 := Lib.hid hO2; have HB2 := Lib.hid ((HBb.out.trans ((below1 wb (.cells #[.bool x.fail, .int .i64 x.n, .int .i64 (x.at_ + k)] 26)).mono hbs)).grown hG2 (by simp; omega) (fun j hj => (HOb.out.lt j hj).1)); clear hO2 hG2)
          go_roundw
          case rel => exact ⟨e + 1, c4, a3, rfl, rfl, by go_num, by omega, Lib.hid (by rw [← HM2.out, ← hsl]; exact HO2.out), HIn, HB2⟩
          case measure => simp [intOf]; omega
        · obtain rfl : e = l.length := by omega
          have hI := HI.out
          rw [List.take_length] at hI
          have hkp : true = keepsP g (l.map (moreP k)) := by rw [more_keeps ⟨by omega, by omega⟩ ⟨by omega, by omega⟩ hI]; exact hr.out
          have HKp := Lib.hid hkp
          have HRp := Lib.hid (by have := HO.out.row; rw [List.take_length] at this; exact this : PK.RowC wr a2 c2 (l.map (moreP k)))
          have hb := HBr.out
          clear HO HBr HI hI hlt hkp
          replace Hl := Lib.hid (Hl.out.below hb)
          replace HB := Lib.hid (HB.out.trans (hb.mono HB.out.size))
          clear hb
          have HX := Lib.hid (HKe.out g (l.map (moreP k)) a2 c2 true wr HKp.out (by rw [List.length_map]; omega) HRp.out)
          rw [List.length_map] at HX
          go_wp2_with fail
          with_reducible refine HX.out.mono ?_
          rintro e wk ⟨rfl, hb⟩
          clear HX
          replace Hl := Lib.hid (Hl.out.below hb)
          replace HRp := Lib.hid (HRp.out.below hb)
          replace HB := Lib.hid (HB.out.trans (hb.mono HB.out.size))
          clear hb
          go_wp2_with fail
          with_reducible refine (HWk.out _).mono ?_
          rintro e wf ⟨rfl, hb⟩
          have HBf := Lib.hid (HB.out.trans (hb.mono HB.out.size))
          clear hb
          go_wp2_with fail
          go_ret
          exact ⟨rfl, HBf.out⟩
end Go.Proofs.Ytpncgcaepdkcnaa
