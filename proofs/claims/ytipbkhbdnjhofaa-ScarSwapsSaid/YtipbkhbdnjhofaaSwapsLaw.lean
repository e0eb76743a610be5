/- ScarSwaps walked. -/
import Derived.Test.YtipbkhbdnjhofaaLawB
set_option linter.unusedSimpArgs false
set_option linter.unusedVariables false
namespace Go.Proofs.Ytipbkhbdnjhofaa
open R3 Go.RowKit Go.Proofs.Ytipbkhbdnjhofaa.Kind

set_option maxHeartbeats 40000000 in
set_option maxRecDepth 1000000 in
theorem scarswaps_walk (HNo : NoteSpec) (HHe : HealSpec) (HFr : FreshSpec) (HHa : HasSpec) (HWo : WorstSpec) (HSa : SameSpec) (HWk : WakesSpec) (l : List Sc) (a b : Ad) (n : Int) (s : Option Addr) (c : Nat) (w : World) (hR : SK.RowC w s c l) (hol : OkS l) (hoa : okA a) (hob : okA b) :
    Calls Try.prog 6 #[.slice s l.length c, a.v, b.v, .int .i64 n] w fun e w' => e = .returned (.bool true) ∧ Below w.heap.size w w' := by
  have HNo := Lib.hid (fun l n ds s v c d L w h h1 h2 h3 h4 => HNo l n ds s v c d L w h h1 h2 h3 h4)
  have HHe := Lib.hid (fun l ds s v c d L w h h1 h2 h3 h4 => HHe l ds s v c d L w h h1 h2 h3 h4)
  have HFr := Lib.hid (fun l g n s c L w h h1 h2 => HFr l g n s c L w h h1 h2)
  have HHa := Lib.hid (fun l g n ds s v c d r w h h1 h2 h3 h4 => HHa l g n ds s v c d r w h h1 h2 h3 h4)
  have HWo := Lib.hid (fun l g n s c x r w h h1 h2 h3 => HWo l g n s c x r w h h1 h2 h3)
  have HSa := Lib.hid (fun l m a b c d r w h h1 h2 h3 h4 => HSa l m a b c d r w h h1 h2 h3 h4)
  have HWk := Lib.hid (fun w => HWk w)
  have HB := Lib.hid (Below.refl w.heap.size w)
  have Hl := Lib.hid hR
  have HOl := Lib.hid hol
  have HOa := Lib.hid hoa
  have HOb := Lib.hid hob
  have hmx : l.length ≤ 9223372036854775807 := by have h1 := hR.1; have h2 := hR.2.1; unfold maxLen at h2; omega
  clear hR hol hoa hob
  simp only [Ad.v]
  go_enter Try.func6, Try.ntmps6
  go_upto_region 1 with fail
  obtain ⟨q0, hq0⟩ : ∃ X, X = (w.alloc (.cells #[.int .i8 a.f, .int .u16 a.g0, .int .u16 a.g1, .int .u16 a.g2, .int .u16 a.g3, .int .u16 a.g4, .int .u16 a.g5, .int .u16 a.g6, .int .u16 a.g7, .int .i64 a.p] 31)).alloc (.cells #[.int .i8 b.f, .int .u16 b.g0, .int .u16 b.g1, .int .u16 b.g2, .int .u16 b.g3, .int .u16 b.g4, .int .u16 b.g5, .int .u16 b.g6, .int .u16 b.g7, .int .i64 b.p] 31) := ⟨_, rfl⟩
  have hb := below2 w (.cells #[.int .i8 a.f, .int .u16 a.g0, .int .u16 a.g1, .int .u16 a.g2, .int .u16 a.g3, .int .u16 a.g4, .int .u16 a.g5, .int .u16 a.g6, .int .u16 a.g7, .int .i64 a.p] 31) (.cells #[.int .i8 b.f, .int .u16 b.g0, .int .u16 b.g1, .int .u16 b.g2, .int .u16 b.g3, .int .u16 b.g4, .int .u16 b.g5, .int .u16 b.g6, .int .u16 b.g7, .int .i64 b.p] 31)
  have hL := laid2 w (.cells #[.int .i8 a.f, .int .u16 a.g0, .int .u16 a.g1, .int .u16 a.g2, .int .u16 a.g3, .int .u16 a.g4, .int .u16 a.g5, .int .u16 a.g6, .int .u16 a.g7, .int .i64 a.p] 31) (.cells #[.int .i8 b.f, .int .u16 b.g0, .int .u16 b.g1, .int .u16 b.g2, .int .u16 b.g3, .int .u16 b.g4, .int .u16 b.g5, .int .u16 b.g6, .int .u16 b.g7, .int .i64 b.p] 31)
  rw [← hq0] at hb hL ⊢
  clear hq0
  obtain ⟨bb, hbb⟩ : ∃ n, n = w.heap.size + 1 := ⟨_, rfl⟩
  rw [← hbb] at hL ⊢
  have hHa := hL.1
  have hHb := hL.2
  clear hL hbb
  replace Hl := Lib.hid (Hl.out.below hb)
  replace HB := Lib.hid (HB.out.trans (hb.mono HB.out.size))
  clear hb
  have Ha := Lib.hid hHa
  have Hb := Lib.hid hHb
  clear hHa hHb
  by_cases h30 : 30 < l.length
  · have hd : decide ((30 : Int) < (l.length : Int)) = true := decide_eq_true (by omega)
    have hd2 : (30 : Int) < (l.length : Int) := by omega
    go_wp2_with fail
    with_reducible refine (HWk.out _).mono ?_
    rintro e wf ⟨rfl, hb⟩
    have HBf := Lib.hid (HB.out.trans (hb.mono HB.out.size))
    clear hb
    go_wp2_with fail
    go_ret
    exact ⟨rfl, HBf.out⟩
  have hd : decide ((30 : Int) < (l.length : Int)) = false := decide_eq_false (by omega)
  have hd2 : ¬ (30 : Int) < (l.length : Int) := by omega
  have hE := eql_ad a b
  have hgd := guard_ad
  by_cases hab : a = b
  · rw [decide_eq_true hab] at hE
    clear hab
    obtain ⟨⟨c_a_0, c_a_1, c_a_2, c_a_3, c_a_4, c_a_5, c_a_6, c_a_7, c_a_8, c_a_9⟩, f_a_0, f_a_1, f_a_2, f_a_3, f_a_4, f_a_5, f_a_6, f_a_7, f_a_8, f_a_9⟩ := box_10 Ha.out
    obtain ⟨⟨c_b_0, c_b_1, c_b_2, c_b_3, c_b_4, c_b_5, c_b_6, c_b_7, c_b_8, c_b_9⟩, f_b_0, f_b_1, f_b_2, f_b_3, f_b_4, f_b_5, f_b_6, f_b_7, f_b_8, f_b_9⟩ := box_10 Hb.out
    go_wp2_with fail
    clear c_a_0 c_a_1 c_a_2 c_a_3 c_a_4 c_a_5 c_a_6 c_a_7 c_a_8 c_a_9 f_a_0 f_a_1 f_a_2 f_a_3 f_a_4 f_a_5 f_a_6 f_a_7 f_a_8 f_a_9 c_b_0 c_b_1 c_b_2 c_b_3 c_b_4 c_b_5 c_b_6 c_b_7 c_b_8 c_b_9 f_b_0 f_b_1 f_b_2 f_b_3 f_b_4 f_b_5 f_b_6 f_b_7 f_b_8 f_b_9
    with_reducible refine (HWk.out _).mono ?_
    rintro e wf ⟨rfl, hb⟩
    have HBf := Lib.hid (HB.out.trans (hb.mono HB.out.size))
    clear hb
    go_wp2_with fail
    go_ret
    exact ⟨rfl, HBf.out⟩
  rw [decide_eq_false hab] at hE
  replace hab := Lib.hid hab
  obtain ⟨⟨c_a_0, c_a_1, c_a_2, c_a_3, c_a_4, c_a_5, c_a_6, c_a_7, c_a_8, c_a_9⟩, f_a_0, f_a_1, f_a_2, f_a_3, f_a_4, f_a_5, f_a_6, f_a_7, f_a_8, f_a_9⟩ := box_10 Ha.out
  obtain ⟨⟨c_b_0, c_b_1, c_b_2, c_b_3, c_b_4, c_b_5, c_b_6, c_b_7, c_b_8, c_b_9⟩, f_b_0, f_b_1, f_b_2, f_b_3, f_b_4, f_b_5, f_b_6, f_b_7, f_b_8, f_b_9⟩ := box_10 Hb.out
  go_wp2_with fail
  clear c_a_0 c_a_1 c_a_2 c_a_3 c_a_4 c_a_5 c_a_6 c_a_7 c_a_8 c_a_9 f_a_0 f_a_1 f_a_2 f_a_3 f_a_4 f_a_5 f_a_6 f_a_7 f_a_8 f_a_9 c_b_0 c_b_1 c_b_2 c_b_3 c_b_4 c_b_5 c_b_6 c_b_7 c_b_8 c_b_9 f_b_0 f_b_1 f_b_2 f_b_3 f_b_4 f_b_5 f_b_6 f_b_7 f_b_8 f_b_9
  clear hE hd hd2
  have hll : l.length ≤ 30 := by omega
  obtain ⟨w0, rfl⟩ : ∃ W : World, W = q0 := ⟨_, rfl⟩
  go_loopw [8, 9] (fun r i wr => ∃ q : Nat, r = .bool false ∧ i = .int .i64 q ∧ q ≤ l.length ∧ Hid (Below w0.heap.size w0 wr)) (fun _ i _ => l.length - (intOf i).toNat)
  case atStart => exact ⟨0, rfl, rfl, by omega, Lib.hid (Below.refl _ _)⟩
  case round =>
    obtain ⟨q, rfl, rfl, hq, hb0⟩ := hrel
    obtain ⟨wo, rfl⟩ : ∃ W : World, W = wr := ⟨_, rfl⟩
    have HBo := Lib.hid hb0.out
    have hb := hb0.out
    clear hb0
    replace Hl := Lib.hid (Hl.out.below hb)
    replace Ha := Lib.hid ((hb.block _ (lt_of_block Ha.out)).trans Ha.out)
    replace Hb := Lib.hid ((hb.block _ (lt_of_block Hb.out)).trans Hb.out)
    replace HB := Lib.hid (HB.out.trans (hb.mono HB.out.size))
    clear hb
    by_cases hlt : q < l.length
    · have hqi : (q : Int) < (l.length : Int) := by omega
      have hq0 : (0 : Int) ≤ (q : Int) := by omega
      obtain ⟨x, hx⟩ : ∃ x, l[q]? = some x := ⟨_, List.getElem?_eq_getElem hlt⟩
      obtain ⟨b0, o0, rfl, hbl, hat⟩ := Hl.out.2.2.2 (by omega)
      have HC := Lib.hid (fun (W : World) (h : Below wo.heap.size wo W) (j : Nat) (y : Sc) (hy : l[j]? = some y) => SK.cells (hat.below h hbl) hy)
      have HX := Lib.hid hx
      clear hat hx
      go_wp2_with fail
      go_loopw [8, 10] (fun r k wr => ∃ e : Nat, r = .bool false ∧ k = .int .i64 e ∧ e ≤ q ∧ Hid (Below wo.heap.size wo wr)) (fun _ k _ => q - (intOf k).toNat)
      case atStart => exact ⟨0, rfl, rfl, by omega, Lib.hid (Below.refl _ _)⟩
      case round =>
        obtain ⟨e, rfl, rfl, he, hb0⟩ := hrel
        have HBi := Lib.hid hb0.out
        clear hb0
        by_cases hlt2 : e < q
        · obtain ⟨y, hy⟩ : ∃ y, l[e]? = some y := ⟨_, List.getElem?_eq_getElem (by omega)⟩
          obtain ⟨d0, d1, d2, d3, d4, d5, d6, d7, d8, d9, d10⟩ := HC.out wr HBi.out _ _ hy
          obtain ⟨k0, k1, k2, k3, k4, k5, k6, k7, k8, k9, k10⟩ := HC.out wr HBi.out _ _ HX.out
          have hei : (e : Int) < (l.length : Int) := by omega
          have he0 : (0 : Int) ≤ (e : Int) := by omega
          have heq : (e : Int) < (q : Int) := by omega
          have hE := eql_ad y.ad x.ad
          clear hy
          by_cases hxy : y.ad = x.ad
          · rw [decide_eq_true hxy] at hE
            clear hxy
            go_wp2_with fail
            go_quiet (fail)
            go_wp2_with fail
            (with_reducible refine (HWk.out _).mono ?_)
            rintro e wf ⟨rfl, hb⟩
            have hbA := below_drewN HBi.out nq
            have HBf := Lib.hid (HB.out.trans ((hbA.trans (hb.mono hbA.size)).mono HB.out.size))
            clear hb hbA
            go_wp2_with fail
            go_ret
            exact ⟨rfl, HBf.out⟩
          · rw [decide_eq_false hxy] at hE
            clear hxy
            go_wp2_with fail
            go_quiet (fail)
            go_wp2_with fail
            go_roundw
            case rel => exact ⟨e + 1, rfl, by go_num, by omega, Lib.hid (below_drewN HBi.out _)⟩
            case measure => simp [intOf]; omega
        · obtain rfl : e = q := by omega
          go_wp2_with fail
          go_roundw
          case rel => exact ⟨e + 1, rfl, by go_num, by omega, Lib.hid (HBo.out.trans (HBi.out.mono HBo.out.size))⟩
          case measure => simp [intOf]; omega
    · obtain rfl : q = l.length := by omega
      clear hlt
      obtain ⟨tk, htk⟩ : ∃ t, t = P.clamp n := ⟨_, rfl⟩
      replace htk := Lib.hid htk
      obtain ⟨M, hM⟩ : ∃ M, M = outS (outS l a) b := ⟨_, rfl⟩
      have hM2 : M = outS (outS l b) a := by rw [hM]; exact out_swap _ _ _
      obtain ⟨L1, hL1⟩ : ∃ L1, L1 = noteS l tk [a, b] := ⟨_, rfl⟩
      obtain ⟨L2, hL2⟩ : ∃ L2, L2 = noteS l tk [b, a] := ⟨_, rfl⟩
      have hD1 : L1 = M ++ [⟨a, tk⟩, ⟨b, tk⟩] := by rw [hL1, note_two l tk hll hab.out, ← hM]
      have hD2 : L2 = M ++ [⟨b, tk⟩, ⟨a, tk⟩] := by rw [hL2, note_two l tk hll (Ne.symm hab.out), ← hM2]
      have hMl : M.length ≤ 30 := by have h1 := out_len l a; have h2 := out_len (outS l a) b; rw [hM]; omega
      obtain ⟨G, hG⟩ : ∃ G : Nat, G = M.length := ⟨_, rfl⟩
      obtain ⟨G1, hG1⟩ : ∃ G1 : Nat, G1 = G + 1 := ⟨_, rfl⟩
      have hGl : G ≤ 30 := by rw [hG]; exact hMl
      have hN1 : L1.length = G + 2 := by rw [hD1, hG]; simp
      have hN2 : L2.length = G + 2 := by rw [hD2, hG]; simp
      have e10 : L1[G]? = some ⟨a, tk⟩ := by rw [hD1, hG]; simp
      have e11 : L1[G1]? = some ⟨b, tk⟩ := by rw [hD1, hG1, hG]; simp
      have e20 : L2[G]? = some ⟨b, tk⟩ := by rw [hD2, hG]; simp
      have e21 : L2[G1]? = some ⟨a, tk⟩ := by rw [hD2, hG1, hG]; simp
      have t1 : L1.take G = M := by rw [hD1, hG]; simp
      have t2 : L2.take G = M := by rw [hD2, hG]; simp
      have hLO : OkS L1 := by rw [hL1]; exact okS_note HOl.out (okL_two HOa.out HOb.out) tk
      have hH1 : HealIs M l [a, b] := ⟨by rw [hM]; rfl, HOl.out, okL_two HOa.out HOb.out⟩
      have hH2 : HealIs M L1 [b, a] := ⟨by rw [hD1, hM, heal_noted l tk hab.out], hLO, okL_two HOb.out HOa.out⟩
      have hH3 : HealIs M (healS l [a]) [b] := ⟨by rw [hM]; rfl, okS_heal [a] HOl.out, okL_one HOb.out⟩
      have hH4 : HealIs (healS l [a]) l [a] := ⟨rfl, HOl.out, okL_one HOa.out⟩
      replace hL1 : NoteIs L1 l n [a, b] := ⟨by rw [← htk.out]; exact hL1, HOl.out, okL_two HOa.out HOb.out⟩
      replace hL2 : NoteIs L2 l n [b, a] := ⟨by rw [← htk.out]; exact hL2, HOl.out, okL_two HOb.out HOa.out⟩
      clear hLO
      replace hM := Lib.hid hM
      replace hM2 := Lib.hid hM2
      replace hL1 := Lib.hid hL1
      replace hL2 := Lib.hid hL2
      replace hD1 := Lib.hid hD1
      replace hD2 := Lib.hid hD2
      replace hG := Lib.hid hG
      replace hG1 := Lib.hid hG1
      replace hN1 := Lib.hid hN1
      replace hN2 := Lib.hid hN2
      replace e10 := Lib.hid e10
      replace e11 := Lib.hid e11
      replace e20 := Lib.hid e20
      replace e21 := Lib.hid e21
      replace t1 := Lib.hid t1
      replace t2 := Lib.hid t2
      replace hH1 := Lib.hid hH1
      replace hH2 := Lib.hid hH2
      replace hH3 := Lib.hid hH3
      replace hH4 := Lib.hid hH4
      have hla : (healS l [a]).length ≤ 30 := by have := heal_len [a] l; omega
      have hlx : (l.length : Int) < (l.length : Int) ↔ False := by simp
      clear hlx
      go_upto_region 11 with fail
      refine ByOps.region_by_sk (by kernel_rfl) (ByOps.facts [.val (.slice s l.length c), .val (.int .i64 n), .val (.agg #[.int .i8 a.f, .int .u16 a.g0, .int .u16 a.g1, .int .u16 a.g2, .int .u16 a.g3, .int .u16 a.g4, .int .u16 a.g5, .int .u16 a.g6, .int .u16 a.g7, .int .i64 a.p]), .val (.agg #[.int .i8 b.f, .int .u16 b.g0, .int .u16 b.g1, .int .u16 b.g2, .int .u16 b.g3, .int .u16 b.g4, .int .u16 b.g5, .int .u16 b.g6, .int .u16 b.g7, .int .i64 b.p]), rowA ([a, b]), rowS (L1), .val (.slice s l.length c), .val (.int .i64 n), .val (.agg #[.int .i8 b.f, .int .u16 b.g0, .int .u16 b.g1, .int .u16 b.g2, .int .u16 b.g3, .int .u16 b.g4, .int .u16 b.g5, .int .u16 b.g6, .int .u16 b.g7, .int .i64 b.p]), .val (.agg #[.int .i8 a.f, .int .u16 a.g0, .int .u16 a.g1, .int .u16 a.g2, .int .u16 a.g3, .int .u16 a.g4, .int .u16 a.g5, .int .u16 a.g6, .int .u16 a.g7, .int .i64 a.p]), rowA ([b, a]), rowS (L2), rowS (L1), rowS (L2)]) (ByOps.facts_up _) (by kernel_rfl) (fun _ => false) (ByOps.all_ops ?_) (ByOps.all_ops ?_) (ByOps.all_ops ?_) ?_
      · refine ⟨?_, ?_, ?_, ?_, ?_, ?_, ?_, ?_, ?_, ?_, ?_, ?_, ?_, ?_, trivial⟩
        · intro _ ρ w9 hB hs
          have hBB : Below wo.heap.size wo w9 := ⟨hB.os, hB.tape, hB.output, hB.size, hB.block⟩
          have h0 : ρ (.tmp 0) = .slice s l.length c := (hs _ (by simp [Op.operands, Call.operands])).2 (fun t ht => by cases ht; kernel_rfl)
          exact ByOps.runs_value (by first | rfl | go_simp) (Below.refl _ _) h0
        · intro _ ρ w9 hB hs
          have hBB : Below wo.heap.size wo w9 := ⟨hB.os, hB.tape, hB.output, hB.size, hB.block⟩
          have h3 : ρ (.tmp 3) = .int .i64 n := (hs _ (by simp [Op.operands, Call.operands])).2 (fun t ht => by cases ht; kernel_rfl)
          exact ByOps.runs_value (by first | rfl | go_simp) (Below.refl _ _) h3
        · intro _ ρ w9 hB hs
          have hBB : Below wo.heap.size wo w9 := ⟨hB.os, hB.tape, hB.output, hB.size, hB.block⟩
          have h5 : ρ (.tmp 5) = .pointer (some ⟨w.heap.size, 0, none⟩) := (hs _ (by simp [Op.operands, Call.operands])).2 (fun t ht => by cases ht; kernel_rfl)
          obtain ⟨⟨e0, e1, e2, e3, e4, e5, e6, e7, e8, e9⟩, _⟩ := box_10 ((hBB.block _ (lt_of_block Ha.out)).trans Ha.out)
          exact ByOps.runs_value (v := .agg #[.int .i8 a.f, .int .u16 a.g0, .int .u16 a.g1, .int .u16 a.g2, .int .u16 a.g3, .int .u16 a.g4, .int .u16 a.g5, .int .u16 a.g6, .int .u16 a.g7, .int .i64 a.p]) (by first | rfl | go_simp) (Below.refl _ _) rfl
        · intro _ ρ w9 hB hs
          have hBB : Below wo.heap.size wo w9 := ⟨hB.os, hB.tape, hB.output, hB.size, hB.block⟩
          have h6 : ρ (.tmp 6) = .pointer (some ⟨bb, 0, none⟩) := (hs _ (by simp [Op.operands, Call.operands])).2 (fun t ht => by cases ht; kernel_rfl)
          obtain ⟨⟨e0, e1, e2, e3, e4, e5, e6, e7, e8, e9⟩, _⟩ := box_10 ((hBB.block _ (lt_of_block Hb.out)).trans Hb.out)
          exact ByOps.runs_value (v := .agg #[.int .i8 b.f, .int .u16 b.g0, .int .u16 b.g1, .int .u16 b.g2, .int .u16 b.g3, .int .u16 b.g4, .int .u16 b.g5, .int .u16 b.g6, .int .u16 b.g7, .int .i64 b.p]) (by first | rfl | go_simp) (Below.refl _ _) rfl
        · intro _ ρ w9 hB hs
          have hBB : Below wo.heap.size wo w9 := ⟨hB.os, hB.tape, hB.output, hB.size, hB.block⟩
          have h49 : ρ (.tmp 49) = .agg #[.int .i8 a.f, .int .u16 a.g0, .int .u16 a.g1, .int .u16 a.g2, .int .u16 a.g3, .int .u16 a.g4, .int .u16 a.g5, .int .u16 a.g6, .int .u16 a.g7, .int .i64 a.p] := (hs (.tmp 49) (by simp [Op.operands, Call.operands])).1 49 rfl 2 _ rfl rfl
          have h50 : ρ (.tmp 50) = .agg #[.int .i8 b.f, .int .u16 b.g0, .int .u16 b.g1, .int .u16 b.g2, .int .u16 b.g3, .int .u16 b.g4, .int .u16 b.g5, .int .u16 b.g6, .int .u16 b.g7, .int .i64 b.p] := (hs (.tmp 50) (by simp [Op.operands, Call.operands])).1 50 rfl 3 _ rfl rfl
          exact ByOps.runs_value (v := .slice (some ⟨w9.heap.size, 0, none⟩) 2 2) (w' := w9.alloc (.cells #[.int .i8 a.f, .int .u16 a.g0, .int .u16 a.g1, .int .u16 a.g2, .int .u16 a.g3, .int .u16 a.g4, .int .u16 a.g5, .int .u16 a.g6, .int .u16 a.g7, .int .i64 a.p, .int .i8 b.f, .int .u16 b.g0, .int .u16 b.g1, .int .u16 b.g2, .int .u16 b.g3, .int .u16 b.g4, .int .u16 b.g5, .int .u16 b.g6, .int .u16 b.g7, .int .i64 b.p] 31)) (by go_simp) (below1 _ _) ⟨some ⟨w9.heap.size, 0, none⟩, 2, rfl, rowC_at (K := AK) w9 31 [a, b] #[.int .i8 a.f, .int .u16 a.g0, .int .u16 a.g1, .int .u16 a.g2, .int .u16 a.g3, .int .u16 a.g4, .int .u16 a.g5, .int .u16 a.g6, .int .u16 a.g7, .int .i64 a.p, .int .i8 b.f, .int .u16 b.g0, .int .u16 b.g1, .int .u16 b.g2, .int .u16 b.g3, .int .u16 b.g4, .int .u16 b.g5, .int .u16 b.g6, .int .u16 b.g7, .int .i64 b.p] w9.heap.size 2 rfl rfl rfl (by simp)⟩
        · intro _ ρ w9 hB hs
          have hBB : Below wo.heap.size wo w9 := ⟨hB.os, hB.tape, hB.output, hB.size, hB.block⟩
          have h47 : ρ (.tmp 47) = .slice s l.length c := (hs (.tmp 47) (by simp [Op.operands, Call.operands])).1 47 rfl 0 _ rfl rfl
          have h48 : ρ (.tmp 48) = .int .i64 n := (hs (.tmp 48) (by simp [Op.operands, Call.operands])).1 48 rfl 1 _ rfl rfl
          have h51 : ∃ a1 c1, ρ (.tmp 51) = .slice a1 ([a, b] : List Ad).length c1 ∧ AK.RowC w9 a1 c1 ([a, b]) := (hs (.tmp 51) (by simp [Op.operands, Call.operands])).1 51 rfl 4 _ rfl rfl
          obtain ⟨ra51, rc51, h51, hR51⟩ := h51
          have hfn : ρ (.func 9) = .func (.func 9) #[] #[] := (hs _ (by simp [Op.operands, Call.operands])).2 (fun t ht => by cases ht)
          refine ByOps.runs_enter (f := 9) (args := #[.slice s l.length c, .int .i64 n, .slice ra51 ([a, b] : List Ad).length rc51]) (by go_simp) ?_
          exact (HNo.out l n [a, b] s ra51 c rc51 L1 w9 hL1.out (by omega) (by simp) (Hl.out.below hBB) hR51).mono fun e w2 ⟨a1, c1, he, hR, hb⟩ => ⟨_, he, hb, a1, c1, rfl, hR⟩
        · intro _ ρ w9 hB hs
          have hBB : Below wo.heap.size wo w9 := ⟨hB.os, hB.tape, hB.output, hB.size, hB.block⟩
          have h0 : ρ (.tmp 0) = .slice s l.length c := (hs _ (by simp [Op.operands, Call.operands])).2 (fun t ht => by cases ht; kernel_rfl)
          exact ByOps.runs_value (by first | rfl | go_simp) (Below.refl _ _) h0
        · intro _ ρ w9 hB hs
          have hBB : Below wo.heap.size wo w9 := ⟨hB.os, hB.tape, hB.output, hB.size, hB.block⟩
          have h3 : ρ (.tmp 3) = .int .i64 n := (hs _ (by simp [Op.operands, Call.operands])).2 (fun t ht => by cases ht; kernel_rfl)
          exact ByOps.runs_value (by first | rfl | go_simp) (Below.refl _ _) h3
        · intro _ ρ w9 hB hs
          have hBB : Below wo.heap.size wo w9 := ⟨hB.os, hB.tape, hB.output, hB.size, hB.block⟩
          have h6 : ρ (.tmp 6) = .pointer (some ⟨bb, 0, none⟩) := (hs _ (by simp [Op.operands, Call.operands])).2 (fun t ht => by cases ht; kernel_rfl)
          obtain ⟨⟨e0, e1, e2, e3, e4, e5, e6, e7, e8, e9⟩, _⟩ := box_10 ((hBB.block _ (lt_of_block Hb.out)).trans Hb.out)
          exact ByOps.runs_value (v := .agg #[.int .i8 b.f, .int .u16 b.g0, .int .u16 b.g1, .int .u16 b.g2, .int .u16 b.g3, .int .u16 b.g4, .int .u16 b.g5, .int .u16 b.g6, .int .u16 b.g7, .int .i64 b.p]) (by first | rfl | go_simp) (Below.refl _ _) rfl
        · intro _ ρ w9 hB hs
          have hBB : Below wo.heap.size wo w9 := ⟨hB.os, hB.tape, hB.output, hB.size, hB.block⟩
          have h5 : ρ (.tmp 5) = .pointer (some ⟨w.heap.size, 0, none⟩) := (hs _ (by simp [Op.operands, Call.operands])).2 (fun t ht => by cases ht; kernel_rfl)
          obtain ⟨⟨e0, e1, e2, e3, e4, e5, e6, e7, e8, e9⟩, _⟩ := box_10 ((hBB.block _ (lt_of_block Ha.out)).trans Ha.out)
          exact ByOps.runs_value (v := .agg #[.int .i8 a.f, .int .u16 a.g0, .int .u16 a.g1, .int .u16 a.g2, .int .u16 a.g3, .int .u16 a.g4, .int .u16 a.g5, .int .u16 a.g6, .int .u16 a.g7, .int .i64 a.p]) (by first | rfl | go_simp) (Below.refl _ _) rfl
        · intro _ ρ w9 hB hs
          have hBB : Below wo.heap.size wo w9 := ⟨hB.os, hB.tape, hB.output, hB.size, hB.block⟩
          have h55 : ρ (.tmp 55) = .agg #[.int .i8 b.f, .int .u16 b.g0, .int .u16 b.g1, .int .u16 b.g2, .int .u16 b.g3, .int .u16 b.g4, .int .u16 b.g5, .int .u16 b.g6, .int .u16 b.g7, .int .i64 b.p] := (hs (.tmp 55) (by simp [Op.operands, Call.operands])).1 55 rfl 8 _ rfl rfl
          have h56 : ρ (.tmp 56) = .agg #[.int .i8 a.f, .int .u16 a.g0, .int .u16 a.g1, .int .u16 a.g2, .int .u16 a.g3, .int .u16 a.g4, .int .u16 a.g5, .int .u16 a.g6, .int .u16 a.g7, .int .i64 a.p] := (hs (.tmp 56) (by simp [Op.operands, Call.operands])).1 56 rfl 9 _ rfl rfl
          exact ByOps.runs_value (v := .slice (some ⟨w9.heap.size, 0, none⟩) 2 2) (w' := w9.alloc (.cells #[.int .i8 b.f, .int .u16 b.g0, .int .u16 b.g1, .int .u16 b.g2, .int .u16 b.g3, .int .u16 b.g4, .int .u16 b.g5, .int .u16 b.g6, .int .u16 b.g7, .int .i64 b.p, .int .i8 a.f, .int .u16 a.g0, .int .u16 a.g1, .int .u16 a.g2, .int .u16 a.g3, .int .u16 a.g4, .int .u16 a.g5, .int .u16 a.g6, .int .u16 a.g7, .int .i64 a.p] 31)) (by go_simp) (below1 _ _) ⟨some ⟨w9.heap.size, 0, none⟩, 2, rfl, rowC_at (K := AK) w9 31 [b, a] #[.int .i8 b.f, .int .u16 b.g0, .int .u16 b.g1, .int .u16 b.g2, .int .u16 b.g3, .int .u16 b.g4, .int .u16 b.g5, .int .u16 b.g6, .int .u16 b.g7, .int .i64 b.p, .int .i8 a.f, .int .u16 a.g0, .int .u16 a.g1, .int .u16 a.g2, .int .u16 a.g3, .int .u16 a.g4, .int .u16 a.g5, .int .u16 a.g6, .int .u16 a.g7, .int .i64 a.p] w9.heap.size 2 rfl rfl rfl (by simp)⟩
        · intro _ ρ w9 hB hs
          have hBB : Below wo.heap.size wo w9 := ⟨hB.os, hB.tape, hB.output, hB.size, hB.block⟩
          have h53 : ρ (.tmp 53) = .slice s l.length c := (hs (.tmp 53) (by simp [Op.operands, Call.operands])).1 53 rfl 6 _ rfl rfl
          have h54 : ρ (.tmp 54) = .int .i64 n := (hs (.tmp 54) (by simp [Op.operands, Call.operands])).1 54 rfl 7 _ rfl rfl
          have h57 : ∃ a1 c1, ρ (.tmp 57) = .slice a1 ([b, a] : List Ad).length c1 ∧ AK.RowC w9 a1 c1 ([b, a]) := (hs (.tmp 57) (by simp [Op.operands, Call.operands])).1 57 rfl 10 _ rfl rfl
          obtain ⟨ra57, rc57, h57, hR57⟩ := h57
          have hfn : ρ (.func 9) = .func (.func 9) #[] #[] := (hs _ (by simp [Op.operands, Call.operands])).2 (fun t ht => by cases ht)
          refine ByOps.runs_enter (f := 9) (args := #[.slice s l.length c, .int .i64 n, .slice ra57 ([b, a] : List Ad).length rc57]) (by go_simp) ?_
          exact (HNo.out l n [b, a] s ra57 c rc57 L2 w9 hL2.out (by omega) (by simp) (Hl.out.below hBB) hR57).mono fun e w2 ⟨a1, c1, he, hR, hb⟩ => ⟨_, he, hb, a1, c1, rfl, hR⟩
        · intro _ ρ w9 hB hs
          have hBB : Below wo.heap.size wo w9 := ⟨hB.os, hB.tape, hB.output, hB.size, hB.block⟩
          have h52 : ∃ a1 c1, ρ (.tmp 52) = .slice a1 (L1 : List Sc).length c1 ∧ SK.RowC w9 a1 c1 (L1) := (hs (.tmp 52) (by simp [Op.operands, Call.operands])).1 52 rfl 5 _ rfl rfl
          obtain ⟨ra52, rc52, h52, hR52⟩ := h52
          exact ByOps.runs_value (v := .slice ra52 (L1 : List Sc).length rc52) (by first | rfl | go_simp) (Below.refl _ _) ⟨_, _, rfl, hR52⟩
        · intro _ ρ w9 hB hs
          have hBB : Below wo.heap.size wo w9 := ⟨hB.os, hB.tape, hB.output, hB.size, hB.block⟩
          have h58 : ∃ a1 c1, ρ (.tmp 58) = .slice a1 (L2 : List Sc).length c1 ∧ SK.RowC w9 a1 c1 (L2) := (hs (.tmp 58) (by simp [Op.operands, Call.operands])).1 58 rfl 11 _ rfl rfl
          obtain ⟨ra58, rc58, h58, hR58⟩ := h58
          exact ByOps.runs_value (v := .slice ra58 (L2 : List Sc).length rc58) (by first | rfl | go_simp) (Below.refl _ _) ⟨_, _, rfl, hR58⟩
      · refine ⟨?_, ?_, ?_, ?_, ?_, ?_, ?_, ?_, ?_, ?_, ?_, ?_, ?_, ?_, trivial⟩
        all_goals first | (intro hs0; cases hs0; done) | (intro _; exact ⟨by simp, fun _ => rfl⟩)
      · refine ⟨?_, ?_, ?_, ?_, ?_, ?_, ?_, ?_, ?_, ?_, ?_, ?_, ?_, ?_, trivial⟩
        all_goals first | (intro g b h; cases h; done) | (intro g b h; cases h; intro v w h; exact ⟨fun h0 => (by first | exact h | cases h0), fun h0 => (by first | cases h0; done | exact .inl h | exact .inr h)⟩)
      · intro a9 w7 hd9 hs9 ho9 hn9 hB9
        obtain ⟨v0, e0, p0⟩ := hn9 0 _ 47 rfl rfl
        obtain ⟨v1, e1, p1⟩ := hn9 1 _ 48 rfl rfl
        obtain ⟨v2, e2, p2⟩ := hn9 2 _ 49 rfl rfl
        obtain ⟨v3, e3, p3⟩ := hn9 3 _ 50 rfl rfl
        obtain ⟨v4, e4, p4⟩ := hn9 4 _ 51 rfl rfl
        obtain ⟨v5, e5, p5⟩ := hn9 5 _ 52 rfl rfl
        obtain ⟨v6, e6, p6⟩ := hn9 6 _ 53 rfl rfl
        obtain ⟨v7, e7, p7⟩ := hn9 7 _ 54 rfl rfl
        obtain ⟨v8, e8, p8⟩ := hn9 8 _ 55 rfl rfl
        obtain ⟨v9, e9, p9⟩ := hn9 9 _ 56 rfl rfl
        obtain ⟨v10, e10, p10⟩ := hn9 10 _ 57 rfl rfl
        obtain ⟨v11, e11, p11⟩ := hn9 11 _ 58 rfl rfl
        obtain ⟨v12, e12, p12⟩ := hn9 12 _ 11 rfl rfl
        obtain ⟨v13, e13, p13⟩ := hn9 13 _ 12 rfl rfl
        obtain rfl : v0 = .slice s l.length c := p0
        obtain rfl : v1 = .int .i64 n := p1
        obtain rfl : v2 = .agg #[.int .i8 a.f, .int .u16 a.g0, .int .u16 a.g1, .int .u16 a.g2, .int .u16 a.g3, .int .u16 a.g4, .int .u16 a.g5, .int .u16 a.g6, .int .u16 a.g7, .int .i64 a.p] := p2
        obtain rfl : v3 = .agg #[.int .i8 b.f, .int .u16 b.g0, .int .u16 b.g1, .int .u16 b.g2, .int .u16 b.g3, .int .u16 b.g4, .int .u16 b.g5, .int .u16 b.g6, .int .u16 b.g7, .int .i64 b.p] := p3
        obtain ⟨qa4, qc4, rfl, hQ4⟩ := p4
        obtain ⟨qa5, qc5, rfl, hQ5⟩ := p5
        obtain rfl : v6 = .slice s l.length c := p6
        obtain rfl : v7 = .int .i64 n := p7
        obtain rfl : v8 = .agg #[.int .i8 b.f, .int .u16 b.g0, .int .u16 b.g1, .int .u16 b.g2, .int .u16 b.g3, .int .u16 b.g4, .int .u16 b.g5, .int .u16 b.g6, .int .u16 b.g7, .int .i64 b.p] := p8
        obtain rfl : v9 = .agg #[.int .i8 a.f, .int .u16 a.g0, .int .u16 a.g1, .int .u16 a.g2, .int .u16 a.g3, .int .u16 a.g4, .int .u16 a.g5, .int .u16 a.g6, .int .u16 a.g7, .int .i64 a.p] := p9
        obtain ⟨qa10, qc10, rfl, hQ10⟩ := p10
        obtain ⟨qa11, qc11, rfl, hQ11⟩ := p11
        obtain ⟨qa12, qc12, rfl, hQ12⟩ := p12
        obtain ⟨qa13, qc13, rfl, hQ13⟩ := p13
        have ha := ByOps.act_eq [(47, .slice s l.length c), (48, .int .i64 n), (49, .agg #[.int .i8 a.f, .int .u16 a.g0, .int .u16 a.g1, .int .u16 a.g2, .int .u16 a.g3, .int .u16 a.g4, .int .u16 a.g5, .int .u16 a.g6, .int .u16 a.g7, .int .i64 a.p]), (50, .agg #[.int .i8 b.f, .int .u16 b.g0, .int .u16 b.g1, .int .u16 b.g2, .int .u16 b.g3, .int .u16 b.g4, .int .u16 b.g5, .int .u16 b.g6, .int .u16 b.g7, .int .i64 b.p]), (51, .slice qa4 ([a, b] : List Ad).length qc4), (52, .slice qa5 (L1 : List Sc).length qc5), (53, .slice s l.length c), (54, .int .i64 n), (55, .agg #[.int .i8 b.f, .int .u16 b.g0, .int .u16 b.g1, .int .u16 b.g2, .int .u16 b.g3, .int .u16 b.g4, .int .u16 b.g5, .int .u16 b.g6, .int .u16 b.g7, .int .i64 b.p]), (56, .agg #[.int .i8 a.f, .int .u16 a.g0, .int .u16 a.g1, .int .u16 a.g2, .int .u16 a.g3, .int .u16 a.g4, .int .u16 a.g5, .int .u16 a.g6, .int .u16 a.g7, .int .i64 a.p]), (57, .slice qa10 ([b, a] : List Ad).length qc10), (58, .slice qa11 (L2 : List Sc).length qc11), (11, .slice qa12 (L1 : List Sc).length qc12), (12, .slice qa13 (L2 : List Sc).length qc13)] a9 _ hd9 hs9 (fun t ht => ho9 t (ByOps.outer_of (ts := [47, 48, 49, 50, 51, 52, 53, 54, 55, 56, 57, 58, 11, 12]) rfl ht)) (by intro p hp; simp only [List.mem_cons, List.not_mem_nil, or_false] at hp; rcases hp with rfl | rfl | rfl | rfl | rfl | rfl | rfl | rfl | rfl | rfl | rfl | rfl | rfl | rfl <;> assumption)
        rw [ha]
        clear ha hn9 ho9 hs9 hd9 e0 e1 e2 e3 e4 e5 e6 e7 e8 e9 e10 e11 e12 e13
        simp only [List.foldl, Act.put, List.setIfInBounds_toArray, List.set_cons_zero, List.set_cons_succ]
        have hb9 : Below wo.heap.size wo w7 := ⟨hB9.os, hB9.tape, hB9.output, hB9.size, hB9.block⟩
        clear hB9
        have hb := hb9
        clear hb9
        have Hx := Lib.hid hQ12
        have Hy := Lib.hid hQ13
        clear hQ4 hQ5 hQ10 hQ11 hQ12 hQ13
        replace Hl := Lib.hid (Hl.out.below hb)
        replace Ha := Lib.hid ((hb.block _ (lt_of_block Ha.out)).trans Ha.out)
        replace Hb := Lib.hid ((hb.block _ (lt_of_block Hb.out)).trans Hb.out)
        replace HB := Lib.hid (HB.out.trans (hb.mono HB.out.size))
        clear hb
        have hlx : 0 < L1.length := by rw [hN1.out]; omega
        have hly : 0 < L2.length := by rw [hN2.out]; omega
        obtain ⟨b1, o1, rfl, hb1, hat1⟩ := Hx.out.2.2.2 hlx
        obtain ⟨b2, o2, rfl, hb2, hat2⟩ := Hy.out.2.2.2 hly
        obtain ⟨d0, d1, d2, d3, d4, d5, d6, d7, d8, d9, d10⟩ := SK.cells hat1 e10.out
        dsimp only at d0 d1 d2 d3 d4 d5 d6 d7 d8 d9 d10
        obtain ⟨k0, k1, k2, k3, k4, k5, k6, k7, k8, k9, k10⟩ := SK.cells hat1 e11.out
        dsimp only at k0 k1 k2 k3 k4 k5 k6 k7 k8 k9 k10
        obtain ⟨m0, m1, m2, m3, m4, m5, m6, m7, m8, m9, m10⟩ := SK.cells hat2 e20.out
        dsimp only at m0 m1 m2 m3 m4 m5 m6 m7 m8 m9 m10
        obtain ⟨j0, j1, j2, j3, j4, j5, j6, j7, j8, j9, j10⟩ := SK.cells hat2 e21.out
        dsimp only at j0 j1 j2 j3 j4 j5 j6 j7 j8 j9 j10
        have hw1 : IntKind.i64.wrap ((L1.length : Int) - 1) = (G1 : Int) := by rw [IntKind.wrap_i64, hN1.out, hG1.out]; omega
        have hw2 : IntKind.i64.wrap ((L1.length : Int) - 2) = (G : Int) := by rw [IntKind.wrap_i64, hN1.out]; omega
        have hi1 : (G1 : Int) < (L1.length : Int) := by rw [hN1.out, hG1.out]; omega
        have hi2 : (G : Int) < (L1.length : Int) := by rw [hN1.out]; omega
        have hi3 : (G1 : Int) < (L2.length : Int) := by rw [hN2.out, hG1.out]; omega
        have hi4 : (G : Int) < (L2.length : Int) := by rw [hN2.out]; omega
        have hg0 : (0 : Int) ≤ (G : Int) := by omega
        have hg1 : (0 : Int) ≤ (G1 : Int) := by omega
        have hc1 : (G : Int) ≤ (qc12 : Int) := by have := Hx.out.1; rw [hN1.out] at this; omega
        have hc2 : (G : Int) ≤ (qc13 : Int) := by have := Hy.out.1; rw [hN2.out] at this; omega
        have hne : ((L2.length : Int) != (L1.length : Int)) = false := by rw [hN1.out, hN2.out]; simp
        have hn2 : decide ((L1.length : Int) < 2) = false := decide_eq_false (by rw [hN1.out]; omega)
        have hn3 : ¬ (L1.length : Int) < 2 := by rw [hN1.out]; omega
        have hA1 := neq_ad a a
        rw [show decide (a ≠ a) = false by simp] at hA1
        have hA2 := neq_ad b b
        rw [show decide (b ≠ b) = false by simp] at hA2
        have hS1 := neq_sc (⟨a, tk⟩ : Sc) ⟨a, tk⟩
        rw [show decide ((⟨a, tk⟩ : Sc) ≠ ⟨a, tk⟩) = false by simp] at hS1
        have hS2 := neq_sc (⟨b, tk⟩ : Sc) ⟨b, tk⟩
        rw [show decide ((⟨b, tk⟩ : Sc) ≠ ⟨b, tk⟩) = false by simp] at hS2
        dsimp only at hS1 hS2
        have hgs := guard_sc
        have HT1 := Lib.hid (t1.out ▸ Hx.out.take G (by rw [hN1.out]; omega) rfl : SK.RowC w7 (some ⟨b1, o1, none⟩) qc12 M)
        have HT2 := Lib.hid (t2.out ▸ Hy.out.take G (by rw [hN2.out]; omega) rfl : SK.RowC w7 (some ⟨b2, o2, none⟩) qc13 M)
        clear d0 d1 d2 d3 d4 d5 d6 d7 d8 d9 d10 k0 k1 k2 k3 k4 k5 k6 k7 k8 k9 k10 m0 m1 m2 m3 m4 m5 m6 m7 m8 m9 m10 j0 j1 j2 j3 j4 j5 j6 j7 j8 j9 j10
        go_upto_region 13 with fail
        have HC0 := Lib.hid (fun (W : World) (h : Below w7.heap.size w7 W) => SK.cells (hat1.below h hb1) e10.out)
        have HC1 := Lib.hid (fun (W : World) (h : Below w7.heap.size w7 W) => SK.cells (hat1.below h hb1) e11.out)
        have HD0 := Lib.hid (fun (W : World) (h : Below w7.heap.size w7 W) => SK.cells (hat2.below h hb2) e20.out)
        have HD1 := Lib.hid (fun (W : World) (h : Below w7.heap.size w7 W) => SK.cells (hat2.below h hb2) e21.out)
        clear hat1 hat2
        refine ByOps.region_by_sk (by kernel_rfl) (ByOps.facts [.val (.int .i64 (L1.length : Int)), .val (.bool false), .val (.bool false), .val (.slice (some ⟨b2, o2, none⟩) L2.length qc13), .val (.int .i64 (L2.length : Int)), .val (.int .i64 (L1.length : Int)), .val (.bool false), .val (.bool false), .val (.bool false), .val (.slice (some ⟨b1, o1, none⟩) L1.length qc12), .val (.int .i64 (L1.length : Int)), .val (.int .i64 (G1 : Int)), .val (.pointer (some ⟨b1, o1 + G1 * 11, none⟩)), .val (.pointer (some ⟨b1, o1 + G1 * 11, none⟩)), .val (.agg #[.int .i8 b.f, .int .u16 b.g0, .int .u16 b.g1, .int .u16 b.g2, .int .u16 b.g3, .int .u16 b.g4, .int .u16 b.g5, .int .u16 b.g6, .int .u16 b.g7, .int .i64 b.p]), .val (.agg #[.int .i8 b.f, .int .u16 b.g0, .int .u16 b.g1, .int .u16 b.g2, .int .u16 b.g3, .int .u16 b.g4, .int .u16 b.g5, .int .u16 b.g6, .int .u16 b.g7, .int .i64 b.p]), .val (.bool false), .val (.bool false), .val (.bool false), .val (.slice (some ⟨b1, o1, none⟩) L1.length qc12), .val (.int .i64 (L1.length : Int)), .val (.int .i64 (G : Int)), .val (.pointer (some ⟨b1, o1 + G * 11, none⟩)), .val (.pointer (some ⟨b1, o1 + G * 11, none⟩)), .val (.agg #[.int .i8 a.f, .int .u16 a.g0, .int .u16 a.g1, .int .u16 a.g2, .int .u16 a.g3, .int .u16 a.g4, .int .u16 a.g5, .int .u16 a.g6, .int .u16 a.g7, .int .i64 a.p]), .val (.agg #[.int .i8 a.f, .int .u16 a.g0, .int .u16 a.g1, .int .u16 a.g2, .int .u16 a.g3, .int .u16 a.g4, .int .u16 a.g5, .int .u16 a.g6, .int .u16 a.g7, .int .i64 a.p]), .val (.bool false), .val (.bool false), .val (.bool false), .val (.slice (some ⟨b2, o2, none⟩) L2.length qc13), .val (.int .i64 (L1.length : Int)), .val (.int .i64 (G1 : Int)), .val (.pointer (some ⟨b2, o2 + G1 * 11, none⟩)), .val (.agg #[.int .i8 a.f, .int .u16 a.g0, .int .u16 a.g1, .int .u16 a.g2, .int .u16 a.g3, .int .u16 a.g4, .int .u16 a.g5, .int .u16 a.g6, .int .u16 a.g7, .int .i64 a.p, .int .i64 tk]), .val (.slice (some ⟨b1, o1, none⟩) L1.length qc12), .val (.int .i64 (L1.length : Int)), .val (.int .i64 (G : Int)), .val (.pointer (some ⟨b1, o1 + G * 11, none⟩)), .val (.agg #[.int .i8 a.f, .int .u16 a.g0, .int .u16 a.g1, .int .u16 a.g2, .int .u16 a.g3, .int .u16 a.g4, .int .u16 a.g5, .int .u16 a.g6, .int .u16 a.g7, .int .i64 a.p, .int .i64 tk]), .val (.bool false), .val (.bool false), .val (.bool false), .val (.slice (some ⟨b2, o2, none⟩) L2.length qc13), .val (.int .i64 (L1.length : Int)), .val (.int .i64 (G : Int)), .val (.pointer (some ⟨b2, o2 + G * 11, none⟩)), .val (.agg #[.int .i8 b.f, .int .u16 b.g0, .int .u16 b.g1, .int .u16 b.g2, .int .u16 b.g3, .int .u16 b.g4, .int .u16 b.g5, .int .u16 b.g6, .int .u16 b.g7, .int .i64 b.p, .int .i64 tk]), .val (.slice (some ⟨b1, o1, none⟩) L1.length qc12), .val (.int .i64 (L1.length : Int)), .val (.int .i64 (G1 : Int)), .val (.pointer (some ⟨b1, o1 + G1 * 11, none⟩)), .val (.agg #[.int .i8 b.f, .int .u16 b.g0, .int .u16 b.g1, .int .u16 b.g2, .int .u16 b.g3, .int .u16 b.g4, .int .u16 b.g5, .int .u16 b.g6, .int .u16 b.g7, .int .i64 b.p, .int .i64 tk]), .val (.bool false), .val (.bool false), .val (.bool false), .val (.slice (some ⟨b1, o1, none⟩) L1.length qc12), .val (.int .i64 (L1.length : Int)), .val (.int .i64 (G : Int)), .val (.slice (some ⟨b1, o1, none⟩) G qc12), .val (.slice (some ⟨b2, o2, none⟩) L2.length qc13), .val (.int .i64 (L1.length : Int)), .val (.int .i64 (G : Int)), .val (.slice (some ⟨b2, o2, none⟩) G qc13), .val (.bool true), .val (.bool false), .val (.bool false)]) (ByOps.facts_up _) (by kernel_rfl) (fun _ => false) (ByOps.all_ops ?_) (ByOps.all_ops ?_) (ByOps.all_ops ?_) ?_
        · refine ⟨?_, ?_, ?_, ?_, ?_, ?_, ?_, ?_, ?_, ?_, ?_, ?_, ?_, ?_, ?_, ?_, ?_, ?_, ?_, ?_, ?_, ?_, ?_, ?_, ?_, ?_, ?_, ?_, ?_, ?_, ?_, ?_, ?_, ?_, ?_, ?_, ?_, ?_, ?_, ?_, ?_, ?_, ?_, ?_, ?_, ?_, ?_, ?_, ?_, ?_, ?_, ?_, ?_, ?_, ?_, ?_, ?_, ?_, ?_, ?_, ?_, ?_, ?_, ?_, ?_, ?_, trivial⟩
          · intro _ ρ w9 hB hs
            have hBB : Below w7.heap.size w7 w9 := ⟨hB.os, hB.tape, hB.output, hB.size, hB.block⟩
            have h13 : ρ (.tmp 13) = .int .i64 (L1.length : Int) := (hs _ (by simp [Op.operands, Call.operands])).2 (fun t ht => by cases ht; kernel_rfl)
            exact ByOps.runs_value (by first | rfl | go_simp) (Below.refl _ _) h13
          · intro _ ρ w9 hB hs
            have hBB : Below w7.heap.size w7 w9 := ⟨hB.os, hB.tape, hB.output, hB.size, hB.block⟩
            have h61 : ρ (.tmp 61) = .int .i64 (L1.length : Int) := (hs (.tmp 61) (by simp [Op.operands, Call.operands])).1 61 rfl 0 _ rfl rfl
            have hk : ρ (.const (.int .i64 2)) = .int .i64 2 := (hs _ (by simp [Op.operands, Call.operands])).2 (fun t ht => by cases ht)
            exact ByOps.runs_value (v := .bool false) (by first | rfl | go_simp) (Below.refl _ _) rfl
          · intro _ ρ w9 hB hs
            have hBB : Below w7.heap.size w7 w9 := ⟨hB.os, hB.tape, hB.output, hB.size, hB.block⟩
            have h62 : ρ (.tmp 62) = .bool false := (hs (.tmp 62) (by simp [Op.operands, Call.operands])).1 62 rfl 1 _ rfl rfl
            exact ByOps.runs_value (by first | rfl | go_simp) (Below.refl _ _) h62
          · intro _ ρ w9 hB hs
            have hBB : Below w7.heap.size w7 w9 := ⟨hB.os, hB.tape, hB.output, hB.size, hB.block⟩
            have h12 : ρ (.tmp 12) = .slice (some ⟨b2, o2, none⟩) L2.length qc13 := (hs _ (by simp [Op.operands, Call.operands])).2 (fun t ht => by cases ht; kernel_rfl)
            exact ByOps.runs_value (by first | rfl | go_simp) (Below.refl _ _) h12
          · intro _ ρ w9 hB hs
            have hBB : Below w7.heap.size w7 w9 := ⟨hB.os, hB.tape, hB.output, hB.size, hB.block⟩
            have h64 : ρ (.tmp 64) = .slice (some ⟨b2, o2, none⟩) L2.length qc13 := (hs (.tmp 64) (by simp [Op.operands, Call.operands])).1 64 rfl 3 _ rfl rfl
            exact ByOps.runs_value (v := .int .i64 (L2.length : Int)) (by first | rfl | go_simp) (Below.refl _ _) rfl
          · intro _ ρ w9 hB hs
            have hBB : Below w7.heap.size w7 w9 := ⟨hB.os, hB.tape, hB.output, hB.size, hB.block⟩
            have h13 : ρ (.tmp 13) = .int .i64 (L1.length : Int) := (hs _ (by simp [Op.operands, Call.operands])).2 (fun t ht => by cases ht; kernel_rfl)
            exact ByOps.runs_value (by first | rfl | go_simp) (Below.refl _ _) h13
          · intro _ ρ w9 hB hs
            have hBB : Below w7.heap.size w7 w9 := ⟨hB.os, hB.tape, hB.output, hB.size, hB.block⟩
            have h65 : ρ (.tmp 65) = .int .i64 (L2.length : Int) := (hs (.tmp 65) (by simp [Op.operands, Call.operands])).1 65 rfl 4 _ rfl rfl
            have h66 : ρ (.tmp 66) = .int .i64 (L1.length : Int) := (hs (.tmp 66) (by simp [Op.operands, Call.operands])).1 66 rfl 5 _ rfl rfl
            exact ByOps.runs_value (v := .bool false) (by first | rfl | go_simp) (Below.refl _ _) rfl
          · intro _ ρ w9 hB hs
            have hBB : Below w7.heap.size w7 w9 := ⟨hB.os, hB.tape, hB.output, hB.size, hB.block⟩
            have h63 : ρ (.tmp 63) = .bool false := (hs (.tmp 63) (by simp [Op.operands, Call.operands])).1 63 rfl 2 _ rfl rfl
            have h67 : ρ (.tmp 67) = .bool false := (hs (.tmp 67) (by simp [Op.operands, Call.operands])).1 67 rfl 6 _ rfl rfl
            exact ByOps.runs_value (v := .bool false) (by first | rfl | go_simp) (Below.refl _ _) rfl
          · intro _ ρ w9 hB hs
            have hBB : Below w7.heap.size w7 w9 := ⟨hB.os, hB.tape, hB.output, hB.size, hB.block⟩
            have h68 : ρ (.tmp 68) = .bool false := (hs (.tmp 68) (by simp [Op.operands, Call.operands])).1 68 rfl 7 _ rfl rfl
            exact ByOps.runs_value (by first | rfl | go_simp) (Below.refl _ _) h68
          · intro _ ρ w9 hB hs
            have hBB : Below w7.heap.size w7 w9 := ⟨hB.os, hB.tape, hB.output, hB.size, hB.block⟩
            have h11 : ρ (.tmp 11) = .slice (some ⟨b1, o1, none⟩) L1.length qc12 := (hs _ (by simp [Op.operands, Call.operands])).2 (fun t ht => by cases ht; kernel_rfl)
            exact ByOps.runs_value (by first | rfl | go_simp) (Below.refl _ _) h11
          · intro _ ρ w9 hB hs
            have hBB : Below w7.heap.size w7 w9 := ⟨hB.os, hB.tape, hB.output, hB.size, hB.block⟩
            have h13 : ρ (.tmp 13) = .int .i64 (L1.length : Int) := (hs _ (by simp [Op.operands, Call.operands])).2 (fun t ht => by cases ht; kernel_rfl)
            exact ByOps.runs_value (by first | rfl | go_simp) (Below.refl _ _) h13
          · intro _ ρ w9 hB hs
            have hBB : Below w7.heap.size w7 w9 := ⟨hB.os, hB.tape, hB.output, hB.size, hB.block⟩
            have h71 : ρ (.tmp 71) = .int .i64 (L1.length : Int) := (hs (.tmp 71) (by simp [Op.operands, Call.operands])).1 71 rfl 10 _ rfl rfl
            have hk : ρ (.const (.int .i64 1)) = .int .i64 1 := (hs _ (by simp [Op.operands, Call.operands])).2 (fun t ht => by cases ht)
            exact ByOps.runs_value (v := .int .i64 (G1 : Int)) (by first | rfl | go_simp) (Below.refl _ _) rfl
          · intro _ ρ w9 hB hs
            have hBB : Below w7.heap.size w7 w9 := ⟨hB.os, hB.tape, hB.output, hB.size, hB.block⟩
            have h70 : ρ (.tmp 70) = .slice (some ⟨b1, o1, none⟩) L1.length qc12 := (hs (.tmp 70) (by simp [Op.operands, Call.operands])).1 70 rfl 9 _ rfl rfl
            have h72 : ρ (.tmp 72) = .int .i64 (G1 : Int) := (hs (.tmp 72) (by simp [Op.operands, Call.operands])).1 72 rfl 11 _ rfl rfl
            exact ByOps.runs_value (v := .pointer (some ⟨b1, o1 + G1 * 11, none⟩)) (by first | rfl | go_simp) (Below.refl _ _) rfl
          · intro _ ρ w9 hB hs
            have hBB : Below w7.heap.size w7 w9 := ⟨hB.os, hB.tape, hB.output, hB.size, hB.block⟩
            have h73 : ρ (.tmp 73) = .pointer (some ⟨b1, o1 + G1 * 11, none⟩) := (hs (.tmp 73) (by simp [Op.operands, Call.operands])).1 73 rfl 12 _ rfl rfl
            exact ByOps.runs_value (v := .pointer (some ⟨b1, o1 + G1 * 11, none⟩)) (by first | rfl | go_simp) (Below.refl _ _) rfl
          · intro _ ρ w9 hB hs
            have hBB : Below w7.heap.size w7 w9 := ⟨hB.os, hB.tape, hB.output, hB.size, hB.block⟩
            have h74 : ρ (.tmp 74) = .pointer (some ⟨b1, o1 + G1 * 11, none⟩) := (hs (.tmp 74) (by simp [Op.operands, Call.operands])).1 74 rfl 13 _ rfl rfl
            obtain ⟨d0, d1, d2, d3, d4, d5, d6, d7, d8, d9, d10⟩ := HC1.out w9 hBB
            dsimp only at d0 d1 d2 d3 d4 d5 d6 d7 d8 d9 d10
            exact ByOps.runs_value (v := .agg #[.int .i8 b.f, .int .u16 b.g0, .int .u16 b.g1, .int .u16 b.g2, .int .u16 b.g3, .int .u16 b.g4, .int .u16 b.g5, .int .u16 b.g6, .int .u16 b.g7, .int .i64 b.p]) (by first | rfl | go_simp) (Below.refl _ _) rfl
          · intro _ ρ w9 hB hs
            have hBB : Below w7.heap.size w7 w9 := ⟨hB.os, hB.tape, hB.output, hB.size, hB.block⟩
            have h6 : ρ (.tmp 6) = .pointer (some ⟨bb, 0, none⟩) := (hs _ (by simp [Op.operands, Call.operands])).2 (fun t ht => by cases ht; kernel_rfl)
            obtain ⟨⟨e0, e1, e2, e3, e4, e5, e6, e7, e8, e9⟩, _⟩ := box_10 ((hBB.block _ (lt_of_block Hb.out)).trans Hb.out)
            exact ByOps.runs_value (v := .agg #[.int .i8 b.f, .int .u16 b.g0, .int .u16 b.g1, .int .u16 b.g2, .int .u16 b.g3, .int .u16 b.g4, .int .u16 b.g5, .int .u16 b.g6, .int .u16 b.g7, .int .i64 b.p]) (by first | rfl | go_simp) (Below.refl _ _) rfl
          · intro _ ρ w9 hB hs
            have hBB : Below w7.heap.size w7 w9 := ⟨hB.os, hB.tape, hB.output, hB.size, hB.block⟩
            have h75 : ρ (.tmp 75) = .agg #[.int .i8 b.f, .int .u16 b.g0, .int .u16 b.g1, .int .u16 b.g2, .int .u16 b.g3, .int .u16 b.g4, .int .u16 b.g5, .int .u16 b.g6, .int .u16 b.g7, .int .i64 b.p] := (hs (.tmp 75) (by simp [Op.operands, Call.operands])).1 75 rfl 14 _ rfl rfl
            have h76 : ρ (.tmp 76) = .agg #[.int .i8 b.f, .int .u16 b.g0, .int .u16 b.g1, .int .u16 b.g2, .int .u16 b.g3, .int .u16 b.g4, .int .u16 b.g5, .int .u16 b.g6, .int .u16 b.g7, .int .i64 b.p] := (hs (.tmp 76) (by simp [Op.operands, Call.operands])).1 76 rfl 15 _ rfl rfl
            exact ByOps.runs_value (v := .bool false) (by first | rfl | go_simp) (Below.refl _ _) rfl
          · intro _ ρ w9 hB hs
            have hBB : Below w7.heap.size w7 w9 := ⟨hB.os, hB.tape, hB.output, hB.size, hB.block⟩
            have h69 : ρ (.tmp 69) = .bool false := (hs (.tmp 69) (by simp [Op.operands, Call.operands])).1 69 rfl 8 _ rfl rfl
            have h77 : ρ (.tmp 77) = .bool false := (hs (.tmp 77) (by simp [Op.operands, Call.operands])).1 77 rfl 16 _ rfl rfl
            exact ByOps.runs_value (v := .bool false) (by first | rfl | go_simp) (Below.refl _ _) rfl
          · intro _ ρ w9 hB hs
            have hBB : Below w7.heap.size w7 w9 := ⟨hB.os, hB.tape, hB.output, hB.size, hB.block⟩
            have h78 : ρ (.tmp 78) = .bool false := (hs (.tmp 78) (by simp [Op.operands, Call.operands])).1 78 rfl 17 _ rfl rfl
            exact ByOps.runs_value (by first | rfl | go_simp) (Below.refl _ _) h78
          · intro _ ρ w9 hB hs
            have hBB : Below w7.heap.size w7 w9 := ⟨hB.os, hB.tape, hB.output, hB.size, hB.block⟩
            have h11 : ρ (.tmp 11) = .slice (some ⟨b1, o1, none⟩) L1.length qc12 := (hs _ (by simp [Op.operands, Call.operands])).2 (fun t ht => by cases ht; kernel_rfl)
            exact ByOps.runs_value (by first | rfl | go_simp) (Below.refl _ _) h11
          · intro _ ρ w9 hB hs
            have hBB : Below w7.heap.size w7 w9 := ⟨hB.os, hB.tape, hB.output, hB.size, hB.block⟩
            have h13 : ρ (.tmp 13) = .int .i64 (L1.length : Int) := (hs _ (by simp [Op.operands, Call.operands])).2 (fun t ht => by cases ht; kernel_rfl)
            exact ByOps.runs_value (by first | rfl | go_simp) (Below.refl _ _) h13
          · intro _ ρ w9 hB hs
            have hBB : Below w7.heap.size w7 w9 := ⟨hB.os, hB.tape, hB.output, hB.size, hB.block⟩
            have h81 : ρ (.tmp 81) = .int .i64 (L1.length : Int) := (hs (.tmp 81) (by simp [Op.operands, Call.operands])).1 81 rfl 20 _ rfl rfl
            have hk : ρ (.const (.int .i64 2)) = .int .i64 2 := (hs _ (by simp [Op.operands, Call.operands])).2 (fun t ht => by cases ht)
            exact ByOps.runs_value (v := .int .i64 (G : Int)) (by first | rfl | go_simp) (Below.refl _ _) rfl
          · intro _ ρ w9 hB hs
            have hBB : Below w7.heap.size w7 w9 := ⟨hB.os, hB.tape, hB.output, hB.size, hB.block⟩
            have h80 : ρ (.tmp 80) = .slice (some ⟨b1, o1, none⟩) L1.length qc12 := (hs (.tmp 80) (by simp [Op.operands, Call.operands])).1 80 rfl 19 _ rfl rfl
            have h82 : ρ (.tmp 82) = .int .i64 (G : Int) := (hs (.tmp 82) (by simp [Op.operands, Call.operands])).1 82 rfl 21 _ rfl rfl
            exact ByOps.runs_value (v := .pointer (some ⟨b1, o1 + G * 11, none⟩)) (by first | rfl | go_simp) (Below.refl _ _) rfl
          · intro _ ρ w9 hB hs
            have hBB : Below w7.heap.size w7 w9 := ⟨hB.os, hB.tape, hB.output, hB.size, hB.block⟩
            have h83 : ρ (.tmp 83) = .pointer (some ⟨b1, o1 + G * 11, none⟩) := (hs (.tmp 83) (by simp [Op.operands, Call.operands])).1 83 rfl 22 _ rfl rfl
            exact ByOps.runs_value (v := .pointer (some ⟨b1, o1 + G * 11, none⟩)) (by first | rfl | go_simp) (Below.refl _ _) rfl
          · intro _ ρ w9 hB hs
            have hBB : Below w7.heap.size w7 w9 := ⟨hB.os, hB.tape, hB.output, hB.size, hB.block⟩
            have h84 : ρ (.tmp 84) = .pointer (some ⟨b1, o1 + G * 11, none⟩) := (hs (.tmp 84) (by simp [Op.operands, Call.operands])).1 84 rfl 23 _ rfl rfl
            obtain ⟨d0, d1, d2, d3, d4, d5, d6, d7, d8, d9, d10⟩ := HC0.out w9 hBB
            dsimp only at d0 d1 d2 d3 d4 d5 d6 d7 d8 d9 d10
            exact ByOps.runs_value (v := .agg #[.int .i8 a.f, .int .u16 a.g0, .int .u16 a.g1, .int .u16 a.g2, .int .u16 a.g3, .int .u16 a.g4, .int .u16 a.g5, .int .u16 a.g6, .int .u16 a.g7, .int .i64 a.p]) (by first | rfl | go_simp) (Below.refl _ _) rfl
          · intro _ ρ w9 hB hs
            have hBB : Below w7.heap.size w7 w9 := ⟨hB.os, hB.tape, hB.output, hB.size, hB.block⟩
            have h5 : ρ (.tmp 5) = .pointer (some ⟨w.heap.size, 0, none⟩) := (hs _ (by simp [Op.operands, Call.operands])).2 (fun t ht => by cases ht; kernel_rfl)
            obtain ⟨⟨e0, e1, e2, e3, e4, e5, e6, e7, e8, e9⟩, _⟩ := box_10 ((hBB.block _ (lt_of_block Ha.out)).trans Ha.out)
            exact ByOps.runs_value (v := .agg #[.int .i8 a.f, .int .u16 a.g0, .int .u16 a.g1, .int .u16 a.g2, .int .u16 a.g3, .int .u16 a.g4, .int .u16 a.g5, .int .u16 a.g6, .int .u16 a.g7, .int .i64 a.p]) (by first | rfl | go_simp) (Below.refl _ _) rfl
          · intro _ ρ w9 hB hs
            have hBB : Below w7.heap.size w7 w9 := ⟨hB.os, hB.tape, hB.output, hB.size, hB.block⟩
            have h85 : ρ (.tmp 85) = .agg #[.int .i8 a.f, .int .u16 a.g0, .int .u16 a.g1, .int .u16 a.g2, .int .u16 a.g3, .int .u16 a.g4, .int .u16 a.g5, .int .u16 a.g6, .int .u16 a.g7, .int .i64 a.p] := (hs (.tmp 85) (by simp [Op.operands, Call.operands])).1 85 rfl 24 _ rfl rfl
            have h86 : ρ (.tmp 86) = .agg #[.int .i8 a.f, .int .u16 a.g0, .int .u16 a.g1, .int .u16 a.g2, .int .u16 a.g3, .int .u16 a.g4, .int .u16 a.g5, .int .u16 a.g6, .int .u16 a.g7, .int .i64 a.p] := (hs (.tmp 86) (by simp [Op.operands, Call.operands])).1 86 rfl 25 _ rfl rfl
            exact ByOps.runs_value (v := .bool false) (by first | rfl | go_simp) (Below.refl _ _) rfl
          · intro _ ρ w9 hB hs
            have hBB : Below w7.heap.size w7 w9 := ⟨hB.os, hB.tape, hB.output, hB.size, hB.block⟩
            have h79 : ρ (.tmp 79) = .bool false := (hs (.tmp 79) (by simp [Op.operands, Call.operands])).1 79 rfl 18 _ rfl rfl
            have h87 : ρ (.tmp 87) = .bool false := (hs (.tmp 87) (by simp [Op.operands, Call.operands])).1 87 rfl 26 _ rfl rfl
            exact ByOps.runs_value (v := .bool false) (by first | rfl | go_simp) (Below.refl _ _) rfl
          · intro _ ρ w9 hB hs
            have hBB : Below w7.heap.size w7 w9 := ⟨hB.os, hB.tape, hB.output, hB.size, hB.block⟩
            have h88 : ρ (.tmp 88) = .bool false := (hs (.tmp 88) (by simp [Op.operands, Call.operands])).1 88 rfl 27 _ rfl rfl
            exact ByOps.runs_value (by first | rfl | go_simp) (Below.refl _ _) h88
          · intro _ ρ w9 hB hs
            have hBB : Below w7.heap.size w7 w9 := ⟨hB.os, hB.tape, hB.output, hB.size, hB.block⟩
            have h12 : ρ (.tmp 12) = .slice (some ⟨b2, o2, none⟩) L2.length qc13 := (hs _ (by simp [Op.operands, Call.operands])).2 (fun t ht => by cases ht; kernel_rfl)
            exact ByOps.runs_value (by first | rfl | go_simp) (Below.refl _ _) h12
          · intro _ ρ w9 hB hs
            have hBB : Below w7.heap.size w7 w9 := ⟨hB.os, hB.tape, hB.output, hB.size, hB.block⟩
            have h13 : ρ (.tmp 13) = .int .i64 (L1.length : Int) := (hs _ (by simp [Op.operands, Call.operands])).2 (fun t ht => by cases ht; kernel_rfl)
            exact ByOps.runs_value (by first | rfl | go_simp) (Below.refl _ _) h13
          · intro _ ρ w9 hB hs
            have hBB : Below w7.heap.size w7 w9 := ⟨hB.os, hB.tape, hB.output, hB.size, hB.block⟩
            have h91 : ρ (.tmp 91) = .int .i64 (L1.length : Int) := (hs (.tmp 91) (by simp [Op.operands, Call.operands])).1 91 rfl 30 _ rfl rfl
            have hk : ρ (.const (.int .i64 1)) = .int .i64 1 := (hs _ (by simp [Op.operands, Call.operands])).2 (fun t ht => by cases ht)
            exact ByOps.runs_value (v := .int .i64 (G1 : Int)) (by first | rfl | go_simp) (Below.refl _ _) rfl
          · intro _ ρ w9 hB hs
            have hBB : Below w7.heap.size w7 w9 := ⟨hB.os, hB.tape, hB.output, hB.size, hB.block⟩
            have h90 : ρ (.tmp 90) = .slice (some ⟨b2, o2, none⟩) L2.length qc13 := (hs (.tmp 90) (by simp [Op.operands, Call.operands])).1 90 rfl 29 _ rfl rfl
            have h92 : ρ (.tmp 92) = .int .i64 (G1 : Int) := (hs (.tmp 92) (by simp [Op.operands, Call.operands])).1 92 rfl 31 _ rfl rfl
            exact ByOps.runs_value (v := .pointer (some ⟨b2, o2 + G1 * 11, none⟩)) (by first | rfl | go_simp) (Below.refl _ _) rfl
          · intro _ ρ w9 hB hs
            have hBB : Below w7.heap.size w7 w9 := ⟨hB.os, hB.tape, hB.output, hB.size, hB.block⟩
            have h93 : ρ (.tmp 93) = .pointer (some ⟨b2, o2 + G1 * 11, none⟩) := (hs (.tmp 93) (by simp [Op.operands, Call.operands])).1 93 rfl 32 _ rfl rfl
            obtain ⟨d0, d1, d2, d3, d4, d5, d6, d7, d8, d9, d10⟩ := HD1.out w9 hBB
            dsimp only at d0 d1 d2 d3 d4 d5 d6 d7 d8 d9 d10
            exact ByOps.runs_value (v := .agg #[.int .i8 a.f, .int .u16 a.g0, .int .u16 a.g1, .int .u16 a.g2, .int .u16 a.g3, .int .u16 a.g4, .int .u16 a.g5, .int .u16 a.g6, .int .u16 a.g7, .int .i64 a.p, .int .i64 tk]) (by first | rfl | go_simp) (Below.refl _ _) rfl
          · intro _ ρ w9 hB hs
            have hBB : Below w7.heap.size w7 w9 := ⟨hB.os, hB.tape, hB.output, hB.size, hB.block⟩
            have h11 : ρ (.tmp 11) = .slice (some ⟨b1, o1, none⟩) L1.length qc12 := (hs _ (by simp [Op.operands, Call.operands])).2 (fun t ht => by cases ht; kernel_rfl)
            exact ByOps.runs_value (by first | rfl | go_simp) (Below.refl _ _) h11
          · intro _ ρ w9 hB hs
            have hBB : Below w7.heap.size w7 w9 := ⟨hB.os, hB.tape, hB.output, hB.size, hB.block⟩
            have h13 : ρ (.tmp 13) = .int .i64 (L1.length : Int) := (hs _ (by simp [Op.operands, Call.operands])).2 (fun t ht => by cases ht; kernel_rfl)
            exact ByOps.runs_value (by first | rfl | go_simp) (Below.refl _ _) h13
          · intro _ ρ w9 hB hs
            have hBB : Below w7.heap.size w7 w9 := ⟨hB.os, hB.tape, hB.output, hB.size, hB.block⟩
            have h96 : ρ (.tmp 96) = .int .i64 (L1.length : Int) := (hs (.tmp 96) (by simp [Op.operands, Call.operands])).1 96 rfl 35 _ rfl rfl
            have hk : ρ (.const (.int .i64 2)) = .int .i64 2 := (hs _ (by simp [Op.operands, Call.operands])).2 (fun t ht => by cases ht)
            exact ByOps.runs_value (v := .int .i64 (G : Int)) (by first | rfl | go_simp) (Below.refl _ _) rfl
          · intro _ ρ w9 hB hs
            have hBB : Below w7.heap.size w7 w9 := ⟨hB.os, hB.tape, hB.output, hB.size, hB.block⟩
            have h95 : ρ (.tmp 95) = .slice (some ⟨b1, o1, none⟩) L1.length qc12 := (hs (.tmp 95) (by simp [Op.operands, Call.operands])).1 95 rfl 34 _ rfl rfl
            have h97 : ρ (.tmp 97) = .int .i64 (G : Int) := (hs (.tmp 97) (by simp [Op.operands, Call.operands])).1 97 rfl 36 _ rfl rfl
            exact ByOps.runs_value (v := .pointer (some ⟨b1, o1 + G * 11, none⟩)) (by first | rfl | go_simp) (Below.refl _ _) rfl
          · intro _ ρ w9 hB hs
            have hBB : Below w7.heap.size w7 w9 := ⟨hB.os, hB.tape, hB.output, hB.size, hB.block⟩
            have h98 : ρ (.tmp 98) = .pointer (some ⟨b1, o1 + G * 11, none⟩) := (hs (.tmp 98) (by simp [Op.operands, Call.operands])).1 98 rfl 37 _ rfl rfl
            obtain ⟨d0, d1, d2, d3, d4, d5, d6, d7, d8, d9, d10⟩ := HC0.out w9 hBB
            dsimp only at d0 d1 d2 d3 d4 d5 d6 d7 d8 d9 d10
            exact ByOps.runs_value (v := .agg #[.int .i8 a.f, .int .u16 a.g0, .int .u16 a.g1, .int .u16 a.g2, .int .u16 a.g3, .int .u16 a.g4, .int .u16 a.g5, .int .u16 a.g6, .int .u16 a.g7, .int .i64 a.p, .int .i64 tk]) (by first | rfl | go_simp) (Below.refl _ _) rfl
          · intro _ ρ w9 hB hs
            have hBB : Below w7.heap.size w7 w9 := ⟨hB.os, hB.tape, hB.output, hB.size, hB.block⟩
            have h94 : ρ (.tmp 94) = .agg #[.int .i8 a.f, .int .u16 a.g0, .int .u16 a.g1, .int .u16 a.g2, .int .u16 a.g3, .int .u16 a.g4, .int .u16 a.g5, .int .u16 a.g6, .int .u16 a.g7, .int .i64 a.p, .int .i64 tk] := (hs (.tmp 94) (by simp [Op.operands, Call.operands])).1 94 rfl 33 _ rfl rfl
            have h99 : ρ (.tmp 99) = .agg #[.int .i8 a.f, .int .u16 a.g0, .int .u16 a.g1, .int .u16 a.g2, .int .u16 a.g3, .int .u16 a.g4, .int .u16 a.g5, .int .u16 a.g6, .int .u16 a.g7, .int .i64 a.p, .int .i64 tk] := (hs (.tmp 99) (by simp [Op.operands, Call.operands])).1 99 rfl 38 _ rfl rfl
            exact ByOps.runs_value (v := .bool false) (by first | rfl | go_simp) (Below.refl _ _) rfl
          · intro _ ρ w9 hB hs
            have hBB : Below w7.heap.size w7 w9 := ⟨hB.os, hB.tape, hB.output, hB.size, hB.block⟩
            have h89 : ρ (.tmp 89) = .bool false := (hs (.tmp 89) (by simp [Op.operands, Call.operands])).1 89 rfl 28 _ rfl rfl
            have h100 : ρ (.tmp 100) = .bool false := (hs (.tmp 100) (by simp [Op.operands, Call.operands])).1 100 rfl 39 _ rfl rfl
            exact ByOps.runs_value (v := .bool false) (by first | rfl | go_simp) (Below.refl _ _) rfl
          · intro _ ρ w9 hB hs
            have hBB : Below w7.heap.size w7 w9 := ⟨hB.os, hB.tape, hB.output, hB.size, hB.block⟩
            have h101 : ρ (.tmp 101) = .bool false := (hs (.tmp 101) (by simp [Op.operands, Call.operands])).1 101 rfl 40 _ rfl rfl
            exact ByOps.runs_value (by first | rfl | go_simp) (Below.refl _ _) h101
          · intro _ ρ w9 hB hs
            have hBB : Below w7.heap.size w7 w9 := ⟨hB.os, hB.tape, hB.output, hB.size, hB.block⟩
            have h12 : ρ (.tmp 12) = .slice (some ⟨b2, o2, none⟩) L2.length qc13 := (hs _ (by simp [Op.operands, Call.operands])).2 (fun t ht => by cases ht; kernel_rfl)
            exact ByOps.runs_value (by first | rfl | go_simp) (Below.refl _ _) h12
          · intro _ ρ w9 hB hs
            have hBB : Below w7.heap.size w7 w9 := ⟨hB.os, hB.tape, hB.output, hB.size, hB.block⟩
            have h13 : ρ (.tmp 13) = .int .i64 (L1.length : Int) := (hs _ (by simp [Op.operands, Call.operands])).2 (fun t ht => by cases ht; kernel_rfl)
            exact ByOps.runs_value (by first | rfl | go_simp) (Below.refl _ _) h13
          · intro _ ρ w9 hB hs
            have hBB : Below w7.heap.size w7 w9 := ⟨hB.os, hB.tape, hB.output, hB.size, hB.block⟩
            have h104 : ρ (.tmp 104) = .int .i64 (L1.length : Int) := (hs (.tmp 104) (by simp [Op.operands, Call.operands])).1 104 rfl 43 _ rfl rfl
            have hk : ρ (.const (.int .i64 2)) = .int .i64 2 := (hs _ (by simp [Op.operands, Call.operands])).2 (fun t ht => by cases ht)
            exact ByOps.runs_value (v := .int .i64 (G : Int)) (by first | rfl | go_simp) (Below.refl _ _) rfl
          · intro _ ρ w9 hB hs
            have hBB : Below w7.heap.size w7 w9 := ⟨hB.os, hB.tape, hB.output, hB.size, hB.block⟩
            have h103 : ρ (.tmp 103) = .slice (some ⟨b2, o2, none⟩) L2.length qc13 := (hs (.tmp 103) (by simp [Op.operands, Call.operands])).1 103 rfl 42 _ rfl rfl
            have h105 : ρ (.tmp 105) = .int .i64 (G : Int) := (hs (.tmp 105) (by simp [Op.operands, Call.operands])).1 105 rfl 44 _ rfl rfl
            exact ByOps.runs_value (v := .pointer (some ⟨b2, o2 + G * 11, none⟩)) (by first | rfl | go_simp) (Below.refl _ _) rfl
          · intro _ ρ w9 hB hs
            have hBB : Below w7.heap.size w7 w9 := ⟨hB.os, hB.tape, hB.output, hB.size, hB.block⟩
            have h106 : ρ (.tmp 106) = .pointer (some ⟨b2, o2 + G * 11, none⟩) := (hs (.tmp 106) (by simp [Op.operands, Call.operands])).1 106 rfl 45 _ rfl rfl
            obtain ⟨d0, d1, d2, d3, d4, d5, d6, d7, d8, d9, d10⟩ := HD0.out w9 hBB
            dsimp only at d0 d1 d2 d3 d4 d5 d6 d7 d8 d9 d10
            exact ByOps.runs_value (v := .agg #[.int .i8 b.f, .int .u16 b.g0, .int .u16 b.g1, .int .u16 b.g2, .int .u16 b.g3, .int .u16 b.g4, .int .u16 b.g5, .int .u16 b.g6, .int .u16 b.g7, .int .i64 b.p, .int .i64 tk]) (by first | rfl | go_simp) (Below.refl _ _) rfl
          · intro _ ρ w9 hB hs
            have hBB : Below w7.heap.size w7 w9 := ⟨hB.os, hB.tape, hB.output, hB.size, hB.block⟩
            have h11 : ρ (.tmp 11) = .slice (some ⟨b1, o1, none⟩) L1.length qc12 := (hs _ (by simp [Op.operands, Call.operands])).2 (fun t ht => by cases ht; kernel_rfl)
            exact ByOps.runs_value (by first | rfl | go_simp) (Below.refl _ _) h11
          · intro _ ρ w9 hB hs
            have hBB : Below w7.heap.size w7 w9 := ⟨hB.os, hB.tape, hB.output, hB.size, hB.block⟩
            have h13 : ρ (.tmp 13) = .int .i64 (L1.length : Int) := (hs _ (by simp [Op.operands, Call.operands])).2 (fun t ht => by cases ht; kernel_rfl)
            exact ByOps.runs_value (by first | rfl | go_simp) (Below.refl _ _) h13
          · intro _ ρ w9 hB hs
            have hBB : Below w7.heap.size w7 w9 := ⟨hB.os, hB.tape, hB.output, hB.size, hB.block⟩
            have h109 : ρ (.tmp 109) = .int .i64 (L1.length : Int) := (hs (.tmp 109) (by simp [Op.operands, Call.operands])).1 109 rfl 48 _ rfl rfl
            have hk : ρ (.const (.int .i64 1)) = .int .i64 1 := (hs _ (by simp [Op.operands, Call.operands])).2 (fun t ht => by cases ht)
            exact ByOps.runs_value (v := .int .i64 (G1 : Int)) (by first | rfl | go_simp) (Below.refl _ _) rfl
          · intro _ ρ w9 hB hs
            have hBB : Below w7.heap.size w7 w9 := ⟨hB.os, hB.tape, hB.output, hB.size, hB.block⟩
            have h108 : ρ (.tmp 108) = .slice (some ⟨b1, o1, none⟩) L1.length qc12 := (hs (.tmp 108) (by simp [Op.operands, Call.operands])).1 108 rfl 47 _ rfl rfl
            have h110 : ρ (.tmp 110) = .int .i64 (G1 : Int) := (hs (.tmp 110) (by simp [Op.operands, Call.operands])).1 110 rfl 49 _ rfl rfl
            exact ByOps.runs_value (v := .pointer (some ⟨b1, o1 + G1 * 11, none⟩)) (by first | rfl | go_simp) (Below.refl _ _) rfl
          · intro _ ρ w9 hB hs
            have hBB : Below w7.heap.size w7 w9 := ⟨hB.os, hB.tape, hB.output, hB.size, hB.block⟩
            have h111 : ρ (.tmp 111) = .pointer (some ⟨b1, o1 + G1 * 11, none⟩) := (hs (.tmp 111) (by simp [Op.operands, Call.operands])).1 111 rfl 50 _ rfl rfl
            obtain ⟨d0, d1, d2, d3, d4, d5, d6, d7, d8, d9, d10⟩ := HC1.out w9 hBB
            dsimp only at d0 d1 d2 d3 d4 d5 d6 d7 d8 d9 d10
            exact ByOps.runs_value (v := .agg #[.int .i8 b.f, .int .u16 b.g0, .int .u16 b.g1, .int .u16 b.g2, .int .u16 b.g3, .int .u16 b.g4, .int .u16 b.g5, .int .u16 b.g6, .int .u16 b.g7, .int .i64 b.p, .int .i64 tk]) (by first | rfl | go_simp) (Below.refl _ _) rfl
          · intro _ ρ w9 hB hs
            have hBB : Below w7.heap.size w7 w9 := ⟨hB.os, hB.tape, hB.output, hB.size, hB.block⟩
            have h107 : ρ (.tmp 107) = .agg #[.int .i8 b.f, .int .u16 b.g0, .int .u16 b.g1, .int .u16 b.g2, .int .u16 b.g3, .int .u16 b.g4, .int .u16 b.g5, .int .u16 b.g6, .int .u16 b.g7, .int .i64 b.p, .int .i64 tk] := (hs (.tmp 107) (by simp [Op.operands, Call.operands])).1 107 rfl 46 _ rfl rfl
            have h112 : ρ (.tmp 112) = .agg #[.int .i8 b.f, .int .u16 b.g0, .int .u16 b.g1, .int .u16 b.g2, .int .u16 b.g3, .int .u16 b.g4, .int .u16 b.g5, .int .u16 b.g6, .int .u16 b.g7, .int .i64 b.p, .int .i64 tk] := (hs (.tmp 112) (by simp [Op.operands, Call.operands])).1 112 rfl 51 _ rfl rfl
            exact ByOps.runs_value (v := .bool false) (by first | rfl | go_simp) (Below.refl _ _) rfl
          · intro _ ρ w9 hB hs
            have hBB : Below w7.heap.size w7 w9 := ⟨hB.os, hB.tape, hB.output, hB.size, hB.block⟩
            have h102 : ρ (.tmp 102) = .bool false := (hs (.tmp 102) (by simp [Op.operands, Call.operands])).1 102 rfl 41 _ rfl rfl
            have h113 : ρ (.tmp 113) = .bool false := (hs (.tmp 113) (by simp [Op.operands, Call.operands])).1 113 rfl 52 _ rfl rfl
            exact ByOps.runs_value (v := .bool false) (by first | rfl | go_simp) (Below.refl _ _) rfl
          · intro _ ρ w9 hB hs
            have hBB : Below w7.heap.size w7 w9 := ⟨hB.os, hB.tape, hB.output, hB.size, hB.block⟩
            have h114 : ρ (.tmp 114) = .bool false := (hs (.tmp 114) (by simp [Op.operands, Call.operands])).1 114 rfl 53 _ rfl rfl
            exact ByOps.runs_value (by first | rfl | go_simp) (Below.refl _ _) h114
          · intro _ ρ w9 hB hs
            have hBB : Below w7.heap.size w7 w9 := ⟨hB.os, hB.tape, hB.output, hB.size, hB.block⟩
            have h11 : ρ (.tmp 11) = .slice (some ⟨b1, o1, none⟩) L1.length qc12 := (hs _ (by simp [Op.operands, Call.operands])).2 (fun t ht => by cases ht; kernel_rfl)
            exact ByOps.runs_value (by first | rfl | go_simp) (Below.refl _ _) h11
          · intro _ ρ w9 hB hs
            have hBB : Below w7.heap.size w7 w9 := ⟨hB.os, hB.tape, hB.output, hB.size, hB.block⟩
            have h13 : ρ (.tmp 13) = .int .i64 (L1.length : Int) := (hs _ (by simp [Op.operands, Call.operands])).2 (fun t ht => by cases ht; kernel_rfl)
            exact ByOps.runs_value (by first | rfl | go_simp) (Below.refl _ _) h13
          · intro _ ρ w9 hB hs
            have hBB : Below w7.heap.size w7 w9 := ⟨hB.os, hB.tape, hB.output, hB.size, hB.block⟩
            have h117 : ρ (.tmp 117) = .int .i64 (L1.length : Int) := (hs (.tmp 117) (by simp [Op.operands, Call.operands])).1 117 rfl 56 _ rfl rfl
            have hk : ρ (.const (.int .i64 2)) = .int .i64 2 := (hs _ (by simp [Op.operands, Call.operands])).2 (fun t ht => by cases ht)
            exact ByOps.runs_value (v := .int .i64 (G : Int)) (by first | rfl | go_simp) (Below.refl _ _) rfl
          · intro _ ρ w9 hB hs
            have hBB : Below w7.heap.size w7 w9 := ⟨hB.os, hB.tape, hB.output, hB.size, hB.block⟩
            have h116 : ρ (.tmp 116) = .slice (some ⟨b1, o1, none⟩) L1.length qc12 := (hs (.tmp 116) (by simp [Op.operands, Call.operands])).1 116 rfl 55 _ rfl rfl
            have h118 : ρ (.tmp 118) = .int .i64 (G : Int) := (hs (.tmp 118) (by simp [Op.operands, Call.operands])).1 118 rfl 57 _ rfl rfl
            exact ByOps.runs_value (v := .slice (some ⟨b1, o1, none⟩) G qc12) (by first | rfl | go_simp) (Below.refl _ _) rfl
          · intro _ ρ w9 hB hs
            have hBB : Below w7.heap.size w7 w9 := ⟨hB.os, hB.tape, hB.output, hB.size, hB.block⟩
            have h12 : ρ (.tmp 12) = .slice (some ⟨b2, o2, none⟩) L2.length qc13 := (hs _ (by simp [Op.operands, Call.operands])).2 (fun t ht => by cases ht; kernel_rfl)
            exact ByOps.runs_value (by first | rfl | go_simp) (Below.refl _ _) h12
          · intro _ ρ w9 hB hs
            have hBB : Below w7.heap.size w7 w9 := ⟨hB.os, hB.tape, hB.output, hB.size, hB.block⟩
            have h13 : ρ (.tmp 13) = .int .i64 (L1.length : Int) := (hs _ (by simp [Op.operands, Call.operands])).2 (fun t ht => by cases ht; kernel_rfl)
            exact ByOps.runs_value (by first | rfl | go_simp) (Below.refl _ _) h13
          · intro _ ρ w9 hB hs
            have hBB : Below w7.heap.size w7 w9 := ⟨hB.os, hB.tape, hB.output, hB.size, hB.block⟩
            have h121 : ρ (.tmp 121) = .int .i64 (L1.length : Int) := (hs (.tmp 121) (by simp [Op.operands, Call.operands])).1 121 rfl 60 _ rfl rfl
            have hk : ρ (.const (.int .i64 2)) = .int .i64 2 := (hs _ (by simp [Op.operands, Call.operands])).2 (fun t ht => by cases ht)
            exact ByOps.runs_value (v := .int .i64 (G : Int)) (by first | rfl | go_simp) (Below.refl _ _) rfl
          · intro _ ρ w9 hB hs
            have hBB : Below w7.heap.size w7 w9 := ⟨hB.os, hB.tape, hB.output, hB.size, hB.block⟩
            have h120 : ρ (.tmp 120) = .slice (some ⟨b2, o2, none⟩) L2.length qc13 := (hs (.tmp 120) (by simp [Op.operands, Call.operands])).1 120 rfl 59 _ rfl rfl
            have h122 : ρ (.tmp 122) = .int .i64 (G : Int) := (hs (.tmp 122) (by simp [Op.operands, Call.operands])).1 122 rfl 61 _ rfl rfl
            exact ByOps.runs_value (v := .slice (some ⟨b2, o2, none⟩) G qc13) (by first | rfl | go_simp) (Below.refl _ _) rfl
          · intro _ ρ w9 hB hs
            have hBB : Below w7.heap.size w7 w9 := ⟨hB.os, hB.tape, hB.output, hB.size, hB.block⟩
            have h119 : ρ (.tmp 119) = .slice (some ⟨b1, o1, none⟩) G qc12 := (hs (.tmp 119) (by simp [Op.operands, Call.operands])).1 119 rfl 58 _ rfl rfl
            have h123 : ρ (.tmp 123) = .slice (some ⟨b2, o2, none⟩) G qc13 := (hs (.tmp 123) (by simp [Op.operands, Call.operands])).1 123 rfl 62 _ rfl rfl
            have hfn : ρ (.func 15) = .func (.func 15) #[] #[] := (hs _ (by simp [Op.operands, Call.operands])).2 (fun t ht => by cases ht)
            refine ByOps.runs_enter (f := 15) (args := #[.slice (some ⟨b1, o1, none⟩) G qc12, .slice (some ⟨b2, o2, none⟩) G qc13]) (by go_simp) ?_
            exact ((hG.out ▸ rsame_any M M (some ⟨b1, o1, none⟩) (some ⟨b2, o2, none⟩) qc12 qc13 true w9 (by simp) (HT1.out.below hBB) (HT2.out.below hBB) : Calls Try.prog 15 #[.slice (some ⟨b1, o1, none⟩) G qc12, .slice (some ⟨b2, o2, none⟩) G qc13] w9 fun e w' => e = .returned (.bool true) ∧ Below w9.heap.size w9 w')).mono fun e w2 ⟨he, hb⟩ => ⟨_, he, hb, rfl⟩
          · intro _ ρ w9 hB hs
            have hBB : Below w7.heap.size w7 w9 := ⟨hB.os, hB.tape, hB.output, hB.size, hB.block⟩
            have h124 : ρ (.tmp 124) = .bool true := (hs (.tmp 124) (by simp [Op.operands, Call.operands])).1 124 rfl 63 _ rfl rfl
            exact ByOps.runs_value (v := .bool false) (by first | rfl | go_simp) (Below.refl _ _) rfl
          · intro _ ρ w9 hB hs
            have hBB : Below w7.heap.size w7 w9 := ⟨hB.os, hB.tape, hB.output, hB.size, hB.block⟩
            have h115 : ρ (.tmp 115) = .bool false := (hs (.tmp 115) (by simp [Op.operands, Call.operands])).1 115 rfl 54 _ rfl rfl
            have h125 : ρ (.tmp 125) = .bool false := (hs (.tmp 125) (by simp [Op.operands, Call.operands])).1 125 rfl 64 _ rfl rfl
            exact ByOps.runs_value (v := .bool false) (by first | rfl | go_simp) (Below.refl _ _) rfl
        · refine ⟨?_, ?_, ?_, ?_, ?_, ?_, ?_, ?_, ?_, ?_, ?_, ?_, ?_, ?_, ?_, ?_, ?_, ?_, ?_, ?_, ?_, ?_, ?_, ?_, ?_, ?_, ?_, ?_, ?_, ?_, ?_, ?_, ?_, ?_, ?_, ?_, ?_, ?_, ?_, ?_, ?_, ?_, ?_, ?_, ?_, ?_, ?_, ?_, ?_, ?_, ?_, ?_, ?_, ?_, ?_, ?_, ?_, ?_, ?_, ?_, ?_, ?_, ?_, ?_, ?_, ?_, trivial⟩
          all_goals first | (intro hs0; cases hs0; done) | (intro _; exact ⟨by simp, fun _ => rfl⟩)
        · refine ⟨?_, ?_, ?_, ?_, ?_, ?_, ?_, ?_, ?_, ?_, ?_, ?_, ?_, ?_, ?_, ?_, ?_, ?_, ?_, ?_, ?_, ?_, ?_, ?_, ?_, ?_, ?_, ?_, ?_, ?_, ?_, ?_, ?_, ?_, ?_, ?_, ?_, ?_, ?_, ?_, ?_, ?_, ?_, ?_, ?_, ?_, ?_, ?_, ?_, ?_, ?_, ?_, ?_, ?_, ?_, ?_, ?_, ?_, ?_, ?_, ?_, ?_, ?_, ?_, ?_, ?_, trivial⟩
          all_goals first | (intro g b h; cases h; done) | (intro g b h; cases h; intro v w h; exact ⟨fun h0 => (by first | exact h | cases h0), fun h0 => (by first | cases h0; done | exact .inl h | exact .inr h)⟩)
        · intro a9 w8 hd9 hs9 ho9 hn9 hB9
          obtain ⟨v0, e0, p0⟩ := hn9 0 _ 61 rfl rfl
          obtain ⟨v1, e1, p1⟩ := hn9 1 _ 62 rfl rfl
          obtain ⟨v2, e2, p2⟩ := hn9 2 _ 63 rfl rfl
          obtain ⟨v3, e3, p3⟩ := hn9 3 _ 64 rfl rfl
          obtain ⟨v4, e4, p4⟩ := hn9 4 _ 65 rfl rfl
          obtain ⟨v5, e5, p5⟩ := hn9 5 _ 66 rfl rfl
          obtain ⟨v6, e6, p6⟩ := hn9 6 _ 67 rfl rfl
          obtain ⟨v7, e7, p7⟩ := hn9 7 _ 68 rfl rfl
          obtain ⟨v8, e8, p8⟩ := hn9 8 _ 69 rfl rfl
          obtain ⟨v9, e9, p9⟩ := hn9 9 _ 70 rfl rfl
          obtain ⟨v10, e10, p10⟩ := hn9 10 _ 71 rfl rfl
          obtain ⟨v11, e11, p11⟩ := hn9 11 _ 72 rfl rfl
          obtain ⟨v12, e12, p12⟩ := hn9 12 _ 73 rfl rfl
          obtain ⟨v13, e13, p13⟩ := hn9 13 _ 74 rfl rfl
          obtain ⟨v14, e14, p14⟩ := hn9 14 _ 75 rfl rfl
          obtain ⟨v15, e15, p15⟩ := hn9 15 _ 76 rfl rfl
          obtain ⟨v16, e16, p16⟩ := hn9 16 _ 77 rfl rfl
          obtain ⟨v17, e17, p17⟩ := hn9 17 _ 78 rfl rfl
          obtain ⟨v18, e18, p18⟩ := hn9 18 _ 79 rfl rfl
          obtain ⟨v19, e19, p19⟩ := hn9 19 _ 80 rfl rfl
          obtain ⟨v20, e20, p20⟩ := hn9 20 _ 81 rfl rfl
          obtain ⟨v21, e21, p21⟩ := hn9 21 _ 82 rfl rfl
          obtain ⟨v22, e22, p22⟩ := hn9 22 _ 83 rfl rfl
          obtain ⟨v23, e23, p23⟩ := hn9 23 _ 84 rfl rfl
          obtain ⟨v24, e24, p24⟩ := hn9 24 _ 85 rfl rfl
          obtain ⟨v25, e25, p25⟩ := hn9 25 _ 86 rfl rfl
          obtain ⟨v26, e26, p26⟩ := hn9 26 _ 87 rfl rfl
          obtain ⟨v27, e27, p27⟩ := hn9 27 _ 88 rfl rfl
          obtain ⟨v28, e28, p28⟩ := hn9 28 _ 89 rfl rfl
          obtain ⟨v29, e29, p29⟩ := hn9 29 _ 90 rfl rfl
          obtain ⟨v30, e30, p30⟩ := hn9 30 _ 91 rfl rfl
          obtain ⟨v31, e31, p31⟩ := hn9 31 _ 92 rfl rfl
          obtain ⟨v32, e32, p32⟩ := hn9 32 _ 93 rfl rfl
          obtain ⟨v33, e33, p33⟩ := hn9 33 _ 94 rfl rfl
          obtain ⟨v34, e34, p34⟩ := hn9 34 _ 95 rfl rfl
          obtain ⟨v35, e35, p35⟩ := hn9 35 _ 96 rfl rfl
          obtain ⟨v36, e36, p36⟩ := hn9 36 _ 97 rfl rfl
          obtain ⟨v37, e37, p37⟩ := hn9 37 _ 98 rfl rfl
          obtain ⟨v38, e38, p38⟩ := hn9 38 _ 99 rfl rfl
          obtain ⟨v39, e39, p39⟩ := hn9 39 _ 100 rfl rfl
          obtain ⟨v40, e40, p40⟩ := hn9 40 _ 101 rfl rfl
          obtain ⟨v41, e41, p41⟩ := hn9 41 _ 102 rfl rfl
          obtain ⟨v42, e42, p42⟩ := hn9 42 _ 103 rfl rfl
          obtain ⟨v43, e43, p43⟩ := hn9 43 _ 104 rfl rfl
          obtain ⟨v44, e44, p44⟩ := hn9 44 _ 105 rfl rfl
          obtain ⟨v45, e45, p45⟩ := hn9 45 _ 106 rfl rfl
          obtain ⟨v46, e46, p46⟩ := hn9 46 _ 107 rfl rfl
          obtain ⟨v47, e47, p47⟩ := hn9 47 _ 108 rfl rfl
          obtain ⟨v48, e48, p48⟩ := hn9 48 _ 109 rfl rfl
          obtain ⟨v49, e49, p49⟩ := hn9 49 _ 110 rfl rfl
          obtain ⟨v50, e50, p50⟩ := hn9 50 _ 111 rfl rfl
          obtain ⟨v51, e51, p51⟩ := hn9 51 _ 112 rfl rfl
          obtain ⟨v52, e52, p52⟩ := hn9 52 _ 113 rfl rfl
          obtain ⟨v53, e53, p53⟩ := hn9 53 _ 114 rfl rfl
          obtain ⟨v54, e54, p54⟩ := hn9 54 _ 115 rfl rfl
          obtain ⟨v55, e55, p55⟩ := hn9 55 _ 116 rfl rfl
          obtain ⟨v56, e56, p56⟩ := hn9 56 _ 117 rfl rfl
          obtain ⟨v57, e57, p57⟩ := hn9 57 _ 118 rfl rfl
          obtain ⟨v58, e58, p58⟩ := hn9 58 _ 119 rfl rfl
          obtain ⟨v59, e59, p59⟩ := hn9 59 _ 120 rfl rfl
          obtain ⟨v60, e60, p60⟩ := hn9 60 _ 121 rfl rfl
          obtain ⟨v61, e61, p61⟩ := hn9 61 _ 122 rfl rfl
          obtain ⟨v62, e62, p62⟩ := hn9 62 _ 123 rfl rfl
          obtain ⟨v63, e63, p63⟩ := hn9 63 _ 124 rfl rfl
          obtain ⟨v64, e64, p64⟩ := hn9 64 _ 125 rfl rfl
          obtain ⟨v65, e65, p65⟩ := hn9 65 _ 126 rfl rfl
          obtain rfl : v0 = .int .i64 (L1.length : Int) := p0
          obtain rfl : v1 = .bool false := p1
          obtain rfl : v2 = .bool false := p2
          obtain rfl : v3 = .slice (some ⟨b2, o2, none⟩) L2.length qc13 := p3
          obtain rfl : v4 = .int .i64 (L2.length : Int) := p4
          obtain rfl : v5 = .int .i64 (L1.length : Int) := p5
          obtain rfl : v6 = .bool false := p6
          obtain rfl : v7 = .bool false := p7
          obtain rfl : v8 = .bool false := p8
          obtain rfl : v9 = .slice (some ⟨b1, o1, none⟩) L1.length qc12 := p9
          obtain rfl : v10 = .int .i64 (L1.length : Int) := p10
          obtain rfl : v11 = .int .i64 (G1 : Int) := p11
          obtain rfl : v12 = .pointer (some ⟨b1, o1 + G1 * 11, none⟩) := p12
          obtain rfl : v13 = .pointer (some ⟨b1, o1 + G1 * 11, none⟩) := p13
          obtain rfl : v14 = .agg #[.int .i8 b.f, .int .u16 b.g0, .int .u16 b.g1, .int .u16 b.g2, .int .u16 b.g3, .int .u16 b.g4, .int .u16 b.g5, .int .u16 b.g6, .int .u16 b.g7, .int .i64 b.p] := p14
          obtain rfl : v15 = .agg #[.int .i8 b.f, .int .u16 b.g0, .int .u16 b.g1, .int .u16 b.g2, .int .u16 b.g3, .int .u16 b.g4, .int .u16 b.g5, .int .u16 b.g6, .int .u16 b.g7, .int .i64 b.p] := p15
          obtain rfl : v16 = .bool false := p16
          obtain rfl : v17 = .bool false := p17
          obtain rfl : v18 = .bool false := p18
          obtain rfl : v19 = .slice (some ⟨b1, o1, none⟩) L1.length qc12 := p19
          obtain rfl : v20 = .int .i64 (L1.length : Int) := p20
          obtain rfl : v21 = .int .i64 (G : Int) := p21
          obtain rfl : v22 = .pointer (some ⟨b1, o1 + G * 11, none⟩) := p22
          obtain rfl : v23 = .pointer (some ⟨b1, o1 + G * 11, none⟩) := p23
          obtain rfl : v24 = .agg #[.int .i8 a.f, .int .u16 a.g0, .int .u16 a.g1, .int .u16 a.g2, .int .u16 a.g3, .int .u16 a.g4, .int .u16 a.g5, .int .u16 a.g6, .int .u16 a.g7, .int .i64 a.p] := p24
          obtain rfl : v25 = .agg #[.int .i8 a.f, .int .u16 a.g0, .int .u16 a.g1, .int .u16 a.g2, .int .u16 a.g3, .int .u16 a.g4, .int .u16 a.g5, .int .u16 a.g6, .int .u16 a.g7, .int .i64 a.p] := p25
          obtain rfl : v26 = .bool false := p26
          obtain rfl : v27 = .bool false := p27
          obtain rfl : v28 = .bool false := p28
          obtain rfl : v29 = .slice (some ⟨b2, o2, none⟩) L2.length qc13 := p29
          obtain rfl : v30 = .int .i64 (L1.length : Int) := p30
          obtain rfl : v31 = .int .i64 (G1 : Int) := p31
          obtain rfl : v32 = .pointer (some ⟨b2, o2 + G1 * 11, none⟩) := p32
          obtain rfl : v33 = .agg #[.int .i8 a.f, .int .u16 a.g0, .int .u16 a.g1, .int .u16 a.g2, .int .u16 a.g3, .int .u16 a.g4, .int .u16 a.g5, .int .u16 a.g6, .int .u16 a.g7, .int .i64 a.p, .int .i64 tk] := p33
          obtain rfl : v34 = .slice (some ⟨b1, o1, none⟩) L1.length qc12 := p34
          obtain rfl : v35 = .int .i64 (L1.length : Int) := p35
          obtain rfl : v36 = .int .i64 (G : Int) := p36
          obtain rfl : v37 = .pointer (some ⟨b1, o1 + G * 11, none⟩) := p37
          obtain rfl : v38 = .agg #[.int .i8 a.f, .int .u16 a.g0, .int .u16 a.g1, .int .u16 a.g2, .int .u16 a.g3, .int .u16 a.g4, .int .u16 a.g5, .int .u16 a.g6, .int .u16 a.g7, .int .i64 a.p, .int .i64 tk] := p38
          obtain rfl : v39 = .bool false := p39
          obtain rfl : v40 = .bool false := p40
          obtain rfl : v41 = .bool false := p41
          obtain rfl : v42 = .slice (some ⟨b2, o2, none⟩) L2.length qc13 := p42
          obtain rfl : v43 = .int .i64 (L1.length : Int) := p43
          obtain rfl : v44 = .int .i64 (G : Int) := p44
          obtain rfl : v45 = .pointer (some ⟨b2, o2 + G * 11, none⟩) := p45
          obtain rfl : v46 = .agg #[.int .i8 b.f, .int .u16 b.g0, .int .u16 b.g1, .int .u16 b.g2, .int .u16 b.g3, .int .u16 b.g4, .int .u16 b.g5, .int .u16 b.g6, .int .u16 b.g7, .int .i64 b.p, .int .i64 tk] := p46
          obtain rfl : v47 = .slice (some ⟨b1, o1, none⟩) L1.length qc12 := p47
          obtain rfl : v48 = .int .i64 (L1.length : Int) := p48
          obtain rfl : v49 = .int .i64 (G1 : Int) := p49
          obtain rfl : v50 = .pointer (some ⟨b1, o1 + G1 * 11, none⟩) := p50
          obtain rfl : v51 = .agg #[.int .i8 b.f, .int .u16 b.g0, .int .u16 b.g1, .int .u16 b.g2, .int .u16 b.g3, .int .u16 b.g4, .int .u16 b.g5, .int .u16 b.g6, .int .u16 b.g7, .int .i64 b.p, .int .i64 tk] := p51
          obtain rfl : v52 = .bool false := p52
          obtain rfl : v53 = .bool false := p53
          obtain rfl : v54 = .bool false := p54
          obtain rfl : v55 = .slice (some ⟨b1, o1, none⟩) L1.length qc12 := p55
          obtain rfl : v56 = .int .i64 (L1.length : Int) := p56
          obtain rfl : v57 = .int .i64 (G : Int) := p57
          obtain rfl : v58 = .slice (some ⟨b1, o1, none⟩) G qc12 := p58
          obtain rfl : v59 = .slice (some ⟨b2, o2, none⟩) L2.length qc13 := p59
          obtain rfl : v60 = .int .i64 (L1.length : Int) := p60
          obtain rfl : v61 = .int .i64 (G : Int) := p61
          obtain rfl : v62 = .slice (some ⟨b2, o2, none⟩) G qc13 := p62
          obtain rfl : v63 = .bool true := p63
          obtain rfl : v64 = .bool false := p64
          obtain rfl : v65 = .bool false := p65
          have ha := ByOps.act_eq [(61, .int .i64 (L1.length : Int)), (62, .bool false), (63, .bool false), (64, .slice (some ⟨b2, o2, none⟩) L2.length qc13), (65, .int .i64 (L2.length : Int)), (66, .int .i64 (L1.length : Int)), (67, .bool false), (68, .bool false), (69, .bool false), (70, .slice (some ⟨b1, o1, none⟩) L1.length qc12), (71, .int .i64 (L1.length : Int)), (72, .int .i64 (G1 : Int)), (73, .pointer (some ⟨b1, o1 + G1 * 11, none⟩)), (74, .pointer (some ⟨b1, o1 + G1 * 11, none⟩)), (75, .agg #[.int .i8 b.f, .int .u16 b.g0, .int .u16 b.g1, .int .u16 b.g2, .int .u16 b.g3, .int .u16 b.g4, .int .u16 b.g5, .int .u16 b.g6, .int .u16 b.g7, .int .i64 b.p]), (76, .agg #[.int .i8 b.f, .int .u16 b.g0, .int .u16 b.g1, .int .u16 b.g2, .int .u16 b.g3, .int .u16 b.g4, .int .u16 b.g5, .int .u16 b.g6, .int .u16 b.g7, .int .i64 b.p]), (77, .bool false), (78, .bool false), (79, .bool false), (80, .slice (some ⟨b1, o1, none⟩) L1.length qc12), (81, .int .i64 (L1.length : Int)), (82, .int .i64 (G : Int)), (83, .pointer (some ⟨b1, o1 + G * 11, none⟩)), (84, .pointer (some ⟨b1, o1 + G * 11, none⟩)), (85, .agg #[.int .i8 a.f, .int .u16 a.g0, .int .u16 a.g1, .int .u16 a.g2, .int .u16 a.g3, .int .u16 a.g4, .int .u16 a.g5, .int .u16 a.g6, .int .u16 a.g7, .int .i64 a.p]), (86, .agg #[.int .i8 a.f, .int .u16 a.g0, .int .u16 a.g1, .int .u16 a.g2, .int .u16 a.g3, .int .u16 a.g4, .int .u16 a.g5, .int .u16 a.g6, .int .u16 a.g7, .int .i64 a.p]), (87, .bool false), (88, .bool false), (89, .bool false), (90, .slice (some ⟨b2, o2, none⟩) L2.length qc13), (91, .int .i64 (L1.length : Int)), (92, .int .i64 (G1 : Int)), (93, .pointer (some ⟨b2, o2 + G1 * 11, none⟩)), (94, .agg #[.int .i8 a.f, .int .u16 a.g0, .int .u16 a.g1, .int .u16 a.g2, .int .u16 a.g3, .int .u16 a.g4, .int .u16 a.g5, .int .u16 a.g6, .int .u16 a.g7, .int .i64 a.p, .int .i64 tk]), (95, .slice (some ⟨b1, o1, none⟩) L1.length qc12), (96, .int .i64 (L1.length : Int)), (97, .int .i64 (G : Int)), (98, .pointer (some ⟨b1, o1 + G * 11, none⟩)), (99, .agg #[.int .i8 a.f, .int .u16 a.g0, .int .u16 a.g1, .int .u16 a.g2, .int .u16 a.g3, .int .u16 a.g4, .int .u16 a.g5, .int .u16 a.g6, .int .u16 a.g7, .int .i64 a.p, .int .i64 tk]), (100, .bool false), (101, .bool false), (102, .bool false), (103, .slice (some ⟨b2, o2, none⟩) L2.length qc13), (104, .int .i64 (L1.length : Int)), (105, .int .i64 (G : Int)), (106, .pointer (some ⟨b2, o2 + G * 11, none⟩)), (107, .agg #[.int .i8 b.f, .int .u16 b.g0, .int .u16 b.g1, .int .u16 b.g2, .int .u16 b.g3, .int .u16 b.g4, .int .u16 b.g5, .int .u16 b.g6, .int .u16 b.g7, .int .i64 b.p, .int .i64 tk]), (108, .slice (some ⟨b1, o1, none⟩) L1.length qc12), (109, .int .i64 (L1.length : Int)), (110, .int .i64 (G1 : Int)), (111, .pointer (some ⟨b1, o1 + G1 * 11, none⟩)), (112, .agg #[.int .i8 b.f, .int .u16 b.g0, .int .u16 b.g1, .int .u16 b.g2, .int .u16 b.g3, .int .u16 b.g4, .int .u16 b.g5, .int .u16 b.g6, .int .u16 b.g7, .int .i64 b.p, .int .i64 tk]), (113, .bool false), (114, .bool false), (115, .bool false), (116, .slice (some ⟨b1, o1, none⟩) L1.length qc12), (117, .int .i64 (L1.length : Int)), (118, .int .i64 (G : Int)), (119, .slice (some ⟨b1, o1, none⟩) G qc12), (120, .slice (some ⟨b2, o2, none⟩) L2.length qc13), (121, .int .i64 (L1.length : Int)), (122, .int .i64 (G : Int)), (123, .slice (some ⟨b2, o2, none⟩) G qc13), (124, .bool true), (125, .bool false), (126, .bool false)] a9 _ hd9 hs9 (fun t ht => ho9 t (ByOps.outer_of (ts := [61, 62, 63, 64, 65, 66, 67, 68, 69, 70, 71, 72, 73, 74, 75, 76, 77, 78, 79, 80, 81, 82, 83, 84, 85, 86, 87, 88, 89, 90, 91, 92, 93, 94, 95, 96, 97, 98, 99, 100, 101, 102, 103, 104, 105, 106, 107, 108, 109, 110, 111, 112, 113, 114, 115, 116, 117, 118, 119, 120, 121, 122, 123, 124, 125, 126]) rfl ht)) (by intro p hp; simp only [List.mem_cons, List.not_mem_nil, or_false] at hp; rcases hp with rfl | rfl | rfl | rfl | rfl | rfl | rfl | rfl | rfl | rfl | rfl | rfl | rfl | rfl | rfl | rfl | rfl | rfl | rfl | rfl | rfl | rfl | rfl | rfl | rfl | rfl | rfl | rfl | rfl | rfl | rfl | rfl | rfl | rfl | rfl | rfl | rfl | rfl | rfl | rfl | rfl | rfl | rfl | rfl | rfl | rfl | rfl | rfl | rfl | rfl | rfl | rfl | rfl | rfl | rfl | rfl | rfl | rfl | rfl | rfl | rfl | rfl | rfl | rfl | rfl | rfl <;> assumption)
          rw [ha]
          clear ha hn9 ho9 hs9 hd9 e0 e1 e2 e3 e4 e5 e6 e7 e8 e9 e10 e11 e12 e13 e14 e15 e16 e17 e18 e19 e20 e21 e22 e23 e24 e25 e26 e27 e28 e29 e30 e31 e32 e33 e34 e35 e36 e37 e38 e39 e40 e41 e42 e43 e44 e45 e46 e47 e48 e49 e50 e51 e52 e53 e54 e55 e56 e57 e58 e59 e60 e61 e62 e63 e64 e65
          simp only [List.foldl, Act.put, List.setIfInBounds_toArray, List.set_cons_zero, List.set_cons_succ]
          have hb9 : Below w7.heap.size w7 w8 := ⟨hB9.os, hB9.tape, hB9.output, hB9.size, hB9.block⟩
          clear hB9
          have hb := hb9
          clear hb9 hne hn2 hn3 hA1 hA2 hS1 hS2 hw1 HC0 HC1 HD0 HD1 HT2
          replace Hl := Lib.hid (Hl.out.below hb)
          replace Hx := Lib.hid (Hx.out.below hb)
          replace Hy := Lib.hid (Hy.out.below hb)
          replace HT1 := Lib.hid (HT1.out.below hb)
          replace Ha := Lib.hid ((hb.block _ (lt_of_block Ha.out)).trans Ha.out)
          replace Hb := Lib.hid ((hb.block _ (lt_of_block Hb.out)).trans Hb.out)
          replace HB := Lib.hid (HB.out.trans (hb.mono HB.out.size))
          clear hb
          have HX := Lib.hid (HHe.out l [a, b] s (some ⟨w8.heap.size, 0, none⟩) c 2 M (w8.alloc (.cells #[.int .i8 a.f, .int .u16 a.g0, .int .u16 a.g1, .int .u16 a.g2, .int .u16 a.g3, .int .u16 a.g4, .int .u16 a.g5, .int .u16 a.g6, .int .u16 a.g7, .int .i64 a.p, .int .i8 b.f, .int .u16 b.g0, .int .u16 b.g1, .int .u16 b.g2, .int .u16 b.g3, .int .u16 b.g4, .int .u16 b.g5, .int .u16 b.g6, .int .u16 b.g7, .int .i64 b.p] 31)) hH1.out (by omega) (by simp) (Hl.out.below (below1 w8 (.cells #[.int .i8 a.f, .int .u16 a.g0, .int .u16 a.g1, .int .u16 a.g2, .int .u16 a.g3, .int .u16 a.g4, .int .u16 a.g5, .int .u16 a.g6, .int .u16 a.g7, .int .i64 a.p, .int .i8 b.f, .int .u16 b.g0, .int .u16 b.g1, .int .u16 b.g2, .int .u16 b.g3, .int .u16 b.g4, .int .u16 b.g5, .int .u16 b.g6, .int .u16 b.g7, .int .i64 b.p] 31))) (rowC_at (K := AK) w8 31 [a, b] #[.int .i8 a.f, .int .u16 a.g0, .int .u16 a.g1, .int .u16 a.g2, .int .u16 a.g3, .int .u16 a.g4, .int .u16 a.g5, .int .u16 a.g6, .int .u16 a.g7, .int .i64 a.p, .int .i8 b.f, .int .u16 b.g0, .int .u16 b.g1, .int .u16 b.g2, .int .u16 b.g3, .int .u16 b.g4, .int .u16 b.g5, .int .u16 b.g6, .int .u16 b.g7, .int .i64 b.p] w8.heap.size 2 rfl rfl rfl (by simp)))
          simp only [List.length_cons, List.length_nil, Nat.zero_add, Nat.reduceAdd] at HX
          obtain ⟨⟨c_a_0, c_a_1, c_a_2, c_a_3, c_a_4, c_a_5, c_a_6, c_a_7, c_a_8, c_a_9⟩, f_a_0, f_a_1, f_a_2, f_a_3, f_a_4, f_a_5, f_a_6, f_a_7, f_a_8, f_a_9⟩ := box_10 Ha.out
          obtain ⟨⟨c_b_0, c_b_1, c_b_2, c_b_3, c_b_4, c_b_5, c_b_6, c_b_7, c_b_8, c_b_9⟩, f_b_0, f_b_1, f_b_2, f_b_3, f_b_4, f_b_5, f_b_6, f_b_7, f_b_8, f_b_9⟩ := box_10 Hb.out
          go_wp2_with fail
          with_reducible refine HX.out.mono ?_
          rintro e w1 ⟨a5, c5, rfl, hR, hb⟩
          clear c_a_0 c_a_1 c_a_2 c_a_3 c_a_4 c_a_5 c_a_6 c_a_7 c_a_8 c_a_9 f_a_0 f_a_1 f_a_2 f_a_3 f_a_4 f_a_5 f_a_6 f_a_7 f_a_8 f_a_9 c_b_0 c_b_1 c_b_2 c_b_3 c_b_4 c_b_5 c_b_6 c_b_7 c_b_8 c_b_9 f_b_0 f_b_1 f_b_2 f_b_3 f_b_4 f_b_5 f_b_6 f_b_7 f_b_8 f_b_9
          clear HX
          replace hb := (below1 w8 (.cells #[.int .i8 a.f, .int .u16 a.g0, .int .u16 a.g1, .int .u16 a.g2, .int .u16 a.g3, .int .u16 a.g4, .int .u16 a.g5, .int .u16 a.g6, .int .u16 a.g7, .int .i64 a.p, .int .i8 b.f, .int .u16 b.g0, .int .u16 b.g1, .int .u16 b.g2, .int .u16 b.g3, .int .u16 b.g4, .int .u16 b.g5, .int .u16 b.g6, .int .u16 b.g7, .int .i64 b.p] 31)).trans (hb.mono (by simp))
          replace Hl := Lib.hid (Hl.out.below hb)
          replace Hx := Lib.hid (Hx.out.below hb)
          replace Hy := Lib.hid (Hy.out.below hb)
          replace HT1 := Lib.hid (HT1.out.below hb)
          replace Ha := Lib.hid ((hb.block _ (lt_of_block Ha.out)).trans Ha.out)
          replace Hb := Lib.hid ((hb.block _ (lt_of_block Hb.out)).trans Hb.out)
          replace HB := Lib.hid (HB.out.trans (hb.mono HB.out.size))
          clear hb
          have Hh := Lib.hid hR
          clear hR
          go_upto_region 16 with fail
          have HSG := Lib.hid (fun (k1 k2 : Nat) (h1 : k1 = M.length) (h2 : k2 = M.length) (a b : Option Addr) (c d : Nat) (W : World) (hA : SK.RowC W a c M) (hB : SK.RowC W b d M) => (by subst h1 h2; exact HSa.out M M a b c d true W (by simp) (by omega) (by omega) hA hB : Calls Try.prog 16 #[.slice a k1 c, .slice b k2 d] W fun e w' => e = .returned (.bool true) ∧ Below W.heap.size W w'))
          refine ByOps.region_by_sk (by kernel_rfl) (ByOps.facts [.val (.slice (some ⟨b1, o1, none⟩) L1.length qc12), .val (.agg #[.int .i8 b.f, .int .u16 b.g0, .int .u16 b.g1, .int .u16 b.g2, .int .u16 b.g3, .int .u16 b.g4, .int .u16 b.g5, .int .u16 b.g6, .int .u16 b.g7, .int .i64 b.p]), .val (.agg #[.int .i8 a.f, .int .u16 a.g0, .int .u16 a.g1, .int .u16 a.g2, .int .u16 a.g3, .int .u16 a.g4, .int .u16 a.g5, .int .u16 a.g6, .int .u16 a.g7, .int .i64 a.p]), rowA ([b, a]), rowS (M), .val (.slice a5 M.length c5), .val (.bool true), .val (.bool true), .val (.slice a5 M.length c5), .val (.slice (some ⟨b1, o1, none⟩) L1.length qc12), .val (.int .i64 (L1.length : Int)), .val (.int .i64 (G : Int)), .val (.slice (some ⟨b1, o1, none⟩) G qc12), .val (.bool true), .val (.bool true), .val (.bool true), .val (.slice s l.length c), .val (.agg #[.int .i8 a.f, .int .u16 a.g0, .int .u16 a.g1, .int .u16 a.g2, .int .u16 a.g3, .int .u16 a.g4, .int .u16 a.g5, .int .u16 a.g6, .int .u16 a.g7, .int .i64 a.p]), rowA ([a]), rowS (healS l [a]), .val (.agg #[.int .i8 b.f, .int .u16 b.g0, .int .u16 b.g1, .int .u16 b.g2, .int .u16 b.g3, .int .u16 b.g4, .int .u16 b.g5, .int .u16 b.g6, .int .u16 b.g7, .int .i64 b.p]), rowA ([b]), rowS (M), .val (.slice a5 M.length c5), .val (.bool true), .val (.bool true), .val (.bool true), .val (.bool true), .val (.bool true), .val (.bool true)]) (ByOps.facts_up _) (by kernel_rfl) (fun _ => false) (ByOps.all_ops ?_) (ByOps.all_ops ?_) (ByOps.all_ops ?_) ?_
          · refine ⟨?_, ?_, ?_, ?_, ?_, ?_, ?_, ?_, ?_, ?_, ?_, ?_, ?_, ?_, ?_, ?_, ?_, ?_, ?_, ?_, ?_, ?_, ?_, ?_, ?_, ?_, ?_, ?_, ?_, ?_, trivial⟩
            · intro _ ρ w9 hB hs
              have hBB : Below w1.heap.size w1 w9 := ⟨hB.os, hB.tape, hB.output, hB.size, hB.block⟩
              have h11 : ρ (.tmp 11) = .slice (some ⟨b1, o1, none⟩) L1.length qc12 := (hs _ (by simp [Op.operands, Call.operands])).2 (fun t ht => by cases ht; kernel_rfl)
              exact ByOps.runs_value (by first | rfl | go_simp) (Below.refl _ _) h11
            · intro _ ρ w9 hB hs
              have hBB : Below w1.heap.size w1 w9 := ⟨hB.os, hB.tape, hB.output, hB.size, hB.block⟩
              have h6 : ρ (.tmp 6) = .pointer (some ⟨bb, 0, none⟩) := (hs _ (by simp [Op.operands, Call.operands])).2 (fun t ht => by cases ht; kernel_rfl)
              obtain ⟨⟨e0, e1, e2, e3, e4, e5, e6, e7, e8, e9⟩, _⟩ := box_10 ((hBB.block _ (lt_of_block Hb.out)).trans Hb.out)
              exact ByOps.runs_value (v := .agg #[.int .i8 b.f, .int .u16 b.g0, .int .u16 b.g1, .int .u16 b.g2, .int .u16 b.g3, .int .u16 b.g4, .int .u16 b.g5, .int .u16 b.g6, .int .u16 b.g7, .int .i64 b.p]) (by first | rfl | go_simp) (Below.refl _ _) rfl
            · intro _ ρ w9 hB hs
              have hBB : Below w1.heap.size w1 w9 := ⟨hB.os, hB.tape, hB.output, hB.size, hB.block⟩
              have h5 : ρ (.tmp 5) = .pointer (some ⟨w.heap.size, 0, none⟩) := (hs _ (by simp [Op.operands, Call.operands])).2 (fun t ht => by cases ht; kernel_rfl)
              obtain ⟨⟨e0, e1, e2, e3, e4, e5, e6, e7, e8, e9⟩, _⟩ := box_10 ((hBB.block _ (lt_of_block Ha.out)).trans Ha.out)
              exact ByOps.runs_value (v := .agg #[.int .i8 a.f, .int .u16 a.g0, .int .u16 a.g1, .int .u16 a.g2, .int .u16 a.g3, .int .u16 a.g4, .int .u16 a.g5, .int .u16 a.g6, .int .u16 a.g7, .int .i64 a.p]) (by first | rfl | go_simp) (Below.refl _ _) rfl
            · intro _ ρ w9 hB hs
              have hBB : Below w1.heap.size w1 w9 := ⟨hB.os, hB.tape, hB.output, hB.size, hB.block⟩
              have h133 : ρ (.tmp 133) = .agg #[.int .i8 b.f, .int .u16 b.g0, .int .u16 b.g1, .int .u16 b.g2, .int .u16 b.g3, .int .u16 b.g4, .int .u16 b.g5, .int .u16 b.g6, .int .u16 b.g7, .int .i64 b.p] := (hs (.tmp 133) (by simp [Op.operands, Call.operands])).1 133 rfl 1 _ rfl rfl
              have h134 : ρ (.tmp 134) = .agg #[.int .i8 a.f, .int .u16 a.g0, .int .u16 a.g1, .int .u16 a.g2, .int .u16 a.g3, .int .u16 a.g4, .int .u16 a.g5, .int .u16 a.g6, .int .u16 a.g7, .int .i64 a.p] := (hs (.tmp 134) (by simp [Op.operands, Call.operands])).1 134 rfl 2 _ rfl rfl
              exact ByOps.runs_value (v := .slice (some ⟨w9.heap.size, 0, none⟩) 2 2) (w' := w9.alloc (.cells #[.int .i8 b.f, .int .u16 b.g0, .int .u16 b.g1, .int .u16 b.g2, .int .u16 b.g3, .int .u16 b.g4, .int .u16 b.g5, .int .u16 b.g6, .int .u16 b.g7, .int .i64 b.p, .int .i8 a.f, .int .u16 a.g0, .int .u16 a.g1, .int .u16 a.g2, .int .u16 a.g3, .int .u16 a.g4, .int .u16 a.g5, .int .u16 a.g6, .int .u16 a.g7, .int .i64 a.p] 31)) (by go_simp) (below1 _ _) ⟨some ⟨w9.heap.size, 0, none⟩, 2, rfl, rowC_at (K := AK) w9 31 [b, a] #[.int .i8 b.f, .int .u16 b.g0, .int .u16 b.g1, .int .u16 b.g2, .int .u16 b.g3, .int .u16 b.g4, .int .u16 b.g5, .int .u16 b.g6, .int .u16 b.g7, .int .i64 b.p, .int .i8 a.f, .int .u16 a.g0, .int .u16 a.g1, .int .u16 a.g2, .int .u16 a.g3, .int .u16 a.g4, .int .u16 a.g5, .int .u16 a.g6, .int .u16 a.g7, .int .i64 a.p] w9.heap.size 2 rfl rfl rfl (by simp)⟩
            · intro _ ρ w9 hB hs
              have hBB : Below w1.heap.size w1 w9 := ⟨hB.os, hB.tape, hB.output, hB.size, hB.block⟩
              have h132 : ρ (.tmp 132) = .slice (some ⟨b1, o1, none⟩) L1.length qc12 := (hs (.tmp 132) (by simp [Op.operands, Call.operands])).1 132 rfl 0 _ rfl rfl
              have h135 : ∃ a1 c1, ρ (.tmp 135) = .slice a1 ([b, a] : List Ad).length c1 ∧ AK.RowC w9 a1 c1 ([b, a]) := (hs (.tmp 135) (by simp [Op.operands, Call.operands])).1 135 rfl 3 _ rfl rfl
              obtain ⟨ra135, rc135, h135, hR135⟩ := h135
              have hfn : ρ (.func 12) = .func (.func 12) #[] #[] := (hs _ (by simp [Op.operands, Call.operands])).2 (fun t ht => by cases ht)
              refine ByOps.runs_enter (f := 12) (args := #[.slice (some ⟨b1, o1, none⟩) L1.length qc12, .slice ra135 ([b, a] : List Ad).length rc135]) (by go_simp) ?_
              exact (HHe.out L1 [b, a] (some ⟨b1, o1, none⟩) ra135 qc12 rc135 M w9 hH2.out (by rw [hN1.out]; omega) (by simp) (Hx.out.below hBB) hR135).mono fun e w2 ⟨a1, c1, he, hR, hb⟩ => ⟨_, he, hb, a1, c1, rfl, hR⟩
            · intro _ ρ w9 hB hs
              have hBB : Below w1.heap.size w1 w9 := ⟨hB.os, hB.tape, hB.output, hB.size, hB.block⟩
              have h14 : ρ (.tmp 14) = .slice a5 M.length c5 := (hs _ (by simp [Op.operands, Call.operands])).2 (fun t ht => by cases ht; kernel_rfl)
              exact ByOps.runs_value (by first | rfl | go_simp) (Below.refl _ _) h14
            · intro _ ρ w9 hB hs
              have hBB : Below w1.heap.size w1 w9 := ⟨hB.os, hB.tape, hB.output, hB.size, hB.block⟩
              have h136 : ∃ a1 c1, ρ (.tmp 136) = .slice a1 (M : List Sc).length c1 ∧ SK.RowC w9 a1 c1 (M) := (hs (.tmp 136) (by simp [Op.operands, Call.operands])).1 136 rfl 4 _ rfl rfl
              obtain ⟨ra136, rc136, h136, hR136⟩ := h136
              have h137 : ρ (.tmp 137) = .slice a5 M.length c5 := (hs (.tmp 137) (by simp [Op.operands, Call.operands])).1 137 rfl 5 _ rfl rfl
              have hfn : ρ (.func 16) = .func (.func 16) #[] #[] := (hs _ (by simp [Op.operands, Call.operands])).2 (fun t ht => by cases ht)
              refine ByOps.runs_enter (f := 16) (args := #[.slice ra136 (M : List Sc).length rc136, .slice a5 M.length c5]) (by go_simp) ?_
              exact (HSG.out M.length M.length rfl rfl ra136 a5 rc136 c5 w9 hR136 (Hh.out.below hBB)).mono fun e w2 ⟨he, hb⟩ => ⟨_, he, hb, rfl⟩
            · intro _ ρ w9 hB hs
              have hBB : Below w1.heap.size w1 w9 := ⟨hB.os, hB.tape, hB.output, hB.size, hB.block⟩
              have h138 : ρ (.tmp 138) = .bool true := (hs (.tmp 138) (by simp [Op.operands, Call.operands])).1 138 rfl 6 _ rfl rfl
              exact ByOps.runs_value (by first | rfl | go_simp) (Below.refl _ _) h138
            · intro _ ρ w9 hB hs
              have hBB : Below w1.heap.size w1 w9 := ⟨hB.os, hB.tape, hB.output, hB.size, hB.block⟩
              have h14 : ρ (.tmp 14) = .slice a5 M.length c5 := (hs _ (by simp [Op.operands, Call.operands])).2 (fun t ht => by cases ht; kernel_rfl)
              exact ByOps.runs_value (by first | rfl | go_simp) (Below.refl _ _) h14
            · intro _ ρ w9 hB hs
              have hBB : Below w1.heap.size w1 w9 := ⟨hB.os, hB.tape, hB.output, hB.size, hB.block⟩
              have h11 : ρ (.tmp 11) = .slice (some ⟨b1, o1, none⟩) L1.length qc12 := (hs _ (by simp [Op.operands, Call.operands])).2 (fun t ht => by cases ht; kernel_rfl)
              exact ByOps.runs_value (by first | rfl | go_simp) (Below.refl _ _) h11
            · intro _ ρ w9 hB hs
              have hBB : Below w1.heap.size w1 w9 := ⟨hB.os, hB.tape, hB.output, hB.size, hB.block⟩
              have h13 : ρ (.tmp 13) = .int .i64 (L1.length : Int) := (hs _ (by simp [Op.operands, Call.operands])).2 (fun t ht => by cases ht; kernel_rfl)
              exact ByOps.runs_value (by first | rfl | go_simp) (Below.refl _ _) h13
            · intro _ ρ w9 hB hs
              have hBB : Below w1.heap.size w1 w9 := ⟨hB.os, hB.tape, hB.output, hB.size, hB.block⟩
              have h142 : ρ (.tmp 142) = .int .i64 (L1.length : Int) := (hs (.tmp 142) (by simp [Op.operands, Call.operands])).1 142 rfl 10 _ rfl rfl
              have hk : ρ (.const (.int .i64 2)) = .int .i64 2 := (hs _ (by simp [Op.operands, Call.operands])).2 (fun t ht => by cases ht)
              exact ByOps.runs_value (v := .int .i64 (G : Int)) (by first | rfl | go_simp) (Below.refl _ _) rfl
            · intro _ ρ w9 hB hs
              have hBB : Below w1.heap.size w1 w9 := ⟨hB.os, hB.tape, hB.output, hB.size, hB.block⟩
              have h141 : ρ (.tmp 141) = .slice (some ⟨b1, o1, none⟩) L1.length qc12 := (hs (.tmp 141) (by simp [Op.operands, Call.operands])).1 141 rfl 9 _ rfl rfl
              have h143 : ρ (.tmp 143) = .int .i64 (G : Int) := (hs (.tmp 143) (by simp [Op.operands, Call.operands])).1 143 rfl 11 _ rfl rfl
              exact ByOps.runs_value (v := .slice (some ⟨b1, o1, none⟩) G qc12) (by first | rfl | go_simp) (Below.refl _ _) rfl
            · intro _ ρ w9 hB hs
              have hBB : Below w1.heap.size w1 w9 := ⟨hB.os, hB.tape, hB.output, hB.size, hB.block⟩
              have h140 : ρ (.tmp 140) = .slice a5 M.length c5 := (hs (.tmp 140) (by simp [Op.operands, Call.operands])).1 140 rfl 8 _ rfl rfl
              have h144 : ρ (.tmp 144) = .slice (some ⟨b1, o1, none⟩) G qc12 := (hs (.tmp 144) (by simp [Op.operands, Call.operands])).1 144 rfl 12 _ rfl rfl
              have hfn : ρ (.func 16) = .func (.func 16) #[] #[] := (hs _ (by simp [Op.operands, Call.operands])).2 (fun t ht => by cases ht)
              refine ByOps.runs_enter (f := 16) (args := #[.slice a5 M.length c5, .slice (some ⟨b1, o1, none⟩) G qc12]) (by go_simp) ?_
              exact (HSG.out M.length G rfl hG.out a5 (some ⟨b1, o1, none⟩) c5 qc12 w9 (Hh.out.below hBB) (HT1.out.below hBB)).mono fun e w2 ⟨he, hb⟩ => ⟨_, he, hb, rfl⟩
            · intro _ ρ w9 hB hs
              have hBB : Below w1.heap.size w1 w9 := ⟨hB.os, hB.tape, hB.output, hB.size, hB.block⟩
              have h139 : ρ (.tmp 139) = .bool true := (hs (.tmp 139) (by simp [Op.operands, Call.operands])).1 139 rfl 7 _ rfl rfl
              have h145 : ρ (.tmp 145) = .bool true := (hs (.tmp 145) (by simp [Op.operands, Call.operands])).1 145 rfl 13 _ rfl rfl
              exact ByOps.runs_value (v := .bool true) (by first | rfl | go_simp) (Below.refl _ _) rfl
            · intro _ ρ w9 hB hs
              have hBB : Below w1.heap.size w1 w9 := ⟨hB.os, hB.tape, hB.output, hB.size, hB.block⟩
              have h146 : ρ (.tmp 146) = .bool true := (hs (.tmp 146) (by simp [Op.operands, Call.operands])).1 146 rfl 14 _ rfl rfl
              exact ByOps.runs_value (by first | rfl | go_simp) (Below.refl _ _) h146
            · intro _ ρ w9 hB hs
              have hBB : Below w1.heap.size w1 w9 := ⟨hB.os, hB.tape, hB.output, hB.size, hB.block⟩
              have h0 : ρ (.tmp 0) = .slice s l.length c := (hs _ (by simp [Op.operands, Call.operands])).2 (fun t ht => by cases ht; kernel_rfl)
              exact ByOps.runs_value (by first | rfl | go_simp) (Below.refl _ _) h0
            · intro _ ρ w9 hB hs
              have hBB : Below w1.heap.size w1 w9 := ⟨hB.os, hB.tape, hB.output, hB.size, hB.block⟩
              have h5 : ρ (.tmp 5) = .pointer (some ⟨w.heap.size, 0, none⟩) := (hs _ (by simp [Op.operands, Call.operands])).2 (fun t ht => by cases ht; kernel_rfl)
              obtain ⟨⟨e0, e1, e2, e3, e4, e5, e6, e7, e8, e9⟩, _⟩ := box_10 ((hBB.block _ (lt_of_block Ha.out)).trans Ha.out)
              exact ByOps.runs_value (v := .agg #[.int .i8 a.f, .int .u16 a.g0, .int .u16 a.g1, .int .u16 a.g2, .int .u16 a.g3, .int .u16 a.g4, .int .u16 a.g5, .int .u16 a.g6, .int .u16 a.g7, .int .i64 a.p]) (by first | rfl | go_simp) (Below.refl _ _) rfl
            · intro _ ρ w9 hB hs
              have hBB : Below w1.heap.size w1 w9 := ⟨hB.os, hB.tape, hB.output, hB.size, hB.block⟩
              have h149 : ρ (.tmp 149) = .agg #[.int .i8 a.f, .int .u16 a.g0, .int .u16 a.g1, .int .u16 a.g2, .int .u16 a.g3, .int .u16 a.g4, .int .u16 a.g5, .int .u16 a.g6, .int .u16 a.g7, .int .i64 a.p] := (hs (.tmp 149) (by simp [Op.operands, Call.operands])).1 149 rfl 17 _ rfl rfl
              exact ByOps.runs_value (v := .slice (some ⟨w9.heap.size, 0, none⟩) 1 1) (w' := w9.alloc (.cells #[.int .i8 a.f, .int .u16 a.g0, .int .u16 a.g1, .int .u16 a.g2, .int .u16 a.g3, .int .u16 a.g4, .int .u16 a.g5, .int .u16 a.g6, .int .u16 a.g7, .int .i64 a.p] 31)) (by go_simp) (below1 _ _) ⟨some ⟨w9.heap.size, 0, none⟩, 1, rfl, rowC_at (K := AK) w9 31 [a] #[.int .i8 a.f, .int .u16 a.g0, .int .u16 a.g1, .int .u16 a.g2, .int .u16 a.g3, .int .u16 a.g4, .int .u16 a.g5, .int .u16 a.g6, .int .u16 a.g7, .int .i64 a.p] w9.heap.size 1 rfl rfl rfl (by simp)⟩
            · intro _ ρ w9 hB hs
              have hBB : Below w1.heap.size w1 w9 := ⟨hB.os, hB.tape, hB.output, hB.size, hB.block⟩
              have h148 : ρ (.tmp 148) = .slice s l.length c := (hs (.tmp 148) (by simp [Op.operands, Call.operands])).1 148 rfl 16 _ rfl rfl
              have h150 : ∃ a1 c1, ρ (.tmp 150) = .slice a1 ([a] : List Ad).length c1 ∧ AK.RowC w9 a1 c1 ([a]) := (hs (.tmp 150) (by simp [Op.operands, Call.operands])).1 150 rfl 18 _ rfl rfl
              obtain ⟨ra150, rc150, h150, hR150⟩ := h150
              have hfn : ρ (.func 12) = .func (.func 12) #[] #[] := (hs _ (by simp [Op.operands, Call.operands])).2 (fun t ht => by cases ht)
              refine ByOps.runs_enter (f := 12) (args := #[.slice s l.length c, .slice ra150 ([a] : List Ad).length rc150]) (by go_simp) ?_
              exact (HHe.out l [a] s ra150 c rc150 (healS l [a]) w9 hH4.out (by omega) (by simp) (Hl.out.below hBB) hR150).mono fun e w2 ⟨a1, c1, he, hR, hb⟩ => ⟨_, he, hb, a1, c1, rfl, hR⟩
            · intro _ ρ w9 hB hs
              have hBB : Below w1.heap.size w1 w9 := ⟨hB.os, hB.tape, hB.output, hB.size, hB.block⟩
              have h6 : ρ (.tmp 6) = .pointer (some ⟨bb, 0, none⟩) := (hs _ (by simp [Op.operands, Call.operands])).2 (fun t ht => by cases ht; kernel_rfl)
              obtain ⟨⟨e0, e1, e2, e3, e4, e5, e6, e7, e8, e9⟩, _⟩ := box_10 ((hBB.block _ (lt_of_block Hb.out)).trans Hb.out)
              exact ByOps.runs_value (v := .agg #[.int .i8 b.f, .int .u16 b.g0, .int .u16 b.g1, .int .u16 b.g2, .int .u16 b.g3, .int .u16 b.g4, .int .u16 b.g5, .int .u16 b.g6, .int .u16 b.g7, .int .i64 b.p]) (by first | rfl | go_simp) (Below.refl _ _) rfl
            · intro _ ρ w9 hB hs
              have hBB : Below w1.heap.size w1 w9 := ⟨hB.os, hB.tape, hB.output, hB.size, hB.block⟩
              have h152 : ρ (.tmp 152) = .agg #[.int .i8 b.f, .int .u16 b.g0, .int .u16 b.g1, .int .u16 b.g2, .int .u16 b.g3, .int .u16 b.g4, .int .u16 b.g5, .int .u16 b.g6, .int .u16 b.g7, .int .i64 b.p] := (hs (.tmp 152) (by simp [Op.operands, Call.operands])).1 152 rfl 20 _ rfl rfl
              exact ByOps.runs_value (v := .slice (some ⟨w9.heap.size, 0, none⟩) 1 1) (w' := w9.alloc (.cells #[.int .i8 b.f, .int .u16 b.g0, .int .u16 b.g1, .int .u16 b.g2, .int .u16 b.g3, .int .u16 b.g4, .int .u16 b.g5, .int .u16 b.g6, .int .u16 b.g7, .int .i64 b.p] 31)) (by go_simp) (below1 _ _) ⟨some ⟨w9.heap.size, 0, none⟩, 1, rfl, rowC_at (K := AK) w9 31 [b] #[.int .i8 b.f, .int .u16 b.g0, .int .u16 b.g1, .int .u16 b.g2, .int .u16 b.g3, .int .u16 b.g4, .int .u16 b.g5, .int .u16 b.g6, .int .u16 b.g7, .int .i64 b.p] w9.heap.size 1 rfl rfl rfl (by simp)⟩
            · intro _ ρ w9 hB hs
              have hBB : Below w1.heap.size w1 w9 := ⟨hB.os, hB.tape, hB.output, hB.size, hB.block⟩
              have h151 : ∃ a1 c1, ρ (.tmp 151) = .slice a1 (healS l [a] : List Sc).length c1 ∧ SK.RowC w9 a1 c1 (healS l [a]) := (hs (.tmp 151) (by simp [Op.operands, Call.operands])).1 151 rfl 19 _ rfl rfl
              obtain ⟨ra151, rc151, h151, hR151⟩ := h151
              have h153 : ∃ a1 c1, ρ (.tmp 153) = .slice a1 ([b] : List Ad).length c1 ∧ AK.RowC w9 a1 c1 ([b]) := (hs (.tmp 153) (by simp [Op.operands, Call.operands])).1 153 rfl 21 _ rfl rfl
              obtain ⟨ra153, rc153, h153, hR153⟩ := h153
              have hfn : ρ (.func 12) = .func (.func 12) #[] #[] := (hs _ (by simp [Op.operands, Call.operands])).2 (fun t ht => by cases ht)
              refine ByOps.runs_enter (f := 12) (args := #[.slice ra151 (healS l [a] : List Sc).length rc151, .slice ra153 ([b] : List Ad).length rc153]) (by go_simp) ?_
              exact (HHe.out (healS l [a]) [b] ra151 ra153 rc151 rc153 M w9 hH3.out (by omega) (by simp) hR151 hR153).mono fun e w2 ⟨a1, c1, he, hR, hb⟩ => ⟨_, he, hb, a1, c1, rfl, hR⟩
            · intro _ ρ w9 hB hs
              have hBB : Below w1.heap.size w1 w9 := ⟨hB.os, hB.tape, hB.output, hB.size, hB.block⟩
              have h14 : ρ (.tmp 14) = .slice a5 M.length c5 := (hs _ (by simp [Op.operands, Call.operands])).2 (fun t ht => by cases ht; kernel_rfl)
              exact ByOps.runs_value (by first | rfl | go_simp) (Below.refl _ _) h14
            · intro _ ρ w9 hB hs
              have hBB : Below w1.heap.size w1 w9 := ⟨hB.os, hB.tape, hB.output, hB.size, hB.block⟩
              have h154 : ∃ a1 c1, ρ (.tmp 154) = .slice a1 (M : List Sc).length c1 ∧ SK.RowC w9 a1 c1 (M) := (hs (.tmp 154) (by simp [Op.operands, Call.operands])).1 154 rfl 22 _ rfl rfl
              obtain ⟨ra154, rc154, h154, hR154⟩ := h154
              have h155 : ρ (.tmp 155) = .slice a5 M.length c5 := (hs (.tmp 155) (by simp [Op.operands, Call.operands])).1 155 rfl 23 _ rfl rfl
              have hfn : ρ (.func 16) = .func (.func 16) #[] #[] := (hs _ (by simp [Op.operands, Call.operands])).2 (fun t ht => by cases ht)
              refine ByOps.runs_enter (f := 16) (args := #[.slice ra154 (M : List Sc).length rc154, .slice a5 M.length c5]) (by go_simp) ?_
              exact (HSG.out M.length M.length rfl rfl ra154 a5 rc154 c5 w9 hR154 (Hh.out.below hBB)).mono fun e w2 ⟨he, hb⟩ => ⟨_, he, hb, rfl⟩
            · intro _ ρ w9 hB hs
              have hBB : Below w1.heap.size w1 w9 := ⟨hB.os, hB.tape, hB.output, hB.size, hB.block⟩
              have h147 : ρ (.tmp 147) = .bool true := (hs (.tmp 147) (by simp [Op.operands, Call.operands])).1 147 rfl 15 _ rfl rfl
              have h156 : ρ (.tmp 156) = .bool true := (hs (.tmp 156) (by simp [Op.operands, Call.operands])).1 156 rfl 24 _ rfl rfl
              exact ByOps.runs_value (v := .bool true) (by first | rfl | go_simp) (Below.refl _ _) rfl
            · intro _ ρ w9 hB hs
              have hBB : Below w1.heap.size w1 w9 := ⟨hB.os, hB.tape, hB.output, hB.size, hB.block⟩
              have h157 : ρ (.tmp 157) = .bool true := (hs (.tmp 157) (by simp [Op.operands, Call.operands])).1 157 rfl 25 _ rfl rfl
              exact ByOps.runs_value (by first | rfl | go_simp) (Below.refl _ _) h157
            · intro _ ρ w9 hB hs
              have hBB : Below w1.heap.size w1 w9 := ⟨hB.os, hB.tape, hB.output, hB.size, hB.block⟩
              have hfn : ρ (.func 8) = .func (.func 8) #[] #[] := (hs _ (by simp [Op.operands, Call.operands])).2 (fun t ht => by cases ht)
              refine ByOps.runs_enter (f := 8) (args := #[]) (by go_simp) ?_
              exact (HWk.out w9).mono fun e w2 ⟨he, hb⟩ => ⟨_, he, hb, rfl⟩
            · intro _ ρ w9 hB hs
              have hBB : Below w1.heap.size w1 w9 := ⟨hB.os, hB.tape, hB.output, hB.size, hB.block⟩
              have h158 : ρ (.tmp 158) = .bool true := (hs (.tmp 158) (by simp [Op.operands, Call.operands])).1 158 rfl 26 _ rfl rfl
              have h159 : ρ (.tmp 159) = .bool true := (hs (.tmp 159) (by simp [Op.operands, Call.operands])).1 159 rfl 27 _ rfl rfl
              exact ByOps.runs_value (v := .bool true) (by first | rfl | go_simp) (Below.refl _ _) rfl
            · intro _ ρ w9 hB hs
              have hBB : Below w1.heap.size w1 w9 := ⟨hB.os, hB.tape, hB.output, hB.size, hB.block⟩
              have h160 : ρ (.tmp 160) = .bool true := (hs (.tmp 160) (by simp [Op.operands, Call.operands])).1 160 rfl 28 _ rfl rfl
              exact ByOps.runs_value (by first | rfl | go_simp) (Below.refl _ _) h160
          · refine ⟨?_, ?_, ?_, ?_, ?_, ?_, ?_, ?_, ?_, ?_, ?_, ?_, ?_, ?_, ?_, ?_, ?_, ?_, ?_, ?_, ?_, ?_, ?_, ?_, ?_, ?_, ?_, ?_, ?_, ?_, trivial⟩
            all_goals first | (intro hs0; cases hs0; done) | (intro _; exact ⟨by simp, fun _ => rfl⟩)
          · refine ⟨?_, ?_, ?_, ?_, ?_, ?_, ?_, ?_, ?_, ?_, ?_, ?_, ?_, ?_, ?_, ?_, ?_, ?_, ?_, ?_, ?_, ?_, ?_, ?_, ?_, ?_, ?_, ?_, ?_, ?_, trivial⟩
            all_goals first | (intro g b h; cases h; done) | (intro g b h; cases h; intro v w h; exact ⟨fun h0 => (by first | exact h | cases h0), fun h0 => (by first | cases h0; done | exact .inl h | exact .inr h)⟩)
          · intro a9 w9 hd9 hs9 ho9 hn9 hB9
            obtain ⟨v0, e0, p0⟩ := hn9 0 _ 132 rfl rfl
            obtain ⟨v1, e1, p1⟩ := hn9 1 _ 133 rfl rfl
            obtain ⟨v2, e2, p2⟩ := hn9 2 _ 134 rfl rfl
            obtain ⟨v3, e3, p3⟩ := hn9 3 _ 135 rfl rfl
            obtain ⟨v4, e4, p4⟩ := hn9 4 _ 136 rfl rfl
            obtain ⟨v5, e5, p5⟩ := hn9 5 _ 137 rfl rfl
            obtain ⟨v6, e6, p6⟩ := hn9 6 _ 138 rfl rfl
            obtain ⟨v7, e7, p7⟩ := hn9 7 _ 139 rfl rfl
            obtain ⟨v8, e8, p8⟩ := hn9 8 _ 140 rfl rfl
            obtain ⟨v9, e9, p9⟩ := hn9 9 _ 141 rfl rfl
            obtain ⟨v10, e10, p10⟩ := hn9 10 _ 142 rfl rfl
            obtain ⟨v11, e11, p11⟩ := hn9 11 _ 143 rfl rfl
            obtain ⟨v12, e12, p12⟩ := hn9 12 _ 144 rfl rfl
            obtain ⟨v13, e13, p13⟩ := hn9 13 _ 145 rfl rfl
            obtain ⟨v14, e14, p14⟩ := hn9 14 _ 146 rfl rfl
            obtain ⟨v15, e15, p15⟩ := hn9 15 _ 147 rfl rfl
            obtain ⟨v16, e16, p16⟩ := hn9 16 _ 148 rfl rfl
            obtain ⟨v17, e17, p17⟩ := hn9 17 _ 149 rfl rfl
            obtain ⟨v18, e18, p18⟩ := hn9 18 _ 150 rfl rfl
            obtain ⟨v19, e19, p19⟩ := hn9 19 _ 151 rfl rfl
            obtain ⟨v20, e20, p20⟩ := hn9 20 _ 152 rfl rfl
            obtain ⟨v21, e21, p21⟩ := hn9 21 _ 153 rfl rfl
            obtain ⟨v22, e22, p22⟩ := hn9 22 _ 154 rfl rfl
            obtain ⟨v23, e23, p23⟩ := hn9 23 _ 155 rfl rfl
            obtain ⟨v24, e24, p24⟩ := hn9 24 _ 156 rfl rfl
            obtain ⟨v25, e25, p25⟩ := hn9 25 _ 157 rfl rfl
            obtain ⟨v26, e26, p26⟩ := hn9 26 _ 158 rfl rfl
            obtain ⟨v27, e27, p27⟩ := hn9 27 _ 159 rfl rfl
            obtain ⟨v28, e28, p28⟩ := hn9 28 _ 160 rfl rfl
            obtain ⟨v29, e29, p29⟩ := hn9 29 _ 8 rfl rfl
            obtain rfl : v0 = .slice (some ⟨b1, o1, none⟩) L1.length qc12 := p0
            obtain rfl : v1 = .agg #[.int .i8 b.f, .int .u16 b.g0, .int .u16 b.g1, .int .u16 b.g2, .int .u16 b.g3, .int .u16 b.g4, .int .u16 b.g5, .int .u16 b.g6, .int .u16 b.g7, .int .i64 b.p] := p1
            obtain rfl : v2 = .agg #[.int .i8 a.f, .int .u16 a.g0, .int .u16 a.g1, .int .u16 a.g2, .int .u16 a.g3, .int .u16 a.g4, .int .u16 a.g5, .int .u16 a.g6, .int .u16 a.g7, .int .i64 a.p] := p2
            obtain ⟨qa3, qc3, rfl, hQ3⟩ := p3
            obtain ⟨qa4, qc4, rfl, hQ4⟩ := p4
            obtain rfl : v5 = .slice a5 M.length c5 := p5
            obtain rfl : v6 = .bool true := p6
            obtain rfl : v7 = .bool true := p7
            obtain rfl : v8 = .slice a5 M.length c5 := p8
            obtain rfl : v9 = .slice (some ⟨b1, o1, none⟩) L1.length qc12 := p9
            obtain rfl : v10 = .int .i64 (L1.length : Int) := p10
            obtain rfl : v11 = .int .i64 (G : Int) := p11
            obtain rfl : v12 = .slice (some ⟨b1, o1, none⟩) G qc12 := p12
            obtain rfl : v13 = .bool true := p13
            obtain rfl : v14 = .bool true := p14
            obtain rfl : v15 = .bool true := p15
            obtain rfl : v16 = .slice s l.length c := p16
            obtain rfl : v17 = .agg #[.int .i8 a.f, .int .u16 a.g0, .int .u16 a.g1, .int .u16 a.g2, .int .u16 a.g3, .int .u16 a.g4, .int .u16 a.g5, .int .u16 a.g6, .int .u16 a.g7, .int .i64 a.p] := p17
            obtain ⟨qa18, qc18, rfl, hQ18⟩ := p18
            obtain ⟨qa19, qc19, rfl, hQ19⟩ := p19
            obtain rfl : v20 = .agg #[.int .i8 b.f, .int .u16 b.g0, .int .u16 b.g1, .int .u16 b.g2, .int .u16 b.g3, .int .u16 b.g4, .int .u16 b.g5, .int .u16 b.g6, .int .u16 b.g7, .int .i64 b.p] := p20
            obtain ⟨qa21, qc21, rfl, hQ21⟩ := p21
            obtain ⟨qa22, qc22, rfl, hQ22⟩ := p22
            obtain rfl : v23 = .slice a5 M.length c5 := p23
            obtain rfl : v24 = .bool true := p24
            obtain rfl : v25 = .bool true := p25
            obtain rfl : v26 = .bool true := p26
            obtain rfl : v27 = .bool true := p27
            obtain rfl : v28 = .bool true := p28
            obtain rfl : v29 = .bool true := p29
            have ha := ByOps.act_eq [(132, .slice (some ⟨b1, o1, none⟩) L1.length qc12), (133, .agg #[.int .i8 b.f, .int .u16 b.g0, .int .u16 b.g1, .int .u16 b.g2, .int .u16 b.g3, .int .u16 b.g4, .int .u16 b.g5, .int .u16 b.g6, .int .u16 b.g7, .int .i64 b.p]), (134, .agg #[.int .i8 a.f, .int .u16 a.g0, .int .u16 a.g1, .int .u16 a.g2, .int .u16 a.g3, .int .u16 a.g4, .int .u16 a.g5, .int .u16 a.g6, .int .u16 a.g7, .int .i64 a.p]), (135, .slice qa3 ([b, a] : List Ad).length qc3), (136, .slice qa4 (M : List Sc).length qc4), (137, .slice a5 M.length c5), (138, .bool true), (139, .bool true), (140, .slice a5 M.length c5), (141, .slice (some ⟨b1, o1, none⟩) L1.length qc12), (142, .int .i64 (L1.length : Int)), (143, .int .i64 (G : Int)), (144, .slice (some ⟨b1, o1, none⟩) G qc12), (145, .bool true), (146, .bool true), (147, .bool true), (148, .slice s l.length c), (149, .agg #[.int .i8 a.f, .int .u16 a.g0, .int .u16 a.g1, .int .u16 a.g2, .int .u16 a.g3, .int .u16 a.g4, .int .u16 a.g5, .int .u16 a.g6, .int .u16 a.g7, .int .i64 a.p]), (150, .slice qa18 ([a] : List Ad).length qc18), (151, .slice qa19 (healS l [a] : List Sc).length qc19), (152, .agg #[.int .i8 b.f, .int .u16 b.g0, .int .u16 b.g1, .int .u16 b.g2, .int .u16 b.g3, .int .u16 b.g4, .int .u16 b.g5, .int .u16 b.g6, .int .u16 b.g7, .int .i64 b.p]), (153, .slice qa21 ([b] : List Ad).length qc21), (154, .slice qa22 (M : List Sc).length qc22), (155, .slice a5 M.length c5), (156, .bool true), (157, .bool true), (158, .bool true), (159, .bool true), (160, .bool true), (8, .bool true)] a9 _ hd9 hs9 (fun t ht => ho9 t (ByOps.outer_of (ts := [132, 133, 134, 135, 136, 137, 138, 139, 140, 141, 142, 143, 144, 145, 146, 147, 148, 149, 150, 151, 152, 153, 154, 155, 156, 157, 158, 159, 160, 8]) rfl ht)) (by intro p hp; simp only [List.mem_cons, List.not_mem_nil, or_false] at hp; rcases hp with rfl | rfl | rfl | rfl | rfl | rfl | rfl | rfl | rfl | rfl | rfl | rfl | rfl | rfl | rfl | rfl | rfl | rfl | rfl | rfl | rfl | rfl | rfl | rfl | rfl | rfl | rfl | rfl | rfl | rfl <;> assumption)
            rw [ha]
            clear ha hn9 ho9 hs9 hd9 e0 e1 e2 e3 e4 e5 e6 e7 e8 e9 e10 e11 e12 e13 e14 e15 e16 e17 e18 e19 e20 e21 e22 e23 e24 e25 e26 e27 e28 e29
            simp only [List.foldl, Act.put, List.setIfInBounds_toArray, List.set_cons_zero, List.set_cons_succ]
            have hb9 : Below w1.heap.size w1 w9 := ⟨hB9.os, hB9.tape, hB9.output, hB9.size, hB9.block⟩
            clear hB9
            have hbf := HB.out.trans (hb9.mono HB.out.size)
            go_wp2_with fail
            go_ret
            exact ⟨rfl, hbf⟩
end Go.Proofs.Ytipbkhbdnjhofaa
