/- Lookups of one name are answered, in whatever order, by the plan's answers in the order in which they were begun. -/
import Derived.Test.YtciohjgcndgiaaaGreatDoorWakes
import Derived.Test.YtciohjgcndgiaaaGreatDoorSpecsA
import Derived.Test.YtciohjgcndgiaaaGreatDoorGreat
set_option linter.unusedSimpArgs false
set_option linter.unusedVariables false
namespace Go.Proofs.YtciohjgcndgiaaaGreatDoor
open Go.RowKit Go.Proofs.YtciohjgcndgiaaaGreatDoor.Kind

/-- A plan's answers, and their rows' texts: the document's own answers. -/
def RefAnswerSpec : Prop := ∀ (P : Pl) (v : Pv) (s : ByteArray) (n : Int) (w : World) (l : List Ad) (r : Int), Mem P → PlanC w v P → l = answerP P s n → r = answerE P s n →
  Calls Tryz.prog 10 #[v.val P, .string s, .int .i64 n] w fun e w' => ∃ a c, e = .returned (.tuple #[.slice a l.length c, .int .i64 r]) ∧ AK.RowC w' a c l ∧ Below w.heap.size w w'
def RefRowSpec (X : Texts) : Prop := ∀ (l : List Ad) (a : Option Addr) (c : Nat) (w : World), l.length ≤ 64 → (∀ x ∈ l, okA x) → AK.RowC w a c l →
  Calls Tryz.prog 11 #[.slice a l.length c] w fun e w' => ∃ z, e = .returned (.tuple #[.string (X.txt l), .int .i64 z]) ∧ Below w.heap.size w w'
def ansOk (R : Rules) : Prop := ∀ z, R.zok z = true → ∀ l ∈ z.ans, l.length ≤ 64
theorem ans_few {R : Rules} (hR : ansOk R) {P : Pl} (h : checkB R P = true) (s : ByteArray) (n : Int) : (answerP P s n).length ≤ 64 := by
  unfold answerP
  cases hz : zoneOf P s with
  | none => simp
  | some z =>
    dsimp only
    have hzk : R.zok z = true := by
      unfold checkB at h
      simp only [Bool.and_eq_true, List.all_eq_true] at h
      exact h.1.1.1.1.1.1.1.2 z (List.mem_of_find?_eq_some hz)
    cases hx : z.ans[nthI n z.ans.length]? with
    | none => simp
    | some l => exact hR z hzk l (List.mem_of_getElem? hx)
theorem ans_okA {P : Pl} (h : Fits P) (s : ByteArray) (n : Int) : ∀ x ∈ answerP P s n, okA x := by
  unfold answerP
  cases hz : zoneOf P s with
  | none => intro x hx; simp at hx
  | some z =>
    dsimp only
    cases hx : z.ans[nthI n z.ans.length]? with
    | none => intro x hx; simp at hx
    | some l => exact (h z (List.mem_of_find?_eq_some hz) l (List.mem_of_getElem? hx)).2
/-- The place that the statement reckons. -/
theorem place (x : Int) (n : Nat) (hn : 0 < n) (h40 : n ≤ 40) : ∃ k : Nat, k < n ∧ IntKind.i64.wrap (x.tmod n + n) = x.tmod n + n ∧ (x.tmod n + n).tmod n = (k : Int) := by
  have h1 : x.tmod n < n := Int.tmod_lt_of_pos x (by omega)
  have h2 : -(n : Int) < x.tmod n := Int.lt_tmod_of_pos x (by omega)
  refine ⟨((x.tmod n + n).tmod n).toNat, ?_, by rw [IntKind.wrap_i64]; omega, ?_⟩
  · have h3 : (x.tmod n + n).tmod n < n := Int.tmod_lt_of_pos _ (by omega)
    omega
  · have h4 : 0 ≤ (x.tmod n + n).tmod n := Int.tmod_nonneg _ (by omega)
    omega
set_option maxHeartbeats 40000000 in
set_option maxRecDepth 1000000 in
theorem worldanswers_walk (R : Rules) (X : Texts) (hOk : ansOk R) (HNew : NewSpec R) (HAsk : AskSpec) (HAsked : AskedSpec) (HAnswer : AnswerWSpec R X) (HRA : RefAnswerSpec) (HRR : RefRowSpec X) (HWk : WakesSpec) (P : Pl) (pv : Pv) (s : ByteArray) (L : List Int) (al : Option Addr) (cl : Nat) (w : World) (hEnv : X.env w) (hM : Mem P) (hP : PlanC w pv P) (hL : IK.RowC w al cl L) :
    Calls Tryz.prog 3 #[pv.val P, .string s, .slice al L.length cl] w fun e w' => e = .returned (.bool true) ∧ Below w.heap.size w w' := by
  have HWk := Lib.hid (fun w => HWk w)
  have HPL := Lib.hid (fun (W : World) (h : Below w.heap.size w W) => hP.below h)
  have HCL := Lib.hid (fun (W : World) (h : Below w.heap.size w W) => hL.below h)
  have hLm : L.length ≤ 9223372036854775807 := row_max hL
  have HGp := Lib.hid (fun w h => great_any pv P w h)
  have HN0 := Lib.hid (fun N w A r hN hp h1 h2 => HNew N P pv w A r hN hM hp h1 h2)
  have HAk := Lib.hid (fun N A v y w B r hN hR hs hf hB hr => HAsk N A v y s w B r hN hR hs hf hB hr)
  have HAd := Lib.hid (fun A v y w r hR h hr => HAsked A v y w r hR h hr)
  have HAn := Lib.hid (fun N A v y w B m r hN hR he hfi hc hf h1 h2 h3 => HAnswer N A v y w B m r hN hR he hfi hc hf h1 h2 h3)
  have HRA := Lib.hid (fun n w l r hp h1 h2 => HRA P pv s n w l r hM hp h1 h2)
  have HRR := Lib.hid (fun l a c w h1 h2 h3 => HRR l a c w h1 h2 h3)
  have HOk := Lib.hid hOk
  have HEn := Lib.hid (fun (W : World) (h : Below w.heap.size w W) => X.keep hEnv h)
  have HFt := Lib.hid hM.fits
  have HMm := Lib.hid hM
  have HXn := Lib.hid X.nil
  clear HNew HAsk HAsked HAnswer hP hL hM hOk hEnv
  simp only [Pv.val] at HGp HN0 HRA ⊢
  go_enter Tryz.func3, Tryz.ntmps3
  have HB := Lib.hid (Below.refl w.heap.size w)
  go_upto_region 1 with fail
  obtain ⟨bx3, hdx3⟩ : ∃ b, b = w.heap.size := ⟨_, rfl⟩
  have hgex3 : w.heap.size ≤ bx3 := by rw [hdx3]; exact HB.out.size
  obtain ⟨W1, hW1⟩ : ∃ X, X = w.alloc (.cells #[.slice pv.za P.zones.length pv.zc, .slice pv.fa P.fates.length pv.fc, .int .i64 P.ticks, .slice pv.da P.drops.length pv.dc] 26) := ⟨_, rfl⟩
  have hlx3 := laid1 w (.cells #[.slice pv.za P.zones.length pv.zc, .slice pv.fa P.fates.length pv.fc, .int .i64 P.ticks, .slice pv.da P.drops.length pv.dc] 26)
  have hbx3 := below1 w (.cells #[.slice pv.za P.zones.length pv.zc, .slice pv.fa P.fates.length pv.fc, .int .i64 P.ticks, .slice pv.da P.drops.length pv.dc] 26)
  rw [← hW1] at hlx3 hbx3 ⊢
  clear hW1
  replace HB := Lib.hid (HB.out.trans (hbx3.mono HB.out.size))
  rw [← hdx3] at hlx3 ⊢
  replace Hx3 := Lib.hid hlx3
  clear hlx3 hbx3 hdx3
  by_cases hck : checkB R P = true
  · obtain ⟨h1, h2⟩ := new_yes hck
    obtain ⟨⟨x3_c0, x3_c1, x3_c2, x3_c3⟩, x3_f0, x3_f1, x3_f2, x3_f3⟩ := box4 Hx3.out
    have HX := Lib.hid (HN0.out (fun b => b ∈ ([] : List Nat)) W1 _ _ (by intro b hb; simp only [List.mem_cons, List.not_mem_nil, or_false] at hb <;> omega) (HPL.out W1 HB.out) h1 h2)
    try simp only [Wv.val, Wv.cells] at HX
    go_wp2_with fail
    with_reducible refine HX.out.mono ?_
    rintro e wA ⟨⟨p1, a11, c11, a12, c12, a13, c13, a14, c14⟩, rfl, hfl, hb⟩
    clear h1 h2
    clear x3_c0 x3_c1 x3_c2 x3_c3 x3_f0 x3_f1 x3_f2 x3_f3
    replace Hx3 := Lib.hid ((hb.block _ (lt_of_block Hx3.out)).trans Hx3.out)
    replace HB := Lib.hid (HB.out.trans (hb.mono HB.out.size))
    replace Hf7 := Lib.hid hfl
    clear hb hfl HX
    simp only [Wv.val, Wv.cells, Lt.v]
    obtain ⟨⟨x3_c0, x3_c1, x3_c2, x3_c3⟩, x3_f0, x3_f1, x3_f2, x3_f3⟩ := box4 Hx3.out
    go_upto_region 2 with fail
    have HI0 := Lib.hid (ask_new P s)
    generalize Wo.new P = A0 at *
    clear x3_c0 x3_c1 x3_c2 x3_c3 x3_f0 x3_f1 x3_f2 x3_f3
    obtain ⟨bx7, hdx7⟩ : ∃ b, b = wA.heap.size := ⟨_, rfl⟩
    have hgex7 : w.heap.size ≤ bx7 := by rw [hdx7]; exact HB.out.size
    have hltx3x7 : bx3 < bx7 := by rw [hdx7]; exact lt_of_block Hx3.out
    obtain ⟨W2, hW2⟩ : ∃ X, X = wA.alloc (.cells #[.slice p1.za A0.plan.zones.length p1.zc, .slice p1.fa A0.plan.fates.length p1.fc, .int .i64 A0.plan.ticks, .slice p1.da A0.plan.drops.length p1.dc, .int .i64 A0.clock, .slice a11 A0.socks.length c11, .slice a12 A0.dials.length c12, .slice a13 A0.looks.length c13, .int .i64 A0.dropped, .slice a14 A0.marks.length c14] 32) := ⟨_, rfl⟩
    have hlx7 := laid1 wA (.cells #[.slice p1.za A0.plan.zones.length p1.zc, .slice p1.fa A0.plan.fates.length p1.fc, .int .i64 A0.plan.ticks, .slice p1.da A0.plan.drops.length p1.dc, .int .i64 A0.clock, .slice a11 A0.socks.length c11, .slice a12 A0.dials.length c12, .slice a13 A0.looks.length c13, .int .i64 A0.dropped, .slice a14 A0.marks.length c14] 32)
    have hbx7 := below1 wA (.cells #[.slice p1.za A0.plan.zones.length p1.zc, .slice p1.fa A0.plan.fates.length p1.fc, .int .i64 A0.plan.ticks, .slice p1.da A0.plan.drops.length p1.dc, .int .i64 A0.clock, .slice a11 A0.socks.length c11, .slice a12 A0.dials.length c12, .slice a13 A0.looks.length c13, .int .i64 A0.dropped, .slice a14 A0.marks.length c14] 32)
    rw [← hW2] at hlx7 hbx7 ⊢
    clear hW2
    replace Hf7 := Lib.hid (Hf7.out.more (M := (fun b => b ∈ ([bx7] : List Nat))) (by intro b hb; simp only [List.mem_cons, List.not_mem_nil, or_false] at hb ⊢ <;> (first | omega | (right; omega))))
    replace Hx3 := Lib.hid ((hbx7.block _ (lt_of_block Hx3.out)).trans Hx3.out)
    replace Hf7 := Lib.hid (Hf7.out.below hbx7)
    replace HB := Lib.hid (HB.out.trans (hbx7.mono HB.out.size))
    rw [← hdx7] at hlx7 ⊢
    replace Hx7 := Lib.hid hlx7
    clear hlx7 hbx7 hdx7
    obtain ⟨⟨x3_c0, x3_c1, x3_c2, x3_c3⟩, x3_f0, x3_f1, x3_f2, x3_f3⟩ := box4 Hx3.out
    have HX := Lib.hid (HGp.out W2 (HPL.out W2 HB.out))
    try simp only [Wv.val, Wv.cells] at HX
    go_wp2_with fail
    with_reducible refine HX.out.mono ?_
    rintro e wB ⟨⟨rp, rfl, hfew⟩, hb⟩
    have HFE := Lib.hid hfew
    clear hfew HX
    clear x3_c0 x3_c1 x3_c2 x3_c3 x3_f0 x3_f1 x3_f2 x3_f3
    replace Hx3 := Lib.hid ((hb.block _ (lt_of_block Hx3.out)).trans Hx3.out)
    replace Hx7 := Lib.hid ((hb.block _ (lt_of_block Hx7.out)).trans Hx7.out)
    replace Hf7 := Lib.hid (Hf7.out.below hb)
    replace HB := Lib.hid (HB.out.trans (hb.mono HB.out.size))
    clear hb
    cases rp with
    | true =>
      go_wp2_with fail
      with_reducible refine (HWk.out _).mono ?_
      rintro e wf ⟨rfl, hb⟩
      have HBf := Lib.hid (HB.out.trans (hb.mono HB.out.size))
      clear hb
      go_wp2_with fail
      go_ret
      exact ⟨rfl, HBf.out⟩
    | false =>
      have HFew := Lib.hid (HFE.out (by trivial))
      have HCk := Lib.hid (check_few hck)
      have HCB := Lib.hid hck
      clear HFE hck
      by_cases h40 : (40 : Int) < (L.length : Int)
      · go_wp2_with fail
        with_reducible refine (HWk.out _).mono ?_
        rintro e wf ⟨rfl, hb⟩
        have HBf := Lib.hid (HB.out.trans (hb.mono HB.out.size))
        clear hb
        go_wp2_with fail
        go_ret
        exact ⟨rfl, HBf.out⟩
      · by_cases h200 : (200 : Int) < (s.size : Int)
        · go_wp2_with fail
          with_reducible refine (HWk.out _).mono ?_
          rintro e wf ⟨rfl, hb⟩
          have HBf := Lib.hid (HB.out.trans (hb.mono HB.out.size))
          clear hb
          go_wp2_with fail
          go_ret
          exact ⟨rfl, HBf.out⟩
        · go_wp2_with fail
          go_loopw [9] (fun u9 wr => ∃ (i : Nat) (A : Wo) (p0 : Pv) (a1 : Option Addr) (c1 : Nat) (a2 : Option Addr) (c2 : Nat) (a3 : Option Addr) (c3 : Nat) (a4 : Option Addr) (c4 : Nat), u9 = .int .i64 i ∧ i ≤ L.length ∧ Hid (AskInv P s A i) ∧ Hid (FlatN (fun b => b ∈ ([bx7] : List Nat)) wr ⟨p0, a1, c1, a2, c2, a3, c3, a4, c4⟩ A) ∧ Hid (wr.heap[bx7]? = some (.cells #[.slice p0.za A.plan.zones.length p0.zc, .slice p0.fa A.plan.fates.length p0.fc, .int .i64 A.plan.ticks, .slice p0.da A.plan.drops.length p0.dc, .int .i64 A.clock, .slice a1 A.socks.length c1, .slice a2 A.dials.length c2, .slice a3 A.looks.length c3, .int .i64 A.dropped, .slice a4 A.marks.length c4] 32 (0, 0))) ∧ Hid (wr.heap[bx3]? = some (.cells #[.slice pv.za P.zones.length pv.zc, .slice pv.fa P.fates.length pv.fc, .int .i64 P.ticks, .slice pv.da P.drops.length pv.dc] 26 (0, 0))) ∧ Hid (Below w.heap.size w wr)) (fun u _ => L.length - (intOf u).toNat)
          case atStart => exact ⟨0, A0, p1, a11, c11, a12, c12, a13, c13, a14, c14, rfl, by omega, HI0, Hf7, Hx7, Hx3, HB⟩
          case round =>
            obtain ⟨i, A, p0, a1, c1, a2, c2, a3, c3, a4, c4, rfl, hi, HI, Hf7, Hx7, Hx3, HB⟩ := hrel
            have HPA := Lib.hid HI.out.plan
            have HRm := Lib.hid (HI.out.room (by omega) HFew.out HCk.out.2.2.1.2 HMm.out)
            by_cases hlt : i < L.length
            · have hki : (i : Int) < (L.length : Int) := by omega
              have hkw : IntKind.i64.wrap ((i : Int) + 1) = (i : Int) + 1 := by rw [IntKind.wrap_i64]; omega
              have hyw : IntKind.i64.wrap (100 + (i : Int)) = 100 + (i : Int) := by rw [IntKind.wrap_i64]; omega
              obtain ⟨B, hB⟩ : ∃ X, X = askP A (100 + (i : Int)) s := ⟨_, rfl⟩
              obtain ⟨hn, hnk⟩ := HI.out.asked (y := 100 + (i : Int)) rfl
              rw [← hB] at hn hnk
              have HI2 := Lib.hid hn
              have HNK := Lib.hid hnk.symm
              have hE := (HI.out.askE (y := 100 + (i : Int)) rfl).symm
              clear hn hnk
              obtain ⟨⟨x7_c0, x7_c1, x7_c2, x7_c3, x7_c4, x7_c5, x7_c6, x7_c7, x7_c8, x7_c9⟩, x7_f0, x7_f1, x7_f2, x7_f3, x7_f4, x7_f5, x7_f6, x7_f7, x7_f8, x7_f9⟩ := boxes10 Hx7.out
              have HX := Lib.hid (HAk.out (fun b => b ∈ ([bx7] : List Nat)) A ⟨p0, a1, c1, a2, c2, a3, c3, a4, c4⟩ (100 + (i : Int)) wr B 0 (by have := lt_of_block Hx7.out; intro b hb; simp only [List.mem_cons, List.not_mem_nil, or_false] at hb <;> omega) HRm.out (by omega) Hf7.out hB hE)
              try simp only [Wv.val, Wv.cells] at HX
              clear hB hE
              go_wp2_with fail
              with_reducible refine HX.out.mono ?_
              rintro e wC ⟨⟨pd, ad1, cd1, ad2, cd2, ad3, cd3, ad4, cd4⟩, rfl, hfl, hb⟩
              clear x7_c0 x7_c1 x7_c2 x7_c3 x7_c4 x7_c5 x7_c6 x7_c7 x7_c8 x7_c9 x7_f0 x7_f1 x7_f2 x7_f3 x7_f4 x7_f5 x7_f6 x7_f7 x7_f8 x7_f9
              replace Hx3 := Lib.hid ((hb.block _ (lt_of_block Hx3.out)).trans Hx3.out)
              replace Hx7 := Lib.hid ((hb.block _ (lt_of_block Hx7.out)).trans Hx7.out)
              replace Hf7 := Lib.hid (Hf7.out.below hb)
              replace HB := Lib.hid (HB.out.trans (hb.mono HB.out.size))
              replace Hf10 := Lib.hid hfl
              clear hb hfl HX
              simp only [Wv.val, Wv.cells, Lt.v]
              obtain ⟨⟨x7_c0, x7_c1, x7_c2, x7_c3, x7_c4, x7_c5, x7_c6, x7_c7, x7_c8, x7_c9⟩, x7_f0, x7_f1, x7_f2, x7_f3, x7_f4, x7_f5, x7_f6, x7_f7, x7_f8, x7_f9⟩ := boxes10 Hx7.out
              go_upto_region 8 with fail
              clear x7_c0 x7_c1 x7_c2 x7_c3 x7_c4 x7_c5 x7_c6 x7_c7 x7_c8 x7_c9 x7_f0 x7_f1 x7_f2 x7_f3 x7_f4 x7_f5 x7_f6 x7_f7 x7_f8 x7_f9
              obtain ⟨bx10, hdx10⟩ : ∃ b, b = wC.heap.size := ⟨_, rfl⟩
              have hgex10 : w.heap.size ≤ bx10 := by rw [hdx10]; exact HB.out.size
              have hltx3x10 : bx3 < bx10 := by rw [hdx10]; exact lt_of_block Hx3.out
              have hltx7x10 : bx7 < bx10 := by rw [hdx10]; exact lt_of_block Hx7.out
              obtain ⟨W3, hW3⟩ : ∃ X, X = wC.alloc (.cells #[.slice pd.za B.plan.zones.length pd.zc, .slice pd.fa B.plan.fates.length pd.fc, .int .i64 B.plan.ticks, .slice pd.da B.plan.drops.length pd.dc, .int .i64 B.clock, .slice ad1 B.socks.length cd1, .slice ad2 B.dials.length cd2, .slice ad3 B.looks.length cd3, .int .i64 B.dropped, .slice ad4 B.marks.length cd4] 32) := ⟨_, rfl⟩
              have hlx10 := laid1 wC (.cells #[.slice pd.za B.plan.zones.length pd.zc, .slice pd.fa B.plan.fates.length pd.fc, .int .i64 B.plan.ticks, .slice pd.da B.plan.drops.length pd.dc, .int .i64 B.clock, .slice ad1 B.socks.length cd1, .slice ad2 B.dials.length cd2, .slice ad3 B.looks.length cd3, .int .i64 B.dropped, .slice ad4 B.marks.length cd4] 32)
              have hbx10 := below1 wC (.cells #[.slice pd.za B.plan.zones.length pd.zc, .slice pd.fa B.plan.fates.length pd.fc, .int .i64 B.plan.ticks, .slice pd.da B.plan.drops.length pd.dc, .int .i64 B.clock, .slice ad1 B.socks.length cd1, .slice ad2 B.dials.length cd2, .slice ad3 B.looks.length cd3, .int .i64 B.dropped, .slice ad4 B.marks.length cd4] 32)
              rw [← hW3] at hlx10 hbx10 ⊢
              clear hW3
              replace Hf7 := Lib.hid (Hf7.out.more (M := (fun b => b ∈ ([bx7, bx10] : List Nat))) (by intro b hb; simp only [List.mem_cons, List.not_mem_nil, or_false] at hb ⊢ <;> (first | omega | (right; omega))))
              replace Hf10 := Lib.hid (Hf10.out.more (M := (fun b => b ∈ ([bx7, bx10] : List Nat))) (by intro b hb; simp only [List.mem_cons, List.not_mem_nil, or_false] at hb ⊢ <;> (first | omega | (right; omega))))
              replace Hx3 := Lib.hid ((hbx10.block _ (lt_of_block Hx3.out)).trans Hx3.out)
              replace Hx7 := Lib.hid ((hbx10.block _ (lt_of_block Hx7.out)).trans Hx7.out)
              replace Hf7 := Lib.hid (Hf7.out.below hbx10)
              replace Hf10 := Lib.hid (Hf10.out.below hbx10)
              replace HB := Lib.hid (HB.out.trans (hbx10.mono HB.out.size))
              rw [← hdx10] at hlx10 ⊢
              replace Hx10 := Lib.hid hlx10
              clear hlx10 hbx10 hdx10
              have HPB := Lib.hid HI2.out.plan
              have HX := Lib.hid (HAd.out B ⟨pd, ad1, cd1, ad2, cd2, ad3, cd3, ad4, cd4⟩ (100 + (i : Int)) W3 true (HI2.out.room (by omega) HFew.out HCk.out.2.2.1.2 HMm.out) Hf10.out.world HNK.out)
              simp only [Wv.val, Wv.cells] at HX
              obtain ⟨⟨x10_c0, x10_c1, x10_c2, x10_c3, x10_c4, x10_c5, x10_c6, x10_c7, x10_c8, x10_c9⟩, x10_f0, x10_f1, x10_f2, x10_f3, x10_f4, x10_f5, x10_f6, x10_f7, x10_f8, x10_f9⟩ := boxes10 Hx10.out
              go_wp2_with fail
              with_reducible refine HX.out.mono ?_
              rintro e wD ⟨rfl, hb⟩
              clear x10_c0 x10_c1 x10_c2 x10_c3 x10_c4 x10_c5 x10_c6 x10_c7 x10_c8 x10_c9 x10_f0 x10_f1 x10_f2 x10_f3 x10_f4 x10_f5 x10_f6 x10_f7 x10_f8 x10_f9
              replace Hx3 := Lib.hid ((hb.block _ (lt_of_block Hx3.out)).trans Hx3.out)
              replace Hx7 := Lib.hid ((hb.block _ (lt_of_block Hx7.out)).trans Hx7.out)
              replace Hx10 := Lib.hid ((hb.block _ (lt_of_block Hx10.out)).trans Hx10.out)
              replace Hf7 := Lib.hid (Hf7.out.below hb)
              replace Hf10 := Lib.hid (Hf10.out.below hb)
              replace HB := Lib.hid (HB.out.trans (hb.mono HB.out.size))
              clear hb HX
              obtain ⟨⟨x7_c0, x7_c1, x7_c2, x7_c3, x7_c4, x7_c5, x7_c6, x7_c7, x7_c8, x7_c9⟩, x7_f0, x7_f1, x7_f2, x7_f3, x7_f4, x7_f5, x7_f6, x7_f7, x7_f8, x7_f9⟩ := boxes10 Hx7.out
              obtain ⟨⟨x10_c0, x10_c1, x10_c2, x10_c3, x10_c4, x10_c5, x10_c6, x10_c7, x10_c8, x10_c9⟩, x10_f0, x10_f1, x10_f2, x10_f3, x10_f4, x10_f5, x10_f6, x10_f7, x10_f8, x10_f9⟩ := boxes10 Hx10.out
              go_upto_region 6 with fail
              clear x7_c0 x7_c1 x7_c2 x7_c3 x7_c4 x7_c5 x7_c6 x7_c7 x7_c8 x7_c9 x7_f0 x7_f1 x7_f2 x7_f3 x7_f4 x7_f5 x7_f6 x7_f7 x7_f8 x7_f9 x10_c0 x10_c1 x10_c2 x10_c3 x10_c4 x10_c5 x10_c6 x10_c7 x10_c8 x10_c9 x10_f0 x10_f1 x10_f2 x10_f3 x10_f4 x10_f5 x10_f6 x10_f7 x10_f8 x10_f9
              obtain ⟨W4, hW4⟩ : ∃ X, X = set10 wD bx7 (.slice pd.za B.plan.zones.length pd.zc) (.slice pd.fa B.plan.fates.length pd.fc) (.int .i64 B.plan.ticks) (.slice pd.da B.plan.drops.length pd.dc) (.int .i64 B.clock) (.slice ad1 B.socks.length cd1) (.slice ad2 B.dials.length cd2) (.slice ad3 B.looks.length cd3) (.int .i64 B.dropped) (.slice ad4 B.marks.length cd4) := ⟨_, rfl⟩
              have hqx7 := set10_at Hx7.out (.slice pd.za B.plan.zones.length pd.zc) (.slice pd.fa B.plan.fates.length pd.fc) (.int .i64 B.plan.ticks) (.slice pd.da B.plan.drops.length pd.dc) (.int .i64 B.clock) (.slice ad1 B.socks.length cd1) (.slice ad2 B.dials.length cd2) (.slice ad3 B.looks.length cd3) (.int .i64 B.dropped) (.slice ad4 B.marks.length cd4)
              have hb := set10_below HB.out hgex7 (.slice pd.za B.plan.zones.length pd.zc) (.slice pd.fa B.plan.fates.length pd.fc) (.int .i64 B.plan.ticks) (.slice pd.da B.plan.drops.length pd.dc) (.int .i64 B.clock) (.slice ad1 B.socks.length cd1) (.slice ad2 B.dials.length cd2) (.slice ad3 B.looks.length cd3) (.int .i64 B.dropped) (.slice ad4 B.marks.length cd4)
              have hqx3 := (set10_other wD bx7 bx3 (.slice pd.za B.plan.zones.length pd.zc) (.slice pd.fa B.plan.fates.length pd.fc) (.int .i64 B.plan.ticks) (.slice pd.da B.plan.drops.length pd.dc) (.int .i64 B.clock) (.slice ad1 B.socks.length cd1) (.slice ad2 B.dials.length cd2) (.slice ad3 B.looks.length cd3) (.int .i64 B.dropped) (.slice ad4 B.marks.length cd4) (by omega)).trans Hx3.out
              have hqx10 := (set10_other wD bx7 bx10 (.slice pd.za B.plan.zones.length pd.zc) (.slice pd.fa B.plan.fates.length pd.fc) (.int .i64 B.plan.ticks) (.slice pd.da B.plan.drops.length pd.dc) (.int .i64 B.clock) (.slice ad1 B.socks.length cd1) (.slice ad2 B.dials.length cd2) (.slice ad3 B.looks.length cd3) (.int .i64 B.dropped) (.slice ad4 B.marks.length cd4) (by omega)).trans Hx10.out
              have hqf7 := set10_flat (b := bx7) Hf7.out (by simp) (.slice pd.za B.plan.zones.length pd.zc) (.slice pd.fa B.plan.fates.length pd.fc) (.int .i64 B.plan.ticks) (.slice pd.da B.plan.drops.length pd.dc) (.int .i64 B.clock) (.slice ad1 B.socks.length cd1) (.slice ad2 B.dials.length cd2) (.slice ad3 B.looks.length cd3) (.int .i64 B.dropped) (.slice ad4 B.marks.length cd4)
              have hqf10 := set10_flat (b := bx7) Hf10.out (by simp) (.slice pd.za B.plan.zones.length pd.zc) (.slice pd.fa B.plan.fates.length pd.fc) (.int .i64 B.plan.ticks) (.slice pd.da B.plan.drops.length pd.dc) (.int .i64 B.clock) (.slice ad1 B.socks.length cd1) (.slice ad2 B.dials.length cd2) (.slice ad3 B.looks.length cd3) (.int .i64 B.dropped) (.slice ad4 B.marks.length cd4)
              rw [← hW4] at hqx7 hb hqx3 hqx10 hqf7 hqf10
              unfold set10 at hW4
              rw [← hW4]
              clear hW4
              replace HB := Lib.hid hb
              replace Hx3 := Lib.hid hqx3
              replace Hx7 := Lib.hid hqx7
              replace Hx10 := Lib.hid hqx10
              replace Hf7 := Lib.hid hqf7
              replace Hf10 := Lib.hid hqf10
              clear hqx7 hb hqx3 hqx10 hqf7 hqf10
              have Hrow := Lib.hid (Hf10.out.more (M := (fun b => b ∈ ([bx7] : List Nat))) (by intro b hb; simp only [List.mem_cons, List.not_mem_nil, or_false] at hb ⊢ <;> (first | omega | (right; omega))))
              go_wp2_with fail
              go_roundw
              case rel => exact ⟨i + 1, B, pd, ad1, cd1, ad2, cd2, ad3, cd3, ad4, cd4, by go_num, by omega, HI2, Hrow, Hx7, Hx3, HB⟩
              case measure => simp [intOf]; omega
            · obtain rfl : i = L.length := by omega
              go_wp2_with fail
              go_loopw [12] (fun u12 wr => ∃ (j : Nat) (A : Wo) (q0 : Pv) (e1 : Option Addr) (g1 : Nat) (e2 : Option Addr) (g2 : Nat) (e3 : Option Addr) (g3 : Nat) (e4 : Option Addr) (g4 : Nat), u12 = .int .i64 j ∧ j ≤ L.length ∧ Hid (AskInv P s A L.length) ∧ Hid (FlatN (fun b => b ∈ ([bx7] : List Nat)) wr ⟨q0, e1, g1, e2, g2, e3, g3, e4, g4⟩ A) ∧ Hid (wr.heap[bx7]? = some (.cells #[.slice q0.za A.plan.zones.length q0.zc, .slice q0.fa A.plan.fates.length q0.fc, .int .i64 A.plan.ticks, .slice q0.da A.plan.drops.length q0.dc, .int .i64 A.clock, .slice e1 A.socks.length g1, .slice e2 A.dials.length g2, .slice e3 A.looks.length g3, .int .i64 A.dropped, .slice e4 A.marks.length g4] 32 (0, 0))) ∧ Hid (wr.heap[bx3]? = some (.cells #[.slice pv.za P.zones.length pv.zc, .slice pv.fa P.fates.length pv.fc, .int .i64 P.ticks, .slice pv.da P.drops.length pv.dc] 26 (0, 0))) ∧ Hid (Below w.heap.size w wr)) (fun u _ => L.length - (intOf u).toNat)
              case atStart => exact ⟨0, A, p0, a1, c1, a2, c2, a3, c3, a4, c4, rfl, by omega, HI, Hf7, Hx7, Hx3, HB⟩
              case round =>
                clear HI Hf7 Hx7 Hx3 HB HPA HRm
                obtain ⟨j, A, q0, e1, g1, e2, g2, e3, g3, e4, g4, rfl, hj, HI, Hf7, Hx7, Hx3, HB⟩ := hrel
                have HPA := Lib.hid HI.out.plan
                have HRm := Lib.hid (HI.out.room (by omega) HFew.out HCk.out.2.2.1.2 HMm.out)
                by_cases hlt : j < L.length
                · have hki : (j : Int) < (L.length : Int) := by omega
                  have hkw : IntKind.i64.wrap ((j : Int) + 1) = (j : Int) + 1 := by rw [IntKind.wrap_i64]; omega
                  obtain ⟨bc, oc, rfl, hbc, hatc⟩ := (HCL.out wr HB.out).2.2.2 (by omega)
                  obtain ⟨x, hx⟩ : ∃ x, L[j]? = some x := ⟨_, List.getElem?_eq_getElem hlt⟩
                  have k0 := IK.one hatc hx
                  clear hatc hx hbc
                  obtain ⟨nn, hnn⟩ : ∃ n, n = L.length := ⟨_, rfl⟩
                  obtain ⟨k, hk, hw1, hw2⟩ := place x L.length (by omega) (by omega)
                  have hn0 : ¬ (L.length : Int) = 0 := by omega
                  have hnb : ((L.length : Int) == 0) = false := by simp only [beq_eq_false_iff_ne, ne_eq]; omega
                  clear hnn
                  have hyw : IntKind.i64.wrap (100 + (k : Int)) = 100 + (k : Int) := by rw [IntKind.wrap_i64]; omega
                  obtain ⟨ov, hlk⟩ := HI.out.get hk (y := 100 + (k : Int)) rfl
                  have hasked := asked_over hlk
                  have HLK := Lib.hid hlk
                  have HAS := Lib.hid hasked.symm
                  clear hlk hasked
                  go_upto_region 15 with fail
                  clear k0 hw1 hw2 hnb hn0
                  obtain ⟨⟨x7_c0, x7_c1, x7_c2, x7_c3, x7_c4, x7_c5, x7_c6, x7_c7, x7_c8, x7_c9⟩, x7_f0, x7_f1, x7_f2, x7_f3, x7_f4, x7_f5, x7_f6, x7_f7, x7_f8, x7_f9⟩ := boxes10 Hx7.out
                  have HX := Lib.hid (HAd.out A ⟨q0, e1, g1, e2, g2, e3, g3, e4, g4⟩ (100 + (k : Int)) wr (!ov) HRm.out Hf7.out.world HAS.out)
                  try simp only [Wv.val, Wv.cells] at HX
                  go_wp2_with fail
                  with_reducible refine HX.out.mono ?_
                  rintro e wE ⟨rfl, hb⟩
                  clear x7_c0 x7_c1 x7_c2 x7_c3 x7_c4 x7_c5 x7_c6 x7_c7 x7_c8 x7_c9 x7_f0 x7_f1 x7_f2 x7_f3 x7_f4 x7_f5 x7_f6 x7_f7 x7_f8 x7_f9
                  replace Hx3 := Lib.hid ((hb.block _ (lt_of_block Hx3.out)).trans Hx3.out)
                  replace Hx7 := Lib.hid ((hb.block _ (lt_of_block Hx7.out)).trans Hx7.out)
                  replace Hf7 := Lib.hid (Hf7.out.below hb)
                  replace HB := Lib.hid (HB.out.trans (hb.mono HB.out.size))
                  clear hb HX
                  cases ov with
                  | true =>
                    have hB := (answer_over HLK.out).symm
                    have hr : (101 : Int) = ansE A (100 + (k : Int)) := by unfold ansE; rw [← HAS.out]; rfl
                    obtain ⟨⟨x7_c0, x7_c1, x7_c2, x7_c3, x7_c4, x7_c5, x7_c6, x7_c7, x7_c8, x7_c9⟩, x7_f0, x7_f1, x7_f2, x7_f3, x7_f4, x7_f5, x7_f6, x7_f7, x7_f8, x7_f9⟩ := boxes10 Hx7.out
                    have HX := Lib.hid (HAn.out (fun b => b ∈ ([bx7] : List Nat)) A ⟨q0, e1, g1, e2, g2, e3, g3, e4, g4⟩ (100 + (k : Int)) wE A (ansM X A (100 + (k : Int))) 101 (by have := lt_of_block Hx7.out; intro b hb; simp only [List.mem_cons, List.not_mem_nil, or_false] at hb <;> omega) HRm.out (HEn.out wE HB.out) (by rw [HPA.out]; exact HFt.out) (by rw [HPA.out]; exact HCB.out) Hf7.out hB rfl hr)
                    try simp only [Wv.val, Wv.cells] at HX
                    clear hB hr
                    go_wp2_with fail
                    with_reducible refine HX.out.mono ?_
                    rintro e wF ⟨⟨pq, aq1, cq1, aq2, cq2, aq3, cq3, aq4, cq4⟩, rfl, hfl, hb⟩
                    clear x7_c0 x7_c1 x7_c2 x7_c3 x7_c4 x7_c5 x7_c6 x7_c7 x7_c8 x7_c9 x7_f0 x7_f1 x7_f2 x7_f3 x7_f4 x7_f5 x7_f6 x7_f7 x7_f8 x7_f9
                    replace Hx3 := Lib.hid ((hb.block _ (lt_of_block Hx3.out)).trans Hx3.out)
                    replace Hx7 := Lib.hid ((hb.block _ (lt_of_block Hx7.out)).trans Hx7.out)
                    replace Hf7 := Lib.hid (Hf7.out.below hb)
                    replace HB := Lib.hid (HB.out.trans (hb.mono HB.out.size))
                    replace Hf15 := Lib.hid hfl
                    clear hb hfl HX
                    simp only [Wv.val, Wv.cells, Lt.v]
                    generalize ansM X A (100 + (k : Int)) = M at *
                    obtain ⟨⟨x7_c0, x7_c1, x7_c2, x7_c3, x7_c4, x7_c5, x7_c6, x7_c7, x7_c8, x7_c9⟩, x7_f0, x7_f1, x7_f2, x7_f3, x7_f4, x7_f5, x7_f6, x7_f7, x7_f8, x7_f9⟩ := boxes10 Hx7.out
                    go_upto_region 17 with fail
                    clear x7_c0 x7_c1 x7_c2 x7_c3 x7_c4 x7_c5 x7_c6 x7_c7 x7_c8 x7_c9 x7_f0 x7_f1 x7_f2 x7_f3 x7_f4 x7_f5 x7_f6 x7_f7 x7_f8 x7_f9
                    obtain ⟨bx15, hdx15⟩ : ∃ b, b = wF.heap.size := ⟨_, rfl⟩
                    have hgex15 : w.heap.size ≤ bx15 := by rw [hdx15]; exact HB.out.size
                    have hl2 := laid2 wF (.cells #[.slice pq.za A.plan.zones.length pq.zc, .slice pq.fa A.plan.fates.length pq.fc, .int .i64 A.plan.ticks, .slice pq.da A.plan.drops.length pq.dc, .int .i64 A.clock, .slice aq1 A.socks.length cq1, .slice aq2 A.dials.length cq2, .slice aq3 A.looks.length cq3, .int .i64 A.dropped, .slice aq4 A.marks.length cq4] 32) (.cells #[.int .i8 M.kind, .int .i64 M.fr, .int .i64 M.num, .int .i64 M.sock, .string M.text, .int .i64 M.e] 42)
                    have hb2 := below2 wF (.cells #[.slice pq.za A.plan.zones.length pq.zc, .slice pq.fa A.plan.fates.length pq.fc, .int .i64 A.plan.ticks, .slice pq.da A.plan.drops.length pq.dc, .int .i64 A.clock, .slice aq1 A.socks.length cq1, .slice aq2 A.dials.length cq2, .slice aq3 A.looks.length cq3, .int .i64 A.dropped, .slice aq4 A.marks.length cq4] 32) (.cells #[.int .i8 M.kind, .int .i64 M.fr, .int .i64 M.num, .int .i64 M.sock, .string M.text, .int .i64 M.e] 42)
                    obtain ⟨W3, hW3⟩ : ∃ X, X = (wF.alloc (.cells #[.slice pq.za A.plan.zones.length pq.zc, .slice pq.fa A.plan.fates.length pq.fc, .int .i64 A.plan.ticks, .slice pq.da A.plan.drops.length pq.dc, .int .i64 A.clock, .slice aq1 A.socks.length cq1, .slice aq2 A.dials.length cq2, .slice aq3 A.looks.length cq3, .int .i64 A.dropped, .slice aq4 A.marks.length cq4] 32)).alloc (.cells #[.int .i8 M.kind, .int .i64 M.fr, .int .i64 M.num, .int .i64 M.sock, .string M.text, .int .i64 M.e] 42) := ⟨_, rfl⟩
                    rw [← hW3] at hl2 hb2 ⊢
                    clear hW3
                    rw [← hdx15] at hl2 ⊢
                    obtain ⟨bx16, hdx16⟩ : ∃ b, b = bx15 + 1 := ⟨_, rfl⟩
                    rw [← hdx16] at hl2 ⊢
                    have hgex16 : w.heap.size ≤ bx16 := by omega
                    have hltx15x16 : bx15 < bx16 := by omega
                    have hltx3x15 : bx3 < bx15 := by have := lt_of_block Hx3.out; omega
                    have hltx3x16 : bx3 < bx16 := by have := lt_of_block Hx3.out; omega
                    have hltx7x15 : bx7 < bx15 := by have := lt_of_block Hx7.out; omega
                    have hltx7x16 : bx7 < bx16 := by have := lt_of_block Hx7.out; omega
                    replace Hf7 := Lib.hid (Hf7.out.more (M := (fun b => b ∈ ([bx7, bx15, bx16] : List Nat))) (by intro b hb; simp only [List.mem_cons, List.not_mem_nil, or_false] at hb ⊢ <;> (first | omega | (right; omega))))
                    replace Hf15 := Lib.hid (Hf15.out.more (M := (fun b => b ∈ ([bx7, bx15, bx16] : List Nat))) (by intro b hb; simp only [List.mem_cons, List.not_mem_nil, or_false] at hb ⊢ <;> (first | omega | (right; omega))))
                    replace Hx3 := Lib.hid ((hb2.block _ (lt_of_block Hx3.out)).trans Hx3.out)
                    replace Hx7 := Lib.hid ((hb2.block _ (lt_of_block Hx7.out)).trans Hx7.out)
                    replace Hf7 := Lib.hid (Hf7.out.below hb2)
                    replace Hf15 := Lib.hid (Hf15.out.below hb2)
                    replace HB := Lib.hid (HB.out.trans (hb2.mono HB.out.size))
                    replace Hx15 := Lib.hid hl2.1
                    replace Hx16 := Lib.hid hl2.2
                    clear hl2 hb2 hdx15 hdx16
                    have Hrow := Lib.hid (Hf7.out.more (M := (fun b => b ∈ ([bx7] : List Nat))) (by intro b hb; simp only [List.mem_cons, List.not_mem_nil, or_false] at hb ⊢ <;> (first | omega | (right; omega))))
                    go_wp2_with fail
                    go_roundw
                    case rel => exact ⟨j + 1, A, q0, e1, g1, e2, g2, e3, g3, e4, g4, by go_num, by omega, HI, Hrow, Hx7, Hx3, HB⟩
                    case measure => simp [intOf]; omega
                  | false =>
                    obtain ⟨B, hB⟩ : ∃ Y, Y = answerW A (100 + (k : Int)) := ⟨_, rfl⟩
                    obtain ⟨hi2, has2⟩ := HI.out.answer hk rfl HLK.out
                    rw [← hB] at hi2 has2
                    have HI2 := Lib.hid hi2
                    have HAS2 := Lib.hid has2.symm
                    clear hi2 has2
                    have HPB := Lib.hid HI2.out.plan
                    obtain ⟨M, hM⟩ : ∃ Y, Y = ansM X A (100 + (k : Int)) := ⟨_, rfl⟩
                    have hMv : M = if (answerP P s k).length = 0 then (⟨7, 0, 0, 0, { data := #[] }, 110⟩ : Lt) else ⟨7, 0, 0, 0, X.txt (answerP P s k), 0⟩ := by rw [hM, ansM_at HLK.out, HPA.out]
                    have hr : (0 : Int) = ansE A (100 + (k : Int)) := by unfold ansE; rw [← HAS.out]; rfl
                    obtain ⟨⟨x7_c0, x7_c1, x7_c2, x7_c3, x7_c4, x7_c5, x7_c6, x7_c7, x7_c8, x7_c9⟩, x7_f0, x7_f1, x7_f2, x7_f3, x7_f4, x7_f5, x7_f6, x7_f7, x7_f8, x7_f9⟩ := boxes10 Hx7.out
                    have HX := Lib.hid (HAn.out (fun b => b ∈ ([bx7] : List Nat)) A ⟨q0, e1, g1, e2, g2, e3, g3, e4, g4⟩ (100 + (k : Int)) wE B M 0 (by have := lt_of_block Hx7.out; intro b hb; simp only [List.mem_cons, List.not_mem_nil, or_false] at hb <;> omega) HRm.out (HEn.out wE HB.out) (by rw [HPA.out]; exact HFt.out) (by rw [HPA.out]; exact HCB.out) Hf7.out hB hM hr)
                    try simp only [Wv.val, Wv.cells] at HX
                    have HMv := Lib.hid hMv
                    clear hB hM hr hMv
                    go_wp2_with fail
                    with_reducible refine HX.out.mono ?_
                    rintro e wF ⟨⟨pq, aq1, cq1, aq2, cq2, aq3, cq3, aq4, cq4⟩, rfl, hfl, hb⟩
                    clear x7_c0 x7_c1 x7_c2 x7_c3 x7_c4 x7_c5 x7_c6 x7_c7 x7_c8 x7_c9 x7_f0 x7_f1 x7_f2 x7_f3 x7_f4 x7_f5 x7_f6 x7_f7 x7_f8 x7_f9
                    replace Hx3 := Lib.hid ((hb.block _ (lt_of_block Hx3.out)).trans Hx3.out)
                    replace Hx7 := Lib.hid ((hb.block _ (lt_of_block Hx7.out)).trans Hx7.out)
                    replace Hf7 := Lib.hid (Hf7.out.below hb)
                    replace HB := Lib.hid (HB.out.trans (hb.mono HB.out.size))
                    replace Hf15 := Lib.hid hfl
                    clear hb hfl HX
                    simp only [Wv.val, Wv.cells, Lt.v]
                    obtain ⟨⟨x7_c0, x7_c1, x7_c2, x7_c3, x7_c4, x7_c5, x7_c6, x7_c7, x7_c8, x7_c9⟩, x7_f0, x7_f1, x7_f2, x7_f3, x7_f4, x7_f5, x7_f6, x7_f7, x7_f8, x7_f9⟩ := boxes10 Hx7.out
                    go_upto_region 17 with fail
                    clear x7_c0 x7_c1 x7_c2 x7_c3 x7_c4 x7_c5 x7_c6 x7_c7 x7_c8 x7_c9 x7_f0 x7_f1 x7_f2 x7_f3 x7_f4 x7_f5 x7_f6 x7_f7 x7_f8 x7_f9
                    obtain ⟨bx15, hdx15⟩ : ∃ b, b = wF.heap.size := ⟨_, rfl⟩
                    have hgex15 : w.heap.size ≤ bx15 := by rw [hdx15]; exact HB.out.size
                    have hl2 := laid2 wF (.cells #[.slice pq.za B.plan.zones.length pq.zc, .slice pq.fa B.plan.fates.length pq.fc, .int .i64 B.plan.ticks, .slice pq.da B.plan.drops.length pq.dc, .int .i64 B.clock, .slice aq1 B.socks.length cq1, .slice aq2 B.dials.length cq2, .slice aq3 B.looks.length cq3, .int .i64 B.dropped, .slice aq4 B.marks.length cq4] 32) (.cells #[.int .i8 M.kind, .int .i64 M.fr, .int .i64 M.num, .int .i64 M.sock, .string M.text, .int .i64 M.e] 42)
                    have hb2 := below2 wF (.cells #[.slice pq.za B.plan.zones.length pq.zc, .slice pq.fa B.plan.fates.length pq.fc, .int .i64 B.plan.ticks, .slice pq.da B.plan.drops.length pq.dc, .int .i64 B.clock, .slice aq1 B.socks.length cq1, .slice aq2 B.dials.length cq2, .slice aq3 B.looks.length cq3, .int .i64 B.dropped, .slice aq4 B.marks.length cq4] 32) (.cells #[.int .i8 M.kind, .int .i64 M.fr, .int .i64 M.num, .int .i64 M.sock, .string M.text, .int .i64 M.e] 42)
                    obtain ⟨W3, hW3⟩ : ∃ X, X = (wF.alloc (.cells #[.slice pq.za B.plan.zones.length pq.zc, .slice pq.fa B.plan.fates.length pq.fc, .int .i64 B.plan.ticks, .slice pq.da B.plan.drops.length pq.dc, .int .i64 B.clock, .slice aq1 B.socks.length cq1, .slice aq2 B.dials.length cq2, .slice aq3 B.looks.length cq3, .int .i64 B.dropped, .slice aq4 B.marks.length cq4] 32)).alloc (.cells #[.int .i8 M.kind, .int .i64 M.fr, .int .i64 M.num, .int .i64 M.sock, .string M.text, .int .i64 M.e] 42) := ⟨_, rfl⟩
                    rw [← hW3] at hl2 hb2 ⊢
                    clear hW3
                    rw [← hdx15] at hl2 ⊢
                    obtain ⟨bx16, hdx16⟩ : ∃ b, b = bx15 + 1 := ⟨_, rfl⟩
                    rw [← hdx16] at hl2 ⊢
                    have hgex16 : w.heap.size ≤ bx16 := by omega
                    have hltx15x16 : bx15 < bx16 := by omega
                    have hltx3x15 : bx3 < bx15 := by have := lt_of_block Hx3.out; omega
                    have hltx3x16 : bx3 < bx16 := by have := lt_of_block Hx3.out; omega
                    have hltx7x15 : bx7 < bx15 := by have := lt_of_block Hx7.out; omega
                    have hltx7x16 : bx7 < bx16 := by have := lt_of_block Hx7.out; omega
                    replace Hf7 := Lib.hid (Hf7.out.more (M := (fun b => b ∈ ([bx7, bx15, bx16] : List Nat))) (by intro b hb; simp only [List.mem_cons, List.not_mem_nil, or_false] at hb ⊢ <;> (first | omega | (right; omega))))
                    replace Hf15 := Lib.hid (Hf15.out.more (M := (fun b => b ∈ ([bx7, bx15, bx16] : List Nat))) (by intro b hb; simp only [List.mem_cons, List.not_mem_nil, or_false] at hb ⊢ <;> (first | omega | (right; omega))))
                    replace Hx3 := Lib.hid ((hb2.block _ (lt_of_block Hx3.out)).trans Hx3.out)
                    replace Hx7 := Lib.hid ((hb2.block _ (lt_of_block Hx7.out)).trans Hx7.out)
                    replace Hf7 := Lib.hid (Hf7.out.below hb2)
                    replace Hf15 := Lib.hid (Hf15.out.below hb2)
                    replace HB := Lib.hid (HB.out.trans (hb2.mono HB.out.size))
                    replace Hx15 := Lib.hid hl2.1
                    replace Hx16 := Lib.hid hl2.2
                    clear hl2 hb2 hdx15 hdx16
                    obtain ⟨al2, hal2⟩ : ∃ l, l = answerP P s k := ⟨_, rfl⟩
                    obtain ⟨rr, hrr⟩ : ∃ r, r = answerE P s k := ⟨_, rfl⟩
                    have HL64 := Lib.hid (show al2.length ≤ 64 from by rw [hal2]; exact ans_few HOk.out HCB.out s k)
                    have HOA := Lib.hid (show ∀ x ∈ al2, okA x from by rw [hal2]; exact ans_okA HFt.out s k)
                    have HRE := Lib.hid (show rr = if al2.length = 0 then 110 else 0 from by rw [hrr, hal2]; rfl)
                    have HMv2 := Lib.hid (show M = if al2.length = 0 then (⟨7, 0, 0, 0, { data := #[] }, 110⟩ : Lt) else ⟨7, 0, 0, 0, X.txt al2, 0⟩ from by rw [HMv.out, hal2])
                    obtain ⟨⟨x3_c0, x3_c1, x3_c2, x3_c3⟩, x3_f0, x3_f1, x3_f2, x3_f3⟩ := box4 Hx3.out
                    have HX := Lib.hid (HRA.out k W3 al2 rr (HPL.out W3 HB.out) hal2 hrr)
                    try simp only [Wv.val, Wv.cells] at HX
                    clear hal2 hrr HMv
                    go_wp2_with fail
                    with_reducible refine HX.out.mono ?_
                    rintro e wG ⟨ra, rc, rfl, hRow, hb⟩
                    have HRow := Lib.hid hRow
                    clear x3_c0 x3_c1 x3_c2 x3_c3 x3_f0 x3_f1 x3_f2 x3_f3
                    replace Hx3 := Lib.hid ((hb.block _ (lt_of_block Hx3.out)).trans Hx3.out)
                    replace Hx7 := Lib.hid ((hb.block _ (lt_of_block Hx7.out)).trans Hx7.out)
                    replace Hx15 := Lib.hid ((hb.block _ (lt_of_block Hx15.out)).trans Hx15.out)
                    replace Hx16 := Lib.hid ((hb.block _ (lt_of_block Hx16.out)).trans Hx16.out)
                    replace Hf7 := Lib.hid (Hf7.out.below hb)
                    replace Hf15 := Lib.hid (Hf15.out.below hb)
                    replace HB := Lib.hid (HB.out.trans (hb.mono HB.out.size))
                    clear hb HX hRow
                    have HX := Lib.hid (HRR.out al2 ra rc wG HL64.out HOA.out HRow.out)
                    try simp only [Wv.val, Wv.cells] at HX
                    go_wp2_with fail
                    with_reducible refine HX.out.mono ?_
                    rintro e wH ⟨zz, rfl, hb⟩
                    replace Hx3 := Lib.hid ((hb.block _ (lt_of_block Hx3.out)).trans Hx3.out)
                    replace Hx7 := Lib.hid ((hb.block _ (lt_of_block Hx7.out)).trans Hx7.out)
                    replace Hx15 := Lib.hid ((hb.block _ (lt_of_block Hx15.out)).trans Hx15.out)
                    replace Hx16 := Lib.hid ((hb.block _ (lt_of_block Hx16.out)).trans Hx16.out)
                    replace Hf7 := Lib.hid (Hf7.out.below hb)
                    replace Hf15 := Lib.hid (Hf15.out.below hb)
                    replace HB := Lib.hid (HB.out.trans (hb.mono HB.out.size))
                    clear hb HX HRow
                    have HX := Lib.hid (HAd.out B ⟨pq, aq1, cq1, aq2, cq2, aq3, cq3, aq4, cq4⟩ (100 + (k : Int)) wH false (HI2.out.room (by omega) HFew.out HCk.out.2.2.1.2 HMm.out) Hf15.out.world HAS2.out)
                    simp only [Wv.val, Wv.cells] at HX
                    have hMk : M.kind = 7 := by rw [HMv2.out]; split <;> rfl
                    have hMt : M.text = X.txt al2 := by
                      rw [HMv2.out]
                      split
                      · rename_i h0; rw [List.eq_nil_of_length_eq_zero h0]; exact HXn.out.symm
                      · rfl
                    by_cases h0 : al2.length = 0
                    · have hMe : M.e = 110 := by rw [HMv2.out, if_pos h0]
                      obtain rfl : rr = 110 := by rw [HRE.out, if_pos h0]
                      clear h0
                      obtain ⟨⟨x15_c0, x15_c1, x15_c2, x15_c3, x15_c4, x15_c5, x15_c6, x15_c7, x15_c8, x15_c9⟩, x15_f0, x15_f1, x15_f2, x15_f3, x15_f4, x15_f5, x15_f6, x15_f7, x15_f8, x15_f9⟩ := boxes10 Hx15.out
                      obtain ⟨⟨x16_c0, x16_c1, x16_c2, x16_c3, x16_c4, x16_c5⟩, x16_f0, x16_f1, x16_f2, x16_f3, x16_f4, x16_f5⟩ := boxes6 Hx16.out
                      go_wp2_with fail
                      with_reducible refine HX.out.mono ?_
                      rintro e wI ⟨rfl, hb⟩
                      clear x15_c0 x15_c1 x15_c2 x15_c3 x15_c4 x15_c5 x15_c6 x15_c7 x15_c8 x15_c9 x15_f0 x15_f1 x15_f2 x15_f3 x15_f4 x15_f5 x15_f6 x15_f7 x15_f8 x15_f9 x16_c0 x16_c1 x16_c2 x16_c3 x16_c4 x16_c5 x16_f0 x16_f1 x16_f2 x16_f3 x16_f4 x16_f5
                      replace Hx3 := Lib.hid ((hb.block _ (lt_of_block Hx3.out)).trans Hx3.out)
                      replace Hx7 := Lib.hid ((hb.block _ (lt_of_block Hx7.out)).trans Hx7.out)
                      replace Hx15 := Lib.hid ((hb.block _ (lt_of_block Hx15.out)).trans Hx15.out)
                      replace Hx16 := Lib.hid ((hb.block _ (lt_of_block Hx16.out)).trans Hx16.out)
                      replace Hf7 := Lib.hid (Hf7.out.below hb)
                      replace Hf15 := Lib.hid (Hf15.out.below hb)
                      replace HB := Lib.hid (HB.out.trans (hb.mono HB.out.size))
                      clear hb HX hMk hMt hMe
                      obtain ⟨⟨x7_c0, x7_c1, x7_c2, x7_c3, x7_c4, x7_c5, x7_c6, x7_c7, x7_c8, x7_c9⟩, x7_f0, x7_f1, x7_f2, x7_f3, x7_f4, x7_f5, x7_f6, x7_f7, x7_f8, x7_f9⟩ := boxes10 Hx7.out
                      obtain ⟨⟨x15_c0, x15_c1, x15_c2, x15_c3, x15_c4, x15_c5, x15_c6, x15_c7, x15_c8, x15_c9⟩, x15_f0, x15_f1, x15_f2, x15_f3, x15_f4, x15_f5, x15_f6, x15_f7, x15_f8, x15_f9⟩ := boxes10 Hx15.out
                      go_upto_region 13 with fail
                      clear x7_c0 x7_c1 x7_c2 x7_c3 x7_c4 x7_c5 x7_c6 x7_c7 x7_c8 x7_c9 x7_f0 x7_f1 x7_f2 x7_f3 x7_f4 x7_f5 x7_f6 x7_f7 x7_f8 x7_f9 x15_c0 x15_c1 x15_c2 x15_c3 x15_c4 x15_c5 x15_c6 x15_c7 x15_c8 x15_c9 x15_f0 x15_f1 x15_f2 x15_f3 x15_f4 x15_f5 x15_f6 x15_f7 x15_f8 x15_f9
                      obtain ⟨W4, hW4⟩ : ∃ X, X = set10 wI bx7 (.slice pq.za B.plan.zones.length pq.zc) (.slice pq.fa B.plan.fates.length pq.fc) (.int .i64 B.plan.ticks) (.slice pq.da B.plan.drops.length pq.dc) (.int .i64 B.clock) (.slice aq1 B.socks.length cq1) (.slice aq2 B.dials.length cq2) (.slice aq3 B.looks.length cq3) (.int .i64 B.dropped) (.slice aq4 B.marks.length cq4) := ⟨_, rfl⟩
                      have hqx7 := set10_at Hx7.out (.slice pq.za B.plan.zones.length pq.zc) (.slice pq.fa B.plan.fates.length pq.fc) (.int .i64 B.plan.ticks) (.slice pq.da B.plan.drops.length pq.dc) (.int .i64 B.clock) (.slice aq1 B.socks.length cq1) (.slice aq2 B.dials.length cq2) (.slice aq3 B.looks.length cq3) (.int .i64 B.dropped) (.slice aq4 B.marks.length cq4)
                      have hb := set10_below HB.out hgex7 (.slice pq.za B.plan.zones.length pq.zc) (.slice pq.fa B.plan.fates.length pq.fc) (.int .i64 B.plan.ticks) (.slice pq.da B.plan.drops.length pq.dc) (.int .i64 B.clock) (.slice aq1 B.socks.length cq1) (.slice aq2 B.dials.length cq2) (.slice aq3 B.looks.length cq3) (.int .i64 B.dropped) (.slice aq4 B.marks.length cq4)
                      have hqx3 := (set10_other wI bx7 bx3 (.slice pq.za B.plan.zones.length pq.zc) (.slice pq.fa B.plan.fates.length pq.fc) (.int .i64 B.plan.ticks) (.slice pq.da B.plan.drops.length pq.dc) (.int .i64 B.clock) (.slice aq1 B.socks.length cq1) (.slice aq2 B.dials.length cq2) (.slice aq3 B.looks.length cq3) (.int .i64 B.dropped) (.slice aq4 B.marks.length cq4) (by omega)).trans Hx3.out
                      have hqx15 := (set10_other wI bx7 bx15 (.slice pq.za B.plan.zones.length pq.zc) (.slice pq.fa B.plan.fates.length pq.fc) (.int .i64 B.plan.ticks) (.slice pq.da B.plan.drops.length pq.dc) (.int .i64 B.clock) (.slice aq1 B.socks.length cq1) (.slice aq2 B.dials.length cq2) (.slice aq3 B.looks.length cq3) (.int .i64 B.dropped) (.slice aq4 B.marks.length cq4) (by omega)).trans Hx15.out
                      have hqx16 := (set10_other wI bx7 bx16 (.slice pq.za B.plan.zones.length pq.zc) (.slice pq.fa B.plan.fates.length pq.fc) (.int .i64 B.plan.ticks) (.slice pq.da B.plan.drops.length pq.dc) (.int .i64 B.clock) (.slice aq1 B.socks.length cq1) (.slice aq2 B.dials.length cq2) (.slice aq3 B.looks.length cq3) (.int .i64 B.dropped) (.slice aq4 B.marks.length cq4) (by omega)).trans Hx16.out
                      have hqf7 := set10_flat (b := bx7) Hf7.out (by simp) (.slice pq.za B.plan.zones.length pq.zc) (.slice pq.fa B.plan.fates.length pq.fc) (.int .i64 B.plan.ticks) (.slice pq.da B.plan.drops.length pq.dc) (.int .i64 B.clock) (.slice aq1 B.socks.length cq1) (.slice aq2 B.dials.length cq2) (.slice aq3 B.looks.length cq3) (.int .i64 B.dropped) (.slice aq4 B.marks.length cq4)
                      have hqf15 := set10_flat (b := bx7) Hf15.out (by simp) (.slice pq.za B.plan.zones.length pq.zc) (.slice pq.fa B.plan.fates.length pq.fc) (.int .i64 B.plan.ticks) (.slice pq.da B.plan.drops.length pq.dc) (.int .i64 B.clock) (.slice aq1 B.socks.length cq1) (.slice aq2 B.dials.length cq2) (.slice aq3 B.looks.length cq3) (.int .i64 B.dropped) (.slice aq4 B.marks.length cq4)
                      rw [← hW4] at hqx7 hb hqx3 hqx15 hqx16 hqf7 hqf15
                      unfold set10 at hW4
                      rw [← hW4]
                      clear hW4
                      replace HB := Lib.hid hb
                      replace Hx3 := Lib.hid hqx3
                      replace Hx7 := Lib.hid hqx7
                      replace Hx15 := Lib.hid hqx15
                      replace Hx16 := Lib.hid hqx16
                      replace Hf7 := Lib.hid hqf7
                      replace Hf15 := Lib.hid hqf15
                      clear hqx7 hb hqx3 hqx15 hqx16 hqf7 hqf15
                      have Hrow := Lib.hid (Hf15.out.more (M := (fun b => b ∈ ([bx7] : List Nat))) (by intro b hb; simp only [List.mem_cons, List.not_mem_nil, or_false] at hb ⊢ <;> (first | omega | (right; omega))))
                      go_wp2_with fail
                      go_roundw
                      case rel => exact ⟨j + 1, B, pq, aq1, cq1, aq2, cq2, aq3, cq3, aq4, cq4, by go_num, by omega, HI2, Hrow, Hx7, Hx3, HB⟩
                      case measure => simp [intOf]; omega
                    · have hMe : M.e = 0 := by rw [HMv2.out, if_neg h0]
                      obtain rfl : rr = 0 := by rw [HRE.out, if_neg h0]
                      clear h0
                      obtain ⟨⟨x15_c0, x15_c1, x15_c2, x15_c3, x15_c4, x15_c5, x15_c6, x15_c7, x15_c8, x15_c9⟩, x15_f0, x15_f1, x15_f2, x15_f3, x15_f4, x15_f5, x15_f6, x15_f7, x15_f8, x15_f9⟩ := boxes10 Hx15.out
                      obtain ⟨⟨x16_c0, x16_c1, x16_c2, x16_c3, x16_c4, x16_c5⟩, x16_f0, x16_f1, x16_f2, x16_f3, x16_f4, x16_f5⟩ := boxes6 Hx16.out
                      go_wp2_with fail
                      with_reducible refine HX.out.mono ?_
                      rintro e wI ⟨rfl, hb⟩
                      clear x15_c0 x15_c1 x15_c2 x15_c3 x15_c4 x15_c5 x15_c6 x15_c7 x15_c8 x15_c9 x15_f0 x15_f1 x15_f2 x15_f3 x15_f4 x15_f5 x15_f6 x15_f7 x15_f8 x15_f9 x16_c0 x16_c1 x16_c2 x16_c3 x16_c4 x16_c5 x16_f0 x16_f1 x16_f2 x16_f3 x16_f4 x16_f5
                      replace Hx3 := Lib.hid ((hb.block _ (lt_of_block Hx3.out)).trans Hx3.out)
                      replace Hx7 := Lib.hid ((hb.block _ (lt_of_block Hx7.out)).trans Hx7.out)
                      replace Hx15 := Lib.hid ((hb.block _ (lt_of_block Hx15.out)).trans Hx15.out)
                      replace Hx16 := Lib.hid ((hb.block _ (lt_of_block Hx16.out)).trans Hx16.out)
                      replace Hf7 := Lib.hid (Hf7.out.below hb)
                      replace Hf15 := Lib.hid (Hf15.out.below hb)
                      replace HB := Lib.hid (HB.out.trans (hb.mono HB.out.size))
                      clear hb HX hMk hMt hMe
                      obtain ⟨⟨x7_c0, x7_c1, x7_c2, x7_c3, x7_c4, x7_c5, x7_c6, x7_c7, x7_c8, x7_c9⟩, x7_f0, x7_f1, x7_f2, x7_f3, x7_f4, x7_f5, x7_f6, x7_f7, x7_f8, x7_f9⟩ := boxes10 Hx7.out
                      obtain ⟨⟨x15_c0, x15_c1, x15_c2, x15_c3, x15_c4, x15_c5, x15_c6, x15_c7, x15_c8, x15_c9⟩, x15_f0, x15_f1, x15_f2, x15_f3, x15_f4, x15_f5, x15_f6, x15_f7, x15_f8, x15_f9⟩ := boxes10 Hx15.out
                      go_upto_region 13 with fail
                      clear x7_c0 x7_c1 x7_c2 x7_c3 x7_c4 x7_c5 x7_c6 x7_c7 x7_c8 x7_c9 x7_f0 x7_f1 x7_f2 x7_f3 x7_f4 x7_f5 x7_f6 x7_f7 x7_f8 x7_f9 x15_c0 x15_c1 x15_c2 x15_c3 x15_c4 x15_c5 x15_c6 x15_c7 x15_c8 x15_c9 x15_f0 x15_f1 x15_f2 x15_f3 x15_f4 x15_f5 x15_f6 x15_f7 x15_f8 x15_f9
                      obtain ⟨W4, hW4⟩ : ∃ X, X = set10 wI bx7 (.slice pq.za B.plan.zones.length pq.zc) (.slice pq.fa B.plan.fates.length pq.fc) (.int .i64 B.plan.ticks) (.slice pq.da B.plan.drops.length pq.dc) (.int .i64 B.clock) (.slice aq1 B.socks.length cq1) (.slice aq2 B.dials.length cq2) (.slice aq3 B.looks.length cq3) (.int .i64 B.dropped) (.slice aq4 B.marks.length cq4) := ⟨_, rfl⟩
                      have hqx7 := set10_at Hx7.out (.slice pq.za B.plan.zones.length pq.zc) (.slice pq.fa B.plan.fates.length pq.fc) (.int .i64 B.plan.ticks) (.slice pq.da B.plan.drops.length pq.dc) (.int .i64 B.clock) (.slice aq1 B.socks.length cq1) (.slice aq2 B.dials.length cq2) (.slice aq3 B.looks.length cq3) (.int .i64 B.dropped) (.slice aq4 B.marks.length cq4)
                      have hb := set10_below HB.out hgex7 (.slice pq.za B.plan.zones.length pq.zc) (.slice pq.fa B.plan.fates.length pq.fc) (.int .i64 B.plan.ticks) (.slice pq.da B.plan.drops.length pq.dc) (.int .i64 B.clock) (.slice aq1 B.socks.length cq1) (.slice aq2 B.dials.length cq2) (.slice aq3 B.looks.length cq3) (.int .i64 B.dropped) (.slice aq4 B.marks.length cq4)
                      have hqx3 := (set10_other wI bx7 bx3 (.slice pq.za B.plan.zones.length pq.zc) (.slice pq.fa B.plan.fates.length pq.fc) (.int .i64 B.plan.ticks) (.slice pq.da B.plan.drops.length pq.dc) (.int .i64 B.clock) (.slice aq1 B.socks.length cq1) (.slice aq2 B.dials.length cq2) (.slice aq3 B.looks.length cq3) (.int .i64 B.dropped) (.slice aq4 B.marks.length cq4) (by omega)).trans Hx3.out
                      have hqx15 := (set10_other wI bx7 bx15 (.slice pq.za B.plan.zones.length pq.zc) (.slice pq.fa B.plan.fates.length pq.fc) (.int .i64 B.plan.ticks) (.slice pq.da B.plan.drops.length pq.dc) (.int .i64 B.clock) (.slice aq1 B.socks.length cq1) (.slice aq2 B.dials.length cq2) (.slice aq3 B.looks.length cq3) (.int .i64 B.dropped) (.slice aq4 B.marks.length cq4) (by omega)).trans Hx15.out
                      have hqx16 := (set10_other wI bx7 bx16 (.slice pq.za B.plan.zones.length pq.zc) (.slice pq.fa B.plan.fates.length pq.fc) (.int .i64 B.plan.ticks) (.slice pq.da B.plan.drops.length pq.dc) (.int .i64 B.clock) (.slice aq1 B.socks.length cq1) (.slice aq2 B.dials.length cq2) (.slice aq3 B.looks.length cq3) (.int .i64 B.dropped) (.slice aq4 B.marks.length cq4) (by omega)).trans Hx16.out
                      have hqf7 := set10_flat (b := bx7) Hf7.out (by simp) (.slice pq.za B.plan.zones.length pq.zc) (.slice pq.fa B.plan.fates.length pq.fc) (.int .i64 B.plan.ticks) (.slice pq.da B.plan.drops.length pq.dc) (.int .i64 B.clock) (.slice aq1 B.socks.length cq1) (.slice aq2 B.dials.length cq2) (.slice aq3 B.looks.length cq3) (.int .i64 B.dropped) (.slice aq4 B.marks.length cq4)
                      have hqf15 := set10_flat (b := bx7) Hf15.out (by simp) (.slice pq.za B.plan.zones.length pq.zc) (.slice pq.fa B.plan.fates.length pq.fc) (.int .i64 B.plan.ticks) (.slice pq.da B.plan.drops.length pq.dc) (.int .i64 B.clock) (.slice aq1 B.socks.length cq1) (.slice aq2 B.dials.length cq2) (.slice aq3 B.looks.length cq3) (.int .i64 B.dropped) (.slice aq4 B.marks.length cq4)
                      rw [← hW4] at hqx7 hb hqx3 hqx15 hqx16 hqf7 hqf15
                      unfold set10 at hW4
                      rw [← hW4]
                      clear hW4
                      replace HB := Lib.hid hb
                      replace Hx3 := Lib.hid hqx3
                      replace Hx7 := Lib.hid hqx7
                      replace Hx15 := Lib.hid hqx15
                      replace Hx16 := Lib.hid hqx16
                      replace Hf7 := Lib.hid hqf7
                      replace Hf15 := Lib.hid hqf15
                      clear hqx7 hb hqx3 hqx15 hqx16 hqf7 hqf15
                      have Hrow := Lib.hid (Hf15.out.more (M := (fun b => b ∈ ([bx7] : List Nat))) (by intro b hb; simp only [List.mem_cons, List.not_mem_nil, or_false] at hb ⊢ <;> (first | omega | (right; omega))))
                      go_wp2_with fail
                      go_roundw
                      case rel => exact ⟨j + 1, B, pq, aq1, cq1, aq2, cq2, aq3, cq3, aq4, cq4, by go_num, by omega, HI2, Hrow, Hx7, Hx3, HB⟩
                      case measure => simp [intOf]; omega
                · obtain rfl : j = L.length := by omega
                  have hll : A.looks.length = L.length := HI.out.len
                  have hlb : ((A.looks.length : Int) == (L.length : Int)) = true := by rw [hll]; simp
                  clear hll
                  obtain ⟨⟨x7_c0, x7_c1, x7_c2, x7_c3, x7_c4, x7_c5, x7_c6, x7_c7, x7_c8, x7_c9⟩, x7_f0, x7_f1, x7_f2, x7_f3, x7_f4, x7_f5, x7_f6, x7_f7, x7_f8, x7_f9⟩ := boxes10 Hx7.out
                  go_wp2_with fail
                  with_reducible refine (HWk.out _).mono ?_
                  rintro e wf ⟨rfl, hb⟩
                  have HBf := Lib.hid (HB.out.trans (hb.mono HB.out.size))
                  clear hb
                  clear x7_c0 x7_c1 x7_c2 x7_c3 x7_c4 x7_c5 x7_c6 x7_c7 x7_c8 x7_c9 x7_f0 x7_f1 x7_f2 x7_f3 x7_f4 x7_f5 x7_f6 x7_f7 x7_f8 x7_f9
                  go_wp2_with fail
                  go_ret
                  exact ⟨by first | rfl | simp [hlb], HBf.out⟩
  · obtain ⟨h1, h2⟩ := new_no hck
    obtain ⟨⟨x3_c0, x3_c1, x3_c2, x3_c3⟩, x3_f0, x3_f1, x3_f2, x3_f3⟩ := box4 Hx3.out
    have HX := Lib.hid (HN0.out (fun b => b ∈ ([] : List Nat)) W1 _ _ (by intro b hb; simp only [List.mem_cons, List.not_mem_nil, or_false] at hb <;> omega) (HPL.out W1 HB.out) h1 h2)
    try simp only [Wv.val, Wv.cells] at HX
    go_wp2_with fail
    with_reducible refine HX.out.mono ?_
    rintro e wA ⟨⟨p1, a11, c11, a12, c12, a13, c13, a14, c14⟩, rfl, hfl, hb⟩
    clear h1 h2
    clear x3_c0 x3_c1 x3_c2 x3_c3 x3_f0 x3_f1 x3_f2 x3_f3
    replace Hx3 := Lib.hid ((hb.block _ (lt_of_block Hx3.out)).trans Hx3.out)
    replace HB := Lib.hid (HB.out.trans (hb.mono HB.out.size))
    replace Hf7 := Lib.hid hfl
    clear hb hfl HX
    simp only [Wv.val, Wv.cells, Lt.v]
    obtain ⟨⟨x3_c0, x3_c1, x3_c2, x3_c3⟩, x3_f0, x3_f1, x3_f2, x3_f3⟩ := box4 Hx3.out
    go_upto_region 2 with fail
    clear x3_c0 x3_c1 x3_c2 x3_c3 x3_f0 x3_f1 x3_f2 x3_f3
    obtain ⟨bx7, hdx7⟩ : ∃ b, b = wA.heap.size := ⟨_, rfl⟩
    have hgex7 : w.heap.size ≤ bx7 := by rw [hdx7]; exact HB.out.size
    have hltx3x7 : bx3 < bx7 := by rw [hdx7]; exact lt_of_block Hx3.out
    obtain ⟨W2, hW2⟩ : ∃ X, X = wA.alloc (.cells #[.slice p1.za (Wo.new Pl.zero).plan.zones.length p1.zc, .slice p1.fa (Wo.new Pl.zero).plan.fates.length p1.fc, .int .i64 (Wo.new Pl.zero).plan.ticks, .slice p1.da (Wo.new Pl.zero).plan.drops.length p1.dc, .int .i64 (Wo.new Pl.zero).clock, .slice a11 (Wo.new Pl.zero).socks.length c11, .slice a12 (Wo.new Pl.zero).dials.length c12, .slice a13 (Wo.new Pl.zero).looks.length c13, .int .i64 (Wo.new Pl.zero).dropped, .slice a14 (Wo.new Pl.zero).marks.length c14] 32) := ⟨_, rfl⟩
    have hlx7 := laid1 wA (.cells #[.slice p1.za (Wo.new Pl.zero).plan.zones.length p1.zc, .slice p1.fa (Wo.new Pl.zero).plan.fates.length p1.fc, .int .i64 (Wo.new Pl.zero).plan.ticks, .slice p1.da (Wo.new Pl.zero).plan.drops.length p1.dc, .int .i64 (Wo.new Pl.zero).clock, .slice a11 (Wo.new Pl.zero).socks.length c11, .slice a12 (Wo.new Pl.zero).dials.length c12, .slice a13 (Wo.new Pl.zero).looks.length c13, .int .i64 (Wo.new Pl.zero).dropped, .slice a14 (Wo.new Pl.zero).marks.length c14] 32)
    have hbx7 := below1 wA (.cells #[.slice p1.za (Wo.new Pl.zero).plan.zones.length p1.zc, .slice p1.fa (Wo.new Pl.zero).plan.fates.length p1.fc, .int .i64 (Wo.new Pl.zero).plan.ticks, .slice p1.da (Wo.new Pl.zero).plan.drops.length p1.dc, .int .i64 (Wo.new Pl.zero).clock, .slice a11 (Wo.new Pl.zero).socks.length c11, .slice a12 (Wo.new Pl.zero).dials.length c12, .slice a13 (Wo.new Pl.zero).looks.length c13, .int .i64 (Wo.new Pl.zero).dropped, .slice a14 (Wo.new Pl.zero).marks.length c14] 32)
    rw [← hW2] at hlx7 hbx7 ⊢
    clear hW2
    replace Hf7 := Lib.hid (Hf7.out.more (M := (fun b => b ∈ ([bx7] : List Nat))) (by intro b hb; simp only [List.mem_cons, List.not_mem_nil, or_false] at hb ⊢ <;> (first | omega | (right; omega))))
    replace Hx3 := Lib.hid ((hbx7.block _ (lt_of_block Hx3.out)).trans Hx3.out)
    replace Hf7 := Lib.hid (Hf7.out.below hbx7)
    replace HB := Lib.hid (HB.out.trans (hbx7.mono HB.out.size))
    rw [← hdx7] at hlx7 ⊢
    replace Hx7 := Lib.hid hlx7
    clear hlx7 hbx7 hdx7
    obtain ⟨⟨x3_c0, x3_c1, x3_c2, x3_c3⟩, x3_f0, x3_f1, x3_f2, x3_f3⟩ := box4 Hx3.out
    have HX := Lib.hid (HGp.out W2 (HPL.out W2 HB.out))
    try simp only [Wv.val, Wv.cells] at HX
    go_wp2_with fail
    with_reducible refine HX.out.mono ?_
    rintro e wB ⟨⟨rp, rfl, hfew⟩, hb⟩
    clear hfew HX
    clear x3_c0 x3_c1 x3_c2 x3_c3 x3_f0 x3_f1 x3_f2 x3_f3
    replace Hx3 := Lib.hid ((hb.block _ (lt_of_block Hx3.out)).trans Hx3.out)
    replace Hx7 := Lib.hid ((hb.block _ (lt_of_block Hx7.out)).trans Hx7.out)
    replace Hf7 := Lib.hid (Hf7.out.below hb)
    replace HB := Lib.hid (HB.out.trans (hb.mono HB.out.size))
    clear hb
    cases rp with
    | true =>
      go_wp2_with fail
      with_reducible refine (HWk.out _).mono ?_
      rintro e wf ⟨rfl, hb⟩
      have HBf := Lib.hid (HB.out.trans (hb.mono HB.out.size))
      clear hb
      go_wp2_with fail
      go_ret
      exact ⟨rfl, HBf.out⟩
    | false =>
      go_wp2_with fail
      with_reducible refine (HWk.out _).mono ?_
      rintro e wf ⟨rfl, hb⟩
      have HBf := Lib.hid (HB.out.trans (hb.mono HB.out.size))
      clear hb
      go_wp2_with fail
      go_ret
      exact ⟨rfl, HBf.out⟩
end Go.Proofs.YtciohjgcndgiaaaGreatDoor
