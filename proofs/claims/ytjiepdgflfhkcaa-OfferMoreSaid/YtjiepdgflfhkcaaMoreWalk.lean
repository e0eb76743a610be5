/- OfferMore walked, over the calls' contracts. -/
import Derived.Test.YtjiepdgflfhkcaaMoreLaw
set_option linter.unusedSimpArgs false
set_option linter.unusedVariables false
namespace Go.Proofs.Ytjiepdgflfhkcaa
open Go.RowKit Go.Proofs.Ytjiepdgflfhkcaa.Kind Go.Proofs.Ytjiepdgflfhkcaa.P7

theorem gone_at (gone : Int) (n : Nat) (hn : n ≠ 0) (hn2 : n ≤ 1000) : ∃ G : Nat, G < n ∧ (wrap64 (gone.tmod (n : Int) + (n : Int))).tmod (n : Int) = (G : Int) := by
  have h1 : -(n : Int) < gone.tmod n ∧ gone.tmod n < n := by
    rw [Int.tmod_eq_emod]
    have h2 := Int.emod_nonneg gone (show (n : Int) ≠ 0 by omega)
    have h3 := Int.emod_lt_of_pos gone (show (0 : Int) < n by omega)
    split <;> simp <;> omega
  have h2 : wrap64 (gone.tmod (n : Int) + (n : Int)) = gone.tmod (n : Int) + (n : Int) := by
    unfold wrap64
    omega
  rw [h2, Int.tmod_eq_emod_of_nonneg (by omega)]
  have h3 := Int.emod_nonneg (gone.tmod (n : Int) + (n : Int)) (show (n : Int) ≠ 0 by omega)
  have h4 := Int.emod_lt_of_pos (gone.tmod (n : Int) + (n : Int)) (show (0 : Int) < n by omega)
  exact ⟨((gone.tmod (n : Int) + (n : Int)) % (n : Int)).toNat, by omega, by omega⟩
theorem dst_mine {α : Type} {K : Kind Try.prog α} {w : World} {base : Nat} {a : Option Addr} {n c : Nat} {l : List α} (h : K.MineC w base a c l) : K.RowC w a c l := h.row

set_option maxHeartbeats 16000000 in
set_option maxRecDepth 1000000 in
theorem offermore_walk (HAll : AllSpec) (HIs : IsSpec) (HWk : WakesSpec) (hs : List Hv) (R : List (List Of)) (D : List Dv) (clock later : Int) (dl lk : List Bool) (more : List Of) (gone : Int) (a b e f am : Option Addr) (c d g h cm : Nat) (w : World) (hH : hs.length * 24 ≤ 140737488351232) (hA : RowsC w a c hs R) (hB : DK.RowC w b d D) (hcap : Hid (∀ x ∈ D, x.cap ≤ 9223372036854775807)) (hE : BK.RowC w e g dl) (hF : BK.RowC w f h lk) (hM : OK.RowC w am cm more) (hgo : -9223372036854775808 ≤ gone ∧ gone ≤ 9223372036854775807) :
    Calls Try.prog 4 #[.slice a hs.length c, .slice b D.length d, .int .i64 clock, .int .i64 later, .slice e dl.length g, .slice f lk.length h, .slice am more.length cm, .int .i64 gone] w fun x w' => x = .returned (.bool true) ∧ Below w.heap.size w w' := by
  have HWk := Lib.hid (fun w => HWk w)
  have HA := Lib.hid hA
  have HB := Lib.hid hB
  have HE := Lib.hid hE
  have HF := Lib.hid hF
  have HM := Lib.hid hM
  have HAl := Lib.hid (fun hs R clock A1 C1 w (h1 : R.length ≤ 31) h2 h3 (h4 : (R.map (fun l => l.length)).sum ≤ 100) h5 h6 h7 h8 => HAll hs R D clock dl lk A1 b e f C1 d g h w h1 h2 h3 h4 h5 h6 h7 h8)
  have HIs := Lib.hid (fun m l a c w h1 h2 => HIs m l a c w h1 h2)
  have HGr := Lib.hid (fun A1 C1 w h1 h2 => greato_any (hs ++ [⟨am, more.length, cm⟩]) D A1 b C1 d w h1 h2)
  simp only [List.length_append, List.length_cons, List.length_nil, Nat.zero_add] at HGr
  have HhR := Lib.hid hA.2.1
  have HbE := Lib.hid (below1 w (.cells #[] 31))
  have HOv := Lib.hid (over_append hA.2 hM)
  have HGo := Lib.hid hgo
  clear hA hB hE hF hM HAll hgo
  generalize hgg : greatO (hs ++ [⟨am, more.length, cm⟩]) D = gr at *
  have HGG := Lib.hid hgg
  clear hgg
  go_enter Try.func4, Try.ntmps4
  go_wp2_with (first
    | (at_builtin; refine RK.wpList_append_rows_b rfl _ _ rfl w.heap.size (.slice (some ⟨w.heap.size, 0, none⟩) 0 0) rfl [] (dst_bare _ _ _) a hs.length c rfl hs rfl (HA.out.1.below HbE.out) (by show (([] : List Hv).length + hs.length) * 24 ≤ _; simp; omega) (by simp; unfold maxLen; omega) (by simp) ?_; intro a1 c1 w1 hD1 hM1 hB1; rw [List.nil_append] at hD1 hM1; have HD1 := Lib.hid hD1; have HB1 := Lib.hid (HbE.out.trans (hB1.mono (Nat.le_refl _))); have HS1 := Lib.hid hB1.size; clear hD1 hM1 hB1)
    | (at_builtin; refine RK.wpList_append_rows_b rfl _ _ rfl w.heap.size (.slice a1 hs.length c1) rfl hs (HD1.out.below (below1 w1 _) (Nat.le_refl _)) (some ⟨w1.heap.size, 0, none⟩) 1 1 rfl [⟨am, more.length, cm⟩] rfl (rowC_at (K := RK) w1 31 [⟨am, more.length, cm⟩] #[.slice am more.length cm] w1.heap.size 1 rfl rfl rfl (by simp)) (by show (hs.length + 1) * 24 ≤ _; omega) (by simp; unfold maxLen; omega) (by have := HB1.out.size; simp; omega) ?_; intro a2 c2 w2 hD2 hM2 hB2; have HM2 := Lib.hid hM2.row; have HB2 := Lib.hid ((HB1.out.alloc HB1.out.size _).trans (hB2.mono (Nat.le_refl _))); clear hD2 hM2 hB2))
  with_reducible refine (HGr.out a2 c2 w2 HM2.out (HB.out.below HB2.out)).mono ?_
  rintro x w3 ⟨rfl, hB⟩
  have HB3 := Lib.hid (HB2.out.trans (hB.mono HB2.out.size))
  clear hB HGr HM2 HD1 HS1 HB1
  by_cases hw : gr = true ∨ later < clock ∨ hs.length = 0
  · have hcase : gr = true ∨ (gr = false ∧ later < clock) ∨ (gr = false ∧ ¬ later < clock ∧ hs.length = 0) := by
      cases gr
      · by_cases h2 : later < clock
        · exact .inr (.inl ⟨rfl, h2⟩)
        · exact .inr (.inr ⟨rfl, h2, by rcases hw with h | h | h; cases h; exact absurd h h2; exact h⟩)
      · exact .inl rfl
    clear hw HGG
    rcases hcase with rfl | ⟨rfl, h2⟩ | ⟨rfl, h2, h3⟩
    case' inr.inr => rw [h3] at *
    all_goals
      go_wp2_with fail
      with_reducible refine (HWk.out _).mono ?_
      rintro x w4 ⟨rfl, hB⟩
      have HB4 := Lib.hid (HB3.out.trans (hB.mono HB3.out.size))
      clear hB
      go_wp2_with fail
      go_ret
      exact ⟨rfl, HB4.out⟩
  have hgr : gr = false := by cases gr <;> simp_all
  have h2 : ¬ later < clock := fun h => hw (.inr (.inl h))
  have h3 : hs.length ≠ 0 := fun h => hw (.inr (.inr h))
  subst hgr
  clear hw
  obtain ⟨hR30, hD200, hD100, hS⟩ := greatO_false HOv.out HGG.out
  replace hD100 : ∀ x ∈ D, x.n ≤ 100 ∧ x.cap ≤ 9223372036854775807 := fun x hx => ⟨hD100 x hx, hcap.out x hx⟩
  have hR30' : R.length ≤ 29 := by simp at hR30; omega
  have hS' : (R.map (fun l => l.length)).sum ≤ 100 := by simp at hS; omega
  have hh29 : hs.length ≤ 29 := by have := HhR.out; omega
  have HL2m := Lib.hid (fun m => @ready_more R D clock later dl lk more (by omega) m)
  have HRg := Lib.hid (fun g hg => ready_gone R D clock dl lk g hg)
  have hlen1 := ready_len R D clock dl lk hS' (by omega)
  have hlen2 := ready_len (R ++ [more]) D later dl lk hS (by simp at hR30 ⊢; omega)
  have HA1 := Lib.hid (fun A1 C1 w h5 h6 h7 h8 => HAl.out hs R clock A1 C1 w (by omega) hD200 hD100 hS' h5 h6 h7 h8)
  have HA2 := Lib.hid (fun A1 C1 w h5 h6 h7 h8 => HAl.out (hs ++ [⟨am, more.length, cm⟩]) (R ++ [more]) later A1 C1 w (by omega) hD200 hD100 hS h5 h6 h7 h8)
  have HA3 := Lib.hid (fun (g : Nat) A1 C1 w h5 h6 h7 h8 => HAl.out (hs.set g ⟨none, 0, 0⟩) (R.set g []) clock A1 C1 w (by simp; omega) hD200 hD100 (Nat.le_trans (sum_set R g) hS') h5 h6 h7 h8)
  simp only [List.length_append, List.length_cons, List.length_nil, Nat.zero_add, List.length_set] at HA2 HA3
  clear HAl hS hS' hR30 hD100 HGG
  generalize ready R D clock dl lk = L1 at *
  generalize ready (R ++ [more]) D later dl lk = L2 at *
  have h3i : ¬ (hs.length : Int) = 0 := by omega
  have g2 : decide (later < clock) = false := by simp; omega
  have g3 : ((hs.length : Int) == 0) = false := by rw [beq_eq_false_iff_ne]; omega
  have g3' : (hs.length == 0) = false := by rw [beq_eq_false_iff_ne]; exact h3
  go_wp2_with fail
  with_reducible refine (HA1.out a c w3 (HA.out.below HB3.out) (HB.out.below HB3.out) (HE.out.below HB3.out) (HF.out.below HB3.out)).mono ?_
  rintro x w4 ⟨al, cl, rfl, hL, hB⟩
  have HL4 := Lib.hid hL.row
  have HB4 := Lib.hid (HB3.out.trans (hB.mono HB3.out.size))
  clear hL hB HA1 HB3 HB2
  have HbE4 := Lib.hid (below1 w4 (.cells #[] 31))
  go_wp2_with (first
    | (at_builtin; refine RK.wpList_append_rows_b rfl _ _ rfl w4.heap.size (.slice (some ⟨w4.heap.size, 0, none⟩) 0 0) rfl [] (dst_bare _ _ _) a hs.length c rfl hs rfl (HA.out.1.below (HB4.out.trans (HbE4.out.mono HB4.out.size))) (by show (([] : List Hv).length + hs.length) * 24 ≤ _; simp; omega) (by simp; unfold maxLen; omega) (by simp) ?_; intro a5 c5 w5 hD1 hM1 hB1; rw [List.nil_append] at hD1 hM1; have HD5 := Lib.hid hD1; have HB5 := Lib.hid (HbE4.out.trans (hB1.mono (Nat.le_refl _))); clear hD1 hM1 hB1)
    | (at_builtin; refine RK.wpList_append_rows_b rfl _ _ rfl w4.heap.size (.slice a5 hs.length c5) rfl hs (HD5.out.below (below1 w5 _) (Nat.le_refl _)) (some ⟨w5.heap.size, 0, none⟩) 1 1 rfl [⟨am, more.length, cm⟩] rfl (rowC_at (K := RK) w5 31 [⟨am, more.length, cm⟩] #[.slice am more.length cm] w5.heap.size 1 rfl rfl rfl (by simp)) (by show (hs.length + 1) * 24 ≤ _; omega) (by simp; unfold maxLen; omega) (by have := HB5.out.size; simp; omega) ?_; intro a6 c6 w6 hD2 hM2 hB2; have HM6 := Lib.hid hM2.row; have HB6 := Lib.hid ((HB5.out.alloc HB5.out.size _).trans (hB2.mono (Nat.le_refl _))); clear hD2 hM2 hB2))
  have HB6w := Lib.hid (HB4.out.trans (HB6.out.mono HB4.out.size))
  have HR6 := Lib.hid (show RowsC w6 a6 c6 (hs ++ [⟨am, more.length, cm⟩]) (R ++ [more]) from ⟨HM6.out, HOv.out.below HB6w.out⟩)
  with_reducible refine (HA2.out a6 c6 w6 HR6.out (HB.out.below HB6w.out) (HE.out.below HB6w.out) (HF.out.below HB6w.out)).mono ?_
  rintro x w7 ⟨ak, ck, rfl, hL, hB⟩
  have HK7 := Lib.hid hL.row
  have HL7 := Lib.hid (HL4.out.below (HB6.out.trans (hB.mono HB6.out.size)))
  have HB7 := Lib.hid (HB6w.out.trans (hB.mono HB6w.out.size))
  clear hL hB HA2 HB6 HB6w HM6 HD5 HB5 HL4 HbE4 HB4
  go_wp2_with fail
  go_loopw [16, 19] (fun u16 u19 wr => ∃ i : Nat, u19 = .int .i64 i ∧ u16 = .bool false ∧ i ≤ L1.length ∧ Hid (MK.RowC wr al cl L1) ∧ Hid (MK.RowC wr ak ck L2) ∧ Hid (Below w.heap.size w wr)) (fun _ u _ => L1.length - (intOf u).toNat)
  case atStart => exact ⟨0, rfl, rfl, by omega, HL7, HK7, HB7⟩
  case round =>
    obtain ⟨i, rfl, rfl, hi, hL, hK, hb⟩ := hrel
    have HL := Lib.hid hL.out
    have HK := Lib.hid hK.out
    have HBr := Lib.hid hb.out
    have hbs := hb.out.size
    clear hL hK hb HL7 HK7 HB7
    by_cases hlt : i < L1.length
    · obtain ⟨⟨p, ii, q, j⟩, hx⟩ : ∃ x, L1[i]? = some x := ⟨_, List.getElem?_eq_getElem hlt⟩
      obtain ⟨bm, om, rfl, hbm, hat⟩ := HL.out.2.2.2 (by omega)
      obtain ⟨m0, m1, m2, m3⟩ := MK.four hat hx
      have hlb : (i : Int) < (L1.length : Int) := by omega
      have hi0 : (0 : Int) ≤ (i : Int) := by omega
      have hmem := HL2m.out _ (List.mem_of_getElem? hx)
      have HC := Lib.hid (HIs.out ⟨p, ii, q, j⟩ L2 ak ck wr hlen2 HK.out)
      rw [decide_eq_true hmem] at HC
      clear hat hx hmem
      go_wp2_with fail
      with_reducible refine HC.out.mono ?_
      rintro x w8 ⟨rfl, hB⟩
      have HL8 := Lib.hid (HL.out.below hB)
      have HK8 := Lib.hid (HK.out.below hB)
      have HB8 := Lib.hid (HBr.out.trans (hB.mono hbs))
      clear hB HC
      go_wp2_with fail
      go_roundw
      case rel => exact ⟨i + 1, by go_num, by trivial, by omega, HL8, HK8, HB8⟩
      case measure => simp [intOf]; omega
    · obtain rfl : i = L1.length := by omega
      clear HK HIs HL2m
      obtain ⟨G, hG, hGe⟩ := gone_at gone hs.length h3 (by omega)
      have HbE8 := Lib.hid (below1 wr (.cells #[] 31))
      have hGi : (G : Int) < (hs.length : Int) := by omega
      have hG0 : (0 : Int) ≤ (G : Int) := by omega
      have HG := Lib.hid hG
      go_wp2_with (at_builtin; refine RK.wpList_append_rows_b rfl _ _ rfl wr.heap.size (.slice (some ⟨wr.heap.size, 0, none⟩) 0 0) rfl [] (dst_bare _ _ _) a hs.length c rfl hs rfl (HA.out.1.below (HBr.out.trans (HbE8.out.mono hbs))) (by show (([] : List Hv).length + hs.length) * 24 ≤ _; simp; omega) (by simp; unfold maxLen; omega) (by simp) ?_; intro a9 c9 w9 hD1 hM1 hB1; rw [List.nil_append] at hM1; obtain ⟨bf, xf, rfl, hbf, hbflt, hxf, hff, hrf⟩ := mine_set hM1 G HG.out; rw [Nat.zero_add] at hxf hff hrf; have HF9 := Lib.hid hrf; have HB9 := Lib.hid ((HbE8.out.trans (hB1.mono (Nat.le_refl _))).setCell (p := ⟨bf, G, none⟩) hbf (.slice none 0 0)); clear hD1 hM1 hB1 hrf hbflt)
      have HL10 := Lib.hid (HL.out.below HB9.out)
      have HB10 := Lib.hid (HBr.out.trans (HB9.out.mono hbs))
      have HSh := Lib.hid (over_set (HA.out.2) G)
      have HRG := Lib.hid (HRg.out G (by have := HhR.out; omega))
      have HA3G := Lib.hid (HA3.out G)
      rw [HRG.out] at HA3G
      clear HB9 hxf hff HbE8 HL HBr hGe HRg HA3
      generalize w9.setCell ⟨bf, G, none⟩ (.slice none 0 0) = W10 at *
      go_loopw [21, 22] (fun u21 u22 wq => ∃ (i n : Nat) (aw : Option Addr) (cw : Nat), u22 = .int .i64 i ∧ u21 = .slice aw n cw ∧ i ≤ L1.length ∧ Hid (n = ((L1.take i).filter (keepP G)).length) ∧ Hid (MK.Own wq W10.heap.size (.slice aw n cw) ((L1.take i).filter (keepP G))) ∧ Hid (Below W10.heap.size W10 wq)) (fun _ u _ => L1.length - (intOf u).toNat)
      case atStart => exact ⟨0, 0, none, 0, rfl, rfl, by omega, Lib.hid (by simp), Lib.hid (own_nil _ _), Lib.hid (Below.refl _ _)⟩
      case round =>
        obtain ⟨i, n, aw, cw, rfl, rfl, hi2, hn, hO, hbq⟩ := hrel
        have HN := Lib.hid hn.out
        have HO := Lib.hid hO.out
        have HBq := Lib.hid hbq.out
        have hqs := hbq.out.size
        clear hn hO hbq
        by_cases hlt2 : i < L1.length
        · obtain ⟨⟨p, ii, q, j⟩, hx⟩ : ∃ x, L1[i]? = some x := ⟨_, List.getElem?_eq_getElem hlt2⟩
          obtain ⟨bm, om, rfl, hbm, hat⟩ := (HL10.out.below HBq.out).2.2.2 (by omega)
          obtain ⟨m0, m1, m2, m3⟩ := MK.four hat hx
          have hlb : (i : Int) < (L1.length : Int) := by omega
          have hi0 : (0 : Int) ≤ (i : Int) := by omega
          have HTk := Lib.hid (filter_take (keepP G) L1 i ⟨p, ii, q, j⟩ hx)
          have hnle : n ≤ 20000 := by
            have h1 := HN.out
            have h2 := List.length_filter_le (keepP G) (L1.take i)
            have h3 := List.length_take_le i L1
            omega
          clear hat hx
          by_cases hp : p = (G : Int)
          · have HK := Lib.hid (show (L1.take (i + 1)).filter (keepP G) = (L1.take i).filter (keepP G) by rw [HTk.out]; simp [keepP, hp])
            have hpb : (p == (G : Int)) = true := by rw [beq_iff_eq]; exact hp
            have HN2 := Lib.hid (show n = ((L1.take (i + 1)).filter (keepP G)).length by rw [HK.out]; exact HN.out)
            have HO2 := Lib.hid (show MK.Own wr W10.heap.size (.slice aw n cw) ((L1.take (i + 1)).filter (keepP G)) by rw [HK.out]; exact HO.out)
            clear HK HTk
            go_wp2_with fail
            go_roundw
            case rel => exact ⟨i + 1, n, aw, cw, by go_num, by trivial, by omega, HN2, HO2, HBq⟩
            case measure => simp [intOf]; omega
          · have hpb : (p == (G : Int)) = false := by rw [beq_eq_false_iff_ne]; exact hp
            by_cases hq : q = (G : Int)
            · have HK := Lib.hid (show (L1.take (i + 1)).filter (keepP G) = (L1.take i).filter (keepP G) by rw [HTk.out]; simp [keepP, hq])
              have hqb : (q == (G : Int)) = true := by rw [beq_iff_eq]; exact hq
              have HN2 := Lib.hid (show n = ((L1.take (i + 1)).filter (keepP G)).length by rw [HK.out]; exact HN.out)
              have HO2 := Lib.hid (show MK.Own wr W10.heap.size (.slice aw n cw) ((L1.take (i + 1)).filter (keepP G)) by rw [HK.out]; exact HO.out)
              clear HK HTk
              go_wp2_with fail
              go_roundw
              case rel => exact ⟨i + 1, n, aw, cw, by go_num, by trivial, by omega, HN2, HO2, HBq⟩
              case measure => simp [intOf]; omega
            · have hqb : (q == (G : Int)) = false := by rw [beq_eq_false_iff_ne]; exact hq
              have hpn : (p != (G : Int)) = true := by simp [bne, hpb]
              have hqn : (q != (G : Int)) = true := by simp [bne, hqb]
              have HK := Lib.hid (show (L1.take (i + 1)).filter (keepP G) = (L1.take i).filter (keepP G) ++ [⟨p, ii, q, j⟩] by rw [HTk.out]; simp [keepP, hp, hq])
              obtain ⟨Wt, hWt⟩ : ∃ Wt, Wt = (L1.take i).filter (keepP G) := ⟨_, rfl⟩
              rw [← hWt] at HN HO HK
              obtain ⟨Wn, hWn⟩ : ∃ Wn, Wn = (L1.take (i + 1)).filter (keepP G) := ⟨_, rfl⟩
              rw [← hWn] at HK
              have HWn := Lib.hid hWn
              have hWnl : Wn.length = n + 1 := by rw [HK.out, HN.out]; simp
              have HWl := Lib.hid hWnl
              have HNl := Lib.hid (show n = Wt.length from HN.out)
              clear hWt hWn hWnl HTk
              go_wp2_with (at_builtin; refine MK.wpList_append_owned rfl _ _ rfl W10.heap.size (.slice aw n cw) rfl Wt (HO.out.below (below1 wr _) (Nat.le_refl _)) (some ⟨wr.heap.size, 0, none⟩) 1 1 rfl [⟨p, ii, q, j⟩] rfl (rowC_at (K := MK) wr 30 [⟨p, ii, q, j⟩] #[.int .i64 p, .int .i64 ii, .int .i64 q, .int .i64 j] wr.heap.size 1 rfl rfl rfl (by simp)) (by have := HNl.out; simp; omega) (by simp; omega) Wn HK.out ?_; intro ax cx wx hOx hGx; have HOx := Lib.hid hOx; have HBx := Lib.hid ((HBq.out.alloc hqs _).grown hGx (by simp; omega) (fun j hj => ((HO.out.below (below1 wr (.cells #[.int .i64 p, .int .i64 ii, .int .i64 q, .int .i64 j] 30)) (Nat.le_refl _)).lt j hj).1)); clear hOx hGx)
              go_roundw
              case rel => exact ⟨i + 1, Wn.length, ax, cx, by go_num, by trivial, by omega, Lib.hid (by rw [HWn.out]), by rw [← HWn.out]; exact HOx, HBx⟩
              case measure => simp [intOf]; omega
        · obtain rfl : i = L1.length := by omega
          rw [List.take_length] at HN HO
          have HBf := Lib.hid (HB10.out.trans (HBq.out.mono HB10.out.size))
          have HRf := Lib.hid (show RowsC wr (some ⟨bf, 0, none⟩) c9 (hs.set G ⟨none, 0, 0⟩) (R.set G []) from ⟨HF9.out.below HBq.out, HSh.out.below HBf.out⟩)
          have HC := Lib.hid (HA3G.out (some ⟨bf, 0, none⟩) c9 wr HRf.out (HB.out.below HBf.out) (HE.out.below HBf.out) (HF.out.below HBf.out))
          have hWl : (L1.filter (keepP G)).length ≤ 20000 := by have := List.length_filter_le (keepP G) L1; omega
          clear HA3G HRG
          generalize L1.filter (keepP G) = Wt at *
          have hnn := HN.out
          subst hnn
          go_wp2_with fail
          with_reducible refine HC.out.mono ?_
          rintro x v1 ⟨a7, c7, rfl, hL, hB⟩
          have HS := Lib.hid (msame_eq Wt a7 aw c7 cw v1 (by omega) hL.row (HO.out.row.below hB))
          have HB1 := Lib.hid (HBf.out.trans (hB.mono HBf.out.size))
          clear hL hB HC
          go_wp2_with fail
          with_reducible refine HS.out.mono ?_
          rintro x v2 ⟨rfl, hB⟩
          have HB2 := Lib.hid (HB1.out.trans (hB.mono HB1.out.size))
          clear hB HS
          go_wp2_with fail
          with_reducible refine (HWk.out _).mono ?_
          rintro x v3 ⟨rfl, hB⟩
          have HB3 := Lib.hid (HB2.out.trans (hB.mono HB2.out.size))
          clear hB
          go_wp2_with fail
          go_ret
          exact ⟨rfl, HB3.out⟩
end Go.Proofs.Ytjiepdgflfhkcaa
