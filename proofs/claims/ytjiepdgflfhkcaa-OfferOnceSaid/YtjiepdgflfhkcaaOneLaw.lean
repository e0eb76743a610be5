/- OfferOne walked, over the calls' contracts. -/
import Derived.Test.YtjiepdgflfhkcaaSpecs
set_option linter.unusedSimpArgs false
set_option linter.unusedVariables false
namespace Go.Proofs.Ytjiepdgflfhkcaa
open Go.RowKit Go.Proofs.Ytjiepdgflfhkcaa.Kind Go.Proofs.Ytjiepdgflfhkcaa.P7

theorem over1 {w : World} {a : Option Addr} {c : Nat} {l : List Of} (h : OK.RowC w a c l) : Over w [⟨a, l.length, c⟩] [l] := by
  refine ⟨rfl, fun j x r h1 h2 => ?_⟩
  have hj : j = 0 := by have := (List.getElem?_eq_some_iff.1 h1).1; simp at this; omega
  subst hj
  simp at h1 h2
  subst h1 h2
  exact ⟨rfl, h⟩
theorem over2 {w : World} {a b : Option Addr} {c d : Nat} {l m : List Of} (h : OK.RowC w a c l) (h' : OK.RowC w b d m) : Over w [⟨a, l.length, c⟩, ⟨b, m.length, d⟩] [l, m] := by
  refine ⟨rfl, fun j x r h1 h2 => ?_⟩
  have hj : j = 0 ∨ j = 1 := by have := (List.getElem?_eq_some_iff.1 h1).1; simp at this; omega
  rcases hj with rfl | rfl
  · simp at h1 h2
    subst h1 h2
    exact ⟨rfl, h⟩
  · simp at h1 h2
    subst h1 h2
    exact ⟨rfl, h'⟩
/-- A row of two headers, just laid. -/
theorem rows2 {w : World} {a b : Option Addr} {c d : Nat} {l m : List Of} (h : OK.RowC w a c l) (h' : OK.RowC w b d m) : RowsC (w.alloc (.cells #[.slice a l.length c, .slice b m.length d] 31)) (some ⟨w.heap.size, 0, none⟩) 2 [⟨a, l.length, c⟩, ⟨b, m.length, d⟩] [l, m] :=
  ⟨rowC_at (K := RK) w 31 [⟨a, l.length, c⟩, ⟨b, m.length, d⟩] #[.slice a l.length c, .slice b m.length d] w.heap.size 2 rfl rfl rfl (by simp), over2 (h.below (below1 _ _)) (h'.below (below1 _ _))⟩
theorem rows1 {w : World} {a : Option Addr} {c : Nat} {l : List Of} (h : OK.RowC w a c l) : RowsC (w.alloc (.cells #[.slice a l.length c] 31)) (some ⟨w.heap.size, 0, none⟩) 1 [⟨a, l.length, c⟩] [l] :=
  ⟨rowC_at (K := RK) w 31 [⟨a, l.length, c⟩] #[.slice a l.length c] w.heap.size 1 rfl rfl rfl (by simp), over1 (h.below (below1 _ _))⟩
theorem bools1 (w : World) (b : Bool) : BK.RowC (w.alloc (.cells #[.bool b] 4)) (some ⟨w.heap.size, 0, none⟩) 1 [b] := rowC_at (K := BK) w 4 [b] #[.bool b] w.heap.size 1 rfl rfl rfl (by simp)
theorem ready_one (l : List Of) (D : List Dv) (clock : Int) (dial look : Bool) : ready [l] D clock [dial] [look] = oneP (fun _ _ o => aloneP D clock o dial look) l l.length := by
  unfold ready
  rw [allP_one]
  rfl
theorem ready_turned (l m : List Of) (D : List Dv) (clock : Int) : (ready [l, m] D clock [] []).length = (ready [m, l] D clock [] []).length := by
  have e : ∀ R, ready R D clock [] [] = allP (fun _ _ o => aloneP D clock o false false) (meetP D) R := by
    intro R
    unfold ready
    congr 1
  rw [e, e, allP_turned]

set_option maxHeartbeats 16000000 in
set_option maxRecDepth 1000000 in
theorem offerone_walk (HAll : AllSpec) (HAlone : AloneSpec) (HWk : WakesSpec) (l m : List Of) (D : List Dv) (clock : Int) (dial look : Bool) (a e b : Option Addr) (c f d : Nat) (w : World) (hA : OK.RowC w a c l) (hE : OK.RowC w e f m) (hB : DK.RowC w b d D) (hcap : Hid (∀ x ∈ D, x.cap ≤ 9223372036854775807)) :
    Calls Try.prog 5 #[.slice a l.length c, .slice e m.length f, .slice b D.length d, .int .i64 clock, .bool dial, .bool look] w fun x w' => x = .returned (.bool true) ∧ Below w.heap.size w w' := by
  have HWk := Lib.hid (fun w => HWk w)
  have hb1 := below1 w (.cells #[.slice a l.length c, .slice e m.length f] 31)
  have hrows := rows2 hA hE
  have HGr := Lib.hid (greato_any _ D (some ⟨w.heap.size, 0, none⟩) b 2 d _ hrows.1 (hB.below hb1))
  have HB0 := Lib.hid hb1
  by_cases hg : greatO [⟨a, l.length, c⟩, ⟨e, m.length, f⟩] D = true
  · rw [hg] at HGr
    rw [List.length_cons, List.length_cons, List.length_nil] at HGr
    clear hg hA hB hE HAll HAlone hrows hb1
    go_enter Try.func5, Try.ntmps5
    go_wp2_with fail
    with_reducible refine HGr.out.mono ?_
    rintro x w1 ⟨rfl, hB⟩
    have HB1 := Lib.hid (HB0.out.trans (hB.mono HB0.out.size))
    clear hB
    go_wp2_with fail
    with_reducible refine (HWk.out _).mono ?_
    rintro x w2 ⟨rfl, hB⟩
    have HB2 := Lib.hid (HB1.out.trans (hB.mono HB1.out.size))
    clear hB
    go_wp2_with fail
    go_ret
    exact ⟨rfl, HB2.out⟩
  have hg : greatO [⟨a, l.length, c⟩, ⟨e, m.length, f⟩] D = false := by simpa using hg
  rw [hg] at HGr
  rw [List.length_cons, List.length_cons, List.length_nil] at HGr
  obtain ⟨_, hD200, hD100, hS⟩ := greatO_false hrows.2 hg
  replace hD100 : ∀ x ∈ D, x.n ≤ 100 ∧ x.cap ≤ 9223372036854775807 := fun x hx => ⟨hD100 x hx, hcap.out x hx⟩
  have hS1 : l.length ≤ 100 ∧ m.length ≤ 100 ∧ l.length + m.length ≤ 100 := by simp at hS; omega
  have HLen := Lib.hid hS1
  have hlb100 : l.length ≤ 100 := hS1.1
  have HAl1 := Lib.hid (fun A1 A2 A3 w h1 h2 h3 h4 => HAll [⟨a, l.length, c⟩] [l] D clock [dial] [look] A1 b A2 A3 1 d 1 1 w (by simp) hD200 hD100 (by simp; omega) h1 h2 h3 h4)
  have HAl2 := Lib.hid (fun A1 w h1 h2 => HAll [⟨a, l.length, c⟩, ⟨e, m.length, f⟩] [l, m] D clock [] [] A1 b none none 2 d 0 0 w (by simp) hD200 hD100 (by simp; omega) h1 h2 (row_none _) (row_none _))
  have HAl3 := Lib.hid (fun A1 w h1 h2 => HAll [⟨e, m.length, f⟩, ⟨a, l.length, c⟩] [m, l] D clock [] [] A1 b none none 2 d 0 0 w (by simp) hD200 hD100 (by simp; omega) h1 h2 (row_none _) (row_none _))
  have HOn := Lib.hid (fun o w h => HAlone o D clock dial look b d w hD200 hD100 h)
  rw [ready_one] at HAl1
  have HT := Lib.hid (ready_turned l m D clock)
  have HA := Lib.hid hA
  have HE := Lib.hid hE
  have HB := Lib.hid hB
  simp only [List.length_cons, List.length_nil, Nat.zero_add, Nat.reduceAdd] at HAl1 HAl2 HAl3
  clear hg hA hB hE HAll HAlone hrows hb1 hD100 hS hS1
  generalize ready [l, m] D clock [] [] = L2 at *
  generalize ready [m, l] D clock [] [] = L3 at *
  obtain ⟨L, hL⟩ : ∃ L, L = oneP (fun _ _ o => aloneP D clock o dial look) l l.length := ⟨_, rfl⟩
  rw [← hL] at HAl1
  have HLe := Lib.hid hL
  clear hL
  have hLl : L.length ≤ 100 := by rw [HLe.out]; have := oneP_length_le (fun _ _ o => aloneP D clock o dial look) l l.length; omega
  go_enter Try.func5, Try.ntmps5
  go_wp2_with fail
  with_reducible refine HGr.out.mono ?_
  rintro x w1 ⟨rfl, hB1⟩
  have HB1 := Lib.hid (HB0.out.trans (hB1.mono HB0.out.size))
  have hb3 := below3 w1 (.cells #[.slice a l.length c] 31) (.cells #[.bool dial] 4) (.cells #[.bool look] 4)
  have hr1 := (rows1 (HA.out.below HB1.out)).below (below2 (w1.alloc (.cells #[.slice a l.length c] 31)) (.cells #[.bool dial] 4) (.cells #[.bool look] 4))
  have hd1 := (bools1 (w1.alloc (.cells #[.slice a l.length c] 31)) dial).below (below1 _ (.cells #[.bool look] 4))
  have hk1 := bools1 ((w1.alloc (.cells #[.slice a l.length c] 31)).alloc (.cells #[.bool dial] 4)) look
  simp only [World.size_alloc] at hd1 hk1
  have HAl1 := Lib.hid (HAl1.out _ _ _ _ hr1 ((HB.out.below HB1.out).below hb3) hd1 hk1)
  have HB3 := Lib.hid (HB1.out.trans (hb3.mono HB1.out.size))
  clear hB1 HGr HB0 hr1 hd1 hk1 hb3
  go_wp2_with fail
  with_reducible refine HAl1.out.mono ?_
  rintro x w2 ⟨al, cl, rfl, hL, hB2⟩
  have HL2 := Lib.hid hL.row
  have HB2 := Lib.hid (HB3.out.trans (hB2.mono HB3.out.size))
  clear hL hB2 HAl1 HB3 HB1
  go_wp2_with fail
  go_loopw [12, 14, 15] (fun u12 u14 u15 wr => ∃ i n : Nat, u15 = .int .i64 i ∧ u12 = .bool false ∧ u14 = .int .i64 n ∧ i ≤ l.length ∧ Hid (n = (oneP (fun _ _ o => aloneP D clock o dial look) l i).length) ∧ Hid (MK.RowC wr al cl L) ∧ Hid (Below w.heap.size w wr)) (fun _ _ u _ => l.length - (intOf u).toNat)
  case atStart => exact ⟨0, 0, rfl, rfl, rfl, by omega, Lib.hid rfl, HL2, HB2⟩
  case round =>
    obtain ⟨i, n, rfl, rfl, rfl, hi, hn, hLr, hb⟩ := hrel
    have HL := Lib.hid hLr.out
    have HBr := Lib.hid hb.out
    have HN := Lib.hid hn.out
    have hbs := hb.out.size
    clear hLr hb hn HL2 HB2
    by_cases hlt : i < l.length
    · obtain ⟨o, ho⟩ : ∃ o, l[i]? = some o := ⟨_, List.getElem?_eq_getElem hlt⟩
      obtain ⟨ba, oa, rfl, hba, hat⟩ := (HA.out.below HBr.out).2.2.2 (by omega)
      obtain ⟨o0, o1, o2, o3, o4, o5, o6, o7, o8⟩ := OK.nine hat ho
      have hlb : (i : Int) < (l.length : Int) := by omega
      have hi0 : (0 : Int) ≤ (i : Int) := by omega
      have HCo := Lib.hid (HOn.out o wr (HB.out.below HBr.out))
      have HSu := Lib.hid (oneP_succ (fun _ _ o => aloneP D clock o dial look) l i o ho)
      clear hat ho
      cases hal : aloneP D clock o dial look
      · rw [hal] at HCo
        have HN2 := Lib.hid (show n = (oneP (fun _ _ o => aloneP D clock o dial look) l (i + 1)).length by rw [HSu.out]; simp [hal]; exact HN.out)
        clear hal HSu
        go_wp2_with fail
        with_reducible refine HCo.out.mono ?_
        rintro x w3 ⟨rfl, hB⟩
        have HB3 := Lib.hid (HBr.out.trans (hB.mono hbs))
        have HL3 := Lib.hid (HL.out.below hB)
        clear hB HCo
        go_wp2_with fail
        go_roundw
        case rel => exact ⟨i + 1, n, by go_num, by trivial, by trivial, by omega, HN2, HL3, HB3⟩
        case measure => simp [intOf]; omega
      · rw [hal] at HCo
        have HN2 := Lib.hid (show n + 1 = (oneP (fun _ _ o => aloneP D clock o dial look) l (i + 1)).length by rw [HSu.out]; simp [hal]; exact HN.out)
        have hnL : L[n]? = some ⟨0, i, -1, -1⟩ := by
          obtain ⟨r, hr⟩ := oneP_le (fun _ _ o => aloneP D clock o dial look) l (i + 1) l.length hlt
          rw [HLe.out, hr, HSu.out, List.append_assoc, List.getElem?_append_right (by have := HN.out; omega), HN.out]
          simp [hal]
        have hnlt : n < L.length := (List.getElem?_eq_some_iff.1 hnL).1
        have HNL := Lib.hid hnL
        have hnli : (n : Int) < (L.length : Int) := by omega
        have hn0 : (0 : Int) ≤ (n : Int) := by omega
        have gnl : ¬ L.length ≤ n := by omega
        have hwr : IntKind.i64.wrap ((n : Int) + 1) = (n : Int) + 1 := by rw [IntKind.wrap_i64]; omega
        have hnq := neq_self_meet ⟨0, i, -1, -1⟩
        have hgd := guard_meet
        clear hal HSu hnL
        go_wp2_with fail
        with_reducible refine HCo.out.mono ?_
        rintro x w3 ⟨rfl, hB⟩
        have HB3 := Lib.hid (HBr.out.trans (hB.mono hbs))
        have HL3 := Lib.hid (HL.out.below hB)
        obtain ⟨bm, om, rfl, hbm, hatm⟩ := HL3.out.2.2.2 (by omega)
        obtain ⟨m0, m1, m2, m3⟩ := MK.four hatm HNL.out
        clear hB HCo hatm
        go_wp2_with fail
        go_roundw
        case rel => exact ⟨i + 1, n + 1, by go_num, by trivial, by go_num, by omega, HN2, HL3, HB3⟩
        case measure => simp [intOf]; omega
    · obtain rfl : i = l.length := by omega
      have hnL : n = L.length := by rw [HLe.out]; exact HN.out
      subst hnL
      have hb4 := below1 wr (.cells #[.slice a l.length c, .slice e m.length f] 31)
      have HA2 := Lib.hid (HAl2.out (some ⟨wr.heap.size, 0, none⟩) _ (rows2 (HA.out.below HBr.out) (HE.out.below HBr.out)) ((HB.out.below HBr.out).below hb4))
      have HB4 := Lib.hid (HBr.out.trans (hb4.mono hbs))
      clear hb4 HAl2 HN
      go_wp2_with fail
      with_reducible refine HA2.out.mono ?_
      rintro x w3 ⟨a3, c3, rfl, hL3, hB⟩
      have HB5 := Lib.hid (HB4.out.trans (hB.mono HB4.out.size))
      have hb6 := below1 w3 (.cells #[.slice e m.length f, .slice a l.length c] 31)
      have HA3 := Lib.hid (HAl3.out (some ⟨w3.heap.size, 0, none⟩) _ (rows2 (HE.out.below HB5.out) (HA.out.below HB5.out)) ((HB.out.below HB5.out).below hb6))
      have HB6 := Lib.hid (HB5.out.trans (hb6.mono HB5.out.size))
      clear hL3 hB hb6 HA2 HAl3
      go_wp2_with fail
      with_reducible refine HA3.out.mono ?_
      rintro x w4 ⟨a4, c4, rfl, hL4, hB⟩
      have HB7 := Lib.hid (HB6.out.trans (hB.mono HB6.out.size))
      have hT := HT.out
      have hT2 : ((L2.length : Int) == (L3.length : Int)) = true := by rw [hT]; simp
      have hT3 : (L2.length == L3.length) = true := by rw [hT]; simp
      clear hL4 hB HA3
      go_wp2_with fail
      with_reducible refine (HWk.out _).mono ?_
      rintro x w5 ⟨rfl, hB⟩
      have HB8 := Lib.hid (HB7.out.trans (hB.mono HB7.out.size))
      clear hB
      go_wp2_with fail
      go_ret
      exact ⟨rfl, HB8.out⟩
end Go.Proofs.Ytjiepdgflfhkcaa
