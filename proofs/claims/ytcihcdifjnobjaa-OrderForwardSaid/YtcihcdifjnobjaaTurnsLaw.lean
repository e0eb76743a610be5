/- OrderTurns walked. -/
import Derived.Test.YtcihcdifjnobjaaLawB
set_option linter.unusedSimpArgs false
set_option linter.unusedVariables false
namespace Go.Proofs.Ytcihcdifjnobjaa
open Go.RowKit Go.Proofs.Ytcihcdifjnobjaa.Kind

def All46 (l : List Ad) (k : Nat) : Prop := ∀ j x, j < k → l[j]? = some x → x.f = 4 ∨ x.f = 6
theorem all46_step {l : List Ad} {k : Nat} {x : Ad} (h : All46 l k) (hx : l[k]? = some x) (hf : x.f = 4 ∨ x.f = 6) : All46 l (k + 1) := fun j y hj hy => by
  rcases (show j < k ∨ j = k by omega) with h1 | rfl
  · exact h j y h1 hy
  · rw [hx] at hy; cases hy; exact hf
theorem all46_mem {l : List Ad} (h : All46 l l.length) : ∀ y ∈ l, famA y = 4 ∨ famA y = 6 := fun y hy => by
  obtain ⟨j, hj, e⟩ := List.getElem_of_mem hy
  exact h j y hj (by rw [List.getElem?_eq_getElem hj, e])
theorem turns_head {x : Ad} {t : List Ad} (h : ∀ y ∈ x :: t, famA y = 4 ∨ famA y = 6) : (Turn.turns famA (x :: t))[0]? = some x := by
  obtain ⟨c, d, h1, hcd, hall⟩ : ∃ c d, famA x = c ∧ c ≠ d ∧ ∀ y ∈ x :: t, famA y = c ∨ famA y = d := by
    rcases h x (by simp) with e | e
    · exact ⟨4, 6, e, by decide, h⟩
    · exact ⟨6, 4, e, by decide, fun y hy => (h y hy).symm⟩
  rw [Turn.turns_two x t c d h1 hcd hall]
  have e : Turn.fq famA (x :: t) c = x :: Turn.fq famA t c := by unfold Turn.fq; rw [List.filter_cons, if_pos (by simp [Turn.inF, h1])]
  rw [e, Turn.inter_cons]
  rfl
theorem turns_apart {l : List Ad} (h : ∀ y ∈ l, famA y = 4 ∨ famA y = 6) (i : Nat) (a b : Ad) (ha : (Turn.turns famA l)[i]? = some a) (hb : (Turn.turns famA l)[i + 1]? = some b) (he : a.f = b.f) (k : Nat) (z : Ad) (hk : i < k) (hz : (Turn.turns famA l)[k]? = some z) : z.f = b.f := by
  cases l with
  | nil => simp [Turn.turns_nil] at ha
  | cons x t =>
    obtain ⟨c, d, h1, hcd, hall⟩ : ∃ c d, famA x = c ∧ c ≠ d ∧ ∀ y ∈ x :: t, famA y = c ∨ famA y = d := by
      rcases h x (by simp) with e | e
      · exact ⟨4, 6, e, by decide, h⟩
      · exact ⟨6, 4, e, by decide, fun y hy => (h y hy).symm⟩
    rw [Turn.turns_two x t c d h1 hcd hall] at ha hb hz
    exact Turn.inter_apart famA hcd _ _ _ c d hcd (Nat.le_refl _) (fun y hy => Turn.fq_fam hy) (fun y hy => Turn.fq_fam hy) i a b ha hb he k z hk hz
set_option maxHeartbeats 40000000 in
set_option maxRecDepth 1000000 in
theorem orderturns_walk (HOn : OnceSpec) (HTu : TurnsSpec) (HLi : ListSpec) (HFi : FirstSpec) (HPl : PlaceSpec) (HWk : WakesSpec) (l : List Ad) (s : Option Addr) (c : Nat) (w : World) (kl : OkL l) (hR : AK.RowC w s c l) :
    Calls Try.prog 5 #[.slice s l.length c] w fun e w' => e = .returned (.bool true) ∧ Below w.heap.size w w' := by
  have HOn := Lib.hid (fun l s c L w h h1 h2 => HOn l s c L w h h1 h2)
  have HTu := Lib.hid (fun l s c L w h h1 h2 => HTu l s c L w h h1 h2)
  have HLi := Lib.hid (fun l bad s v c d L w h h1 h2 h3 h4 => HLi l bad s v c d L w h h1 h2 h3 h4)
  have HFi := Lib.hid (fun n l s c L w h h1 h2 => HFi n l s c L w h h1 h2)
  have HPl := Lib.hid (fun l a s c r w h h1 h2 => HPl l a s c r w h h1 h2)
  have HWk := Lib.hid (fun w => HWk w)
  have HB := Lib.hid (Below.refl w.heap.size w)
  have Hl := Lib.hid hR
  have hml : l.length ≤ 9223372036854775807 := by have h1 := hR.1; have h2 := hR.2.1; unfold maxLen at h2; omega
  have HKl := Lib.hid kl
  clear kl
  clear hR
  go_enter Try.func5, Try.ntmps5
  have HG := Lib.hid (rgreatA_any l s c _ w rfl hml)
  by_cases hg0 : 60 < l.length
  · rw [decide_eq_true hg0] at HG
    go_wp2_with fail
    (with_reducible refine HG.out.mono ?_)
    rintro e w1 ⟨rfl, hw1⟩
    subst w1
    go_wp2_with fail
    with_reducible refine (HWk.out _).mono ?_
    rintro e wf ⟨rfl, hb⟩
    have HBf := Lib.hid (HB.out.trans (hb.mono HB.out.size))
    clear hb
    go_wp2_with fail
    go_ret
    exact ⟨rfl, HBf.out⟩
  rw [decide_eq_false hg0] at HG
  go_wp2_with fail
  (with_reducible refine HG.out.mono ?_)
  rintro e w1 ⟨rfl, hw1⟩
  subst w1
  clear HG
  have hll : l.length ≤ 60 := by omega
  go_wp2_with fail
  go_loopw [2, 3] (fun r i wr => ∃ q : Nat, r = .bool false ∧ i = .int .i64 q ∧ q ≤ l.length ∧ Hid (All46 l q) ∧ Hid (Below w.heap.size w wr)) (fun _ i _ => l.length - (intOf i).toNat)
  case atStart => exact ⟨0, rfl, rfl, by omega, Lib.hid (fun j x hj => by omega), Lib.hid (Below.refl _ _)⟩
  case round =>
    obtain ⟨q, rfl, rfl, hq, h46, hb0⟩ := hrel
    obtain ⟨wo, rfl⟩ : ∃ W : World, W = wr := ⟨_, rfl⟩
    have H46 := Lib.hid h46.out
    have hb := hb0.out
    have HBo := Lib.hid hb0.out
    clear h46 hb0
    replace Hl := Lib.hid (Hl.out.below hb)
    replace HB := Lib.hid (HB.out.trans (hb.mono HB.out.size))
    clear hb
    by_cases hlt : q < l.length
    · obtain ⟨x, hx⟩ : ∃ x, l[q]? = some x := ⟨_, List.getElem?_eq_getElem hlt⟩
      obtain ⟨b0, o0, rfl, hbl, hat⟩ := Hl.out.2.2.2 (by omega)
      obtain ⟨⟨d0, d1, d2, d3, d4⟩, d5, d6, d7, d8, d9⟩ := AK.ten hat hx
      have hqi : (q : Int) < (l.length : Int) := by omega
      have hq0 : (0 : Int) ≤ (q : Int) := by omega
      by_cases h4 : x.f = 4
      · have hd4 : (x.f != 4) = false := by simp [h4]
        have HN := Lib.hid (all46_step H46.out hx (.inl h4))
        clear h4 hx hat
        go_wp2_with fail
        go_roundw
        case rel => exact ⟨q + 1, rfl, by go_num, by omega, HN, Lib.hid HBo.out⟩
        case measure => simp [intOf]; omega
      · have hd4 : (x.f != 4) = true := by simp [h4]
        by_cases h6 : x.f = 6
        · have hd6 : (x.f != 6) = false := by simp [h6]
          have HN := Lib.hid (all46_step H46.out hx (.inr h6))
          clear h4 h6 hx hat
          go_wp2_with fail
          go_roundw
          case rel => exact ⟨q + 1, rfl, by go_num, by omega, HN, Lib.hid HBo.out⟩
          case measure => simp [intOf]; omega
        · have hd6 : (x.f != 6) = true := by simp [h6]
          clear h4 h6 hx hat
          go_wp2_with fail
          with_reducible refine (HWk.out _).mono ?_
          rintro e wf ⟨rfl, hb⟩
          have HBf := Lib.hid (HB.out.trans (hb.mono HB.out.size))
          clear hb
          go_wp2_with fail
          go_ret
          exact ⟨rfl, HBf.out⟩
    · obtain rfl : q = l.length := by omega
      clear hlt hq HBo
      have hall := Lib.hid (all46_mem H46.out)
      clear H46
      obtain ⟨L, hL⟩ : ∃ L, L = Turn.turns famA l := ⟨_, rfl⟩
      have hLl : L.length = l.length := by rw [hL]; exact Turn.turns_len l
      have HAP := Lib.hid (turns_apart hall.out)
      rw [← hL] at HAP
      have HHd := Lib.hid (show ∀ x t, l = x :: t → L[0]? = some x from fun x t e => by rw [hL, e]; exact turns_head (fun y hy => hall.out y (e ▸ hy)))
      have hL60 : L.length ≤ 60 := by omega
      replace hL := Lib.hid hL
      have HX := Lib.hid (HTu.out l s c L wo ⟨hL.out, HKl.out⟩ (by omega) Hl.out)
      go_wp2_with fail
      with_reducible refine HX.out.mono ?_
      rintro e w1 ⟨a1, b1, rfl, hR, hb⟩
      clear HX
      replace Hl := Lib.hid (Hl.out.below hb)
      replace HB := Lib.hid (HB.out.trans (hb.mono HB.out.size))
      clear hb
      have HA := Lib.hid hR
      clear hR
      have hne : ((L.length : Int) != (l.length : Int)) = false := by rw [hLl]; simp
      obtain ⟨wq, hwq⟩ : ∃ W : World, W = w1 := ⟨_, rfl⟩
      by_cases hl0 : l = []
      · subst hl0
        have hz1 : decide ((0 : Int) < (([] : List Ad).length : Int)) = false := rfl
        have hz2 : L.length = 0 := hLl
        go_wp2_with fail
        go_quiet (fail)
        obtain ⟨wC, hwC⟩ : ∃ W : World, W = w1.drewN nq := ⟨_, rfl⟩
        have hb : Below w1.heap.size w1 wC := by rw [hwC]; exact below_drewN (Below.refl _ _) _
        rw [← hwC]
        clear hwC hwq hne
        replace Hl := Lib.hid (Hl.out.below hb)
        replace HA := Lib.hid (HA.out.below hb)
        replace HB := Lib.hid (HB.out.trans (hb.mono HB.out.size))
        clear hb
        go_wp2_with fail
        go_loopw [2, 5] (fun r i wr => ∃ q : Nat, r = .bool false ∧ i = .int .i64 q ∧ 1 ≤ q ∧ q ≤ L.length + 1 ∧ Hid (Below wC.heap.size wC wr)) (fun _ i _ => L.length + 1 - (intOf i).toNat)
        case atStart => exact ⟨1, rfl, rfl, by omega, by omega, Lib.hid (Below.refl _ _)⟩
        case round =>
          obtain ⟨q, rfl, rfl, hq1, hq2, hb0⟩ := hrel
          obtain ⟨wo, rfl⟩ : ∃ W : World, W = wr := ⟨_, rfl⟩
          have hb := hb0.out
          have HBo := Lib.hid hb0.out
          clear hb0
          replace Hl := Lib.hid (Hl.out.below hb)
          replace HA := Lib.hid (HA.out.below hb)
          replace HB := Lib.hid (HB.out.trans (hb.mono HB.out.size))
          clear hb
          by_cases hlt : q < L.length
          · exact absurd hlt (by omega)
          · go_wp2_with fail
            with_reducible refine (HWk.out _).mono ?_
            rintro e wf ⟨rfl, hb⟩
            have HBf := Lib.hid (HB.out.trans (hb.mono HB.out.size))
            clear hb
            go_wp2_with fail
            go_ret
            exact ⟨rfl, HBf.out⟩
      · obtain ⟨x0, t0, hxt⟩ : ∃ x t, l = x :: t := by cases l with | nil => exact absurd rfl hl0 | cons x t => exact ⟨x, t, rfl⟩
        have h0 := HHd.out x0 t0 hxt
        have h1 : l[0]? = some x0 := by rw [hxt]; rfl
        have hlp : 0 < l.length := List.length_pos_iff.2 hl0
        obtain ⟨b2, o2, rfl, hbl2, hat2⟩ := HA.out.2.2.2 (by omega)
        obtain ⟨b3, o3, rfl, hbl3, hat3⟩ := Hl.out.2.2.2 hlp
        obtain ⟨⟨d0, d1, d2, d3, d4⟩, d5, d6, d7, d8, d9⟩ := AK.ten hat2 h0
        obtain ⟨⟨k0, k1, k2, k3, k4⟩, k5, k6, k7, k8, k9⟩ := AK.ten hat3 h1
        simp only [Nat.zero_mul, Nat.add_zero] at d0 d1 d2 d3 d4 d5 d6 d7 d8 d9 k0 k1 k2 k3 k4 k5 k6 k7 k8 k9
        have hE := neq_ad x0 x0
        rw [show decide (x0 ≠ x0) = false by simp] at hE
        have hgd := guard_ad
        have hz1 : decide ((0 : Int) < (l.length : Int)) = true := decide_eq_true (by omega)
        have hz2 : (0 : Int) < (l.length : Int) := by omega
        have hz3 : (0 : Int) < (L.length : Int) := by omega
        have hz4 : 0 < L.length := by omega
        clear hat2 hat3 h0 h1 hxt hl0
        go_wp2_with fail
        go_quiet (fail)
        clear d0 d1 d2 d3 d4 d5 d6 d7 d8 d9 k0 k1 k2 k3 k4 k5 k6 k7 k8 k9 hE hgd
        obtain ⟨wC, hwC⟩ : ∃ W : World, W = w1.drewN nq := ⟨_, rfl⟩
        have hb : Below w1.heap.size w1 wC := by rw [hwC]; exact below_drewN (Below.refl _ _) _
        rw [← hwC]
        clear hwC hwq hne
        replace Hl := Lib.hid (Hl.out.below hb)
        replace HA := Lib.hid (HA.out.below hb)
        replace HB := Lib.hid (HB.out.trans (hb.mono HB.out.size))
        clear hb
        go_wp2_with fail
        go_loopw [2, 5] (fun r i wr => ∃ q : Nat, r = .bool false ∧ i = .int .i64 q ∧ 1 ≤ q ∧ q ≤ L.length + 1 ∧ Hid (Below wC.heap.size wC wr)) (fun _ i _ => L.length + 1 - (intOf i).toNat)
        case atStart => exact ⟨1, rfl, rfl, by omega, by omega, Lib.hid (Below.refl _ _)⟩
        case round =>
          obtain ⟨q, rfl, rfl, hq1, hq2, hb0⟩ := hrel
          obtain ⟨wo, rfl⟩ : ∃ W : World, W = wr := ⟨_, rfl⟩
          have hb := hb0.out
          have HBo := Lib.hid hb0.out
          clear hb0
          replace Hl := Lib.hid (Hl.out.below hb)
          replace HA := Lib.hid (HA.out.below hb)
          replace HB := Lib.hid (HB.out.trans (hb.mono HB.out.size))
          clear hb
          by_cases hlt : q < L.length
          · obtain ⟨p, rfl⟩ : ∃ p, q = p + 1 := ⟨q - 1, by omega⟩
            obtain ⟨x, hx⟩ : ∃ x, L[p + 1]? = some x := ⟨_, List.getElem?_eq_getElem hlt⟩
            obtain ⟨y, hy⟩ : ∃ y, L[p]? = some y := ⟨_, List.getElem?_eq_getElem (by omega)⟩
            obtain ⟨P1, hP1⟩ : ∃ P1, P1 = p + 1 := ⟨_, rfl⟩
            rw [← hP1] at hx ⊢
            obtain ⟨b4, o4, hq4, hbl, hat⟩ := HA.out.2.2.2 (by omega)
            cases hq4
            have HC := Lib.hid (fun (W : World) (h : Below wo.heap.size wo W) (j : Nat) (z : Ad) (hz : L[j]? = some z) => AK.ten (hat.below h hbl) hz)
            obtain ⟨⟨d0, d1, d2, d3, d4⟩, d5, d6, d7, d8, d9⟩ := AK.ten hat hx
            obtain ⟨⟨k0, k1, k2, k3, k4⟩, k5, k6, k7, k8, k9⟩ := AK.ten hat hy
            have hw1 : IntKind.i64.wrap ((P1 : Int) - 1) = (p : Int) := by rw [IntKind.wrap_i64, hP1]; omega
            have hi1 : (P1 : Int) < (L.length : Int) := by omega
            have hi2 : (p : Int) < (L.length : Int) := by omega
            have hi3 : (0 : Int) ≤ (P1 : Int) := by omega
            have hi4 : (0 : Int) ≤ (p : Int) := by omega
            have HP1 := Lib.hid hP1
            have HX := Lib.hid hx
            have HY := Lib.hid hy
            clear hat hx hy hP1
            by_cases hxy : x.f = y.f
            · have hd : (x.f != y.f) = false := by simp [hxy]
              have HE := Lib.hid hxy
              clear hxy
              go_wp2_with fail
              go_quiet (fail)
              clear d0 d1 d2 d3 d4 d5 d6 d7 d8 d9 k0 k1 k2 k3 k4 k5 k6 k7 k8 k9 hd hw1
              obtain ⟨wD, hwD⟩ : ∃ W : World, W = wo.drewN nq := ⟨_, rfl⟩
              have HBD := Lib.hid (show Below wo.heap.size wo wD by rw [hwD]; exact below_drewN (Below.refl _ _) _)
              rw [← hwD]
              clear hwD
              go_wp2_with fail
              go_loopw [2, 6] (fun r k wr => ∃ e : Nat, r = .bool false ∧ k = .int .i64 e ∧ P1 ≤ e ∧ e ≤ L.length ∧ Hid (Below wo.heap.size wo wr)) (fun _ k _ => L.length - (intOf k).toNat)
              case atStart => exact ⟨P1, rfl, rfl, Nat.le_refl _, by omega, HBD⟩
              case round =>
                obtain ⟨e, rfl, rfl, he1, he2, hb0⟩ := hrel
                have HBi := Lib.hid hb0.out
                clear hb0
                by_cases hlt2 : e < L.length
                · obtain ⟨z, hz⟩ : ∃ z, L[e]? = some z := ⟨_, List.getElem?_eq_getElem hlt2⟩
                  have hzx : z.f = x.f := HAP.out p y x HY.out (HP1.out ▸ HX.out) HE.out.symm e z (by have := HP1.out; omega) hz
                  obtain ⟨⟨d0, d1, d2, d3, d4⟩, d5, d6, d7, d8, d9⟩ := HC.out wr HBi.out e z hz
                  obtain ⟨⟨k0, k1, k2, k3, k4⟩, k5, k6, k7, k8, k9⟩ := HC.out wr HBi.out P1 x HX.out
                  have hd : (z.f != x.f) = false := by simp [hzx]
                  have hj1 : (e : Int) < (L.length : Int) := by omega
                  have hj2 : (0 : Int) ≤ (e : Int) := by omega
                  clear hz hzx
                  go_wp2_with fail
                  go_quiet (fail)
                  go_wp2_with fail
                  go_roundw
                  case rel => exact ⟨e + 1, rfl, by go_num, by omega, by omega, Lib.hid (below_drewN HBi.out _)⟩
                  case measure => simp [intOf]; omega
                · obtain rfl : e = L.length := by omega
                  go_wp2_with fail
                  go_roundw
                  case rel => exact ⟨P1 + 1, rfl, by go_num, by omega, by omega, Lib.hid (HBo.out.trans (HBi.out.mono HBo.out.size))⟩
                  case measure => simp [intOf]; omega
            · have hd : (x.f != y.f) = true := by simp [hxy]
              clear hxy
              go_wp2_with fail
              go_quiet (fail)
              go_wp2_with fail
              go_roundw
              case rel => exact ⟨P1 + 1, rfl, by go_num, by omega, by omega, Lib.hid (below_drewN HBo.out _)⟩
              case measure => simp [intOf]; omega
          · go_wp2_with fail
            with_reducible refine (HWk.out _).mono ?_
            rintro e wf ⟨rfl, hb⟩
            have HBf := Lib.hid (HB.out.trans (hb.mono HB.out.size))
            clear hb
            go_wp2_with fail
            go_ret
            exact ⟨rfl, HBf.out⟩
end Go.Proofs.Ytcihcdifjnobjaa
