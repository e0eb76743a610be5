/- OrderWhole walked. -/
import Derived.Test.YtcihcdifjnobjaaLawB
set_option linter.unusedSimpArgs false
set_option linter.unusedVariables false
namespace Go.Proofs.Ytcihcdifjnobjaa
open Go.RowKit Go.Proofs.Ytcihcdifjnobjaa.Kind

theorem whole_mem {l m : List Ad} {j : Nat} {x : Ad} (hx : l[j]? = some x) : decide (placeZ (Turn.list famA l m) x < 0) = false :=
  decide_eq_false (fun h => place_neg.1 h (Turn.mem_list.2 (List.mem_of_getElem? hx)))
theorem whole_at {L : List Ad} (hn : L.Nodup) {i : Nat} {x : Ad} (hx : L[i]? = some x) : placeZ L x = i :=
  place_at hx (fun j y hj hy e => by
    subst e
    obtain ⟨h1, e1⟩ := List.getElem?_eq_some_iff.1 hx
    obtain ⟨h2, e2⟩ := List.getElem?_eq_some_iff.1 hy
    exact List.pairwise_iff_getElem.1 hn j i h2 h1 hj (by rw [e1, e2]))
theorem whole_ord {l m : List Ad} {k i : Nat} {x y : Ad} (hk : k < i) (hx : (Turn.list famA l m)[k]? = some x) (hy : (Turn.list famA l m)[i]? = some y) :
    (x ∈ m → y ∈ m) ∧ ((x ∈ m ↔ y ∈ m) → x.f = y.f → placeZ l x ≤ placeZ l y) := by
  have hxl := (Turn.mem_list (fam := famA)).1 (List.mem_of_getElem? hx)
  have hyl := (Turn.mem_list (fam := famA)).1 (List.mem_of_getElem? hy)
  obtain ⟨h1, e1⟩ := List.getElem?_eq_some_iff.1 hx
  obtain ⟨h2, e2⟩ := List.getElem?_eq_some_iff.1 hy
  have h := List.pairwise_iff_getElem.1 (Turn.list_order (fam := famA) l m) k i h1 h2 hk
  rw [e1, e2] at h
  refine ⟨h.1, fun h3 h4 => ?_⟩
  have h5 := h.2 h3 h4
  rw [place_nat hxl, place_nat hyl]
  omega
set_option maxHeartbeats 40000000 in
set_option maxRecDepth 1000000 in
theorem orderwhole_walk (HOn : OnceSpec) (HTu : TurnsSpec) (HLi : ListSpec) (HFi : FirstSpec) (HPl : PlaceSpec) (HWk : WakesSpec) (l m : List Ad) (s s1 : Option Addr) (c c1 : Nat) (w : World) (kl : OkL l) (km : OkL m) (hR : AK.RowC w s c l) (hM : AK.RowC w s1 c1 m) :
    Calls Try.prog 4 #[.slice s l.length c, .slice s1 m.length c1] w fun e w' => e = .returned (.bool true) ∧ Below w.heap.size w w' := by
  have HOn := Lib.hid (fun l s c L w h h1 h2 => HOn l s c L w h h1 h2)
  have HTu := Lib.hid (fun l s c L w h h1 h2 => HTu l s c L w h h1 h2)
  have HLi := Lib.hid (fun l bad s v c d L w h h1 h2 h3 h4 => HLi l bad s v c d L w h h1 h2 h3 h4)
  have HFi := Lib.hid (fun n l s c L w h h1 h2 => HFi n l s c L w h h1 h2)
  have HPl := Lib.hid (fun l a s c r w h h1 h2 => HPl l a s c r w h h1 h2)
  have HWk := Lib.hid (fun w => HWk w)
  have HB := Lib.hid (Below.refl w.heap.size w)
  have Hl := Lib.hid hR
  have hml : l.length ≤ 9223372036854775807 := by have h1 := hR.1; have h2 := hR.2.1; unfold maxLen at h2; omega
  have Hm := Lib.hid hM
  have hmm : m.length ≤ 9223372036854775807 := by have h1 := hM.1; have h2 := hM.2.1; unfold maxLen at h2; omega
  have HKl := Lib.hid kl
  clear kl
  have HKm := Lib.hid km
  clear km
  clear hR hM
  go_enter Try.func4, Try.ntmps4
  have HG := Lib.hid (rgreatA_any l s c _ w rfl hml)
  by_cases hg0 : 60 < l.length
  · rw [decide_eq_true hg0] at HG
    go_wp2_with fail
    (with_reducible refine HG.out.mono ?_)
    rintro e w1 ⟨rfl, hw1⟩
    subst w1
    go_wp2_with fail
    with_reducible refine (HWk.out _).mono ?_
    rintro e wf ⟨rfl, hb⟩
    have HBf := Lib.hid (HB.out.trans (hb.mono HB.out.size))
    clear hb
    go_wp2_with fail
    go_ret
    exact ⟨rfl, HBf.out⟩
  rw [decide_eq_false hg0] at HG
  go_wp2_with fail
  (with_reducible refine HG.out.mono ?_)
  rintro e w1 ⟨rfl, hw1⟩
  subst w1
  clear HG
  have HG := Lib.hid (rgreatA_any m s1 c1 _ w rfl hmm)
  by_cases hg1 : 60 < m.length
  · rw [decide_eq_true hg1] at HG
    go_wp2_with fail
    (with_reducible refine HG.out.mono ?_)
    rintro e w1 ⟨rfl, hw1⟩
    subst w1
    go_wp2_with fail
    with_reducible refine (HWk.out _).mono ?_
    rintro e wf ⟨rfl, hb⟩
    have HBf := Lib.hid (HB.out.trans (hb.mono HB.out.size))
    clear hb
    go_wp2_with fail
    go_ret
    exact ⟨rfl, HBf.out⟩
  rw [decide_eq_false hg1] at HG
  go_wp2_with fail
  (with_reducible refine HG.out.mono ?_)
  rintro e w1 ⟨rfl, hw1⟩
  subst w1
  clear HG
  have hll : l.length ≤ 60 := by omega
  have hlm : m.length ≤ 60 := by omega
  obtain ⟨L, hL⟩ : ∃ x, x = Turn.list famA l m := ⟨_, rfl⟩
  have HMem := Lib.hid (show ∀ (j : Nat) (x : Ad), l[j]? = some x → decide (placeZ L x < 0) = false from fun j x hx => by rw [hL]; exact whole_mem hx)
  have HAt := Lib.hid (show ∀ (i : Nat) (x : Ad), L[i]? = some x → placeZ L x = i from fun i x hx => whole_at (by rw [hL]; exact Turn.list_nodup l m) hx)
  have HIn := Lib.hid (show ∀ (i : Nat) (x : Ad), L[i]? = some x → decide (placeZ l x < 0) = false from fun i x hx => by rw [hL] at hx; exact decide_eq_false (fun h => place_neg.1 h (Turn.mem_list.1 (List.mem_of_getElem? hx))))
  have HOd := Lib.hid (show ∀ (k i : Nat) (x y : Ad), k < i → L[k]? = some x → L[i]? = some y → (x ∈ m → y ∈ m) ∧ ((x ∈ m ↔ y ∈ m) → x.f = y.f → placeZ l x ≤ placeZ l y) from fun k i x y hk hx hy => by rw [hL] at hx hy; exact whole_ord hk hx hy)
  have hLn : L.length ≤ 60 := by have h1 := Turn.list_len (fam := famA) l m; have h2 := Turn.once_len l; rw [hL]; omega
  replace hL := Lib.hid hL
  have HX := Lib.hid (HLi.out l m s s1 c c1 L w ⟨hL.out, HKl.out, HKm.out⟩ (by omega) (by omega) Hl.out Hm.out)
  go_wp2_with fail
  with_reducible refine HX.out.mono ?_
  rintro e w1 ⟨a1, b1, rfl, hR, hb⟩
  clear HX
  replace Hl := Lib.hid (Hl.out.below hb)
  replace Hm := Lib.hid (Hm.out.below hb)
  replace HB := Lib.hid (HB.out.trans (hb.mono HB.out.size))
  clear hb
  have HA := Lib.hid hR
  clear hR
  go_wp2_with fail
  go_loopw [4, 6] (fun r i wr => ∃ kk : Nat, r = .bool false ∧ i = .int .i64 kk ∧ kk ≤ l.length ∧ Hid (Below w1.heap.size w1 wr)) (fun _ i _ => l.length - (intOf i).toNat)
  case atStart => exact ⟨0, rfl, rfl, by omega, Lib.hid (Below.refl _ _)⟩
  case round =>
    obtain ⟨q, rfl, rfl, hqP, hb0⟩ := hrel
    obtain ⟨wP, rfl⟩ : ∃ W : World, W = wr := ⟨_, rfl⟩
    have hb := hb0.out
    have HP := Lib.hid hb0.out
    clear hb0
    replace Hl := Lib.hid (Hl.out.below hb)
    replace Hm := Lib.hid (Hm.out.below hb)
    replace HA := Lib.hid (HA.out.below hb)
    replace HB := Lib.hid (HB.out.trans (hb.mono HB.out.size))
    clear hb
    by_cases hltP : q < l.length
    · obtain ⟨x, hx⟩ : ∃ x, l[q]? = some x := ⟨_, List.getElem?_eq_getElem hltP⟩
      have hd := HMem.out q x hx
      replace hx := Lib.hid hx
      obtain ⟨pz, hpz⟩ : ∃ r, r = placeZ L x := ⟨_, rfl⟩
      rw [← hpz] at hd
      replace hpz := Lib.hid hpz
      obtain ⟨b0, o0, rfl, hbl, hat⟩ := Hl.out.2.2.2 (by omega)
      have HCx := Lib.hid (fun (W : World) (h : Below wP.heap.size wP W) => AK.ten (hat.below h hbl) hx.out)
      clear hbl hat
      obtain ⟨⟨d0, d1, d2, d3, d4⟩, d5, d6, d7, d8, d9⟩ := HCx.out wP (Below.refl _ _)
      have hi1 : (q : Int) < (l.length : Int) := by omega
      have hi2 : (0 : Int) ≤ (q : Int) := by omega
      have HX := Lib.hid (rplace_any L x a1 b1 pz wP hpz.out HA.out)
      go_wp2_with fail
      with_reducible refine HX.out.mono ?_
      rintro e w2 ⟨rfl, hb⟩
      clear HX
      replace HP := Lib.hid (HP.out.trans (hb.mono HP.out.size))
      replace Hl := Lib.hid (Hl.out.below hb)
      replace Hm := Lib.hid (Hm.out.below hb)
      replace HA := Lib.hid (HA.out.below hb)
      replace HB := Lib.hid (HB.out.trans (hb.mono HB.out.size))
      clear hb
      clear d0 d1 d2 d3 d4 d5 d6 d7 d8 d9 hi1 hi2 HCx
      go_wp2_with fail
      go_roundw
      case rel => exact ⟨q + 1, rfl, by go_num, by omega, Lib.hid HP.out⟩
      case measure => simp [intOf]; omega
    · obtain rfl : q = l.length := by omega
      clear hltP hqP HP HMem
      go_wp2_with fail
      go_loopw [4, 7] (fun r i wr => ∃ kk : Nat, r = .bool false ∧ i = .int .i64 kk ∧ kk ≤ L.length ∧ Hid (Below wP.heap.size wP wr)) (fun _ i _ => L.length - (intOf i).toNat)
      case atStart => exact ⟨0, rfl, rfl, by omega, Lib.hid (Below.refl _ _)⟩
      case round =>
        obtain ⟨q, rfl, rfl, hqQ, hb0⟩ := hrel
        obtain ⟨wQ, rfl⟩ : ∃ W : World, W = wr := ⟨_, rfl⟩
        have hb := hb0.out
        have HQ := Lib.hid hb0.out
        clear hb0
        replace Hl := Lib.hid (Hl.out.below hb)
        replace Hm := Lib.hid (Hm.out.below hb)
        replace HA := Lib.hid (HA.out.below hb)
        replace HB := Lib.hid (HB.out.trans (hb.mono HB.out.size))
        clear hb
        by_cases hltQ : q < L.length
        · obtain ⟨y, hy⟩ : ∃ y, L[q]? = some y := ⟨_, List.getElem?_eq_getElem hltQ⟩
          have hat1 := HIn.out q y hy
          have hpL := Lib.hid (HAt.out q y hy).symm
          replace hy := Lib.hid hy
          obtain ⟨pa, hpa⟩ : ∃ r, r = placeZ l y := ⟨_, rfl⟩
          rw [← hpa] at hat1
          replace hpa := Lib.hid hpa
          obtain ⟨pb, hpb⟩ : ∃ r, r = placeZ m y := ⟨_, rfl⟩
          replace hpb := Lib.hid hpb
          obtain ⟨b2, o2, rfl, hbl, hat⟩ := HA.out.2.2.2 (by omega)
          have HCy := Lib.hid (fun (W : World) (h : Below wQ.heap.size wQ W) => AK.ten (hat.below h hbl) hy.out)
          clear hbl hat
          have hi1 : (q : Int) < (L.length : Int) := by omega
          have hi2 : (0 : Int) ≤ (q : Int) := by omega
          have hqq : ((q : Int) != (q : Int)) = false := by simp
          by_cases hil : y ∈ m
          · have hge : decide ((0 : Int) ≤ pb) = true := by have h := place_neg (l := m) (a := y); rw [← hpb.out] at h; simp; by_cases hh : pb < 0; exact absurd hil (h.1 hh); omega
            replace hil := Lib.hid hil
            go_upto_region 12 with fail
            refine ByOps.region_by_sk (by kernel_rfl) (ByOps.facts [.val (.slice s l.length c), .val (.slice (some ⟨b2, o2, none⟩) L.length b1), .val (.int .i64 (q : Int)), .val (.pointer (some ⟨b2, o2 + q * 10, none⟩)), .val (.agg #[.int .i8 y.f, .int .u16 y.g0, .int .u16 y.g1, .int .u16 y.g2, .int .u16 y.g3, .int .u16 y.g4, .int .u16 y.g5, .int .u16 y.g6, .int .u16 y.g7, .int .i64 y.p]), .val (.int .i64 pa), .val (.slice s1 m.length c1), .val (.slice (some ⟨b2, o2, none⟩) L.length b1), .val (.int .i64 (q : Int)), .val (.pointer (some ⟨b2, o2 + q * 10, none⟩)), .val (.agg #[.int .i8 y.f, .int .u16 y.g0, .int .u16 y.g1, .int .u16 y.g2, .int .u16 y.g3, .int .u16 y.g4, .int .u16 y.g5, .int .u16 y.g6, .int .u16 y.g7, .int .i64 y.p]), .val (.int .i64 pb), .val (.bool true), .val (.int .i64 pa), .val (.bool true)]) (ByOps.facts_up _) (by kernel_rfl) (fun _ => false) (ByOps.all_ops ?_) (ByOps.all_ops ?_) (ByOps.all_ops ?_) ?_
            · refine ⟨?_, ?_, ?_, ?_, ?_, ?_, ?_, ?_, ?_, ?_, ?_, ?_, ?_, ?_, ?_, trivial⟩
              · intro _ ρ w9 hB hs
                have hBB : Below wQ.heap.size wQ w9 := ⟨hB.os, hB.tape, hB.output, hB.size, hB.block⟩
                have h0 : ρ (.tmp 0) = .slice s l.length c := (hs _ (by simp [Op.operands, Call.operands])).2 (fun t ht => by cases ht; kernel_rfl)
                exact ByOps.runs_value (by first | rfl | go_simp) (Below.refl _ _) h0
              · intro _ ρ w9 hB hs
                have hBB : Below wQ.heap.size wQ w9 := ⟨hB.os, hB.tape, hB.output, hB.size, hB.block⟩
                have h5 : ρ (.tmp 5) = .slice (some ⟨b2, o2, none⟩) L.length b1 := (hs _ (by simp [Op.operands, Call.operands])).2 (fun t ht => by cases ht; kernel_rfl)
                exact ByOps.runs_value (by first | rfl | go_simp) (Below.refl _ _) h5
              · intro _ ρ w9 hB hs
                have hBB : Below wQ.heap.size wQ w9 := ⟨hB.os, hB.tape, hB.output, hB.size, hB.block⟩
                have h7 : ρ (.tmp 7) = .int .i64 (q : Int) := (hs _ (by simp [Op.operands, Call.operands])).2 (fun t ht => by cases ht; kernel_rfl)
                exact ByOps.runs_value (by first | rfl | go_simp) (Below.refl _ _) h7
              · intro _ ρ w9 hB hs
                have hBB : Below wQ.heap.size wQ w9 := ⟨hB.os, hB.tape, hB.output, hB.size, hB.block⟩
                have h42 : ρ (.tmp 42) = .slice (some ⟨b2, o2, none⟩) L.length b1 := (hs (.tmp 42) (by simp [Op.operands, Call.operands])).1 42 rfl 1 _ rfl rfl
                have h43 : ρ (.tmp 43) = .int .i64 (q : Int) := (hs (.tmp 43) (by simp [Op.operands, Call.operands])).1 43 rfl 2 _ rfl rfl
                exact ByOps.runs_value (v := .pointer (some ⟨b2, o2 + q * 10, none⟩)) (by first | rfl | go_simp) (Below.refl _ _) rfl
              · intro _ ρ w9 hB hs
                have hBB : Below wQ.heap.size wQ w9 := ⟨hB.os, hB.tape, hB.output, hB.size, hB.block⟩
                have h44 : ρ (.tmp 44) = .pointer (some ⟨b2, o2 + q * 10, none⟩) := (hs (.tmp 44) (by simp [Op.operands, Call.operands])).1 44 rfl 3 _ rfl rfl
                obtain ⟨⟨d0, d1, d2, d3, d4⟩, d5, d6, d7, d8, d9⟩ := HCy.out w9 hBB
                exact ByOps.runs_value (v := .agg #[.int .i8 y.f, .int .u16 y.g0, .int .u16 y.g1, .int .u16 y.g2, .int .u16 y.g3, .int .u16 y.g4, .int .u16 y.g5, .int .u16 y.g6, .int .u16 y.g7, .int .i64 y.p]) (by first | rfl | go_simp) (Below.refl _ _) rfl
              · intro _ ρ w9 hB hs
                have hBB : Below wQ.heap.size wQ w9 := ⟨hB.os, hB.tape, hB.output, hB.size, hB.block⟩
                have h41 : ρ (.tmp 41) = .slice s l.length c := (hs (.tmp 41) (by simp [Op.operands, Call.operands])).1 41 rfl 0 _ rfl rfl
                have h45 : ρ (.tmp 45) = .agg #[.int .i8 y.f, .int .u16 y.g0, .int .u16 y.g1, .int .u16 y.g2, .int .u16 y.g3, .int .u16 y.g4, .int .u16 y.g5, .int .u16 y.g6, .int .u16 y.g7, .int .i64 y.p] := (hs (.tmp 45) (by simp [Op.operands, Call.operands])).1 45 rfl 4 _ rfl rfl
                have hfn : ρ (.func 21) = .func (.func 21) #[] #[] := (hs _ (by simp [Op.operands, Call.operands])).2 (fun t ht => by cases ht)
                refine ByOps.runs_enter (f := 21) (args := #[.slice s l.length c, .agg #[.int .i8 y.f, .int .u16 y.g0, .int .u16 y.g1, .int .u16 y.g2, .int .u16 y.g3, .int .u16 y.g4, .int .u16 y.g5, .int .u16 y.g6, .int .u16 y.g7, .int .i64 y.p]]) (by go_simp) ?_
                exact (rplace_any l y s c pa w9 hpa.out (Hl.out.below hBB)).mono fun e w2 ⟨he, hb⟩ => ⟨_, he, hb, rfl⟩
              · intro _ ρ w9 hB hs
                have hBB : Below wQ.heap.size wQ w9 := ⟨hB.os, hB.tape, hB.output, hB.size, hB.block⟩
                have h1 : ρ (.tmp 1) = .slice s1 m.length c1 := (hs _ (by simp [Op.operands, Call.operands])).2 (fun t ht => by cases ht; kernel_rfl)
                exact ByOps.runs_value (by first | rfl | go_simp) (Below.refl _ _) h1
              · intro _ ρ w9 hB hs
                have hBB : Below wQ.heap.size wQ w9 := ⟨hB.os, hB.tape, hB.output, hB.size, hB.block⟩
                have h5 : ρ (.tmp 5) = .slice (some ⟨b2, o2, none⟩) L.length b1 := (hs _ (by simp [Op.operands, Call.operands])).2 (fun t ht => by cases ht; kernel_rfl)
                exact ByOps.runs_value (by first | rfl | go_simp) (Below.refl _ _) h5
              · intro _ ρ w9 hB hs
                have hBB : Below wQ.heap.size wQ w9 := ⟨hB.os, hB.tape, hB.output, hB.size, hB.block⟩
                have h7 : ρ (.tmp 7) = .int .i64 (q : Int) := (hs _ (by simp [Op.operands, Call.operands])).2 (fun t ht => by cases ht; kernel_rfl)
                exact ByOps.runs_value (by first | rfl | go_simp) (Below.refl _ _) h7
              · intro _ ρ w9 hB hs
                have hBB : Below wQ.heap.size wQ w9 := ⟨hB.os, hB.tape, hB.output, hB.size, hB.block⟩
                have h48 : ρ (.tmp 48) = .slice (some ⟨b2, o2, none⟩) L.length b1 := (hs (.tmp 48) (by simp [Op.operands, Call.operands])).1 48 rfl 7 _ rfl rfl
                have h49 : ρ (.tmp 49) = .int .i64 (q : Int) := (hs (.tmp 49) (by simp [Op.operands, Call.operands])).1 49 rfl 8 _ rfl rfl
                exact ByOps.runs_value (v := .pointer (some ⟨b2, o2 + q * 10, none⟩)) (by first | rfl | go_simp) (Below.refl _ _) rfl
              · intro _ ρ w9 hB hs
                have hBB : Below wQ.heap.size wQ w9 := ⟨hB.os, hB.tape, hB.output, hB.size, hB.block⟩
                have h50 : ρ (.tmp 50) = .pointer (some ⟨b2, o2 + q * 10, none⟩) := (hs (.tmp 50) (by simp [Op.operands, Call.operands])).1 50 rfl 9 _ rfl rfl
                obtain ⟨⟨d0, d1, d2, d3, d4⟩, d5, d6, d7, d8, d9⟩ := HCy.out w9 hBB
                exact ByOps.runs_value (v := .agg #[.int .i8 y.f, .int .u16 y.g0, .int .u16 y.g1, .int .u16 y.g2, .int .u16 y.g3, .int .u16 y.g4, .int .u16 y.g5, .int .u16 y.g6, .int .u16 y.g7, .int .i64 y.p]) (by first | rfl | go_simp) (Below.refl _ _) rfl
              · intro _ ρ w9 hB hs
                have hBB : Below wQ.heap.size wQ w9 := ⟨hB.os, hB.tape, hB.output, hB.size, hB.block⟩
                have h47 : ρ (.tmp 47) = .slice s1 m.length c1 := (hs (.tmp 47) (by simp [Op.operands, Call.operands])).1 47 rfl 6 _ rfl rfl
                have h51 : ρ (.tmp 51) = .agg #[.int .i8 y.f, .int .u16 y.g0, .int .u16 y.g1, .int .u16 y.g2, .int .u16 y.g3, .int .u16 y.g4, .int .u16 y.g5, .int .u16 y.g6, .int .u16 y.g7, .int .i64 y.p] := (hs (.tmp 51) (by simp [Op.operands, Call.operands])).1 51 rfl 10 _ rfl rfl
                have hfn : ρ (.func 21) = .func (.func 21) #[] #[] := (hs _ (by simp [Op.operands, Call.operands])).2 (fun t ht => by cases ht)
                refine ByOps.runs_enter (f := 21) (args := #[.slice s1 m.length c1, .agg #[.int .i8 y.f, .int .u16 y.g0, .int .u16 y.g1, .int .u16 y.g2, .int .u16 y.g3, .int .u16 y.g4, .int .u16 y.g5, .int .u16 y.g6, .int .u16 y.g7, .int .i64 y.p]]) (by go_simp) ?_
                exact (rplace_any m y s1 c1 pb w9 hpb.out (Hm.out.below hBB)).mono fun e w2 ⟨he, hb⟩ => ⟨_, he, hb, rfl⟩
              · intro _ ρ w9 hB hs
                have hBB : Below wQ.heap.size wQ w9 := ⟨hB.os, hB.tape, hB.output, hB.size, hB.block⟩
                have h52 : ρ (.tmp 52) = .int .i64 pb := (hs (.tmp 52) (by simp [Op.operands, Call.operands])).1 52 rfl 11 _ rfl rfl
                have hk : ρ (.const (.int .i64 0)) = .int .i64 0 := (hs _ (by simp [Op.operands, Call.operands])).2 (fun t ht => by cases ht)
                exact ByOps.runs_value (v := .bool true) (by first | rfl | go_simp) (Below.refl _ _) rfl
              · intro _ ρ w9 hB hs
                have hBB : Below wQ.heap.size wQ w9 := ⟨hB.os, hB.tape, hB.output, hB.size, hB.block⟩
                have h46 : ρ (.tmp 46) = .int .i64 pa := (hs (.tmp 46) (by simp [Op.operands, Call.operands])).1 46 rfl 5 _ rfl rfl
                exact ByOps.runs_value (by first | rfl | go_simp) (Below.refl _ _) h46
              · intro _ ρ w9 hB hs
                have hBB : Below wQ.heap.size wQ w9 := ⟨hB.os, hB.tape, hB.output, hB.size, hB.block⟩
                have h53 : ρ (.tmp 53) = .bool true := (hs (.tmp 53) (by simp [Op.operands, Call.operands])).1 53 rfl 12 _ rfl rfl
                exact ByOps.runs_value (by first | rfl | go_simp) (Below.refl _ _) h53
            · refine ⟨?_, ?_, ?_, ?_, ?_, ?_, ?_, ?_, ?_, ?_, ?_, ?_, ?_, ?_, ?_, trivial⟩
              all_goals first | (intro hs0; cases hs0; done) | (intro _; exact ⟨by simp, fun _ => rfl⟩)
            · refine ⟨?_, ?_, ?_, ?_, ?_, ?_, ?_, ?_, ?_, ?_, ?_, ?_, ?_, ?_, ?_, trivial⟩
              all_goals first | (intro g b h; cases h; done) | (intro g b h; cases h; intro v w h; exact ⟨fun h0 => (by first | exact h | cases h0), fun h0 => (by first | cases h0; done | exact .inl h | exact .inr h)⟩)
            · intro a9 wa hd9 hs9 ho9 hn9 hB9
              obtain ⟨v0, e0, p0⟩ := hn9 0 _ 41 rfl rfl
              obtain ⟨v1, e1, p1⟩ := hn9 1 _ 42 rfl rfl
              obtain ⟨v2, e2, p2⟩ := hn9 2 _ 43 rfl rfl
              obtain ⟨v3, e3, p3⟩ := hn9 3 _ 44 rfl rfl
              obtain ⟨v4, e4, p4⟩ := hn9 4 _ 45 rfl rfl
              obtain ⟨v5, e5, p5⟩ := hn9 5 _ 46 rfl rfl
              obtain ⟨v6, e6, p6⟩ := hn9 6 _ 47 rfl rfl
              obtain ⟨v7, e7, p7⟩ := hn9 7 _ 48 rfl rfl
              obtain ⟨v8, e8, p8⟩ := hn9 8 _ 49 rfl rfl
              obtain ⟨v9, e9, p9⟩ := hn9 9 _ 50 rfl rfl
              obtain ⟨v10, e10, p10⟩ := hn9 10 _ 51 rfl rfl
              obtain ⟨v11, e11, p11⟩ := hn9 11 _ 52 rfl rfl
              obtain ⟨v12, e12, p12⟩ := hn9 12 _ 53 rfl rfl
              obtain ⟨v13, e13, p13⟩ := hn9 13 _ 8 rfl rfl
              obtain ⟨v14, e14, p14⟩ := hn9 14 _ 9 rfl rfl
              obtain rfl : v0 = .slice s l.length c := p0
              obtain rfl : v1 = .slice (some ⟨b2, o2, none⟩) L.length b1 := p1
              obtain rfl : v2 = .int .i64 (q : Int) := p2
              obtain rfl : v3 = .pointer (some ⟨b2, o2 + q * 10, none⟩) := p3
              obtain rfl : v4 = .agg #[.int .i8 y.f, .int .u16 y.g0, .int .u16 y.g1, .int .u16 y.g2, .int .u16 y.g3, .int .u16 y.g4, .int .u16 y.g5, .int .u16 y.g6, .int .u16 y.g7, .int .i64 y.p] := p4
              obtain rfl : v5 = .int .i64 pa := p5
              obtain rfl : v6 = .slice s1 m.length c1 := p6
              obtain rfl : v7 = .slice (some ⟨b2, o2, none⟩) L.length b1 := p7
              obtain rfl : v8 = .int .i64 (q : Int) := p8
              obtain rfl : v9 = .pointer (some ⟨b2, o2 + q * 10, none⟩) := p9
              obtain rfl : v10 = .agg #[.int .i8 y.f, .int .u16 y.g0, .int .u16 y.g1, .int .u16 y.g2, .int .u16 y.g3, .int .u16 y.g4, .int .u16 y.g5, .int .u16 y.g6, .int .u16 y.g7, .int .i64 y.p] := p10
              obtain rfl : v11 = .int .i64 pb := p11
              obtain rfl : v12 = .bool true := p12
              obtain rfl : v13 = .int .i64 pa := p13
              obtain rfl : v14 = .bool true := p14
              have ha := ByOps.act_eq [(41, .slice s l.length c), (42, .slice (some ⟨b2, o2, none⟩) L.length b1), (43, .int .i64 (q : Int)), (44, .pointer (some ⟨b2, o2 + q * 10, none⟩)), (45, .agg #[.int .i8 y.f, .int .u16 y.g0, .int .u16 y.g1, .int .u16 y.g2, .int .u16 y.g3, .int .u16 y.g4, .int .u16 y.g5, .int .u16 y.g6, .int .u16 y.g7, .int .i64 y.p]), (46, .int .i64 pa), (47, .slice s1 m.length c1), (48, .slice (some ⟨b2, o2, none⟩) L.length b1), (49, .int .i64 (q : Int)), (50, .pointer (some ⟨b2, o2 + q * 10, none⟩)), (51, .agg #[.int .i8 y.f, .int .u16 y.g0, .int .u16 y.g1, .int .u16 y.g2, .int .u16 y.g3, .int .u16 y.g4, .int .u16 y.g5, .int .u16 y.g6, .int .u16 y.g7, .int .i64 y.p]), (52, .int .i64 pb), (53, .bool true), (8, .int .i64 pa), (9, .bool true)] a9 _ hd9 hs9 (fun t ht => ho9 t (ByOps.outer_of (ts := [41, 42, 43, 44, 45, 46, 47, 48, 49, 50, 51, 52, 53, 8, 9]) rfl ht)) (by intro p hp; simp only [List.mem_cons, List.not_mem_nil, or_false] at hp; rcases hp with rfl | rfl | rfl | rfl | rfl | rfl | rfl | rfl | rfl | rfl | rfl | rfl | rfl | rfl | rfl <;> assumption)
              rw [ha]
              clear ha hn9 ho9 hs9 hd9 e0 e1 e2 e3 e4 e5 e6 e7 e8 e9 e10 e11 e12 e13 e14
              simp only [List.foldl, Act.put, List.setIfInBounds_toArray, List.set_cons_zero, List.set_cons_succ]
              have hb9 : Below wQ.heap.size wQ wa := ⟨hB9.os, hB9.tape, hB9.output, hB9.size, hB9.block⟩
              clear hB9
              have hb := hb9
              clear hb9 HCy
              replace HQ := Lib.hid (HQ.out.trans (hb.mono HQ.out.size))
              replace Hl := Lib.hid (Hl.out.below hb)
              replace Hm := Lib.hid (Hm.out.below hb)
              replace HA := Lib.hid (HA.out.below hb)
              replace HB := Lib.hid (HB.out.trans (hb.mono HB.out.size))
              clear hb
              obtain ⟨b4, o4, hq4, hbl, hat⟩ := HA.out.2.2.2 (by omega)
              cases hq4
              have HCy := Lib.hid (fun (W : World) (h : Below wa.heap.size wa W) => AK.ten (hat.below h hbl) hy.out)
              clear hbl hat
              obtain ⟨⟨d0, d1, d2, d3, d4⟩, d5, d6, d7, d8, d9⟩ := HCy.out wa (Below.refl _ _)
              have HX := Lib.hid (rplace_any L y (some ⟨b2, o2, none⟩) b1 (q : Int) wa hpL.out HA.out)
              go_wp2_with fail
              with_reducible refine HX.out.mono ?_
              rintro e w2 ⟨rfl, hb⟩
              clear HX
              replace HQ := Lib.hid (HQ.out.trans (hb.mono HQ.out.size))
              replace Hl := Lib.hid (Hl.out.below hb)
              replace Hm := Lib.hid (Hm.out.below hb)
              replace HA := Lib.hid (HA.out.below hb)
              replace HB := Lib.hid (HB.out.trans (hb.mono HB.out.size))
              clear hb
              clear d0 d1 d2 d3 d4 d5 d6 d7 d8 d9 HCy hi1
              go_wp2_with fail
              go_loopw [4, 10] (fun r i wr => ∃ kk : Nat, r = .bool false ∧ i = .int .i64 kk ∧ kk ≤ q ∧ Hid (Below w2.heap.size w2 wr)) (fun _ i _ => q - (intOf i).toNat)
              case atStart => exact ⟨0, rfl, rfl, by omega, Lib.hid (Below.refl _ _)⟩
              case round =>
                obtain ⟨e, rfl, rfl, hqR, hb0⟩ := hrel
                obtain ⟨wR, rfl⟩ : ∃ W : World, W = wr := ⟨_, rfl⟩
                have hb := hb0.out
                have HR := Lib.hid hb0.out
                clear hb0
                replace HQ := Lib.hid (HQ.out.trans (hb.mono HQ.out.size))
                replace Hl := Lib.hid (Hl.out.below hb)
                replace Hm := Lib.hid (Hm.out.below hb)
                replace HA := Lib.hid (HA.out.below hb)
                replace HB := Lib.hid (HB.out.trans (hb.mono HB.out.size))
                clear hb
                by_cases hltR : e < q
                · obtain ⟨x, hx⟩ : ∃ x, L[e]? = some x := ⟨_, List.getElem?_eq_getElem (by omega)⟩
                  have HO2 := Lib.hid (HOd.out e q x y hltR hx hy.out)
                  replace hx := Lib.hid hx
                  obtain ⟨pc, hpc⟩ : ∃ r, r = placeZ m x := ⟨_, rfl⟩
                  replace hpc := Lib.hid hpc
                  obtain ⟨pd, hpd⟩ : ∃ r, r = placeZ l x := ⟨_, rfl⟩
                  replace hpd := Lib.hid hpd
                  have hj1 : (e : Int) < (L.length : Int) := by omega
                  have hj2 : (0 : Int) ≤ (e : Int) := by omega
                  have hi1 : (q : Int) < (L.length : Int) := by omega
                  by_cases hwas : x ∈ m
                  · have hge2 : decide ((0 : Int) ≤ pc) = true := by have h := place_neg (l := m) (a := x); rw [← hpc.out] at h; simp; by_cases hh : pc < 0; exact absurd hwas (h.1 hh); omega
                    have HLe := Lib.hid (show x.f = y.f → pd ≤ pa from fun h => by rw [hpd.out, hpa.out]; exact HO2.out.2 (iff_of_true hwas hil.out) h)
                    clear hwas
                    obtain ⟨b4, o4, hq4, hbl, hat⟩ := HA.out.2.2.2 (by omega)
                    cases hq4
                    have HCx := Lib.hid (fun (W : World) (h : Below wR.heap.size wR W) => AK.ten (hat.below h hbl) hx.out)
                    clear hbl hat
                    obtain ⟨⟨d0, d1, d2, d3, d4⟩, d5, d6, d7, d8, d9⟩ := HCx.out wR (Below.refl _ _)
                    have HX := Lib.hid (rplace_any m x s1 c1 pc wR hpc.out Hm.out)
                    go_wp2_with fail
                    with_reducible refine HX.out.mono ?_
                    rintro e w3 ⟨rfl, hb⟩
                    clear HX
                    replace HQ := Lib.hid (HQ.out.trans (hb.mono HQ.out.size))
                    replace HR := Lib.hid (HR.out.trans (hb.mono HR.out.size))
                    replace Hl := Lib.hid (Hl.out.below hb)
                    replace Hm := Lib.hid (Hm.out.below hb)
                    replace HA := Lib.hid (HA.out.below hb)
                    replace HB := Lib.hid (HB.out.trans (hb.mono HB.out.size))
                    clear hb
                    clear d0 d1 d2 d3 d4 d5 d6 d7 d8 d9 HCx
                    obtain ⟨b4, o4, hq4, hbl, hat⟩ := HA.out.2.2.2 (by omega)
                    cases hq4
                    have HCx := Lib.hid (fun (W : World) (h : Below w3.heap.size w3 W) => AK.ten (hat.below h hbl) hx.out)
                    clear hbl hat
                    obtain ⟨b4, o4, hq4, hbl, hat⟩ := HA.out.2.2.2 (by omega)
                    cases hq4
                    have HCy := Lib.hid (fun (W : World) (h : Below w3.heap.size w3 W) => AK.ten (hat.below h hbl) hy.out)
                    clear hbl hat
                    by_cases hf : x.f = y.f
                    · have hfe : (x.f == y.f) = true := by simp [hf]
                      have hgt : decide (pa < pd) = false := decide_eq_false (by have := HLe.out hf; omega)
                      clear hf
                      go_upto_region 19 with fail
                      refine ByOps.region_by_sk (by kernel_rfl) (ByOps.facts [.val (.bool true), .val (.bool true), .val (.bool true), .val (.bool false), .val (.bool false), .val (.bool false), .val (.bool true), .val (.bool true), .val (.bool true), .val (.bool true), .val (.slice (some ⟨b2, o2, none⟩) L.length b1), .val (.int .i64 (e : Int)), .val (.pointer (some ⟨b2, o2 + e * 10, none⟩)), .val (.pointer (some ⟨b2, o2 + e * 10, none⟩)), .val (.int .i8 x.f), .val (.slice (some ⟨b2, o2, none⟩) L.length b1), .val (.int .i64 (q : Int)), .val (.pointer (some ⟨b2, o2 + q * 10, none⟩)), .val (.pointer (some ⟨b2, o2 + q * 10, none⟩)), .val (.int .i8 y.f), .val (.bool true), .val (.bool true), .val (.bool true), .val (.slice s l.length c), .val (.slice (some ⟨b2, o2, none⟩) L.length b1), .val (.int .i64 (e : Int)), .val (.pointer (some ⟨b2, o2 + e * 10, none⟩)), .val (.agg #[.int .i8 x.f, .int .u16 x.g0, .int .u16 x.g1, .int .u16 x.g2, .int .u16 x.g3, .int .u16 x.g4, .int .u16 x.g5, .int .u16 x.g6, .int .u16 x.g7, .int .i64 x.p]), .val (.int .i64 pd), .val (.int .i64 pa), .val (.bool false), .val (.bool false), .val (.bool false)]) (ByOps.facts_up _) (by kernel_rfl) (fun _ => false) (ByOps.all_ops ?_) (ByOps.all_ops ?_) (ByOps.all_ops ?_) ?_
                      · refine ⟨?_, ?_, ?_, ?_, ?_, ?_, ?_, ?_, ?_, ?_, ?_, ?_, ?_, ?_, ?_, ?_, ?_, ?_, ?_, ?_, ?_, ?_, ?_, ?_, ?_, ?_, ?_, ?_, ?_, ?_, ?_, ?_, ?_, trivial⟩
                        · intro _ ρ w9 hB hs
                          have hBB : Below w3.heap.size w3 w9 := ⟨hB.os, hB.tape, hB.output, hB.size, hB.block⟩
                          have h11 : ρ (.tmp 11) = .bool true := (hs _ (by simp [Op.operands, Call.operands])).2 (fun t ht => by cases ht; kernel_rfl)
                          exact ByOps.runs_value (by first | rfl | go_simp) (Below.refl _ _) h11
                        · intro _ ρ w9 hB hs
                          have hBB : Below w3.heap.size w3 w9 := ⟨hB.os, hB.tape, hB.output, hB.size, hB.block⟩
                          have h78 : ρ (.tmp 78) = .bool true := (hs (.tmp 78) (by simp [Op.operands, Call.operands])).1 78 rfl 0 _ rfl rfl
                          exact ByOps.runs_value (by first | rfl | go_simp) (Below.refl _ _) h78
                        · intro _ ρ w9 hB hs
                          have hBB : Below w3.heap.size w3 w9 := ⟨hB.os, hB.tape, hB.output, hB.size, hB.block⟩
                          have h9 : ρ (.tmp 9) = .bool true := (hs _ (by simp [Op.operands, Call.operands])).2 (fun t ht => by cases ht; kernel_rfl)
                          exact ByOps.runs_value (by first | rfl | go_simp) (Below.refl _ _) h9
                        · intro _ ρ w9 hB hs
                          have hBB : Below w3.heap.size w3 w9 := ⟨hB.os, hB.tape, hB.output, hB.size, hB.block⟩
                          have h80 : ρ (.tmp 80) = .bool true := (hs (.tmp 80) (by simp [Op.operands, Call.operands])).1 80 rfl 2 _ rfl rfl
                          exact ByOps.runs_value (v := .bool false) (by first | rfl | go_simp) (Below.refl _ _) rfl
                        · intro _ ρ w9 hB hs
                          have hBB : Below w3.heap.size w3 w9 := ⟨hB.os, hB.tape, hB.output, hB.size, hB.block⟩
                          have h79 : ρ (.tmp 79) = .bool true := (hs (.tmp 79) (by simp [Op.operands, Call.operands])).1 79 rfl 1 _ rfl rfl
                          have h81 : ρ (.tmp 81) = .bool false := (hs (.tmp 81) (by simp [Op.operands, Call.operands])).1 81 rfl 3 _ rfl rfl
                          exact ByOps.runs_value (v := .bool false) (by first | rfl | go_simp) (Below.refl _ _) rfl
                        · intro _ ρ w9 hB hs
                          have hBB : Below w3.heap.size w3 w9 := ⟨hB.os, hB.tape, hB.output, hB.size, hB.block⟩
                          have h82 : ρ (.tmp 82) = .bool false := (hs (.tmp 82) (by simp [Op.operands, Call.operands])).1 82 rfl 4 _ rfl rfl
                          exact ByOps.runs_value (by first | rfl | go_simp) (Below.refl _ _) h82
                        · intro _ ρ w9 hB hs
                          have hBB : Below w3.heap.size w3 w9 := ⟨hB.os, hB.tape, hB.output, hB.size, hB.block⟩
                          have h11 : ρ (.tmp 11) = .bool true := (hs _ (by simp [Op.operands, Call.operands])).2 (fun t ht => by cases ht; kernel_rfl)
                          exact ByOps.runs_value (by first | rfl | go_simp) (Below.refl _ _) h11
                        · intro _ ρ w9 hB hs
                          have hBB : Below w3.heap.size w3 w9 := ⟨hB.os, hB.tape, hB.output, hB.size, hB.block⟩
                          have h9 : ρ (.tmp 9) = .bool true := (hs _ (by simp [Op.operands, Call.operands])).2 (fun t ht => by cases ht; kernel_rfl)
                          exact ByOps.runs_value (by first | rfl | go_simp) (Below.refl _ _) h9
                        · intro _ ρ w9 hB hs
                          have hBB : Below w3.heap.size w3 w9 := ⟨hB.os, hB.tape, hB.output, hB.size, hB.block⟩
                          have h84 : ρ (.tmp 84) = .bool true := (hs (.tmp 84) (by simp [Op.operands, Call.operands])).1 84 rfl 6 _ rfl rfl
                          have h85 : ρ (.tmp 85) = .bool true := (hs (.tmp 85) (by simp [Op.operands, Call.operands])).1 85 rfl 7 _ rfl rfl
                          exact ByOps.runs_value (v := .bool true) (by first | rfl | go_simp) (Below.refl _ _) rfl
                        · intro _ ρ w9 hB hs
                          have hBB : Below w3.heap.size w3 w9 := ⟨hB.os, hB.tape, hB.output, hB.size, hB.block⟩
                          have h86 : ρ (.tmp 86) = .bool true := (hs (.tmp 86) (by simp [Op.operands, Call.operands])).1 86 rfl 8 _ rfl rfl
                          exact ByOps.runs_value (by first | rfl | go_simp) (Below.refl _ _) h86
                        · intro _ ρ w9 hB hs
                          have hBB : Below w3.heap.size w3 w9 := ⟨hB.os, hB.tape, hB.output, hB.size, hB.block⟩
                          have h5 : ρ (.tmp 5) = .slice (some ⟨b2, o2, none⟩) L.length b1 := (hs _ (by simp [Op.operands, Call.operands])).2 (fun t ht => by cases ht; kernel_rfl)
                          exact ByOps.runs_value (by first | rfl | go_simp) (Below.refl _ _) h5
                        · intro _ ρ w9 hB hs
                          have hBB : Below w3.heap.size w3 w9 := ⟨hB.os, hB.tape, hB.output, hB.size, hB.block⟩
                          have h10 : ρ (.tmp 10) = .int .i64 (e : Int) := (hs _ (by simp [Op.operands, Call.operands])).2 (fun t ht => by cases ht; kernel_rfl)
                          exact ByOps.runs_value (by first | rfl | go_simp) (Below.refl _ _) h10
                        · intro _ ρ w9 hB hs
                          have hBB : Below w3.heap.size w3 w9 := ⟨hB.os, hB.tape, hB.output, hB.size, hB.block⟩
                          have h88 : ρ (.tmp 88) = .slice (some ⟨b2, o2, none⟩) L.length b1 := (hs (.tmp 88) (by simp [Op.operands, Call.operands])).1 88 rfl 10 _ rfl rfl
                          have h89 : ρ (.tmp 89) = .int .i64 (e : Int) := (hs (.tmp 89) (by simp [Op.operands, Call.operands])).1 89 rfl 11 _ rfl rfl
                          exact ByOps.runs_value (v := .pointer (some ⟨b2, o2 + e * 10, none⟩)) (by first | rfl | go_simp) (Below.refl _ _) rfl
                        · intro _ ρ w9 hB hs
                          have hBB : Below w3.heap.size w3 w9 := ⟨hB.os, hB.tape, hB.output, hB.size, hB.block⟩
                          have h90 : ρ (.tmp 90) = .pointer (some ⟨b2, o2 + e * 10, none⟩) := (hs (.tmp 90) (by simp [Op.operands, Call.operands])).1 90 rfl 12 _ rfl rfl
                          exact ByOps.runs_value (v := .pointer (some ⟨b2, o2 + e * 10, none⟩)) (by first | rfl | go_simp) (Below.refl _ _) rfl
                        · intro _ ρ w9 hB hs
                          have hBB : Below w3.heap.size w3 w9 := ⟨hB.os, hB.tape, hB.output, hB.size, hB.block⟩
                          have h91 : ρ (.tmp 91) = .pointer (some ⟨b2, o2 + e * 10, none⟩) := (hs (.tmp 91) (by simp [Op.operands, Call.operands])).1 91 rfl 13 _ rfl rfl
                          obtain ⟨⟨d0, d1, d2, d3, d4⟩, d5, d6, d7, d8, d9⟩ := HCx.out w9 hBB
                          exact ByOps.runs_value (v := .int .i8 x.f) (by first | rfl | go_simp) (Below.refl _ _) rfl
                        · intro _ ρ w9 hB hs
                          have hBB : Below w3.heap.size w3 w9 := ⟨hB.os, hB.tape, hB.output, hB.size, hB.block⟩
                          have h5 : ρ (.tmp 5) = .slice (some ⟨b2, o2, none⟩) L.length b1 := (hs _ (by simp [Op.operands, Call.operands])).2 (fun t ht => by cases ht; kernel_rfl)
                          exact ByOps.runs_value (by first | rfl | go_simp) (Below.refl _ _) h5
                        · intro _ ρ w9 hB hs
                          have hBB : Below w3.heap.size w3 w9 := ⟨hB.os, hB.tape, hB.output, hB.size, hB.block⟩
                          have h7 : ρ (.tmp 7) = .int .i64 (q : Int) := (hs _ (by simp [Op.operands, Call.operands])).2 (fun t ht => by cases ht; kernel_rfl)
                          exact ByOps.runs_value (by first | rfl | go_simp) (Below.refl _ _) h7
                        · intro _ ρ w9 hB hs
                          have hBB : Below w3.heap.size w3 w9 := ⟨hB.os, hB.tape, hB.output, hB.size, hB.block⟩
                          have h93 : ρ (.tmp 93) = .slice (some ⟨b2, o2, none⟩) L.length b1 := (hs (.tmp 93) (by simp [Op.operands, Call.operands])).1 93 rfl 15 _ rfl rfl
                          have h94 : ρ (.tmp 94) = .int .i64 (q : Int) := (hs (.tmp 94) (by simp [Op.operands, Call.operands])).1 94 rfl 16 _ rfl rfl
                          exact ByOps.runs_value (v := .pointer (some ⟨b2, o2 + q * 10, none⟩)) (by first | rfl | go_simp) (Below.refl _ _) rfl
                        · intro _ ρ w9 hB hs
                          have hBB : Below w3.heap.size w3 w9 := ⟨hB.os, hB.tape, hB.output, hB.size, hB.block⟩
                          have h95 : ρ (.tmp 95) = .pointer (some ⟨b2, o2 + q * 10, none⟩) := (hs (.tmp 95) (by simp [Op.operands, Call.operands])).1 95 rfl 17 _ rfl rfl
                          exact ByOps.runs_value (v := .pointer (some ⟨b2, o2 + q * 10, none⟩)) (by first | rfl | go_simp) (Below.refl _ _) rfl
                        · intro _ ρ w9 hB hs
                          have hBB : Below w3.heap.size w3 w9 := ⟨hB.os, hB.tape, hB.output, hB.size, hB.block⟩
                          have h96 : ρ (.tmp 96) = .pointer (some ⟨b2, o2 + q * 10, none⟩) := (hs (.tmp 96) (by simp [Op.operands, Call.operands])).1 96 rfl 18 _ rfl rfl
                          obtain ⟨⟨k0, k1, k2, k3, k4⟩, k5, k6, k7, k8, k9⟩ := HCy.out w9 hBB
                          exact ByOps.runs_value (v := .int .i8 y.f) (by first | rfl | go_simp) (Below.refl _ _) rfl
                        · intro _ ρ w9 hB hs
                          have hBB : Below w3.heap.size w3 w9 := ⟨hB.os, hB.tape, hB.output, hB.size, hB.block⟩
                          have h92 : ρ (.tmp 92) = .int .i8 x.f := (hs (.tmp 92) (by simp [Op.operands, Call.operands])).1 92 rfl 14 _ rfl rfl
                          have h97 : ρ (.tmp 97) = .int .i8 y.f := (hs (.tmp 97) (by simp [Op.operands, Call.operands])).1 97 rfl 19 _ rfl rfl
                          exact ByOps.runs_value (v := .bool true) (by first | rfl | go_simp) (Below.refl _ _) rfl
                        · intro _ ρ w9 hB hs
                          have hBB : Below w3.heap.size w3 w9 := ⟨hB.os, hB.tape, hB.output, hB.size, hB.block⟩
                          have h87 : ρ (.tmp 87) = .bool true := (hs (.tmp 87) (by simp [Op.operands, Call.operands])).1 87 rfl 9 _ rfl rfl
                          have h98 : ρ (.tmp 98) = .bool true := (hs (.tmp 98) (by simp [Op.operands, Call.operands])).1 98 rfl 20 _ rfl rfl
                          exact ByOps.runs_value (v := .bool true) (by first | rfl | go_simp) (Below.refl _ _) rfl
                        · intro _ ρ w9 hB hs
                          have hBB : Below w3.heap.size w3 w9 := ⟨hB.os, hB.tape, hB.output, hB.size, hB.block⟩
                          have h99 : ρ (.tmp 99) = .bool true := (hs (.tmp 99) (by simp [Op.operands, Call.operands])).1 99 rfl 21 _ rfl rfl
                          exact ByOps.runs_value (by first | rfl | go_simp) (Below.refl _ _) h99
                        · intro _ ρ w9 hB hs
                          have hBB : Below w3.heap.size w3 w9 := ⟨hB.os, hB.tape, hB.output, hB.size, hB.block⟩
                          have h0 : ρ (.tmp 0) = .slice s l.length c := (hs _ (by simp [Op.operands, Call.operands])).2 (fun t ht => by cases ht; kernel_rfl)
                          exact ByOps.runs_value (by first | rfl | go_simp) (Below.refl _ _) h0
                        · intro _ ρ w9 hB hs
                          have hBB : Below w3.heap.size w3 w9 := ⟨hB.os, hB.tape, hB.output, hB.size, hB.block⟩
                          have h5 : ρ (.tmp 5) = .slice (some ⟨b2, o2, none⟩) L.length b1 := (hs _ (by simp [Op.operands, Call.operands])).2 (fun t ht => by cases ht; kernel_rfl)
                          exact ByOps.runs_value (by first | rfl | go_simp) (Below.refl _ _) h5
                        · intro _ ρ w9 hB hs
                          have hBB : Below w3.heap.size w3 w9 := ⟨hB.os, hB.tape, hB.output, hB.size, hB.block⟩
                          have h10 : ρ (.tmp 10) = .int .i64 (e : Int) := (hs _ (by simp [Op.operands, Call.operands])).2 (fun t ht => by cases ht; kernel_rfl)
                          exact ByOps.runs_value (by first | rfl | go_simp) (Below.refl _ _) h10
                        · intro _ ρ w9 hB hs
                          have hBB : Below w3.heap.size w3 w9 := ⟨hB.os, hB.tape, hB.output, hB.size, hB.block⟩
                          have h102 : ρ (.tmp 102) = .slice (some ⟨b2, o2, none⟩) L.length b1 := (hs (.tmp 102) (by simp [Op.operands, Call.operands])).1 102 rfl 24 _ rfl rfl
                          have h103 : ρ (.tmp 103) = .int .i64 (e : Int) := (hs (.tmp 103) (by simp [Op.operands, Call.operands])).1 103 rfl 25 _ rfl rfl
                          exact ByOps.runs_value (v := .pointer (some ⟨b2, o2 + e * 10, none⟩)) (by first | rfl | go_simp) (Below.refl _ _) rfl
                        · intro _ ρ w9 hB hs
                          have hBB : Below w3.heap.size w3 w9 := ⟨hB.os, hB.tape, hB.output, hB.size, hB.block⟩
                          have h104 : ρ (.tmp 104) = .pointer (some ⟨b2, o2 + e * 10, none⟩) := (hs (.tmp 104) (by simp [Op.operands, Call.operands])).1 104 rfl 26 _ rfl rfl
                          obtain ⟨⟨d0, d1, d2, d3, d4⟩, d5, d6, d7, d8, d9⟩ := HCx.out w9 hBB
                          exact ByOps.runs_value (v := .agg #[.int .i8 x.f, .int .u16 x.g0, .int .u16 x.g1, .int .u16 x.g2, .int .u16 x.g3, .int .u16 x.g4, .int .u16 x.g5, .int .u16 x.g6, .int .u16 x.g7, .int .i64 x.p]) (by first | rfl | go_simp) (Below.refl _ _) rfl
                        · intro _ ρ w9 hB hs
                          have hBB : Below w3.heap.size w3 w9 := ⟨hB.os, hB.tape, hB.output, hB.size, hB.block⟩
                          have h101 : ρ (.tmp 101) = .slice s l.length c := (hs (.tmp 101) (by simp [Op.operands, Call.operands])).1 101 rfl 23 _ rfl rfl
                          have h105 : ρ (.tmp 105) = .agg #[.int .i8 x.f, .int .u16 x.g0, .int .u16 x.g1, .int .u16 x.g2, .int .u16 x.g3, .int .u16 x.g4, .int .u16 x.g5, .int .u16 x.g6, .int .u16 x.g7, .int .i64 x.p] := (hs (.tmp 105) (by simp [Op.operands, Call.operands])).1 105 rfl 27 _ rfl rfl
                          have hfn : ρ (.func 21) = .func (.func 21) #[] #[] := (hs _ (by simp [Op.operands, Call.operands])).2 (fun t ht => by cases ht)
                          refine ByOps.runs_enter (f := 21) (args := #[.slice s l.length c, .agg #[.int .i8 x.f, .int .u16 x.g0, .int .u16 x.g1, .int .u16 x.g2, .int .u16 x.g3, .int .u16 x.g4, .int .u16 x.g5, .int .u16 x.g6, .int .u16 x.g7, .int .i64 x.p]]) (by go_simp) ?_
                          exact (rplace_any l x s c pd w9 hpd.out (Hl.out.below hBB)).mono fun e w2 ⟨he, hb⟩ => ⟨_, he, hb, rfl⟩
                        · intro _ ρ w9 hB hs
                          have hBB : Below w3.heap.size w3 w9 := ⟨hB.os, hB.tape, hB.output, hB.size, hB.block⟩
                          have h8 : ρ (.tmp 8) = .int .i64 pa := (hs _ (by simp [Op.operands, Call.operands])).2 (fun t ht => by cases ht; kernel_rfl)
                          exact ByOps.runs_value (by first | rfl | go_simp) (Below.refl _ _) h8
                        · intro _ ρ w9 hB hs
                          have hBB : Below w3.heap.size w3 w9 := ⟨hB.os, hB.tape, hB.output, hB.size, hB.block⟩
                          have h106 : ρ (.tmp 106) = .int .i64 pd := (hs (.tmp 106) (by simp [Op.operands, Call.operands])).1 106 rfl 28 _ rfl rfl
                          have h107 : ρ (.tmp 107) = .int .i64 pa := (hs (.tmp 107) (by simp [Op.operands, Call.operands])).1 107 rfl 29 _ rfl rfl
                          exact ByOps.runs_value (v := .bool false) (by first | rfl | go_simp) (Below.refl _ _) rfl
                        · intro _ ρ w9 hB hs
                          have hBB : Below w3.heap.size w3 w9 := ⟨hB.os, hB.tape, hB.output, hB.size, hB.block⟩
                          have h100 : ρ (.tmp 100) = .bool true := (hs (.tmp 100) (by simp [Op.operands, Call.operands])).1 100 rfl 22 _ rfl rfl
                          have h108 : ρ (.tmp 108) = .bool false := (hs (.tmp 108) (by simp [Op.operands, Call.operands])).1 108 rfl 30 _ rfl rfl
                          exact ByOps.runs_value (v := .bool false) (by first | rfl | go_simp) (Below.refl _ _) rfl
                        · intro _ ρ w9 hB hs
                          have hBB : Below w3.heap.size w3 w9 := ⟨hB.os, hB.tape, hB.output, hB.size, hB.block⟩
                          have h83 : ρ (.tmp 83) = .bool false := (hs (.tmp 83) (by simp [Op.operands, Call.operands])).1 83 rfl 5 _ rfl rfl
                          have h109 : ρ (.tmp 109) = .bool false := (hs (.tmp 109) (by simp [Op.operands, Call.operands])).1 109 rfl 31 _ rfl rfl
                          exact ByOps.runs_value (v := .bool false) (by first | rfl | go_simp) (Below.refl _ _) rfl
                      · refine ⟨?_, ?_, ?_, ?_, ?_, ?_, ?_, ?_, ?_, ?_, ?_, ?_, ?_, ?_, ?_, ?_, ?_, ?_, ?_, ?_, ?_, ?_, ?_, ?_, ?_, ?_, ?_, ?_, ?_, ?_, ?_, ?_, ?_, trivial⟩
                        all_goals first | (intro hs0; cases hs0; done) | (intro _; exact ⟨by simp, fun _ => rfl⟩)
                      · refine ⟨?_, ?_, ?_, ?_, ?_, ?_, ?_, ?_, ?_, ?_, ?_, ?_, ?_, ?_, ?_, ?_, ?_, ?_, ?_, ?_, ?_, ?_, ?_, ?_, ?_, ?_, ?_, ?_, ?_, ?_, ?_, ?_, ?_, trivial⟩
                        all_goals first | (intro g b h; cases h; done) | (intro g b h; cases h; intro v w h; exact ⟨fun h0 => (by first | exact h | cases h0), fun h0 => (by first | cases h0; done | exact .inl h | exact .inr h)⟩)
                      · intro a9 wb hd9 hs9 ho9 hn9 hB9
                        obtain ⟨v0, e0, p0⟩ := hn9 0 _ 78 rfl rfl
                        obtain ⟨v1, e1, p1⟩ := hn9 1 _ 79 rfl rfl
                        obtain ⟨v2, e2, p2⟩ := hn9 2 _ 80 rfl rfl
                        obtain ⟨v3, e3, p3⟩ := hn9 3 _ 81 rfl rfl
                        obtain ⟨v4, e4, p4⟩ := hn9 4 _ 82 rfl rfl
                        obtain ⟨v5, e5, p5⟩ := hn9 5 _ 83 rfl rfl
                        obtain ⟨v6, e6, p6⟩ := hn9 6 _ 84 rfl rfl
                        obtain ⟨v7, e7, p7⟩ := hn9 7 _ 85 rfl rfl
                        obtain ⟨v8, e8, p8⟩ := hn9 8 _ 86 rfl rfl
                        obtain ⟨v9, e9, p9⟩ := hn9 9 _ 87 rfl rfl
                        obtain ⟨v10, e10, p10⟩ := hn9 10 _ 88 rfl rfl
                        obtain ⟨v11, e11, p11⟩ := hn9 11 _ 89 rfl rfl
                        obtain ⟨v12, e12, p12⟩ := hn9 12 _ 90 rfl rfl
                        obtain ⟨v13, e13, p13⟩ := hn9 13 _ 91 rfl rfl
                        obtain ⟨v14, e14, p14⟩ := hn9 14 _ 92 rfl rfl
                        obtain ⟨v15, e15, p15⟩ := hn9 15 _ 93 rfl rfl
                        obtain ⟨v16, e16, p16⟩ := hn9 16 _ 94 rfl rfl
                        obtain ⟨v17, e17, p17⟩ := hn9 17 _ 95 rfl rfl
                        obtain ⟨v18, e18, p18⟩ := hn9 18 _ 96 rfl rfl
                        obtain ⟨v19, e19, p19⟩ := hn9 19 _ 97 rfl rfl
                        obtain ⟨v20, e20, p20⟩ := hn9 20 _ 98 rfl rfl
                        obtain ⟨v21, e21, p21⟩ := hn9 21 _ 99 rfl rfl
                        obtain ⟨v22, e22, p22⟩ := hn9 22 _ 100 rfl rfl
                        obtain ⟨v23, e23, p23⟩ := hn9 23 _ 101 rfl rfl
                        obtain ⟨v24, e24, p24⟩ := hn9 24 _ 102 rfl rfl
                        obtain ⟨v25, e25, p25⟩ := hn9 25 _ 103 rfl rfl
                        obtain ⟨v26, e26, p26⟩ := hn9 26 _ 104 rfl rfl
                        obtain ⟨v27, e27, p27⟩ := hn9 27 _ 105 rfl rfl
                        obtain ⟨v28, e28, p28⟩ := hn9 28 _ 106 rfl rfl
                        obtain ⟨v29, e29, p29⟩ := hn9 29 _ 107 rfl rfl
                        obtain ⟨v30, e30, p30⟩ := hn9 30 _ 108 rfl rfl
                        obtain ⟨v31, e31, p31⟩ := hn9 31 _ 109 rfl rfl
                        obtain ⟨v32, e32, p32⟩ := hn9 32 _ 110 rfl rfl
                        obtain rfl : v0 = .bool true := p0
                        obtain rfl : v1 = .bool true := p1
                        obtain rfl : v2 = .bool true := p2
                        obtain rfl : v3 = .bool false := p3
                        obtain rfl : v4 = .bool false := p4
                        obtain rfl : v5 = .bool false := p5
                        obtain rfl : v6 = .bool true := p6
                        obtain rfl : v7 = .bool true := p7
                        obtain rfl : v8 = .bool true := p8
                        obtain rfl : v9 = .bool true := p9
                        obtain rfl : v10 = .slice (some ⟨b2, o2, none⟩) L.length b1 := p10
                        obtain rfl : v11 = .int .i64 (e : Int) := p11
                        obtain rfl : v12 = .pointer (some ⟨b2, o2 + e * 10, none⟩) := p12
                        obtain rfl : v13 = .pointer (some ⟨b2, o2 + e * 10, none⟩) := p13
                        obtain rfl : v14 = .int .i8 x.f := p14
                        obtain rfl : v15 = .slice (some ⟨b2, o2, none⟩) L.length b1 := p15
                        obtain rfl : v16 = .int .i64 (q : Int) := p16
                        obtain rfl : v17 = .pointer (some ⟨b2, o2 + q * 10, none⟩) := p17
                        obtain rfl : v18 = .pointer (some ⟨b2, o2 + q * 10, none⟩) := p18
                        obtain rfl : v19 = .int .i8 y.f := p19
                        obtain rfl : v20 = .bool true := p20
                        obtain rfl : v21 = .bool true := p21
                        obtain rfl : v22 = .bool true := p22
                        obtain rfl : v23 = .slice s l.length c := p23
                        obtain rfl : v24 = .slice (some ⟨b2, o2, none⟩) L.length b1 := p24
                        obtain rfl : v25 = .int .i64 (e : Int) := p25
                        obtain rfl : v26 = .pointer (some ⟨b2, o2 + e * 10, none⟩) := p26
                        obtain rfl : v27 = .agg #[.int .i8 x.f, .int .u16 x.g0, .int .u16 x.g1, .int .u16 x.g2, .int .u16 x.g3, .int .u16 x.g4, .int .u16 x.g5, .int .u16 x.g6, .int .u16 x.g7, .int .i64 x.p] := p27
                        obtain rfl : v28 = .int .i64 pd := p28
                        obtain rfl : v29 = .int .i64 pa := p29
                        obtain rfl : v30 = .bool false := p30
                        obtain rfl : v31 = .bool false := p31
                        obtain rfl : v32 = .bool false := p32
                        have ha := ByOps.act_eq [(78, .bool true), (79, .bool true), (80, .bool true), (81, .bool false), (82, .bool false), (83, .bool false), (84, .bool true), (85, .bool true), (86, .bool true), (87, .bool true), (88, .slice (some ⟨b2, o2, none⟩) L.length b1), (89, .int .i64 (e : Int)), (90, .pointer (some ⟨b2, o2 + e * 10, none⟩)), (91, .pointer (some ⟨b2, o2 + e * 10, none⟩)), (92, .int .i8 x.f), (93, .slice (some ⟨b2, o2, none⟩) L.length b1), (94, .int .i64 (q : Int)), (95, .pointer (some ⟨b2, o2 + q * 10, none⟩)), (96, .pointer (some ⟨b2, o2 + q * 10, none⟩)), (97, .int .i8 y.f), (98, .bool true), (99, .bool true), (100, .bool true), (101, .slice s l.length c), (102, .slice (some ⟨b2, o2, none⟩) L.length b1), (103, .int .i64 (e : Int)), (104, .pointer (some ⟨b2, o2 + e * 10, none⟩)), (105, .agg #[.int .i8 x.f, .int .u16 x.g0, .int .u16 x.g1, .int .u16 x.g2, .int .u16 x.g3, .int .u16 x.g4, .int .u16 x.g5, .int .u16 x.g6, .int .u16 x.g7, .int .i64 x.p]), (106, .int .i64 pd), (107, .int .i64 pa), (108, .bool false), (109, .bool false), (110, .bool false)] a9 _ hd9 hs9 (fun t ht => ho9 t (ByOps.outer_of (ts := [78, 79, 80, 81, 82, 83, 84, 85, 86, 87, 88, 89, 90, 91, 92, 93, 94, 95, 96, 97, 98, 99, 100, 101, 102, 103, 104, 105, 106, 107, 108, 109, 110]) rfl ht)) (by intro p hp; simp only [List.mem_cons, List.not_mem_nil, or_false] at hp; rcases hp with rfl | rfl | rfl | rfl | rfl | rfl | rfl | rfl | rfl | rfl | rfl | rfl | rfl | rfl | rfl | rfl | rfl | rfl | rfl | rfl | rfl | rfl | rfl | rfl | rfl | rfl | rfl | rfl | rfl | rfl | rfl | rfl | rfl <;> assumption)
                        rw [ha]
                        clear ha hn9 ho9 hs9 hd9 e0 e1 e2 e3 e4 e5 e6 e7 e8 e9 e10 e11 e12 e13 e14 e15 e16 e17 e18 e19 e20 e21 e22 e23 e24 e25 e26 e27 e28 e29 e30 e31 e32
                        simp only [List.foldl, Act.put, List.setIfInBounds_toArray, List.set_cons_zero, List.set_cons_succ]
                        have hb9 : Below w3.heap.size w3 wb := ⟨hB9.os, hB9.tape, hB9.output, hB9.size, hB9.block⟩
                        clear hB9
                        have hb := hb9
                        clear hb9 HCx HCy
                        replace HQ := Lib.hid (HQ.out.trans (hb.mono HQ.out.size))
                        replace HR := Lib.hid (HR.out.trans (hb.mono HR.out.size))
                        replace Hl := Lib.hid (Hl.out.below hb)
                        replace Hm := Lib.hid (Hm.out.below hb)
                        replace HA := Lib.hid (HA.out.below hb)
                        replace HB := Lib.hid (HB.out.trans (hb.mono HB.out.size))
                        clear hb
                        go_wp2_with fail
                        go_roundw
                        case rel => exact ⟨e + 1, rfl, by go_num, by omega, Lib.hid HR.out⟩
                        case measure => simp [intOf]; omega
                    · have hfe : (x.f == y.f) = false := by simp [hf]
                      clear hf
                      go_upto_region 19 with fail
                      refine ByOps.region_by_sk (by kernel_rfl) (ByOps.facts [.val (.bool true), .val (.bool true), .val (.bool true), .val (.bool false), .val (.bool false), .val (.bool false), .val (.bool true), .val (.bool true), .val (.bool true), .val (.bool true), .val (.slice (some ⟨b2, o2, none⟩) L.length b1), .val (.int .i64 (e : Int)), .val (.pointer (some ⟨b2, o2 + e * 10, none⟩)), .val (.pointer (some ⟨b2, o2 + e * 10, none⟩)), .val (.int .i8 x.f), .val (.slice (some ⟨b2, o2, none⟩) L.length b1), .val (.int .i64 (q : Int)), .val (.pointer (some ⟨b2, o2 + q * 10, none⟩)), .val (.pointer (some ⟨b2, o2 + q * 10, none⟩)), .val (.int .i8 y.f), .val (.bool false), .val (.bool false), .val (.bool false), .un, .un, .un, .un, .un, .un, .un, .un, .val (.bool false), .val (.bool false)]) (ByOps.facts_up _) (by kernel_rfl) (fun i => i == 23 || i == 24 || i == 25 || i == 26 || i == 27 || i == 28 || i == 29 || i == 30) (ByOps.all_ops ?_) (ByOps.all_ops ?_) (ByOps.all_ops ?_) ?_
                      · refine ⟨?_, ?_, ?_, ?_, ?_, ?_, ?_, ?_, ?_, ?_, ?_, ?_, ?_, ?_, ?_, ?_, ?_, ?_, ?_, ?_, ?_, ?_, ?_, ?_, ?_, ?_, ?_, ?_, ?_, ?_, ?_, ?_, ?_, trivial⟩
                        · intro _ ρ w9 hB hs
                          have hBB : Below w3.heap.size w3 w9 := ⟨hB.os, hB.tape, hB.output, hB.size, hB.block⟩
                          have h11 : ρ (.tmp 11) = .bool true := (hs _ (by simp [Op.operands, Call.operands])).2 (fun t ht => by cases ht; kernel_rfl)
                          exact ByOps.runs_value (by first | rfl | go_simp) (Below.refl _ _) h11
                        · intro _ ρ w9 hB hs
                          have hBB : Below w3.heap.size w3 w9 := ⟨hB.os, hB.tape, hB.output, hB.size, hB.block⟩
                          have h78 : ρ (.tmp 78) = .bool true := (hs (.tmp 78) (by simp [Op.operands, Call.operands])).1 78 rfl 0 _ rfl rfl
                          exact ByOps.runs_value (by first | rfl | go_simp) (Below.refl _ _) h78
                        · intro _ ρ w9 hB hs
                          have hBB : Below w3.heap.size w3 w9 := ⟨hB.os, hB.tape, hB.output, hB.size, hB.block⟩
                          have h9 : ρ (.tmp 9) = .bool true := (hs _ (by simp [Op.operands, Call.operands])).2 (fun t ht => by cases ht; kernel_rfl)
                          exact ByOps.runs_value (by first | rfl | go_simp) (Below.refl _ _) h9
                        · intro _ ρ w9 hB hs
                          have hBB : Below w3.heap.size w3 w9 := ⟨hB.os, hB.tape, hB.output, hB.size, hB.block⟩
                          have h80 : ρ (.tmp 80) = .bool true := (hs (.tmp 80) (by simp [Op.operands, Call.operands])).1 80 rfl 2 _ rfl rfl
                          exact ByOps.runs_value (v := .bool false) (by first | rfl | go_simp) (Below.refl _ _) rfl
                        · intro _ ρ w9 hB hs
                          have hBB : Below w3.heap.size w3 w9 := ⟨hB.os, hB.tape, hB.output, hB.size, hB.block⟩
                          have h79 : ρ (.tmp 79) = .bool true := (hs (.tmp 79) (by simp [Op.operands, Call.operands])).1 79 rfl 1 _ rfl rfl
                          have h81 : ρ (.tmp 81) = .bool false := (hs (.tmp 81) (by simp [Op.operands, Call.operands])).1 81 rfl 3 _ rfl rfl
                          exact ByOps.runs_value (v := .bool false) (by first | rfl | go_simp) (Below.refl _ _) rfl
                        · intro _ ρ w9 hB hs
                          have hBB : Below w3.heap.size w3 w9 := ⟨hB.os, hB.tape, hB.output, hB.size, hB.block⟩
                          have h82 : ρ (.tmp 82) = .bool false := (hs (.tmp 82) (by simp [Op.operands, Call.operands])).1 82 rfl 4 _ rfl rfl
                          exact ByOps.runs_value (by first | rfl | go_simp) (Below.refl _ _) h82
                        · intro _ ρ w9 hB hs
                          have hBB : Below w3.heap.size w3 w9 := ⟨hB.os, hB.tape, hB.output, hB.size, hB.block⟩
                          have h11 : ρ (.tmp 11) = .bool true := (hs _ (by simp [Op.operands, Call.operands])).2 (fun t ht => by cases ht; kernel_rfl)
                          exact ByOps.runs_value (by first | rfl | go_simp) (Below.refl _ _) h11
                        · intro _ ρ w9 hB hs
                          have hBB : Below w3.heap.size w3 w9 := ⟨hB.os, hB.tape, hB.output, hB.size, hB.block⟩
                          have h9 : ρ (.tmp 9) = .bool true := (hs _ (by simp [Op.operands, Call.operands])).2 (fun t ht => by cases ht; kernel_rfl)
                          exact ByOps.runs_value (by first | rfl | go_simp) (Below.refl _ _) h9
                        · intro _ ρ w9 hB hs
                          have hBB : Below w3.heap.size w3 w9 := ⟨hB.os, hB.tape, hB.output, hB.size, hB.block⟩
                          have h84 : ρ (.tmp 84) = .bool true := (hs (.tmp 84) (by simp [Op.operands, Call.operands])).1 84 rfl 6 _ rfl rfl
                          have h85 : ρ (.tmp 85) = .bool true := (hs (.tmp 85) (by simp [Op.operands, Call.operands])).1 85 rfl 7 _ rfl rfl
                          exact ByOps.runs_value (v := .bool true) (by first | rfl | go_simp) (Below.refl _ _) rfl
                        · intro _ ρ w9 hB hs
                          have hBB : Below w3.heap.size w3 w9 := ⟨hB.os, hB.tape, hB.output, hB.size, hB.block⟩
                          have h86 : ρ (.tmp 86) = .bool true := (hs (.tmp 86) (by simp [Op.operands, Call.operands])).1 86 rfl 8 _ rfl rfl
                          exact ByOps.runs_value (by first | rfl | go_simp) (Below.refl _ _) h86
                        · intro _ ρ w9 hB hs
                          have hBB : Below w3.heap.size w3 w9 := ⟨hB.os, hB.tape, hB.output, hB.size, hB.block⟩
                          have h5 : ρ (.tmp 5) = .slice (some ⟨b2, o2, none⟩) L.length b1 := (hs _ (by simp [Op.operands, Call.operands])).2 (fun t ht => by cases ht; kernel_rfl)
                          exact ByOps.runs_value (by first | rfl | go_simp) (Below.refl _ _) h5
                        · intro _ ρ w9 hB hs
                          have hBB : Below w3.heap.size w3 w9 := ⟨hB.os, hB.tape, hB.output, hB.size, hB.block⟩
                          have h10 : ρ (.tmp 10) = .int .i64 (e : Int) := (hs _ (by simp [Op.operands, Call.operands])).2 (fun t ht => by cases ht; kernel_rfl)
                          exact ByOps.runs_value (by first | rfl | go_simp) (Below.refl _ _) h10
                        · intro _ ρ w9 hB hs
                          have hBB : Below w3.heap.size w3 w9 := ⟨hB.os, hB.tape, hB.output, hB.size, hB.block⟩
                          have h88 : ρ (.tmp 88) = .slice (some ⟨b2, o2, none⟩) L.length b1 := (hs (.tmp 88) (by simp [Op.operands, Call.operands])).1 88 rfl 10 _ rfl rfl
                          have h89 : ρ (.tmp 89) = .int .i64 (e : Int) := (hs (.tmp 89) (by simp [Op.operands, Call.operands])).1 89 rfl 11 _ rfl rfl
                          exact ByOps.runs_value (v := .pointer (some ⟨b2, o2 + e * 10, none⟩)) (by first | rfl | go_simp) (Below.refl _ _) rfl
                        · intro _ ρ w9 hB hs
                          have hBB : Below w3.heap.size w3 w9 := ⟨hB.os, hB.tape, hB.output, hB.size, hB.block⟩
                          have h90 : ρ (.tmp 90) = .pointer (some ⟨b2, o2 + e * 10, none⟩) := (hs (.tmp 90) (by simp [Op.operands, Call.operands])).1 90 rfl 12 _ rfl rfl
                          exact ByOps.runs_value (v := .pointer (some ⟨b2, o2 + e * 10, none⟩)) (by first | rfl | go_simp) (Below.refl _ _) rfl
                        · intro _ ρ w9 hB hs
                          have hBB : Below w3.heap.size w3 w9 := ⟨hB.os, hB.tape, hB.output, hB.size, hB.block⟩
                          have h91 : ρ (.tmp 91) = .pointer (some ⟨b2, o2 + e * 10, none⟩) := (hs (.tmp 91) (by simp [Op.operands, Call.operands])).1 91 rfl 13 _ rfl rfl
                          obtain ⟨⟨d0, d1, d2, d3, d4⟩, d5, d6, d7, d8, d9⟩ := HCx.out w9 hBB
                          exact ByOps.runs_value (v := .int .i8 x.f) (by first | rfl | go_simp) (Below.refl _ _) rfl
                        · intro _ ρ w9 hB hs
                          have hBB : Below w3.heap.size w3 w9 := ⟨hB.os, hB.tape, hB.output, hB.size, hB.block⟩
                          have h5 : ρ (.tmp 5) = .slice (some ⟨b2, o2, none⟩) L.length b1 := (hs _ (by simp [Op.operands, Call.operands])).2 (fun t ht => by cases ht; kernel_rfl)
                          exact ByOps.runs_value (by first | rfl | go_simp) (Below.refl _ _) h5
                        · intro _ ρ w9 hB hs
                          have hBB : Below w3.heap.size w3 w9 := ⟨hB.os, hB.tape, hB.output, hB.size, hB.block⟩
                          have h7 : ρ (.tmp 7) = .int .i64 (q : Int) := (hs _ (by simp [Op.operands, Call.operands])).2 (fun t ht => by cases ht; kernel_rfl)
                          exact ByOps.runs_value (by first | rfl | go_simp) (Below.refl _ _) h7
                        · intro _ ρ w9 hB hs
                          have hBB : Below w3.heap.size w3 w9 := ⟨hB.os, hB.tape, hB.output, hB.size, hB.block⟩
                          have h93 : ρ (.tmp 93) = .slice (some ⟨b2, o2, none⟩) L.length b1 := (hs (.tmp 93) (by simp [Op.operands, Call.operands])).1 93 rfl 15 _ rfl rfl
                          have h94 : ρ (.tmp 94) = .int .i64 (q : Int) := (hs (.tmp 94) (by simp [Op.operands, Call.operands])).1 94 rfl 16 _ rfl rfl
                          exact ByOps.runs_value (v := .pointer (some ⟨b2, o2 + q * 10, none⟩)) (by first | rfl | go_simp) (Below.refl _ _) rfl
                        · intro _ ρ w9 hB hs
                          have hBB : Below w3.heap.size w3 w9 := ⟨hB.os, hB.tape, hB.output, hB.size, hB.block⟩
                          have h95 : ρ (.tmp 95) = .pointer (some ⟨b2, o2 + q * 10, none⟩) := (hs (.tmp 95) (by simp [Op.operands, Call.operands])).1 95 rfl 17 _ rfl rfl
                          exact ByOps.runs_value (v := .pointer (some ⟨b2, o2 + q * 10, none⟩)) (by first | rfl | go_simp) (Below.refl _ _) rfl
                        · intro _ ρ w9 hB hs
                          have hBB : Below w3.heap.size w3 w9 := ⟨hB.os, hB.tape, hB.output, hB.size, hB.block⟩
                          have h96 : ρ (.tmp 96) = .pointer (some ⟨b2, o2 + q * 10, none⟩) := (hs (.tmp 96) (by simp [Op.operands, Call.operands])).1 96 rfl 18 _ rfl rfl
                          obtain ⟨⟨k0, k1, k2, k3, k4⟩, k5, k6, k7, k8, k9⟩ := HCy.out w9 hBB
                          exact ByOps.runs_value (v := .int .i8 y.f) (by first | rfl | go_simp) (Below.refl _ _) rfl
                        · intro _ ρ w9 hB hs
                          have hBB : Below w3.heap.size w3 w9 := ⟨hB.os, hB.tape, hB.output, hB.size, hB.block⟩
                          have h92 : ρ (.tmp 92) = .int .i8 x.f := (hs (.tmp 92) (by simp [Op.operands, Call.operands])).1 92 rfl 14 _ rfl rfl
                          have h97 : ρ (.tmp 97) = .int .i8 y.f := (hs (.tmp 97) (by simp [Op.operands, Call.operands])).1 97 rfl 19 _ rfl rfl
                          exact ByOps.runs_value (v := .bool false) (by first | rfl | go_simp) (Below.refl _ _) rfl
                        · intro _ ρ w9 hB hs
                          have hBB : Below w3.heap.size w3 w9 := ⟨hB.os, hB.tape, hB.output, hB.size, hB.block⟩
                          have h87 : ρ (.tmp 87) = .bool true := (hs (.tmp 87) (by simp [Op.operands, Call.operands])).1 87 rfl 9 _ rfl rfl
                          have h98 : ρ (.tmp 98) = .bool false := (hs (.tmp 98) (by simp [Op.operands, Call.operands])).1 98 rfl 20 _ rfl rfl
                          exact ByOps.runs_value (v := .bool false) (by first | rfl | go_simp) (Below.refl _ _) rfl
                        · intro _ ρ w9 hB hs
                          have hBB : Below w3.heap.size w3 w9 := ⟨hB.os, hB.tape, hB.output, hB.size, hB.block⟩
                          have h99 : ρ (.tmp 99) = .bool false := (hs (.tmp 99) (by simp [Op.operands, Call.operands])).1 99 rfl 21 _ rfl rfl
                          exact ByOps.runs_value (by first | rfl | go_simp) (Below.refl _ _) h99
                        · intro hs0; cases hs0
                        · intro hs0; cases hs0
                        · intro hs0; cases hs0
                        · intro hs0; cases hs0
                        · intro hs0; cases hs0
                        · intro hs0; cases hs0
                        · intro hs0; cases hs0
                        · intro hs0; cases hs0
                        · intro _ ρ w9 hB hs
                          have hBB : Below w3.heap.size w3 w9 := ⟨hB.os, hB.tape, hB.output, hB.size, hB.block⟩
                          have h100 : ρ (.tmp 100) = .bool false := (hs (.tmp 100) (by simp [Op.operands, Call.operands])).1 100 rfl 22 _ rfl rfl
                          have hk : ρ (.const (.bool false)) = .bool false := (hs _ (by simp [Op.operands, Call.operands])).2 (fun t ht => by cases ht)
                          exact ByOps.runs_value (v := .bool false) (by first | rfl | go_simp) (Below.refl _ _) rfl
                        · intro _ ρ w9 hB hs
                          have hBB : Below w3.heap.size w3 w9 := ⟨hB.os, hB.tape, hB.output, hB.size, hB.block⟩
                          have h83 : ρ (.tmp 83) = .bool false := (hs (.tmp 83) (by simp [Op.operands, Call.operands])).1 83 rfl 5 _ rfl rfl
                          have h109 : ρ (.tmp 109) = .bool false := (hs (.tmp 109) (by simp [Op.operands, Call.operands])).1 109 rfl 31 _ rfl rfl
                          exact ByOps.runs_value (v := .bool false) (by first | rfl | go_simp) (Below.refl _ _) rfl
                      · refine ⟨?_, ?_, ?_, ?_, ?_, ?_, ?_, ?_, ?_, ?_, ?_, ?_, ?_, ?_, ?_, ?_, ?_, ?_, ?_, ?_, ?_, ?_, ?_, ?_, ?_, ?_, ?_, ?_, ?_, ?_, ?_, ?_, ?_, trivial⟩
                        all_goals first | (intro hs0; cases hs0; done) | (intro _; exact ⟨by simp, fun _ => rfl⟩)
                      · refine ⟨?_, ?_, ?_, ?_, ?_, ?_, ?_, ?_, ?_, ?_, ?_, ?_, ?_, ?_, ?_, ?_, ?_, ?_, ?_, ?_, ?_, ?_, ?_, ?_, ?_, ?_, ?_, ?_, ?_, ?_, ?_, ?_, ?_, trivial⟩
                        all_goals first | (intro g b h; cases h; done) | (intro g b h; cases h; intro v w h; exact ⟨fun h0 => (by first | exact h | cases h0), fun h0 => (by first | cases h0; done | exact .inl h | exact .inr h)⟩)
                      · intro a9 wb hd9 hs9 ho9 hn9 hB9
                        obtain ⟨v0, e0, p0⟩ := hn9 0 _ 78 rfl rfl
                        obtain ⟨v1, e1, p1⟩ := hn9 1 _ 79 rfl rfl
                        obtain ⟨v2, e2, p2⟩ := hn9 2 _ 80 rfl rfl
                        obtain ⟨v3, e3, p3⟩ := hn9 3 _ 81 rfl rfl
                        obtain ⟨v4, e4, p4⟩ := hn9 4 _ 82 rfl rfl
                        obtain ⟨v5, e5, p5⟩ := hn9 5 _ 83 rfl rfl
                        obtain ⟨v6, e6, p6⟩ := hn9 6 _ 84 rfl rfl
                        obtain ⟨v7, e7, p7⟩ := hn9 7 _ 85 rfl rfl
                        obtain ⟨v8, e8, p8⟩ := hn9 8 _ 86 rfl rfl
                        obtain ⟨v9, e9, p9⟩ := hn9 9 _ 87 rfl rfl
                        obtain ⟨v10, e10, p10⟩ := hn9 10 _ 88 rfl rfl
                        obtain ⟨v11, e11, p11⟩ := hn9 11 _ 89 rfl rfl
                        obtain ⟨v12, e12, p12⟩ := hn9 12 _ 90 rfl rfl
                        obtain ⟨v13, e13, p13⟩ := hn9 13 _ 91 rfl rfl
                        obtain ⟨v14, e14, p14⟩ := hn9 14 _ 92 rfl rfl
                        obtain ⟨v15, e15, p15⟩ := hn9 15 _ 93 rfl rfl
                        obtain ⟨v16, e16, p16⟩ := hn9 16 _ 94 rfl rfl
                        obtain ⟨v17, e17, p17⟩ := hn9 17 _ 95 rfl rfl
                        obtain ⟨v18, e18, p18⟩ := hn9 18 _ 96 rfl rfl
                        obtain ⟨v19, e19, p19⟩ := hn9 19 _ 97 rfl rfl
                        obtain ⟨v20, e20, p20⟩ := hn9 20 _ 98 rfl rfl
                        obtain ⟨v21, e21, p21⟩ := hn9 21 _ 99 rfl rfl
                        obtain ⟨v22, e22, p22⟩ := hn9 22 _ 100 rfl rfl
                        obtain ⟨v23, e23, p23⟩ := hn9 23 _ 101 rfl rfl
                        obtain ⟨v24, e24, p24⟩ := hn9 24 _ 102 rfl rfl
                        obtain ⟨v25, e25, p25⟩ := hn9 25 _ 103 rfl rfl
                        obtain ⟨v26, e26, p26⟩ := hn9 26 _ 104 rfl rfl
                        obtain ⟨v27, e27, p27⟩ := hn9 27 _ 105 rfl rfl
                        obtain ⟨v28, e28, p28⟩ := hn9 28 _ 106 rfl rfl
                        obtain ⟨v29, e29, p29⟩ := hn9 29 _ 107 rfl rfl
                        obtain ⟨v30, e30, p30⟩ := hn9 30 _ 108 rfl rfl
                        obtain ⟨v31, e31, p31⟩ := hn9 31 _ 109 rfl rfl
                        obtain ⟨v32, e32, p32⟩ := hn9 32 _ 110 rfl rfl
                        obtain rfl : v0 = .bool true := p0
                        obtain rfl : v1 = .bool true := p1
                        obtain rfl : v2 = .bool true := p2
                        obtain rfl : v3 = .bool false := p3
                        obtain rfl : v4 = .bool false := p4
                        obtain rfl : v5 = .bool false := p5
                        obtain rfl : v6 = .bool true := p6
                        obtain rfl : v7 = .bool true := p7
                        obtain rfl : v8 = .bool true := p8
                        obtain rfl : v9 = .bool true := p9
                        obtain rfl : v10 = .slice (some ⟨b2, o2, none⟩) L.length b1 := p10
                        obtain rfl : v11 = .int .i64 (e : Int) := p11
                        obtain rfl : v12 = .pointer (some ⟨b2, o2 + e * 10, none⟩) := p12
                        obtain rfl : v13 = .pointer (some ⟨b2, o2 + e * 10, none⟩) := p13
                        obtain rfl : v14 = .int .i8 x.f := p14
                        obtain rfl : v15 = .slice (some ⟨b2, o2, none⟩) L.length b1 := p15
                        obtain rfl : v16 = .int .i64 (q : Int) := p16
                        obtain rfl : v17 = .pointer (some ⟨b2, o2 + q * 10, none⟩) := p17
                        obtain rfl : v18 = .pointer (some ⟨b2, o2 + q * 10, none⟩) := p18
                        obtain rfl : v19 = .int .i8 y.f := p19
                        obtain rfl : v20 = .bool false := p20
                        obtain rfl : v21 = .bool false := p21
                        obtain rfl : v22 = .bool false := p22
                        obtain rfl : v23 = undef := p23
                        obtain rfl : v24 = undef := p24
                        obtain rfl : v25 = undef := p25
                        obtain rfl : v26 = undef := p26
                        obtain rfl : v27 = undef := p27
                        obtain rfl : v28 = undef := p28
                        obtain rfl : v29 = undef := p29
                        obtain rfl : v30 = undef := p30
                        obtain rfl : v31 = .bool false := p31
                        obtain rfl : v32 = .bool false := p32
                        have ha := ByOps.act_eq [(78, .bool true), (79, .bool true), (80, .bool true), (81, .bool false), (82, .bool false), (83, .bool false), (84, .bool true), (85, .bool true), (86, .bool true), (87, .bool true), (88, .slice (some ⟨b2, o2, none⟩) L.length b1), (89, .int .i64 (e : Int)), (90, .pointer (some ⟨b2, o2 + e * 10, none⟩)), (91, .pointer (some ⟨b2, o2 + e * 10, none⟩)), (92, .int .i8 x.f), (93, .slice (some ⟨b2, o2, none⟩) L.length b1), (94, .int .i64 (q : Int)), (95, .pointer (some ⟨b2, o2 + q * 10, none⟩)), (96, .pointer (some ⟨b2, o2 + q * 10, none⟩)), (97, .int .i8 y.f), (98, .bool false), (99, .bool false), (100, .bool false), (101, undef), (102, undef), (103, undef), (104, undef), (105, undef), (106, undef), (107, undef), (108, undef), (109, .bool false), (110, .bool false)] a9 _ hd9 hs9 (fun t ht => ho9 t (ByOps.outer_of (ts := [78, 79, 80, 81, 82, 83, 84, 85, 86, 87, 88, 89, 90, 91, 92, 93, 94, 95, 96, 97, 98, 99, 100, 101, 102, 103, 104, 105, 106, 107, 108, 109, 110]) rfl ht)) (by intro p hp; simp only [List.mem_cons, List.not_mem_nil, or_false] at hp; rcases hp with rfl | rfl | rfl | rfl | rfl | rfl | rfl | rfl | rfl | rfl | rfl | rfl | rfl | rfl | rfl | rfl | rfl | rfl | rfl | rfl | rfl | rfl | rfl | rfl | rfl | rfl | rfl | rfl | rfl | rfl | rfl | rfl | rfl <;> assumption)
                        rw [ha]
                        clear ha hn9 ho9 hs9 hd9 e0 e1 e2 e3 e4 e5 e6 e7 e8 e9 e10 e11 e12 e13 e14 e15 e16 e17 e18 e19 e20 e21 e22 e23 e24 e25 e26 e27 e28 e29 e30 e31 e32
                        simp only [List.foldl, Act.put, List.setIfInBounds_toArray, List.set_cons_zero, List.set_cons_succ]
                        have hb9 : Below w3.heap.size w3 wb := ⟨hB9.os, hB9.tape, hB9.output, hB9.size, hB9.block⟩
                        clear hB9
                        have hb := hb9
                        clear hb9 HCx HCy
                        replace HQ := Lib.hid (HQ.out.trans (hb.mono HQ.out.size))
                        replace HR := Lib.hid (HR.out.trans (hb.mono HR.out.size))
                        replace Hl := Lib.hid (Hl.out.below hb)
                        replace Hm := Lib.hid (Hm.out.below hb)
                        replace HA := Lib.hid (HA.out.below hb)
                        replace HB := Lib.hid (HB.out.trans (hb.mono HB.out.size))
                        clear hb
                        go_wp2_with fail
                        go_roundw
                        case rel => exact ⟨e + 1, rfl, by go_num, by omega, Lib.hid HR.out⟩
                        case measure => simp [intOf]; omega
                  · have hge2 : decide ((0 : Int) ≤ pc) = false := by have h := place_neg (l := m) (a := x); rw [← hpc.out] at h; simp; exact h.2 hwas
                    clear hwas
                    obtain ⟨b4, o4, hq4, hbl, hat⟩ := HA.out.2.2.2 (by omega)
                    cases hq4
                    have HCx := Lib.hid (fun (W : World) (h : Below wR.heap.size wR W) => AK.ten (hat.below h hbl) hx.out)
                    clear hbl hat
                    obtain ⟨⟨d0, d1, d2, d3, d4⟩, d5, d6, d7, d8, d9⟩ := HCx.out wR (Below.refl _ _)
                    have HX := Lib.hid (rplace_any m x s1 c1 pc wR hpc.out Hm.out)
                    go_wp2_with fail
                    with_reducible refine HX.out.mono ?_
                    rintro e w3 ⟨rfl, hb⟩
                    clear HX
                    replace HQ := Lib.hid (HQ.out.trans (hb.mono HQ.out.size))
                    replace HR := Lib.hid (HR.out.trans (hb.mono HR.out.size))
                    replace Hl := Lib.hid (Hl.out.below hb)
                    replace Hm := Lib.hid (Hm.out.below hb)
                    replace HA := Lib.hid (HA.out.below hb)
                    replace HB := Lib.hid (HB.out.trans (hb.mono HB.out.size))
                    clear hb
                    clear d0 d1 d2 d3 d4 d5 d6 d7 d8 d9 HCx
                    obtain ⟨b4, o4, hq4, hbl, hat⟩ := HA.out.2.2.2 (by omega)
                    cases hq4
                    have HCx := Lib.hid (fun (W : World) (h : Below w3.heap.size w3 W) => AK.ten (hat.below h hbl) hx.out)
                    clear hbl hat
                    obtain ⟨b4, o4, hq4, hbl, hat⟩ := HA.out.2.2.2 (by omega)
                    cases hq4
                    have HCy := Lib.hid (fun (W : World) (h : Below w3.heap.size w3 W) => AK.ten (hat.below h hbl) hy.out)
                    clear hbl hat
                    go_upto_region 19 with fail
                    refine ByOps.region_by_sk (by kernel_rfl) (ByOps.facts [.val (.bool false), .val (.bool false), .un, .un, .val (.bool false), .val (.bool false), .val (.bool false), .val (.bool true), .val (.bool false), .val (.bool false), .un, .un, .un, .un, .un, .un, .un, .un, .un, .un, .un, .val (.bool false), .val (.bool false), .un, .un, .un, .un, .un, .un, .un, .un, .val (.bool false), .val (.bool false)]) (ByOps.facts_up _) (by kernel_rfl) (fun i => i == 2 || i == 3 || i == 10 || i == 11 || i == 12 || i == 13 || i == 14 || i == 15 || i == 16 || i == 17 || i == 18 || i == 19 || i == 20 || i == 23 || i == 24 || i == 25 || i == 26 || i == 27 || i == 28 || i == 29 || i == 30) (ByOps.all_ops ?_) (ByOps.all_ops ?_) (ByOps.all_ops ?_) ?_
                    · refine ⟨?_, ?_, ?_, ?_, ?_, ?_, ?_, ?_, ?_, ?_, ?_, ?_, ?_, ?_, ?_, ?_, ?_, ?_, ?_, ?_, ?_, ?_, ?_, ?_, ?_, ?_, ?_, ?_, ?_, ?_, ?_, ?_, ?_, trivial⟩
                      · intro _ ρ w9 hB hs
                        have hBB : Below w3.heap.size w3 w9 := ⟨hB.os, hB.tape, hB.output, hB.size, hB.block⟩
                        have h11 : ρ (.tmp 11) = .bool false := (hs _ (by simp [Op.operands, Call.operands])).2 (fun t ht => by cases ht; kernel_rfl)
                        exact ByOps.runs_value (by first | rfl | go_simp) (Below.refl _ _) h11
                      · intro _ ρ w9 hB hs
                        have hBB : Below w3.heap.size w3 w9 := ⟨hB.os, hB.tape, hB.output, hB.size, hB.block⟩
                        have h78 : ρ (.tmp 78) = .bool false := (hs (.tmp 78) (by simp [Op.operands, Call.operands])).1 78 rfl 0 _ rfl rfl
                        exact ByOps.runs_value (by first | rfl | go_simp) (Below.refl _ _) h78
                      · intro hs0; cases hs0
                      · intro hs0; cases hs0
                      · intro _ ρ w9 hB hs
                        have hBB : Below w3.heap.size w3 w9 := ⟨hB.os, hB.tape, hB.output, hB.size, hB.block⟩
                        have h79 : ρ (.tmp 79) = .bool false := (hs (.tmp 79) (by simp [Op.operands, Call.operands])).1 79 rfl 1 _ rfl rfl
                        have hk : ρ (.const (.bool false)) = .bool false := (hs _ (by simp [Op.operands, Call.operands])).2 (fun t ht => by cases ht)
                        exact ByOps.runs_value (v := .bool false) (by first | rfl | go_simp) (Below.refl _ _) rfl
                      · intro _ ρ w9 hB hs
                        have hBB : Below w3.heap.size w3 w9 := ⟨hB.os, hB.tape, hB.output, hB.size, hB.block⟩
                        have h82 : ρ (.tmp 82) = .bool false := (hs (.tmp 82) (by simp [Op.operands, Call.operands])).1 82 rfl 4 _ rfl rfl
                        exact ByOps.runs_value (by first | rfl | go_simp) (Below.refl _ _) h82
                      · intro _ ρ w9 hB hs
                        have hBB : Below w3.heap.size w3 w9 := ⟨hB.os, hB.tape, hB.output, hB.size, hB.block⟩
                        have h11 : ρ (.tmp 11) = .bool false := (hs _ (by simp [Op.operands, Call.operands])).2 (fun t ht => by cases ht; kernel_rfl)
                        exact ByOps.runs_value (by first | rfl | go_simp) (Below.refl _ _) h11
                      · intro _ ρ w9 hB hs
                        have hBB : Below w3.heap.size w3 w9 := ⟨hB.os, hB.tape, hB.output, hB.size, hB.block⟩
                        have h9 : ρ (.tmp 9) = .bool true := (hs _ (by simp [Op.operands, Call.operands])).2 (fun t ht => by cases ht; kernel_rfl)
                        exact ByOps.runs_value (by first | rfl | go_simp) (Below.refl _ _) h9
                      · intro _ ρ w9 hB hs
                        have hBB : Below w3.heap.size w3 w9 := ⟨hB.os, hB.tape, hB.output, hB.size, hB.block⟩
                        have h84 : ρ (.tmp 84) = .bool false := (hs (.tmp 84) (by simp [Op.operands, Call.operands])).1 84 rfl 6 _ rfl rfl
                        have h85 : ρ (.tmp 85) = .bool true := (hs (.tmp 85) (by simp [Op.operands, Call.operands])).1 85 rfl 7 _ rfl rfl
                        exact ByOps.runs_value (v := .bool false) (by first | rfl | go_simp) (Below.refl _ _) rfl
                      · intro _ ρ w9 hB hs
                        have hBB : Below w3.heap.size w3 w9 := ⟨hB.os, hB.tape, hB.output, hB.size, hB.block⟩
                        have h86 : ρ (.tmp 86) = .bool false := (hs (.tmp 86) (by simp [Op.operands, Call.operands])).1 86 rfl 8 _ rfl rfl
                        exact ByOps.runs_value (by first | rfl | go_simp) (Below.refl _ _) h86
                      · intro hs0; cases hs0
                      · intro hs0; cases hs0
                      · intro hs0; cases hs0
                      · intro hs0; cases hs0
                      · intro hs0; cases hs0
                      · intro hs0; cases hs0
                      · intro hs0; cases hs0
                      · intro hs0; cases hs0
                      · intro hs0; cases hs0
                      · intro hs0; cases hs0
                      · intro hs0; cases hs0
                      · intro _ ρ w9 hB hs
                        have hBB : Below w3.heap.size w3 w9 := ⟨hB.os, hB.tape, hB.output, hB.size, hB.block⟩
                        have h87 : ρ (.tmp 87) = .bool false := (hs (.tmp 87) (by simp [Op.operands, Call.operands])).1 87 rfl 9 _ rfl rfl
                        have hk : ρ (.const (.bool false)) = .bool false := (hs _ (by simp [Op.operands, Call.operands])).2 (fun t ht => by cases ht)
                        exact ByOps.runs_value (v := .bool false) (by first | rfl | go_simp) (Below.refl _ _) rfl
                      · intro _ ρ w9 hB hs
                        have hBB : Below w3.heap.size w3 w9 := ⟨hB.os, hB.tape, hB.output, hB.size, hB.block⟩
                        have h99 : ρ (.tmp 99) = .bool false := (hs (.tmp 99) (by simp [Op.operands, Call.operands])).1 99 rfl 21 _ rfl rfl
                        exact ByOps.runs_value (by first | rfl | go_simp) (Below.refl _ _) h99
                      · intro hs0; cases hs0
                      · intro hs0; cases hs0
                      · intro hs0; cases hs0
                      · intro hs0; cases hs0
                      · intro hs0; cases hs0
                      · intro hs0; cases hs0
                      · intro hs0; cases hs0
                      · intro hs0; cases hs0
                      · intro _ ρ w9 hB hs
                        have hBB : Below w3.heap.size w3 w9 := ⟨hB.os, hB.tape, hB.output, hB.size, hB.block⟩
                        have h100 : ρ (.tmp 100) = .bool false := (hs (.tmp 100) (by simp [Op.operands, Call.operands])).1 100 rfl 22 _ rfl rfl
                        have hk : ρ (.const (.bool false)) = .bool false := (hs _ (by simp [Op.operands, Call.operands])).2 (fun t ht => by cases ht)
                        exact ByOps.runs_value (v := .bool false) (by first | rfl | go_simp) (Below.refl _ _) rfl
                      · intro _ ρ w9 hB hs
                        have hBB : Below w3.heap.size w3 w9 := ⟨hB.os, hB.tape, hB.output, hB.size, hB.block⟩
                        have h83 : ρ (.tmp 83) = .bool false := (hs (.tmp 83) (by simp [Op.operands, Call.operands])).1 83 rfl 5 _ rfl rfl
                        have h109 : ρ (.tmp 109) = .bool false := (hs (.tmp 109) (by simp [Op.operands, Call.operands])).1 109 rfl 31 _ rfl rfl
                        exact ByOps.runs_value (v := .bool false) (by first | rfl | go_simp) (Below.refl _ _) rfl
                    · refine ⟨?_, ?_, ?_, ?_, ?_, ?_, ?_, ?_, ?_, ?_, ?_, ?_, ?_, ?_, ?_, ?_, ?_, ?_, ?_, ?_, ?_, ?_, ?_, ?_, ?_, ?_, ?_, ?_, ?_, ?_, ?_, ?_, ?_, trivial⟩
                      all_goals first | (intro hs0; cases hs0; done) | (intro _; exact ⟨by simp, fun _ => rfl⟩)
                    · refine ⟨?_, ?_, ?_, ?_, ?_, ?_, ?_, ?_, ?_, ?_, ?_, ?_, ?_, ?_, ?_, ?_, ?_, ?_, ?_, ?_, ?_, ?_, ?_, ?_, ?_, ?_, ?_, ?_, ?_, ?_, ?_, ?_, ?_, trivial⟩
                      all_goals first | (intro g b h; cases h; done) | (intro g b h; cases h; intro v w h; exact ⟨fun h0 => (by first | exact h | cases h0), fun h0 => (by first | cases h0; done | exact .inl h | exact .inr h)⟩)
                    · intro a9 wb hd9 hs9 ho9 hn9 hB9
                      obtain ⟨v0, e0, p0⟩ := hn9 0 _ 78 rfl rfl
                      obtain ⟨v1, e1, p1⟩ := hn9 1 _ 79 rfl rfl
                      obtain ⟨v2, e2, p2⟩ := hn9 2 _ 80 rfl rfl
                      obtain ⟨v3, e3, p3⟩ := hn9 3 _ 81 rfl rfl
                      obtain ⟨v4, e4, p4⟩ := hn9 4 _ 82 rfl rfl
                      obtain ⟨v5, e5, p5⟩ := hn9 5 _ 83 rfl rfl
                      obtain ⟨v6, e6, p6⟩ := hn9 6 _ 84 rfl rfl
                      obtain ⟨v7, e7, p7⟩ := hn9 7 _ 85 rfl rfl
                      obtain ⟨v8, e8, p8⟩ := hn9 8 _ 86 rfl rfl
                      obtain ⟨v9, e9, p9⟩ := hn9 9 _ 87 rfl rfl
                      obtain ⟨v10, e10, p10⟩ := hn9 10 _ 88 rfl rfl
                      obtain ⟨v11, e11, p11⟩ := hn9 11 _ 89 rfl rfl
                      obtain ⟨v12, e12, p12⟩ := hn9 12 _ 90 rfl rfl
                      obtain ⟨v13, e13, p13⟩ := hn9 13 _ 91 rfl rfl
                      obtain ⟨v14, e14, p14⟩ := hn9 14 _ 92 rfl rfl
                      obtain ⟨v15, e15, p15⟩ := hn9 15 _ 93 rfl rfl
                      obtain ⟨v16, e16, p16⟩ := hn9 16 _ 94 rfl rfl
                      obtain ⟨v17, e17, p17⟩ := hn9 17 _ 95 rfl rfl
                      obtain ⟨v18, e18, p18⟩ := hn9 18 _ 96 rfl rfl
                      obtain ⟨v19, e19, p19⟩ := hn9 19 _ 97 rfl rfl
                      obtain ⟨v20, e20, p20⟩ := hn9 20 _ 98 rfl rfl
                      obtain ⟨v21, e21, p21⟩ := hn9 21 _ 99 rfl rfl
                      obtain ⟨v22, e22, p22⟩ := hn9 22 _ 100 rfl rfl
                      obtain ⟨v23, e23, p23⟩ := hn9 23 _ 101 rfl rfl
                      obtain ⟨v24, e24, p24⟩ := hn9 24 _ 102 rfl rfl
                      obtain ⟨v25, e25, p25⟩ := hn9 25 _ 103 rfl rfl
                      obtain ⟨v26, e26, p26⟩ := hn9 26 _ 104 rfl rfl
                      obtain ⟨v27, e27, p27⟩ := hn9 27 _ 105 rfl rfl
                      obtain ⟨v28, e28, p28⟩ := hn9 28 _ 106 rfl rfl
                      obtain ⟨v29, e29, p29⟩ := hn9 29 _ 107 rfl rfl
                      obtain ⟨v30, e30, p30⟩ := hn9 30 _ 108 rfl rfl
                      obtain ⟨v31, e31, p31⟩ := hn9 31 _ 109 rfl rfl
                      obtain ⟨v32, e32, p32⟩ := hn9 32 _ 110 rfl rfl
                      obtain rfl : v0 = .bool false := p0
                      obtain rfl : v1 = .bool false := p1
                      obtain rfl : v2 = undef := p2
                      obtain rfl : v3 = undef := p3
                      obtain rfl : v4 = .bool false := p4
                      obtain rfl : v5 = .bool false := p5
                      obtain rfl : v6 = .bool false := p6
                      obtain rfl : v7 = .bool true := p7
                      obtain rfl : v8 = .bool false := p8
                      obtain rfl : v9 = .bool false := p9
                      obtain rfl : v10 = undef := p10
                      obtain rfl : v11 = undef := p11
                      obtain rfl : v12 = undef := p12
                      obtain rfl : v13 = undef := p13
                      obtain rfl : v14 = undef := p14
                      obtain rfl : v15 = undef := p15
                      obtain rfl : v16 = undef := p16
                      obtain rfl : v17 = undef := p17
                      obtain rfl : v18 = undef := p18
                      obtain rfl : v19 = undef := p19
                      obtain rfl : v20 = undef := p20
                      obtain rfl : v21 = .bool false := p21
                      obtain rfl : v22 = .bool false := p22
                      obtain rfl : v23 = undef := p23
                      obtain rfl : v24 = undef := p24
                      obtain rfl : v25 = undef := p25
                      obtain rfl : v26 = undef := p26
                      obtain rfl : v27 = undef := p27
                      obtain rfl : v28 = undef := p28
                      obtain rfl : v29 = undef := p29
                      obtain rfl : v30 = undef := p30
                      obtain rfl : v31 = .bool false := p31
                      obtain rfl : v32 = .bool false := p32
                      have ha := ByOps.act_eq [(78, .bool false), (79, .bool false), (80, undef), (81, undef), (82, .bool false), (83, .bool false), (84, .bool false), (85, .bool true), (86, .bool false), (87, .bool false), (88, undef), (89, undef), (90, undef), (91, undef), (92, undef), (93, undef), (94, undef), (95, undef), (96, undef), (97, undef), (98, undef), (99, .bool false), (100, .bool false), (101, undef), (102, undef), (103, undef), (104, undef), (105, undef), (106, undef), (107, undef), (108, undef), (109, .bool false), (110, .bool false)] a9 _ hd9 hs9 (fun t ht => ho9 t (ByOps.outer_of (ts := [78, 79, 80, 81, 82, 83, 84, 85, 86, 87, 88, 89, 90, 91, 92, 93, 94, 95, 96, 97, 98, 99, 100, 101, 102, 103, 104, 105, 106, 107, 108, 109, 110]) rfl ht)) (by intro p hp; simp only [List.mem_cons, List.not_mem_nil, or_false] at hp; rcases hp with rfl | rfl | rfl | rfl | rfl | rfl | rfl | rfl | rfl | rfl | rfl | rfl | rfl | rfl | rfl | rfl | rfl | rfl | rfl | rfl | rfl | rfl | rfl | rfl | rfl | rfl | rfl | rfl | rfl | rfl | rfl | rfl | rfl <;> assumption)
                      rw [ha]
                      clear ha hn9 ho9 hs9 hd9 e0 e1 e2 e3 e4 e5 e6 e7 e8 e9 e10 e11 e12 e13 e14 e15 e16 e17 e18 e19 e20 e21 e22 e23 e24 e25 e26 e27 e28 e29 e30 e31 e32
                      simp only [List.foldl, Act.put, List.setIfInBounds_toArray, List.set_cons_zero, List.set_cons_succ]
                      have hb9 : Below w3.heap.size w3 wb := ⟨hB9.os, hB9.tape, hB9.output, hB9.size, hB9.block⟩
                      clear hB9
                      have hb := hb9
                      clear hb9 HCx HCy
                      replace HQ := Lib.hid (HQ.out.trans (hb.mono HQ.out.size))
                      replace HR := Lib.hid (HR.out.trans (hb.mono HR.out.size))
                      replace Hl := Lib.hid (Hl.out.below hb)
                      replace Hm := Lib.hid (Hm.out.below hb)
                      replace HA := Lib.hid (HA.out.below hb)
                      replace HB := Lib.hid (HB.out.trans (hb.mono HB.out.size))
                      clear hb
                      go_wp2_with fail
                      go_roundw
                      case rel => exact ⟨e + 1, rfl, by go_num, by omega, Lib.hid HR.out⟩
                      case measure => simp [intOf]; omega
                · obtain rfl : e = q := by omega
                  go_wp2_with fail
                  go_roundw
                  case rel => exact ⟨e + 1, rfl, by go_num, by omega, Lib.hid HQ.out⟩
                  case measure => simp [intOf]; omega
          · have hge : decide ((0 : Int) ≤ pb) = false := by have h := place_neg (l := m) (a := y); rw [← hpb.out] at h; simp; exact h.2 hil
            replace hil := Lib.hid hil
            go_upto_region 12 with fail
            refine ByOps.region_by_sk (by kernel_rfl) (ByOps.facts [.val (.slice s l.length c), .val (.slice (some ⟨b2, o2, none⟩) L.length b1), .val (.int .i64 (q : Int)), .val (.pointer (some ⟨b2, o2 + q * 10, none⟩)), .val (.agg #[.int .i8 y.f, .int .u16 y.g0, .int .u16 y.g1, .int .u16 y.g2, .int .u16 y.g3, .int .u16 y.g4, .int .u16 y.g5, .int .u16 y.g6, .int .u16 y.g7, .int .i64 y.p]), .val (.int .i64 pa), .val (.slice s1 m.length c1), .val (.slice (some ⟨b2, o2, none⟩) L.length b1), .val (.int .i64 (q : Int)), .val (.pointer (some ⟨b2, o2 + q * 10, none⟩)), .val (.agg #[.int .i8 y.f, .int .u16 y.g0, .int .u16 y.g1, .int .u16 y.g2, .int .u16 y.g3, .int .u16 y.g4, .int .u16 y.g5, .int .u16 y.g6, .int .u16 y.g7, .int .i64 y.p]), .val (.int .i64 pb), .val (.bool false), .val (.int .i64 pa), .val (.bool false)]) (ByOps.facts_up _) (by kernel_rfl) (fun _ => false) (ByOps.all_ops ?_) (ByOps.all_ops ?_) (ByOps.all_ops ?_) ?_
            · refine ⟨?_, ?_, ?_, ?_, ?_, ?_, ?_, ?_, ?_, ?_, ?_, ?_, ?_, ?_, ?_, trivial⟩
              · intro _ ρ w9 hB hs
                have hBB : Below wQ.heap.size wQ w9 := ⟨hB.os, hB.tape, hB.output, hB.size, hB.block⟩
                have h0 : ρ (.tmp 0) = .slice s l.length c := (hs _ (by simp [Op.operands, Call.operands])).2 (fun t ht => by cases ht; kernel_rfl)
                exact ByOps.runs_value (by first | rfl | go_simp) (Below.refl _ _) h0
              · intro _ ρ w9 hB hs
                have hBB : Below wQ.heap.size wQ w9 := ⟨hB.os, hB.tape, hB.output, hB.size, hB.block⟩
                have h5 : ρ (.tmp 5) = .slice (some ⟨b2, o2, none⟩) L.length b1 := (hs _ (by simp [Op.operands, Call.operands])).2 (fun t ht => by cases ht; kernel_rfl)
                exact ByOps.runs_value (by first | rfl | go_simp) (Below.refl _ _) h5
              · intro _ ρ w9 hB hs
                have hBB : Below wQ.heap.size wQ w9 := ⟨hB.os, hB.tape, hB.output, hB.size, hB.block⟩
                have h7 : ρ (.tmp 7) = .int .i64 (q : Int) := (hs _ (by simp [Op.operands, Call.operands])).2 (fun t ht => by cases ht; kernel_rfl)
                exact ByOps.runs_value (by first | rfl | go_simp) (Below.refl _ _) h7
              · intro _ ρ w9 hB hs
                have hBB : Below wQ.heap.size wQ w9 := ⟨hB.os, hB.tape, hB.output, hB.size, hB.block⟩
                have h42 : ρ (.tmp 42) = .slice (some ⟨b2, o2, none⟩) L.length b1 := (hs (.tmp 42) (by simp [Op.operands, Call.operands])).1 42 rfl 1 _ rfl rfl
                have h43 : ρ (.tmp 43) = .int .i64 (q : Int) := (hs (.tmp 43) (by simp [Op.operands, Call.operands])).1 43 rfl 2 _ rfl rfl
                exact ByOps.runs_value (v := .pointer (some ⟨b2, o2 + q * 10, none⟩)) (by first | rfl | go_simp) (Below.refl _ _) rfl
              · intro _ ρ w9 hB hs
                have hBB : Below wQ.heap.size wQ w9 := ⟨hB.os, hB.tape, hB.output, hB.size, hB.block⟩
                have h44 : ρ (.tmp 44) = .pointer (some ⟨b2, o2 + q * 10, none⟩) := (hs (.tmp 44) (by simp [Op.operands, Call.operands])).1 44 rfl 3 _ rfl rfl
                obtain ⟨⟨d0, d1, d2, d3, d4⟩, d5, d6, d7, d8, d9⟩ := HCy.out w9 hBB
                exact ByOps.runs_value (v := .agg #[.int .i8 y.f, .int .u16 y.g0, .int .u16 y.g1, .int .u16 y.g2, .int .u16 y.g3, .int .u16 y.g4, .int .u16 y.g5, .int .u16 y.g6, .int .u16 y.g7, .int .i64 y.p]) (by first | rfl | go_simp) (Below.refl _ _) rfl
              · intro _ ρ w9 hB hs
                have hBB : Below wQ.heap.size wQ w9 := ⟨hB.os, hB.tape, hB.output, hB.size, hB.block⟩
                have h41 : ρ (.tmp 41) = .slice s l.length c := (hs (.tmp 41) (by simp [Op.operands, Call.operands])).1 41 rfl 0 _ rfl rfl
                have h45 : ρ (.tmp 45) = .agg #[.int .i8 y.f, .int .u16 y.g0, .int .u16 y.g1, .int .u16 y.g2, .int .u16 y.g3, .int .u16 y.g4, .int .u16 y.g5, .int .u16 y.g6, .int .u16 y.g7, .int .i64 y.p] := (hs (.tmp 45) (by simp [Op.operands, Call.operands])).1 45 rfl 4 _ rfl rfl
                have hfn : ρ (.func 21) = .func (.func 21) #[] #[] := (hs _ (by simp [Op.operands, Call.operands])).2 (fun t ht => by cases ht)
                refine ByOps.runs_enter (f := 21) (args := #[.slice s l.length c, .agg #[.int .i8 y.f, .int .u16 y.g0, .int .u16 y.g1, .int .u16 y.g2, .int .u16 y.g3, .int .u16 y.g4, .int .u16 y.g5, .int .u16 y.g6, .int .u16 y.g7, .int .i64 y.p]]) (by go_simp) ?_
                exact (rplace_any l y s c pa w9 hpa.out (Hl.out.below hBB)).mono fun e w2 ⟨he, hb⟩ => ⟨_, he, hb, rfl⟩
              · intro _ ρ w9 hB hs
                have hBB : Below wQ.heap.size wQ w9 := ⟨hB.os, hB.tape, hB.output, hB.size, hB.block⟩
                have h1 : ρ (.tmp 1) = .slice s1 m.length c1 := (hs _ (by simp [Op.operands, Call.operands])).2 (fun t ht => by cases ht; kernel_rfl)
                exact ByOps.runs_value (by first | rfl | go_simp) (Below.refl _ _) h1
              · intro _ ρ w9 hB hs
                have hBB : Below wQ.heap.size wQ w9 := ⟨hB.os, hB.tape, hB.output, hB.size, hB.block⟩
                have h5 : ρ (.tmp 5) = .slice (some ⟨b2, o2, none⟩) L.length b1 := (hs _ (by simp [Op.operands, Call.operands])).2 (fun t ht => by cases ht; kernel_rfl)
                exact ByOps.runs_value (by first | rfl | go_simp) (Below.refl _ _) h5
              · intro _ ρ w9 hB hs
                have hBB : Below wQ.heap.size wQ w9 := ⟨hB.os, hB.tape, hB.output, hB.size, hB.block⟩
                have h7 : ρ (.tmp 7) = .int .i64 (q : Int) := (hs _ (by simp [Op.operands, Call.operands])).2 (fun t ht => by cases ht; kernel_rfl)
                exact ByOps.runs_value (by first | rfl | go_simp) (Below.refl _ _) h7
              · intro _ ρ w9 hB hs
                have hBB : Below wQ.heap.size wQ w9 := ⟨hB.os, hB.tape, hB.output, hB.size, hB.block⟩
                have h48 : ρ (.tmp 48) = .slice (some ⟨b2, o2, none⟩) L.length b1 := (hs (.tmp 48) (by simp [Op.operands, Call.operands])).1 48 rfl 7 _ rfl rfl
                have h49 : ρ (.tmp 49) = .int .i64 (q : Int) := (hs (.tmp 49) (by simp [Op.operands, Call.operands])).1 49 rfl 8 _ rfl rfl
                exact ByOps.runs_value (v := .pointer (some ⟨b2, o2 + q * 10, none⟩)) (by first | rfl | go_simp) (Below.refl _ _) rfl
              · intro _ ρ w9 hB hs
                have hBB : Below wQ.heap.size wQ w9 := ⟨hB.os, hB.tape, hB.output, hB.size, hB.block⟩
                have h50 : ρ (.tmp 50) = .pointer (some ⟨b2, o2 + q * 10, none⟩) := (hs (.tmp 50) (by simp [Op.operands, Call.operands])).1 50 rfl 9 _ rfl rfl
                obtain ⟨⟨d0, d1, d2, d3, d4⟩, d5, d6, d7, d8, d9⟩ := HCy.out w9 hBB
                exact ByOps.runs_value (v := .agg #[.int .i8 y.f, .int .u16 y.g0, .int .u16 y.g1, .int .u16 y.g2, .int .u16 y.g3, .int .u16 y.g4, .int .u16 y.g5, .int .u16 y.g6, .int .u16 y.g7, .int .i64 y.p]) (by first | rfl | go_simp) (Below.refl _ _) rfl
              · intro _ ρ w9 hB hs
                have hBB : Below wQ.heap.size wQ w9 := ⟨hB.os, hB.tape, hB.output, hB.size, hB.block⟩
                have h47 : ρ (.tmp 47) = .slice s1 m.length c1 := (hs (.tmp 47) (by simp [Op.operands, Call.operands])).1 47 rfl 6 _ rfl rfl
                have h51 : ρ (.tmp 51) = .agg #[.int .i8 y.f, .int .u16 y.g0, .int .u16 y.g1, .int .u16 y.g2, .int .u16 y.g3, .int .u16 y.g4, .int .u16 y.g5, .int .u16 y.g6, .int .u16 y.g7, .int .i64 y.p] := (hs (.tmp 51) (by simp [Op.operands, Call.operands])).1 51 rfl 10 _ rfl rfl
                have hfn : ρ (.func 21) = .func (.func 21) #[] #[] := (hs _ (by simp [Op.operands, Call.operands])).2 (fun t ht => by cases ht)
                refine ByOps.runs_enter (f := 21) (args := #[.slice s1 m.length c1, .agg #[.int .i8 y.f, .int .u16 y.g0, .int .u16 y.g1, .int .u16 y.g2, .int .u16 y.g3, .int .u16 y.g4, .int .u16 y.g5, .int .u16 y.g6, .int .u16 y.g7, .int .i64 y.p]]) (by go_simp) ?_
                exact (rplace_any m y s1 c1 pb w9 hpb.out (Hm.out.below hBB)).mono fun e w2 ⟨he, hb⟩ => ⟨_, he, hb, rfl⟩
              · intro _ ρ w9 hB hs
                have hBB : Below wQ.heap.size wQ w9 := ⟨hB.os, hB.tape, hB.output, hB.size, hB.block⟩
                have h52 : ρ (.tmp 52) = .int .i64 pb := (hs (.tmp 52) (by simp [Op.operands, Call.operands])).1 52 rfl 11 _ rfl rfl
                have hk : ρ (.const (.int .i64 0)) = .int .i64 0 := (hs _ (by simp [Op.operands, Call.operands])).2 (fun t ht => by cases ht)
                exact ByOps.runs_value (v := .bool false) (by first | rfl | go_simp) (Below.refl _ _) rfl
              · intro _ ρ w9 hB hs
                have hBB : Below wQ.heap.size wQ w9 := ⟨hB.os, hB.tape, hB.output, hB.size, hB.block⟩
                have h46 : ρ (.tmp 46) = .int .i64 pa := (hs (.tmp 46) (by simp [Op.operands, Call.operands])).1 46 rfl 5 _ rfl rfl
                exact ByOps.runs_value (by first | rfl | go_simp) (Below.refl _ _) h46
              · intro _ ρ w9 hB hs
                have hBB : Below wQ.heap.size wQ w9 := ⟨hB.os, hB.tape, hB.output, hB.size, hB.block⟩
                have h53 : ρ (.tmp 53) = .bool false := (hs (.tmp 53) (by simp [Op.operands, Call.operands])).1 53 rfl 12 _ rfl rfl
                exact ByOps.runs_value (by first | rfl | go_simp) (Below.refl _ _) h53
            · refine ⟨?_, ?_, ?_, ?_, ?_, ?_, ?_, ?_, ?_, ?_, ?_, ?_, ?_, ?_, ?_, trivial⟩
              all_goals first | (intro hs0; cases hs0; done) | (intro _; exact ⟨by simp, fun _ => rfl⟩)
            · refine ⟨?_, ?_, ?_, ?_, ?_, ?_, ?_, ?_, ?_, ?_, ?_, ?_, ?_, ?_, ?_, trivial⟩
              all_goals first | (intro g b h; cases h; done) | (intro g b h; cases h; intro v w h; exact ⟨fun h0 => (by first | exact h | cases h0), fun h0 => (by first | cases h0; done | exact .inl h | exact .inr h)⟩)
            · intro a9 wa hd9 hs9 ho9 hn9 hB9
              obtain ⟨v0, e0, p0⟩ := hn9 0 _ 41 rfl rfl
              obtain ⟨v1, e1, p1⟩ := hn9 1 _ 42 rfl rfl
              obtain ⟨v2, e2, p2⟩ := hn9 2 _ 43 rfl rfl
              obtain ⟨v3, e3, p3⟩ := hn9 3 _ 44 rfl rfl
              obtain ⟨v4, e4, p4⟩ := hn9 4 _ 45 rfl rfl
              obtain ⟨v5, e5, p5⟩ := hn9 5 _ 46 rfl rfl
              obtain ⟨v6, e6, p6⟩ := hn9 6 _ 47 rfl rfl
              obtain ⟨v7, e7, p7⟩ := hn9 7 _ 48 rfl rfl
              obtain ⟨v8, e8, p8⟩ := hn9 8 _ 49 rfl rfl
              obtain ⟨v9, e9, p9⟩ := hn9 9 _ 50 rfl rfl
              obtain ⟨v10, e10, p10⟩ := hn9 10 _ 51 rfl rfl
              obtain ⟨v11, e11, p11⟩ := hn9 11 _ 52 rfl rfl
              obtain ⟨v12, e12, p12⟩ := hn9 12 _ 53 rfl rfl
              obtain ⟨v13, e13, p13⟩ := hn9 13 _ 8 rfl rfl
              obtain ⟨v14, e14, p14⟩ := hn9 14 _ 9 rfl rfl
              obtain rfl : v0 = .slice s l.length c := p0
              obtain rfl : v1 = .slice (some ⟨b2, o2, none⟩) L.length b1 := p1
              obtain rfl : v2 = .int .i64 (q : Int) := p2
              obtain rfl : v3 = .pointer (some ⟨b2, o2 + q * 10, none⟩) := p3
              obtain rfl : v4 = .agg #[.int .i8 y.f, .int .u16 y.g0, .int .u16 y.g1, .int .u16 y.g2, .int .u16 y.g3, .int .u16 y.g4, .int .u16 y.g5, .int .u16 y.g6, .int .u16 y.g7, .int .i64 y.p] := p4
              obtain rfl : v5 = .int .i64 pa := p5
              obtain rfl : v6 = .slice s1 m.length c1 := p6
              obtain rfl : v7 = .slice (some ⟨b2, o2, none⟩) L.length b1 := p7
              obtain rfl : v8 = .int .i64 (q : Int) := p8
              obtain rfl : v9 = .pointer (some ⟨b2, o2 + q * 10, none⟩) := p9
              obtain rfl : v10 = .agg #[.int .i8 y.f, .int .u16 y.g0, .int .u16 y.g1, .int .u16 y.g2, .int .u16 y.g3, .int .u16 y.g4, .int .u16 y.g5, .int .u16 y.g6, .int .u16 y.g7, .int .i64 y.p] := p10
              obtain rfl : v11 = .int .i64 pb := p11
              obtain rfl : v12 = .bool false := p12
              obtain rfl : v13 = .int .i64 pa := p13
              obtain rfl : v14 = .bool false := p14
              have ha := ByOps.act_eq [(41, .slice s l.length c), (42, .slice (some ⟨b2, o2, none⟩) L.length b1), (43, .int .i64 (q : Int)), (44, .pointer (some ⟨b2, o2 + q * 10, none⟩)), (45, .agg #[.int .i8 y.f, .int .u16 y.g0, .int .u16 y.g1, .int .u16 y.g2, .int .u16 y.g3, .int .u16 y.g4, .int .u16 y.g5, .int .u16 y.g6, .int .u16 y.g7, .int .i64 y.p]), (46, .int .i64 pa), (47, .slice s1 m.length c1), (48, .slice (some ⟨b2, o2, none⟩) L.length b1), (49, .int .i64 (q : Int)), (50, .pointer (some ⟨b2, o2 + q * 10, none⟩)), (51, .agg #[.int .i8 y.f, .int .u16 y.g0, .int .u16 y.g1, .int .u16 y.g2, .int .u16 y.g3, .int .u16 y.g4, .int .u16 y.g5, .int .u16 y.g6, .int .u16 y.g7, .int .i64 y.p]), (52, .int .i64 pb), (53, .bool false), (8, .int .i64 pa), (9, .bool false)] a9 _ hd9 hs9 (fun t ht => ho9 t (ByOps.outer_of (ts := [41, 42, 43, 44, 45, 46, 47, 48, 49, 50, 51, 52, 53, 8, 9]) rfl ht)) (by intro p hp; simp only [List.mem_cons, List.not_mem_nil, or_false] at hp; rcases hp with rfl | rfl | rfl | rfl | rfl | rfl | rfl | rfl | rfl | rfl | rfl | rfl | rfl | rfl | rfl <;> assumption)
              rw [ha]
              clear ha hn9 ho9 hs9 hd9 e0 e1 e2 e3 e4 e5 e6 e7 e8 e9 e10 e11 e12 e13 e14
              simp only [List.foldl, Act.put, List.setIfInBounds_toArray, List.set_cons_zero, List.set_cons_succ]
              have hb9 : Below wQ.heap.size wQ wa := ⟨hB9.os, hB9.tape, hB9.output, hB9.size, hB9.block⟩
              clear hB9
              have hb := hb9
              clear hb9 HCy
              replace HQ := Lib.hid (HQ.out.trans (hb.mono HQ.out.size))
              replace Hl := Lib.hid (Hl.out.below hb)
              replace Hm := Lib.hid (Hm.out.below hb)
              replace HA := Lib.hid (HA.out.below hb)
              replace HB := Lib.hid (HB.out.trans (hb.mono HB.out.size))
              clear hb
              obtain ⟨b4, o4, hq4, hbl, hat⟩ := HA.out.2.2.2 (by omega)
              cases hq4
              have HCy := Lib.hid (fun (W : World) (h : Below wa.heap.size wa W) => AK.ten (hat.below h hbl) hy.out)
              clear hbl hat
              obtain ⟨⟨d0, d1, d2, d3, d4⟩, d5, d6, d7, d8, d9⟩ := HCy.out wa (Below.refl _ _)
              have HX := Lib.hid (rplace_any L y (some ⟨b2, o2, none⟩) b1 (q : Int) wa hpL.out HA.out)
              go_wp2_with fail
              with_reducible refine HX.out.mono ?_
              rintro e w2 ⟨rfl, hb⟩
              clear HX
              replace HQ := Lib.hid (HQ.out.trans (hb.mono HQ.out.size))
              replace Hl := Lib.hid (Hl.out.below hb)
              replace Hm := Lib.hid (Hm.out.below hb)
              replace HA := Lib.hid (HA.out.below hb)
              replace HB := Lib.hid (HB.out.trans (hb.mono HB.out.size))
              clear hb
              clear d0 d1 d2 d3 d4 d5 d6 d7 d8 d9 HCy hi1
              go_wp2_with fail
              go_loopw [4, 10] (fun r i wr => ∃ kk : Nat, r = .bool false ∧ i = .int .i64 kk ∧ kk ≤ q ∧ Hid (Below w2.heap.size w2 wr)) (fun _ i _ => q - (intOf i).toNat)
              case atStart => exact ⟨0, rfl, rfl, by omega, Lib.hid (Below.refl _ _)⟩
              case round =>
                obtain ⟨e, rfl, rfl, hqR, hb0⟩ := hrel
                obtain ⟨wR, rfl⟩ : ∃ W : World, W = wr := ⟨_, rfl⟩
                have hb := hb0.out
                have HR := Lib.hid hb0.out
                clear hb0
                replace HQ := Lib.hid (HQ.out.trans (hb.mono HQ.out.size))
                replace Hl := Lib.hid (Hl.out.below hb)
                replace Hm := Lib.hid (Hm.out.below hb)
                replace HA := Lib.hid (HA.out.below hb)
                replace HB := Lib.hid (HB.out.trans (hb.mono HB.out.size))
                clear hb
                by_cases hltR : e < q
                · obtain ⟨x, hx⟩ : ∃ x, L[e]? = some x := ⟨_, List.getElem?_eq_getElem (by omega)⟩
                  have HO2 := Lib.hid (HOd.out e q x y hltR hx hy.out)
                  replace hx := Lib.hid hx
                  obtain ⟨pc, hpc⟩ : ∃ r, r = placeZ m x := ⟨_, rfl⟩
                  replace hpc := Lib.hid hpc
                  obtain ⟨pd, hpd⟩ : ∃ r, r = placeZ l x := ⟨_, rfl⟩
                  replace hpd := Lib.hid hpd
                  have hj1 : (e : Int) < (L.length : Int) := by omega
                  have hj2 : (0 : Int) ≤ (e : Int) := by omega
                  have hi1 : (q : Int) < (L.length : Int) := by omega
                  by_cases hwas : x ∈ m
                  · exact absurd (HO2.out.1 hwas) hil.out
                  · have hge2 : decide ((0 : Int) ≤ pc) = false := by have h := place_neg (l := m) (a := x); rw [← hpc.out] at h; simp; exact h.2 hwas
                    have HLe := Lib.hid (show x.f = y.f → pd ≤ pa from fun h => by rw [hpd.out, hpa.out]; exact HO2.out.2 (iff_of_false hwas hil.out) h)
                    clear hwas
                    obtain ⟨b4, o4, hq4, hbl, hat⟩ := HA.out.2.2.2 (by omega)
                    cases hq4
                    have HCx := Lib.hid (fun (W : World) (h : Below wR.heap.size wR W) => AK.ten (hat.below h hbl) hx.out)
                    clear hbl hat
                    obtain ⟨⟨d0, d1, d2, d3, d4⟩, d5, d6, d7, d8, d9⟩ := HCx.out wR (Below.refl _ _)
                    have HX := Lib.hid (rplace_any m x s1 c1 pc wR hpc.out Hm.out)
                    go_wp2_with fail
                    with_reducible refine HX.out.mono ?_
                    rintro e w3 ⟨rfl, hb⟩
                    clear HX
                    replace HQ := Lib.hid (HQ.out.trans (hb.mono HQ.out.size))
                    replace HR := Lib.hid (HR.out.trans (hb.mono HR.out.size))
                    replace Hl := Lib.hid (Hl.out.below hb)
                    replace Hm := Lib.hid (Hm.out.below hb)
                    replace HA := Lib.hid (HA.out.below hb)
                    replace HB := Lib.hid (HB.out.trans (hb.mono HB.out.size))
                    clear hb
                    clear d0 d1 d2 d3 d4 d5 d6 d7 d8 d9 HCx
                    obtain ⟨b4, o4, hq4, hbl, hat⟩ := HA.out.2.2.2 (by omega)
                    cases hq4
                    have HCx := Lib.hid (fun (W : World) (h : Below w3.heap.size w3 W) => AK.ten (hat.below h hbl) hx.out)
                    clear hbl hat
                    obtain ⟨b4, o4, hq4, hbl, hat⟩ := HA.out.2.2.2 (by omega)
                    cases hq4
                    have HCy := Lib.hid (fun (W : World) (h : Below w3.heap.size w3 W) => AK.ten (hat.below h hbl) hy.out)
                    clear hbl hat
                    by_cases hf : x.f = y.f
                    · have hfe : (x.f == y.f) = true := by simp [hf]
                      have hgt : decide (pa < pd) = false := decide_eq_false (by have := HLe.out hf; omega)
                      clear hf
                      go_upto_region 19 with fail
                      refine ByOps.region_by_sk (by kernel_rfl) (ByOps.facts [.val (.bool false), .val (.bool false), .un, .un, .val (.bool false), .val (.bool false), .val (.bool false), .val (.bool false), .val (.bool true), .val (.bool true), .val (.slice (some ⟨b2, o2, none⟩) L.length b1), .val (.int .i64 (e : Int)), .val (.pointer (some ⟨b2, o2 + e * 10, none⟩)), .val (.pointer (some ⟨b2, o2 + e * 10, none⟩)), .val (.int .i8 x.f), .val (.slice (some ⟨b2, o2, none⟩) L.length b1), .val (.int .i64 (q : Int)), .val (.pointer (some ⟨b2, o2 + q * 10, none⟩)), .val (.pointer (some ⟨b2, o2 + q * 10, none⟩)), .val (.int .i8 y.f), .val (.bool true), .val (.bool true), .val (.bool true), .val (.slice s l.length c), .val (.slice (some ⟨b2, o2, none⟩) L.length b1), .val (.int .i64 (e : Int)), .val (.pointer (some ⟨b2, o2 + e * 10, none⟩)), .val (.agg #[.int .i8 x.f, .int .u16 x.g0, .int .u16 x.g1, .int .u16 x.g2, .int .u16 x.g3, .int .u16 x.g4, .int .u16 x.g5, .int .u16 x.g6, .int .u16 x.g7, .int .i64 x.p]), .val (.int .i64 pd), .val (.int .i64 pa), .val (.bool false), .val (.bool false), .val (.bool false)]) (ByOps.facts_up _) (by kernel_rfl) (fun i => i == 2 || i == 3) (ByOps.all_ops ?_) (ByOps.all_ops ?_) (ByOps.all_ops ?_) ?_
                      · refine ⟨?_, ?_, ?_, ?_, ?_, ?_, ?_, ?_, ?_, ?_, ?_, ?_, ?_, ?_, ?_, ?_, ?_, ?_, ?_, ?_, ?_, ?_, ?_, ?_, ?_, ?_, ?_, ?_, ?_, ?_, ?_, ?_, ?_, trivial⟩
                        · intro _ ρ w9 hB hs
                          have hBB : Below w3.heap.size w3 w9 := ⟨hB.os, hB.tape, hB.output, hB.size, hB.block⟩
                          have h11 : ρ (.tmp 11) = .bool false := (hs _ (by simp [Op.operands, Call.operands])).2 (fun t ht => by cases ht; kernel_rfl)
                          exact ByOps.runs_value (by first | rfl | go_simp) (Below.refl _ _) h11
                        · intro _ ρ w9 hB hs
                          have hBB : Below w3.heap.size w3 w9 := ⟨hB.os, hB.tape, hB.output, hB.size, hB.block⟩
                          have h78 : ρ (.tmp 78) = .bool false := (hs (.tmp 78) (by simp [Op.operands, Call.operands])).1 78 rfl 0 _ rfl rfl
                          exact ByOps.runs_value (by first | rfl | go_simp) (Below.refl _ _) h78
                        · intro hs0; cases hs0
                        · intro hs0; cases hs0
                        · intro _ ρ w9 hB hs
                          have hBB : Below w3.heap.size w3 w9 := ⟨hB.os, hB.tape, hB.output, hB.size, hB.block⟩
                          have h79 : ρ (.tmp 79) = .bool false := (hs (.tmp 79) (by simp [Op.operands, Call.operands])).1 79 rfl 1 _ rfl rfl
                          have hk : ρ (.const (.bool false)) = .bool false := (hs _ (by simp [Op.operands, Call.operands])).2 (fun t ht => by cases ht)
                          exact ByOps.runs_value (v := .bool false) (by first | rfl | go_simp) (Below.refl _ _) rfl
                        · intro _ ρ w9 hB hs
                          have hBB : Below w3.heap.size w3 w9 := ⟨hB.os, hB.tape, hB.output, hB.size, hB.block⟩
                          have h82 : ρ (.tmp 82) = .bool false := (hs (.tmp 82) (by simp [Op.operands, Call.operands])).1 82 rfl 4 _ rfl rfl
                          exact ByOps.runs_value (by first | rfl | go_simp) (Below.refl _ _) h82
                        · intro _ ρ w9 hB hs
                          have hBB : Below w3.heap.size w3 w9 := ⟨hB.os, hB.tape, hB.output, hB.size, hB.block⟩
                          have h11 : ρ (.tmp 11) = .bool false := (hs _ (by simp [Op.operands, Call.operands])).2 (fun t ht => by cases ht; kernel_rfl)
                          exact ByOps.runs_value (by first | rfl | go_simp) (Below.refl _ _) h11
                        · intro _ ρ w9 hB hs
                          have hBB : Below w3.heap.size w3 w9 := ⟨hB.os, hB.tape, hB.output, hB.size, hB.block⟩
                          have h9 : ρ (.tmp 9) = .bool false := (hs _ (by simp [Op.operands, Call.operands])).2 (fun t ht => by cases ht; kernel_rfl)
                          exact ByOps.runs_value (by first | rfl | go_simp) (Below.refl _ _) h9
                        · intro _ ρ w9 hB hs
                          have hBB : Below w3.heap.size w3 w9 := ⟨hB.os, hB.tape, hB.output, hB.size, hB.block⟩
                          have h84 : ρ (.tmp 84) = .bool false := (hs (.tmp 84) (by simp [Op.operands, Call.operands])).1 84 rfl 6 _ rfl rfl
                          have h85 : ρ (.tmp 85) = .bool false := (hs (.tmp 85) (by simp [Op.operands, Call.operands])).1 85 rfl 7 _ rfl rfl
                          exact ByOps.runs_value (v := .bool true) (by first | rfl | go_simp) (Below.refl _ _) rfl
                        · intro _ ρ w9 hB hs
                          have hBB : Below w3.heap.size w3 w9 := ⟨hB.os, hB.tape, hB.output, hB.size, hB.block⟩
                          have h86 : ρ (.tmp 86) = .bool true := (hs (.tmp 86) (by simp [Op.operands, Call.operands])).1 86 rfl 8 _ rfl rfl
                          exact ByOps.runs_value (by first | rfl | go_simp) (Below.refl _ _) h86
                        · intro _ ρ w9 hB hs
                          have hBB : Below w3.heap.size w3 w9 := ⟨hB.os, hB.tape, hB.output, hB.size, hB.block⟩
                          have h5 : ρ (.tmp 5) = .slice (some ⟨b2, o2, none⟩) L.length b1 := (hs _ (by simp [Op.operands, Call.operands])).2 (fun t ht => by cases ht; kernel_rfl)
                          exact ByOps.runs_value (by first | rfl | go_simp) (Below.refl _ _) h5
                        · intro _ ρ w9 hB hs
                          have hBB : Below w3.heap.size w3 w9 := ⟨hB.os, hB.tape, hB.output, hB.size, hB.block⟩
                          have h10 : ρ (.tmp 10) = .int .i64 (e : Int) := (hs _ (by simp [Op.operands, Call.operands])).2 (fun t ht => by cases ht; kernel_rfl)
                          exact ByOps.runs_value (by first | rfl | go_simp) (Below.refl _ _) h10
                        · intro _ ρ w9 hB hs
                          have hBB : Below w3.heap.size w3 w9 := ⟨hB.os, hB.tape, hB.output, hB.size, hB.block⟩
                          have h88 : ρ (.tmp 88) = .slice (some ⟨b2, o2, none⟩) L.length b1 := (hs (.tmp 88) (by simp [Op.operands, Call.operands])).1 88 rfl 10 _ rfl rfl
                          have h89 : ρ (.tmp 89) = .int .i64 (e : Int) := (hs (.tmp 89) (by simp [Op.operands, Call.operands])).1 89 rfl 11 _ rfl rfl
                          exact ByOps.runs_value (v := .pointer (some ⟨b2, o2 + e * 10, none⟩)) (by first | rfl | go_simp) (Below.refl _ _) rfl
                        · intro _ ρ w9 hB hs
                          have hBB : Below w3.heap.size w3 w9 := ⟨hB.os, hB.tape, hB.output, hB.size, hB.block⟩
                          have h90 : ρ (.tmp 90) = .pointer (some ⟨b2, o2 + e * 10, none⟩) := (hs (.tmp 90) (by simp [Op.operands, Call.operands])).1 90 rfl 12 _ rfl rfl
                          exact ByOps.runs_value (v := .pointer (some ⟨b2, o2 + e * 10, none⟩)) (by first | rfl | go_simp) (Below.refl _ _) rfl
                        · intro _ ρ w9 hB hs
                          have hBB : Below w3.heap.size w3 w9 := ⟨hB.os, hB.tape, hB.output, hB.size, hB.block⟩
                          have h91 : ρ (.tmp 91) = .pointer (some ⟨b2, o2 + e * 10, none⟩) := (hs (.tmp 91) (by simp [Op.operands, Call.operands])).1 91 rfl 13 _ rfl rfl
                          obtain ⟨⟨d0, d1, d2, d3, d4⟩, d5, d6, d7, d8, d9⟩ := HCx.out w9 hBB
                          exact ByOps.runs_value (v := .int .i8 x.f) (by first | rfl | go_simp) (Below.refl _ _) rfl
                        · intro _ ρ w9 hB hs
                          have hBB : Below w3.heap.size w3 w9 := ⟨hB.os, hB.tape, hB.output, hB.size, hB.block⟩
                          have h5 : ρ (.tmp 5) = .slice (some ⟨b2, o2, none⟩) L.length b1 := (hs _ (by simp [Op.operands, Call.operands])).2 (fun t ht => by cases ht; kernel_rfl)
                          exact ByOps.runs_value (by first | rfl | go_simp) (Below.refl _ _) h5
                        · intro _ ρ w9 hB hs
                          have hBB : Below w3.heap.size w3 w9 := ⟨hB.os, hB.tape, hB.output, hB.size, hB.block⟩
                          have h7 : ρ (.tmp 7) = .int .i64 (q : Int) := (hs _ (by simp [Op.operands, Call.operands])).2 (fun t ht => by cases ht; kernel_rfl)
                          exact ByOps.runs_value (by first | rfl | go_simp) (Below.refl _ _) h7
                        · intro _ ρ w9 hB hs
                          have hBB : Below w3.heap.size w3 w9 := ⟨hB.os, hB.tape, hB.output, hB.size, hB.block⟩
                          have h93 : ρ (.tmp 93) = .slice (some ⟨b2, o2, none⟩) L.length b1 := (hs (.tmp 93) (by simp [Op.operands, Call.operands])).1 93 rfl 15 _ rfl rfl
                          have h94 : ρ (.tmp 94) = .int .i64 (q : Int) := (hs (.tmp 94) (by simp [Op.operands, Call.operands])).1 94 rfl 16 _ rfl rfl
                          exact ByOps.runs_value (v := .pointer (some ⟨b2, o2 + q * 10, none⟩)) (by first | rfl | go_simp) (Below.refl _ _) rfl
                        · intro _ ρ w9 hB hs
                          have hBB : Below w3.heap.size w3 w9 := ⟨hB.os, hB.tape, hB.output, hB.size, hB.block⟩
                          have h95 : ρ (.tmp 95) = .pointer (some ⟨b2, o2 + q * 10, none⟩) := (hs (.tmp 95) (by simp [Op.operands, Call.operands])).1 95 rfl 17 _ rfl rfl
                          exact ByOps.runs_value (v := .pointer (some ⟨b2, o2 + q * 10, none⟩)) (by first | rfl | go_simp) (Below.refl _ _) rfl
                        · intro _ ρ w9 hB hs
                          have hBB : Below w3.heap.size w3 w9 := ⟨hB.os, hB.tape, hB.output, hB.size, hB.block⟩
                          have h96 : ρ (.tmp 96) = .pointer (some ⟨b2, o2 + q * 10, none⟩) := (hs (.tmp 96) (by simp [Op.operands, Call.operands])).1 96 rfl 18 _ rfl rfl
                          obtain ⟨⟨k0, k1, k2, k3, k4⟩, k5, k6, k7, k8, k9⟩ := HCy.out w9 hBB
                          exact ByOps.runs_value (v := .int .i8 y.f) (by first | rfl | go_simp) (Below.refl _ _) rfl
                        · intro _ ρ w9 hB hs
                          have hBB : Below w3.heap.size w3 w9 := ⟨hB.os, hB.tape, hB.output, hB.size, hB.block⟩
                          have h92 : ρ (.tmp 92) = .int .i8 x.f := (hs (.tmp 92) (by simp [Op.operands, Call.operands])).1 92 rfl 14 _ rfl rfl
                          have h97 : ρ (.tmp 97) = .int .i8 y.f := (hs (.tmp 97) (by simp [Op.operands, Call.operands])).1 97 rfl 19 _ rfl rfl
                          exact ByOps.runs_value (v := .bool true) (by first | rfl | go_simp) (Below.refl _ _) rfl
                        · intro _ ρ w9 hB hs
                          have hBB : Below w3.heap.size w3 w9 := ⟨hB.os, hB.tape, hB.output, hB.size, hB.block⟩
                          have h87 : ρ (.tmp 87) = .bool true := (hs (.tmp 87) (by simp [Op.operands, Call.operands])).1 87 rfl 9 _ rfl rfl
                          have h98 : ρ (.tmp 98) = .bool true := (hs (.tmp 98) (by simp [Op.operands, Call.operands])).1 98 rfl 20 _ rfl rfl
                          exact ByOps.runs_value (v := .bool true) (by first | rfl | go_simp) (Below.refl _ _) rfl
                        · intro _ ρ w9 hB hs
                          have hBB : Below w3.heap.size w3 w9 := ⟨hB.os, hB.tape, hB.output, hB.size, hB.block⟩
                          have h99 : ρ (.tmp 99) = .bool true := (hs (.tmp 99) (by simp [Op.operands, Call.operands])).1 99 rfl 21 _ rfl rfl
                          exact ByOps.runs_value (by first | rfl | go_simp) (Below.refl _ _) h99
                        · intro _ ρ w9 hB hs
                          have hBB : Below w3.heap.size w3 w9 := ⟨hB.os, hB.tape, hB.output, hB.size, hB.block⟩
                          have h0 : ρ (.tmp 0) = .slice s l.length c := (hs _ (by simp [Op.operands, Call.operands])).2 (fun t ht => by cases ht; kernel_rfl)
                          exact ByOps.runs_value (by first | rfl | go_simp) (Below.refl _ _) h0
                        · intro _ ρ w9 hB hs
                          have hBB : Below w3.heap.size w3 w9 := ⟨hB.os, hB.tape, hB.output, hB.size, hB.block⟩
                          have h5 : ρ (.tmp 5) = .slice (some ⟨b2, o2, none⟩) L.length b1 := (hs _ (by simp [Op.operands, Call.operands])).2 (fun t ht => by cases ht; kernel_rfl)
                          exact ByOps.runs_value (by first | rfl | go_simp) (Below.refl _ _) h5
                        · intro _ ρ w9 hB hs
                          have hBB : Below w3.heap.size w3 w9 := ⟨hB.os, hB.tape, hB.output, hB.size, hB.block⟩
                          have h10 : ρ (.tmp 10) = .int .i64 (e : Int) := (hs _ (by simp [Op.operands, Call.operands])).2 (fun t ht => by cases ht; kernel_rfl)
                          exact ByOps.runs_value (by first | rfl | go_simp) (Below.refl _ _) h10
                        · intro _ ρ w9 hB hs
                          have hBB : Below w3.heap.size w3 w9 := ⟨hB.os, hB.tape, hB.output, hB.size, hB.block⟩
                          have h102 : ρ (.tmp 102) = .slice (some ⟨b2, o2, none⟩) L.length b1 := (hs (.tmp 102) (by simp [Op.operands, Call.operands])).1 102 rfl 24 _ rfl rfl
                          have h103 : ρ (.tmp 103) = .int .i64 (e : Int) := (hs (.tmp 103) (by simp [Op.operands, Call.operands])).1 103 rfl 25 _ rfl rfl
                          exact ByOps.runs_value (v := .pointer (some ⟨b2, o2 + e * 10, none⟩)) (by first | rfl | go_simp) (Below.refl _ _) rfl
                        · intro _ ρ w9 hB hs
                          have hBB : Below w3.heap.size w3 w9 := ⟨hB.os, hB.tape, hB.output, hB.size, hB.block⟩
                          have h104 : ρ (.tmp 104) = .pointer (some ⟨b2, o2 + e * 10, none⟩) := (hs (.tmp 104) (by simp [Op.operands, Call.operands])).1 104 rfl 26 _ rfl rfl
                          obtain ⟨⟨d0, d1, d2, d3, d4⟩, d5, d6, d7, d8, d9⟩ := HCx.out w9 hBB
                          exact ByOps.runs_value (v := .agg #[.int .i8 x.f, .int .u16 x.g0, .int .u16 x.g1, .int .u16 x.g2, .int .u16 x.g3, .int .u16 x.g4, .int .u16 x.g5, .int .u16 x.g6, .int .u16 x.g7, .int .i64 x.p]) (by first | rfl | go_simp) (Below.refl _ _) rfl
                        · intro _ ρ w9 hB hs
                          have hBB : Below w3.heap.size w3 w9 := ⟨hB.os, hB.tape, hB.output, hB.size, hB.block⟩
                          have h101 : ρ (.tmp 101) = .slice s l.length c := (hs (.tmp 101) (by simp [Op.operands, Call.operands])).1 101 rfl 23 _ rfl rfl
                          have h105 : ρ (.tmp 105) = .agg #[.int .i8 x.f, .int .u16 x.g0, .int .u16 x.g1, .int .u16 x.g2, .int .u16 x.g3, .int .u16 x.g4, .int .u16 x.g5, .int .u16 x.g6, .int .u16 x.g7, .int .i64 x.p] := (hs (.tmp 105) (by simp [Op.operands, Call.operands])).1 105 rfl 27 _ rfl rfl
                          have hfn : ρ (.func 21) = .func (.func 21) #[] #[] := (hs _ (by simp [Op.operands, Call.operands])).2 (fun t ht => by cases ht)
                          refine ByOps.runs_enter (f := 21) (args := #[.slice s l.length c, .agg #[.int .i8 x.f, .int .u16 x.g0, .int .u16 x.g1, .int .u16 x.g2, .int .u16 x.g3, .int .u16 x.g4, .int .u16 x.g5, .int .u16 x.g6, .int .u16 x.g7, .int .i64 x.p]]) (by go_simp) ?_
                          exact (rplace_any l x s c pd w9 hpd.out (Hl.out.below hBB)).mono fun e w2 ⟨he, hb⟩ => ⟨_, he, hb, rfl⟩
                        · intro _ ρ w9 hB hs
                          have hBB : Below w3.heap.size w3 w9 := ⟨hB.os, hB.tape, hB.output, hB.size, hB.block⟩
                          have h8 : ρ (.tmp 8) = .int .i64 pa := (hs _ (by simp [Op.operands, Call.operands])).2 (fun t ht => by cases ht; kernel_rfl)
                          exact ByOps.runs_value (by first | rfl | go_simp) (Below.refl _ _) h8
                        · intro _ ρ w9 hB hs
                          have hBB : Below w3.heap.size w3 w9 := ⟨hB.os, hB.tape, hB.output, hB.size, hB.block⟩
                          have h106 : ρ (.tmp 106) = .int .i64 pd := (hs (.tmp 106) (by simp [Op.operands, Call.operands])).1 106 rfl 28 _ rfl rfl
                          have h107 : ρ (.tmp 107) = .int .i64 pa := (hs (.tmp 107) (by simp [Op.operands, Call.operands])).1 107 rfl 29 _ rfl rfl
                          exact ByOps.runs_value (v := .bool false) (by first | rfl | go_simp) (Below.refl _ _) rfl
                        · intro _ ρ w9 hB hs
                          have hBB : Below w3.heap.size w3 w9 := ⟨hB.os, hB.tape, hB.output, hB.size, hB.block⟩
                          have h100 : ρ (.tmp 100) = .bool true := (hs (.tmp 100) (by simp [Op.operands, Call.operands])).1 100 rfl 22 _ rfl rfl
                          have h108 : ρ (.tmp 108) = .bool false := (hs (.tmp 108) (by simp [Op.operands, Call.operands])).1 108 rfl 30 _ rfl rfl
                          exact ByOps.runs_value (v := .bool false) (by first | rfl | go_simp) (Below.refl _ _) rfl
                        · intro _ ρ w9 hB hs
                          have hBB : Below w3.heap.size w3 w9 := ⟨hB.os, hB.tape, hB.output, hB.size, hB.block⟩
                          have h83 : ρ (.tmp 83) = .bool false := (hs (.tmp 83) (by simp [Op.operands, Call.operands])).1 83 rfl 5 _ rfl rfl
                          have h109 : ρ (.tmp 109) = .bool false := (hs (.tmp 109) (by simp [Op.operands, Call.operands])).1 109 rfl 31 _ rfl rfl
                          exact ByOps.runs_value (v := .bool false) (by first | rfl | go_simp) (Below.refl _ _) rfl
                      · refine ⟨?_, ?_, ?_, ?_, ?_, ?_, ?_, ?_, ?_, ?_, ?_, ?_, ?_, ?_, ?_, ?_, ?_, ?_, ?_, ?_, ?_, ?_, ?_, ?_, ?_, ?_, ?_, ?_, ?_, ?_, ?_, ?_, ?_, trivial⟩
                        all_goals first | (intro hs0; cases hs0; done) | (intro _; exact ⟨by simp, fun _ => rfl⟩)
                      · refine ⟨?_, ?_, ?_, ?_, ?_, ?_, ?_, ?_, ?_, ?_, ?_, ?_, ?_, ?_, ?_, ?_, ?_, ?_, ?_, ?_, ?_, ?_, ?_, ?_, ?_, ?_, ?_, ?_, ?_, ?_, ?_, ?_, ?_, trivial⟩
                        all_goals first | (intro g b h; cases h; done) | (intro g b h; cases h; intro v w h; exact ⟨fun h0 => (by first | exact h | cases h0), fun h0 => (by first | cases h0; done | exact .inl h | exact .inr h)⟩)
                      · intro a9 wb hd9 hs9 ho9 hn9 hB9
                        obtain ⟨v0, e0, p0⟩ := hn9 0 _ 78 rfl rfl
                        obtain ⟨v1, e1, p1⟩ := hn9 1 _ 79 rfl rfl
                        obtain ⟨v2, e2, p2⟩ := hn9 2 _ 80 rfl rfl
                        obtain ⟨v3, e3, p3⟩ := hn9 3 _ 81 rfl rfl
                        obtain ⟨v4, e4, p4⟩ := hn9 4 _ 82 rfl rfl
                        obtain ⟨v5, e5, p5⟩ := hn9 5 _ 83 rfl rfl
                        obtain ⟨v6, e6, p6⟩ := hn9 6 _ 84 rfl rfl
                        obtain ⟨v7, e7, p7⟩ := hn9 7 _ 85 rfl rfl
                        obtain ⟨v8, e8, p8⟩ := hn9 8 _ 86 rfl rfl
                        obtain ⟨v9, e9, p9⟩ := hn9 9 _ 87 rfl rfl
                        obtain ⟨v10, e10, p10⟩ := hn9 10 _ 88 rfl rfl
                        obtain ⟨v11, e11, p11⟩ := hn9 11 _ 89 rfl rfl
                        obtain ⟨v12, e12, p12⟩ := hn9 12 _ 90 rfl rfl
                        obtain ⟨v13, e13, p13⟩ := hn9 13 _ 91 rfl rfl
                        obtain ⟨v14, e14, p14⟩ := hn9 14 _ 92 rfl rfl
                        obtain ⟨v15, e15, p15⟩ := hn9 15 _ 93 rfl rfl
                        obtain ⟨v16, e16, p16⟩ := hn9 16 _ 94 rfl rfl
                        obtain ⟨v17, e17, p17⟩ := hn9 17 _ 95 rfl rfl
                        obtain ⟨v18, e18, p18⟩ := hn9 18 _ 96 rfl rfl
                        obtain ⟨v19, e19, p19⟩ := hn9 19 _ 97 rfl rfl
                        obtain ⟨v20, e20, p20⟩ := hn9 20 _ 98 rfl rfl
                        obtain ⟨v21, e21, p21⟩ := hn9 21 _ 99 rfl rfl
                        obtain ⟨v22, e22, p22⟩ := hn9 22 _ 100 rfl rfl
                        obtain ⟨v23, e23, p23⟩ := hn9 23 _ 101 rfl rfl
                        obtain ⟨v24, e24, p24⟩ := hn9 24 _ 102 rfl rfl
                        obtain ⟨v25, e25, p25⟩ := hn9 25 _ 103 rfl rfl
                        obtain ⟨v26, e26, p26⟩ := hn9 26 _ 104 rfl rfl
                        obtain ⟨v27, e27, p27⟩ := hn9 27 _ 105 rfl rfl
                        obtain ⟨v28, e28, p28⟩ := hn9 28 _ 106 rfl rfl
                        obtain ⟨v29, e29, p29⟩ := hn9 29 _ 107 rfl rfl
                        obtain ⟨v30, e30, p30⟩ := hn9 30 _ 108 rfl rfl
                        obtain ⟨v31, e31, p31⟩ := hn9 31 _ 109 rfl rfl
                        obtain ⟨v32, e32, p32⟩ := hn9 32 _ 110 rfl rfl
                        obtain rfl : v0 = .bool false := p0
                        obtain rfl : v1 = .bool false := p1
                        obtain rfl : v2 = undef := p2
                        obtain rfl : v3 = undef := p3
                        obtain rfl : v4 = .bool false := p4
                        obtain rfl : v5 = .bool false := p5
                        obtain rfl : v6 = .bool false := p6
                        obtain rfl : v7 = .bool false := p7
                        obtain rfl : v8 = .bool true := p8
                        obtain rfl : v9 = .bool true := p9
                        obtain rfl : v10 = .slice (some ⟨b2, o2, none⟩) L.length b1 := p10
                        obtain rfl : v11 = .int .i64 (e : Int) := p11
                        obtain rfl : v12 = .pointer (some ⟨b2, o2 + e * 10, none⟩) := p12
                        obtain rfl : v13 = .pointer (some ⟨b2, o2 + e * 10, none⟩) := p13
                        obtain rfl : v14 = .int .i8 x.f := p14
                        obtain rfl : v15 = .slice (some ⟨b2, o2, none⟩) L.length b1 := p15
                        obtain rfl : v16 = .int .i64 (q : Int) := p16
                        obtain rfl : v17 = .pointer (some ⟨b2, o2 + q * 10, none⟩) := p17
                        obtain rfl : v18 = .pointer (some ⟨b2, o2 + q * 10, none⟩) := p18
                        obtain rfl : v19 = .int .i8 y.f := p19
                        obtain rfl : v20 = .bool true := p20
                        obtain rfl : v21 = .bool true := p21
                        obtain rfl : v22 = .bool true := p22
                        obtain rfl : v23 = .slice s l.length c := p23
                        obtain rfl : v24 = .slice (some ⟨b2, o2, none⟩) L.length b1 := p24
                        obtain rfl : v25 = .int .i64 (e : Int) := p25
                        obtain rfl : v26 = .pointer (some ⟨b2, o2 + e * 10, none⟩) := p26
                        obtain rfl : v27 = .agg #[.int .i8 x.f, .int .u16 x.g0, .int .u16 x.g1, .int .u16 x.g2, .int .u16 x.g3, .int .u16 x.g4, .int .u16 x.g5, .int .u16 x.g6, .int .u16 x.g7, .int .i64 x.p] := p27
                        obtain rfl : v28 = .int .i64 pd := p28
                        obtain rfl : v29 = .int .i64 pa := p29
                        obtain rfl : v30 = .bool false := p30
                        obtain rfl : v31 = .bool false := p31
                        obtain rfl : v32 = .bool false := p32
                        have ha := ByOps.act_eq [(78, .bool false), (79, .bool false), (80, undef), (81, undef), (82, .bool false), (83, .bool false), (84, .bool false), (85, .bool false), (86, .bool true), (87, .bool true), (88, .slice (some ⟨b2, o2, none⟩) L.length b1), (89, .int .i64 (e : Int)), (90, .pointer (some ⟨b2, o2 + e * 10, none⟩)), (91, .pointer (some ⟨b2, o2 + e * 10, none⟩)), (92, .int .i8 x.f), (93, .slice (some ⟨b2, o2, none⟩) L.length b1), (94, .int .i64 (q : Int)), (95, .pointer (some ⟨b2, o2 + q * 10, none⟩)), (96, .pointer (some ⟨b2, o2 + q * 10, none⟩)), (97, .int .i8 y.f), (98, .bool true), (99, .bool true), (100, .bool true), (101, .slice s l.length c), (102, .slice (some ⟨b2, o2, none⟩) L.length b1), (103, .int .i64 (e : Int)), (104, .pointer (some ⟨b2, o2 + e * 10, none⟩)), (105, .agg #[.int .i8 x.f, .int .u16 x.g0, .int .u16 x.g1, .int .u16 x.g2, .int .u16 x.g3, .int .u16 x.g4, .int .u16 x.g5, .int .u16 x.g6, .int .u16 x.g7, .int .i64 x.p]), (106, .int .i64 pd), (107, .int .i64 pa), (108, .bool false), (109, .bool false), (110, .bool false)] a9 _ hd9 hs9 (fun t ht => ho9 t (ByOps.outer_of (ts := [78, 79, 80, 81, 82, 83, 84, 85, 86, 87, 88, 89, 90, 91, 92, 93, 94, 95, 96, 97, 98, 99, 100, 101, 102, 103, 104, 105, 106, 107, 108, 109, 110]) rfl ht)) (by intro p hp; simp only [List.mem_cons, List.not_mem_nil, or_false] at hp; rcases hp with rfl | rfl | rfl | rfl | rfl | rfl | rfl | rfl | rfl | rfl | rfl | rfl | rfl | rfl | rfl | rfl | rfl | rfl | rfl | rfl | rfl | rfl | rfl | rfl | rfl | rfl | rfl | rfl | rfl | rfl | rfl | rfl | rfl <;> assumption)
                        rw [ha]
                        clear ha hn9 ho9 hs9 hd9 e0 e1 e2 e3 e4 e5 e6 e7 e8 e9 e10 e11 e12 e13 e14 e15 e16 e17 e18 e19 e20 e21 e22 e23 e24 e25 e26 e27 e28 e29 e30 e31 e32
                        simp only [List.foldl, Act.put, List.setIfInBounds_toArray, List.set_cons_zero, List.set_cons_succ]
                        have hb9 : Below w3.heap.size w3 wb := ⟨hB9.os, hB9.tape, hB9.output, hB9.size, hB9.block⟩
                        clear hB9
                        have hb := hb9
                        clear hb9 HCx HCy
                        replace HQ := Lib.hid (HQ.out.trans (hb.mono HQ.out.size))
                        replace HR := Lib.hid (HR.out.trans (hb.mono HR.out.size))
                        replace Hl := Lib.hid (Hl.out.below hb)
                        replace Hm := Lib.hid (Hm.out.below hb)
                        replace HA := Lib.hid (HA.out.below hb)
                        replace HB := Lib.hid (HB.out.trans (hb.mono HB.out.size))
                        clear hb
                        go_wp2_with fail
                        go_roundw
                        case rel => exact ⟨e + 1, rfl, by go_num, by omega, Lib.hid HR.out⟩
                        case measure => simp [intOf]; omega
                    · have hfe : (x.f == y.f) = false := by simp [hf]
                      clear hf
                      go_upto_region 19 with fail
                      refine ByOps.region_by_sk (by kernel_rfl) (ByOps.facts [.val (.bool false), .val (.bool false), .un, .un, .val (.bool false), .val (.bool false), .val (.bool false), .val (.bool false), .val (.bool true), .val (.bool true), .val (.slice (some ⟨b2, o2, none⟩) L.length b1), .val (.int .i64 (e : Int)), .val (.pointer (some ⟨b2, o2 + e * 10, none⟩)), .val (.pointer (some ⟨b2, o2 + e * 10, none⟩)), .val (.int .i8 x.f), .val (.slice (some ⟨b2, o2, none⟩) L.length b1), .val (.int .i64 (q : Int)), .val (.pointer (some ⟨b2, o2 + q * 10, none⟩)), .val (.pointer (some ⟨b2, o2 + q * 10, none⟩)), .val (.int .i8 y.f), .val (.bool false), .val (.bool false), .val (.bool false), .un, .un, .un, .un, .un, .un, .un, .un, .val (.bool false), .val (.bool false)]) (ByOps.facts_up _) (by kernel_rfl) (fun i => i == 2 || i == 3 || i == 23 || i == 24 || i == 25 || i == 26 || i == 27 || i == 28 || i == 29 || i == 30) (ByOps.all_ops ?_) (ByOps.all_ops ?_) (ByOps.all_ops ?_) ?_
                      · refine ⟨?_, ?_, ?_, ?_, ?_, ?_, ?_, ?_, ?_, ?_, ?_, ?_, ?_, ?_, ?_, ?_, ?_, ?_, ?_, ?_, ?_, ?_, ?_, ?_, ?_, ?_, ?_, ?_, ?_, ?_, ?_, ?_, ?_, trivial⟩
                        · intro _ ρ w9 hB hs
                          have hBB : Below w3.heap.size w3 w9 := ⟨hB.os, hB.tape, hB.output, hB.size, hB.block⟩
                          have h11 : ρ (.tmp 11) = .bool false := (hs _ (by simp [Op.operands, Call.operands])).2 (fun t ht => by cases ht; kernel_rfl)
                          exact ByOps.runs_value (by first | rfl | go_simp) (Below.refl _ _) h11
                        · intro _ ρ w9 hB hs
                          have hBB : Below w3.heap.size w3 w9 := ⟨hB.os, hB.tape, hB.output, hB.size, hB.block⟩
                          have h78 : ρ (.tmp 78) = .bool false := (hs (.tmp 78) (by simp [Op.operands, Call.operands])).1 78 rfl 0 _ rfl rfl
                          exact ByOps.runs_value (by first | rfl | go_simp) (Below.refl _ _) h78
                        · intro hs0; cases hs0
                        · intro hs0; cases hs0
                        · intro _ ρ w9 hB hs
                          have hBB : Below w3.heap.size w3 w9 := ⟨hB.os, hB.tape, hB.output, hB.size, hB.block⟩
                          have h79 : ρ (.tmp 79) = .bool false := (hs (.tmp 79) (by simp [Op.operands, Call.operands])).1 79 rfl 1 _ rfl rfl
                          have hk : ρ (.const (.bool false)) = .bool false := (hs _ (by simp [Op.operands, Call.operands])).2 (fun t ht => by cases ht)
                          exact ByOps.runs_value (v := .bool false) (by first | rfl | go_simp) (Below.refl _ _) rfl
                        · intro _ ρ w9 hB hs
                          have hBB : Below w3.heap.size w3 w9 := ⟨hB.os, hB.tape, hB.output, hB.size, hB.block⟩
                          have h82 : ρ (.tmp 82) = .bool false := (hs (.tmp 82) (by simp [Op.operands, Call.operands])).1 82 rfl 4 _ rfl rfl
                          exact ByOps.runs_value (by first | rfl | go_simp) (Below.refl _ _) h82
                        · intro _ ρ w9 hB hs
                          have hBB : Below w3.heap.size w3 w9 := ⟨hB.os, hB.tape, hB.output, hB.size, hB.block⟩
                          have h11 : ρ (.tmp 11) = .bool false := (hs _ (by simp [Op.operands, Call.operands])).2 (fun t ht => by cases ht; kernel_rfl)
                          exact ByOps.runs_value (by first | rfl | go_simp) (Below.refl _ _) h11
                        · intro _ ρ w9 hB hs
                          have hBB : Below w3.heap.size w3 w9 := ⟨hB.os, hB.tape, hB.output, hB.size, hB.block⟩
                          have h9 : ρ (.tmp 9) = .bool false := (hs _ (by simp [Op.operands, Call.operands])).2 (fun t ht => by cases ht; kernel_rfl)
                          exact ByOps.runs_value (by first | rfl | go_simp) (Below.refl _ _) h9
                        · intro _ ρ w9 hB hs
                          have hBB : Below w3.heap.size w3 w9 := ⟨hB.os, hB.tape, hB.output, hB.size, hB.block⟩
                          have h84 : ρ (.tmp 84) = .bool false := (hs (.tmp 84) (by simp [Op.operands, Call.operands])).1 84 rfl 6 _ rfl rfl
                          have h85 : ρ (.tmp 85) = .bool false := (hs (.tmp 85) (by simp [Op.operands, Call.operands])).1 85 rfl 7 _ rfl rfl
                          exact ByOps.runs_value (v := .bool true) (by first | rfl | go_simp) (Below.refl _ _) rfl
                        · intro _ ρ w9 hB hs
                          have hBB : Below w3.heap.size w3 w9 := ⟨hB.os, hB.tape, hB.output, hB.size, hB.block⟩
                          have h86 : ρ (.tmp 86) = .bool true := (hs (.tmp 86) (by simp [Op.operands, Call.operands])).1 86 rfl 8 _ rfl rfl
                          exact ByOps.runs_value (by first | rfl | go_simp) (Below.refl _ _) h86
                        · intro _ ρ w9 hB hs
                          have hBB : Below w3.heap.size w3 w9 := ⟨hB.os, hB.tape, hB.output, hB.size, hB.block⟩
                          have h5 : ρ (.tmp 5) = .slice (some ⟨b2, o2, none⟩) L.length b1 := (hs _ (by simp [Op.operands, Call.operands])).2 (fun t ht => by cases ht; kernel_rfl)
                          exact ByOps.runs_value (by first | rfl | go_simp) (Below.refl _ _) h5
                        · intro _ ρ w9 hB hs
                          have hBB : Below w3.heap.size w3 w9 := ⟨hB.os, hB.tape, hB.output, hB.size, hB.block⟩
                          have h10 : ρ (.tmp 10) = .int .i64 (e : Int) := (hs _ (by simp [Op.operands, Call.operands])).2 (fun t ht => by cases ht; kernel_rfl)
                          exact ByOps.runs_value (by first | rfl | go_simp) (Below.refl _ _) h10
                        · intro _ ρ w9 hB hs
                          have hBB : Below w3.heap.size w3 w9 := ⟨hB.os, hB.tape, hB.output, hB.size, hB.block⟩
                          have h88 : ρ (.tmp 88) = .slice (some ⟨b2, o2, none⟩) L.length b1 := (hs (.tmp 88) (by simp [Op.operands, Call.operands])).1 88 rfl 10 _ rfl rfl
                          have h89 : ρ (.tmp 89) = .int .i64 (e : Int) := (hs (.tmp 89) (by simp [Op.operands, Call.operands])).1 89 rfl 11 _ rfl rfl
                          exact ByOps.runs_value (v := .pointer (some ⟨b2, o2 + e * 10, none⟩)) (by first | rfl | go_simp) (Below.refl _ _) rfl
                        · intro _ ρ w9 hB hs
                          have hBB : Below w3.heap.size w3 w9 := ⟨hB.os, hB.tape, hB.output, hB.size, hB.block⟩
                          have h90 : ρ (.tmp 90) = .pointer (some ⟨b2, o2 + e * 10, none⟩) := (hs (.tmp 90) (by simp [Op.operands, Call.operands])).1 90 rfl 12 _ rfl rfl
                          exact ByOps.runs_value (v := .pointer (some ⟨b2, o2 + e * 10, none⟩)) (by first | rfl | go_simp) (Below.refl _ _) rfl
                        · intro _ ρ w9 hB hs
                          have hBB : Below w3.heap.size w3 w9 := ⟨hB.os, hB.tape, hB.output, hB.size, hB.block⟩
                          have h91 : ρ (.tmp 91) = .pointer (some ⟨b2, o2 + e * 10, none⟩) := (hs (.tmp 91) (by simp [Op.operands, Call.operands])).1 91 rfl 13 _ rfl rfl
                          obtain ⟨⟨d0, d1, d2, d3, d4⟩, d5, d6, d7, d8, d9⟩ := HCx.out w9 hBB
                          exact ByOps.runs_value (v := .int .i8 x.f) (by first | rfl | go_simp) (Below.refl _ _) rfl
                        · intro _ ρ w9 hB hs
                          have hBB : Below w3.heap.size w3 w9 := ⟨hB.os, hB.tape, hB.output, hB.size, hB.block⟩
                          have h5 : ρ (.tmp 5) = .slice (some ⟨b2, o2, none⟩) L.length b1 := (hs _ (by simp [Op.operands, Call.operands])).2 (fun t ht => by cases ht; kernel_rfl)
                          exact ByOps.runs_value (by first | rfl | go_simp) (Below.refl _ _) h5
                        · intro _ ρ w9 hB hs
                          have hBB : Below w3.heap.size w3 w9 := ⟨hB.os, hB.tape, hB.output, hB.size, hB.block⟩
                          have h7 : ρ (.tmp 7) = .int .i64 (q : Int) := (hs _ (by simp [Op.operands, Call.operands])).2 (fun t ht => by cases ht; kernel_rfl)
                          exact ByOps.runs_value (by first | rfl | go_simp) (Below.refl _ _) h7
                        · intro _ ρ w9 hB hs
                          have hBB : Below w3.heap.size w3 w9 := ⟨hB.os, hB.tape, hB.output, hB.size, hB.block⟩
                          have h93 : ρ (.tmp 93) = .slice (some ⟨b2, o2, none⟩) L.length b1 := (hs (.tmp 93) (by simp [Op.operands, Call.operands])).1 93 rfl 15 _ rfl rfl
                          have h94 : ρ (.tmp 94) = .int .i64 (q : Int) := (hs (.tmp 94) (by simp [Op.operands, Call.operands])).1 94 rfl 16 _ rfl rfl
                          exact ByOps.runs_value (v := .pointer (some ⟨b2, o2 + q * 10, none⟩)) (by first | rfl | go_simp) (Below.refl _ _) rfl
                        · intro _ ρ w9 hB hs
                          have hBB : Below w3.heap.size w3 w9 := ⟨hB.os, hB.tape, hB.output, hB.size, hB.block⟩
                          have h95 : ρ (.tmp 95) = .pointer (some ⟨b2, o2 + q * 10, none⟩) := (hs (.tmp 95) (by simp [Op.operands, Call.operands])).1 95 rfl 17 _ rfl rfl
                          exact ByOps.runs_value (v := .pointer (some ⟨b2, o2 + q * 10, none⟩)) (by first | rfl | go_simp) (Below.refl _ _) rfl
                        · intro _ ρ w9 hB hs
                          have hBB : Below w3.heap.size w3 w9 := ⟨hB.os, hB.tape, hB.output, hB.size, hB.block⟩
                          have h96 : ρ (.tmp 96) = .pointer (some ⟨b2, o2 + q * 10, none⟩) := (hs (.tmp 96) (by simp [Op.operands, Call.operands])).1 96 rfl 18 _ rfl rfl
                          obtain ⟨⟨k0, k1, k2, k3, k4⟩, k5, k6, k7, k8, k9⟩ := HCy.out w9 hBB
                          exact ByOps.runs_value (v := .int .i8 y.f) (by first | rfl | go_simp) (Below.refl _ _) rfl
                        · intro _ ρ w9 hB hs
                          have hBB : Below w3.heap.size w3 w9 := ⟨hB.os, hB.tape, hB.output, hB.size, hB.block⟩
                          have h92 : ρ (.tmp 92) = .int .i8 x.f := (hs (.tmp 92) (by simp [Op.operands, Call.operands])).1 92 rfl 14 _ rfl rfl
                          have h97 : ρ (.tmp 97) = .int .i8 y.f := (hs (.tmp 97) (by simp [Op.operands, Call.operands])).1 97 rfl 19 _ rfl rfl
                          exact ByOps.runs_value (v := .bool false) (by first | rfl | go_simp) (Below.refl _ _) rfl
                        · intro _ ρ w9 hB hs
                          have hBB : Below w3.heap.size w3 w9 := ⟨hB.os, hB.tape, hB.output, hB.size, hB.block⟩
                          have h87 : ρ (.tmp 87) = .bool true := (hs (.tmp 87) (by simp [Op.operands, Call.operands])).1 87 rfl 9 _ rfl rfl
                          have h98 : ρ (.tmp 98) = .bool false := (hs (.tmp 98) (by simp [Op.operands, Call.operands])).1 98 rfl 20 _ rfl rfl
                          exact ByOps.runs_value (v := .bool false) (by first | rfl | go_simp) (Below.refl _ _) rfl
                        · intro _ ρ w9 hB hs
                          have hBB : Below w3.heap.size w3 w9 := ⟨hB.os, hB.tape, hB.output, hB.size, hB.block⟩
                          have h99 : ρ (.tmp 99) = .bool false := (hs (.tmp 99) (by simp [Op.operands, Call.operands])).1 99 rfl 21 _ rfl rfl
                          exact ByOps.runs_value (by first | rfl | go_simp) (Below.refl _ _) h99
                        · intro hs0; cases hs0
                        · intro hs0; cases hs0
                        · intro hs0; cases hs0
                        · intro hs0; cases hs0
                        · intro hs0; cases hs0
                        · intro hs0; cases hs0
                        · intro hs0; cases hs0
                        · intro hs0; cases hs0
                        · intro _ ρ w9 hB hs
                          have hBB : Below w3.heap.size w3 w9 := ⟨hB.os, hB.tape, hB.output, hB.size, hB.block⟩
                          have h100 : ρ (.tmp 100) = .bool false := (hs (.tmp 100) (by simp [Op.operands, Call.operands])).1 100 rfl 22 _ rfl rfl
                          have hk : ρ (.const (.bool false)) = .bool false := (hs _ (by simp [Op.operands, Call.operands])).2 (fun t ht => by cases ht)
                          exact ByOps.runs_value (v := .bool false) (by first | rfl | go_simp) (Below.refl _ _) rfl
                        · intro _ ρ w9 hB hs
                          have hBB : Below w3.heap.size w3 w9 := ⟨hB.os, hB.tape, hB.output, hB.size, hB.block⟩
                          have h83 : ρ (.tmp 83) = .bool false := (hs (.tmp 83) (by simp [Op.operands, Call.operands])).1 83 rfl 5 _ rfl rfl
                          have h109 : ρ (.tmp 109) = .bool false := (hs (.tmp 109) (by simp [Op.operands, Call.operands])).1 109 rfl 31 _ rfl rfl
                          exact ByOps.runs_value (v := .bool false) (by first | rfl | go_simp) (Below.refl _ _) rfl
                      · refine ⟨?_, ?_, ?_, ?_, ?_, ?_, ?_, ?_, ?_, ?_, ?_, ?_, ?_, ?_, ?_, ?_, ?_, ?_, ?_, ?_, ?_, ?_, ?_, ?_, ?_, ?_, ?_, ?_, ?_, ?_, ?_, ?_, ?_, trivial⟩
                        all_goals first | (intro hs0; cases hs0; done) | (intro _; exact ⟨by simp, fun _ => rfl⟩)
                      · refine ⟨?_, ?_, ?_, ?_, ?_, ?_, ?_, ?_, ?_, ?_, ?_, ?_, ?_, ?_, ?_, ?_, ?_, ?_, ?_, ?_, ?_, ?_, ?_, ?_, ?_, ?_, ?_, ?_, ?_, ?_, ?_, ?_, ?_, trivial⟩
                        all_goals first | (intro g b h; cases h; done) | (intro g b h; cases h; intro v w h; exact ⟨fun h0 => (by first | exact h | cases h0), fun h0 => (by first | cases h0; done | exact .inl h | exact .inr h)⟩)
                      · intro a9 wb hd9 hs9 ho9 hn9 hB9
                        obtain ⟨v0, e0, p0⟩ := hn9 0 _ 78 rfl rfl
                        obtain ⟨v1, e1, p1⟩ := hn9 1 _ 79 rfl rfl
                        obtain ⟨v2, e2, p2⟩ := hn9 2 _ 80 rfl rfl
                        obtain ⟨v3, e3, p3⟩ := hn9 3 _ 81 rfl rfl
                        obtain ⟨v4, e4, p4⟩ := hn9 4 _ 82 rfl rfl
                        obtain ⟨v5, e5, p5⟩ := hn9 5 _ 83 rfl rfl
                        obtain ⟨v6, e6, p6⟩ := hn9 6 _ 84 rfl rfl
                        obtain ⟨v7, e7, p7⟩ := hn9 7 _ 85 rfl rfl
                        obtain ⟨v8, e8, p8⟩ := hn9 8 _ 86 rfl rfl
                        obtain ⟨v9, e9, p9⟩ := hn9 9 _ 87 rfl rfl
                        obtain ⟨v10, e10, p10⟩ := hn9 10 _ 88 rfl rfl
                        obtain ⟨v11, e11, p11⟩ := hn9 11 _ 89 rfl rfl
                        obtain ⟨v12, e12, p12⟩ := hn9 12 _ 90 rfl rfl
                        obtain ⟨v13, e13, p13⟩ := hn9 13 _ 91 rfl rfl
                        obtain ⟨v14, e14, p14⟩ := hn9 14 _ 92 rfl rfl
                        obtain ⟨v15, e15, p15⟩ := hn9 15 _ 93 rfl rfl
                        obtain ⟨v16, e16, p16⟩ := hn9 16 _ 94 rfl rfl
                        obtain ⟨v17, e17, p17⟩ := hn9 17 _ 95 rfl rfl
                        obtain ⟨v18, e18, p18⟩ := hn9 18 _ 96 rfl rfl
                        obtain ⟨v19, e19, p19⟩ := hn9 19 _ 97 rfl rfl
                        obtain ⟨v20, e20, p20⟩ := hn9 20 _ 98 rfl rfl
                        obtain ⟨v21, e21, p21⟩ := hn9 21 _ 99 rfl rfl
                        obtain ⟨v22, e22, p22⟩ := hn9 22 _ 100 rfl rfl
                        obtain ⟨v23, e23, p23⟩ := hn9 23 _ 101 rfl rfl
                        obtain ⟨v24, e24, p24⟩ := hn9 24 _ 102 rfl rfl
                        obtain ⟨v25, e25, p25⟩ := hn9 25 _ 103 rfl rfl
                        obtain ⟨v26, e26, p26⟩ := hn9 26 _ 104 rfl rfl
                        obtain ⟨v27, e27, p27⟩ := hn9 27 _ 105 rfl rfl
                        obtain ⟨v28, e28, p28⟩ := hn9 28 _ 106 rfl rfl
                        obtain ⟨v29, e29, p29⟩ := hn9 29 _ 107 rfl rfl
                        obtain ⟨v30, e30, p30⟩ := hn9 30 _ 108 rfl rfl
                        obtain ⟨v31, e31, p31⟩ := hn9 31 _ 109 rfl rfl
                        obtain ⟨v32, e32, p32⟩ := hn9 32 _ 110 rfl rfl
                        obtain rfl : v0 = .bool false := p0
                        obtain rfl : v1 = .bool false := p1
                        obtain rfl : v2 = undef := p2
                        obtain rfl : v3 = undef := p3
                        obtain rfl : v4 = .bool false := p4
                        obtain rfl : v5 = .bool false := p5
                        obtain rfl : v6 = .bool false := p6
                        obtain rfl : v7 = .bool false := p7
                        obtain rfl : v8 = .bool true := p8
                        obtain rfl : v9 = .bool true := p9
                        obtain rfl : v10 = .slice (some ⟨b2, o2, none⟩) L.length b1 := p10
                        obtain rfl : v11 = .int .i64 (e : Int) := p11
                        obtain rfl : v12 = .pointer (some ⟨b2, o2 + e * 10, none⟩) := p12
                        obtain rfl : v13 = .pointer (some ⟨b2, o2 + e * 10, none⟩) := p13
                        obtain rfl : v14 = .int .i8 x.f := p14
                        obtain rfl : v15 = .slice (some ⟨b2, o2, none⟩) L.length b1 := p15
                        obtain rfl : v16 = .int .i64 (q : Int) := p16
                        obtain rfl : v17 = .pointer (some ⟨b2, o2 + q * 10, none⟩) := p17
                        obtain rfl : v18 = .pointer (some ⟨b2, o2 + q * 10, none⟩) := p18
                        obtain rfl : v19 = .int .i8 y.f := p19
                        obtain rfl : v20 = .bool false := p20
                        obtain rfl : v21 = .bool false := p21
                        obtain rfl : v22 = .bool false := p22
                        obtain rfl : v23 = undef := p23
                        obtain rfl : v24 = undef := p24
                        obtain rfl : v25 = undef := p25
                        obtain rfl : v26 = undef := p26
                        obtain rfl : v27 = undef := p27
                        obtain rfl : v28 = undef := p28
                        obtain rfl : v29 = undef := p29
                        obtain rfl : v30 = undef := p30
                        obtain rfl : v31 = .bool false := p31
                        obtain rfl : v32 = .bool false := p32
                        have ha := ByOps.act_eq [(78, .bool false), (79, .bool false), (80, undef), (81, undef), (82, .bool false), (83, .bool false), (84, .bool false), (85, .bool false), (86, .bool true), (87, .bool true), (88, .slice (some ⟨b2, o2, none⟩) L.length b1), (89, .int .i64 (e : Int)), (90, .pointer (some ⟨b2, o2 + e * 10, none⟩)), (91, .pointer (some ⟨b2, o2 + e * 10, none⟩)), (92, .int .i8 x.f), (93, .slice (some ⟨b2, o2, none⟩) L.length b1), (94, .int .i64 (q : Int)), (95, .pointer (some ⟨b2, o2 + q * 10, none⟩)), (96, .pointer (some ⟨b2, o2 + q * 10, none⟩)), (97, .int .i8 y.f), (98, .bool false), (99, .bool false), (100, .bool false), (101, undef), (102, undef), (103, undef), (104, undef), (105, undef), (106, undef), (107, undef), (108, undef), (109, .bool false), (110, .bool false)] a9 _ hd9 hs9 (fun t ht => ho9 t (ByOps.outer_of (ts := [78, 79, 80, 81, 82, 83, 84, 85, 86, 87, 88, 89, 90, 91, 92, 93, 94, 95, 96, 97, 98, 99, 100, 101, 102, 103, 104, 105, 106, 107, 108, 109, 110]) rfl ht)) (by intro p hp; simp only [List.mem_cons, List.not_mem_nil, or_false] at hp; rcases hp with rfl | rfl | rfl | rfl | rfl | rfl | rfl | rfl | rfl | rfl | rfl | rfl | rfl | rfl | rfl | rfl | rfl | rfl | rfl | rfl | rfl | rfl | rfl | rfl | rfl | rfl | rfl | rfl | rfl | rfl | rfl | rfl | rfl <;> assumption)
                        rw [ha]
                        clear ha hn9 ho9 hs9 hd9 e0 e1 e2 e3 e4 e5 e6 e7 e8 e9 e10 e11 e12 e13 e14 e15 e16 e17 e18 e19 e20 e21 e22 e23 e24 e25 e26 e27 e28 e29 e30 e31 e32
                        simp only [List.foldl, Act.put, List.setIfInBounds_toArray, List.set_cons_zero, List.set_cons_succ]
                        have hb9 : Below w3.heap.size w3 wb := ⟨hB9.os, hB9.tape, hB9.output, hB9.size, hB9.block⟩
                        clear hB9
                        have hb := hb9
                        clear hb9 HCx HCy
                        replace HQ := Lib.hid (HQ.out.trans (hb.mono HQ.out.size))
                        replace HR := Lib.hid (HR.out.trans (hb.mono HR.out.size))
                        replace Hl := Lib.hid (Hl.out.below hb)
                        replace Hm := Lib.hid (Hm.out.below hb)
                        replace HA := Lib.hid (HA.out.below hb)
                        replace HB := Lib.hid (HB.out.trans (hb.mono HB.out.size))
                        clear hb
                        go_wp2_with fail
                        go_roundw
                        case rel => exact ⟨e + 1, rfl, by go_num, by omega, Lib.hid HR.out⟩
                        case measure => simp [intOf]; omega
                · obtain rfl : e = q := by omega
                  go_wp2_with fail
                  go_roundw
                  case rel => exact ⟨e + 1, rfl, by go_num, by omega, Lib.hid HQ.out⟩
                  case measure => simp [intOf]; omega
        · go_wp2_with fail
          with_reducible refine (HWk.out _).mono ?_
          rintro e wf ⟨rfl, hb⟩
          have HBf := Lib.hid (HB.out.trans (hb.mono HB.out.size))
          clear hb
          go_wp2_with fail
          go_ret
          exact ⟨rfl, HBf.out⟩
end Go.Proofs.Ytcihcdifjnobjaa
