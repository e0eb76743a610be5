/- Sorted: a row in the order that less tells. -/
import Derived.Test.YtbejnnkdgcelmaaGreatDoorOrdP
import Derived.Test.YtbejnnkdgcelmaaGreatDoorSortShelf
import Derived.Lib.OwnBridge
set_option linter.unusedSimpArgs false
set_option linter.unusedVariables false
namespace Go.Proofs.YtbejnnkdgcelmaaGreatDoor
open Go.RowKit
open Go.Sort (grow SWO HoldsK putRowK size_putRowK flatK size_flatK get_flatK Holds)

theorem eql_addr (a b : Ad) (W : World) : (binOp .eql 26 (.agg #[.int .i8 a.f, .int .u16 a.g0, .int .u16 a.g1, .int .u16 a.g2, .int .u16 a.g3, .int .u16 a.g4, .int .u16 a.g5, .int .u16 a.g6, .int .u16 a.g7, .int .i64 a.p]) (.agg #[.int .i8 b.f, .int .u16 b.g0, .int .u16 b.g1, .int .u16 b.g2, .int .u16 b.g3, .int .u16 b.g4, .int .u16 b.g5, .int .u16 b.g6, .int .u16 b.g7, .int .i64 b.p])).run Tryz.prog W = .ok (.bool (a == b)) W := by
  rw [run_eql_struct]
  have h := equalIn_addr W a b
  simp only [Ad.v, Ad.enc] at h
  rw [h]
  rfl

theorem grown_two (w w' : World) (o1 o2 : Obj) (h : ∃ q os, w' = grow (((w.alloc o1).alloc o2).drewN q) os) : ∃ q os, w' = grow (w.drewN q) os := by
  obtain ⟨q, os, rfl⟩ := h
  rw [Go.Sort.alloc_eq_grow, Go.Sort.alloc_eq_grow, Go.Sort.grow_grow]
  refine ⟨q, #[o1] ++ #[o2] ++ os, ?_⟩
  rw [show (grow w (#[o1] ++ #[o2])).drewN q = grow (w.drewN q) (#[o1] ++ #[o2]) from rfl, Go.Sort.grow_grow]
set_option maxHeartbeats 8000000 in
set_option maxRecDepth 1000000 in
theorem closure_any (a b : Ad) (w : World) : Calls Tryz.prog 39 #[a.v, b.v] w fun e w' => e = .returned (.int .i64 (cfP a b)) ∧ ∃ q os, w' = grow (w.drewN q) os := by
  have HEq := Lib.hid (eql_addr a b)
  have HGD := Lib.hid guard_addr
  have HLess := Lib.hid (less_any a b)
  simp only [Ad.v, Ad.enc] at HLess ⊢
  by_cases hab : a = b
  · have HV := Lib.hid (show cfP a b = 0 by unfold cfP; rw [if_pos hab])
    have hb : (a == b) = true := by simp [hab]
    rw [hb] at HEq
    clear hab hb
    have heq := HEq.out
    have hgd := HGD.out
    go_enter Tryz.func39, Tryz.ntmps39
    go_wp2_with fail
    go_ret
    exact ⟨by rw [HV.out]; rfl, grown_two w _ _ _ ⟨0, #[], (Go.Sort.grow_empty _).symm⟩⟩
  · have hb : (a == b) = false := by simp [hab]
    rw [hb] at HEq
    have HV := Lib.hid (show cfP a b = if lessP a b = true then -1 else 1 by unfold cfP; rw [if_neg hab])
    clear hab hb
    have heq := HEq.out
    have hgd := HGD.out
    cases hl : lessP a b
    all_goals
      have HV2 := Lib.hid HV.out
      rw [hl] at HV2 HLess
      clear hl HV
      go_enter Tryz.func39, Tryz.ntmps39
      go_wp2_with fail
      with_reducible refine (HLess.out ((w.alloc (Obj.cells #[.int .i8 a.f, .int .u16 a.g0, .int .u16 a.g1, .int .u16 a.g2, .int .u16 a.g3, .int .u16 a.g4, .int .u16 a.g5, .int .u16 a.g6, .int .u16 a.g7, .int .i64 a.p] 26)).alloc (Obj.cells #[.int .i8 b.f, .int .u16 b.g0, .int .u16 b.g1, .int .u16 b.g2, .int .u16 b.g3, .int .u16 b.g4, .int .u16 b.g5, .int .u16 b.g6, .int .u16 b.g7, .int .i64 b.p] 26))).mono ?_
      rintro e w2 ⟨rfl, hb2, hgrow⟩
      go_wp2_with fail
      go_ret
      exact ⟨by rw [HV2.out]; rfl, grown_two w _ _ _ hgrow⟩
theorem ads_enc_one (l : List Ad) : ∀ u ∈ P.ads l, u.oneCell' = true := by
  intro u hu
  rw [P.ads, List.mem_flatMap] at hu
  obtain ⟨x, _, hx⟩ := hu
  exact x.enc_one u hx
theorem ads_at {w : World} {b o : Nat} {l : List Ad} (h : AdsAt w b o l) : ∀ (j : Nat) (u : Value), (P.ads l)[j]? = some u → w.cell? ⟨b, o + j, none⟩ = some u := by
  intro j u hu
  have hj : j < l.length * 10 := by rw [← P.ads_length]; exact (List.getElem?_eq_some_iff.1 hu).1
  obtain ⟨x, hx⟩ : ∃ x, l[j / 10]? = some x := ⟨_, List.getElem?_eq_getElem (by omega)⟩
  have h1 := ads_get l (j / 10) x hx (j % 10) (by omega)
  rw [show j / 10 * 10 + j % 10 = j by omega, hu] at h1
  have h2 := h (j / 10) x hx (j % 10) u h1.symm
  rwa [show o + j / 10 * 10 + j % 10 = o + j by omega] at h2

noncomputable def iAdT : TypeInfo := (Tryz.prog.info? 26).get (by kernel_rfl)
set_option maxHeartbeats 2000000 in
set_option maxRecDepth 1000000 in
theorem clone_zero (p : Addr) (c : Nat) (w : World) :
    Calls Tryz.prog 37 #[.slice (some p) 0 c] w fun e w' => ∃ v, e = .returned v ∧ w'.ownsRow w.heap.size 26 10 v 0 [] ∧ Below w.heap.size w w' := by
  obtain ⟨i0, hi, hz0, hz1, hz2⟩ := info_parts iAd
  have q22 : ∀ (w : World) (a : Option Addr) (n c n' c' : Nat), (binOp .eql 27 (.slice a n c) (.slice none n' c')).run Tryz.prog w = .ok (.bool a.isNone) w := fun w a n c n' c' => Lib.run_eql_slice_nil w _ _ a n c n' c' Tryz.underlying27
  go_enter Tryz.func37, Tryz.ntmps37
  go_wp2_with (at_builtin; refine wpList_append_own _ rfl _ _ 27 rfl w.heap.size 26 i0 Ad.zero.v 10 32 Tryz.underlying27 hi hz0 hz1 hz2 rfl (by decide) _ _ _ rfl (World.ownsRow_made w #[] 0 (Nat.le_refl _) (Nat.zero_le _) rfl) p 0 c [] rfl rfl (by intro j u hj; simp at hj) (by intro u hu; cases hu) (by unfold maxLen; omega) (by omega) (by simp) ?_)
  intro v' w1 hown hgrow hnil
  go_wp2
  go_ret
  exact ⟨v', rfl, by simpa using hown, ((Below.refl _ w).alloc (Nat.le_refl _) _).grown hgrow (by simp) (by intro k hk; simp [Value.ownBlock] at hk; omega)⟩
theorem clone_any (l : List Ad) (a : Option Addr) (c : Nat) (w : World) (hl : l.length ≤ 100000) (hA : RowAt w a l) :
    Calls Tryz.prog 37 #[.slice a l.length c] w fun e w' => ∃ v, e = .returned v ∧ w'.ownsRow w.heap.size 26 10 v l.length (P.ads l) ∧ Below w.heap.size w w' := by
  cases l with
  | nil =>
    cases a with
    | none => exact (AnyE.slices_Clone_nil Tryz.cloneAd 0 c w).mono fun e w' ⟨he, hw⟩ => ⟨_, he, World.ownsRow_nil _ _ _ _, by rw [hw]; exact Below.refl _ _⟩
    | some p => exact clone_zero p c w
  | cons x l =>
    obtain ⟨b, o, rfl, hb, hat⟩ := hA (by simp)
    have h := AnyE.slices_Clone Tryz.cloneAd iAdT Ad.zero.v 10 32 (by kernel_rfl) (by kernel_rfl) (by kernel_rfl) (by kernel_rfl) rfl (by decide) Tryz.sizeOf26 b o (x :: l).length c (P.ads (x :: l)) w (P.ads_length _) (by unfold maxLen; omega) (by omega) (ads_at hat) (ads_enc_one _)
    exact h.mono fun e w' ⟨v, he, h1, _, h2⟩ => ⟨v, he, h1, h2⟩

/-- The row's cells, in the sort's own words. -/
theorem holds_of_own {w : World} {base g cap : Nat} {l : List Ad} (h : w.ownsRow base 26 10 (.slice (some ⟨g, 0, none⟩) l.length cap) l.length (P.ads l)) (hl : 0 < l.length) : HoldsK Ad.enc 10 w g 0 l.toArray := by
  obtain ⟨g', cap', he, hb, hg, hc, hcell⟩ := row_cell h hl
  obtain ⟨rfl, rfl⟩ : g = g' ∧ cap = cap' := by injection he with h1 h2 h3; injection h1 with h1; injection h1 with h1; exact ⟨h1, h3⟩
  intro j hj
  rw [size_flatK, List.size_toArray] at hj
  have hf : w.frozen? ⟨g, 0 + j, none⟩ = false := by
    rcases h.2 with ⟨h1, _⟩ | ⟨g2, cap2, cur, h1, _, h2, _⟩
    · cases h1
    · injection h1 with h1
      injection h1 with h1
      injection h1 with h1
      subst h1
      unfold World.frozen?
      rw [show (⟨g, 0 + j, none⟩ : Addr).block = g from rfl, h2]
      simp
  refine ⟨?_, hf⟩
  obtain ⟨x, hx⟩ : ∃ x, l[j / 10]? = some x := ⟨_, List.getElem?_eq_getElem (by omega)⟩
  have h1 := ads_get l (j / 10) x hx (j % 10) (by omega)
  rw [show j / 10 * 10 + j % 10 = j by omega] at h1
  rw [Nat.zero_add, hcell j hj, get_flatK _ _ _ _ (by rw [List.size_toArray]; exact hj), h1]
  have hx2 : l.toArray[j / 10]! = x := by
    rw [getElem!_pos l.toArray (j / 10) (by rw [List.size_toArray]; omega)]
    have := (List.getElem?_eq_some_iff.1 hx).2
    simpa using this
  rw [hx2]
  have hlt : j % 10 < x.enc.length := by rw [Ad.enc_length]; omega
  rw [List.getElem?_eq_getElem hlt, getElem!_pos x.enc (j % 10) hlt]
  rfl
theorem row_of_holds {w : World} {g : Nat} {l : List Ad} (h : HoldsK Ad.enc 10 w g 0 l.toArray) (hg : g < w.heap.size) : RowAt w (some ⟨g, 0, none⟩) l := by
  intro _
  refine ⟨g, 0, rfl, hg, ?_⟩
  intro j x hx i u hu
  have hj : j < l.length := (List.getElem?_eq_some_iff.1 hx).1
  have hi : i < 10 := by have := (List.getElem?_eq_some_iff.1 hu).1; rwa [Ad.enc_length] at this
  have h1 := (h (j * 10 + i) (by rw [size_flatK, List.size_toArray]; omega)).1
  rw [get_flatK _ _ _ _ (by rw [List.size_toArray]; omega), show (j * 10 + i) / 10 = j by omega, show (j * 10 + i) % 10 = i by omega] at h1
  have hx2 : l.toArray[j]! = x := by
    rw [getElem!_pos l.toArray j (by rw [List.size_toArray]; omega)]
    have := (List.getElem?_eq_some_iff.1 hx).2
    simpa using this
  rw [hx2] at h1
  have hlt : i < x.enc.length := by rw [Ad.enc_length]; omega
  have hu2 : x.enc[i]! = u := by rw [getElem!_pos x.enc i hlt]; exact (List.getElem?_eq_some_iff.1 hu).2
  rw [hu2] at h1
  rw [show 0 + j * 10 + i = 0 + (j * 10 + i) by omega]
  exact h1
theorem below_sort {B : Nat} {w0 w : World} {g n : Nat} {d : Array Ad} {os : Array Obj} (h : Below B w0 w) (hg : B ≤ g) (hs : B ≤ w.heap.size) : Below B w0 (sortWorldK Ad.enc 10 w g 0 n d os) := by
  have h1 : Below B w0 (putRowK Ad.enc 10 (Go.Sort.ahead w n) g 0 d) := Lib.below_putRow h hg
  refine h1.trans ?_
  exact Lib.below_grow B (putRowK Ad.enc 10 (Go.Sort.ahead w n) g 0 d) (Nat.le_trans hs (by rw [size_putRowK]; exact Nat.le_refl _)) 0 os
theorem cmp_lays (g size : Nat) (w : World) : CmpLays Tryz.prog 39 #[] Ad.enc 10 cfP g 0 size w := fun _ _ _ _ x y => closure_any x y _
theorem sortFunc_any (l : List Ad) (g cap : Nat) (w : World) (hH : HoldsK Ad.enc 10 w g 0 l.toArray) (hg : g < w.heap.size) (hl : l.length ≤ 100000) :
    Calls Tryz.prog 38 #[.slice (some ⟨g, 0, none⟩) l.length cap, .func (.func 39) #[] #[]] w fun e w' =>
      e = .returned (.tuple #[]) ∧ ∃ n os, w' = sortWorldK Ad.enc 10 w g 0 n (sortP l).toArray os := by
  have eg : ∀ args w, (callFunc 39 args).run Tryz.prog w = .ok (.enter 39 args) w := enters_of Tryz.func39 (by kernel_rfl) rfl
  have h := AnyQ.slices_SortFunc_total Tryz.sortAd 10 Tryz.isAgg26 Tryz.sizeOf26 Ad.enc (fun _ => rfl) (fun x => x.enc_one) cfP cfP_swo 39 #[] g 0 cap l.toArray w eg (cmp_lays g _ w) hH hg (by rw [List.size_toArray]; omega) cfP_tot
  rw [show (fun x y : Ad => !(ltOf cfP) y x) = (fun x y : Ad => !lessP y x) from by funext x y; rw [cfP_lt]] at h
  exact h
theorem sortFunc_none (p : Option Addr) (cap : Nat) (w : World) :
    Calls Tryz.prog 38 #[.slice p 0 cap, .func (.func 39) #[] #[]] w fun e w' => e = .returned (.tuple #[]) ∧ w' = w :=
  AnyF.slices_SortFunc_none { Tryz.sortAd with } p cap (.func (.func 39) #[] #[]) w

set_option maxHeartbeats 8000000 in
set_option maxRecDepth 1000000 in
theorem sorted_any (l : List Ad) (a : Option Addr) (c : Nat) (w : World) (hl : l.length ≤ 100000) (hA : RowAt w a l) :
    Calls Tryz.prog 16 #[.slice a l.length c] w fun e w' => ∃ a' c', e = .returned (.slice a' l.length c') ∧ RowAt w' a' (sortP l) ∧ Below w.heap.size w w' := by
  have HC := Lib.hid (clone_any l a c w hl hA)
  clear hA
  go_enter Tryz.func16, Tryz.ntmps16
  go_wp2_with fail
  with_reducible refine HC.out.mono ?_
  rintro e w1 ⟨v, rfl, hown, hb1⟩
  obtain ⟨a1, c1, rfl⟩ := row_form hown
  by_cases h0 : l.length = 0
  · obtain rfl : l = [] := List.length_eq_zero_iff.1 h0
    have HS := Lib.hid (sortFunc_none a1 c1 w1)
    have hsn : sortP [] = [] := by simp [sortP]
    go_wp2_with fail
    with_reducible refine HS.out.mono ?_
    rintro e w2 ⟨rfl, rfl⟩
    go_wp2_with fail
    go_ret
    exact ⟨a1, c1, rfl, fun h => absurd h (by rw [hsn]; simp), hb1⟩
  · have hpos : 0 < l.length := by omega
    obtain ⟨g, cap, he, hg, hgs, hcap, _⟩ := row_cell hown hpos
    obtain ⟨rfl, rfl⟩ : a1 = some ⟨g, 0, none⟩ ∧ c1 = cap := by injection he with h1 h2 h3; exact ⟨h1, h3⟩
    have hH := holds_of_own hown hpos
    have HS := Lib.hid (sortFunc_any l g c1 w1 hH hgs hl)
    have HD := fun n os => Lib.hid (And.intro (row_of_holds (holdsK_sortWorldK_c Ad.enc 10 w1 g 0 l.toArray (sortP l).toArray n os hH hgs (by rw [List.size_toArray, List.size_toArray]; exact sort_len l)) (Nat.lt_of_lt_of_le hgs (size_sortWorldK_c Ad.enc 10 w1 g 0 n (sortP l).toArray os))) (below_sort (n := n) (d := (sortP l).toArray) (os := os) hb1 hg hb1.size))
    clear hown hH hg hgs hcap
    go_wp2_with fail
    with_reducible refine HS.out.mono ?_
    rintro e w2 ⟨rfl, n, os, rfl⟩
    have HD2 := HD n os
    clear HD
    go_wp2_with fail
    go_ret
    exact ⟨_, _, rfl, HD2.out.1, HD2.out.2⟩
end Go.Proofs.YtbejnnkdgcelmaaGreatDoor
