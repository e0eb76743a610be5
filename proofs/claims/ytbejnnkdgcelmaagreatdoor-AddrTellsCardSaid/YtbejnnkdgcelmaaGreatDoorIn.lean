/- Rows of addresses that came in: May, Of, Great. -/
import Derived.Test.YtbejnnkdgcelmaaGreatDoorWakes
set_option linter.unusedSimpArgs false
set_option linter.unusedVariables false
namespace Go.Proofs.YtbejnnkdgcelmaaGreatDoor
open Go.RowKit

/-- A row of addresses, wherever it lies; nothing is asked of an empty one's address. -/
def RowAt (w : World) (a : Option Addr) (l : List Ad) : Prop := 0 < l.length → ∃ b o, a = some ⟨b, o, none⟩ ∧ b < w.heap.size ∧ AdsAt w b o l
theorem RowAt.below {w w' : World} {a : Option Addr} {l : List Ad} (h : RowAt w a l) (hb : Below w.heap.size w w') : RowAt w' a l := fun hl => by
  obtain ⟨b, o, h1, h2, h3⟩ := h hl
  exact ⟨b, o, h1, Nat.lt_of_lt_of_le h2 hb.size, h3.below hb h2⟩

set_option maxHeartbeats 2000000 in
set_option maxRecDepth 100000 in
theorem may_none (a : Option Addr) (c : Nat) (w : World) : Calls Tryz.prog 11 #[.slice a 0 c] w fun e w' => e = .returned (.bool true) ∧ Below w.heap.size w w' := by
  go_enter Tryz.func11, Tryz.ntmps11
  go_wp2_with fail
  go_loop [7] (fun i => i = .int .i64 0) (fun _ => 0)
  case atStart => rfl
  case round =>
    subst hrel
    go_wp2_with fail
    go_ret
    exact ⟨rfl, Below.refl _ _⟩
theorem may_in (l : List Ad) (a : Option Addr) (c : Nat) (w : World) (hl : l.length ≤ 100000) (hA : RowAt w a l) :
    Calls Tryz.prog 11 #[.slice a l.length c] w fun e w' => e = .returned (.bool (l.all mayP)) ∧ Below w.heap.size w w' := by
  cases l with
  | nil => exact may_none a c w
  | cons x l =>
    obtain ⟨b, o, rfl, hb, hat⟩ := hA (by simp)
    exact may_any (x :: l) b o c w hl hb hat

theorem iAd : (Tryz.prog.info? 26).map (fun i => (i.zero, i.size, i.bytes)) = some (some Ad.zero.v, 10, 32) := by kernel_rfl
def P.ads (l : List Ad) : List Value := l.flatMap Ad.enc
theorem P.ads_append (l m : List Ad) : P.ads (l ++ m) = P.ads l ++ P.ads m := by simp [P.ads]
theorem P.ads_one (a : Ad) : P.ads [a] = a.enc := by simp [P.ads]
theorem P.ads_length (l : List Ad) : (P.ads l).length = l.length * 10 := by
  induction l with
  | nil => rfl
  | cons a l ih => rw [P.ads, List.flatMap_cons, List.length_append]; unfold P.ads at ih; rw [ih, Ad.enc_length, List.length_cons]; omega
theorem take_filter (l : List Ad) (k : Nat) (x : Ad) (h : l[k]? = some x) (fam : Int) : (l.take (k + 1)).filter (·.f == fam) = (l.take k).filter (·.f == fam) ++ (if x.f == fam then [x] else []) := by
  rw [List.take_add_one, h, List.filter_append]
  congr 1
  cases hx : (x.f == fam) <;> simp [hx]

set_option maxHeartbeats 8000000 in
set_option maxRecDepth 1000000 in
theorem of_in (l : List Ad) (a : Option Addr) (c : Nat) (fam : Int) (w : World) (hl : l.length ≤ 100000) (hA : RowAt w a l) :
    Calls Tryz.prog 18 #[.int .i8 fam, .slice a l.length c] w fun e w' => ∃ v, e = .returned v ∧ w'.ownsRow w.heap.size 26 10 v (l.filter (·.f == fam)).length (P.ads (l.filter (·.f == fam))) ∧ Below w.heap.size w w' := by
  obtain ⟨i0, hi, hz0, hz1, hz2⟩ := info_parts iAd
  have HA := Lib.hid hA
  clear hA
  go_enter Tryz.func18, Tryz.ntmps18
  go_wp2_with fail
  go_loopw [5, 10] (fun u5 i wr => ∃ k : Nat, i = .int .i64 k ∧ k ≤ l.length ∧ Below w.heap.size w wr ∧ wr.ownsRow w.heap.size 26 10 u5 ((l.take k).filter (·.f == fam)).length (P.ads ((l.take k).filter (·.f == fam)))) (fun _ i _ => l.length - (intOf i).toNat)
  case atStart => exact ⟨0, rfl, by omega, Below.refl _ _, World.ownsRow_nil _ _ _ _⟩
  case round =>
    obtain ⟨k, rfl, hk, hbw, hown⟩ := hrel
    have hbs := hbw.size
    by_cases hlt : k < l.length
    · obtain ⟨b, o, rfl, hb, hat⟩ := (HA.out.below hbw) (by omega)
      obtain ⟨x, hx⟩ : ∃ x, l[k]? = some x := ⟨_, List.getElem?_eq_getElem hlt⟩
      obtain ⟨c0, c1, c2, c3, c4, c5, c6, c7, c8, c9⟩ := hat.cells k x hx
      have hlen : ((l.take k).filter (·.f == fam)).length ≤ k := by
        have h1 := List.length_filter_le (fun y : Ad => y.f == fam) (l.take k)
        rw [List.length_take] at h1
        omega
      have HT := Lib.hid (take_filter l k x hx fam)
      clear hx hat
      cases hf : (x.f == fam) with
      | false =>
        have HT2 := Lib.hid (show (l.take (k + 1)).filter (·.f == fam) = (l.take k).filter (·.f == fam) by rw [HT.out, hf]; simp)
        go_wp2_with fail
        go_roundw
        case rel => exact ⟨k + 1, by go_num, by omega, hbw.alloc hbw.size _, by rw [HT2.out]; exact hown.alloc _⟩
        case measure => simp [intOf]; omega
      | true =>
        have HT2 := Lib.hid (show P.ads ((l.take (k + 1)).filter (·.f == fam)) = P.ads ((l.take k).filter (·.f == fam)) ++ x.enc ∧ ((l.take (k + 1)).filter (·.f == fam)).length = ((l.take k).filter (·.f == fam)).length + 1 by
          rw [HT.out, hf, if_pos rfl, P.ads_append, P.ads_one]; exact ⟨rfl, by simp⟩)
        have HE1 := Lib.hid x.enc_one
        have HN := Lib.hid (show ∀ (j : Nat) (u : Value), x.enc[j]? = some u → ((wr.alloc (Obj.cells #[.int .i8 x.f, .int .u16 x.g0, .int .u16 x.g1, .int .u16 x.g2, .int .u16 x.g3, .int .u16 x.g4, .int .u16 x.g5, .int .u16 x.g6, .int .u16 x.g7, .int .i64 x.p] 26)).alloc (Obj.cells #[.int .i8 x.f, .int .u16 x.g0, .int .u16 x.g1, .int .u16 x.g2, .int .u16 x.g3, .int .u16 x.g4, .int .u16 x.g5, .int .u16 x.g6, .int .u16 x.g7, .int .i64 x.p] 26)).cell? ((⟨wr.heap.size + 1, 0, none⟩ : Addr).add j) = some u by
          intro j u hu
          have h := cells_new (wr.alloc (Obj.cells #[.int .i8 x.f, .int .u16 x.g0, .int .u16 x.g1, .int .u16 x.g2, .int .u16 x.g3, .int .u16 x.g4, .int .u16 x.g5, .int .u16 x.g6, .int .u16 x.g7, .int .i64 x.p] 26)) 26 x.enc #[.int .i8 x.f, .int .u16 x.g0, .int .u16 x.g1, .int .u16 x.g2, .int .u16 x.g3, .int .u16 x.g4, .int .u16 x.g5, .int .u16 x.g6, .int .u16 x.g7, .int .i64 x.p] rfl j u hu
          rwa [World.size_alloc] at h)
        go_wp2_with (at_builtin; refine wpList_append_own _ rfl _ _ 27 rfl w.heap.size 26 i0 Ad.zero.v 10 32 Tryz.underlying27 hi hz0 hz1 hz2 rfl (by decide) _ _ _ rfl ((hown.alloc _).alloc _) ⟨wr.heap.size + 1, 0, none⟩ 1 1 x.enc rfl rfl HN.out HE1.out (by unfold maxLen; omega) (by omega) (by simp; omega) ?_; intro v' w' hown' hgrow' _)
        go_roundw
        case rel => exact ⟨k + 1, by go_num, by omega, ((hbw.alloc hbw.size _).alloc (hbw.alloc hbw.size _).size _).grown hgrow' (by simp; omega) (fun k hk => (hown.lt k hk).1), by rw [HT2.out.1, HT2.out.2]; exact hown'⟩
        case measure => simp [intOf]; omega
    · obtain rfl : k = l.length := by omega
      rw [List.take_length] at hown
      go_wp2_with fail
      go_ret
      exact ⟨u5, rfl, hown, hbw⟩

set_option maxHeartbeats 1000000 in
theorem great_any (n : Nat) (a : Option Addr) (c : Nat) (w : World) : Calls Tryz.prog 5 #[.slice a n c] w fun e w' => e = .returned (.bool (decide (60 < n))) ∧ w' = w := by
  by_cases h : 60 < n
  all_goals
    go_enter Tryz.func5, Tryz.ntmps5
    go_wp2_with fail
    go_ret
    exact ⟨by simp [h]; omega, rfl⟩

theorem ads_get : ∀ (l : List Ad) (i : Nat) (x : Ad), l[i]? = some x → ∀ j, j < 10 → (P.ads l)[i * 10 + j]? = x.enc[j]?
  | [], i, x, h, j, hj => by simp at h
  | a :: l, 0, x, h, j, hj => by
    simp at h; subst h
    rw [P.ads, List.flatMap_cons, List.getElem?_append_left (by rw [Ad.enc_length]; omega)]
    simp
  | a :: l, i + 1, x, h, j, hj => by
    rw [P.ads, List.flatMap_cons, List.getElem?_append_right (by rw [Ad.enc_length]; omega), Ad.enc_length, show (i + 1) * 10 + j - 10 = i * 10 + j from by omega]
    exact ads_get l i x (by simpa using h) j hj
theorem own_row {w : World} {base : Nat} {v : Value} {l : List Ad} (h : w.ownsRow base 26 10 v l.length (P.ads l)) : ∃ a c, v = .slice a l.length c ∧ RowAt w a l ∧ ∀ k, v.ownBlock = some k → base ≤ k := by
  obtain ⟨a, c, rfl⟩ := row_form h
  refine ⟨a, c, rfl, fun hl => ?_, fun k hk => (h.lt k hk).1⟩
  obtain ⟨g, cap, he, hb, hg, hc, hcell⟩ := row_cell h hl
  obtain ⟨rfl, rfl⟩ : a = some ⟨g, 0, none⟩ ∧ c = cap := by injection he with h1 h2 h3; exact ⟨h1, h3⟩
  refine ⟨g, 0, rfl, hg, fun j x hx i u hu => ?_⟩
  have hj : j < l.length := (List.getElem?_eq_some_iff.1 hx).1
  have hi : i < 10 := by have := (List.getElem?_eq_some_iff.1 hu).1; rwa [Ad.enc_length] at this
  rw [Nat.zero_add, hcell (j * 10 + i) (by omega), ads_get l j x hx i hi]
  exact hu
end Go.Proofs.YtbejnnkdgcelmaaGreatDoor
