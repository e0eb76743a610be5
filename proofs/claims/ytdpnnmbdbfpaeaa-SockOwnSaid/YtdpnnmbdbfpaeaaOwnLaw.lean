/- What comes is in memory of its own. -/
import Derived.Test.YtdpnnmbdbfpaeaaSpecs
set_option linter.unusedSimpArgs false
set_option linter.unusedVariables false
namespace Go.Proofs.Ytdpnnmbdbfpaeaa
open Go.RowKit Go.Proofs.Ytdpnnmbdbfpaeaa.Kind

/-- Of n elements of k cells each the one at 'off' is a number that may be written; the row lies in a block from base on, ahead of lim. -/
def IntsR (w : World) (base lim : Nat) (a : Option Addr) (n k off : Nat) : Prop :=
  n ≤ 1000 ∧ (0 < n → ∃ g o, a = some ⟨g, o, none⟩ ∧ base ≤ g ∧ g < lim ∧ g < w.heap.size ∧ ∀ i, i < n → (∃ v, w.cell? ⟨g, o + i * k + off, none⟩ = some (.int .i64 v)) ∧ w.frozen? ⟨g, o + i * k + off, none⟩ = false)
theorem ints_nil (w : World) (base lim k off : Nat) (a : Option Addr) : IntsR w base lim a 0 k off := ⟨by omega, fun h => by omega⟩
theorem IntsR.below {w w' : World} {base lim : Nat} {a : Option Addr} {n k off : Nat} (h : IntsR w base lim a n k off) (hb : Below w.heap.size w w') : IntsR w' base lim a n k off := by
  refine ⟨h.1, fun hn => ?_⟩
  obtain ⟨g, o, h1, h2, h3, h4, h5⟩ := h.2 hn
  refine ⟨g, o, h1, h2, h3, Nat.lt_of_lt_of_le h4 hb.size, fun i hi => ?_⟩
  rw [hb.cell (p := ⟨g, o + i * k + off, none⟩) h4, hb.frozen (p := ⟨g, o + i * k + off, none⟩) h4]
  exact h5 i hi
theorem IntsR.mono {w : World} {base base' lim lim' : Nat} {a : Option Addr} {n k off : Nat} (h : IntsR w base lim a n k off) (hb : base' ≤ base) (hl : lim ≤ lim') : IntsR w base' lim' a n k off := by
  refine ⟨h.1, fun hn => ?_⟩
  obtain ⟨g, o, h1, h2, h3, h4⟩ := h.2 hn
  exact ⟨g, o, h1, by omega, by omega, h4⟩
theorem IntsR.draw {w : World} {base lim : Nat} {a : Option Addr} {n k off : Nat} (h : IntsR w base lim a n k off) : IntsR w.drew base lim a n k off := h
/-- A number written where a number was. -/
theorem IntsR.set {w : World} {base lim : Nat} {a : Option Addr} {n k off : Nat} (h : IntsR w base lim a n k off) (p : Addr) (u v : Int) (hp : w.cell? p = some (.int .i64 u)) : IntsR (w.setCell p (.int .i64 v)) base lim a n k off := by
  refine ⟨h.1, fun hn => ?_⟩
  obtain ⟨g, o, h1, h2, h3, h4, h5⟩ := h.2 hn
  refine ⟨g, o, h1, h2, h3, by simpa using h4, fun i hi => ?_⟩
  obtain ⟨⟨x, hx⟩, hf⟩ := h5 i hi
  refine ⟨?_, by rw [World.frozen?_setCell]; exact hf⟩
  by_cases e : p = ⟨g, o + i * k + off, none⟩
  · subst e
    exact ⟨v, World.cell?_setCell_same _ _ _ hp⟩
  · exact ⟨x, (World.cell?_setCell_other _ _ _ _ e).trans hx⟩
theorem sk_ints {w : World} {base : Nat} {a : Option Addr} {c : Nat} {L : List Sk} (h : SK.Loose w base a c L) (hl : L.length ≤ 1000) : IntsR w base w.heap.size a L.length 14 12 := by
  refine ⟨hl, fun hn => ?_⟩
  obtain ⟨g, o, h1, h2, h3, h4, h5⟩ := h.2.2.2 (by have := h.1; omega)
  refine ⟨g, o, h1, h2, h3, h3, fun i hi => ?_⟩
  obtain ⟨x, hx⟩ : ∃ x, L[i]? = some x := ⟨_, List.getElem?_eq_getElem hi⟩
  have h6 := (SK.fourteen h5 hx).2.2.2.2.2.2.1
  have h7 := (h4 (i * 14 + 12) (by show _ < c * 14; have := h.1; omega)).2
  rw [← Nat.add_assoc] at h7
  exact ⟨⟨_, h6⟩, h7⟩
theorem nk_ints {w : World} {base : Nat} {a : Option Addr} {c : Nat} {L : List Nk} (h : NK.Loose w base a c L) (hl : L.length ≤ 1000) : IntsR w base w.heap.size a L.length 3 2 := by
  refine ⟨hl, fun hn => ?_⟩
  obtain ⟨g, o, h1, h2, h3, h4, h5⟩ := h.2.2.2 (by have := h.1; omega)
  refine ⟨g, o, h1, h2, h3, h3, fun i hi => ?_⟩
  obtain ⟨x, hx⟩ : ∃ x, L[i]? = some x := ⟨_, List.getElem?_eq_getElem hi⟩
  have h6 := (NK.three h5 hx).2.2
  have h7 := (h4 (i * 3 + 2) (by show _ < c * 3; have := h.1; omega)).2
  rw [← Nat.add_assoc] at h7
  exact ⟨⟨_, h6⟩, h7⟩

/-- Shut and Drop of whatever number. -/
theorem shut_own (HS : ShutSpec) (HN : ShutNone) (S : List Sk) (M : List Nk) (n t : Int) (a b : Option Addr) (c d : Nat) (w : World) (h1 : S.length ≤ 300) (h2 : M.length ≤ 600) (hA : SK.RowC w a c S) (hB : NK.RowC w b d M) :
    Calls Try.prog 10 #[.slice a S.length c, .slice b M.length d, .int .i64 n, .int .i64 t] w fun e w' =>
      ∃ a1 n1 c1 a2 n2 c2 er, e = .returned (.tuple #[.slice a1 n1 c1, .slice a2 n2 c2, .int .i64 er]) ∧ IntsR w' w.heap.size w'.heap.size a1 n1 14 12 ∧ IntsR w' w.heap.size w'.heap.size a2 n2 3 2 ∧ Below w.heap.size w w' := by
  by_cases hn : n < 0 ∨ (S.length : Int) ≤ n
  · refine (HN S M n t a b c d w (by omega) (by omega) hn hA hB).mono ?_
    rintro e w' ⟨rfl, hb⟩
    exact ⟨none, 0, 0, none, 0, 0, 80, rfl, ints_nil _ _ _ _ _ _, ints_nil _ _ _ _ _ _, hb⟩
  · obtain ⟨k, rfl⟩ : ∃ k : Nat, n = k := ⟨n.toNat, by omega⟩
    obtain ⟨x, hx⟩ : ∃ x, S[k]? = some x := ⟨_, List.getElem?_eq_getElem (by omega)⟩
    refine (HS S M k x t a b c d w _ _ (by omega) (by omega) hx rfl rfl hA hB).mono ?_
    rintro e w' ⟨a1, c1, a2, c2, rfl, hL, hK, hb⟩
    exact ⟨a1, _, c1, a2, _, c2, 0, rfl, sk_ints hL (by simp; omega), nk_ints hK (by simp; omega), hb⟩
theorem drop_own (HD : DropSpec) (HN : DropNone) (S : List Sk) (n : Int) (a : Option Addr) (c : Nat) (w : World) (h1 : S.length ≤ 300) (hA : SK.RowC w a c S) :
    Calls Try.prog 9 #[.slice a S.length c, .int .i64 n] w fun e w' => ∃ a1 n1 c1 er, e = .returned (.tuple #[.slice a1 n1 c1, .int .i64 er]) ∧ IntsR w' w.heap.size w'.heap.size a1 n1 14 12 ∧ Below w.heap.size w w' := by
  cases hn : openP S n with
  | false =>
    refine (HN S n a c w (by omega) hn hA).mono ?_
    rintro e w' ⟨rfl, hb⟩
    exact ⟨none, 0, 0, 80, rfl, ints_nil _ _ _ _ _ _, hb⟩
  | true =>
    have hn2 := hn
    unfold openP at hn
    split at hn
    · cases hn
    · obtain ⟨k, rfl⟩ : ∃ k : Nat, n = k := ⟨n.toNat, by omega⟩
      rw [Int.toNat_natCast] at hn
      cases hx : S[k]? with
      | none => rw [hx] at hn; cases hn
      | some x =>
        rw [hx] at hn
        refine (HD S k x a c w _ (by omega) hx (by simpa [isOpen] using hn) rfl hA).mono ?_
        rintro e w' ⟨a1, c1, rfl, hL, hb⟩
        exact ⟨a1, _, c1, 0, rfl, sk_ints hL (by simp; omega), hb⟩

theorem own_empty {α : Type} (K : Kind Try.prog α) (w : World) : K.Own (w.alloc (.cells #[] K.T)) w.heap.size (.slice (some ⟨w.heap.size, 0, none⟩) 0 0) [] :=
  own_at (K := K) w [] #[] w.heap.size w.heap.size rfl (Nat.le_refl _) rfl (by simp)
/-- Behind 'append([]T{}, l...)': the new row, and that all that lay lies. -/
theorem copy_below {w w' : World} {X : Obj} {g n c : Nat} (h : (w.alloc X).grownBy w' (Value.slice (some ⟨g, 0, none⟩) n c).ownBlock) (hg : w.heap.size ≤ g) : Below w.heap.size w w' :=
  (below1 w X).grown h (by simp) (fun k e => by
    have e' : some g = some k := e
    injection e' with e'
    omega)

/-- How it stands between two writes. -/
structure OwnIn (w0 : World) (base gh m : Nat) (k off : Nat) (wr : World) : Prop where
  rows : ∀ j, j < m → ∃ a n c, wr.cell? ⟨gh, j, none⟩ = some (.slice a n c) ∧ IntsR wr base gh a n k off
  below : Below base w0 wr
  lt : gh < wr.heap.size
theorem OwnIn.set {w0 : World} {base gh m k off : Nat} {wr : World} (h : OwnIn w0 base gh m k off wr) (p : Addr) (u v : Int) (hp : wr.cell? p = some (.int .i64 u)) (hb : base ≤ p.block) (hl : p.block < gh) : OwnIn w0 base gh m k off (wr.setCell p (.int .i64 v)) := by
  refine ⟨fun j hj => ?_, h.below.setCell hb _, by simpa using h.lt⟩
  obtain ⟨a, n, c, h1, h2⟩ := h.rows j hj
  exact ⟨a, n, c, (World.cell?_setCell_other _ _ _ _ (fun e => by rw [e] at hl; simp at hl)).trans h1, h2.set p u v hp⟩

theorem two_cells {w : World} {g : Nat} {x y : Value} {t : TypeId} (h : w.heap[g]? = some (.cells #[x, y] t (0, 0))) : w.cell? ⟨g, 0, none⟩ = some x ∧ w.cell? ⟨g, 1, none⟩ = some y := by
  simp [World.cell?, h]

set_option maxHeartbeats 16000000 in
set_option maxRecDepth 1000000 in
theorem sockown_walk (HOp : OpenSpec) (HS : ShutSpec) (HN : ShutNone) (HD : DropSpec) (HDN : DropNone) (HWk : WakesSpec) (S : List Sk) (M : List Nk) (n : Int) (a b : Option Addr) (c d : Nat) (w : World) (hA : SK.RowC w a c S) (hB : NK.RowC w b d M) :
    Calls Try.prog 4 #[.slice a S.length c, .slice b M.length d, .int .i64 n] w fun e w' => e = .returned (.bool true) ∧ Below w.heap.size w w' := by
  have HWk := Lib.hid (fun w => HWk w)
  by_cases hg : 300 < S.length ∨ 600 < M.length
  · have HG := Lib.hid (fun w => great_any a b S.length M.length c d true (by rcases hg with h | h <;> simp [h]) w)
    clear hA hB HOp HS HN HD HDN hg
    go_enter Try.func4, Try.ntmps4
    go_wp2_with fail
    with_reducible refine (HG.out _).mono ?_
    rintro e w1 ⟨rfl, rfl⟩
    go_wp2_with fail
    with_reducible refine (HWk.out _).mono ?_
    rintro e w2 ⟨rfl, hb⟩
    have HB := Lib.hid hb
    clear hb
    go_wp2_with fail
    go_ret
    exact ⟨rfl, HB.out⟩
  · have HG := Lib.hid (fun w => great_any a b S.length M.length c d false (by simp; omega) w)
    have h300 : S.length ≤ 300 := by omega
    have h600 : M.length ≤ 600 := by omega
    have HOp := Lib.hid (fun w h1 h2 => HOp S M Ad.zero 1 1 a b c d w _ _ (by omega) (by omega) rfl rfl h1 h2)
    have HSh := Lib.hid (fun w h1 h2 => shut_own HS HN S M n 1 a b c d w h300 h600 h1 h2)
    have HDr := Lib.hid (fun w h1 => drop_own HD HDN S n a c w h300 h1)
    have HSm := Lib.hid (fun a b c d w h1 h2 => same_eq S a b c d w (by omega) h1 h2)
    have HMm := Lib.hid (fun a b c d w h1 h2 => samemarks_eq M a b c d w (by omega) h1 h2)
    have HA := Lib.hid hA
    have HB := Lib.hid hB
    simp only [Ad.zero] at HOp
    clear hA hB hg HS HN HD HDN
    go_enter Try.func4, Try.ntmps4
    go_wp2_with fail
    with_reducible refine (HG.out _).mono ?_
    rintro e w0 ⟨rfl, rfl⟩
    clear HG
    go_wp2_with (first
      | (at_builtin; refine SK.wpList_append_owned rfl _ _ rfl w0.heap.size (.slice (some ⟨w0.heap.size, 0, none⟩) 0 0) rfl [] (own_empty SK w0) a S.length c rfl S rfl (HA.out.below (below1 w0 _)) (by simp; omega) (by simp) S rfl ?_; intro a1 c1 w1 hO hG; have HO1 := Lib.hid hO; have HG1 := Lib.hid hG; clear hO hG)
      | (at_builtin; refine NK.wpList_append_owned rfl _ _ rfl w1.heap.size (.slice (some ⟨w1.heap.size, 0, none⟩) 0 0) rfl [] (own_empty NK w1) b M.length d rfl M rfl ((HB.out.below (copy_below (g := w0.heap.size) (n := 0) (c := 0) HG1.out (Nat.le_refl _))).below (below1 w1 _)) (by simp; omega) (by simp) M rfl ?_; intro a2 c2 w2 hO hG; have HO2 := Lib.hid hO; have HG2 := Lib.hid hG; clear hO hG))
    have HB1 : Hid (Below w0.heap.size w0 w1) := copy_below (g := w0.heap.size) (n := 0) (c := 0) HG1.out (Nat.le_refl _)
    have HB2 : Hid (Below w1.heap.size w1 w2) := copy_below (g := w1.heap.size) (n := 0) (c := 0) HG2.out (Nat.le_refl _)
    have HBa := Lib.hid (HB1.out.trans (HB2.out.mono HB1.out.size))
    have HA2 := Lib.hid (HA.out.below HBa.out)
    have HM2 := Lib.hid (HB.out.below HBa.out)
    have HW2 := Lib.hid (HO1.out.row.below HB2.out)
    with_reducible refine (HOp.out w2 HA2.out HM2.out).mono ?_
    rintro e w3 ⟨a3, c3, b3, d3, rfl, hL, hK, hb⟩
    have HI3 := Lib.hid (sk_ints hL (by simp; omega))
    have HJ3 := Lib.hid (nk_ints hK (by simp; omega))
    have HB3 := Lib.hid hb
    clear hL hK hb HOp
    simp only [List.length_append, List.length_cons, List.length_nil, Nat.zero_add] at HI3 HJ3
    go_wp2_with fail
    with_reducible refine (HSh.out w3 (HA2.out.below HB3.out) (HM2.out.below HB3.out)).mono ?_
    rintro e w4 ⟨a4, n4, c4, b4, m4, d4, er4, rfl, hI, hJ, hb⟩
    have hs2 : w2.heap.size ≤ w3.heap.size := HB3.out.size
    have hs3 : w3.heap.size ≤ w4.heap.size := hb.size
    have HI4 := Lib.hid hI
    have HJ4 := Lib.hid hJ
    have HI3' := Lib.hid (HI3.out.below hb)
    have HJ3' := Lib.hid (HJ3.out.below hb)
    have HB4 := Lib.hid (HB3.out.trans (hb.mono hs2))
    clear hI hJ hb HSh HI3 HJ3
    go_wp2_with fail
    with_reducible refine (HDr.out w4 (HA2.out.below HB4.out)).mono ?_
    rintro e w5 ⟨a5, n5, c5, er5, rfl, hI, hb⟩
    have hs4 : w4.heap.size ≤ w5.heap.size := hb.size
    have HI5 := Lib.hid (hI.mono (base' := w2.heap.size) (by omega) (Nat.le_refl _))
    have HJ5 := Lib.hid ((HJ4.out.below hb).mono (base' := w2.heap.size) (lim' := w5.heap.size) (by omega) (by omega))
    have HJ6 := Lib.hid ((HJ3'.out.below hb).mono (base' := w2.heap.size) (lim' := w5.heap.size) (by omega) (by omega))
    have HI6 := Lib.hid ((HI4.out.below hb).mono (base' := w2.heap.size) (lim' := w5.heap.size) (by omega) (by omega))
    have HI7 := Lib.hid ((HI3'.out.below hb).mono (base' := w2.heap.size) (lim' := w5.heap.size) (by omega) (by omega))
    have HB5 := Lib.hid (HB4.out.trans (hb.mono (by omega)))
    have hs25 : w2.heap.size ≤ w5.heap.size := by omega
    clear hI hb HDr HI4 HJ4 HI3' HJ3'
    go_wp2_with fail
    have hb6 := below1 w5 (.cells #[.slice a3 (S.length + 1) c3, .slice a4 n4 c4, .slice a5 n5 c5] 24)
    have hl6 := laid1 w5 (.cells #[.slice a3 (S.length + 1) c3, .slice a4 n4 c4, .slice a5 n5 c5] 24)
    obtain ⟨⟨g0, g1, g2⟩, _⟩ := box3 hl6
    have HO6 := Lib.hid (show OwnIn w5 w2.heap.size w5.heap.size 3 14 12 (w5.alloc (.cells #[.slice a3 (S.length + 1) c3, .slice a4 n4 c4, .slice a5 n5 c5] 24)) from
      ⟨fun j hj => by
        rcases (show j = 0 ∨ j = 1 ∨ j = 2 by omega) with rfl | rfl | rfl
        · exact ⟨_, _, _, g0, HI7.out.below hb6⟩
        · exact ⟨_, _, _, g1, HI6.out.below hb6⟩
        · exact ⟨_, _, _, g2, HI5.out.below hb6⟩, hb6.mono hs25, by simp⟩)
    have HX6 := Lib.hid (HJ6.out.below hb6)
    have HY6 := Lib.hid (HJ5.out.below hb6)
    clear hb6 hl6 g0 g1 g2 HI5 HI6 HI7 HJ5 HJ6
    go_loopw [60] (fun u60 wr => ∃ k : Nat, u60 = .int .i64 k ∧ k ≤ 3 ∧ Hid (OwnIn w5 w2.heap.size w5.heap.size 3 14 12 wr) ∧ Hid (IntsR wr w2.heap.size w5.heap.size b3 (M.length + 1) 3 2) ∧ Hid (IntsR wr w2.heap.size w5.heap.size b4 m4 3 2)) (fun u _ => 3 - (intOf u).toNat)
    case atStart => exact ⟨0, rfl, by omega, HO6, HX6, HY6⟩
    case round =>
      obtain ⟨k, rfl, hk, hO, hX, hY⟩ := hrel
      have HO := Lib.hid hO.out
      have HX := Lib.hid hX.out
      have HY := Lib.hid hY.out
      clear hO hX hY HO6 HX6 HY6
      by_cases hk3 : k < 3
      · obtain ⟨ak, nk, ck, hc, hI⟩ := HO.out.rows k hk3
        have hlt := HO.out.lt
        have hki : (k : Int) < 3 := by omega
        have HI := Lib.hid hI
        have hnk : nk ≤ 1000 := hI.1
        clear hI
        go_wp2_with fail
        clear hc hlt
        go_loopw [19] (fun u19 wq => ∃ i : Nat, u19 = .int .i64 i ∧ i ≤ nk ∧ Hid (OwnIn w5 w2.heap.size w5.heap.size 3 14 12 wq) ∧ Hid (IntsR wq w2.heap.size w5.heap.size b3 (M.length + 1) 3 2) ∧ Hid (IntsR wq w2.heap.size w5.heap.size b4 m4 3 2) ∧ Hid (IntsR wq w2.heap.size w5.heap.size ak nk 14 12)) (fun u _ => nk - (intOf u).toNat)
        case atStart => exact ⟨0, rfl, by omega, HO, HX, HY, HI⟩
        case round =>
          obtain ⟨i, rfl, hi, hO, hX, hY, hI⟩ := hrel
          have HO' := Lib.hid hO.out
          have HX' := Lib.hid hX.out
          have HY' := Lib.hid hY.out
          have HI' := Lib.hid hI.out
          clear hO hX hY hI HO HX HY HI
          by_cases hin : i < nk
          · obtain ⟨g, o, rfl, hg1, hg2, hg3, hcs⟩ := HI'.out.2 (by omega)
            obtain ⟨⟨v, hv⟩, hf⟩ := hcs i hin
            have hii : (i : Int) < (nk : Int) := by omega
            have HV := Lib.hid hv
            clear hcs
            go_wp2_with fail
            go_roundw
            case rel => exact ⟨i + 1, by go_num, by omega, Lib.hid (HO'.out.set _ _ _ HV.out hg1 hg2), Lib.hid (HX'.out.set _ _ _ HV.out), Lib.hid (HY'.out.set _ _ _ HV.out), Lib.hid (HI'.out.set _ _ _ HV.out)⟩
            case measure => simp [intOf]; omega
          · obtain rfl : i = nk := by omega
            go_wp2_with fail
            go_roundw
            case rel => exact ⟨k + 1, by go_num, by omega, HO', HX', HY'⟩
            case measure => simp [intOf]; omega
      · obtain rfl : k = 3 := by omega
        have HBr := Lib.hid (HB5.out.trans HO.out.below)
        have hszr : w5.heap.size ≤ wr.heap.size := by have := HO.out.lt; omega
        go_wp2_with fail
        have hb7 := below1 wr (.cells #[.slice b3 (M.length + 1) d3, .slice b4 m4 d4] 25)
        have hl7 := laid1 wr (.cells #[.slice b3 (M.length + 1) d3, .slice b4 m4 d4] 25)
        have g0 := (two_cells hl7).1
        have g1 := (two_cells hl7).2
        have hs2r : w2.heap.size ≤ wr.heap.size := by omega
        have HO7 := Lib.hid (show OwnIn wr w2.heap.size wr.heap.size 2 3 2 (wr.alloc (.cells #[.slice b3 (M.length + 1) d3, .slice b4 m4 d4] 25)) from
          ⟨fun j hj => by
            rcases (show j = 0 ∨ j = 1 by omega) with rfl | rfl
            · exact ⟨_, _, _, g0, (HX.out.below hb7).mono (Nat.le_refl _) hszr⟩
            · exact ⟨_, _, _, g1, (HY.out.below hb7).mono (Nat.le_refl _) hszr⟩, hb7.mono hs2r, by simp⟩)
        clear hb7 hl7 g0 g1 HX HY HO
        go_loopw [85] (fun u85 wt => ∃ k : Nat, u85 = .int .i64 k ∧ k ≤ 2 ∧ Hid (OwnIn wr w2.heap.size wr.heap.size 2 3 2 wt)) (fun u _ => 2 - (intOf u).toNat)
        case atStart => exact ⟨0, rfl, by omega, HO7⟩
        case round =>
          rename World => wt
          obtain ⟨k, rfl, hk, hO⟩ := hrel
          have HO := Lib.hid hO.out
          clear hO HO7
          by_cases hk2 : k < 2
          · obtain ⟨ak, nk, ck, hc, hI⟩ := HO.out.rows k hk2
            have hlt := HO.out.lt
            have hki : (k : Int) < 2 := by omega
            have HI := Lib.hid hI
            have hnk : nk ≤ 1000 := hI.1
            clear hI
            go_wp2_with fail
            clear hc hlt
            go_loopw [22] (fun u22 wq => ∃ i : Nat, u22 = .int .i64 i ∧ i ≤ nk ∧ Hid (OwnIn _ w2.heap.size _ 2 3 2 wq) ∧ Hid (IntsR wq w2.heap.size _ ak nk 3 2)) (fun u _ => nk - (intOf u).toNat)
            case atStart => exact ⟨0, rfl, by omega, HO, HI⟩
            case round =>
              obtain ⟨i, rfl, hi, hO, hI⟩ := hrel
              have HO' := Lib.hid hO.out
              have HI' := Lib.hid hI.out
              clear hO hI HO HI
              by_cases hin : i < nk
              · obtain ⟨g, o, rfl, hg1, hg2, hg3, hcs⟩ := HI'.out.2 (by omega)
                obtain ⟨⟨v, hv⟩, hf⟩ := hcs i hin
                have hii : (i : Int) < (nk : Int) := by omega
                have HV := Lib.hid hv
                clear hcs
                go_wp2_with fail
                go_roundw
                case rel => exact ⟨i + 1, by go_num, by omega, Lib.hid (HO'.out.set _ _ _ HV.out hg1 hg2), Lib.hid (HI'.out.set _ _ _ HV.out)⟩
                case measure => simp [intOf]; omega
              · obtain rfl : i = nk := by omega
                go_wp2_with fail
                go_roundw
                case rel => exact ⟨k + 1, by go_num, by omega, HO'⟩
                case measure => simp [intOf]; omega
          · obtain rfl : k = 2 := by omega
            have HBt := Lib.hid (HBr.out.trans HO.out.below)
            have HX1 := Lib.hid (HSm.out a a1 c c1 _ (HA2.out.below HBt.out) (HW2.out.below HBt.out))
            clear HO
            go_wp2_with fail
            with_reducible refine HX1.out.mono ?_
            rintro e w8 ⟨rfl, hb⟩
            have HB8 := Lib.hid (HBt.out.trans (hb.mono HBt.out.size))
            have HX2 := Lib.hid (HMm.out b a2 d c2 _ (HM2.out.below HB8.out) (HO2.out.row.below HB8.out))
            clear hb HX1 HBt
            go_wp2_with fail
            with_reducible refine HX2.out.mono ?_
            rintro e w9 ⟨rfl, hb⟩
            have HB9 := Lib.hid (HB8.out.trans (hb.mono HB8.out.size))
            clear hb HX2 HB8
            go_wp2_with fail
            with_reducible refine (HWk.out _).mono ?_
            rintro e wa ⟨rfl, hb⟩
            have HBf := Lib.hid (HBa.out.trans ((HB9.out.trans (hb.mono HB9.out.size)).mono HBa.out.size))
            clear hb HB9
            go_wp2_with fail
            go_ret
            exact ⟨rfl, HBf.out⟩
end Go.Proofs.Ytdpnnmbdbfpaeaa
