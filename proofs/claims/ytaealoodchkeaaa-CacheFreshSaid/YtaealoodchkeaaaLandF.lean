/- The landed package cache: put. -/
import Derived.Test.YtaealoodchkeaaaLandE
set_option linter.unusedSimpArgs false
set_option linter.unusedVariables false
namespace Go.Proofs.Ytaealoodchkeaaa
open R3 Go.RowKit Go.Proofs.Ytaealoodchkeaaa.Kind

namespace Kind
variable {α : Type} {Pr : Program} {K : Kind Pr α}
theorem Loose.poke {w : World} {base : Nat} {a : Option Addr} {c : Nat} {l : List α} (h : K.Loose w base a c l) {k i : Nat} {x y : α} {v : Value} (hx : l[k]? = some x) (hi : i < K.k) (hy : K.enc y = (K.enc x).set i v) :
    ∃ g o, a = some ⟨g, o, none⟩ ∧ base ≤ g ∧ g < w.heap.size ∧ K.Loose (w.setCell ⟨g, o + k * K.k + i, none⟩ v) base a c (l.set k y) ∧ w.cell? ⟨g, o + k * K.k + i, none⟩ = (K.enc x)[i]? ∧ w.frozen? ⟨g, o + k * K.k + i, none⟩ = false := by
  have hk : k < l.length := (List.getElem?_eq_some_iff.1 hx).1
  have hc := h.1
  obtain ⟨g, o, rfl, h2, h3, h4, h5⟩ := h.2.2.2 (by omega)
  obtain ⟨u, hu⟩ : ∃ u, (K.enc x)[i]? = some u := ⟨_, List.getElem?_eq_getElem (by rw [K.hk]; exact hi)⟩
  have hcell := h5 k x hx i u hu
  have hin : k * K.k + i < c * K.k := by
    have := Nat.mul_le_mul_right K.k (show k + 1 ≤ c by omega)
    rw [Nat.add_mul] at this
    omega
  refine ⟨g, o, rfl, h2, h3, ⟨by simpa using h.1, h.2.1, h.2.2.1, fun _ => ⟨g, o, rfl, h2, by simpa using h3, fun j hj => ⟨?_, ?_⟩, ?_⟩⟩, by rw [hcell, hu], ?_⟩
  · by_cases e : j = k * K.k + i
    · subst e
      rw [← Nat.add_assoc, World.cell?_setCell_same _ _ _ hcell]
      rfl
    · rw [World.cell?_setCell_other _ _ _ _ (by intro e2; injection e2 with e3 e4 e5; omega)]
      exact (h4 j hj).1
  · rw [World.frozen?_setCell]
    exact (h4 j hj).2
  · intro j z hz i' u' hu'
    have hi' : i' < K.k := by have := (List.getElem?_eq_some_iff.1 hu').1; rwa [K.hk] at this
    rw [List.getElem?_set] at hz
    by_cases hjk : k = j
    · subst hjk
      rw [if_pos rfl, if_pos hk] at hz
      simp at hz
      subst hz
      rw [hy, List.getElem?_set] at hu'
      by_cases hii : i = i'
      · subst hii
        rw [if_pos rfl, K.hk, if_pos hi] at hu'
        rw [World.cell?_setCell_same _ _ _ hcell]
        exact hu'
      · rw [if_neg hii] at hu'
        rw [World.cell?_setCell_other _ _ _ _ (by intro e2; injection e2 with e3 e4 e5; omega)]
        exact h5 k x hx i' u' hu'
    · rw [if_neg hjk] at hz
      have hne := slot_ne hi hi' (fun e => hjk e.symm)
      rw [World.cell?_setCell_other _ _ _ _ (by intro e2; injection e2 with e3 e4 e5; omega)]
      exact h5 j z hz i' u' hu'
  · have := (h4 _ hin).2
    rwa [← Nat.add_assoc] at this
end Kind
/-- An entry stored whole into a row of one's own, wherever that begins. -/
theorem loose_put {w : World} {base : Nat} {a : Option Addr} {c : Nat} {l : List Kn} (h : KK.Loose w base a c l) {k : Nat} {x : Kn} (y : Kn) (hx : l[k]? = some x) :
    ∃ g o, a = some ⟨g, o, none⟩ ∧ base ≤ g ∧ g < w.heap.size ∧ KK.Loose ((((w.setCell ⟨g, o + k * 4, none⟩ (.string y.name)).setCell ⟨g, o + k * 4 + 1, none⟩ (.string y.row)).setCell ⟨g, o + k * 4 + 2, none⟩ (.int .i64 y.e)).setCell ⟨g, o + k * 4 + 3, none⟩ (.int .i64 y.until_)) base a c (l.set k y) ∧
      (w.cell? ⟨g, o + k * 4, none⟩ = some (.string x.name) ∧ w.cell? ⟨g, o + k * 4 + 1, none⟩ = some (.string x.row) ∧ w.cell? ⟨g, o + k * 4 + 2, none⟩ = some (.int .i64 x.e) ∧ w.cell? ⟨g, o + k * 4 + 3, none⟩ = some (.int .i64 x.until_)) ∧
      (w.frozen? ⟨g, o + k * 4, none⟩ = false ∧ w.frozen? ⟨g, o + k * 4 + 1, none⟩ = false ∧ w.frozen? ⟨g, o + k * 4 + 2, none⟩ = false ∧ w.frozen? ⟨g, o + k * 4 + 3, none⟩ = false) := by
  have hk : k < l.length := (List.getElem?_eq_some_iff.1 hx).1
  obtain ⟨g, o, rfl, hb, hg, r0, e0, f0⟩ := Loose.poke (K := KK) (i := 0) (y := { x with name := y.name }) (v := .string y.name) h hx (by decide) rfl
  obtain ⟨g1, o1, q1, _, _, _, e1, f1⟩ := Loose.poke (K := KK) (i := 1) (y := { x with row := y.row }) (v := .string y.row) h hx (by decide) rfl
  obtain ⟨g2, o2, q2, _, _, _, e2, f2⟩ := Loose.poke (K := KK) (i := 2) (y := { x with e := y.e }) (v := .int .i64 y.e) h hx (by decide) rfl
  obtain ⟨g3, o3, q3, _, _, _, e3, f3⟩ := Loose.poke (K := KK) (i := 3) (y := { x with until_ := y.until_ }) (v := .int .i64 y.until_) h hx (by decide) rfl
  injection q1 with q1; injection q1 with q11 q12; subst q11 q12
  injection q2 with q2; injection q2 with q21 q22; subst q21 q22
  injection q3 with q3; injection q3 with q31 q32; subst q31 q32
  have x1 : (l.set k { x with name := y.name })[k]? = some { x with name := y.name } := by simp [hk]
  obtain ⟨g4, o4, q4, _, _, r1, _⟩ := Loose.poke (K := KK) (i := 1) (y := { x with name := y.name, row := y.row }) (v := .string y.row) r0 x1 (by decide) rfl
  injection q4 with q4; injection q4 with q41 q42; subst q41 q42
  rw [List.set_set] at r1
  have x2 : (l.set k { x with name := y.name, row := y.row })[k]? = some { x with name := y.name, row := y.row } := by simp [hk]
  obtain ⟨g5, o5, q5, _, _, r2, _⟩ := Loose.poke (K := KK) (i := 2) (y := { x with name := y.name, row := y.row, e := y.e }) (v := .int .i64 y.e) r1 x2 (by decide) rfl
  injection q5 with q5; injection q5 with q51 q52; subst q51 q52
  rw [List.set_set] at r2
  have x3 : (l.set k { x with name := y.name, row := y.row, e := y.e })[k]? = some { x with name := y.name, row := y.row, e := y.e } := by simp [hk]
  obtain ⟨g6, o6, q6, _, _, r3, _⟩ := Loose.poke (K := KK) (i := 3) (y := y) (v := .int .i64 y.until_) r2 x3 (by decide) rfl
  injection q6 with q6; injection q6 with q61 q62; subst q61 q62
  rw [List.set_set] at r3
  exact ⟨g, o, rfl, hb, hg, r3, ⟨e0, e1, e2, e3⟩, f0, f1, f2, f3⟩

set_option maxHeartbeats 8000000 in
set_option maxRecDepth 1000000 in
theorem put_in (l : List Kn) (x : Kn) (k : Nat) (L : List Kn) (hL : L = l.set k x) (hf : l.findIdx (is x.name) = k) (hk : k < l.length) (a : Option Addr) (c base : Nat) (w : World) (hO : KK.Loose w base a c l) (hlen : l.length ≤ 2000) (hbase : base ≤ w.heap.size) :
    Calls Try.prog 34 #[.slice a l.length c, .agg #[.string x.name, .string x.row, .int .i64 x.e, .int .i64 x.until_]] w fun e w' => ∃ a' c', e = .returned (.slice a' L.length c') ∧ KK.Loose w' base a' c' L ∧ Below base w w' := by
  have HL := Lib.hid hL
  have HO := Lib.hid hO
  have hki : (k : Int) < (l.length : Int) := by omega
  have hk0 : (0 : Int) ≤ (k : Int) := by omega
  have hmx : (l.length : Int) ≤ 2000 := by omega
  obtain ⟨y, hy⟩ : ∃ y, l[k]? = some y := ⟨_, List.getElem?_eq_getElem hk⟩
  have HY := Lib.hid hy
  have hb1 := below1 w (.cells #[.string x.name, .string x.row, .int .i64 x.e, .int .i64 x.until_] 29)
  have HZ := Lib.hid (laid1 w (.cells #[.string x.name, .string x.row, .int .i64 x.e, .int .i64 x.until_] 29))
  have HFi := Lib.hid (fun (W : World) (hb : Below w.heap.size w W) => (hf ▸ find_any 37 #[.pointer (some ⟨W.heap.size, 0, none⟩)] (is x.name) l a c (W.alloc (.cells #[.string x.name] 9)) enter_named ((hO.row.below hb).below (below1 W _)) (named_tells x.name W.heap.size 9 _ (laid1 W _)) : Calls Try.prog 24 #[.slice a l.length c, .func (.func 37) #[] #[.pointer (some ⟨W.heap.size, 0, none⟩)]] (W.alloc (.cells #[.string x.name] 9)) fun e w' => e = .returned (.int .i64 (k : Nat)) ∧ Below (W.alloc (.cells #[.string x.name] 9)).heap.size (W.alloc (.cells #[.string x.name] 9)) w'))
  clear hL hO hy hf
  go_enter Try.func34, Try.ntmps34
  go_wp2_with fail
  have hWs : (w.alloc (.cells #[.string x.name, .string x.row, .int .i64 x.e, .int .i64 x.until_] 29)).heap.size = w.heap.size + 1 := by simp
  obtain ⟨W, hW⟩ : ∃ W, W = w.alloc (.cells #[.string x.name, .string x.row, .int .i64 x.e, .int .i64 x.until_] 29) := ⟨_, rfl⟩
  rw [← hW] at hb1 HZ hWs ⊢
  have HB := Lib.hid hb1
  have HWs := Lib.hid hWs
  clear hW hb1 hWs
  with_reducible refine (named_any x.name W).mono ?_
  rintro e w1 ⟨rfl, hw1⟩
  subst hw1
  go_wp2_with fail
  with_reducible refine (HFi.out W HB.out).mono ?_
  rintro e w1 ⟨rfl, hb1⟩
  have hb2 := (below1 W (.cells #[.string x.name] 9)).trans (hb1.mono (by simp))
  obtain ⟨⟨x0, x1, x2, x3⟩, _⟩ := boxes4 ((hb2.block w.heap.size (by have := HWs.out; omega)).trans HZ.out)
  have HB1 := Lib.hid (HB.out.trans (hb2.mono (by have := HWs.out; omega)))
  obtain ⟨g, o, rfl, hg, hgl, hrow, ⟨q0, q1, q2, q3⟩, f0, f1, f2, f3⟩ := loose_put (HO.out.below HB1.out) x HY.out
  have HRW := Lib.hid hrow
  clear hb1 hb2 hrow HFi
  go_wp2_with fail
  go_ret
  exact ⟨_, _, by rw [HL.out, List.length_set]; rfl, by rw [HL.out]; exact HRW.out, ((((HB1.out.mono hbase).setCell (p := ⟨g, o + k * 4, none⟩) hg _).setCell (p := ⟨g, o + k * 4 + 1, none⟩) hg _).setCell (p := ⟨g, o + k * 4 + 2, none⟩) hg _).setCell (p := ⟨g, o + k * 4 + 3, none⟩) hg _⟩
end Go.Proofs.Ytaealoodchkeaaa
