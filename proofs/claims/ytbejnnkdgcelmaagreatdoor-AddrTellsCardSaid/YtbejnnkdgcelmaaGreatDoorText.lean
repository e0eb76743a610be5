/- Text: an address's text. -/
import Derived.Test.YtbejnnkdgcelmaaGreatDoorTellC
set_option linter.unusedSimpArgs false
set_option linter.unusedVariables false
namespace Go.Proofs.YtbejnnkdgcelmaaGreatDoor
open Go.RowKit

theorem adsAt_new (a : Ad) (w : World) (n : Nat) (hn : n = w.heap.size) (c : Array Value) (hc : c = a.enc.toArray) (t : TypeId) : AdsAt (w.alloc (Obj.cells c t)) n 0 [a] := by
  subst hn hc
  intro j b hb i v hv
  have hj : j = 0 := by have := (List.getElem?_eq_some_iff.1 hb).1; simp at this; omega
  subst hj
  simp at hb; subst hb
  rw [World.cell?_alloc_new]
  simpa using hv
theorem mayP_fam (a : Ad) (h : mayP a = true) : (a.f = 4 ∨ a.f = 6) ∧ 1 ≤ a.p ∧ a.p ≤ 65535 := by
  simp only [mayP, Bool.and_eq_true, decide_eq_true_eq] at h
  obtain ⟨⟨hg, h1⟩, h2⟩ := h
  refine ⟨?_, h1, h2⟩
  unfold mayG at hg
  split at hg
  · simp_all
  · simp_all
theorem P.hostP_len (f : Int) (x0 x1 x2 x3 x4 x5 x6 x7 : Nat) (h0 : x0 ≤ 65535) (h1 : x1 ≤ 65535) : (P.hostP f [x0, x1, x2, x3, x4, x5, x6, x7]).length ≤ 100 := by
  have h6 := P.tell6_len [x0, x1, x2, x3, x4, x5, x6, x7] rfl
  have h4 := P.tell4_len x0 x1 h0 h1
  unfold P.hostP
  split
  · simpa using h4
  · simp only [List.length_cons, List.length_append, List.length_nil]; omega

theorem may_one (f g0 g1 g2 g3 g4 g5 g6 g7 p : Int) (W : World) (n : Nat) (hn : n = W.heap.size) :
    Calls Tryz.prog 11 #[.slice (some ⟨n, 0, none⟩) 1 1] (W.alloc (Obj.cells #[.int .i8 f, .int .u16 g0, .int .u16 g1, .int .u16 g2, .int .u16 g3, .int .u16 g4, .int .u16 g5, .int .u16 g6, .int .u16 g7, .int .i64 p] 26)) fun e w' => e = .returned (.bool (mayP ⟨f, g0, g1, g2, g3, g4, g5, g6, g7, p⟩)) ∧ Below (W.alloc (Obj.cells #[.int .i8 f, .int .u16 g0, .int .u16 g1, .int .u16 g2, .int .u16 g3, .int .u16 g4, .int .u16 g5, .int .u16 g6, .int .u16 g7, .int .i64 p] 26)).heap.size (W.alloc (Obj.cells #[.int .i8 f, .int .u16 g0, .int .u16 g1, .int .u16 g2, .int .u16 g3, .int .u16 g4, .int .u16 g5, .int .u16 g6, .int .u16 g7, .int .i64 p] 26)) w' := by
  have hC := may_any [⟨f, g0, g1, g2, g3, g4, g5, g6, g7, p⟩] n 0 1 (W.alloc (Obj.cells #[.int .i8 f, .int .u16 g0, .int .u16 g1, .int .u16 g2, .int .u16 g3, .int .u16 g4, .int .u16 g5, .int .u16 g6, .int .u16 g7, .int .i64 p] 26)) (by simp) (by rw [hn]; simp) (adsAt_new ⟨f, g0, g1, g2, g3, g4, g5, g6, g7, p⟩ W n hn _ rfl _)
  simp only [List.all_cons, List.all_nil, Bool.and_true, List.length_cons, List.length_nil] at hC
  exact hC

set_option maxHeartbeats 8000000 in
set_option maxRecDepth 1000000 in
theorem text_no (a : Ad) (w : World) (h : mayP a = false) :
    Calls Tryz.prog 7 #[a.v] w fun e w' => e = .returned (.tuple #[.string ByteArray.empty, .int .i64 20]) ∧ Below w.heap.size w w' := by
  obtain ⟨f, g0, g1, g2, g3, g4, g5, g6, g7, p⟩ := a
  simp only [Ad.v, Ad.enc]
  have HM := Lib.hid h
  clear h
  go_enter Tryz.func7, Tryz.ntmps7
  go_wp2_with fail
  have hbw : Below w.heap.size w ((w.alloc (Obj.cells #[.int .i8 f, .int .u16 g0, .int .u16 g1, .int .u16 g2, .int .u16 g3, .int .u16 g4, .int .u16 g5, .int .u16 g6, .int .u16 g7, .int .i64 p] 26)).alloc (Obj.cells #[.int .i8 f, .int .u16 g0, .int .u16 g1, .int .u16 g2, .int .u16 g3, .int .u16 g4, .int .u16 g5, .int .u16 g6, .int .u16 g7, .int .i64 p] 26)) := ((Below.refl _ w).alloc (Nat.le_refl _) _).alloc (by simp) _
  have HC := may_one f g0 g1 g2 g3 g4 g5 g6 g7 p (w.alloc (Obj.cells #[.int .i8 f, .int .u16 g0, .int .u16 g1, .int .u16 g2, .int .u16 g3, .int .u16 g4, .int .u16 g5, .int .u16 g6, .int .u16 g7, .int .i64 p] 26)) (w.heap.size + 1) (by simp)
  rw [HM.out] at HC
  with_reducible refine HC.mono ?_
  clear HC
  rintro e w1 ⟨rfl, hb1⟩
  have hb1 := hbw.trans (hb1.mono hbw.size)
  go_wp2_with fail
  go_ret2
  exact ⟨rfl, hb1⟩

set_option maxHeartbeats 8000000 in
set_option maxRecDepth 1000000 in
theorem text_yes (a : Ad) (w : World) (h : mayP a = true) (ha : a.Ok) (hE : Env w) :
    Calls Tryz.prog 7 #[a.v] w fun e w' => e = .returned (.tuple #[.string ⟨(P.textP a).toArray⟩, .int .i64 0]) ∧ Below w.heap.size w w' := by
  obtain ⟨hfam, hp1, hp2⟩ := mayP_fam a h
  obtain ⟨x0, x1, x2, x3, x4, x5, x6, x7, e0, e1, e2, e3, e4, e5, e6, e7, hns, hle⟩ := a.nats ha
  have hlen := P.hostP_len a.f x0 x1 x2 x3 x4 x5 x6 x7 (hle x0 (by rw [hns]; simp)) (hle x1 (by rw [hns]; simp))
  rw [← hns] at hlen
  have hh := fun W (hb : Below w.heap.size w W) => tellHost_any a W ha hfam (hE.below hb)
  have hT : (⟨(P.textP a).toArray⟩ : ByteArray) = ⟨(P.hostP a.f a.ns).toArray⟩ ++ ⟨#[58]⟩ ++ ⟨(Lib.decDigits a.p.toNat).toArray⟩ := by
    rw [show (⟨#[58]⟩ : ByteArray) = ⟨([58] : List UInt8).toArray⟩ from rfl, str_app, str_app]
    simp [P.textP]
  obtain ⟨pn, hpn⟩ : ∃ pn : Nat, a.p = pn := ⟨a.p.toNat, by omega⟩
  have hpl : pn ≤ 65535 := by omega
  have hi := fun W (hb : Below w.heap.size w W) => itoa_any pn hpl W (hE.below hb)
  have hpt : a.p.toNat = pn := by omega
  rw [hpt] at hT
  have hdl := dec_len pn hpl
  obtain ⟨f, g0, g1, g2, g3, g4, g5, g6, g7, p⟩ := a
  simp only [Ad.v, Ad.enc] at hh ⊢
  simp only at hpn hT hlen
  subst hpn
  have HM := Lib.hid h
  have HH := Lib.hid hh
  have HI := Lib.hid hi
  have HT := Lib.hid hT
  have hs1 : (⟨(P.hostP f (Ad.ns ⟨f, g0, g1, g2, g3, g4, g5, g6, g7, (pn : Int)⟩)).toArray⟩ : ByteArray).size ≤ 100 := by rw [size_of_list]; exact hlen
  have hs2 : (⟨(Lib.decDigits pn).toArray⟩ : ByteArray).size ≤ 21 := by rw [size_of_list]; exact hdl
  clear h hh hi hT hlen hdl hE ha hfam hns hle hpt e0 e1 e2 e3 e4 e5 e6 e7
  generalize (⟨(P.hostP f (Ad.ns ⟨f, g0, g1, g2, g3, g4, g5, g6, g7, (pn : Int)⟩)).toArray⟩ : ByteArray) = S1 at *
  generalize (⟨(Lib.decDigits pn).toArray⟩ : ByteArray) = S2 at *
  generalize hpz : (pn : Int) = p at *
  go_enter Tryz.func7, Tryz.ntmps7
  go_wp2_with fail
  have hbw : Below w.heap.size w ((w.alloc (Obj.cells #[.int .i8 f, .int .u16 g0, .int .u16 g1, .int .u16 g2, .int .u16 g3, .int .u16 g4, .int .u16 g5, .int .u16 g6, .int .u16 g7, .int .i64 p] 26)).alloc (Obj.cells #[.int .i8 f, .int .u16 g0, .int .u16 g1, .int .u16 g2, .int .u16 g3, .int .u16 g4, .int .u16 g5, .int .u16 g6, .int .u16 g7, .int .i64 p] 26)) := ((Below.refl _ w).alloc (Nat.le_refl _) _).alloc (by simp) _
  have cw : ∀ j, j < 10 → ((w.alloc (Obj.cells #[.int .i8 f, .int .u16 g0, .int .u16 g1, .int .u16 g2, .int .u16 g3, .int .u16 g4, .int .u16 g5, .int .u16 g6, .int .u16 g7, .int .i64 p] 26)).alloc (Obj.cells #[.int .i8 f, .int .u16 g0, .int .u16 g1, .int .u16 g2, .int .u16 g3, .int .u16 g4, .int .u16 g5, .int .u16 g6, .int .u16 g7, .int .i64 p] 26)).cell? ⟨w.heap.size, j, none⟩ = (#[.int .i8 f, .int .u16 g0, .int .u16 g1, .int .u16 g2, .int .u16 g3, .int .u16 g4, .int .u16 g5, .int .u16 g6, .int .u16 g7, .int .i64 p] : Array Value)[j]? := by
    intro j hj
    rw [World.cell?_alloc_old _ _ _ (by simp), World.cell?_alloc_new]
  have HC := may_one f g0 g1 g2 g3 g4 g5 g6 g7 p (w.alloc (Obj.cells #[.int .i8 f, .int .u16 g0, .int .u16 g1, .int .u16 g2, .int .u16 g3, .int .u16 g4, .int .u16 g5, .int .u16 g6, .int .u16 g7, .int .i64 p] 26)) (w.heap.size + 1) (by simp)
  rw [HM.out] at HC
  with_reducible refine HC.mono ?_
  clear HC
  rintro e w1 ⟨rfl, hb1⟩
  have hk : ∀ j, j < 10 → w1.cell? ⟨w.heap.size, j, none⟩ = (#[.int .i8 f, .int .u16 g0, .int .u16 g1, .int .u16 g2, .int .u16 g3, .int .u16 g4, .int .u16 g5, .int .u16 g6, .int .u16 g7, .int .i64 p] : Array Value)[j]? := fun j hj => (hb1.cell (p := ⟨w.heap.size, j, none⟩) (by simp <;> omega)).trans (cw j hj)
  have hb1' := hbw.trans (hb1.mono hbw.size)
  have hbs1 : w.heap.size + 2 ≤ w1.heap.size := by have := hb1.size; simpa using this
  have c0 := hk 0 (by omega)
  have c1 := hk 1 (by omega)
  have c2 := hk 2 (by omega)
  have c3 := hk 3 (by omega)
  have c4 := hk 4 (by omega)
  have c5 := hk 5 (by omega)
  have c6 := hk 6 (by omega)
  have c7 := hk 7 (by omega)
  have c8 := hk 8 (by omega)
  have c9 := hk 9 (by omega)
  simp only [List.getElem?_toArray, List.getElem?_cons_zero, List.getElem?_cons_succ] at c0 c1 c2 c3 c4 c5 c6 c7 c8 c9
  clear hb1 hbw cw hk
  go_wp2_with fail
  have hbd := hb1'.drew
  have hbds := hbd.size
  have C1 := HH.out w1.drew hbd
  have hsd : w.heap.size < w1.drew.heap.size := by simp; omega
  have c9d : w1.drew.cell? ⟨w.heap.size, 9, none⟩ = some (.int .i64 p) := c9
  clear HH
  go_region_with (first
    | (go_at_call 21; with_reducible refine C1.mono ?_; rintro e w2 ⟨rfl, hb2⟩; have hb3 := hbd.trans (hb2.mono hbds); have hbs3 := hb3.size; have c9' := (hb2.cell (p := ⟨w.heap.size, 9, none⟩) hsd).trans c9d)
    | (go_at_call 22; have C2' := HI.out w2 hb3; with_reducible refine C2'.mono ?_; rintro e w4 ⟨rfl, hb4⟩; have hb5 := hb3.trans (hb4.mono hbs3)))
  all_goals
    have hc58 : (⟨#[58]⟩ : ByteArray).size = 1 := rfl
    go_wp2_with fail
    go_ret2
    exact ⟨by rw [HT.out]; rfl, hb5⟩
end Go.Proofs.YtbejnnkdgcelmaaGreatDoor
