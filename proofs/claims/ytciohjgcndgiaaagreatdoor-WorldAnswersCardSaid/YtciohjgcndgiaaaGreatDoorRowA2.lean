/- Of stage 02: what row_any, refRow_any leans on (part 2). -/
import Derived.Test.YtciohjgcndgiaaaGreatDoorRowA1
import Derived.WalkKit
import Derived.Handy
import Derived.WalkSpells
import Derived.WalkLawsBesides
import Derived.WalkSmall
import Derived.ShutString
import Derived.Lib.Hide
import Derived.Below
import Derived.Deep.Light
import Derived.Deep.LoopGhost
import Derived.Deep.QuietTactic
import Derived.BigQuiet
import Derived.ProofKit
import Derived.Laws.StructEq
import Derived.ChangeKeysEq
import Derived.Lib.Join
import Derived.Lib.ItoaNum
import Derived.Lib.LaidTab
import Derived.Lib.UnsafeStr
import Derived.Lib.AppendStr
import Derived.Laws.BytesString
import Derived.Laws.BitsAllLaws
import Derived.Laws.OwnMore
import Derived.OwnWalk
import Derived.Maps.AppendAt
import Derived.Deep.Onto
import Derived.Lib.Split
import Derived.Laws.ResultCell
import Derived.Laws.CopyOwn
import Derived.Lib.AppendIntMem
import Derived.Lib.ItoaLen
import Derived.Deep.RegionWith
import Derived.Lib.LastIndexByte
set_option linter.unusedSimpArgs false
set_option linter.unusedVariables false
namespace Go.Proofs.YtciohjgcndgiaaaGreatDoor.R2
open Go.RowKit
theorem mayP_fam (a : Ad) (h : mayP a = true) : (a.f = 4 ∨ a.f = 6) ∧ 1 ≤ a.p ∧ a.p ≤ 65535 := by
  simp only [mayP, Bool.and_eq_true, decide_eq_true_eq] at h
  obtain ⟨⟨hg, h1⟩, h2⟩ := h
  refine ⟨?_, h1, h2⟩
  unfold mayG at hg
  split at hg
  · simp_all
  · simp_all
theorem P.hostP_len (f : Int) (x0 x1 x2 x3 x4 x5 x6 x7 : Nat) (h0 : x0 ≤ 65535) (h1 : x1 ≤ 65535) : (P.hostP f [x0, x1, x2, x3, x4, x5, x6, x7]).length ≤ 100 := by
  have h6 := P.tell6_len [x0, x1, x2, x3, x4, x5, x6, x7] rfl
  have h4 := P.tell4_len x0 x1 h0 h1
  unfold P.hostP
  split
  · simpa using h4
  · simp only [List.length_cons, List.length_append, List.length_nil]; omega
theorem may_one (f g0 g1 g2 g3 g4 g5 g6 g7 p : Int) (W : World) (n : Nat) (hn : n = W.heap.size) :
    Calls Tryz.prog 38 #[.slice (some ⟨n, 0, none⟩) 1 1] (W.alloc (Obj.cells #[.int .i8 f, .int .u16 g0, .int .u16 g1, .int .u16 g2, .int .u16 g3, .int .u16 g4, .int .u16 g5, .int .u16 g6, .int .u16 g7, .int .i64 p] 59)) fun e w' => e = .returned (.bool (mayP ⟨f, g0, g1, g2, g3, g4, g5, g6, g7, p⟩)) ∧ Below (W.alloc (Obj.cells #[.int .i8 f, .int .u16 g0, .int .u16 g1, .int .u16 g2, .int .u16 g3, .int .u16 g4, .int .u16 g5, .int .u16 g6, .int .u16 g7, .int .i64 p] 59)).heap.size (W.alloc (Obj.cells #[.int .i8 f, .int .u16 g0, .int .u16 g1, .int .u16 g2, .int .u16 g3, .int .u16 g4, .int .u16 g5, .int .u16 g6, .int .u16 g7, .int .i64 p] 59)) w' := by
  have hC := may_any [⟨f, g0, g1, g2, g3, g4, g5, g6, g7, p⟩] n 0 1 (W.alloc (Obj.cells #[.int .i8 f, .int .u16 g0, .int .u16 g1, .int .u16 g2, .int .u16 g3, .int .u16 g4, .int .u16 g5, .int .u16 g6, .int .u16 g7, .int .i64 p] 59)) (by simp) (by rw [hn]; simp) (adsAt_new ⟨f, g0, g1, g2, g3, g4, g5, g6, g7, p⟩ W n hn _ rfl _)
  simp only [List.all_cons, List.all_nil, Bool.and_true, List.length_cons, List.length_nil] at hC
  exact hC
set_option maxHeartbeats 8000000 in
set_option maxRecDepth 1000000 in
theorem text_no (a : Ad) (w : World) (h : mayP a = false) :
    Calls Tryz.prog 73 #[a.v] w fun e w' => e = .returned (.tuple #[.string ByteArray.empty, .int .i64 20]) ∧ Below w.heap.size w w' := by
  obtain ⟨f, g0, g1, g2, g3, g4, g5, g6, g7, p⟩ := a
  simp only [Ad.v, Ad.enc]
  have HM := Lib.hid h
  clear h
  go_enter Tryz.func73, Tryz.ntmps73
  go_wp2_with fail
  have hbw : Below w.heap.size w ((w.alloc (Obj.cells #[.int .i8 f, .int .u16 g0, .int .u16 g1, .int .u16 g2, .int .u16 g3, .int .u16 g4, .int .u16 g5, .int .u16 g6, .int .u16 g7, .int .i64 p] 59)).alloc (Obj.cells #[.int .i8 f, .int .u16 g0, .int .u16 g1, .int .u16 g2, .int .u16 g3, .int .u16 g4, .int .u16 g5, .int .u16 g6, .int .u16 g7, .int .i64 p] 59)) := ((Below.refl _ w).alloc (Nat.le_refl _) _).alloc (by simp) _
  have HC := may_one f g0 g1 g2 g3 g4 g5 g6 g7 p (w.alloc (Obj.cells #[.int .i8 f, .int .u16 g0, .int .u16 g1, .int .u16 g2, .int .u16 g3, .int .u16 g4, .int .u16 g5, .int .u16 g6, .int .u16 g7, .int .i64 p] 59)) (w.heap.size + 1) (by simp)
  rw [HM.out] at HC
  with_reducible refine HC.mono ?_
  clear HC
  rintro e w1 ⟨rfl, hb1⟩
  have hb1 := hbw.trans (hb1.mono hbw.size)
  go_wp2_with fail
  go_ret2
  exact ⟨rfl, hb1⟩
set_option maxHeartbeats 8000000 in
set_option maxRecDepth 1000000 in
theorem text_yes (a : Ad) (w : World) (h : mayP a = true) (ha : a.Ok) (hE : Env w) :
    Calls Tryz.prog 73 #[a.v] w fun e w' => e = .returned (.tuple #[.string ⟨(P.textP a).toArray⟩, .int .i64 0]) ∧ Below w.heap.size w w' := by
  obtain ⟨hfam, hp1, hp2⟩ := mayP_fam a h
  obtain ⟨x0, x1, x2, x3, x4, x5, x6, x7, e0, e1, e2, e3, e4, e5, e6, e7, hns, hle⟩ := a.nats ha
  have hlen := P.hostP_len a.f x0 x1 x2 x3 x4 x5 x6 x7 (hle x0 (by rw [hns]; simp)) (hle x1 (by rw [hns]; simp))
  rw [← hns] at hlen
  have hh := fun W (hb : Below w.heap.size w W) => tellHost_any a W ha hfam (hE.below hb)
  have hT : (⟨(P.textP a).toArray⟩ : ByteArray) = ⟨(P.hostP a.f a.ns).toArray⟩ ++ ⟨#[58]⟩ ++ ⟨(Lib.decDigits a.p.toNat).toArray⟩ := by
    rw [show (⟨#[58]⟩ : ByteArray) = ⟨([58] : List UInt8).toArray⟩ from rfl, str_app, str_app]
    simp [P.textP]
  obtain ⟨pn, hpn⟩ : ∃ pn : Nat, a.p = pn := ⟨a.p.toNat, by omega⟩
  have hpl : pn ≤ 65535 := by omega
  have hi := fun W (hb : Below w.heap.size w W) => itoa_any pn hpl W (hE.below hb)
  have hpt : a.p.toNat = pn := by omega
  rw [hpt] at hT
  have hdl := dec_len pn hpl
  obtain ⟨f, g0, g1, g2, g3, g4, g5, g6, g7, p⟩ := a
  simp only [Ad.v, Ad.enc] at hh ⊢
  simp only at hpn hT hlen
  subst hpn
  have HM := Lib.hid h
  have HH := Lib.hid hh
  have HI := Lib.hid hi
  have HT := Lib.hid hT
  have hs1 : (⟨(P.hostP f (Ad.ns ⟨f, g0, g1, g2, g3, g4, g5, g6, g7, (pn : Int)⟩)).toArray⟩ : ByteArray).size ≤ 100 := by rw [size_of_list]; exact hlen
  have hs2 : (⟨(Lib.decDigits pn).toArray⟩ : ByteArray).size ≤ 21 := by rw [size_of_list]; exact hdl
  clear h hh hi hT hlen hdl hE ha hfam hns hle hpt e0 e1 e2 e3 e4 e5 e6 e7
  generalize (⟨(P.hostP f (Ad.ns ⟨f, g0, g1, g2, g3, g4, g5, g6, g7, (pn : Int)⟩)).toArray⟩ : ByteArray) = S1 at *
  generalize (⟨(Lib.decDigits pn).toArray⟩ : ByteArray) = S2 at *
  generalize hpz : (pn : Int) = p at *
  go_enter Tryz.func73, Tryz.ntmps73
  go_wp2_with fail
  have hbw : Below w.heap.size w ((w.alloc (Obj.cells #[.int .i8 f, .int .u16 g0, .int .u16 g1, .int .u16 g2, .int .u16 g3, .int .u16 g4, .int .u16 g5, .int .u16 g6, .int .u16 g7, .int .i64 p] 59)).alloc (Obj.cells #[.int .i8 f, .int .u16 g0, .int .u16 g1, .int .u16 g2, .int .u16 g3, .int .u16 g4, .int .u16 g5, .int .u16 g6, .int .u16 g7, .int .i64 p] 59)) := ((Below.refl _ w).alloc (Nat.le_refl _) _).alloc (by simp) _
  have cw : ∀ j, j < 10 → ((w.alloc (Obj.cells #[.int .i8 f, .int .u16 g0, .int .u16 g1, .int .u16 g2, .int .u16 g3, .int .u16 g4, .int .u16 g5, .int .u16 g6, .int .u16 g7, .int .i64 p] 59)).alloc (Obj.cells #[.int .i8 f, .int .u16 g0, .int .u16 g1, .int .u16 g2, .int .u16 g3, .int .u16 g4, .int .u16 g5, .int .u16 g6, .int .u16 g7, .int .i64 p] 59)).cell? ⟨w.heap.size, j, none⟩ = (#[.int .i8 f, .int .u16 g0, .int .u16 g1, .int .u16 g2, .int .u16 g3, .int .u16 g4, .int .u16 g5, .int .u16 g6, .int .u16 g7, .int .i64 p] : Array Value)[j]? := by
    intro j hj
    rw [World.cell?_alloc_old _ _ _ (by simp), World.cell?_alloc_new]
  have HC := may_one f g0 g1 g2 g3 g4 g5 g6 g7 p (w.alloc (Obj.cells #[.int .i8 f, .int .u16 g0, .int .u16 g1, .int .u16 g2, .int .u16 g3, .int .u16 g4, .int .u16 g5, .int .u16 g6, .int .u16 g7, .int .i64 p] 59)) (w.heap.size + 1) (by simp)
  rw [HM.out] at HC
  with_reducible refine HC.mono ?_
  clear HC
  rintro e w1 ⟨rfl, hb1⟩
  have hk : ∀ j, j < 10 → w1.cell? ⟨w.heap.size, j, none⟩ = (#[.int .i8 f, .int .u16 g0, .int .u16 g1, .int .u16 g2, .int .u16 g3, .int .u16 g4, .int .u16 g5, .int .u16 g6, .int .u16 g7, .int .i64 p] : Array Value)[j]? := fun j hj => (hb1.cell (p := ⟨w.heap.size, j, none⟩) (by simp <;> omega)).trans (cw j hj)
  have hb1' := hbw.trans (hb1.mono hbw.size)
  have hbs1 : w.heap.size + 2 ≤ w1.heap.size := by have := hb1.size; simpa using this
  have c0 := hk 0 (by omega)
  have c1 := hk 1 (by omega)
  have c2 := hk 2 (by omega)
  have c3 := hk 3 (by omega)
  have c4 := hk 4 (by omega)
  have c5 := hk 5 (by omega)
  have c6 := hk 6 (by omega)
  have c7 := hk 7 (by omega)
  have c8 := hk 8 (by omega)
  have c9 := hk 9 (by omega)
  simp only [List.getElem?_toArray, List.getElem?_cons_zero, List.getElem?_cons_succ] at c0 c1 c2 c3 c4 c5 c6 c7 c8 c9
  clear hb1 hbw cw hk
  go_wp2_with fail
  have hbd := hb1'.drew
  have hbds := hbd.size
  have C1 := HH.out w1.drew hbd
  have hsd : w.heap.size < w1.drew.heap.size := by simp; omega
  have c9d : w1.drew.cell? ⟨w.heap.size, 9, none⟩ = some (.int .i64 p) := c9
  clear HH
  go_region_with (first
    | (go_at_call 84; with_reducible refine C1.mono ?_; rintro e w2 ⟨rfl, hb2⟩; have hb3 := hbd.trans (hb2.mono hbds); have hbs3 := hb3.size; have c9' := (hb2.cell (p := ⟨w.heap.size, 9, none⟩) hsd).trans c9d)
    | (go_at_call 85; have C2' := HI.out w2 hb3; with_reducible refine C2'.mono ?_; rintro e w4 ⟨rfl, hb4⟩; have hb5 := hb3.trans (hb4.mono hbs3)))
  all_goals
    have hc58 : (⟨#[58]⟩ : ByteArray).size = 1 := rfl
    go_wp2_with fail
    go_ret2
    exact ⟨by rw [HT.out]; rfl, hb5⟩
/-- An address in a block of the call's own. -/
structure A10 (w : World) (b : Nat) (f g0 g1 g2 g3 g4 g5 g6 g7 p : Int) : Prop where
  c0 : w.cell? ⟨b, 0, none⟩ = some (.int .i8 f)
  c1 : w.cell? ⟨b, 1, none⟩ = some (.int .u16 g0)
  c2 : w.cell? ⟨b, 2, none⟩ = some (.int .u16 g1)
  c3 : w.cell? ⟨b, 3, none⟩ = some (.int .u16 g2)
  c4 : w.cell? ⟨b, 4, none⟩ = some (.int .u16 g3)
  c5 : w.cell? ⟨b, 5, none⟩ = some (.int .u16 g4)
  c6 : w.cell? ⟨b, 6, none⟩ = some (.int .u16 g5)
  c7 : w.cell? ⟨b, 7, none⟩ = some (.int .u16 g6)
  c8 : w.cell? ⟨b, 8, none⟩ = some (.int .u16 g7)
  c9 : w.cell? ⟨b, 9, none⟩ = some (.int .i64 p)
  fz : ∀ j, w.frozen? ⟨b, j, none⟩ = false
theorem A10.below {w w' : World} {b n : Nat} {f g0 g1 g2 g3 g4 g5 g6 g7 p : Int} (h : A10 w b f g0 g1 g2 g3 g4 g5 g6 g7 p) (hb : Below n w w') (hn : b < n) : A10 w' b f g0 g1 g2 g3 g4 g5 g6 g7 p :=
  ⟨(hb.cell hn).trans h.c0, (hb.cell hn).trans h.c1, (hb.cell hn).trans h.c2, (hb.cell hn).trans h.c3, (hb.cell hn).trans h.c4, (hb.cell hn).trans h.c5, (hb.cell hn).trans h.c6, (hb.cell hn).trans h.c7, (hb.cell hn).trans h.c8, (hb.cell hn).trans h.c9, fun j => (hb.frozen hn).trans (h.fz j)⟩
theorem A10.set0 {w : World} {b : Nat} {f g0 g1 g2 g3 g4 g5 g6 g7 p : Int} (h : A10 w b f g0 g1 g2 g3 g4 g5 g6 g7 p) (x : Int) : A10 (w.setCell ⟨b, 0, none⟩ (.int .i8 x)) b x g0 g1 g2 g3 g4 g5 g6 g7 p :=
  ⟨World.cell?_setCell_same _ _ _ h.c0, (World.cell?_setCell_other _ _ _ _ (addr_ne _ _ _ (by omega))).trans h.c1, (World.cell?_setCell_other _ _ _ _ (addr_ne _ _ _ (by omega))).trans h.c2, (World.cell?_setCell_other _ _ _ _ (addr_ne _ _ _ (by omega))).trans h.c3, (World.cell?_setCell_other _ _ _ _ (addr_ne _ _ _ (by omega))).trans h.c4, (World.cell?_setCell_other _ _ _ _ (addr_ne _ _ _ (by omega))).trans h.c5, (World.cell?_setCell_other _ _ _ _ (addr_ne _ _ _ (by omega))).trans h.c6, (World.cell?_setCell_other _ _ _ _ (addr_ne _ _ _ (by omega))).trans h.c7, (World.cell?_setCell_other _ _ _ _ (addr_ne _ _ _ (by omega))).trans h.c8, (World.cell?_setCell_other _ _ _ _ (addr_ne _ _ _ (by omega))).trans h.c9, fun j => by rw [World.frozen?_setCell]; exact h.fz j⟩
theorem A10.set1 {w : World} {b : Nat} {f g0 g1 g2 g3 g4 g5 g6 g7 p : Int} (h : A10 w b f g0 g1 g2 g3 g4 g5 g6 g7 p) (x : Int) : A10 (w.setCell ⟨b, 1, none⟩ (.int .u16 x)) b f x g1 g2 g3 g4 g5 g6 g7 p :=
  ⟨(World.cell?_setCell_other _ _ _ _ (addr_ne _ _ _ (by omega))).trans h.c0, World.cell?_setCell_same _ _ _ h.c1, (World.cell?_setCell_other _ _ _ _ (addr_ne _ _ _ (by omega))).trans h.c2, (World.cell?_setCell_other _ _ _ _ (addr_ne _ _ _ (by omega))).trans h.c3, (World.cell?_setCell_other _ _ _ _ (addr_ne _ _ _ (by omega))).trans h.c4, (World.cell?_setCell_other _ _ _ _ (addr_ne _ _ _ (by omega))).trans h.c5, (World.cell?_setCell_other _ _ _ _ (addr_ne _ _ _ (by omega))).trans h.c6, (World.cell?_setCell_other _ _ _ _ (addr_ne _ _ _ (by omega))).trans h.c7, (World.cell?_setCell_other _ _ _ _ (addr_ne _ _ _ (by omega))).trans h.c8, (World.cell?_setCell_other _ _ _ _ (addr_ne _ _ _ (by omega))).trans h.c9, fun j => by rw [World.frozen?_setCell]; exact h.fz j⟩
theorem A10.set2 {w : World} {b : Nat} {f g0 g1 g2 g3 g4 g5 g6 g7 p : Int} (h : A10 w b f g0 g1 g2 g3 g4 g5 g6 g7 p) (x : Int) : A10 (w.setCell ⟨b, 2, none⟩ (.int .u16 x)) b f g0 x g2 g3 g4 g5 g6 g7 p :=
  ⟨(World.cell?_setCell_other _ _ _ _ (addr_ne _ _ _ (by omega))).trans h.c0, (World.cell?_setCell_other _ _ _ _ (addr_ne _ _ _ (by omega))).trans h.c1, World.cell?_setCell_same _ _ _ h.c2, (World.cell?_setCell_other _ _ _ _ (addr_ne _ _ _ (by omega))).trans h.c3, (World.cell?_setCell_other _ _ _ _ (addr_ne _ _ _ (by omega))).trans h.c4, (World.cell?_setCell_other _ _ _ _ (addr_ne _ _ _ (by omega))).trans h.c5, (World.cell?_setCell_other _ _ _ _ (addr_ne _ _ _ (by omega))).trans h.c6, (World.cell?_setCell_other _ _ _ _ (addr_ne _ _ _ (by omega))).trans h.c7, (World.cell?_setCell_other _ _ _ _ (addr_ne _ _ _ (by omega))).trans h.c8, (World.cell?_setCell_other _ _ _ _ (addr_ne _ _ _ (by omega))).trans h.c9, fun j => by rw [World.frozen?_setCell]; exact h.fz j⟩
theorem A10.set3 {w : World} {b : Nat} {f g0 g1 g2 g3 g4 g5 g6 g7 p : Int} (h : A10 w b f g0 g1 g2 g3 g4 g5 g6 g7 p) (x : Int) : A10 (w.setCell ⟨b, 3, none⟩ (.int .u16 x)) b f g0 g1 x g3 g4 g5 g6 g7 p :=
  ⟨(World.cell?_setCell_other _ _ _ _ (addr_ne _ _ _ (by omega))).trans h.c0, (World.cell?_setCell_other _ _ _ _ (addr_ne _ _ _ (by omega))).trans h.c1, (World.cell?_setCell_other _ _ _ _ (addr_ne _ _ _ (by omega))).trans h.c2, World.cell?_setCell_same _ _ _ h.c3, (World.cell?_setCell_other _ _ _ _ (addr_ne _ _ _ (by omega))).trans h.c4, (World.cell?_setCell_other _ _ _ _ (addr_ne _ _ _ (by omega))).trans h.c5, (World.cell?_setCell_other _ _ _ _ (addr_ne _ _ _ (by omega))).trans h.c6, (World.cell?_setCell_other _ _ _ _ (addr_ne _ _ _ (by omega))).trans h.c7, (World.cell?_setCell_other _ _ _ _ (addr_ne _ _ _ (by omega))).trans h.c8, (World.cell?_setCell_other _ _ _ _ (addr_ne _ _ _ (by omega))).trans h.c9, fun j => by rw [World.frozen?_setCell]; exact h.fz j⟩
theorem A10.set4 {w : World} {b : Nat} {f g0 g1 g2 g3 g4 g5 g6 g7 p : Int} (h : A10 w b f g0 g1 g2 g3 g4 g5 g6 g7 p) (x : Int) : A10 (w.setCell ⟨b, 4, none⟩ (.int .u16 x)) b f g0 g1 g2 x g4 g5 g6 g7 p :=
  ⟨(World.cell?_setCell_other _ _ _ _ (addr_ne _ _ _ (by omega))).trans h.c0, (World.cell?_setCell_other _ _ _ _ (addr_ne _ _ _ (by omega))).trans h.c1, (World.cell?_setCell_other _ _ _ _ (addr_ne _ _ _ (by omega))).trans h.c2, (World.cell?_setCell_other _ _ _ _ (addr_ne _ _ _ (by omega))).trans h.c3, World.cell?_setCell_same _ _ _ h.c4, (World.cell?_setCell_other _ _ _ _ (addr_ne _ _ _ (by omega))).trans h.c5, (World.cell?_setCell_other _ _ _ _ (addr_ne _ _ _ (by omega))).trans h.c6, (World.cell?_setCell_other _ _ _ _ (addr_ne _ _ _ (by omega))).trans h.c7, (World.cell?_setCell_other _ _ _ _ (addr_ne _ _ _ (by omega))).trans h.c8, (World.cell?_setCell_other _ _ _ _ (addr_ne _ _ _ (by omega))).trans h.c9, fun j => by rw [World.frozen?_setCell]; exact h.fz j⟩
theorem A10.set5 {w : World} {b : Nat} {f g0 g1 g2 g3 g4 g5 g6 g7 p : Int} (h : A10 w b f g0 g1 g2 g3 g4 g5 g6 g7 p) (x : Int) : A10 (w.setCell ⟨b, 5, none⟩ (.int .u16 x)) b f g0 g1 g2 g3 x g5 g6 g7 p :=
  ⟨(World.cell?_setCell_other _ _ _ _ (addr_ne _ _ _ (by omega))).trans h.c0, (World.cell?_setCell_other _ _ _ _ (addr_ne _ _ _ (by omega))).trans h.c1, (World.cell?_setCell_other _ _ _ _ (addr_ne _ _ _ (by omega))).trans h.c2, (World.cell?_setCell_other _ _ _ _ (addr_ne _ _ _ (by omega))).trans h.c3, (World.cell?_setCell_other _ _ _ _ (addr_ne _ _ _ (by omega))).trans h.c4, World.cell?_setCell_same _ _ _ h.c5, (World.cell?_setCell_other _ _ _ _ (addr_ne _ _ _ (by omega))).trans h.c6, (World.cell?_setCell_other _ _ _ _ (addr_ne _ _ _ (by omega))).trans h.c7, (World.cell?_setCell_other _ _ _ _ (addr_ne _ _ _ (by omega))).trans h.c8, (World.cell?_setCell_other _ _ _ _ (addr_ne _ _ _ (by omega))).trans h.c9, fun j => by rw [World.frozen?_setCell]; exact h.fz j⟩
theorem A10.set6 {w : World} {b : Nat} {f g0 g1 g2 g3 g4 g5 g6 g7 p : Int} (h : A10 w b f g0 g1 g2 g3 g4 g5 g6 g7 p) (x : Int) : A10 (w.setCell ⟨b, 6, none⟩ (.int .u16 x)) b f g0 g1 g2 g3 g4 x g6 g7 p :=
  ⟨(World.cell?_setCell_other _ _ _ _ (addr_ne _ _ _ (by omega))).trans h.c0, (World.cell?_setCell_other _ _ _ _ (addr_ne _ _ _ (by omega))).trans h.c1, (World.cell?_setCell_other _ _ _ _ (addr_ne _ _ _ (by omega))).trans h.c2, (World.cell?_setCell_other _ _ _ _ (addr_ne _ _ _ (by omega))).trans h.c3, (World.cell?_setCell_other _ _ _ _ (addr_ne _ _ _ (by omega))).trans h.c4, (World.cell?_setCell_other _ _ _ _ (addr_ne _ _ _ (by omega))).trans h.c5, World.cell?_setCell_same _ _ _ h.c6, (World.cell?_setCell_other _ _ _ _ (addr_ne _ _ _ (by omega))).trans h.c7, (World.cell?_setCell_other _ _ _ _ (addr_ne _ _ _ (by omega))).trans h.c8, (World.cell?_setCell_other _ _ _ _ (addr_ne _ _ _ (by omega))).trans h.c9, fun j => by rw [World.frozen?_setCell]; exact h.fz j⟩
theorem A10.set7 {w : World} {b : Nat} {f g0 g1 g2 g3 g4 g5 g6 g7 p : Int} (h : A10 w b f g0 g1 g2 g3 g4 g5 g6 g7 p) (x : Int) : A10 (w.setCell ⟨b, 7, none⟩ (.int .u16 x)) b f g0 g1 g2 g3 g4 g5 x g7 p :=
  ⟨(World.cell?_setCell_other _ _ _ _ (addr_ne _ _ _ (by omega))).trans h.c0, (World.cell?_setCell_other _ _ _ _ (addr_ne _ _ _ (by omega))).trans h.c1, (World.cell?_setCell_other _ _ _ _ (addr_ne _ _ _ (by omega))).trans h.c2, (World.cell?_setCell_other _ _ _ _ (addr_ne _ _ _ (by omega))).trans h.c3, (World.cell?_setCell_other _ _ _ _ (addr_ne _ _ _ (by omega))).trans h.c4, (World.cell?_setCell_other _ _ _ _ (addr_ne _ _ _ (by omega))).trans h.c5, (World.cell?_setCell_other _ _ _ _ (addr_ne _ _ _ (by omega))).trans h.c6, World.cell?_setCell_same _ _ _ h.c7, (World.cell?_setCell_other _ _ _ _ (addr_ne _ _ _ (by omega))).trans h.c8, (World.cell?_setCell_other _ _ _ _ (addr_ne _ _ _ (by omega))).trans h.c9, fun j => by rw [World.frozen?_setCell]; exact h.fz j⟩
theorem A10.set8 {w : World} {b : Nat} {f g0 g1 g2 g3 g4 g5 g6 g7 p : Int} (h : A10 w b f g0 g1 g2 g3 g4 g5 g6 g7 p) (x : Int) : A10 (w.setCell ⟨b, 8, none⟩ (.int .u16 x)) b f g0 g1 g2 g3 g4 g5 g6 x p :=
  ⟨(World.cell?_setCell_other _ _ _ _ (addr_ne _ _ _ (by omega))).trans h.c0, (World.cell?_setCell_other _ _ _ _ (addr_ne _ _ _ (by omega))).trans h.c1, (World.cell?_setCell_other _ _ _ _ (addr_ne _ _ _ (by omega))).trans h.c2, (World.cell?_setCell_other _ _ _ _ (addr_ne _ _ _ (by omega))).trans h.c3, (World.cell?_setCell_other _ _ _ _ (addr_ne _ _ _ (by omega))).trans h.c4, (World.cell?_setCell_other _ _ _ _ (addr_ne _ _ _ (by omega))).trans h.c5, (World.cell?_setCell_other _ _ _ _ (addr_ne _ _ _ (by omega))).trans h.c6, (World.cell?_setCell_other _ _ _ _ (addr_ne _ _ _ (by omega))).trans h.c7, World.cell?_setCell_same _ _ _ h.c8, (World.cell?_setCell_other _ _ _ _ (addr_ne _ _ _ (by omega))).trans h.c9, fun j => by rw [World.frozen?_setCell]; exact h.fz j⟩
theorem A10.set9 {w : World} {b : Nat} {f g0 g1 g2 g3 g4 g5 g6 g7 p : Int} (h : A10 w b f g0 g1 g2 g3 g4 g5 g6 g7 p) (x : Int) : A10 (w.setCell ⟨b, 9, none⟩ (.int .i64 x)) b f g0 g1 g2 g3 g4 g5 g6 g7 x :=
  ⟨(World.cell?_setCell_other _ _ _ _ (addr_ne _ _ _ (by omega))).trans h.c0, (World.cell?_setCell_other _ _ _ _ (addr_ne _ _ _ (by omega))).trans h.c1, (World.cell?_setCell_other _ _ _ _ (addr_ne _ _ _ (by omega))).trans h.c2, (World.cell?_setCell_other _ _ _ _ (addr_ne _ _ _ (by omega))).trans h.c3, (World.cell?_setCell_other _ _ _ _ (addr_ne _ _ _ (by omega))).trans h.c4, (World.cell?_setCell_other _ _ _ _ (addr_ne _ _ _ (by omega))).trans h.c5, (World.cell?_setCell_other _ _ _ _ (addr_ne _ _ _ (by omega))).trans h.c6, (World.cell?_setCell_other _ _ _ _ (addr_ne _ _ _ (by omega))).trans h.c7, (World.cell?_setCell_other _ _ _ _ (addr_ne _ _ _ (by omega))).trans h.c8, World.cell?_setCell_same _ _ _ h.c9, fun j => by rw [World.frozen?_setCell]; exact h.fz j⟩
def set10 (w : World) (b : Nat) (x0 x1 x2 x3 x4 x5 x6 x7 x8 x9 : Int) : World := ((((((((((w.setCell ⟨b, 0, none⟩ (.int .i8 x0)).setCell ⟨b, 1, none⟩ (.int .u16 x1)).setCell ⟨b, 2, none⟩ (.int .u16 x2)).setCell ⟨b, 3, none⟩ (.int .u16 x3)).setCell ⟨b, 4, none⟩ (.int .u16 x4)).setCell ⟨b, 5, none⟩ (.int .u16 x5)).setCell ⟨b, 6, none⟩ (.int .u16 x6)).setCell ⟨b, 7, none⟩ (.int .u16 x7)).setCell ⟨b, 8, none⟩ (.int .u16 x8)).setCell ⟨b, 9, none⟩ (.int .i64 x9))
theorem A10.all {w : World} {b : Nat} {f g0 g1 g2 g3 g4 g5 g6 g7 p : Int} (h : A10 w b f g0 g1 g2 g3 g4 g5 g6 g7 p) (x0 x1 x2 x3 x4 x5 x6 x7 x8 x9 : Int) : A10 (set10 w b x0 x1 x2 x3 x4 x5 x6 x7 x8 x9) b x0 x1 x2 x3 x4 x5 x6 x7 x8 x9 := ((((((((((h.set0 x0).set1 x1).set2 x2).set3 x3).set4 x4).set5 x5).set6 x6).set7 x7).set8 x8).set9 x9)
theorem A10.block {w w' : World} {b : Nat} {f g0 g1 g2 g3 g4 g5 g6 g7 p : Int} (h : A10 w b f g0 g1 g2 g3 g4 g5 g6 g7 p) (hb : w'.heap[b]? = w.heap[b]?) : A10 w' b f g0 g1 g2 g3 g4 g5 g6 g7 p :=
  ⟨(World.cell?_of_block (a := ⟨b, 0, none⟩) hb).trans h.c0, (World.cell?_of_block (a := ⟨b, 1, none⟩) hb).trans h.c1, (World.cell?_of_block (a := ⟨b, 2, none⟩) hb).trans h.c2, (World.cell?_of_block (a := ⟨b, 3, none⟩) hb).trans h.c3, (World.cell?_of_block (a := ⟨b, 4, none⟩) hb).trans h.c4, (World.cell?_of_block (a := ⟨b, 5, none⟩) hb).trans h.c5, (World.cell?_of_block (a := ⟨b, 6, none⟩) hb).trans h.c6, (World.cell?_of_block (a := ⟨b, 7, none⟩) hb).trans h.c7, (World.cell?_of_block (a := ⟨b, 8, none⟩) hb).trans h.c8, (World.cell?_of_block (a := ⟨b, 9, none⟩) hb).trans h.c9, fun j => (World.frozen?_of_block (a := ⟨b, j, none⟩) hb).trans (h.fz j)⟩
def Ad.zero : Ad := ⟨0, 0, 0, 0, 0, 0, 0, 0, 0, 0⟩
theorem g8_new (g0 g1 g2 g3 g4 g5 g6 g7 : Int) (w : World) (t : TypeId) : G8 (w.alloc (Obj.cells #[.int .u16 g0, .int .u16 g1, .int .u16 g2, .int .u16 g3, .int .u16 g4, .int .u16 g5, .int .u16 g6, .int .u16 g7] t)) w.heap.size g0 g1 g2 g3 g4 g5 g6 g7 := by
  constructor
  all_goals first | (rw [World.cell?_alloc_new]; rfl) | (intro j; exact World.frozen?_alloc_new _ _ _ _)
end Go.Proofs.YtciohjgcndgiaaaGreatDoor.R2
namespace Go.Proofs.YtciohjgcndgiaaaGreatDoor.R2.P
theorem join_two (c : UInt8) (x y : List UInt8) (r : List (List UInt8)) : Lib.join (x :: y :: r) [c] = x ++ c :: Lib.join (y :: r) [c] := by
  rw [Lib.join_cons, Lib.join_cons]
  simp [Lib.joinTail]
theorem hexC_colon : ∀ d, d < 16 → hexC d ≠ 58 := by decide
theorem hexF_colon : ∀ (k n : Nat), (58 : UInt8) ∉ hexF k n
  | 0, n => by
    rw [hexF, List.mem_singleton]
    exact fun e => hexC_colon _ (by omega) e.symm
  | k + 1, n => by
    unfold hexF
    split
    · rw [List.mem_singleton]; exact fun e => hexC_colon _ (by omega) e.symm
    · rw [List.mem_append, List.mem_singleton, not_or]
      exact ⟨hexF_colon k _, fun e => hexC_colon _ (by omega) e.symm⟩
theorem hexD_ok (g : Nat) : hexD g ≠ [] ∧ (58 : UInt8) ∉ hexD g := by
  refine ⟨fun e => ?_, hexF_colon 3 g⟩
  have hl := hexD_len g
  rw [e] at hl; simp at hl
theorem dec1 (u : Nat) (h : u < 10) : Lib.decDigits u = [UInt8.ofNat (48 + u)] := by rw [Lib.decDigits, dif_pos h]
theorem dec2 (u : Nat) (h : 10 ≤ u) : Lib.decDigits u = Lib.decDigits (u / 10) ++ [UInt8.ofNat (48 + u % 10)] := by rw [Lib.decDigits, dif_neg (by omega)]
end Go.Proofs.YtciohjgcndgiaaaGreatDoor.R2.P
namespace Go.Proofs.YtciohjgcndgiaaaGreatDoor.R2
open Go.RowKit
/-- A row of addresses, wherever it lies; nothing is asked of an empty one's address. -/
def RowAt (w : World) (a : Option Addr) (l : List Ad) : Prop := 0 < l.length → ∃ b o, a = some ⟨b, o, none⟩ ∧ b < w.heap.size ∧ AdsAt w b o l
theorem RowAt.below {w w' : World} {a : Option Addr} {l : List Ad} (h : RowAt w a l) (hb : Below w.heap.size w w') : RowAt w' a l := fun hl => by
  obtain ⟨b, o, h1, h2, h3⟩ := h hl
  exact ⟨b, o, h1, Nat.lt_of_lt_of_le h2 hb.size, h3.below hb h2⟩
end Go.Proofs.YtciohjgcndgiaaaGreatDoor.R2
namespace Go.Proofs.YtciohjgcndgiaaaGreatDoor.R2.P
def rowP (l : List Ad) : Option (List UInt8) := if 16 < l.length ∨ l.all mayP = false then none else some (Lib.join (l.map textP) [32])
theorem text_len (a : Ad) (ha : a.Ok) (hm : mayP a = true) : (textP a).length ≤ 125 := by
  obtain ⟨_, hp1, hp2⟩ := mayP_fam a hm
  obtain ⟨x0, x1, x2, x3, x4, x5, x6, x7, e0, e1, e2, e3, e4, e5, e6, e7, hns, hle⟩ := a.nats ha
  have h1 := hostP_len a.f x0 x1 x2 x3 x4 x5 x6 x7 (hle x0 (by rw [hns]; simp)) (hle x1 (by rw [hns]; simp))
  have h2 := dec_len a.p.toNat (by omega)
  unfold textP
  rw [hns]
  simp only [List.length_append, List.length_cons]; omega
theorem join_le (c : UInt8) (m : Nat) : ∀ ts : List (List UInt8), (∀ t ∈ ts, t.length ≤ m) → (Lib.join ts [c]).length ≤ ts.length * (m + 1)
  | [], _ => by simp [Lib.join_nil]
  | [x], h => by
    rw [Lib.join_one]
    have := h x (by simp)
    simp; omega
  | x :: y :: r, h => by
    have h1 := h x (by simp)
    have h2 := join_le c m (y :: r) (fun t ht => h t (List.mem_cons_of_mem _ ht))
    rw [join_two]
    simp only [List.length_append, List.length_cons, Nat.add_mul] at h2 ⊢
    omega
end Go.Proofs.YtciohjgcndgiaaaGreatDoor.R2.P
namespace Go.Proofs.YtciohjgcndgiaaaGreatDoor.R2
open Go.RowKit
def P.rowV (o : Option (List UInt8)) : Value := .tuple #[.string ⟨(o.getD []).toArray⟩, .int .i64 (if o.isSome then 0 else 20)]
theorem P.rowP_no (l : List Ad) (h : 16 < l.length ∨ l.all mayP = false) : P.rowP l = none := by unfold P.rowP; rw [if_pos h]
theorem P.rowP_yes (l : List Ad) (h : l.length ≤ 16) (h2 : l.all mayP = true) : P.rowP l = some (Lib.join (l.map P.textP) [32]) := by
  unfold P.rowP
  rw [if_neg]
  rintro (h' | h')
  · omega
  · rw [h2] at h'; cases h'
theorem P.row_len (l : List Ad) (h : l.length ≤ 16) (h2 : l.all mayP = true) (hok : ∀ x ∈ l, x.Ok) : (Lib.join (l.map P.textP) [32]).length ≤ 2016 := by
  have h1 := P.join_le 32 125 (l.map P.textP) (fun t ht => by
    rw [List.mem_map] at ht
    obtain ⟨x, hx, rfl⟩ := ht
    exact P.text_len x (hok x hx) (List.all_eq_true.1 h2 x hx))
  rw [List.length_map] at h1
  omega
theorem all_take (l : List Ad) (k : Nat) (x : Ad) (hx : l[k]? = some x) (h : (l.take k).all mayP = true) (h2 : mayP x = true) : (l.take (k + 1)).all mayP = true := by
  rw [List.take_add_one, hx, List.all_append, h]; simp [h2]
set_option maxHeartbeats 8000000 in
set_option maxRecDepth 1000000 in
theorem row_any (l : List Ad) (a : Option Addr) (c : Nat) (w : World) (hl : l.length ≤ 100000) (hA : RowAt w a l) (hok : ∀ x ∈ l, x.Ok) (hE : Env w) :
    Calls Tryz.prog 54 #[.slice a l.length c] w fun e w' => e = .returned (P.rowV (P.rowP l)) ∧ Below w.heap.size w w' := by
  obtain ⟨i0, hi, hz0, hz1, hz2⟩ := info_parts iStr
  have HE := Lib.hid hE
  have HA := Lib.hid hA
  have HO := Lib.hid hok
  clear hA hE hok
  by_cases h16 : 16 < l.length
  · have HP := Lib.hid (P.rowP_no l (.inl h16))
    go_enter Tryz.func54, Tryz.ntmps54
    go_wp2_with fail
    go_ret2
    rw [HP.out]
    exact ⟨rfl, Below.refl _ _⟩
  · go_enter Tryz.func54, Tryz.ntmps54
    go_wp2_with fail
    go_loopw [4, 14] (fun u4 i wr => ∃ k : Nat, i = .int .i64 k ∧ k ≤ l.length ∧ Hid ((l.take k).all mayP = true) ∧ Below w.heap.size w wr ∧ wr.ownsRow w.heap.size 9 1 u4 k (P.strs ((l.take k).map P.textP))) (fun _ i _ => l.length - (intOf i).toNat)
    case atStart => exact ⟨0, rfl, by omega, Lib.hid rfl, Below.refl _ _, World.ownsRow_nil _ _ _ _⟩
    case round =>
      obtain ⟨k, rfl, hk, hall, hbw, hown⟩ := hrel
      have hbs := hbw.size
      by_cases hlt : k < l.length
      · obtain ⟨b, o, rfl, hb, hat⟩ := (HA.out.below hbw) (by omega)
        obtain ⟨x, hx⟩ : ∃ x, l[k]? = some x := ⟨_, List.getElem?_eq_getElem hlt⟩
        obtain ⟨c0, c1, c2, c3, c4, c5, c6, c7, c8, c9⟩ := hat.cells k x hx
        have HX := Lib.hid (HO.out x (List.mem_of_getElem? hx))
        cases hm : mayP x with
        | false =>
          have HP := Lib.hid (P.rowP_no l (.inr (by
            cases h : l.all mayP with
            | false => rfl
            | true => have := List.all_eq_true.1 h x (List.mem_of_getElem? hx); rw [hm] at this; cases this)))
          have HN := Lib.hid (fun W => text_no x W hm)
          simp only [Ad.v, Ad.enc] at HN
          have hb1 : Below w.heap.size w (wr.alloc (Obj.cells #[.int .i8 x.f, .int .u16 x.g0, .int .u16 x.g1, .int .u16 x.g2, .int .u16 x.g3, .int .u16 x.g4, .int .u16 x.g5, .int .u16 x.g6, .int .u16 x.g7, .int .i64 x.p] 59)) := hbw.alloc hbs _
          clear hx hat hm
          go_wp2_with fail
          with_reducible refine (HN.out (wr.alloc (Obj.cells #[.int .i8 x.f, .int .u16 x.g0, .int .u16 x.g1, .int .u16 x.g2, .int .u16 x.g3, .int .u16 x.g4, .int .u16 x.g5, .int .u16 x.g6, .int .u16 x.g7, .int .i64 x.p] 59))).mono ?_
          rintro e w2 ⟨rfl, hb2⟩
          go_wp2_with fail
          go_ret2
          rw [HP.out]
          exact ⟨rfl, hb1.trans (hb2.mono hb1.size)⟩
        | true =>
          have HY := Lib.hid (fun W h => text_yes x W hm HX.out h)
          simp only [Ad.v, Ad.enc] at HY
          have HT := Lib.hid (show P.strs ((l.take (k + 1)).map P.textP) = P.strs ((l.take k).map P.textP) ++ [.string ⟨(P.textP x).toArray⟩] by
            rw [List.take_add_one, hx]; simp [P.strs])
          have HAll := Lib.hid (all_take l k x hx hall.out hm)
          have hb1 : Below w.heap.size w (wr.alloc (Obj.cells #[.int .i8 x.f, .int .u16 x.g0, .int .u16 x.g1, .int .u16 x.g2, .int .u16 x.g3, .int .u16 x.g4, .int .u16 x.g5, .int .u16 x.g6, .int .u16 x.g7, .int .i64 x.p] 59)) := hbw.alloc hbs _
          clear hx hat hm
          generalize (⟨(P.textP x).toArray⟩ : ByteArray) = S at *
          go_wp2_with fail
          have HC := HY.out (wr.alloc (Obj.cells #[.int .i8 x.f, .int .u16 x.g0, .int .u16 x.g1, .int .u16 x.g2, .int .u16 x.g3, .int .u16 x.g4, .int .u16 x.g5, .int .u16 x.g6, .int .u16 x.g7, .int .i64 x.p] 59)) (HE.out.below hb1)
          with_reducible refine HC.mono ?_
          clear HC
          rintro e w2 ⟨rfl, hb2⟩
          have hown2 := own_below' (hown.alloc _) hb2
          have hb3 := hb1.trans (hb2.mono hb1.size)
          have hbs3 := hb3.size
          go_wp2_with (at_builtin; refine wpList_append_own _ rfl _ _ 115 rfl w.heap.size 9 i0 (.string ByteArray.empty) 1 16 Tryz.underlying115 hi hz0 hz1 hz2 rfl (by decide) _ _ _ rfl (hown2.alloc _) ⟨w2.heap.size, 0, none⟩ 1 1 _ rfl rfl (cell_one_new _ _ _) (by intro u hu; simp at hu; subst hu; rfl) (by unfold maxLen; omega) (by omega) (by simp; omega) ?_; intro v' w' hown' hgrow' _)
          go_roundw
          case rel => exact ⟨k + 1, by go_num, by omega, HAll, (hb3.alloc hb3.size _).grown hgrow' (by simp; omega) (fun k hk => (hown2.lt k hk).1), by rw [HT.out]; exact hown'⟩
          case measure => simp [intOf]; omega
      · obtain rfl : k = l.length := by omega
        have hall2 := hall.out
        rw [List.take_length] at hall2
        have HP := Lib.hid (show P.rowV (P.rowP l) = .tuple #[.string ⟨(Lib.join (l.map P.textP) (⟨#[32]⟩ : ByteArray).data.toList).toArray⟩, .int .i64 0] by rw [P.rowP_yes l (by omega) hall2]; rfl)
        have hlen := P.row_len l (by omega) hall2 HO.out
        have hown' : wr.ownsRow w.heap.size 9 1 u4 (l.map P.textP).length (P.strs (l.map P.textP)) := by rw [List.length_map]; rw [List.take_length] at hown; exact hown
        have HJ := Lib.hid (join_row (l.map P.textP) ⟨#[32]⟩ wr w.heap.size u4 hown' (by simp; omega) (by
          show (Lib.join (l.map P.textP) [32]).length ≤ _
          omega))
        generalize (⟨(Lib.join (l.map P.textP) (⟨#[32]⟩ : ByteArray).data.toList).toArray⟩ : ByteArray) = S at *
        clear hown hown' hlen hall hall2
        go_wp2_with fail
        with_reducible refine HJ.out.mono ?_
        rintro e w1 ⟨rfl, hb1⟩
        go_wp2_with fail
        go_ret2
        exact ⟨by rw [HP.out]; rfl, hbw.trans (hb1.mono hbs)⟩
end Go.Proofs.YtciohjgcndgiaaaGreatDoor.R2
namespace Go.Proofs.YtciohjgcndgiaaaGreatDoor.R2.P
theorem join_snoc (c : UInt8) : ∀ (ts : List (List UInt8)) (x : List UInt8), ts ≠ [] → Lib.join (ts ++ [x]) [c] = Lib.join ts [c] ++ c :: x
  | [], _, h => absurd rfl h
  | [y], x, _ => by rw [List.singleton_append, join_two, Lib.join_one, Lib.join_one]
  | y :: z :: r, x, _ => by
    rw [List.cons_append, List.cons_append, join_two, join_two, ← List.cons_append, join_snoc c (z :: r) x (by simp)]
    simp
def dg10 (n : Nat) : List UInt8 := if n = 0 then [] else Lib.decDigits n
def dg16 (n : Nat) : List UInt8 := if n = 0 then [] else hexD n
theorem hexF_stay : ∀ (k n : Nat), n < 16 ^ (k + 1) → hexF (k + 1) n = hexF k n
  | 0, n, h => by
    have h16 : n < 16 := by simpa using h
    rw [hexF_small _ _ h16, hexF_small _ _ h16]
  | k + 1, n, h => by
    by_cases h16 : n < 16
    · rw [hexF_small _ _ h16, hexF_small _ _ h16]
    · rw [hexF, if_neg h16, hexF_stay k (n / 16) (by rw [Nat.pow_succ] at h; omega)]
      conv => rhs; rw [hexF, if_neg h16]
theorem hexC_low (d : Nat) (h : d < 10) : hexC d = UInt8.ofNat (48 + d) := by rw [hexC, if_pos h]
theorem dg10_step (n : Nat) (h : n ≠ 0) : dg10 n = dg10 (n / 10) ++ [hexC (n % 10)] := by
  rw [dg10, if_neg h, hexC_low _ (Nat.mod_lt _ (by omega))]
  by_cases h10 : n < 10
  · rw [dec1 n h10, dg10, if_pos (by omega), Nat.mod_eq_of_lt h10]; rfl
  · rw [dec2 n (by omega), dg10, if_neg (by omega)]
theorem dg16_step (n : Nat) (h : n ≠ 0) (hn : n ≤ 65535) : dg16 n = dg16 (n / 16) ++ [hexC (n % 16)] := by
  rw [dg16, if_neg h]
  by_cases h16 : n < 16
  · rw [hexD, hexF_small _ _ h16, dg16, if_pos (by omega), Nat.mod_eq_of_lt h16]; rfl
  · rw [dg16, if_neg (by omega), hexD, hexD, hexF, if_neg h16, hexF_stay 2 (n / 16) (by omega)]
theorem hexD_zero : hexD 0 = [48] := by decide
theorem dec_zero : Lib.decDigits 0 = [48] := by rw [dec1 0 (by omega)]; rfl
def nz : List Nat → Nat
  | [] => 0
  | g :: l => if g = 0 then nz l + 1 else 0
/-- The first longest run of noughts, two at least: where it is, how long. -/
def runR : List Nat → Nat → Int → Nat → Int × Nat
  | [], _, a, m => (a, m)
  | g :: l, i, a, m => if m < nz (g :: l) then runR l (i + 1) i (nz (g :: l)) else runR l (i + 1) a m
def nzB : List Bool → Nat
  | [] => 0
  | b :: l => if b then nzB l + 1 else 0
def runRB : List Bool → Nat → Int → Nat → Int × Nat
  | [], _, a, m => (a, m)
  | b :: l, i, a, m => if m < nzB (b :: l) then runRB l (i + 1) i (nzB (b :: l)) else runRB l (i + 1) a m
def runFB : List Bool → Nat → Nat → Nat → Nat → Nat × Nat
  | [], _, _, f, t => (f, t)
  | g :: l, i, b, f, t => if g then (if 2 ≤ i + 1 - b ∧ t - f < i + 1 - b then runFB l (i + 1) b b (i + 1) else runFB l (i + 1) b f t) else runFB l (i + 1) (i + 1) f t
theorem nz_map : ∀ l : List Nat, nz l = nzB (l.map (· == 0))
  | [] => rfl
  | g :: l => by
    rw [nz, List.map_cons, nzB, nz_map l]
    by_cases h : g = 0 <;> simp [h]
theorem runR_map : ∀ (l : List Nat) (i : Nat) (a : Int) (m : Nat), runR l i a m = runRB (l.map (· == 0)) i a m
  | [], _, _, _ => rfl
  | g :: l, i, a, m => by
    rw [runR, List.map_cons, runRB, nz_map (g :: l), List.map_cons, runR_map l, runR_map l]
theorem runF_map : ∀ (l : List Nat) (i b f t : Nat), runF l i b f t = runFB (l.map (· == 0)) i b f t
  | [], _, _, _, _ => rfl
  | g :: l, i, b, f, t => by
    rw [runF, List.map_cons, runFB, runF_map l, runF_map l, runF_map l]
    by_cases h : g = 0 <;> simp [h]
def runT (l : List Bool) : Bool := runRB l 0 (-1) 1 == (if (runFB l 0 0 0 0).1 = (runFB l 0 0 0 0).2 then (-1, 1) else (((runFB l 0 0 0 0).1 : Int), (runFB l 0 0 0 0).2 - (runFB l 0 0 0 0).1))
theorem runT_all : ∀ b0 b1 b2 b3 b4 b5 b6 b7 : Bool, runT [b0, b1, b2, b3, b4, b5, b6, b7] = true := by decide +kernel
theorem run_same (gs : List Nat) (h : gs.length = 8) : runR gs 0 (-1) 1 = if (runP gs).1 = (runP gs).2 then (-1, 1) else (((runP gs).1 : Int), (runP gs).2 - (runP gs).1) := by
  obtain ⟨y0, y1, y2, y3, y4, y5, y6, y7, rfl⟩ := list8 gs h
  have := runT_all (y0 == 0) (y1 == 0) (y2 == 0) (y3 == 0) (y4 == 0) (y5 == 0) (y6 == 0) (y7 == 0)
  rw [runT, beq_iff_eq] at this
  rw [runR_map, runP, runF_map]
  simpa only [List.map_cons, List.map_nil] using this
theorem tellG_nil : tellG [] = [] := by simp [tellG, Lib.join_nil]
theorem tellG_one (g : Nat) : tellG [g] = hexD g := by rw [tellG, List.map_cons, List.map_nil, Lib.join_cons]; simp [Lib.joinTail]
theorem tellG_snoc (l : List Nat) (g : Nat) (h : l ≠ []) : tellG (l ++ [g]) = tellG l ++ 58 :: hexD g := by
  rw [tellG, List.map_append, List.map_cons, List.map_nil, join_snoc 58 _ _ (by simpa using h)]; rfl
theorem hexD_snoc (g : Nat) : ∃ x b, hexD g = x ++ [b] ∧ b ≠ 58 := by
  obtain ⟨h1, h2⟩ := hexD_ok g
  refine ⟨(hexD g).dropLast, (hexD g).getLast h1, (List.dropLast_concat_getLast h1).symm, ?_⟩
  intro e
  exact h2 (e ▸ List.getLast_mem h1)
theorem tellG_last (l : List Nat) (h : l ≠ []) : ∃ x b, tellG l = x ++ [b] ∧ b ≠ 58 := by
  obtain ⟨y, b, hy, hb⟩ := hexD_snoc (l.getLast h)
  have e : l = l.dropLast ++ [l.getLast h] := (List.dropLast_concat_getLast h).symm
  by_cases h0 : l.dropLast = []
  · rw [h0, List.nil_append] at e
    refine ⟨y, b, ?_, hb⟩
    rw [← hy, ← tellG_one]
    exact congrArg tellG e
  · refine ⟨tellG l.dropLast ++ 58 :: y, b, ?_, hb⟩
    have h2 := tellG_snoc l.dropLast (l.getLast h) h0
    rw [← e, hy] at h2
    rw [h2]; simp
/-- What has been told of eight groups ahead of the i-th, if those from F on till T are left out. -/
def sixS (gs : List Nat) (F T i : Nat) : List UInt8 := if i ≤ F then tellG (gs.take i) else tellG (gs.take F) ++ (58 :: 58 :: tellG ((gs.drop T).take (i - T)))
theorem sixS_zero (gs : List Nat) (F T : Nat) : sixS gs F T 0 = [] := by rw [sixS, if_pos (by omega), List.take_zero, tellG_nil]
theorem sixS_jump (gs : List Nat) (F T : Nat) (h : F < T) : sixS gs F T T = sixS gs F T F ++ [58, 58] := by
  rw [sixS, if_neg (by omega), sixS, if_pos (by omega), Nat.sub_self, List.take_zero, tellG_nil]
/-- What comes behind: a group, with a colon ahead of it unless there is nothing, or a colon. -/
def sixA (s : List UInt8) (g : Nat) : List UInt8 := if s = [] ∨ s.getLast? = some 58 then hexD g else 58 :: hexD g
theorem sixA_tell (l : List Nat) (g : Nat) : tellG (l ++ [g]) = tellG l ++ sixA (tellG l) g := by
  by_cases h : l = []
  · subst h; rw [tellG_nil, sixA, if_pos (Or.inl rfl)]; simpa using tellG_one g
  · obtain ⟨x, b, hx, hb⟩ := tellG_last l h
    rw [tellG_snoc l g h, sixA, if_neg]
    rw [hx]; simp [hb]
theorem sixS_step (gs : List Nat) (F T i g : Nat) (h : i < F ∨ (F < T ∧ T ≤ i)) (hg : gs[i]? = some g) : sixS gs F T (i + 1) = sixS gs F T i ++ sixA (sixS gs F T i) g := by
  rcases h with h | ⟨h1, h2⟩
  · rw [sixS, if_pos (by omega), sixS, if_pos (by omega), List.take_add_one, hg]
    exact sixA_tell _ _
  · have e : (gs.drop T).take (i + 1 - T) = (gs.drop T).take (i - T) ++ [g] := by
      rw [show i + 1 - T = (i - T) + 1 by omega, List.take_add_one, List.getElem?_drop, show T + (i - T) = i by omega, hg]; rfl
    rw [sixS, if_neg (by omega), sixS, if_neg (by omega), e]
    by_cases h0 : (gs.drop T).take (i - T) = []
    · rw [h0, List.nil_append, tellG_one, tellG_nil, sixA, if_pos]
      · simp
      · exact Or.inr (by simp)
    · obtain ⟨x, b, hx, hb⟩ := tellG_last _ h0
      rw [tellG_snoc _ _ h0, sixA, if_neg]
      · simp
      · rw [hx, show tellG (gs.take F) ++ (58 :: 58 :: (x ++ [b])) = (tellG (gs.take F) ++ (58 :: 58 :: x)) ++ [b] by simp]
        rintro (h | h)
        · simp at h
        · rw [List.getLast?_concat] at h; exact hb (Option.some.inj h)
theorem sixS_none (gs : List Nat) (h8 : gs.length = 8) (h : (runP gs).1 = (runP gs).2) : sixS gs 8 0 8 = tell6 gs := by
  rw [sixS, if_pos (by omega), tell6, if_pos h, List.take_of_length_le (by omega)]
theorem sixS_some (gs : List Nat) (h8 : gs.length = 8) (h : (runP gs).1 ≠ (runP gs).2) : sixS gs (runP gs).1 (runP gs).2 8 = tell6 gs := by
  have := runP_le gs
  rw [sixS, if_neg (by omega), tell6, if_neg h, List.take_of_length_le (l := gs.drop _) (by rw [List.length_drop]; omega)]
theorem sixS_len (gs : List Nat) (F T i : Nat) (h8 : gs.length = 8) : (sixS gs F T i).length ≤ 82 := by
  have a := tellG_len (gs.take i)
  have b := tellG_len (gs.take F)
  have c := tellG_len ((gs.drop T).take (i - T))
  rw [List.length_take] at a b c
  rw [List.length_drop] at c
  unfold sixS
  split
  · omega
  · simp only [List.length_append, List.length_cons]
    omega
end Go.Proofs.YtciohjgcndgiaaaGreatDoor.R2.P
namespace Go.Proofs.YtciohjgcndgiaaaGreatDoor.R2
open Go.RowKit
theorem lo_extract : ∀ d, d < 16 → (⟨List.toArray (48 :: 49 :: 50 :: 51 :: 52 :: 53 :: 54 :: 55 :: 56 :: 57 :: 97 :: 98 :: 99 :: 100 :: 101 :: 102 :: [])⟩ : ByteArray).extract d (d + 1) = ⟨#[P.hexC d]⟩ := by
  intro d hd
  rcases (show d = 0 ∨ d = 1 ∨ d = 2 ∨ d = 3 ∨ d = 4 ∨ d = 5 ∨ d = 6 ∨ d = 7 ∨ d = 8 ∨ d = 9 ∨ d = 10 ∨ d = 11 ∨ d = 12 ∨ d = 13 ∨ d = 14 ∨ d = 15 by omega) with rfl | rfl | rfl | rfl | rfl | rfl | rfl | rfl | rfl | rfl | rfl | rfl | rfl | rfl | rfl | rfl <;> rfl
theorem P.dg_len (D : Nat → List UInt8) (B : Nat) (hB : 2 ≤ B) (h0 : D 0 = []) (hs : ∀ m, m ≠ 0 → m ≤ 65535 → D m = D (m / B) ++ [P.hexC (m % B)]) : ∀ k m, m < 2 ^ k → m ≤ 65535 → (D m).length ≤ k
  | 0, m, h, _ => by have : m = 0 := by simpa using h
                     rw [this, h0]; simp
  | k + 1, m, h, h6 => by
    by_cases hm : m = 0
    · rw [hm, h0]; simp
    · rw [hs m hm h6]
      have hd : m / B ≤ m / 2 := Nat.div_le_div_left hB (by omega)
      have := P.dg_len D B hB h0 hs k (m / B) (by rw [Nat.pow_succ] at h; omega) (by omega)
      simp; omega
set_option maxHeartbeats 1000000 in
theorem digits10 (n : Nat) (w : World) (hn : n ≤ 65535) : Calls Tryz.prog 56 #[.int .i64 n, .int .i64 10] w fun e w' => e = .returned (.string ⟨(Lib.decDigits n).toArray⟩) ∧ Below w.heap.size w w' := by
  by_cases hz : n = 0
  · subst hz
    have HZ := Lib.hid P.dec_zero
    go_enter Tryz.func56, Tryz.ntmps56
    go_wp2_with fail
    go_ret
    exact ⟨by rw [HZ.out]; rfl, Below.refl _ _⟩
  · have hz2 : ((n : Nat) : Int) ≠ 0 := by omega
    have hz3 : (((n : Nat) : Int) == 0) = false := by simp [hz]
    have HL := Lib.hid (P.dg_len P.dg10 10 (by omega) rfl (fun m hm h6 => P.dg10_step m hm))
    have HF := Lib.hid (show P.dg10 n = Lib.decDigits n by unfold P.dg10; rw [if_neg hz])
    clear hz
    go_enter Tryz.func56, Tryz.ntmps56
    go_wp2_with fail
    go_loopw [0, 5] (fun u0 u5 wr => ∃ (m q : Nat) (S : ByteArray), u0 = .int .i64 m ∧ u5 = .string S ∧ m ≤ 65535 ∧ wr = w.drewN q ∧ S.size ≤ 20 ∧ Hid (P.dg10 m ++ S.data.toList = P.dg10 n)) (fun u0 _ _ => (intOf u0).toNat)
    case atStart => exact ⟨n, 0, ⟨#[]⟩, rfl, rfl, hn, rfl, by decide, Lib.hid (List.append_nil _)⟩
    case round =>
      obtain ⟨m, q, S, rfl, rfl, hm, rfl, hS, hE⟩ := hrel
      by_cases h0 : 0 < m
      · have hE2 : P.dg10 (m / 10) ++ (P.hexC (m % 10) :: S.data.toList) = P.dg10 n := by
          rw [← hE.out, P.dg10_step m (by omega)]; simp
        have hS2 : S.size + 1 ≤ 20 := by
          have h1 := congrArg List.length hE2
          have h2 := HL.out 16 n (by omega) (by omega)
          simp only [List.length_append, List.length_cons] at h1
          have h3 : S.data.toList.length = S.size := by simp
          omega
        have HE2 := Lib.hid hE2
        clear hE2 hE
        go_wp2_with fail
        go_quiet (fail)
        go_wp2_with fail
        rw [lo_extract (m % 10) (by omega)]
        refine ⟨⟨m / 10, _, _, by go_num, rfl, by omega, rfl, by rw [ByteArray.size_append]; show 1 + S.size ≤ 20; omega, Lib.hid (by rw [← HE2.out, show (⟨#[P.hexC (m % 10)]⟩ ++ S : ByteArray).data.toList = P.hexC (m % 10) :: S.data.toList by simp])⟩, by simp [intOf]; omega⟩
      · obtain rfl : m = 0 := by omega
        have hE3 := hE.out
        have HE3 := Lib.hid (show S = ⟨(Lib.decDigits n).toArray⟩ by
          rw [← HF.out, ← hE.out]; simp [show P.dg10 0 = [] from rfl])
        clear hE hE3
        go_wp2_with fail
        go_ret
        exact ⟨by rw [HE3.out]; rfl, below_drewN (Below.refl _ _) q⟩
set_option maxHeartbeats 1000000 in
theorem digits16 (n : Nat) (w : World) (hn : n ≤ 65535) : Calls Tryz.prog 56 #[.int .i64 n, .int .i64 16] w fun e w' => e = .returned (.string ⟨(P.hexD n).toArray⟩) ∧ Below w.heap.size w w' := by
  by_cases hz : n = 0
  · subst hz
    have HZ := Lib.hid P.hexD_zero
    go_enter Tryz.func56, Tryz.ntmps56
    go_wp2_with fail
    go_ret
    exact ⟨by rw [HZ.out]; rfl, Below.refl _ _⟩
  · have hz2 : ((n : Nat) : Int) ≠ 0 := by omega
    have hz3 : (((n : Nat) : Int) == 0) = false := by simp [hz]
    have HL := Lib.hid (P.dg_len P.dg16 16 (by omega) rfl (fun m hm h6 => P.dg16_step m hm h6))
    have HF := Lib.hid (show P.dg16 n = P.hexD n by unfold P.dg16; rw [if_neg hz])
    clear hz
    go_enter Tryz.func56, Tryz.ntmps56
    go_wp2_with fail
    go_loopw [0, 5] (fun u0 u5 wr => ∃ (m q : Nat) (S : ByteArray), u0 = .int .i64 m ∧ u5 = .string S ∧ m ≤ 65535 ∧ wr = w.drewN q ∧ S.size ≤ 20 ∧ Hid (P.dg16 m ++ S.data.toList = P.dg16 n)) (fun u0 _ _ => (intOf u0).toNat)
    case atStart => exact ⟨n, 0, ⟨#[]⟩, rfl, rfl, hn, rfl, by decide, Lib.hid (List.append_nil _)⟩
    case round =>
      obtain ⟨m, q, S, rfl, rfl, hm, rfl, hS, hE⟩ := hrel
      by_cases h0 : 0 < m
      · have hE2 : P.dg16 (m / 16) ++ (P.hexC (m % 16) :: S.data.toList) = P.dg16 n := by
          rw [← hE.out, P.dg16_step m (by omega) hm]; simp
        have hS2 : S.size + 1 ≤ 20 := by
          have h1 := congrArg List.length hE2
          have h2 := HL.out 16 n (by omega) (by omega)
          simp only [List.length_append, List.length_cons] at h1
          have h3 : S.data.toList.length = S.size := by simp
          omega
        have HE2 := Lib.hid hE2
        clear hE2 hE
        go_wp2_with fail
        go_quiet (fail)
        go_wp2_with fail
        rw [lo_extract (m % 16) (by omega)]
        refine ⟨⟨m / 16, _, _, by go_num, rfl, by omega, rfl, by rw [ByteArray.size_append]; show 1 + S.size ≤ 20; omega, Lib.hid (by rw [← HE2.out, show (⟨#[P.hexC (m % 16)]⟩ ++ S : ByteArray).data.toList = P.hexC (m % 16) :: S.data.toList by simp])⟩, by simp [intOf]; omega⟩
      · obtain rfl : m = 0 := by omega
        have hE3 := hE.out
        have HE3 := Lib.hid (show S = ⟨(P.hexD n).toArray⟩ by
          rw [← HF.out, ← hE.out]; simp [show P.dg16 0 = [] from rfl])
        clear hE hE3
        go_wp2_with fail
        go_ret
        exact ⟨by rw [HE3.out]; rfl, below_drewN (Below.refl _ _) q⟩
theorem P.nz_end (L : List Nat) (i : Nat) (h : L.length ≤ i) : P.nz (L.drop i) = 0 := by rw [List.drop_eq_nil_of_le h]; rfl
theorem P.nz_zero (L : List Nat) (i : Nat) (h : L[i]? = some 0) : P.nz (L.drop i) = P.nz (L.drop (i + 1)) + 1 := by
  obtain ⟨hlt, he⟩ := List.getElem?_eq_some_iff.1 h
  rw [List.drop_eq_getElem_cons hlt, he, P.nz, if_pos rfl]
theorem P.nz_more (L : List Nat) (i g : Nat) (h : L[i]? = some g) (hg : g ≠ 0) : P.nz (L.drop i) = 0 := by
  obtain ⟨hlt, he⟩ := List.getElem?_eq_some_iff.1 h
  rw [List.drop_eq_getElem_cons hlt, he, P.nz, if_neg hg]
theorem P.runR_end (L : List Nat) (i : Nat) (a : Int) (m : Nat) (h : L.length ≤ i) : P.runR (L.drop i) i a m = (a, m) := by rw [List.drop_eq_nil_of_le h]; rfl
theorem P.runR_yes (L : List Nat) (i : Nat) (a : Int) (m n : Nat) (h : i < L.length) (hn : P.nz (L.drop i) = n) (hm : m < n) : P.runR (L.drop i) i a m = P.runR (L.drop (i + 1)) (i + 1) i n := by
  rw [List.drop_eq_getElem_cons h] at hn ⊢
  rw [P.runR, hn, if_pos hm]
theorem P.runR_no (L : List Nat) (i : Nat) (a : Int) (m n : Nat) (h : i < L.length) (hn : P.nz (L.drop i) = n) (hm : ¬ m < n) : P.runR (L.drop i) i a m = P.runR (L.drop (i + 1)) (i + 1) a m := by
  rw [List.drop_eq_getElem_cons h] at hn ⊢
  rw [P.runR, hn, if_neg hm]
set_option maxHeartbeats 4000000 in
theorem run_any (x0 x1 x2 x3 x4 x5 x6 x7 : Nat) (w : World) :
    Calls Tryz.prog 75 #[.agg #[.int .u16 x0, .int .u16 x1, .int .u16 x2, .int .u16 x3, .int .u16 x4, .int .u16 x5, .int .u16 x6, .int .u16 x7]] w fun e w' =>
      e = .returned (.tuple #[.int .i64 (P.runR [x0, x1, x2, x3, x4, x5, x6, x7] 0 (-1) 1).1, .int .i64 ((P.runR [x0, x1, x2, x3, x4, x5, x6, x7] 0 (-1) 1).2 : Nat)]) ∧ Below w.heap.size w w' := by
  have hGS := gsAt_new x0 x1 x2 x3 x4 x5 x6 x7 w
  have hB0 : Below w.heap.size w (w.alloc (Obj.cells #[.int .u16 (x0 : Int), .int .u16 (x1 : Int), .int .u16 (x2 : Int), .int .u16 (x3 : Int), .int .u16 (x4 : Int), .int .u16 (x5 : Int), .int .u16 (x6 : Int), .int .u16 (x7 : Int)] 57)) := (Below.refl _ w).alloc (Nat.le_refl _) _
  have HL := Lib.hid (show [x0, x1, x2, x3, x4, x5, x6, x7].length = 8 from rfl)
  obtain ⟨L, hL⟩ : ∃ L, [x0, x1, x2, x3, x4, x5, x6, x7] = L := ⟨_, rfl⟩
  rw [hL] at hGS HL ⊢
  clear hL
  have HGS := Lib.hid hGS
  have HB0 := Lib.hid hB0
  clear hGS hB0
  go_enter Tryz.func75, Tryz.ntmps75
  go_wp2_with fail
  generalize hW : w.alloc (Obj.cells #[.int .u16 (x0 : Int), .int .u16 (x1 : Int), .int .u16 (x2 : Int), .int .u16 (x3 : Int), .int .u16 (x4 : Int), .int .u16 (x5 : Int), .int .u16 (x6 : Int), .int .u16 (x7 : Int)] 57) = W1 at *
  clear hW
  go_loop [4, 5, 6] (fun u4 u5 u6 => ∃ (i m : Nat) (a : Int), u6 = .int .i64 i ∧ u4 = .int .i64 a ∧ u5 = .int .i64 m ∧ i ≤ 8 ∧ 1 ≤ m ∧ m ≤ 8 ∧ -1 ≤ a ∧ a ≤ 8 ∧ Hid (P.runR (L.drop i) i a m = P.runR L 0 (-1) 1)) (fun _ _ u6 => 8 - (intOf u6).toNat)
  case atStart => exact ⟨0, 1, -1, rfl, rfl, rfl, by omega, by omega, by omega, by omega, by omega, Lib.hid rfl⟩
  case round =>
    obtain ⟨i, m, a, rfl, rfl, rfl, hi, hm1, hm8, ha1, ha8, hR⟩ := hrel
    by_cases h8 : i < 8
    · go_wp2_with fail
      go_loop [7] (fun u7 => ∃ n : Nat, u7 = .int .i64 n ∧ i + n ≤ 8 ∧ Hid (P.nz (L.drop i) = n + P.nz (L.drop (i + n)))) (fun u7 => 8 - (intOf u7).toNat)
      case atStart => exact ⟨0, rfl, by omega, Lib.hid (by simp)⟩
      case round =>
        obtain ⟨n, rfl, hin, hN⟩ := hrel
        by_cases hn8 : i + n < 8
        · obtain ⟨g, hg⟩ : ∃ g, L[i + n]? = some g := ⟨_, List.getElem?_eq_getElem (by rw [HL.out]; omega)⟩
          have hcg := HGS.out (i + n) g hg
          rw [Nat.zero_add] at hcg
          by_cases hg0 : g = 0
          · subst hg0
            have HN2 := Lib.hid (show P.nz (L.drop i) = (n + 1) + P.nz (L.drop (i + (n + 1))) by rw [hN.out, P.nz_zero L (i + n) hg]; rw [show i + (n + 1) = i + n + 1 by omega]; omega)
            clear hg
            go_wp2_with fail
            go_round
            case rel => exact ⟨n + 1, by go_num, by omega, HN2⟩
            case measure => simp [intOf]; omega
          · have HN2 := Lib.hid (show P.nz (L.drop i) = n by rw [hN.out, P.nz_more L (i + n) g hg hg0]; rfl)
            have hgb : (((g : Nat) : Int) == 0) = false := by simp [hg0]
            have hgd : decide (((g : Nat) : Int) = 0) = false := by simp [hg0]
            clear hg hg0
            by_cases hmn : m < n
            · have HR2 := Lib.hid (show P.runR (L.drop (i + 1)) (i + 1) i n = P.runR L 0 (-1) 1 by rw [← hR.out]; exact (P.runR_yes L i a m n (by rw [HL.out]; omega) HN2.out hmn).symm)
              go_wp2_with fail
              go_round
              case rel => exact ⟨i + 1, n, i, by go_num, rfl, rfl, by omega, by omega, by omega, by omega, by omega, HR2⟩
              case measure => simp [intOf]; omega
            · have HR2 := Lib.hid (show P.runR (L.drop (i + 1)) (i + 1) a m = P.runR L 0 (-1) 1 by rw [← hR.out]; exact (P.runR_no L i a m n (by rw [HL.out]; omega) HN2.out hmn).symm)
              go_wp2_with fail
              go_round
              case rel => exact ⟨i + 1, m, a, by go_num, rfl, rfl, by omega, by omega, by omega, by omega, by omega, HR2⟩
              case measure => simp [intOf]; omega
        · have HN2 := Lib.hid (show P.nz (L.drop i) = n by rw [hN.out, P.nz_end L (i + n) (by rw [HL.out]; omega)]; rfl)
          by_cases hmn : m < n
          · have HR2 := Lib.hid (show P.runR (L.drop (i + 1)) (i + 1) i n = P.runR L 0 (-1) 1 by rw [← hR.out]; exact (P.runR_yes L i a m n (by rw [HL.out]; omega) HN2.out hmn).symm)
            go_wp2_with fail
            go_round
            case rel => exact ⟨i + 1, n, i, by go_num, rfl, rfl, by omega, by omega, by omega, by omega, by omega, HR2⟩
            case measure => simp [intOf]; omega
          · have HR2 := Lib.hid (show P.runR (L.drop (i + 1)) (i + 1) a m = P.runR L 0 (-1) 1 by rw [← hR.out]; exact (P.runR_no L i a m n (by rw [HL.out]; omega) HN2.out hmn).symm)
            go_wp2_with fail
            go_round
            case rel => exact ⟨i + 1, m, a, by go_num, rfl, rfl, by omega, by omega, by omega, by omega, by omega, HR2⟩
            case measure => simp [intOf]; omega
    · have HR2 := Lib.hid (show P.runR L 0 (-1) 1 = (a, m) by rw [← hR.out]; exact P.runR_end L i a m (by rw [HL.out]; omega))
      go_wp2_with fail
      go_ret2
      exact ⟨by rw [HR2.out]; rfl, HB0.out⟩
/-- How a run of noughts stands to what is left out: the places F to T, or nothing. -/
theorem P.run_cut (L : List Nat) (h : L.length = 8) : ∃ (F T : Nat) (a : Int) (m : Nat), (P.runR L 0 (-1) 1).1 = a ∧ (P.runR L 0 (-1) 1).2 = m ∧ P.sixS L F T 8 = P.tell6 L ∧ F ≤ 8 ∧ T ≤ 8 ∧ m ≤ 8 ∧ 1 ≤ m ∧ (a = -1 ∧ F = 8 ∧ T = 0 ∨ a = F ∧ F < T ∧ T = F + m) := by
  have hle := P.runP_le L
  rw [P.run_same L h]
  by_cases he : (P.runP L).1 = (P.runP L).2
  · rw [if_pos he]
    exact ⟨8, 0, -1, 1, rfl, rfl, P.sixS_none L h he, by omega, by omega, by omega, by omega, Or.inl ⟨rfl, rfl, rfl⟩⟩
  · rw [if_neg he]
    exact ⟨(P.runP L).1, (P.runP L).2, _, _, rfl, rfl, P.sixS_some L h he, by omega, by omega, by omega, by omega, Or.inr ⟨rfl, by omega, by omega⟩⟩
theorem P.sixA_cases (s : List UInt8) (g : Nat) : (s = [] ∧ P.sixA s g = P.hexD g) ∨ (∃ x, s = x ++ [58] ∧ P.sixA s g = P.hexD g) ∨ (∃ x b, s = x ++ [b] ∧ b ≠ 58 ∧ P.sixA s g = 58 :: P.hexD g) := by
  by_cases h0 : s = []
  · exact Or.inl ⟨h0, by rw [P.sixA, if_pos (Or.inl h0)]⟩
  · have e : s = s.dropLast ++ [s.getLast h0] := (List.dropLast_concat_getLast h0).symm
    by_cases h1 : s.getLast h0 = 58
    · refine Or.inr (Or.inl ⟨s.dropLast, by rw [← h1]; exact e, ?_⟩)
      rw [P.sixA, if_pos (Or.inr (by rw [List.getLast?_eq_some_getLast h0, h1]))]
    · refine Or.inr (Or.inr ⟨s.dropLast, s.getLast h0, e, h1, ?_⟩)
      rw [P.sixA, if_neg]
      rintro (h | h)
      · exact h0 h
      · rw [List.getLast?_eq_some_getLast h0] at h; exact h1 (Option.some.inj h)
theorem last_byte (x : List UInt8) (b : UInt8) (h : x.length < (⟨(x ++ [b]).toArray⟩ : ByteArray).size) : (⟨(x ++ [b]).toArray⟩ : ByteArray)[x.length] = b := by
  show (x ++ [b]).toArray[x.length]'_ = b
  simp
set_option maxHeartbeats 8000000 in
set_option maxRecDepth 1000000 in
theorem six_any (x0 x1 x2 x3 x4 x5 x6 x7 : Nat) (w : World) (hle : ∀ g ∈ [x0, x1, x2, x3, x4, x5, x6, x7], g ≤ 65535) :
    Calls Tryz.prog 57 #[.agg #[.int .u16 x0, .int .u16 x1, .int .u16 x2, .int .u16 x3, .int .u16 x4, .int .u16 x5, .int .u16 x6, .int .u16 x7]] w fun e w' =>
      e = .returned (.string ⟨(P.tell6 [x0, x1, x2, x3, x4, x5, x6, x7]).toArray⟩) ∧ Below w.heap.size w w' := by
  have hGS := gsAt_new x0 x1 x2 x3 x4 x5 x6 x7 w
  have hG8 := g8_new x0 x1 x2 x3 x4 x5 x6 x7 w 57
  have hB0 : Below w.heap.size w (w.alloc (Obj.cells #[.int .u16 (x0 : Int), .int .u16 (x1 : Int), .int .u16 (x2 : Int), .int .u16 (x3 : Int), .int .u16 (x4 : Int), .int .u16 (x5 : Int), .int .u16 (x6 : Int), .int .u16 (x7 : Int)] 57)) := (Below.refl _ w).alloc (Nat.le_refl _) _
  have HL := Lib.hid (show [x0, x1, x2, x3, x4, x5, x6, x7].length = 8 from rfl)
  have HRun := Lib.hid (run_any x0 x1 x2 x3 x4 x5 x6 x7)
  obtain ⟨L, hL⟩ : ∃ L, [x0, x1, x2, x3, x4, x5, x6, x7] = L := ⟨_, rfl⟩
  rw [hL] at hGS HL HRun hle ⊢
  clear hL
  have HGS := Lib.hid hGS
  have HG8 := Lib.hid hG8
  have HB0 := Lib.hid hB0
  have HLE := Lib.hid hle
  obtain ⟨F, T, a, m, hra, hrm, hend, hF, hT, hm8, hm1, hcut⟩ := P.run_cut L HL.out
  rw [hra, hrm] at HRun
  have HEnd := Lib.hid hend
  have hs1 : (w.alloc (Obj.cells #[.int .u16 (x0 : Int), .int .u16 (x1 : Int), .int .u16 (x2 : Int), .int .u16 (x3 : Int), .int .u16 (x4 : Int), .int .u16 (x5 : Int), .int .u16 (x6 : Int), .int .u16 (x7 : Int)] 57)).heap.size = w.heap.size + 1 := by simp
  have ha1 : -1 ≤ a := by omega
  have ha8 : a ≤ 8 := by omega
  have HCut := Lib.hid hcut
  clear hGS hG8 hB0 hle hra hrm hend hcut
  go_enter Tryz.func57, Tryz.ntmps57
  go_wp2_with fail
  generalize hW : w.alloc (Obj.cells #[.int .u16 (x0 : Int), .int .u16 (x1 : Int), .int .u16 (x2 : Int), .int .u16 (x3 : Int), .int .u16 (x4 : Int), .int .u16 (x5 : Int), .int .u16 (x6 : Int), .int .u16 (x7 : Int)] 57) = W1 at *
  clear hW
  with_reducible refine (HRun.out W1).mono ?_
  rintro e w2 ⟨rfl, hb2⟩
  have hs2 := hb2.size
  have HB2 := Lib.hid (HB0.out.trans (hb2.mono (by omega)))
  have HGS2 := Lib.hid (GsAt.below HGS.out hb2 (by omega))
  have HD := Lib.hid digits16
  have hlt : w.heap.size < w2.heap.size := by omega
  clear HG8 hb2 HRun HGS HB0 hs1 hs2
  go_wp2_with fail
  go_loopw [5, 6] (fun u5 u6 wr => ∃ (i : Nat) (S : ByteArray), u6 = .int .i64 i ∧ u5 = .string S ∧ i ≤ 8 ∧ Below w2.heap.size w2 wr ∧ Hid (i ≤ F ∨ (F < T ∧ T ≤ i)) ∧ S.size ≤ 82 ∧ Hid (S = ⟨(P.sixS L F T i).toArray⟩)) (fun _ u6 _ => 8 - (intOf u6).toNat)
  case atStart => exact ⟨0, ⟨#[]⟩, rfl, rfl, by omega, Below.refl _ _, Lib.hid (Or.inl (by omega)), by decide, Lib.hid (by rw [P.sixS_zero])⟩
  case round =>
    obtain ⟨i, S, rfl, rfl, hi, hbw, hP, hS, hSe⟩ := hrel
    by_cases h8 : i < 8
    · by_cases hia : (i : Int) = a
      · obtain ⟨rfl, hFT, hTm⟩ : F = i ∧ F < T ∧ T = F + m := by
          rcases HCut.out with ⟨h, h1, h2⟩ | ⟨h, h1, h2⟩
          · omega
          · exact ⟨by omega, h1, h2⟩
        obtain rfl : a = (F : Int) := hia.symm
        have HT := Lib.hid hTm
        have HFT := Lib.hid hFT
        clear hTm hia HCut
        go_wp2_with fail
        go_roundw
        case rel => exact ⟨T, S ++ ⟨#[58, 58]⟩, congrArg (Value.int .i64) (by have := HT.out; omega), rfl, hT, hbw, Lib.hid (Or.inr ⟨hFT, Nat.le_refl _⟩), by
          have e : S ++ ⟨#[58, 58]⟩ = ⟨(P.sixS L F T T).toArray⟩ := by rw [hSe.out, P.sixS_jump L F T hFT]; exact str_app _ [58, 58]
          rw [e, size_of_list]; exact P.sixS_len L F T T HL.out, Lib.hid (by rw [hSe.out, P.sixS_jump L F T hFT]; exact str_app _ [58, 58])⟩
        case measure => simp [intOf]; have := HT.out; omega
      · have hP2 : i < F ∨ (F < T ∧ T ≤ i) := by rcases HCut.out with ⟨h, h1, h2⟩ | ⟨h, h1, h2⟩ <;> rcases hP.out with k | k <;> omega
        obtain ⟨g, hg⟩ : ∃ g, L[i]? = some g := ⟨_, List.getElem?_eq_getElem (by rw [HL.out]; omega)⟩
        have hcg := (GsAt.below HGS2.out hbw hlt) i g hg
        rw [Nat.zero_add] at hcg
        have hg16 := HLE.out g (List.mem_of_getElem? hg)
        have hstep := P.sixS_step L F T i g hP2 hg
        have hia2 : (((i : Nat) : Int) == a) = false := by simp [hia]
        have HP3 := Lib.hid (show i + 1 ≤ F ∨ (F < T ∧ T ≤ i + 1) by omega)
        have hl2 := P.sixS_len L F T (i + 1) HL.out
        have HDg := Lib.hid (digits16 g)
        have hDs : (⟨(P.hexD g).toArray⟩ : ByteArray).size ≤ 4 := by rw [size_of_list]; exact (P.hexD_len g).2
        have hs0 : (⟨#[]⟩ : ByteArray).size = 0 := rfl
        rcases P.sixA_cases (P.sixS L F T i) g with ⟨h1, h2⟩ | ⟨x, h1, h2⟩ | ⟨x, b, h1, hb, h2⟩
        · rw [h2, h1] at hstep
          have HSt := Lib.hid (show P.sixS L F T (i + 1) = P.hexD g from hstep)
          obtain rfl : S = ⟨#[]⟩ := by rw [hSe.out, h1]
          clear hSe h1 h2 hstep hg hia hP2
          have HEQ := Lib.hid (show (⟨#[]⟩ : ByteArray) ++ ⟨(P.hexD g).toArray⟩ = ⟨(P.sixS L F T (i + 1)).toArray⟩ by rw [HSt.out]; exact str_app [] _)
          go_wp2_with fail
          with_reducible refine (HDg.out wr hg16).mono ?_
          rintro e w3 ⟨rfl, hb3⟩
          go_wp2_with fail
          go_roundw
          case rel => exact ⟨i + 1, _, by go_num, rfl, by omega, hbw.trans (hb3.mono hbw.size), HP3, by rw [HEQ.out, size_of_list]; exact hl2, Lib.hid (by exact HEQ.out)⟩
          case measure => simp [intOf]; omega
        · rw [h2, h1] at hstep
          have HSt := Lib.hid hstep
          have hSx := hSe.out
          rw [h1] at hSx
          have hsz : S.size = x.length + 1 := by rw [hSx, size_of_list]; simp
          have he1 : S.toList.isEmpty = false := by rw [ByteArray.toList_eq, hSx]; simp
          have he2 : (x ++ [(58 : UInt8)]).isEmpty = false := by cases x <;> rfl
          have HEQ := Lib.hid (show S ++ ⟨(P.hexD g).toArray⟩ = ⟨(P.sixS L F T (i + 1)).toArray⟩ by rw [HSt.out, hSx]; exact str_app _ _)
          clear hSe h1 h2 hstep hg hia hP2
          subst hSx
          have hq : (((⟨(x ++ [58]).toArray⟩ : ByteArray)[x.length]'(by rw [hsz]; omega)).toNat : Int) = 58 := by rw [last_byte]; rfl
          go_wp2_with fail
          with_reducible refine (HDg.out wr hg16).mono ?_
          rintro e w3 ⟨rfl, hb3⟩
          go_wp2_with fail
          go_roundw
          case rel => exact ⟨i + 1, _, by go_num, rfl, by omega, hbw.trans (hb3.mono hbw.size), HP3, by rw [HEQ.out, size_of_list]; exact hl2, Lib.hid (by exact HEQ.out)⟩
          case measure => simp [intOf]; omega
        · rw [h2, h1] at hstep
          have HSt := Lib.hid hstep
          have hSx := hSe.out
          rw [h1] at hSx
          have hsz : S.size = x.length + 1 := by rw [hSx, size_of_list]; simp
          have he1 : S.toList.isEmpty = false := by rw [ByteArray.toList_eq, hSx]; simp
          have he2 : (x ++ [b]).isEmpty = false := by cases x <;> rfl
          have HEQ := Lib.hid (show S ++ ⟨#[58]⟩ ++ ⟨(P.hexD g).toArray⟩ = ⟨(P.sixS L F T (i + 1)).toArray⟩ by
            rw [HSt.out, hSx, show (⟨#[58]⟩ : ByteArray) = ⟨([58] : List UInt8).toArray⟩ from rfl, str_app, str_app]; simp)
          have hbn : (((b.toNat : Nat) : Int) != 58) = true := by
            have : b.toNat ≠ 58 := fun e => hb (UInt8.toNat_inj.1 (by simpa using e))
            simp; omega
          have hs58 : (⟨#[58]⟩ : ByteArray).size = 1 := rfl
          clear hSe h1 h2 hstep hg hia hP2 hb
          have hs3 : (S ++ ⟨#[58]⟩).size ≤ 83 := by rw [ByteArray.size_append, hs58]; omega
          subst hSx
          have hq : (((⟨(x ++ [b]).toArray⟩ : ByteArray)[x.length]'(by rw [hsz]; omega)).toNat : Int) = b.toNat := by rw [last_byte]
          go_wp2_with fail
          with_reducible refine (HDg.out wr hg16).mono ?_
          rintro e w3 ⟨rfl, hb3⟩
          go_wp2_with fail
          go_roundw
          case rel => exact ⟨i + 1, _, by go_num, rfl, by omega, hbw.trans (hb3.mono hbw.size), HP3, by rw [HEQ.out, size_of_list]; exact hl2, Lib.hid (by exact HEQ.out)⟩
          case measure => simp [intOf]; omega
    · obtain rfl : i = 8 := by omega
      have HSt := Lib.hid (show S = ⟨(P.tell6 L).toArray⟩ by rw [hSe.out, HEnd.out])
      clear hSe
      go_wp2_with fail
      go_ret
      exact ⟨by rw [HSt.out]; rfl, HB2.out.trans (hbw.mono HB2.out.size)⟩
theorem a10_at (w : World) (f g0 g1 g2 g3 g4 g5 g6 g7 p : Int) (t : TypeId) : A10 (w.alloc (Obj.cells #[.int .i8 f, .int .u16 g0, .int .u16 g1, .int .u16 g2, .int .u16 g3, .int .u16 g4, .int .u16 g5, .int .u16 g6, .int .u16 g7, .int .i64 p] t)) w.heap.size f g0 g1 g2 g3 g4 g5 g6 g7 p := by
  refine ⟨?_, ?_, ?_, ?_, ?_, ?_, ?_, ?_, ?_, ?_, ?_⟩
  all_goals first | (rw [World.cell?_alloc_new]; rfl) | simp
end Go.Proofs.YtciohjgcndgiaaaGreatDoor.R2
