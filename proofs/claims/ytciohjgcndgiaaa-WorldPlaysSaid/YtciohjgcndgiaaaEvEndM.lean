/- A dial ends: the landed world's own method. -/
import Derived.Test.YtciohjgcndgiaaaEvt
import Derived.Test.YtciohjgcndgiaaaGate
set_option linter.unusedSimpArgs false
set_option linter.unusedVariables false
namespace Go.Proofs.Ytciohjgcndgiaaa
open Go.RowKit Go.Proofs.Ytciohjgcndgiaaa.Kind

theorem drew_at2 {w : World} {b : Nat} {o : Obj} (h : w.heap[b]? = some o) : w.drew.heap[b]? = some o := h
theorem EvX.drew {base g : Nat} {X : Nat → Prop} {W : World} {v : Wv} {A : Wo} (h : EvX base X W g v A) : EvX base X W.drew g v A := h.below (Below.refl _ _).drew
theorem EvX.dialBlk {base g : Nat} {X : Nat → Prop} {W : World} {v : Wv} {A : Wo} (h : EvX base X W g v A) {k : Nat} {x : Di} {gd o : Nat} (hx : A.dials[k]? = some x) (e : v.ia = some ⟨gd, o, none⟩) : ¬ X gd := by
  have hc : 0 < v.ic := by have := h.dials.1; have := (List.getElem?_eq_some_iff.1 hx).1; omega
  have := h.xd hc
  rw [bk_some e hc] at this
  exact this
set_option maxHeartbeats 40000000 in
set_option maxRecDepth 1000000 in
theorem endm_any (base g : Nat) (u : Wv) (A : Wo) (k : Nat) (x : Di) (W : World) (hS : A.socks.length ≤ 300) (hMk : A.marks.length ≤ 600) (hx : A.dials[k]? = some x) (hle : base ≤ W.heap.size) (hE : EvIn base W g u A) (B : Wo) (M : Lt)
    (hB : B = if x.fate = 0 then { A with dials := A.dials.set k { x with over := true }, socks := A.socks ++ [skNew x.ad x.by_ A.clock], marks := A.marks ++ [⟨false, A.socks.length, A.clock⟩] } else { A with dials := A.dials.set k { x with over := true } })
    (hMv : M = if x.fate = 0 then ⟨11, 0, 0, A.socks.length, { data := #[] }, 0⟩ else ⟨11, 0, 0, 0, { data := #[] }, 160⟩) :
    Calls Try.prog 33 #[.pointer (some ⟨g, 0, none⟩), .int .i64 k] W fun e w' => ∃ u2, e = .returned M.v ∧ EvIn base w' g u2 B ∧ Below base W w' := by
  have HX := Lib.hid hx
  have hki := (List.getElem?_eq_some_iff.1 hx).1
  have hkI : (k : Int) < (A.dials.length : Int) := by omega
  have hb := below1 W (.cells #[.int .i8 0, .int .i64 0, .int .i64 0, .int .i64 0, .string { data := #[] }, .int .i64 0] 52)
  have hL := laid1 W (.cells #[.int .i8 0, .int .i64 0, .int .i64 0, .int .i64 0, .string { data := #[] }, .int .i64 0] 52)
  obtain ⟨W1, hW1⟩ : ∃ Y, Y = W.alloc (.cells #[.int .i8 0, .int .i64 0, .int .i64 0, .int .i64 0, .string { data := #[] }, .int .i64 0] 52) := ⟨_, rfl⟩
  have hsz : W1.heap.size = W.heap.size + 1 := by rw [hW1]; simp
  have hE1 := hE.apart (W' := W1) (Y := fun b => b = W.heap.size) (by rw [hW1]; exact hb) (fun b hb => by omega)
  obtain ⟨gd, o, hia, hgd, hne, hE3, hc3, hf3⟩ := hE1.pokeDial (i := 13) (y := { x with over := true }) (u := .bool true) hx (by decide) rfl
  have hgr := hE1.dialBlk hx hia
  obtain ⟨⟨x0, x1, x2, x3, x4, x5, x6, x7, x8, x9⟩, f0, f1, f2, f3, f4, f5, f6, f7, f8, f9⟩ := boxes10 hE1.box
  rw [hia] at x6
  have HB := Lib.hid (show Below base W W1 from by rw [hW1]; exact hb.mono hle)
  rw [← hW1] at hL
  have Hr := Lib.hid hL
  have HE3 := Lib.hid hE3
  have Hle := Lib.hid (show base ≤ W1.heap.size by omega)
  have hHg := hE1.hg
  have hgl := lt_of_block hE1.box
  clear hE hE1 hE3 hx hb hL
  go_enter Try.func33, Try.ntmps33
  go_upto_region 1 with fail
  rw [← hW1]
  clear hW1
  go_upto_region 2 with fail
  clear x0 x1 x2 x3 x4 x5 x6 x7 x8 x9 f0 f1 f2 f3 f4 f5 f6 f7 f8 f9 hc3 hf3
  obtain ⟨q1, hq1⟩ : ∃ Y, Y = W1.setCell ⟨gd, o + k * 14 + 13, none⟩ (.bool true) := ⟨_, rfl⟩
  have hr1 := (Below.heap_setCell W1 ⟨gd, o + k * 14 + 13, none⟩ (.bool true) W.heap.size (by dsimp only; intro e; exact hgr (.inr e.symm))).trans Hr.out
  have hb1 := HB.out.setCell (p := ⟨gd, o + k * 14 + 13, none⟩) hgd (.bool true)
  have hE4 := HE3.out
  have hs1 : (W1.setCell ⟨gd, o + k * 14 + 13, none⟩ (.bool true)).heap.size = W1.heap.size := by simp
  rw [← hq1] at hr1 hb1 hE4 hs1 ⊢
  clear hq1
  replace Hr := Lib.hid hr1
  replace HB := Lib.hid hb1
  have HE := Lib.hid hE4
  have Hs := Lib.hid (show q1.heap.size = W.heap.size + 1 by omega)
  clear hr1 hb1 hE4 hs1 HE3 Hle hgr
  obtain ⟨gd2, o2, hia2, _, hat⟩ := HE.out.dials.row.2.2.2 (by simp; omega)
  rw [hia] at hia2
  injection hia2 with hia2
  injection hia2 with e1 e2 e3
  subst e1 e2
  obtain ⟨d0, d1, d2, d3, d4, d5, d6, d7, d8, d9, d10, d11, d12, d13⟩ := DK.cells hat (List.getElem?_set_self hki)
  clear hat
  obtain ⟨⟨x0, x1, x2, x3, x4, x5, x6, x7, x8, x9⟩, f0, f1, f2, f3, f4, f5, f6, f7, f8, f9⟩ := boxes10 HE.out.box
  simp only [List.length_set] at x6
  rw [hia] at x6
  go_upto_region 3 with fail
  clear d0 d1 d2 d3 d4 d5 d6 d7 d8 d9 d10 d11 d12 d13 x0 x1 x2 x3 x4 x5 x6 x7 x8 x9 f0 f1 f2 f3 f4 f5 f6 f7 f8 f9
  have hb := below1 q1 (.cells #[.int .i64 x.by_, .int .i8 x.ad.f, .int .u16 x.ad.g0, .int .u16 x.ad.g1, .int .u16 x.ad.g2, .int .u16 x.ad.g3, .int .u16 x.ad.g4, .int .u16 x.ad.g5, .int .u16 x.ad.g6, .int .u16 x.ad.g7, .int .i64 x.ad.p, .int .i8 x.fate, .bool x.cut, .bool true] 88)
  have hL := laid1 q1 (.cells #[.int .i64 x.by_, .int .i8 x.ad.f, .int .u16 x.ad.g0, .int .u16 x.ad.g1, .int .u16 x.ad.g2, .int .u16 x.ad.g3, .int .u16 x.ad.g4, .int .u16 x.ad.g5, .int .u16 x.ad.g6, .int .u16 x.ad.g7, .int .i64 x.ad.p, .int .i8 x.fate, .bool x.cut, .bool true] 88)
  obtain ⟨q2, hq2⟩ : ∃ Y, Y = q1.alloc (.cells #[.int .i64 x.by_, .int .i8 x.ad.f, .int .u16 x.ad.g0, .int .u16 x.ad.g1, .int .u16 x.ad.g2, .int .u16 x.ad.g3, .int .u16 x.ad.g4, .int .u16 x.ad.g5, .int .u16 x.ad.g6, .int .u16 x.ad.g7, .int .i64 x.ad.p, .int .i8 x.fate, .bool x.cut, .bool true] 88) := ⟨_, rfl⟩
  have hs2 : q2.heap.size = q1.heap.size + 1 := by rw [hq2]; simp
  rw [← hq2] at hb hL ⊢
  clear hq2
  obtain ⟨rd, hrd⟩ : ∃ n, n = q1.heap.size := ⟨_, rfl⟩
  rw [← hrd] at hL hs2 ⊢
  replace HE := Lib.hid (HE.out.below hb)
  replace Hr := Lib.hid ((hb.block _ (lt_of_block Hr.out)).trans Hr.out)
  replace HB := Lib.hid (HB.out.trans (hb.mono (by have := HB.out.size; omega)))
  have Hd := Lib.hid hL
  have Hs2 := Lib.hid (show q2.heap.size = W.heap.size + 2 by have := Hs.out; omega)
  have Hrd := Lib.hid (show rd = W.heap.size + 1 by have := Hs.out; omega)
  clear hb hL hs2 hrd Hs
  obtain ⟨⟨y0, y1, y2, y3, y4, y5, y6, y7, y8, y9, y10, y11, y12, y13⟩, _⟩ := boxes14 Hd.out
  obtain ⟨⟨z0, z1, z2, z3, z4, z5⟩, h0, h1, h2, h3, h4, h5⟩ := boxes6 Hr.out
  by_cases hf : x.fate = 0
  · have hfb : (x.fate != 0) = false := by simp [hf]
    obtain rfl : M = ⟨11, 0, 0, A.socks.length, { data := #[] }, 0⟩ := by rw [hMv, if_pos hf]
    obtain ⟨S2, hS2⟩ : ∃ S, S = A.socks ++ [skNew x.ad x.by_ A.clock] := ⟨_, rfl⟩
    obtain ⟨K2, hK2⟩ : ∃ S, S = A.marks ++ [(⟨false, A.socks.length, A.clock⟩ : Nk)] := ⟨_, rfl⟩
    have hBE := Lib.hid (show B = { A with dials := A.dials.set k { x with over := true }, socks := S2, marks := K2 } from by rw [hB, if_pos hf, hS2, hK2])
    clear hB hMv hf
    go_upto_region 6 with fail
    clear y0 y1 y2 y3 y4 y5 y6 y7 y8 y9 y10 y11 y12 y13 z0 z1 z2 z3 z4 z5 h0 h1 h2 h3 h4 h5 hfb
    have hb := below1 q2 (.cells #[.int .i8 11, .int .i64 0, .int .i64 0, .int .i64 0, .string { data := #[] }, .int .i64 0] 52)
    have hL := laid1 q2 (.cells #[.int .i8 11, .int .i64 0, .int .i64 0, .int .i64 0, .string { data := #[] }, .int .i64 0] 52)
    obtain ⟨q3, hq3⟩ : ∃ Y, Y = q2.alloc (.cells #[.int .i8 11, .int .i64 0, .int .i64 0, .int .i64 0, .string { data := #[] }, .int .i64 0] 52) := ⟨_, rfl⟩
    have hs3 : q3.heap.size = q2.heap.size + 1 := by rw [hq3]; simp
    rw [← hq3] at hb hL ⊢
    clear hq3
    obtain ⟨rm, hrm⟩ : ∃ n, n = q2.heap.size := ⟨_, rfl⟩
    rw [← hrm] at hL hs3 ⊢
    replace HE := Lib.hid (HE.out.apart (Y := fun b => b = rm) hb (fun b hb => by omega))
    replace Hr := Lib.hid ((hb.block _ (lt_of_block Hr.out)).trans Hr.out)
    replace Hd := Lib.hid ((hb.block _ (lt_of_block Hd.out)).trans Hd.out)
    replace HB := Lib.hid (HB.out.trans (hb.mono (by have := HB.out.size; omega)))
    have Hm := Lib.hid hL
    have Hrm := Lib.hid (show rm = W.heap.size + 2 by have := Hs2.out; omega)
    have Hq3 := Lib.hid (show q3.heap.size = W.heap.size + 3 by have := Hs2.out; omega)
    clear hb hL hs3 hrm
    have HC := Lib.hid (fun V (h : Below q3.heap.size q3 V) => sopen_spec A.socks A.marks x.ad x.by_ A.clock u.sa u.ma u.sc u.mc V S2 K2 (by omega) (by omega) hS2 hK2 (HE.out.below h).socks.1 (HE.out.below h).marks.1)
    have hS2l : (S2.length : Int) = (A.socks.length : Int) + 1 := by rw [hS2]; simp
    clear hS2 hK2 hS2l
    obtain ⟨⟨x0, x1, x2, x3, x4, x5, x6, x7, x8, x9⟩, f0, f1, f2, f3, f4, f5, f6, f7, f8, f9⟩ := boxes10 HE.out.box
    obtain ⟨⟨y0, y1, y2, y3, y4, y5, y6, y7, y8, y9, y10, y11, y12, y13⟩, _⟩ := boxes14 Hd.out
    obtain ⟨⟨m0, m1, m2, m3, m4, m5⟩, n0, n1, n2, n3, n4, n5⟩ := boxes6 Hm.out
    have hne1 : g ≠ rm := by have := HE.out.xg; intro e; exact this (.inr e)
    have hne2 : rm ≠ g := fun e => hne1 e.symm
    have x5k := x5; clear x0 x1 x2 x3 x6 x7 x8 f0 f1 f2 f3 f4 f6 f7 f8 y11 y12 y13 m0 m1 m2 m4 m5 n0 n1 n2 n4 n5 x5k
    have HRM := Lib.hid (And.intro Hrm.out (And.intro Hq3.out (And.intro Hrd.out Hs2.out)))
    clear Hrm Hq3 Hrd Hs2
    have HKP := Lib.hid (And.intro hS (And.intro hMk (And.intro hle (And.intro hgd (And.intro hne (And.intro hki (And.intro hHg (And.intro hgl (And.intro hia hsz)))))))))
    clear hS hMk hgd hne hki hkI hHg hgl hia hsz
    generalize Value.agg #[.int .i64 x.by_, .int .i8 x.ad.f, .int .u16 x.ad.g0, .int .u16 x.ad.g1, .int .u16 x.ad.g2, .int .u16 x.ad.g3, .int .u16 x.ad.g4, .int .u16 x.ad.g5, .int .u16 x.ad.g6, .int .u16 x.ad.g7, .int .i64 x.ad.p, .int .i8 x.fate, .bool x.cut, .bool true] = va
    generalize Value.agg #[.int .i8 11, .int .i64 0, .int .i64 0, .int .i64 0, .string { data := #[] }, .int .i64 0] = vm
    generalize Value.slice (some ⟨gd, o, none⟩) A.dials.length u.ic = vs
    refine Gate.region_gate 24 (by kernel_rfl) ?_
    refine Gate.take_any (i := 0) (oi := { dst := some 31, op := Go.Op.move (Go.Operand.tmp 0), type := 77, pos := "world.go:198", after := #[], guard := none }) (v := ?_) rfl (by decide) (by kernel_rfl) (by kernel_rfl) (by kernel_rfl) (fun _ _ _ h => h) (by rfl) ?_ ?_
    rotate_left
    · (intro w; go_simp; try with_reducible rfl)
    simp only [Act.put, List.setIfInBounds_toArray, List.set_cons_zero, List.set_cons_succ]
    refine Gate.take_any (i := 1) (oi := { dst := some 32, op := Go.Op.move (Go.Operand.tmp 0), type := 77, pos := "world.go:198", after := #[{ on := 33, ground := Go.Ground.gcOnly Go.Departure.lateStores }], guard := none }) (v := ?_) rfl (by decide) (by kernel_rfl) (by kernel_rfl) (by kernel_rfl) (fun _ _ _ h => h) (by rfl) ?_ ?_
    rotate_left
    · (intro w; go_simp; try with_reducible rfl)
    simp only [Act.put, List.setIfInBounds_toArray, List.set_cons_zero, List.set_cons_succ]
    refine Gate.take_any (i := 2) (oi := { dst := some 33, op := Go.Op.move (Go.Operand.tmp 0), type := 77, pos := "world.go:198", after := #[], guard := none }) (v := ?_) rfl (by decide) (by kernel_rfl) (by kernel_rfl) (by kernel_rfl) (fun _ _ _ h => h) (by rfl) ?_ ?_
    rotate_left
    · (intro w; go_simp; try with_reducible rfl)
    simp only [Act.put, List.setIfInBounds_toArray, List.set_cons_zero, List.set_cons_succ]
    refine Gate.take_any (i := 3) (oi := { dst := some 34, op := Go.Op.nilCheck (Go.Operand.tmp 33), type := 0, pos := "world.go:198", after := #[{ on := 2, ground := Go.Ground.data }], guard := none }) (v := ?_) rfl (by decide) (by kernel_rfl) (by kernel_rfl) (by kernel_rfl) (fun _ _ _ h => h) (by rfl) ?_ ?_
    rotate_left
    · (intro w; go_simp; try with_reducible rfl)
    simp only [Act.put, List.setIfInBounds_toArray, List.set_cons_zero, List.set_cons_succ]
    refine Gate.take_any (i := 4) (oi := { dst := some 35, op := Go.Op.fieldAddr 82 (Go.Operand.tmp 34) 0, type := 0, pos := "world.go:198", after := #[{ on := 3, ground := Go.Ground.data }], guard := none }) (v := ?_) rfl (by decide) (by kernel_rfl) (by kernel_rfl) (by kernel_rfl) (fun _ _ _ h => h) (by rfl) ?_ ?_
    rotate_left
    · (intro w; go_simp; try with_reducible rfl)
    simp only [Act.put, List.setIfInBounds_toArray, List.set_cons_zero, List.set_cons_succ]
    refine Gate.take_any (i := 5) (oi := { dst := some 36, op := Go.Op.fieldAddr 80 (Go.Operand.tmp 35) 0, type := 0, pos := "world.go:198", after := #[{ on := 4, ground := Go.Ground.data }], guard := none }) (v := ?_) rfl (by decide) (by kernel_rfl) (by kernel_rfl) (by kernel_rfl) (fun _ _ _ h => h) (by rfl) ?_ ?_
    rotate_left
    · (intro w; go_simp; try with_reducible rfl)
    simp only [Act.put, List.setIfInBounds_toArray, List.set_cons_zero, List.set_cons_succ]
    refine Gate.take_any (i := 6) (oi := { dst := some 37, op := Go.Op.fieldAddr 33 (Go.Operand.tmp 36) 2, type := 0, pos := "world.go:198", after := #[{ on := 5, ground := Go.Ground.data }], guard := none }) (v := ?_) rfl (by decide) (by kernel_rfl) (by kernel_rfl) (by kernel_rfl) (fun _ _ _ h => h) (by rfl) ?_ ?_
    rotate_left
    · (intro w; go_simp; try with_reducible rfl)
    simp only [Act.put, List.setIfInBounds_toArray, List.set_cons_zero, List.set_cons_succ]
    refine Gate.take_here (i := 7) (oi := { dst := some 38, op := Go.Op.load 28 (Go.Operand.tmp 37), type := 28, pos := "world.go:198", after := #[{ on := 6, ground := Go.Ground.data }], guard := none }) (v := ?_) rfl (by kernel_rfl) (by kernel_rfl) (by kernel_rfl) (by kernel_rfl) (by kernel_rfl) (fun _ _ _ h => h) (by rfl) ?_ ?_
    rotate_left
    · (go_simp; try with_reducible rfl)
    simp only [Act.put, List.setIfInBounds_toArray, List.set_cons_zero, List.set_cons_succ]
    refine Gate.take_any (i := 8) (oi := { dst := some 39, op := Go.Op.move (Go.Operand.tmp 0), type := 77, pos := "world.go:198", after := #[], guard := none }) (v := ?_) rfl (by decide) (by kernel_rfl) (by kernel_rfl) (by kernel_rfl) (fun _ _ _ h => h) (by rfl) ?_ ?_
    rotate_left
    · (intro w; go_simp; try with_reducible rfl)
    simp only [Act.put, List.setIfInBounds_toArray, List.set_cons_zero, List.set_cons_succ]
    refine Gate.take_any (i := 9) (oi := { dst := some 40, op := Go.Op.nilCheck (Go.Operand.tmp 39), type := 0, pos := "world.go:198", after := #[{ on := 8, ground := Go.Ground.data }], guard := none }) (v := ?_) rfl (by decide) (by kernel_rfl) (by kernel_rfl) (by kernel_rfl) (fun _ _ _ h => h) (by rfl) ?_ ?_
    rotate_left
    · (intro w; go_simp; try with_reducible rfl)
    simp only [Act.put, List.setIfInBounds_toArray, List.set_cons_zero, List.set_cons_succ]
    refine Gate.take_any (i := 10) (oi := { dst := some 41, op := Go.Op.fieldAddr 82 (Go.Operand.tmp 40) 0, type := 0, pos := "world.go:198", after := #[{ on := 9, ground := Go.Ground.data }], guard := none }) (v := ?_) rfl (by decide) (by kernel_rfl) (by kernel_rfl) (by kernel_rfl) (fun _ _ _ h => h) (by rfl) ?_ ?_
    rotate_left
    · (intro w; go_simp; try with_reducible rfl)
    simp only [Act.put, List.setIfInBounds_toArray, List.set_cons_zero, List.set_cons_succ]
    refine Gate.take_any (i := 11) (oi := { dst := some 42, op := Go.Op.fieldAddr 80 (Go.Operand.tmp 41) 0, type := 0, pos := "world.go:198", after := #[{ on := 10, ground := Go.Ground.data }], guard := none }) (v := ?_) rfl (by decide) (by kernel_rfl) (by kernel_rfl) (by kernel_rfl) (fun _ _ _ h => h) (by rfl) ?_ ?_
    rotate_left
    · (intro w; go_simp; try with_reducible rfl)
    simp only [Act.put, List.setIfInBounds_toArray, List.set_cons_zero, List.set_cons_succ]
    refine Gate.take_any (i := 12) (oi := { dst := some 43, op := Go.Op.fieldAddr 33 (Go.Operand.tmp 42) 6, type := 0, pos := "world.go:198", after := #[{ on := 11, ground := Go.Ground.data }], guard := none }) (v := ?_) rfl (by decide) (by kernel_rfl) (by kernel_rfl) (by kernel_rfl) (fun _ _ _ h => h) (by rfl) ?_ ?_
    rotate_left
    · (intro w; go_simp; try with_reducible rfl)
    simp only [Act.put, List.setIfInBounds_toArray, List.set_cons_zero, List.set_cons_succ]
    refine Gate.take_here (i := 13) (oi := { dst := some 44, op := Go.Op.load 31 (Go.Operand.tmp 43), type := 31, pos := "world.go:198", after := #[{ on := 12, ground := Go.Ground.data }], guard := none }) (v := ?_) rfl (by kernel_rfl) (by kernel_rfl) (by kernel_rfl) (by kernel_rfl) (by kernel_rfl) (fun _ _ _ h => h) (by rfl) ?_ ?_
    rotate_left
    · (go_simp; try with_reducible rfl)
    simp only [Act.put, List.setIfInBounds_toArray, List.set_cons_zero, List.set_cons_succ]
    refine Gate.take_any (i := 14) (oi := { dst := some 45, op := Go.Op.fieldAddr 88 (Go.Operand.tmp 5) 1, type := 0, pos := "world.go:198", after := #[], guard := none }) (v := ?_) rfl (by decide) (by kernel_rfl) (by kernel_rfl) (by kernel_rfl) (fun _ _ _ h => h) (by rfl) ?_ ?_
    rotate_left
    · (intro w; go_simp; try with_reducible rfl)
    simp only [Act.put, List.setIfInBounds_toArray, List.set_cons_zero, List.set_cons_succ]
    refine Gate.take_here (i := 15) (oi := { dst := some 46, op := Go.Op.load 43 (Go.Operand.tmp 45), type := 43, pos := "world.go:198", after := #[{ on := 14, ground := Go.Ground.data }], guard := none }) (v := ?_) rfl (by kernel_rfl) (by kernel_rfl) (by kernel_rfl) (by kernel_rfl) (by kernel_rfl) (fun _ _ _ h => h) (by rfl) ?_ ?_
    rotate_left
    · (go_simp; try with_reducible rfl)
    simp only [Act.put, List.setIfInBounds_toArray, List.set_cons_zero, List.set_cons_succ]
    refine Gate.take_any (i := 16) (oi := { dst := some 47, op := Go.Op.fieldAddr 88 (Go.Operand.tmp 5) 0, type := 0, pos := "world.go:198", after := #[], guard := none }) (v := ?_) rfl (by decide) (by kernel_rfl) (by kernel_rfl) (by kernel_rfl) (fun _ _ _ h => h) (by rfl) ?_ ?_
    rotate_left
    · (intro w; go_simp; try with_reducible rfl)
    simp only [Act.put, List.setIfInBounds_toArray, List.set_cons_zero, List.set_cons_succ]
    refine Gate.take_here (i := 17) (oi := { dst := some 48, op := Go.Op.load 3 (Go.Operand.tmp 47), type := 3, pos := "world.go:198", after := #[{ on := 16, ground := Go.Ground.data }], guard := none }) (v := ?_) rfl (by kernel_rfl) (by kernel_rfl) (by kernel_rfl) (by kernel_rfl) (by kernel_rfl) (fun _ _ _ h => h) (by rfl) ?_ ?_
    rotate_left
    · (go_simp; try with_reducible rfl)
    simp only [Act.put, List.setIfInBounds_toArray, List.set_cons_zero, List.set_cons_succ]
    refine Gate.take_any (i := 18) (oi := { dst := some 49, op := Go.Op.move (Go.Operand.tmp 0), type := 77, pos := "world.go:198", after := #[], guard := none }) (v := ?_) rfl (by decide) (by kernel_rfl) (by kernel_rfl) (by kernel_rfl) (fun _ _ _ h => h) (by rfl) ?_ ?_
    rotate_left
    · (intro w; go_simp; try with_reducible rfl)
    simp only [Act.put, List.setIfInBounds_toArray, List.set_cons_zero, List.set_cons_succ]
    refine Gate.take_any (i := 19) (oi := { dst := some 50, op := Go.Op.nilCheck (Go.Operand.tmp 49), type := 0, pos := "world.go:198", after := #[{ on := 18, ground := Go.Ground.data }], guard := none }) (v := ?_) rfl (by decide) (by kernel_rfl) (by kernel_rfl) (by kernel_rfl) (fun _ _ _ h => h) (by rfl) ?_ ?_
    rotate_left
    · (intro w; go_simp; try with_reducible rfl)
    simp only [Act.put, List.setIfInBounds_toArray, List.set_cons_zero, List.set_cons_succ]
    refine Gate.take_any (i := 20) (oi := { dst := some 51, op := Go.Op.fieldAddr 82 (Go.Operand.tmp 50) 0, type := 0, pos := "world.go:198", after := #[{ on := 19, ground := Go.Ground.data }], guard := none }) (v := ?_) rfl (by decide) (by kernel_rfl) (by kernel_rfl) (by kernel_rfl) (fun _ _ _ h => h) (by rfl) ?_ ?_
    rotate_left
    · (intro w; go_simp; try with_reducible rfl)
    simp only [Act.put, List.setIfInBounds_toArray, List.set_cons_zero, List.set_cons_succ]
    refine Gate.take_any (i := 21) (oi := { dst := some 52, op := Go.Op.fieldAddr 80 (Go.Operand.tmp 51) 0, type := 0, pos := "world.go:198", after := #[{ on := 20, ground := Go.Ground.data }], guard := none }) (v := ?_) rfl (by decide) (by kernel_rfl) (by kernel_rfl) (by kernel_rfl) (fun _ _ _ h => h) (by rfl) ?_ ?_
    rotate_left
    · (intro w; go_simp; try with_reducible rfl)
    simp only [Act.put, List.setIfInBounds_toArray, List.set_cons_zero, List.set_cons_succ]
    refine Gate.take_any (i := 22) (oi := { dst := some 53, op := Go.Op.fieldAddr 33 (Go.Operand.tmp 52) 1, type := 0, pos := "world.go:198", after := #[{ on := 21, ground := Go.Ground.data }], guard := none }) (v := ?_) rfl (by decide) (by kernel_rfl) (by kernel_rfl) (by kernel_rfl) (fun _ _ _ h => h) (by rfl) ?_ ?_
    rotate_left
    · (intro w; go_simp; try with_reducible rfl)
    simp only [Act.put, List.setIfInBounds_toArray, List.set_cons_zero, List.set_cons_succ]
    refine Gate.take_here (i := 23) (oi := { dst := some 54, op := Go.Op.load 3 (Go.Operand.tmp 53), type := 3, pos := "world.go:198", after := #[{ on := 22, ground := Go.Ground.data }], guard := none }) (v := ?_) rfl (by kernel_rfl) (by kernel_rfl) (by kernel_rfl) (by kernel_rfl) (by kernel_rfl) (fun _ _ _ h => h) (by rfl) ?_ ?_
    rotate_left
    · (go_simp; try with_reducible rfl)
    simp only [Act.put, List.setIfInBounds_toArray, List.set_cons_zero, List.set_cons_succ]
    refine Gate.gate_next (by kernel_rfl) (by kernel_rfl) ?_
    refine AllReady.cons (o := { dst := some 55, op := Go.Op.call { callee := Go.Callee.value (Go.Operand.func 66), args := #[Go.Operand.tmp 38, Go.Operand.tmp 44, Go.Operand.tmp 46, Go.Operand.tmp 48, Go.Operand.tmp 54], argTypes := #[28, 31, 43, 3, 3] }, type := 131, pos := "world.go:198", after := #[{ on := 7, ground := Go.Ground.data }, { on := 13, ground := Go.Ground.data }, { on := 15, ground := Go.Ground.data }, { on := 17, ground := Go.Ground.data }, { on := 23, ground := Go.Ground.data }], guard := none }) rfl (fun K hK => ?_) AllReady.nil
    go_simp
    go_at_call 66; (with_reducible refine (HC.out _ (by first | exact Below.refl _ _ | exact (Below.refl _ _).drew | exact (Below.refl _ _).drew.drew)).mono ?_); rintro e wC ⟨a1, c1, a2, c2, rfl, hl1, hl2, hbC⟩; have hBC : Below q3.heap.size q3 wC := ⟨hbC.os, hbC.tape, hbC.output, hbC.size, hbC.block⟩; obtain ⟨⟨-, -, -, -, -, p5, -, -, -, p9⟩, -, -, -, -, -, t5, -, -, -, t9⟩ := boxes10 (HE.out.below hBC).box; obtain ⟨⟨-, -, -, s3, -, -⟩, -, -, -, v3, -, -⟩ := boxes6 ((hBC.block _ (lt_of_block Hm.out)).trans Hm.out); have HBC := Lib.hid hBC; have HBc := Lib.hid hbC; have Hl1 := Lib.hid hl1; have Hl2 := Lib.hid hl2; clear hBC hbC hl1 hl2 x4 x5 x9 f5 f9 y0 y1 y2 y3 y4 y5 y6 y7 y8 y9 y10 m3 n3
    refine hK _ _ ?_
    clear hK K
    try simp only [Act.put, List.setIfInBounds_toArray, List.set_cons_zero, List.set_cons_succ]
    refine wpAny_take (i := 25) (oi := { dst := some 30, op := Go.Op.move (Go.Operand.tmp 55), type := 131, pos := "world.go:198", after := #[{ on := 24, ground := Go.Ground.data }], guard := none }) (v := ?_) rfl (by kernel_rfl) (by kernel_rfl) (by kernel_rfl) (fun _ _ _ h => h) (Or.inl ⟨by rfl, ?_⟩) ?_
    rotate_left
    · (intro w; go_simp; try with_reducible rfl)
    simp only [Act.put, List.setIfInBounds_toArray, List.set_cons_zero, List.set_cons_succ]
    refine wpAny_take (i := 26) (oi := { dst := some 56, op := Go.Op.extract (Go.Operand.tmp 30) 0, type := 28, pos := "world.go:198", after := #[{ on := 25, ground := Go.Ground.data }], guard := none }) (v := ?_) rfl (by kernel_rfl) (by kernel_rfl) (by kernel_rfl) (fun _ _ _ h => h) (Or.inl ⟨by rfl, ?_⟩) ?_
    rotate_left
    · (intro w; go_simp; try with_reducible rfl)
    simp only [Act.put, List.setIfInBounds_toArray, List.set_cons_zero, List.set_cons_succ]
    refine wpAny_take (i := 27) (oi := { dst := some 57, op := Go.Op.extract (Go.Operand.tmp 30) 1, type := 31, pos := "world.go:198", after := #[{ on := 25, ground := Go.Ground.data }, { on := 33, ground := Go.Ground.gcOnly Go.Departure.lateStores }], guard := none }) (v := ?_) rfl (by kernel_rfl) (by kernel_rfl) (by kernel_rfl) (fun _ _ _ h => h) (Or.inl ⟨by rfl, ?_⟩) ?_
    rotate_left
    · (intro w; go_simp; try with_reducible rfl)
    simp only [Act.put, List.setIfInBounds_toArray, List.set_cons_zero, List.set_cons_succ]
    refine wpAny_take (i := 28) (oi := { dst := some 58, op := Go.Op.extract (Go.Operand.tmp 30) 2, type := 3, pos := "world.go:198", after := #[{ on := 25, ground := Go.Ground.data }, { on := 38, ground := Go.Ground.gcOnly Go.Departure.lateStores }], guard := none }) (v := ?_) rfl (by kernel_rfl) (by kernel_rfl) (by kernel_rfl) (fun _ _ _ h => h) (Or.inl ⟨by rfl, ?_⟩) ?_
    rotate_left
    · (intro w; go_simp; try with_reducible rfl)
    simp only [Act.put, List.setIfInBounds_toArray, List.set_cons_zero, List.set_cons_succ]
    refine wpAny_take (i := 29) (oi := { dst := some 59, op := Go.Op.nilCheck (Go.Operand.tmp 31), type := 0, pos := "world.go:198", after := #[{ on := 0, ground := Go.Ground.data }, { on := 0, ground := Go.Ground.phase }, { on := 1, ground := Go.Ground.textOnly Go.Departure.lateStores }, { on := 2, ground := Go.Ground.phase }, { on := 3, ground := Go.Ground.phase }, { on := 4, ground := Go.Ground.phase }, { on := 5, ground := Go.Ground.phase }, { on := 6, ground := Go.Ground.phase }, { on := 7, ground := Go.Ground.phase }, { on := 8, ground := Go.Ground.phase }, { on := 9, ground := Go.Ground.phase }, { on := 10, ground := Go.Ground.phase }, { on := 11, ground := Go.Ground.phase }, { on := 12, ground := Go.Ground.phase }, { on := 13, ground := Go.Ground.phase }, { on := 14, ground := Go.Ground.phase }, { on := 15, ground := Go.Ground.phase }, { on := 16, ground := Go.Ground.phase }, { on := 17, ground := Go.Ground.phase }, { on := 18, ground := Go.Ground.phase }, { on := 19, ground := Go.Ground.phase }, { on := 20, ground := Go.Ground.phase }, { on := 21, ground := Go.Ground.phase }, { on := 22, ground := Go.Ground.phase }, { on := 23, ground := Go.Ground.phase }, { on := 24, ground := Go.Ground.phase }, { on := 25, ground := Go.Ground.phase }, { on := 26, ground := Go.Ground.phase }, { on := 27, ground := Go.Ground.textOnly Go.Departure.lateStores }, { on := 28, ground := Go.Ground.textOnly Go.Departure.lateStores }], guard := none }) (v := ?_) rfl (by kernel_rfl) (by kernel_rfl) (by kernel_rfl) (fun _ _ _ h => h) (Or.inl ⟨by rfl, ?_⟩) ?_
    rotate_left
    · (intro w; go_simp; try with_reducible rfl)
    simp only [Act.put, List.setIfInBounds_toArray, List.set_cons_zero, List.set_cons_succ]
    refine wpAny_take (i := 30) (oi := { dst := some 60, op := Go.Op.fieldAddr 82 (Go.Operand.tmp 59) 0, type := 0, pos := "world.go:198", after := #[{ on := 29, ground := Go.Ground.data }, { on := 0, ground := Go.Ground.phase }, { on := 1, ground := Go.Ground.textOnly Go.Departure.lateStores }, { on := 2, ground := Go.Ground.phase }, { on := 3, ground := Go.Ground.phase }, { on := 4, ground := Go.Ground.phase }, { on := 5, ground := Go.Ground.phase }, { on := 6, ground := Go.Ground.phase }, { on := 7, ground := Go.Ground.phase }, { on := 8, ground := Go.Ground.phase }, { on := 9, ground := Go.Ground.phase }, { on := 10, ground := Go.Ground.phase }, { on := 11, ground := Go.Ground.phase }, { on := 12, ground := Go.Ground.phase }, { on := 13, ground := Go.Ground.phase }, { on := 14, ground := Go.Ground.phase }, { on := 15, ground := Go.Ground.phase }, { on := 16, ground := Go.Ground.phase }, { on := 17, ground := Go.Ground.phase }, { on := 18, ground := Go.Ground.phase }, { on := 19, ground := Go.Ground.phase }, { on := 20, ground := Go.Ground.phase }, { on := 21, ground := Go.Ground.phase }, { on := 22, ground := Go.Ground.phase }, { on := 23, ground := Go.Ground.phase }, { on := 24, ground := Go.Ground.phase }, { on := 25, ground := Go.Ground.phase }, { on := 26, ground := Go.Ground.phase }, { on := 27, ground := Go.Ground.textOnly Go.Departure.lateStores }, { on := 28, ground := Go.Ground.textOnly Go.Departure.lateStores }], guard := none }) (v := ?_) rfl (by kernel_rfl) (by kernel_rfl) (by kernel_rfl) (fun _ _ _ h => h) (Or.inl ⟨by rfl, ?_⟩) ?_
    rotate_left
    · (intro w; go_simp; try with_reducible rfl)
    simp only [Act.put, List.setIfInBounds_toArray, List.set_cons_zero, List.set_cons_succ]
    refine wpAny_take (i := 31) (oi := { dst := some 61, op := Go.Op.fieldAddr 80 (Go.Operand.tmp 60) 0, type := 0, pos := "world.go:198", after := #[{ on := 30, ground := Go.Ground.data }, { on := 0, ground := Go.Ground.phase }, { on := 1, ground := Go.Ground.textOnly Go.Departure.lateStores }, { on := 2, ground := Go.Ground.phase }, { on := 3, ground := Go.Ground.phase }, { on := 4, ground := Go.Ground.phase }, { on := 5, ground := Go.Ground.phase }, { on := 6, ground := Go.Ground.phase }, { on := 7, ground := Go.Ground.phase }, { on := 8, ground := Go.Ground.phase }, { on := 9, ground := Go.Ground.phase }, { on := 10, ground := Go.Ground.phase }, { on := 11, ground := Go.Ground.phase }, { on := 12, ground := Go.Ground.phase }, { on := 13, ground := Go.Ground.phase }, { on := 14, ground := Go.Ground.phase }, { on := 15, ground := Go.Ground.phase }, { on := 16, ground := Go.Ground.phase }, { on := 17, ground := Go.Ground.phase }, { on := 18, ground := Go.Ground.phase }, { on := 19, ground := Go.Ground.phase }, { on := 20, ground := Go.Ground.phase }, { on := 21, ground := Go.Ground.phase }, { on := 22, ground := Go.Ground.phase }, { on := 23, ground := Go.Ground.phase }, { on := 24, ground := Go.Ground.phase }, { on := 25, ground := Go.Ground.phase }, { on := 26, ground := Go.Ground.phase }, { on := 27, ground := Go.Ground.textOnly Go.Departure.lateStores }, { on := 28, ground := Go.Ground.textOnly Go.Departure.lateStores }], guard := none }) (v := ?_) rfl (by kernel_rfl) (by kernel_rfl) (by kernel_rfl) (fun _ _ _ h => h) (Or.inl ⟨by rfl, ?_⟩) ?_
    rotate_left
    · (intro w; go_simp; try with_reducible rfl)
    simp only [Act.put, List.setIfInBounds_toArray, List.set_cons_zero, List.set_cons_succ]
    refine wpAny_take (i := 32) (oi := { dst := some 62, op := Go.Op.fieldAddr 33 (Go.Operand.tmp 61) 2, type := 0, pos := "world.go:198", after := #[{ on := 31, ground := Go.Ground.data }, { on := 0, ground := Go.Ground.phase }, { on := 1, ground := Go.Ground.textOnly Go.Departure.lateStores }, { on := 2, ground := Go.Ground.phase }, { on := 3, ground := Go.Ground.phase }, { on := 4, ground := Go.Ground.phase }, { on := 5, ground := Go.Ground.phase }, { on := 6, ground := Go.Ground.phase }, { on := 7, ground := Go.Ground.phase }, { on := 8, ground := Go.Ground.phase }, { on := 9, ground := Go.Ground.phase }, { on := 10, ground := Go.Ground.phase }, { on := 11, ground := Go.Ground.phase }, { on := 12, ground := Go.Ground.phase }, { on := 13, ground := Go.Ground.phase }, { on := 14, ground := Go.Ground.phase }, { on := 15, ground := Go.Ground.phase }, { on := 16, ground := Go.Ground.phase }, { on := 17, ground := Go.Ground.phase }, { on := 18, ground := Go.Ground.phase }, { on := 19, ground := Go.Ground.phase }, { on := 20, ground := Go.Ground.phase }, { on := 21, ground := Go.Ground.phase }, { on := 22, ground := Go.Ground.phase }, { on := 23, ground := Go.Ground.phase }, { on := 24, ground := Go.Ground.phase }, { on := 25, ground := Go.Ground.phase }, { on := 26, ground := Go.Ground.phase }, { on := 27, ground := Go.Ground.textOnly Go.Departure.lateStores }, { on := 28, ground := Go.Ground.textOnly Go.Departure.lateStores }], guard := none }) (v := ?_) rfl (by kernel_rfl) (by kernel_rfl) (by kernel_rfl) (fun _ _ _ h => h) (Or.inl ⟨by rfl, ?_⟩) ?_
    rotate_left
    · (intro w; go_simp; try with_reducible rfl)
    simp only [Act.put, List.setIfInBounds_toArray, List.set_cons_zero, List.set_cons_succ]
    refine wpAny_ready (rs := [33]) (by kernel_rfl) (by simp) ?_
    refine AllReady.cons (o := { dst := none, op := Go.Op.store 28 (Go.Operand.tmp 62) (Go.Operand.tmp 56), type := 0, pos := "world.go:198", after := #[{ on := 32, ground := Go.Ground.data }, { on := 26, ground := Go.Ground.data }, { on := 24, ground := Go.Ground.chain }, { on := 0, ground := Go.Ground.phase }, { on := 1, ground := Go.Ground.textOnly Go.Departure.lateStores }, { on := 2, ground := Go.Ground.phase }, { on := 3, ground := Go.Ground.phase }, { on := 4, ground := Go.Ground.phase }, { on := 5, ground := Go.Ground.phase }, { on := 6, ground := Go.Ground.phase }, { on := 7, ground := Go.Ground.phase }, { on := 8, ground := Go.Ground.phase }, { on := 9, ground := Go.Ground.phase }, { on := 10, ground := Go.Ground.phase }, { on := 11, ground := Go.Ground.phase }, { on := 12, ground := Go.Ground.phase }, { on := 13, ground := Go.Ground.phase }, { on := 14, ground := Go.Ground.phase }, { on := 15, ground := Go.Ground.phase }, { on := 16, ground := Go.Ground.phase }, { on := 17, ground := Go.Ground.phase }, { on := 18, ground := Go.Ground.phase }, { on := 19, ground := Go.Ground.phase }, { on := 20, ground := Go.Ground.phase }, { on := 21, ground := Go.Ground.phase }, { on := 22, ground := Go.Ground.phase }, { on := 23, ground := Go.Ground.phase }, { on := 24, ground := Go.Ground.phase }, { on := 25, ground := Go.Ground.phase }, { on := 26, ground := Go.Ground.phase }, { on := 27, ground := Go.Ground.textOnly Go.Departure.lateStores }, { on := 28, ground := Go.Ground.textOnly Go.Departure.lateStores }], guard := none }) rfl (fun K hK => ?_) AllReady.nil
    go_simp
    refine hK _ _ ?_
    clear hK K
    try simp only [Act.put, List.setIfInBounds_toArray, List.set_cons_zero, List.set_cons_succ]
    refine wpAny_take (i := 34) (oi := { dst := some 63, op := Go.Op.nilCheck (Go.Operand.tmp 32), type := 0, pos := "world.go:198", after := #[{ on := 1, ground := Go.Ground.data }, { on := 0, ground := Go.Ground.phase }, { on := 1, ground := Go.Ground.phase }, { on := 2, ground := Go.Ground.phase }, { on := 3, ground := Go.Ground.phase }, { on := 4, ground := Go.Ground.phase }, { on := 5, ground := Go.Ground.phase }, { on := 6, ground := Go.Ground.phase }, { on := 7, ground := Go.Ground.phase }, { on := 8, ground := Go.Ground.phase }, { on := 9, ground := Go.Ground.phase }, { on := 10, ground := Go.Ground.phase }, { on := 11, ground := Go.Ground.phase }, { on := 12, ground := Go.Ground.phase }, { on := 13, ground := Go.Ground.phase }, { on := 14, ground := Go.Ground.phase }, { on := 15, ground := Go.Ground.phase }, { on := 16, ground := Go.Ground.phase }, { on := 17, ground := Go.Ground.phase }, { on := 18, ground := Go.Ground.phase }, { on := 19, ground := Go.Ground.phase }, { on := 20, ground := Go.Ground.phase }, { on := 21, ground := Go.Ground.phase }, { on := 22, ground := Go.Ground.phase }, { on := 23, ground := Go.Ground.phase }, { on := 24, ground := Go.Ground.phase }, { on := 25, ground := Go.Ground.phase }, { on := 26, ground := Go.Ground.phase }, { on := 27, ground := Go.Ground.phase }, { on := 28, ground := Go.Ground.textOnly Go.Departure.lateStores }, { on := 29, ground := Go.Ground.phase }, { on := 30, ground := Go.Ground.phase }, { on := 31, ground := Go.Ground.phase }, { on := 32, ground := Go.Ground.phase }, { on := 33, ground := Go.Ground.phase }], guard := none }) (v := ?_) rfl (by kernel_rfl) (by kernel_rfl) (by kernel_rfl) (fun _ _ _ h => h) (Or.inl ⟨by rfl, ?_⟩) ?_
    rotate_left
    · (intro w; go_simp; try with_reducible rfl)
    simp only [Act.put, List.setIfInBounds_toArray, List.set_cons_zero, List.set_cons_succ]
    refine wpAny_take (i := 35) (oi := { dst := some 64, op := Go.Op.fieldAddr 82 (Go.Operand.tmp 63) 0, type := 0, pos := "world.go:198", after := #[{ on := 34, ground := Go.Ground.data }, { on := 0, ground := Go.Ground.phase }, { on := 1, ground := Go.Ground.phase }, { on := 2, ground := Go.Ground.phase }, { on := 3, ground := Go.Ground.phase }, { on := 4, ground := Go.Ground.phase }, { on := 5, ground := Go.Ground.phase }, { on := 6, ground := Go.Ground.phase }, { on := 7, ground := Go.Ground.phase }, { on := 8, ground := Go.Ground.phase }, { on := 9, ground := Go.Ground.phase }, { on := 10, ground := Go.Ground.phase }, { on := 11, ground := Go.Ground.phase }, { on := 12, ground := Go.Ground.phase }, { on := 13, ground := Go.Ground.phase }, { on := 14, ground := Go.Ground.phase }, { on := 15, ground := Go.Ground.phase }, { on := 16, ground := Go.Ground.phase }, { on := 17, ground := Go.Ground.phase }, { on := 18, ground := Go.Ground.phase }, { on := 19, ground := Go.Ground.phase }, { on := 20, ground := Go.Ground.phase }, { on := 21, ground := Go.Ground.phase }, { on := 22, ground := Go.Ground.phase }, { on := 23, ground := Go.Ground.phase }, { on := 24, ground := Go.Ground.phase }, { on := 25, ground := Go.Ground.phase }, { on := 26, ground := Go.Ground.phase }, { on := 27, ground := Go.Ground.phase }, { on := 28, ground := Go.Ground.textOnly Go.Departure.lateStores }, { on := 29, ground := Go.Ground.phase }, { on := 30, ground := Go.Ground.phase }, { on := 31, ground := Go.Ground.phase }, { on := 32, ground := Go.Ground.phase }, { on := 33, ground := Go.Ground.phase }], guard := none }) (v := ?_) rfl (by kernel_rfl) (by kernel_rfl) (by kernel_rfl) (fun _ _ _ h => h) (Or.inl ⟨by rfl, ?_⟩) ?_
    rotate_left
    · (intro w; go_simp; try with_reducible rfl)
    simp only [Act.put, List.setIfInBounds_toArray, List.set_cons_zero, List.set_cons_succ]
    refine wpAny_take (i := 36) (oi := { dst := some 65, op := Go.Op.fieldAddr 80 (Go.Operand.tmp 64) 0, type := 0, pos := "world.go:198", after := #[{ on := 35, ground := Go.Ground.data }, { on := 0, ground := Go.Ground.phase }, { on := 1, ground := Go.Ground.phase }, { on := 2, ground := Go.Ground.phase }, { on := 3, ground := Go.Ground.phase }, { on := 4, ground := Go.Ground.phase }, { on := 5, ground := Go.Ground.phase }, { on := 6, ground := Go.Ground.phase }, { on := 7, ground := Go.Ground.phase }, { on := 8, ground := Go.Ground.phase }, { on := 9, ground := Go.Ground.phase }, { on := 10, ground := Go.Ground.phase }, { on := 11, ground := Go.Ground.phase }, { on := 12, ground := Go.Ground.phase }, { on := 13, ground := Go.Ground.phase }, { on := 14, ground := Go.Ground.phase }, { on := 15, ground := Go.Ground.phase }, { on := 16, ground := Go.Ground.phase }, { on := 17, ground := Go.Ground.phase }, { on := 18, ground := Go.Ground.phase }, { on := 19, ground := Go.Ground.phase }, { on := 20, ground := Go.Ground.phase }, { on := 21, ground := Go.Ground.phase }, { on := 22, ground := Go.Ground.phase }, { on := 23, ground := Go.Ground.phase }, { on := 24, ground := Go.Ground.phase }, { on := 25, ground := Go.Ground.phase }, { on := 26, ground := Go.Ground.phase }, { on := 27, ground := Go.Ground.phase }, { on := 28, ground := Go.Ground.textOnly Go.Departure.lateStores }, { on := 29, ground := Go.Ground.phase }, { on := 30, ground := Go.Ground.phase }, { on := 31, ground := Go.Ground.phase }, { on := 32, ground := Go.Ground.phase }, { on := 33, ground := Go.Ground.phase }], guard := none }) (v := ?_) rfl (by kernel_rfl) (by kernel_rfl) (by kernel_rfl) (fun _ _ _ h => h) (Or.inl ⟨by rfl, ?_⟩) ?_
    rotate_left
    · (intro w; go_simp; try with_reducible rfl)
    simp only [Act.put, List.setIfInBounds_toArray, List.set_cons_zero, List.set_cons_succ]
    refine wpAny_take (i := 37) (oi := { dst := some 66, op := Go.Op.fieldAddr 33 (Go.Operand.tmp 65) 6, type := 0, pos := "world.go:198", after := #[{ on := 36, ground := Go.Ground.data }, { on := 0, ground := Go.Ground.phase }, { on := 1, ground := Go.Ground.phase }, { on := 2, ground := Go.Ground.phase }, { on := 3, ground := Go.Ground.phase }, { on := 4, ground := Go.Ground.phase }, { on := 5, ground := Go.Ground.phase }, { on := 6, ground := Go.Ground.phase }, { on := 7, ground := Go.Ground.phase }, { on := 8, ground := Go.Ground.phase }, { on := 9, ground := Go.Ground.phase }, { on := 10, ground := Go.Ground.phase }, { on := 11, ground := Go.Ground.phase }, { on := 12, ground := Go.Ground.phase }, { on := 13, ground := Go.Ground.phase }, { on := 14, ground := Go.Ground.phase }, { on := 15, ground := Go.Ground.phase }, { on := 16, ground := Go.Ground.phase }, { on := 17, ground := Go.Ground.phase }, { on := 18, ground := Go.Ground.phase }, { on := 19, ground := Go.Ground.phase }, { on := 20, ground := Go.Ground.phase }, { on := 21, ground := Go.Ground.phase }, { on := 22, ground := Go.Ground.phase }, { on := 23, ground := Go.Ground.phase }, { on := 24, ground := Go.Ground.phase }, { on := 25, ground := Go.Ground.phase }, { on := 26, ground := Go.Ground.phase }, { on := 27, ground := Go.Ground.phase }, { on := 28, ground := Go.Ground.textOnly Go.Departure.lateStores }, { on := 29, ground := Go.Ground.phase }, { on := 30, ground := Go.Ground.phase }, { on := 31, ground := Go.Ground.phase }, { on := 32, ground := Go.Ground.phase }, { on := 33, ground := Go.Ground.phase }], guard := none }) (v := ?_) rfl (by kernel_rfl) (by kernel_rfl) (by kernel_rfl) (fun _ _ _ h => h) (Or.inl ⟨by rfl, ?_⟩) ?_
    rotate_left
    · (intro w; go_simp; try with_reducible rfl)
    simp only [Act.put, List.setIfInBounds_toArray, List.set_cons_zero, List.set_cons_succ]
    refine wpAny_ready (rs := [38]) (by kernel_rfl) (by simp) ?_
    refine AllReady.cons (o := { dst := none, op := Go.Op.store 31 (Go.Operand.tmp 66) (Go.Operand.tmp 57), type := 0, pos := "world.go:198", after := #[{ on := 37, ground := Go.Ground.data }, { on := 27, ground := Go.Ground.data }, { on := 33, ground := Go.Ground.chain }, { on := 0, ground := Go.Ground.phase }, { on := 1, ground := Go.Ground.phase }, { on := 2, ground := Go.Ground.phase }, { on := 3, ground := Go.Ground.phase }, { on := 4, ground := Go.Ground.phase }, { on := 5, ground := Go.Ground.phase }, { on := 6, ground := Go.Ground.phase }, { on := 7, ground := Go.Ground.phase }, { on := 8, ground := Go.Ground.phase }, { on := 9, ground := Go.Ground.phase }, { on := 10, ground := Go.Ground.phase }, { on := 11, ground := Go.Ground.phase }, { on := 12, ground := Go.Ground.phase }, { on := 13, ground := Go.Ground.phase }, { on := 14, ground := Go.Ground.phase }, { on := 15, ground := Go.Ground.phase }, { on := 16, ground := Go.Ground.phase }, { on := 17, ground := Go.Ground.phase }, { on := 18, ground := Go.Ground.phase }, { on := 19, ground := Go.Ground.phase }, { on := 20, ground := Go.Ground.phase }, { on := 21, ground := Go.Ground.phase }, { on := 22, ground := Go.Ground.phase }, { on := 23, ground := Go.Ground.phase }, { on := 24, ground := Go.Ground.phase }, { on := 25, ground := Go.Ground.phase }, { on := 26, ground := Go.Ground.phase }, { on := 27, ground := Go.Ground.phase }, { on := 28, ground := Go.Ground.textOnly Go.Departure.lateStores }, { on := 29, ground := Go.Ground.phase }, { on := 30, ground := Go.Ground.phase }, { on := 31, ground := Go.Ground.phase }, { on := 32, ground := Go.Ground.phase }, { on := 33, ground := Go.Ground.phase }], guard := none }) rfl (fun K hK => ?_) AllReady.nil
    go_simp
    refine hK _ _ ?_
    clear hK K
    try simp only [Act.put, List.setIfInBounds_toArray, List.set_cons_zero, List.set_cons_succ]
    refine wpAny_take (i := 39) (oi := { dst := some 67, op := Go.Op.fieldAddr 52 (Go.Operand.tmp 6) 3, type := 0, pos := "world.go:198", after := #[{ on := 0, ground := Go.Ground.phase }, { on := 1, ground := Go.Ground.phase }, { on := 2, ground := Go.Ground.phase }, { on := 3, ground := Go.Ground.phase }, { on := 4, ground := Go.Ground.phase }, { on := 5, ground := Go.Ground.phase }, { on := 6, ground := Go.Ground.phase }, { on := 7, ground := Go.Ground.phase }, { on := 8, ground := Go.Ground.phase }, { on := 9, ground := Go.Ground.phase }, { on := 10, ground := Go.Ground.phase }, { on := 11, ground := Go.Ground.phase }, { on := 12, ground := Go.Ground.phase }, { on := 13, ground := Go.Ground.phase }, { on := 14, ground := Go.Ground.phase }, { on := 15, ground := Go.Ground.phase }, { on := 16, ground := Go.Ground.phase }, { on := 17, ground := Go.Ground.phase }, { on := 18, ground := Go.Ground.phase }, { on := 19, ground := Go.Ground.phase }, { on := 20, ground := Go.Ground.phase }, { on := 21, ground := Go.Ground.phase }, { on := 22, ground := Go.Ground.phase }, { on := 23, ground := Go.Ground.phase }, { on := 24, ground := Go.Ground.phase }, { on := 25, ground := Go.Ground.phase }, { on := 26, ground := Go.Ground.phase }, { on := 27, ground := Go.Ground.phase }, { on := 28, ground := Go.Ground.phase }, { on := 29, ground := Go.Ground.phase }, { on := 30, ground := Go.Ground.phase }, { on := 31, ground := Go.Ground.phase }, { on := 32, ground := Go.Ground.phase }, { on := 33, ground := Go.Ground.phase }, { on := 34, ground := Go.Ground.phase }, { on := 35, ground := Go.Ground.phase }, { on := 36, ground := Go.Ground.phase }, { on := 37, ground := Go.Ground.phase }, { on := 38, ground := Go.Ground.phase }], guard := none }) (v := ?_) rfl (by kernel_rfl) (by kernel_rfl) (by kernel_rfl) (fun _ _ _ h => h) (Or.inl ⟨by rfl, ?_⟩) ?_
    rotate_left
    · (intro w; go_simp; try with_reducible rfl)
    simp only [Act.put, List.setIfInBounds_toArray, List.set_cons_zero, List.set_cons_succ]
    refine wpAny_ready (rs := [40]) (by kernel_rfl) (by simp) ?_
    refine AllReady.cons (o := { dst := none, op := Go.Op.store 3 (Go.Operand.tmp 67) (Go.Operand.tmp 58), type := 0, pos := "world.go:198", after := #[{ on := 39, ground := Go.Ground.data }, { on := 28, ground := Go.Ground.data }, { on := 38, ground := Go.Ground.chain }, { on := 0, ground := Go.Ground.phase }, { on := 1, ground := Go.Ground.phase }, { on := 2, ground := Go.Ground.phase }, { on := 3, ground := Go.Ground.phase }, { on := 4, ground := Go.Ground.phase }, { on := 5, ground := Go.Ground.phase }, { on := 6, ground := Go.Ground.phase }, { on := 7, ground := Go.Ground.phase }, { on := 8, ground := Go.Ground.phase }, { on := 9, ground := Go.Ground.phase }, { on := 10, ground := Go.Ground.phase }, { on := 11, ground := Go.Ground.phase }, { on := 12, ground := Go.Ground.phase }, { on := 13, ground := Go.Ground.phase }, { on := 14, ground := Go.Ground.phase }, { on := 15, ground := Go.Ground.phase }, { on := 16, ground := Go.Ground.phase }, { on := 17, ground := Go.Ground.phase }, { on := 18, ground := Go.Ground.phase }, { on := 19, ground := Go.Ground.phase }, { on := 20, ground := Go.Ground.phase }, { on := 21, ground := Go.Ground.phase }, { on := 22, ground := Go.Ground.phase }, { on := 23, ground := Go.Ground.phase }, { on := 24, ground := Go.Ground.phase }, { on := 25, ground := Go.Ground.phase }, { on := 26, ground := Go.Ground.phase }, { on := 27, ground := Go.Ground.phase }, { on := 28, ground := Go.Ground.phase }, { on := 29, ground := Go.Ground.phase }, { on := 30, ground := Go.Ground.phase }, { on := 31, ground := Go.Ground.phase }, { on := 32, ground := Go.Ground.phase }, { on := 33, ground := Go.Ground.phase }, { on := 34, ground := Go.Ground.phase }, { on := 35, ground := Go.Ground.phase }, { on := 36, ground := Go.Ground.phase }, { on := 37, ground := Go.Ground.phase }, { on := 38, ground := Go.Ground.phase }], guard := none }) rfl (fun K hK => ?_) AllReady.nil
    go_simp
    refine hK _ _ ?_
    clear hK K
    try simp only [Act.put, List.setIfInBounds_toArray, List.set_cons_zero, List.set_cons_succ]
    refine wpAny_done (by kernel_rfl) ?_ _
    all_goals
      obtain ⟨hS, hMk, _, hgd, hne, hki, hHg, hgl, hia, hsz⟩ := HKP.out
      have hbase : base ≤ q3.heap.size := HB.out.size |> fun h => by omega
      have hO1 := HE.out.off hbase (show SK.Loose wC q3.heap.size a1 c1 S2 from Hl1.out)
      have hO2 := HE.out.off hbase (show NK.Loose wC q3.heap.size a2 c2 K2 from Hl2.out)
      have hEc := (((HE.out.below HBC.out).putSocks hO1).putMarks (hO2.set (p := ⟨g, 5, none⟩) (.inr (.inl rfl)) (.slice a1 S2.length c1))).setX (p := ⟨rm, 3, none⟩) (.inr rfl) (.int .i64 A.socks.length)
      have hgb := HE.out.hg
      have hrm := HRM.out.1
      have hrg : W.heap.size ≠ g := fun e => HE.out.xg (.inl (.inr e.symm))
      have hbx := (((HB.out.trans (HBC.out.mono hbase)).setCell (p := ⟨g, 5, none⟩) hgb (.slice a1 S2.length c1)).setCell (p := ⟨g, 9, none⟩) hgb (.slice a2 K2.length c2)).setCell (p := ⟨rm, 3, none⟩) (by dsimp only; omega) (.int .i64 A.socks.length)
      have hrx := (Below.heap_setCell _ ⟨rm, 3, none⟩ (.int .i64 A.socks.length) W.heap.size (by dsimp only; omega)).trans ((Below.heap_setCell _ ⟨g, 9, none⟩ (.slice a2 K2.length c2) W.heap.size hrg).trans ((Below.heap_setCell wC ⟨g, 5, none⟩ (.slice a1 S2.length c1) W.heap.size hrg).trans ((HBC.out.block _ (lt_of_block Hr.out)).trans Hr.out)))
      have hmx0 := (Below.heap_setCell _ ⟨g, 9, none⟩ (.slice a2 K2.length c2) rm hne2).trans ((Below.heap_setCell wC ⟨g, 5, none⟩ (.slice a1 S2.length c1) rm hne2).trans ((HBC.out.block _ (lt_of_block Hm.out)).trans Hm.out))
      have hmx : (((wC.setCell ⟨g, 5, none⟩ (.slice a1 S2.length c1)).setCell ⟨g, 9, none⟩ (.slice a2 K2.length c2)).setCell ⟨rm, 3, none⟩ (.int .i64 A.socks.length)).heap[rm]? = some (.cells #[.int .i8 11, .int .i64 0, .int .i64 0, .int .i64 A.socks.length, .string { data := #[] }, .int .i64 0] 52 (0, 0)) := set_at hmx0 3 _
      have hqq : ∃ qf, (qf = (((wC.setCell ⟨g, 5, none⟩ (.slice a1 S2.length c1)).setCell ⟨g, 9, none⟩ (.slice a2 K2.length c2)).setCell ⟨rm, 3, none⟩ (.int .i64 A.socks.length)) ∨ qf = (((wC.setCell ⟨g, 5, none⟩ (.slice a1 S2.length c1)).setCell ⟨g, 9, none⟩ (.slice a2 K2.length c2)).setCell ⟨rm, 3, none⟩ (.int .i64 A.socks.length)).drew) ∧ EvX base (fun b => (False ∨ b = W.heap.size) ∨ b = rm) qf g { { u with sa := a1, sc := c1 } with ma := a2, mc := c2 } { A with dials := A.dials.set k { x with over := true }, socks := S2, marks := K2 } := ⟨_, .inl rfl, hEc⟩
      clear hqq p5 p9 t5 t9 s3 v3 hO1 hO2 hmx0 hbase
      first
        | (obtain ⟨qf, hqf⟩ : ∃ X, X = (((wC.setCell ⟨g, 5, none⟩ (.slice a1 S2.length c1)).setCell ⟨g, 9, none⟩ (.slice a2 K2.length c2)).setCell ⟨rm, 3, none⟩ (.int .i64 A.socks.length)).drew := ⟨_, rfl⟩; replace hEc := hEc.drew; replace hbx := hbx.drew; replace hrx := drew_at2 hrx; replace hmx := drew_at2 hmx; rw [← hqf] at hEc hbx hrx hmx; rw [← hqf]; clear hqf)
        | (obtain ⟨qf, hqf⟩ : ∃ X, X = (((wC.setCell ⟨g, 5, none⟩ (.slice a1 S2.length c1)).setCell ⟨g, 9, none⟩ (.slice a2 K2.length c2)).setCell ⟨rm, 3, none⟩ (.int .i64 A.socks.length)) := ⟨_, rfl⟩; rw [← hqf] at hEc hbx hrx hmx; rw [← hqf]; clear hqf)
      obtain ⟨⟨m0, m1, m2, m3, m4, m5⟩, n0, n1, n2, n3, n4, n5⟩ := boxes6 hmx
      obtain ⟨⟨z0, z1, z2, z3, z4, z5⟩, h0, h1, h2, h3, h4, h5⟩ := boxes6 hrx
      have HEc := Lib.hid hEc
      have HRx := Lib.hid hrx
      have HBx := Lib.hid hbx
      clear hEc hrx hbx hmx hrm hrg
      go_wp2_with fail
      have gg0 : (qf.setCell ⟨W.heap.size, 0, none⟩ (.int .i8 11)).heap[W.heap.size]? = some (.cells #[.int .i8 11, .int .i64 0, .int .i64 0, .int .i64 0, .string { data := #[] }, .int .i64 0] 52 (0, 0)) := set_at HRx.out 0 _
      have gg1 : ((qf.setCell ⟨W.heap.size, 0, none⟩ (.int .i8 11)).setCell ⟨W.heap.size, 1, none⟩ (.int .i64 0)).heap[W.heap.size]? = some (.cells #[.int .i8 11, .int .i64 0, .int .i64 0, .int .i64 0, .string { data := #[] }, .int .i64 0] 52 (0, 0)) := set_at gg0 1 _
      have gg2 : (((qf.setCell ⟨W.heap.size, 0, none⟩ (.int .i8 11)).setCell ⟨W.heap.size, 1, none⟩ (.int .i64 0)).setCell ⟨W.heap.size, 2, none⟩ (.int .i64 0)).heap[W.heap.size]? = some (.cells #[.int .i8 11, .int .i64 0, .int .i64 0, .int .i64 0, .string { data := #[] }, .int .i64 0] 52 (0, 0)) := set_at gg1 2 _
      have gg3 : ((((qf.setCell ⟨W.heap.size, 0, none⟩ (.int .i8 11)).setCell ⟨W.heap.size, 1, none⟩ (.int .i64 0)).setCell ⟨W.heap.size, 2, none⟩ (.int .i64 0)).setCell ⟨W.heap.size, 3, none⟩ (.int .i64 A.socks.length)).heap[W.heap.size]? = some (.cells #[.int .i8 11, .int .i64 0, .int .i64 0, .int .i64 A.socks.length, .string { data := #[] }, .int .i64 0] 52 (0, 0)) := set_at gg2 3 _
      have gg4 : (((((qf.setCell ⟨W.heap.size, 0, none⟩ (.int .i8 11)).setCell ⟨W.heap.size, 1, none⟩ (.int .i64 0)).setCell ⟨W.heap.size, 2, none⟩ (.int .i64 0)).setCell ⟨W.heap.size, 3, none⟩ (.int .i64 A.socks.length)).setCell ⟨W.heap.size, 4, none⟩ (.string { data := #[] })).heap[W.heap.size]? = some (.cells #[.int .i8 11, .int .i64 0, .int .i64 0, .int .i64 A.socks.length, .string { data := #[] }, .int .i64 0] 52 (0, 0)) := set_at gg3 4 _
      have gg5 : ((((((qf.setCell ⟨W.heap.size, 0, none⟩ (.int .i8 11)).setCell ⟨W.heap.size, 1, none⟩ (.int .i64 0)).setCell ⟨W.heap.size, 2, none⟩ (.int .i64 0)).setCell ⟨W.heap.size, 3, none⟩ (.int .i64 A.socks.length)).setCell ⟨W.heap.size, 4, none⟩ (.string { data := #[] })).setCell ⟨W.heap.size, 5, none⟩ (.int .i64 0)).heap[W.heap.size]? = some (.cells #[.int .i8 11, .int .i64 0, .int .i64 0, .int .i64 A.socks.length, .string { data := #[] }, .int .i64 0] 52 (0, 0)) := set_at gg4 5 _
      refine bodyPost_ret (res_cell rfl _ _ _ W.heap.size rfl _ (load_Lt (x := ⟨11, 0, 0, A.socks.length, { data := #[] }, 0⟩) gg5)) rfl ?_
      exact ⟨rfl, ⟨{ { u with sa := a1, sc := c1 } with ma := a2, mc := c2 }, by rw [hBE.out]; exact ((((((HEc.out.setX (p := ⟨W.heap.size, 0, none⟩) (.inl (.inr rfl)) (.int .i8 11)).setX (p := ⟨W.heap.size, 1, none⟩) (.inl (.inr rfl)) (.int .i64 0)).setX (p := ⟨W.heap.size, 2, none⟩) (.inl (.inr rfl)) (.int .i64 0)).setX (p := ⟨W.heap.size, 3, none⟩) (.inl (.inr rfl)) (.int .i64 A.socks.length)).setX (p := ⟨W.heap.size, 4, none⟩) (.inl (.inr rfl)) (.string { data := #[] })).setX (p := ⟨W.heap.size, 5, none⟩) (.inl (.inr rfl)) (.int .i64 0)).bare⟩, ((((((HBx.out.setCell (p := ⟨W.heap.size, 0, none⟩) hle (.int .i8 11)).setCell (p := ⟨W.heap.size, 1, none⟩) hle (.int .i64 0)).setCell (p := ⟨W.heap.size, 2, none⟩) hle (.int .i64 0)).setCell (p := ⟨W.heap.size, 3, none⟩) hle (.int .i64 A.socks.length)).setCell (p := ⟨W.heap.size, 4, none⟩) hle (.string { data := #[] })).setCell (p := ⟨W.heap.size, 5, none⟩) hle (.int .i64 0))⟩
  · have hfb : (x.fate != 0) = true := by simp [hf]
    obtain rfl : M = ⟨11, 0, 0, 0, { data := #[] }, 160⟩ := by rw [hMv, if_neg hf]
    have hBE := Lib.hid (show B = { A with dials := A.dials.set k { x with over := true } } from by rw [hB, if_neg hf])
    clear hB hMv
    go_wp2_with fail
    have g0 : (q2.setCell ⟨W.heap.size, 0, none⟩ (.int .i8 11)).heap[W.heap.size]? = some (.cells #[.int .i8 11, .int .i64 0, .int .i64 0, .int .i64 0, .string { data := #[] }, .int .i64 0] 52 (0, 0)) := set_at Hr.out 0 _
    have g1 : ((q2.setCell ⟨W.heap.size, 0, none⟩ (.int .i8 11)).setCell ⟨W.heap.size, 1, none⟩ (.int .i64 0)).heap[W.heap.size]? = some (.cells #[.int .i8 11, .int .i64 0, .int .i64 0, .int .i64 0, .string { data := #[] }, .int .i64 0] 52 (0, 0)) := set_at g0 1 _
    have g2 : (((q2.setCell ⟨W.heap.size, 0, none⟩ (.int .i8 11)).setCell ⟨W.heap.size, 1, none⟩ (.int .i64 0)).setCell ⟨W.heap.size, 2, none⟩ (.int .i64 0)).heap[W.heap.size]? = some (.cells #[.int .i8 11, .int .i64 0, .int .i64 0, .int .i64 0, .string { data := #[] }, .int .i64 0] 52 (0, 0)) := set_at g1 2 _
    have g3 : ((((q2.setCell ⟨W.heap.size, 0, none⟩ (.int .i8 11)).setCell ⟨W.heap.size, 1, none⟩ (.int .i64 0)).setCell ⟨W.heap.size, 2, none⟩ (.int .i64 0)).setCell ⟨W.heap.size, 3, none⟩ (.int .i64 0)).heap[W.heap.size]? = some (.cells #[.int .i8 11, .int .i64 0, .int .i64 0, .int .i64 0, .string { data := #[] }, .int .i64 0] 52 (0, 0)) := set_at g2 3 _
    have g4 : (((((q2.setCell ⟨W.heap.size, 0, none⟩ (.int .i8 11)).setCell ⟨W.heap.size, 1, none⟩ (.int .i64 0)).setCell ⟨W.heap.size, 2, none⟩ (.int .i64 0)).setCell ⟨W.heap.size, 3, none⟩ (.int .i64 0)).setCell ⟨W.heap.size, 4, none⟩ (.string { data := #[] })).heap[W.heap.size]? = some (.cells #[.int .i8 11, .int .i64 0, .int .i64 0, .int .i64 0, .string { data := #[] }, .int .i64 0] 52 (0, 0)) := set_at g3 4 _
    have g5 : ((((((q2.setCell ⟨W.heap.size, 0, none⟩ (.int .i8 11)).setCell ⟨W.heap.size, 1, none⟩ (.int .i64 0)).setCell ⟨W.heap.size, 2, none⟩ (.int .i64 0)).setCell ⟨W.heap.size, 3, none⟩ (.int .i64 0)).setCell ⟨W.heap.size, 4, none⟩ (.string { data := #[] })).setCell ⟨W.heap.size, 5, none⟩ (.int .i64 160)).heap[W.heap.size]? = some (.cells #[.int .i8 11, .int .i64 0, .int .i64 0, .int .i64 0, .string { data := #[] }, .int .i64 160] 52 (0, 0)) := set_at g4 5 _
    refine bodyPost_ret (res_cell rfl _ _ _ W.heap.size rfl _ (load_Lt (x := ⟨11, 0, 0, 0, { data := #[] }, 160⟩) g5)) rfl ?_
    exact ⟨rfl, ⟨u, by rw [hBE.out]; exact ((((((HE.out.setX (p := ⟨W.heap.size, 0, none⟩) (.inr rfl) (.int .i8 11)).setX (p := ⟨W.heap.size, 1, none⟩) (.inr rfl) (.int .i64 0)).setX (p := ⟨W.heap.size, 2, none⟩) (.inr rfl) (.int .i64 0)).setX (p := ⟨W.heap.size, 3, none⟩) (.inr rfl) (.int .i64 0)).setX (p := ⟨W.heap.size, 4, none⟩) (.inr rfl) (.string { data := #[] })).setX (p := ⟨W.heap.size, 5, none⟩) (.inr rfl) (.int .i64 160)).bare⟩, ((((((HB.out.setCell (p := ⟨W.heap.size, 0, none⟩) hle (.int .i8 11)).setCell (p := ⟨W.heap.size, 1, none⟩) hle (.int .i64 0)).setCell (p := ⟨W.heap.size, 2, none⟩) hle (.int .i64 0)).setCell (p := ⟨W.heap.size, 3, none⟩) hle (.int .i64 0)).setCell (p := ⟨W.heap.size, 4, none⟩) hle (.string { data := #[] })).setCell (p := ⟨W.heap.size, 5, none⟩) hle (.int .i64 160))⟩

end Go.Proofs.Ytciohjgcndgiaaa
