/- What the document says of three that meet at a duct, over the calls' contracts. -/
import Derived.Test.YtjiepdgflfhkcaaSpecs
import Derived.Test.YtjiepdgflfhkcaaMoreLaw
import Derived.Laws.MakeOwn
set_option linter.unusedSimpArgs false
set_option linter.unusedVariables false
namespace Go.Proofs.Ytjiepdgflfhkcaa
open Go.RowKit Go.Proofs.Ytjiepdgflfhkcaa.Kind Go.Proofs.Ytjiepdgflfhkcaa.P7

def oPut : Of := ⟨0, 3, ⟨0, 0, 7, 0, ⟨#[]⟩, 0⟩, 0⟩
def oTake : Of := ⟨1, 3, ⟨0, 0, 0, 0, ⟨#[]⟩, 0⟩, 0⟩
def dv0 : Dv := ⟨0, none, 0, 0, false⟩
def dv1 : Dv := ⟨0, none, 0, 0, true⟩
theorem ready_open : ready [[oPut], [oTake], [oTake]] [dv0, dv0, dv0, dv0] 0 [] [] = [⟨0, 0, 1, 0⟩, ⟨0, 0, 2, 0⟩] := by decide +kernel
theorem ready_shut : ready [[oPut], [oTake], [oTake]] [dv0, dv0, dv0, dv1] 0 [] [] = [⟨1, 0, -1, -1⟩, ⟨2, 0, -1, -1⟩] := by decide +kernel
theorem letter_open : letterP ⟨0, 0, 2, 0⟩ [[oPut], [oTake], [oTake]] = (oPut.m, true) := by decide +kernel
theorem loadVar_offer {w : World} {b : Nat} {k0 k2 : Int} {k1 k3 k4 k5 k7 k8 : Int} {x : ByteArray} {t : TypeId} (h : w.heap[b]? = some (.cells #[.int .i8 k0, .int .i64 k1, .int .i8 k2, .int .i64 k3, .int .i64 k4, .int .i64 k5, .string x, .int .i64 k7, .int .i64 k8] t (0, 0))) :
    (loadVar 38 ⟨b, 0, none⟩).run Try.prog w = .ok (.agg #[.int .i8 k0, .int .i64 k1, .int .i8 k2, .int .i64 k3, .int .i64 k4, .int .i64 k5, .string x, .int .i64 k7, .int .i64 k8]) w := by
  obtain ⟨c0, c1, c2, c3, c4, c5, c6, c7, c8⟩ := box9 h
  have a3 := Try.isAgg38
  have z3 := Try.sizeOf38
  simp [loadVar, go_sem, *]

set_option maxHeartbeats 4000000 in
set_option maxRecDepth 1000000 in
theorem put_any (w : World) : Calls Try.prog 15 #[.int .i64 3, .int .i64 7] w fun e w' => e = .returned (.agg #[.int .i8 0, .int .i64 3, .int .i8 0, .int .i64 0, .int .i64 7, .int .i64 0, .string ⟨#[]⟩, .int .i64 0, .int .i64 0]) ∧ Below w.heap.size w w' := by
  have HL := Lib.hid (laid1 w (.cells #[.int .i8 0, .int .i64 3, .int .i8 0, .int .i64 0, .int .i64 7, .int .i64 0, .string ⟨#[]⟩, .int .i64 0, .int .i64 0] 38))
  have HB := Lib.hid (below1 w (.cells #[.int .i8 0, .int .i64 3, .int .i8 0, .int .i64 0, .int .i64 7, .int .i64 0, .string ⟨#[]⟩, .int .i64 0, .int .i64 0] 38))
  go_enter Try.func15, Try.ntmps15
  go_wp2_with fail
  refine bodyPost_ret (res_cell rfl _ _ _ w.heap.size rfl _ (loadVar_offer HL.out)) rfl ?_
  exact ⟨rfl, HB.out⟩
set_option maxHeartbeats 4000000 in
set_option maxRecDepth 1000000 in
theorem take_any (w : World) : Calls Try.prog 16 #[.int .i64 3] w fun e w' => e = .returned (.agg #[.int .i8 1, .int .i64 3, .int .i8 0, .int .i64 0, .int .i64 0, .int .i64 0, .string ⟨#[]⟩, .int .i64 0, .int .i64 0]) ∧ Below w.heap.size w w' := by
  have HL := Lib.hid (laid1 w (.cells #[.int .i8 1, .int .i64 3, .int .i8 0, .int .i64 0, .int .i64 0, .int .i64 0, .string ⟨#[]⟩, .int .i64 0, .int .i64 0] 38))
  have HB := Lib.hid (below1 w (.cells #[.int .i8 1, .int .i64 3, .int .i8 0, .int .i64 0, .int .i64 0, .int .i64 0, .string ⟨#[]⟩, .int .i64 0, .int .i64 0] 38))
  go_enter Try.func16, Try.ntmps16
  go_wp2_with fail
  refine bodyPost_ret (res_cell rfl _ _ _ w.heap.size rfl _ (loadVar_offer HL.out)) rfl ?_
  exact ⟨rfl, HB.out⟩

theorem eql_self_meet (x : Mt) (W : World) : (binOp .eql 30 (.agg #[.int .i64 x.p, .int .i64 x.i, .int .i64 x.q, .int .i64 x.j]) (.agg #[.int .i64 x.p, .int .i64 x.i, .int .i64 x.q, .int .i64 x.j])).run Try.prog W = .ok (.bool true) W := by
  have h := eql_meet W x x
  simp only [Mt.v] at h
  rw [h]
  simp

theorem run_four (w : World) : (Instr.makeSlice 23 (.int .i64 4) (.int .i64 4)).run Try.prog w = .ok (.slice (some ⟨w.heap.size, 0, none⟩) 4 4) (w.alloc (.cells #[.int .i64 0, .slice none 0 0, .bool false, .int .i64 0, .slice none 0 0, .bool false, .int .i64 0, .slice none 0 0, .bool false, .int .i64 0, .slice none 0 0, .bool false] 42)) := by
  obtain ⟨i0, hi, hz0, hz1, hz2⟩ := info_parts DK.hi
  have h := run_makeSlice (P := Try.prog) (w := w) 23 42 i0 DK.z DK.hu hi hz0 .i64 .i64 4 4 (by omega) (by omega) (by rw [hz1]; decide) (by rw [hz2]; decide) (by omega)
  rw [hz1] at h
  have e : madeCells DK.z.cells (Int.toNat 4 * DK.k) = #[.int .i64 0, .slice none 0 0, .bool false, .int .i64 0, .slice none 0 0, .bool false, .int .i64 0, .slice none 0 0, .bool false, .int .i64 0, .slice none 0 0, .bool false] := by kernel_rfl
  rw [e] at h
  exact h
/-- A row of four ducts in a block. -/
theorem row4 {w : World} {g : Nat} {cl : Bool} {t : TypeId} (h : w.heap[g]? = some (.cells #[.int .i64 0, .slice none 0 0, .bool false, .int .i64 0, .slice none 0 0, .bool false, .int .i64 0, .slice none 0 0, .bool false, .int .i64 0, .slice none 0 0, .bool cl] t (0, 0))) : DK.RowC w (some ⟨g, 0, none⟩) 4 [dv0, dv0, dv0, ⟨0, none, 0, 0, cl⟩] :=
  ⟨by simp, by unfold maxLen; omega, (fun e => by cases e), fun _ => ⟨g, 0, rfl, lt_of_block h, at_of h (Nat.le_refl 12) (by cases cl <;> rfl)⟩⟩

set_option maxHeartbeats 16000000 in
set_option maxRecDepth 1000000 in
theorem wakes_walk (HAll : AllSpec) (HPick : PickSpec) (HLet : LetterSpec) : WakesSpec := by
  intro w
  have HP := Lib.hid (fun w => put_any w)
  have HT := Lib.hid (fun w => take_any w)
  have HA0 := Lib.hid (fun hs A1 b w h5 h6 => HAll hs [[oPut], [oTake], [oTake]] [dv0, dv0, dv0, dv0] 0 [] [] A1 b none none 3 4 0 0 w (by decide) (by decide) (by decide) (by decide) h5 h6 (row_none _) (row_none _))
  have HA1 := Lib.hid (fun hs A1 b w h5 h6 => HAll hs [[oPut], [oTake], [oTake]] [dv0, dv0, dv0, dv1] 0 [] [] A1 b none none 3 4 0 0 w (by decide) (by decide) (by decide) (by decide) h5 h6 (row_none _) (row_none _))
  rw [ready_open] at HA0
  rw [ready_shut] at HA1
  have HPk := Lib.hid (fun a c w h => HPick 3 [⟨0, 0, 1, 0⟩, ⟨0, 0, 2, 0⟩] ⟨0, 0, 2, 0⟩ a c w (by decide) (by decide) (by decide) (by decide) h)
  have HLt := Lib.hid (fun hs a w h => HLet ⟨0, 0, 2, 0⟩ hs [[oPut], [oTake], [oTake]] a 3 w oPut.m true letter_open h)
  clear HAll HPick HLet
  go_enter Try.func7, Try.ntmps7
  go_wp2_with fail
  with_reducible refine (HP.out _).mono ?_
  rintro e w1 ⟨rfl, hB⟩
  have hb1 := below1 w1 (.cells #[.int .i8 0, .int .i64 3, .int .i8 0, .int .i64 0, .int .i64 7, .int .i64 0, .string ⟨#[]⟩, .int .i64 0, .int .i64 0] 38)
  have HR1 := Lib.hid (rowC_at (K := OK) w1 38 [oPut] #[.int .i8 0, .int .i64 3, .int .i8 0, .int .i64 0, .int .i64 7, .int .i64 0, .string ⟨#[]⟩, .int .i64 0, .int .i64 0] w1.heap.size 1 rfl rfl rfl (by simp))
  have HB1 := Lib.hid (hB.trans (hb1.mono hB.size))
  clear hB hb1
  go_wp2_with fail
  generalize w1.alloc (.cells #[.int .i8 0, .int .i64 3, .int .i8 0, .int .i64 0, .int .i64 7, .int .i64 0, .string ⟨#[]⟩, .int .i64 0, .int .i64 0] 38) = W1 at *
  with_reducible refine (HT.out _).mono ?_
  rintro e w2 ⟨rfl, hB⟩
  have hb2 := below1 w2 (.cells #[.int .i8 1, .int .i64 3, .int .i8 0, .int .i64 0, .int .i64 0, .int .i64 0, .string ⟨#[]⟩, .int .i64 0, .int .i64 0] 38)
  have hbb := hB.trans (hb2.mono hB.size)
  have HR12 := Lib.hid (HR1.out.below hbb)
  have HR2 := Lib.hid (rowC_at (K := OK) w2 38 [oTake] #[.int .i8 1, .int .i64 3, .int .i8 0, .int .i64 0, .int .i64 0, .int .i64 0, .string ⟨#[]⟩, .int .i64 0, .int .i64 0] w2.heap.size 1 rfl rfl rfl (by simp))
  have HB2 := Lib.hid (HB1.out.trans (hbb.mono HB1.out.size))
  clear hB hb2 hbb HB1 HR1
  go_wp2_with fail
  generalize w2.alloc (.cells #[.int .i8 1, .int .i64 3, .int .i8 0, .int .i64 0, .int .i64 0, .int .i64 0, .string ⟨#[]⟩, .int .i64 0, .int .i64 0] 38) = W2 at *
  with_reducible refine (HT.out _).mono ?_
  rintro e w3 ⟨rfl, hB⟩
  have hb3 := below1 w3 (.cells #[.int .i8 1, .int .i64 3, .int .i8 0, .int .i64 0, .int .i64 0, .int .i64 0, .string ⟨#[]⟩, .int .i64 0, .int .i64 0] 38)
  have hbb := hB.trans (hb3.mono hB.size)
  have HR13 := Lib.hid (HR12.out.below hbb)
  have HR23 := Lib.hid (HR2.out.below hbb)
  have HR3 := Lib.hid (rowC_at (K := OK) w3 38 [oTake] #[.int .i8 1, .int .i64 3, .int .i8 0, .int .i64 0, .int .i64 0, .int .i64 0, .string ⟨#[]⟩, .int .i64 0, .int .i64 0] w3.heap.size 1 rfl rfl rfl (by simp))
  have HB3 := Lib.hid (HB2.out.trans (hbb.mono HB2.out.size))
  clear hB hb3 hbb HB2 HR12 HR2
  -- the rows
  obtain ⟨W3, hW3⟩ : ∃ W3, W3 = w3.alloc (.cells #[.int .i8 1, .int .i64 3, .int .i8 0, .int .i64 0, .int .i64 0, .int .i64 0, .string ⟨#[]⟩, .int .i64 0, .int .i64 0] 38) := ⟨_, rfl⟩
  have hs3 : W3.heap.size = w3.heap.size + 1 := by rw [hW3]; simp
  rw [← hW3] at HR13 HR23 HR3 HB3
  have hb5 := below1 W3 (.cells #[.slice (some ⟨w1.heap.size, 0, none⟩) 1 1, .slice (some ⟨w2.heap.size, 0, none⟩) 1 1, .slice (some ⟨w3.heap.size, 0, none⟩) 1 1] 31)
  have hrk := rowC_at (K := RK) W3 31 [⟨some ⟨w1.heap.size, 0, none⟩, 1, 1⟩, ⟨some ⟨w2.heap.size, 0, none⟩, 1, 1⟩, ⟨some ⟨w3.heap.size, 0, none⟩, 1, 1⟩] #[.slice (some ⟨w1.heap.size, 0, none⟩) 1 1, .slice (some ⟨w2.heap.size, 0, none⟩) 1 1, .slice (some ⟨w3.heap.size, 0, none⟩) 1 1] W3.heap.size 3 rfl rfl rfl (by simp)
  have hov := (over_append (over2 HR13.out HR23.out) HR3.out).below hb5
  have hB4 := HB3.out.trans (hb5.mono HB3.out.size)
  obtain ⟨W4, hW4⟩ : ∃ W4, W4 = W3.alloc (.cells #[.slice (some ⟨w1.heap.size, 0, none⟩) 1 1, .slice (some ⟨w2.heap.size, 0, none⟩) 1 1, .slice (some ⟨w3.heap.size, 0, none⟩) 1 1] 31) := ⟨_, rfl⟩
  have hs4 : W4.heap.size = w3.heap.size + 1 + 1 := by rw [hW4, ← hs3]; simp
  rw [← hW4] at hrk hov hB4
  rw [hs3] at hrk
  have HRows := Lib.hid (show RowsC W4 (some ⟨w3.heap.size + 1, 0, none⟩) 3 [⟨some ⟨w1.heap.size, 0, none⟩, 1, 1⟩, ⟨some ⟨w2.heap.size, 0, none⟩, 1, 1⟩, ⟨some ⟨w3.heap.size, 0, none⟩, 1, 1⟩] [[oPut], [oTake], [oTake]] from ⟨hrk, hov⟩)
  have hb6 := below1 W4 (.cells #[.int .i64 0, .slice none 0 0, .bool false, .int .i64 0, .slice none 0 0, .bool false, .int .i64 0, .slice none 0 0, .bool false, .int .i64 0, .slice none 0 0, .bool false] 42)
  have hD5 := laid1 W4 (.cells #[.int .i64 0, .slice none 0 0, .bool false, .int .i64 0, .slice none 0 0, .bool false, .int .i64 0, .slice none 0 0, .bool false, .int .i64 0, .slice none 0 0, .bool false] 42)
  have HB5 := Lib.hid hb6
  have HB4 := Lib.hid hB4
  rw [hs4] at hD5
  have HD5 := Lib.hid hD5
  have hmk := run_four
  have HC0 := Lib.hid (HA0.out [⟨some ⟨w1.heap.size, 0, none⟩, 1, 1⟩, ⟨some ⟨w2.heap.size, 0, none⟩, 1, 1⟩, ⟨some ⟨w3.heap.size, 0, none⟩, 1, 1⟩] (some ⟨w3.heap.size + 1, 0, none⟩) (some ⟨w3.heap.size + 1 + 1, 0, none⟩) _ (HRows.out.below HB5.out) (row4 HD5.out))
  simp only [List.length_cons, List.length_nil, Nat.zero_add, Nat.reduceAdd] at HC0 HA1 HPk HLt
  clear hb5 hb6 hD5 hrk hov hB4 HB3 HR13 HR23 HR3 HA0
  go_wp2_with fail
  rw [← hW3, ← hW4]
  with_reducible refine HC0.out.mono ?_
  rintro e w5 ⟨al, cl, rfl, hL, hB⟩
  have HL5 := Lib.hid (hL.mono (b2 := w3.heap.size + 1 + 1 + 1) (by simp; omega))
  have HB5w := Lib.hid (HB5.out.trans (hB.mono HB5.out.size))
  have HD6 := Lib.hid ((hB.block _ (lt_of_block HD5.out)).trans HD5.out)
  have HPc := Lib.hid (HPk.out al cl w5 HL5.out.row)
  clear hL hB HC0 HB5 HD5 hmk hW3 hW4
  go_wp2_with fail
  with_reducible refine HPc.out.mono ?_
  rintro e w6 ⟨rfl, hB⟩
  have hb6 := hB.alloc hB.size (.cells #[.int .i64 0, .int .i64 0, .int .i64 2, .int .i64 0] 30)
  have hM := laid1 w6 (.cells #[.int .i64 0, .int .i64 0, .int .i64 2, .int .i64 0] 30)
  have HM7 := Lib.hid hM
  have HL7 := Lib.hid (HL5.out.below hb6)
  have HB7 := Lib.hid (HB5w.out.trans (hb6.mono HB5w.out.size))
  have HD7 := Lib.hid ((hb6.block _ (lt_of_block HD6.out)).trans HD6.out)
  have hg6 : w3.heap.size + 1 + 1 < w6.heap.size := by have := lt_of_block HD6.out; have := hB.size; omega
  obtain ⟨⟨m0, m1, m2, m3⟩, _⟩ := box4 hM
  clear hB hb6 hM HPc HL5 HB5w HD6
  go_wp2_with fail
  generalize w6.alloc (.cells #[.int .i64 0, .int .i64 0, .int .i64 2, .int .i64 0] 30) = W7 at *
  have HLc := Lib.hid (HLt.out [⟨some ⟨w1.heap.size, 0, none⟩, 1, 1⟩, ⟨some ⟨w2.heap.size, 0, none⟩, 1, 1⟩, ⟨some ⟨w3.heap.size, 0, none⟩, 1, 1⟩] (some ⟨w3.heap.size + 1, 0, none⟩) W7 (HRows.out.below HB7.out))
  simp only [List.length_cons, List.length_nil, Nat.zero_add, Nat.reduceAdd, oPut] at HLc
  with_reducible refine HLc.out.mono ?_
  rintro e w8 ⟨rfl, hB⟩
  have hM8 := (hB.block _ (lt_of_block HM7.out)).trans HM7.out
  have hL8 := HL7.out.below hB
  have hB8 := HB7.out.trans (hB.mono HB7.out.size)
  have hD8 := (hB.block _ (lt_of_block HD7.out)).trans HD7.out
  have hg8 : w6.heap.size < w8.heap.size := lt_of_block hM8
  have hgs : w3.heap.size + 1 + 1 < w8.heap.size := by omega
  have hb8 := below1 w8 (.cells #[.int .i8 0, .int .i64 0, .int .i64 7, .int .i64 0, .string ⟨#[]⟩, .int .i64 0] 36)
  have hD9 := (hb8.block _ (lt_of_block hD8)).trans hD8
  have hc11 : (w8.alloc (.cells #[.int .i8 0, .int .i64 0, .int .i64 7, .int .i64 0, .string ⟨#[]⟩, .int .i64 0] 36)).cell? ⟨w3.heap.size + 1 + 1, 11, none⟩ = some (.bool false) ∧ (w8.alloc (.cells #[.int .i8 0, .int .i64 0, .int .i64 7, .int .i64 0, .string ⟨#[]⟩, .int .i64 0] 36)).frozen? ⟨w3.heap.size + 1 + 1, 11, none⟩ = false := by simp [World.cell?, World.frozen?, hD9]
  have hd11 : w8.cell? ⟨w3.heap.size + 1 + 1, 11, none⟩ = some (.bool false) ∧ w8.frozen? ⟨w3.heap.size + 1 + 1, 11, none⟩ = false := by simp [World.cell?, World.frozen?, hD8]
  obtain ⟨hc11, hf11⟩ := hc11
  obtain ⟨hd11, he11⟩ := hd11
  have hb9 := below1 (w8.setCell ⟨w3.heap.size + 1 + 1, 11, none⟩ (.bool true)) (.cells #[.int .i8 0, .int .i64 0, .int .i64 7, .int .i64 0, .string ⟨#[]⟩, .int .i64 0] 36)
  have HS10 := Lib.hid (laid1 (w8.setCell ⟨w3.heap.size + 1 + 1, 11, none⟩ (.bool true)) (.cells #[.int .i8 0, .int .i64 0, .int .i64 7, .int .i64 0, .string ⟨#[]⟩, .int .i64 0] 36))
  have HD10 := Lib.hid (show ((w8.setCell ⟨w3.heap.size + 1 + 1, 11, none⟩ (.bool true)).alloc (.cells #[.int .i8 0, .int .i64 0, .int .i64 7, .int .i64 0, .string ⟨#[]⟩, .int .i64 0] 36)).heap[w3.heap.size + 1 + 1]? = some (.cells #[.int .i64 0, .slice none 0 0, .bool false, .int .i64 0, .slice none 0 0, .bool false, .int .i64 0, .slice none 0 0, .bool false, .int .i64 0, .slice none 0 0, .bool true] 42 (0, 0)) from (hb9.block _ (by simp; omega)).trans (set_at hD8 11 (.bool true)))
  have HM10 := Lib.hid ((hb9.block w6.heap.size (by simp; omega)).trans ((Below.heap_setCell w8 ⟨w3.heap.size + 1 + 1, 11, none⟩ (.bool true) w6.heap.size (by simp; omega)).trans hM8))
  have HL10 := Lib.hid ((hL8.set (p := ⟨w3.heap.size + 1 + 1, 11, none⟩) (by simp) (.bool true)).below hb9)
  have HB10 := Lib.hid ((hB8.setCell (p := ⟨w3.heap.size + 1 + 1, 11, none⟩) (by simp; omega) (.bool true)).trans (hb9.mono (by have := hB8.size; simp; omega)))
  simp only [World.size_setCell] at HS10
  clear hB hb8 hb9 hM8 hL8 hB8 hD8 hD9 HLc HM7 HL7 HB7 HD7 m0 m1 m2 m3
  have HC1 := Lib.hid (HA1.out [⟨some ⟨w1.heap.size, 0, none⟩, 1, 1⟩, ⟨some ⟨w2.heap.size, 0, none⟩, 1, 1⟩, ⟨some ⟨w3.heap.size, 0, none⟩, 1, 1⟩] (some ⟨w3.heap.size + 1, 0, none⟩) (some ⟨w3.heap.size + 1 + 1, 0, none⟩) _ (HRows.out.below HB10.out) (row4 HD10.out))
  simp only [List.length_cons, List.length_nil, Nat.zero_add, Nat.reduceAdd] at HC1
  clear HA1
  go_wp2_with fail
  generalize (w8.setCell ⟨w3.heap.size + 1 + 1, 11, none⟩ (.bool true)).alloc (.cells #[.int .i8 0, .int .i64 0, .int .i64 7, .int .i64 0, .string ⟨#[]⟩, .int .i64 0] 36) = W10 at *
  with_reducible refine HC1.out.mono ?_
  rintro e w11 ⟨an, cn, rfl, hL, hB⟩
  have HN11 := Lib.hid hL.row
  have hM := (hB.block _ (lt_of_block HM10.out)).trans HM10.out
  have hS := (hB.block _ (lt_of_block HS10.out)).trans HS10.out
  have hL2 := (HL10.out.below hB).row
  have HBf := Lib.hid (HB4.out.trans ((HB10.out.trans (hB.mono HB10.out.size)).mono HB4.out.size))
  obtain ⟨bl, ol, rfl, hbl, hatl⟩ := hL2.2.2.2 (by simp)
  obtain ⟨bn, on, rfl, hbn, hatn⟩ := HN11.out.2.2.2 (by simp)
  obtain ⟨l0, l1, l2, l3⟩ := MK.four hatl (j := 0) (x := ⟨0, 0, 1, 0⟩) rfl
  obtain ⟨l4, l5, l6, l7⟩ := MK.four hatl (j := 1) (x := ⟨0, 0, 2, 0⟩) rfl
  obtain ⟨n0, n1, n2, n3⟩ := MK.four hatn (j := 0) (x := ⟨1, 0, -1, -1⟩) rfl
  simp only [Nat.zero_mul, Nat.one_mul, Nat.add_zero] at l0 l1 l2 l3 l4 l5 l6 l7 n0 n1 n2 n3
  obtain ⟨⟨m0, m1, m2, m3⟩, _⟩ := box4 hM
  obtain ⟨⟨s0, s1, s2, s3, s4, s5⟩, _⟩ := box6 hS
  have hq1 := eql_self_meet ⟨0, 0, 1, 0⟩
  have hq2 := eql_self_meet ⟨0, 0, 2, 0⟩
  have hq3 := eql_self_meet ⟨1, 0, -1, -1⟩
  have hgd := guard_meet
  clear hL hB hM hS hL2 hatl hatn HC1 HM10 HS10 HL10 HB10 HD10
  go_wp2_with fail
  go_quiet (fail)
  go_wp2_with fail
  go_ret
  exact ⟨rfl, by first | exact below_drewN HBf.out _ | exact below_drewN (below_drewN HBf.out _) _⟩
end Go.Proofs.Ytjiepdgflfhkcaa
