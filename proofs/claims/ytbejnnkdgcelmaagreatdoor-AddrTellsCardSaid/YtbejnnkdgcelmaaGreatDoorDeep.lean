/- Addresses among the arguments, opened; arguments that read as they did. -/
import Derived.Test.YtbejnnkdgcelmaaGreatDoorIn
import Derived.Test.YtbejnnkdgcelmaaGreatDoorFrame
import Derived.Deep.Slices
import Derived.OpenShut
import Derived.Carry
set_option linter.unusedSimpArgs false
set_option linter.unusedVariables false
namespace Go.Proofs.YtbejnnkdgcelmaaGreatDoor
open Go.ChangeShapes Go.WideShapes Go.ChangeAt Go.RowKit Go.Deep
section
variable {H : Type} {enc : TypeId × Value → H} {w : World} {base : Nat} {spare : Nat → Bool} {held : Bool}
theorem laidOut : laidOutB Tryz.prog = true := by kernel_rfl
theorem cells_u16 : Tryz.prog.cellsOf 23 = 1 := by kernel_rfl
theorem cells_arr : Tryz.prog.cellsOf 24 = 8 := by kernel_rfl
theorem cells_ad : Tryz.prog.cellsOf 26 = 10 := by kernel_rfl
theorem cells_i8 : Tryz.prog.cellsOf 22 = 1 := by kernel_rfl
theorem cells_int : Tryz.prog.cellsOf 3 = 1 := by kernel_rfl
theorem wf16 {n : Int} (h : (Lit.int .u16 n).wf = true) : 0 ≤ n ∧ n ≤ 65535 := by simpa [Lit.wf, IntKind.min, IntKind.max, IntKind.signed, IntKind.bits] using h

set_option maxRecDepth 1000000
/-- An address's cells. -/
theorem trod_ad {fuel : Nat} {cs : List Value} {x : DataW H × List MemPlace} (h : DataW.trod enc Tryz.prog w base spare held fuel 26 cs = some x) : ∃ a : Ad, cs = a.enc ∧ a.Ok := by
  obtain ⟨xs, n, _, rfl, hl, hlen, hf⟩ := DataW.trod_struct Tryz.underlying26 h
  rw [cells_ad] at hl
  match cs, hl with
  | [v0, v1, v2, v3, v4, v5, v6, v7, v8, v9], _ =>
    match xs, hlen with
    | [x0, x1, x2], _ =>
      have f0 : DataW.trod enc Tryz.prog w base spare held n 22 (([v0, v1, v2, v3, v4, v5, v6, v7, v8, v9].drop 0).take (Tryz.prog.cellsOf 22)) = some x0 := hf 0 _ rfl
      have f1 : DataW.trod enc Tryz.prog w base spare held n 24 (([v0, v1, v2, v3, v4, v5, v6, v7, v8, v9].drop 1).take (Tryz.prog.cellsOf 24)) = some x1 := hf 1 _ rfl
      have f2 : DataW.trod enc Tryz.prog w base spare held n 3 (([v0, v1, v2, v3, v4, v5, v6, v7, v8, v9].drop 9).take (Tryz.prog.cellsOf 3)) = some x2 := hf 2 _ rfl
      rw [cells_i8] at f0
      rw [cells_arr] at f1
      rw [cells_int] at f2
      obtain ⟨n0, h0, _, w0⟩ := DataW.trod_int Tryz.underlying22 f0
      obtain ⟨n9, h9, _, w9⟩ := DataW.trod_int Tryz.underlying3 f2
      obtain ⟨ys, m, _, _, _, hyl, hy⟩ := DataW.trod_array Tryz.underlying24 f1
      match ys, hyl with
      | [y0, y1, y2, y3, y4, y5, y6, y7], _ =>
        have g0 := hy 0 (by omega)
        have g1 := hy 1 (by omega)
        have g2 := hy 2 (by omega)
        have g3 := hy 3 (by omega)
        have g4 := hy 4 (by omega)
        have g5 := hy 5 (by omega)
        have g6 := hy 6 (by omega)
        have g7 := hy 7 (by omega)
        rw [cells_u16] at g0 g1 g2 g3 g4 g5 g6 g7
        obtain ⟨n1, h1, _, w1⟩ := DataW.trod_int Tryz.underlying23 g0
        obtain ⟨n2, h2, _, w2⟩ := DataW.trod_int Tryz.underlying23 g1
        obtain ⟨n3, h3, _, w3⟩ := DataW.trod_int Tryz.underlying23 g2
        obtain ⟨n4, h4, _, w4⟩ := DataW.trod_int Tryz.underlying23 g3
        obtain ⟨n5, h5, _, w5⟩ := DataW.trod_int Tryz.underlying23 g4
        obtain ⟨n6, h6, _, w6⟩ := DataW.trod_int Tryz.underlying23 g5
        obtain ⟨n7, h7, _, w7⟩ := DataW.trod_int Tryz.underlying23 g6
        obtain ⟨n8, h8, _, w8⟩ := DataW.trod_int Tryz.underlying23 g7
        simp at h0 h1 h2 h3 h4 h5 h6 h7 h8 h9
        subst h0 h1 h2 h3 h4 h5 h6 h7 h8 h9
        have b0 : -128 ≤ n0 ∧ n0 ≤ 127 := by simpa [Lit.wf, IntKind.min, IntKind.max, IntKind.signed, IntKind.bits] using w0
        have b9 : -9223372036854775808 ≤ n9 ∧ n9 ≤ 9223372036854775807 := by simpa [Lit.wf, IntKind.min, IntKind.max, IntKind.signed, IntKind.bits] using w9
        exact ⟨⟨n0, n1, n2, n3, n4, n5, n6, n7, n8, n9⟩, rfl, b0, ⟨wf16 w1, wf16 w2, wf16 w3, wf16 w4, wf16 w5, wf16 w6, wf16 w7, wf16 w8⟩, b9.1, b9.2⟩

/-- A parameter that is an address. -/
theorem open_ad {r : Reach} {b0 : Nat} {v : Value} {d : DataW H} {ps : List MemPlace} (hv : Value.okWide Tryz.prog w r b0 26 v) (h : DataW.Trod enc Tryz.prog w base spare held 26 v d ps) : ∃ a : Ad, v = a.v ∧ a.Ok := by
  obtain ⟨cs, rfl, hsz⟩ := okWide_struct Tryz.underlying26 hv
  obtain ⟨fuel, hf⟩ := h
  obtain ⟨a, ha, hok⟩ := trod_ad hf
  refine ⟨a, ?_, hok⟩
  have e : cs.toList = a.enc := ha
  show Value.agg cs = Value.agg a.enc.toArray
  rw [← e]

/-- A parameter that is a row of addresses. -/
theorem open_ads {r : Reach} {b0 : Nat} {v : Value} {d : DataW H} {ps : List MemPlace} (hv : Value.okWide Tryz.prog w r b0 27 v) (h : DataW.Trod enc Tryz.prog w base spare held 27 v d ps) :
    ∃ (l : List Ad) (a : Option Addr) (c : Nat), v = .slice a l.length c ∧ (∀ x ∈ l, x.Ok) ∧ RowAt w a l := by
  obtain ⟨a0, len, cap, rfl⟩ := okWide_slice Tryz.underlying27 hv
  obtain ⟨fuel, hf⟩ := h
  rcases open_slice Tryz.underlying27 hf with ⟨hcs, _⟩ | ⟨a, len', cap', m, n, D, Pl, hcs, _, hl, _, hm, _, hi⟩
  · simp [Value.cells] at hcs
    obtain ⟨rfl, rfl, rfl⟩ := hcs
    exact ⟨[], none, 0, rfl, by simp, fun h => by simp at h⟩
  · simp [Value.cells] at hcs
    obtain ⟨rfl, rfl, rfl⟩ := hcs
    have hlm : len ≤ m := by rw [hm]; split <;> omega
    have hch : ∀ i, i < len → ∃ x : Ad, x.Ok ∧ ∀ j, j < 10 → w.cell? (a.add (i * 10 + j)) = x.enc[j]? := by
      intro i hil
      obtain ⟨cs', hc, ht⟩ := hi i (by omega)
      rw [cells_ad] at hc
      obtain ⟨x, hx, hok⟩ := trod_ad ht
      obtain ⟨_, hcl, hat⟩ := World.cells?_some hc
      refine ⟨x, hok, fun j hj => ?_⟩
      rw [← hx, ← add_add]
      exact hat j hj
    obtain ⟨f, hfx⟩ := choose_lt hch
    have hll : ((List.range len).map f).length = len := by simp
    refine ⟨(List.range len).map f, some a, cap, by rw [hll], ?_, fun h0 => ?_⟩
    · intro x hx
      rw [List.mem_map] at hx
      obtain ⟨i, hi, rfl⟩ := hx
      exact (hfx i (by simpa using hi)).1
    · rw [hll] at h0
      obtain ⟨b, off, spot⟩ := a
      have hc0 := (hfx 0 h0).2 0 (by omega)
      have hspot : spot = none := by simpa [Addr.add] using World.cell?_spot (show w.cell? ((⟨b, off, spot⟩ : Addr).add (0 * 10 + 0)) = some (.int .i8 (f 0).f) from hc0)
      subst hspot
      have hadd : ∀ k, (⟨b, off, none⟩ : Addr).add k = ⟨b, off + k, none⟩ := by intro k; unfold Addr.add; split <;> simp_all
      refine ⟨b, off, rfl, ?_, ?_⟩
      · rw [hadd] at hc0
        exact World.block_lt_of_cell? w _ (show w.cell? ⟨b, off + (0 * 10 + 0), none⟩ = some (.int .i8 (f 0).f) from hc0)
      · intro j x hx i u hu
        have hj : j < len := by have := (List.getElem?_eq_some_iff.1 hx).1; simpa using this
        have hxe : x = f j := by
          rw [List.getElem?_map, List.getElem?_range hj] at hx
          simpa using hx.symm
        subst hxe
        have hi10 : i < 10 := by have := (List.getElem?_eq_some_iff.1 hu).1; rwa [Ad.enc_length] at this
        have := (hfx j hj).2 i hi10
        rw [hadd] at this
        rw [Nat.add_assoc, this]
        exact hu
end
/-- An argument reads behind the call as it read before. -/
theorem stays {H : Type} {enc : TypeId × Value → H} {t : TypeId} (hr : Tryz.prog.readableRec t = true) (hrow : t < Tryz.prog.types.size) {W W' : World} {v : Value} {d : DataW H} {ps : List MemPlace}
    (h : DataW.Trod enc Tryz.prog W 0 (fun _ => true) true t v d ps) (hb : Below W.heap.size W W') (hlt : ∀ x ∈ ps, x.block < W.heap.size) (sp : Nat → Bool) (hsp : ∀ x ∈ ps, sp x.block = true) :
    DataW.Trod enc Tryz.prog W' 0 sp true t v d ps :=
  WideElems.Trod_stays laidOut hr hrow h (fun x hx => hb.same (hlt x hx)) hsp
end Go.Proofs.YtbejnnkdgcelmaaGreatDoor
