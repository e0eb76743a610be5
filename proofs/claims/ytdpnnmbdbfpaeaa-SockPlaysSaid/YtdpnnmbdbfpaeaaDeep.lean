/- Rows of sockets, of marks, of acts among the arguments, opened; arguments that read as they did. -/
import Derived.Test.YtdpnnmbdbfpaeaaBoxes
import Derived.Test.YtdpnnmbdbfpaeaaFrame
import Derived.Deep.Slices
import Derived.OpenShut
import Derived.Carry
set_option linter.unusedSimpArgs false
set_option linter.unusedVariables false
namespace Go.Proofs.Ytdpnnmbdbfpaeaa
open Go.ChangeShapes Go.WideShapes Go.ChangeAt Go.RowKit Go.Deep Go.Proofs.Ytdpnnmbdbfpaeaa.Kind
def Ad.enc (a : Ad) : List Value := [.int .i8 a.f, .int .u16 a.g0, .int .u16 a.g1, .int .u16 a.g2, .int .u16 a.g3, .int .u16 a.g4, .int .u16 a.g5, .int .u16 a.g6, .int .u16 a.g7, .int .i64 a.p]
section
variable {H : Type} {enc : TypeId × Value → H} {w : World} {base : Nat} {spare : Nat → Bool} {held : Bool}
theorem laidOut : laidOutB Try.prog = true := by kernel_rfl
theorem cells_u16 : Try.prog.cellsOf 32 = 1 := by kernel_rfl
theorem cells_arr : Try.prog.cellsOf 33 = 8 := by kernel_rfl
theorem cells_ad : Try.prog.cellsOf 35 = 10 := by kernel_rfl
theorem cells_i8 : Try.prog.cellsOf 31 = 1 := by kernel_rfl
theorem cells_int : Try.prog.cellsOf 3 = 1 := by kernel_rfl
theorem cells_bool : Try.prog.cellsOf 4 = 1 := by kernel_rfl
theorem cells_sock : Try.prog.cellsOf 48 = 14 := by kernel_rfl
theorem cells_mark : Try.prog.cellsOf 51 = 3 := by kernel_rfl
theorem cells_act : Try.prog.cellsOf 28 = 3 := by kernel_rfl

set_option maxRecDepth 1000000
/-- An address's cells. -/
theorem trod_ad {fuel : Nat} {cs : List Value} {x : DataW H × List MemPlace} (h : DataW.trod enc Try.prog w base spare held fuel 35 cs = some x) : ∃ a : Ad, cs = a.enc := by
  obtain ⟨xs, n, _, rfl, hl, hlen, hf⟩ := DataW.trod_struct Try.underlying35 h
  rw [cells_ad] at hl
  match cs, hl with
  | [v0, v1, v2, v3, v4, v5, v6, v7, v8, v9], _ =>
    match xs, hlen with
    | [x0, x1, x2], _ =>
      have f0 : DataW.trod enc Try.prog w base spare held n 31 (([v0, v1, v2, v3, v4, v5, v6, v7, v8, v9].drop 0).take (Try.prog.cellsOf 31)) = some x0 := hf 0 _ rfl
      have f1 : DataW.trod enc Try.prog w base spare held n 33 (([v0, v1, v2, v3, v4, v5, v6, v7, v8, v9].drop 1).take (Try.prog.cellsOf 33)) = some x1 := hf 1 _ rfl
      have f2 : DataW.trod enc Try.prog w base spare held n 3 (([v0, v1, v2, v3, v4, v5, v6, v7, v8, v9].drop 9).take (Try.prog.cellsOf 3)) = some x2 := hf 2 _ rfl
      rw [cells_i8] at f0
      rw [cells_arr] at f1
      rw [cells_int] at f2
      obtain ⟨n0, h0, _, w0⟩ := DataW.trod_int Try.underlying31 f0
      obtain ⟨n9, h9, _, w9⟩ := DataW.trod_int Try.underlying3 f2
      obtain ⟨ys, m, _, _, _, hyl, hy⟩ := DataW.trod_array Try.underlying33 f1
      match ys, hyl with
      | [y0, y1, y2, y3, y4, y5, y6, y7], _ =>
        have g0 := hy 0 (by omega)
        have g1 := hy 1 (by omega)
        have g2 := hy 2 (by omega)
        have g3 := hy 3 (by omega)
        have g4 := hy 4 (by omega)
        have g5 := hy 5 (by omega)
        have g6 := hy 6 (by omega)
        have g7 := hy 7 (by omega)
        rw [cells_u16] at g0 g1 g2 g3 g4 g5 g6 g7
        obtain ⟨n1, h1, _, w1⟩ := DataW.trod_int Try.underlying32 g0
        obtain ⟨n2, h2, _, w2⟩ := DataW.trod_int Try.underlying32 g1
        obtain ⟨n3, h3, _, w3⟩ := DataW.trod_int Try.underlying32 g2
        obtain ⟨n4, h4, _, w4⟩ := DataW.trod_int Try.underlying32 g3
        obtain ⟨n5, h5, _, w5⟩ := DataW.trod_int Try.underlying32 g4
        obtain ⟨n6, h6, _, w6⟩ := DataW.trod_int Try.underlying32 g5
        obtain ⟨n7, h7, _, w7⟩ := DataW.trod_int Try.underlying32 g6
        obtain ⟨n8, h8, _, w8⟩ := DataW.trod_int Try.underlying32 g7
        simp at h0 h1 h2 h3 h4 h5 h6 h7 h8 h9
        subst h0 h1 h2 h3 h4 h5 h6 h7 h8 h9
        exact ⟨⟨n0, n1, n2, n3, n4, n5, n6, n7, n8, n9⟩, rfl⟩
theorem wf_low {n : Int} (h : (Lit.int .i64 n).wf = true) : -9223372036854775808 ≤ n := by
  have : -9223372036854775808 ≤ n ∧ n ≤ 9223372036854775807 := by simpa [Lit.wf, IntKind.min, IntKind.max, IntKind.signed, IntKind.bits] using h
  exact this.1
/-- A socket's cells. -/
theorem trod_sock {fuel : Nat} {cs : List Value} {x : DataW H × List MemPlace} (h : DataW.trod enc Try.prog w base spare held fuel 48 cs = some x) : ∃ a : Sk, cs = SK.enc a := by
  obtain ⟨xs, n, _, rfl, hl, hlen, hf⟩ := DataW.trod_struct Try.underlying48 h
  rw [cells_sock] at hl
  match cs, hl with
  | [v0, v1, v2, v3, v4, v5, v6, v7, v8, v9, u10, u11, u12, u13], _ =>
    match xs, hlen with
    | [x0, x1, x2, x3, x4], _ =>
      have f0 : DataW.trod enc Try.prog w base spare held n 35 (([v0, v1, v2, v3, v4, v5, v6, v7, v8, v9, u10, u11, u12, u13].drop 0).take (Try.prog.cellsOf 35)) = some x0 := hf 0 _ rfl
      have f1 : DataW.trod enc Try.prog w base spare held n 3 (([v0, v1, v2, v3, v4, v5, v6, v7, v8, v9, u10, u11, u12, u13].drop 10).take (Try.prog.cellsOf 3)) = some x1 := hf 1 _ rfl
      have f2 : DataW.trod enc Try.prog w base spare held n 3 (([v0, v1, v2, v3, v4, v5, v6, v7, v8, v9, u10, u11, u12, u13].drop 11).take (Try.prog.cellsOf 3)) = some x2 := hf 2 _ rfl
      have f3 : DataW.trod enc Try.prog w base spare held n 3 (([v0, v1, v2, v3, v4, v5, v6, v7, v8, v9, u10, u11, u12, u13].drop 12).take (Try.prog.cellsOf 3)) = some x3 := hf 3 _ rfl
      have f4 : DataW.trod enc Try.prog w base spare held n 4 (([v0, v1, v2, v3, v4, v5, v6, v7, v8, v9, u10, u11, u12, u13].drop 13).take (Try.prog.cellsOf 4)) = some x4 := hf 4 _ rfl
      rw [cells_ad] at f0
      rw [cells_int] at f1 f2 f3
      rw [cells_bool] at f4
      obtain ⟨ad, ha⟩ := trod_ad f0
      obtain ⟨n1, h1, _, _⟩ := DataW.trod_int Try.underlying3 f1
      obtain ⟨n2, h2, _, _⟩ := DataW.trod_int Try.underlying3 f2
      obtain ⟨n3, h3, _, _⟩ := DataW.trod_int Try.underlying3 f3
      obtain ⟨t4, h4, _⟩ := DataW.trod_bool Try.underlying4 f4
      simp at h1 h2 h3 h4
      subst h1 h2 h3 h4
      have e : [v0, v1, v2, v3, v4, v5, v6, v7, v8, v9] = ad.enc := ha
      simp only [Ad.enc, List.cons.injEq, and_true] at e
      obtain ⟨rfl, rfl, rfl, rfl, rfl, rfl, rfl, rfl, rfl, rfl⟩ := e
      exact ⟨⟨ad, n1, n2, n3, t4⟩, rfl⟩
theorem trod_mark {fuel : Nat} {cs : List Value} {x : DataW H × List MemPlace} (h : DataW.trod enc Try.prog w base spare held fuel 51 cs = some x) : ∃ a : Nk, -9223372036854775808 ≤ a.at_ ∧ cs = NK.enc a := by
  obtain ⟨xs, n, _, rfl, hl, hlen, hf⟩ := DataW.trod_struct Try.underlying51 h
  rw [cells_mark] at hl
  match cs, hl with
  | [v0, v1, v2], _ =>
    match xs, hlen with
    | [x0, x1, x2], _ =>
      have f0 : DataW.trod enc Try.prog w base spare held n 4 (([v0, v1, v2].drop 0).take (Try.prog.cellsOf 4)) = some x0 := hf 0 _ rfl
      have f1 : DataW.trod enc Try.prog w base spare held n 3 (([v0, v1, v2].drop 1).take (Try.prog.cellsOf 3)) = some x1 := hf 1 _ rfl
      have f2 : DataW.trod enc Try.prog w base spare held n 3 (([v0, v1, v2].drop 2).take (Try.prog.cellsOf 3)) = some x2 := hf 2 _ rfl
      rw [cells_bool] at f0
      rw [cells_int] at f1 f2
      obtain ⟨n0, h0, _⟩ := DataW.trod_bool Try.underlying4 f0
      obtain ⟨n1, h1, _, _⟩ := DataW.trod_int Try.underlying3 f1
      obtain ⟨n2, h2, _, w2⟩ := DataW.trod_int Try.underlying3 f2
      simp at h0 h1 h2
      subst h0 h1 h2
      exact ⟨⟨n0, n1, n2⟩, wf_low w2, rfl⟩
theorem trod_act {fuel : Nat} {cs : List Value} {x : DataW H × List MemPlace} (h : DataW.trod enc Try.prog w base spare held fuel 28 cs = some x) : ∃ a : Ac, cs = CK.enc a := by
  obtain ⟨xs, n, _, rfl, hl, hlen, hf⟩ := DataW.trod_struct Try.underlying28 h
  rw [cells_act] at hl
  match cs, hl with
  | [v0, v1, v2], _ =>
    match xs, hlen with
    | [x0, x1, x2], _ =>
      have f0 : DataW.trod enc Try.prog w base spare held n 3 (([v0, v1, v2].drop 0).take (Try.prog.cellsOf 3)) = some x0 := hf 0 _ rfl
      have f1 : DataW.trod enc Try.prog w base spare held n 3 (([v0, v1, v2].drop 1).take (Try.prog.cellsOf 3)) = some x1 := hf 1 _ rfl
      have f2 : DataW.trod enc Try.prog w base spare held n 4 (([v0, v1, v2].drop 2).take (Try.prog.cellsOf 4)) = some x2 := hf 2 _ rfl
      rw [cells_int] at f0 f1
      rw [cells_bool] at f2
      obtain ⟨n0, h0, _, _⟩ := DataW.trod_int Try.underlying3 f0
      obtain ⟨n1, h1, _, _⟩ := DataW.trod_int Try.underlying3 f1
      obtain ⟨n2, h2, _⟩ := DataW.trod_bool Try.underlying4 f2
      simp at h0 h1 h2
      subst h0 h1 h2
      exact ⟨⟨n0, n1, n2⟩, rfl⟩
/-- A parameter that is a row. -/
theorem open_row {α : Type} [Inhabited α] (K : Kind Try.prog α) (P : α → Prop) (hc : Try.prog.cellsOf K.T = K.k) (hel : ∀ {fuel : Nat} {cs : List Value} {x : DataW H × List MemPlace}, DataW.trod enc Try.prog w base spare held fuel K.T cs = some x → ∃ a : α, P a ∧ cs = K.enc a)
    {fuel : Nat} {cs : List Value} {x : DataW H × List MemPlace} (h : DataW.trod enc Try.prog w base spare held fuel K.S cs = some x) :
    ∃ (l : List α) (a : Option Addr) (c : Nat), cs = [.slice a l.length c] ∧ l.length ≤ maxLen ∧ (∀ x ∈ l, P x) ∧ K.RowC w a c l := by
  rcases open_slice K.hu h with ⟨hcs, _⟩ | ⟨a, len, cap, m, n, D, Pl, hcs, _, hl, hml, hm, _, hi⟩
  · exact ⟨[], none, 0, hcs, by simp, by simp, row_none w⟩
  · have hlm : len ≤ m := by rw [hm]; split <;> omega
    have hk0 := K.hk0
    have hch : ∀ i, i < len → ∃ x : α, P x ∧ ∀ j, j < K.k → w.cell? (a.add (i * K.k + j)) = (K.enc x)[j]? := by
      intro i hil
      obtain ⟨cs', hcc, ht⟩ := hi i (by omega)
      rw [hc] at hcc
      obtain ⟨x, hP, hx⟩ := hel ht
      obtain ⟨_, hcl, hat⟩ := World.cells?_some hcc
      refine ⟨x, hP, fun j hj => ?_⟩
      rw [← hx, ← add_add]
      exact hat j hj
    obtain ⟨f, hfx⟩ := choose_lt hch
    have hll : ((List.range len).map f).length = len := by simp
    refine ⟨(List.range len).map f, some a, cap, by rw [hll]; exact hcs, by rw [hll]; omega, ?_, by rw [hll]; exact hl, hml, (fun e => by cases e), fun h0 => ?_⟩
    · intro x hx
      rw [List.mem_map] at hx
      obtain ⟨i, hi, rfl⟩ := hx
      exact (hfx i (by simpa using hi)).1
    rw [hll] at h0
    obtain ⟨b, off, spot⟩ := a
    have hc0 := (hfx 0 h0).2 0 hk0
    obtain ⟨v0, hv0⟩ : ∃ v, (K.enc (f 0))[0]? = some v := ⟨_, List.getElem?_eq_getElem (by rw [K.hk]; exact hk0)⟩
    rw [hv0] at hc0
    have hspot : spot = none := by simpa [Addr.add] using World.cell?_spot hc0
    subst hspot
    have hadd : ∀ k, (⟨b, off, none⟩ : Addr).add k = ⟨b, off + k, none⟩ := by intro k; unfold Addr.add; split <;> simp_all
    refine ⟨b, off, rfl, ?_, ?_⟩
    · rw [hadd] at hc0
      exact World.block_lt_of_cell? w _ hc0
    · intro j x hx i u hu
      have hj : j < len := by have := (List.getElem?_eq_some_iff.1 hx).1; simpa using this
      have hxe : x = f j := by
        rw [List.getElem?_map, List.getElem?_range hj] at hx
        simpa using hx.symm
      subst hxe
      have hik : i < K.k := by have := (List.getElem?_eq_some_iff.1 hu).1; rwa [K.hk] at this
      have := (hfx j hj).2 i hik
      rw [hadd] at this
      rw [Nat.add_assoc, this]
      exact hu
theorem open_socks {r : Reach} {b0 : Nat} {v : Value} {d : DataW H} {ps : List MemPlace} (hv : Value.okWide Try.prog w r b0 24 v) (h : DataW.Trod enc Try.prog w base spare held 24 v d ps) :
    ∃ (l : List Sk) (a : Option Addr) (c : Nat), v = .slice a l.length c ∧ l.length ≤ maxLen ∧ True ∧ SK.RowC w a c l := by
  obtain ⟨a0, len, cap, rfl⟩ := okWide_slice Try.underlying24 hv
  obtain ⟨fuel, hf⟩ := h
  obtain ⟨l, a, c, e, hl, _, hR⟩ := open_row SK (fun _ => True) cells_sock (fun h => (trod_sock h).imp (fun _ h => ⟨trivial, h⟩)) hf
  simp [Value.cells] at e
  obtain ⟨rfl, rfl, rfl⟩ := e
  exact ⟨l, a0, cap, rfl, hl, trivial, hR⟩
theorem open_marks {r : Reach} {b0 : Nat} {v : Value} {d : DataW H} {ps : List MemPlace} (hv : Value.okWide Try.prog w r b0 25 v) (h : DataW.Trod enc Try.prog w base spare held 25 v d ps) :
    ∃ (l : List Nk) (a : Option Addr) (c : Nat), v = .slice a l.length c ∧ l.length ≤ maxLen ∧ (∀ m ∈ l, -9223372036854775808 ≤ m.at_) ∧ NK.RowC w a c l := by
  obtain ⟨a0, len, cap, rfl⟩ := okWide_slice Try.underlying25 hv
  obtain ⟨fuel, hf⟩ := h
  obtain ⟨l, a, c, e, hl, hP, hR⟩ := open_row NK (fun m => -9223372036854775808 ≤ m.at_) cells_mark (fun h => trod_mark h) hf
  simp [Value.cells] at e
  obtain ⟨rfl, rfl, rfl⟩ := e
  exact ⟨l, a0, cap, rfl, hl, hP, hR⟩
theorem open_acts {r : Reach} {b0 : Nat} {v : Value} {d : DataW H} {ps : List MemPlace} (hv : Value.okWide Try.prog w r b0 22 v) (h : DataW.Trod enc Try.prog w base spare held 22 v d ps) :
    ∃ (l : List Ac) (a : Option Addr) (c : Nat), v = .slice a l.length c ∧ l.length ≤ maxLen ∧ True ∧ CK.RowC w a c l := by
  obtain ⟨a0, len, cap, rfl⟩ := okWide_slice Try.underlying22 hv
  obtain ⟨fuel, hf⟩ := h
  obtain ⟨l, a, c, e, hl, _, hR⟩ := open_row CK (fun _ => True) cells_act (fun h => (trod_act h).imp (fun _ h => ⟨trivial, h⟩)) hf
  simp [Value.cells] at e
  obtain ⟨rfl, rfl, rfl⟩ := e
  exact ⟨l, a0, cap, rfl, hl, trivial, hR⟩
end
/-- An argument reads behind the call as it read before. -/
theorem stays {H : Type} {enc : TypeId × Value → H} {t : TypeId} (hr : Try.prog.readableRec t = true) (hrow : t < Try.prog.types.size) {W W' : World} {v : Value} {d : DataW H} {ps : List MemPlace}
    (h : DataW.Trod enc Try.prog W 0 (fun _ => true) true t v d ps) (hb : Below W.heap.size W W') (hlt : ∀ x ∈ ps, x.block < W.heap.size) (sp : Nat → Bool) (hsp : ∀ x ∈ ps, sp x.block = true) :
    DataW.Trod enc Try.prog W' 0 sp true t v d ps :=
  WideElems.Trod_stays laidOut hr hrow h (fun x hx => hb.same (hlt x hx)) hsp
end Go.Proofs.Ytdpnnmbdbfpaeaa
