/- Ducts, rows of ducts, rows of bools among the arguments, opened; arguments that read as they did. -/
import Derived.Test.YtfplkjnnnbknoaaPure
import Derived.Test.YtfplkjnnnbknoaaFrame
import Derived.Deep.Slices
import Derived.OpenShut
import Derived.Carry
set_option linter.unusedSimpArgs false
set_option linter.unusedVariables false
namespace Go.Proofs.Ytfplkjnnnbknoaa
open Go.ChangeShapes Go.WideShapes Go.ChangeAt Go.RowKit Go.Deep Go.Proofs.Ytfplkjnnnbknoaa.Kind
section
variable {H : Type} {enc : TypeId × Value → H} {w : World} {base : Nat} {spare : Nat → Bool} {held : Bool}
def I64 (n : Int) : Prop := -9223372036854775808 ≤ n ∧ n ≤ 9223372036854775807
theorem laidOut : laidOutB Try.prog = true := by kernel_rfl
theorem cells_i8 : Try.prog.cellsOf 40 = 1 := by kernel_rfl
theorem cells_int : Try.prog.cellsOf 3 = 1 := by kernel_rfl
theorem cells_bool : Try.prog.cellsOf 4 = 1 := by kernel_rfl
theorem cells_string : Try.prog.cellsOf 9 = 1 := by kernel_rfl
theorem cells_errno : Try.prog.cellsOf 28 = 1 := by kernel_rfl
theorem cells_letters : Try.prog.cellsOf 22 = 1 := by kernel_rfl
theorem cells_letter : Try.prog.cellsOf 42 = 6 := by kernel_rfl
theorem cells_duct : Try.prog.cellsOf 24 = 3 := by kernel_rfl
theorem wf64 {n : Int} (h : (Lit.int .i64 n).wf = true) : I64 n := by
  unfold I64
  simpa [Lit.wf, IntKind.min, IntKind.max, IntKind.signed, IntKind.bits] using h

set_option maxRecDepth 1000000
/-- A letter's cells. -/
theorem trod_letter {fuel : Nat} {cs : List Value} {x : DataW H × List MemPlace} (h : DataW.trod enc Try.prog w base spare held fuel 42 cs = some x) : ∃ a : Lt, cs = a.enc := by
  obtain ⟨xs, n, _, rfl, hl, hlen, hf⟩ := DataW.trod_struct Try.underlying42 h
  rw [cells_letter] at hl
  match cs, hl with
  | [v0, v1, v2, v3, v4, v5], _ =>
    match xs, hlen with
    | [x0, x1, x2, x3, x4, x5], _ =>
      have f0 : DataW.trod enc Try.prog w base spare held n 40 (([v0, v1, v2, v3, v4, v5].drop 0).take (Try.prog.cellsOf 40)) = some x0 := hf 0 _ rfl
      have f1 : DataW.trod enc Try.prog w base spare held n 3 (([v0, v1, v2, v3, v4, v5].drop 1).take (Try.prog.cellsOf 3)) = some x1 := hf 1 _ rfl
      have f2 : DataW.trod enc Try.prog w base spare held n 3 (([v0, v1, v2, v3, v4, v5].drop 2).take (Try.prog.cellsOf 3)) = some x2 := hf 2 _ rfl
      have f3 : DataW.trod enc Try.prog w base spare held n 3 (([v0, v1, v2, v3, v4, v5].drop 3).take (Try.prog.cellsOf 3)) = some x3 := hf 3 _ rfl
      have f4 : DataW.trod enc Try.prog w base spare held n 9 (([v0, v1, v2, v3, v4, v5].drop 4).take (Try.prog.cellsOf 9)) = some x4 := hf 4 _ rfl
      have f5 : DataW.trod enc Try.prog w base spare held n 28 (([v0, v1, v2, v3, v4, v5].drop 5).take (Try.prog.cellsOf 28)) = some x5 := hf 5 _ rfl
      rw [cells_i8] at f0
      rw [cells_int] at f1 f2 f3
      rw [cells_string] at f4
      rw [cells_errno] at f5
      obtain ⟨n0, h0, _, _⟩ := DataW.trod_int Try.underlying40 f0
      obtain ⟨n1, h1, _, _⟩ := DataW.trod_int Try.underlying3 f1
      obtain ⟨n2, h2, _, _⟩ := DataW.trod_int Try.underlying3 f2
      obtain ⟨n3, h3, _, _⟩ := DataW.trod_int Try.underlying3 f3
      obtain ⟨s4, h4, _, _⟩ := DataW.trod_string Try.underlying9 f4
      obtain ⟨n5, h5, _, _⟩ := DataW.trod_int Try.underlying28 f5
      simp at h0 h1 h2 h3 h4 h5
      subst h0 h1 h2 h3 h4 h5
      exact ⟨⟨n0, n1, n2, n3, s4, n5⟩, rfl⟩
/-- A parameter that is a row. -/
theorem open_row {α : Type} [Inhabited α] (K : Kind Try.prog α) (hc : Try.prog.cellsOf K.T = K.k) (hel : ∀ {fuel : Nat} {cs : List Value} {x : DataW H × List MemPlace}, DataW.trod enc Try.prog w base spare held fuel K.T cs = some x → ∃ a : α, cs = K.enc a)
    {fuel : Nat} {cs : List Value} {x : DataW H × List MemPlace} (h : DataW.trod enc Try.prog w base spare held fuel K.S cs = some x) :
    ∃ (l : List α) (a : Option Addr) (c : Nat), cs = [.slice a l.length c] ∧ l.length ≤ maxLen ∧ K.RowC w a c l := by
  rcases open_slice K.hu h with ⟨hcs, _⟩ | ⟨a, len, cap, m, n, D, Pl, hcs, _, hl, hml, hm, _, hi⟩
  · exact ⟨[], none, 0, hcs, by simp, row_none w⟩
  · have hlm : len ≤ m := by rw [hm]; split <;> omega
    have hk0 := K.hk0
    have hch : ∀ i, i < len → ∃ x : α, ∀ j, j < K.k → w.cell? (a.add (i * K.k + j)) = (K.enc x)[j]? := by
      intro i hil
      obtain ⟨cs', hcc, ht⟩ := hi i (by omega)
      rw [hc] at hcc
      obtain ⟨x, hx⟩ := hel ht
      obtain ⟨_, hcl, hat⟩ := World.cells?_some hcc
      refine ⟨x, fun j hj => ?_⟩
      rw [← hx, ← add_add]
      exact hat j hj
    obtain ⟨f, hfx⟩ := choose_lt hch
    have hll : ((List.range len).map f).length = len := by simp
    refine ⟨(List.range len).map f, some a, cap, by rw [hll]; exact hcs, by rw [hll]; omega, by rw [hll]; exact hl, hml, (fun e => by cases e), fun h0 => ?_⟩
    rw [hll] at h0
    obtain ⟨b, off, spot⟩ := a
    have hc0 := hfx 0 h0 0 hk0
    obtain ⟨v0, hv0⟩ : ∃ v, (K.enc (f 0))[0]? = some v := ⟨_, List.getElem?_eq_getElem (by rw [K.hk]; exact hk0)⟩
    rw [hv0] at hc0
    have hspot : spot = none := by simpa [Addr.add] using World.cell?_spot hc0
    subst hspot
    have hadd : ∀ k, (⟨b, off, none⟩ : Addr).add k = ⟨b, off + k, none⟩ := by intro k; unfold Addr.add; split <;> simp_all
    refine ⟨b, off, rfl, ?_, ?_⟩
    · rw [hadd] at hc0
      exact World.block_lt_of_cell? w _ hc0
    · intro j x hx i u hu
      have hj : j < len := by have := (List.getElem?_eq_some_iff.1 hx).1; simpa using this
      have hxe : x = f j := by
        rw [List.getElem?_map, List.getElem?_range hj] at hx
        simpa using hx.symm
      subst hxe
      have hik : i < K.k := by have := (List.getElem?_eq_some_iff.1 hu).1; rwa [K.hk] at this
      have := hfx j hj i hik
      rw [hadd] at this
      rw [Nat.add_assoc, this]
      exact hu
/-- A duct's cells. -/
theorem trod_duct {fuel : Nat} {cs : List Value} {x : DataW H × List MemPlace} (h : DataW.trod enc Try.prog w base spare held fuel 24 cs = some x) :
    ∃ (cap : Int) (l : List Lt) (a : Option Addr) (c : Nat) (cl : Bool), cs = [.int .i64 cap, .slice a l.length c, .bool cl] ∧ l.length ≤ maxLen ∧ I64 cap ∧ LK.RowC w a c l := by
  obtain ⟨xs, n, _, rfl, hl, hlen, hf⟩ := DataW.trod_struct Try.underlying24 h
  rw [cells_duct] at hl
  match cs, hl with
  | [v0, v1, v2], _ =>
    match xs, hlen with
    | [x0, x1, x2], _ =>
      have f0 : DataW.trod enc Try.prog w base spare held n 3 (([v0, v1, v2].drop 0).take (Try.prog.cellsOf 3)) = some x0 := hf 0 _ rfl
      have f1 : DataW.trod enc Try.prog w base spare held n 22 (([v0, v1, v2].drop 1).take (Try.prog.cellsOf 22)) = some x1 := hf 1 _ rfl
      have f2 : DataW.trod enc Try.prog w base spare held n 4 (([v0, v1, v2].drop 2).take (Try.prog.cellsOf 4)) = some x2 := hf 2 _ rfl
      rw [cells_int] at f0
      rw [cells_letters] at f1
      rw [cells_bool] at f2
      obtain ⟨n0, h0, _, w0⟩ := DataW.trod_int Try.underlying3 f0
      obtain ⟨l, a, c, h1, hl, hR⟩ := open_row LK cells_letter (fun h => trod_letter h) f1
      obtain ⟨t2, h2, _⟩ := DataW.trod_bool Try.underlying4 f2
      simp at h0 h1 h2
      subst h0 h1 h2
      exact ⟨n0, l, a, c, t2, rfl, hl, wf64 w0, hR⟩
/-- Parameters that are rows of ducts, of bools. -/
theorem open_ducts {r : Reach} {b0 : Nat} {v : Value} {d : DataW H} {ps : List MemPlace} (hv : Value.okWide Try.prog w r b0 25 v) (h : DataW.Trod enc Try.prog w base spare held 25 v d ps) :
    ∃ (l : List Dv) (a : Option Addr) (c : Nat), v = .slice a l.length c ∧ l.length ≤ maxLen ∧ True ∧ DK.RowC w a c l := by
  obtain ⟨a0, len, cap, rfl⟩ := okWide_slice Try.underlying25 hv
  obtain ⟨fuel, hf⟩ := h
  obtain ⟨l, a, c, e, hl, hR⟩ := open_row DK cells_duct (fun h => by
    obtain ⟨cap, l, a, c, cl, e, _⟩ := trod_duct h
    exact ⟨⟨cap, a, l.length, c, cl⟩, e⟩) hf
  simp [Value.cells] at e
  obtain ⟨rfl, rfl, rfl⟩ := e
  exact ⟨l, a0, cap, rfl, hl, trivial, hR⟩
theorem open_bools {r : Reach} {b0 : Nat} {v : Value} {d : DataW H} {ps : List MemPlace} (hv : Value.okWide Try.prog w r b0 37 v) (h : DataW.Trod enc Try.prog w base spare held 37 v d ps) :
    ∃ (l : List Bool) (a : Option Addr) (c : Nat), v = .slice a l.length c ∧ l.length ≤ maxLen ∧ True ∧ BK.RowC w a c l := by
  obtain ⟨a0, len, cap, rfl⟩ := okWide_slice Try.underlying37 hv
  obtain ⟨fuel, hf⟩ := h
  obtain ⟨l, a, c, e, hl, hR⟩ := open_row BK cells_bool (fun h => by
    obtain ⟨t, h2, _⟩ := DataW.trod_bool Try.underlying4 h
    exact ⟨t, h2⟩) hf
  simp [Value.cells] at e
  obtain ⟨rfl, rfl, rfl⟩ := e
  exact ⟨l, a0, cap, rfl, hl, trivial, hR⟩
/-- A parameter that is a duct. -/
theorem open_duct {r : Reach} {b0 : Nat} {v : Value} {d : DataW H} {ps : List MemPlace} (hv : Value.okWide Try.prog w r b0 24 v) (h : DataW.Trod enc Try.prog w base spare held 24 v d ps) :
    ∃ (cap : Int) (l : List Lt) (a : Option Addr) (c : Nat) (cl : Bool), v = .agg #[.int .i64 cap, .slice a l.length c, .bool cl] ∧ l.length ≤ maxLen ∧ I64 cap ∧ LK.RowC w a c l := by
  obtain ⟨cs, rfl, hsz⟩ := okWide_struct Try.underlying24 hv
  obtain ⟨fuel, hf⟩ := h
  obtain ⟨cap, l, a, c, cl, e, h⟩ := trod_duct hf
  refine ⟨cap, l, a, c, cl, ?_, h⟩
  have e : cs.toList = [.int .i64 cap, .slice a l.length c, .bool cl] := e
  rw [show cs = #[.int .i64 cap, .slice a l.length c, .bool cl] from by rw [← Array.toArray_toList (xs := cs), e]]
end
/-- An argument reads behind the call as it read before. -/
theorem stays {H : Type} {enc : TypeId × Value → H} {t : TypeId} (hr : Try.prog.readableRec t = true) (hrow : t < Try.prog.types.size) {W W' : World} {v : Value} {d : DataW H} {ps : List MemPlace}
    (h : DataW.Trod enc Try.prog W 0 (fun _ => true) true t v d ps) (hb : Below W.heap.size W W') (hlt : ∀ x ∈ ps, x.block < W.heap.size) (sp : Nat → Bool) (hsp : ∀ x ∈ ps, sp x.block = true) :
    DataW.Trod enc Try.prog W' 0 sp true t v d ps :=
  WideElems.Trod_stays laidOut hr hrow h (fun x hx => hb.same (hlt x hx)) hsp
end Go.Proofs.Ytfplkjnnnbknoaa
