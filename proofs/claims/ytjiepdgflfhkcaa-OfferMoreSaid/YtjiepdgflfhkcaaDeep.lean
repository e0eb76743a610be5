/- Ducts, rows of ducts, of bools, of cases, rows of such rows among the arguments, opened; arguments that read as they did. -/
import Derived.Test.YtjiepdgflfhkcaaOffer
import Derived.Test.YtjiepdgflfhkcaaFrame
import Derived.Deep.Slices
import Derived.OpenShut
import Derived.Carry
import Derived.SizedLaws
set_option linter.unusedSimpArgs false
set_option linter.unusedVariables false
namespace Go.Proofs.Ytjiepdgflfhkcaa
open Go.ChangeShapes Go.WideShapes Go.ChangeAt Go.RowKit Go.Deep Go.Proofs.Ytjiepdgflfhkcaa.Kind Go.Proofs.Ytjiepdgflfhkcaa.P7
section
variable {H : Type} {enc : TypeId × Value → H} {w : World} {base : Nat} {spare : Nat → Bool} {held : Bool}
def I64 (n : Int) : Prop := -9223372036854775808 ≤ n ∧ n ≤ 9223372036854775807
theorem laidOut : laidOutB Try.prog = true := by kernel_rfl
theorem cells_i8 : Try.prog.cellsOf 33 = 1 := by kernel_rfl
theorem cells_int : Try.prog.cellsOf 3 = 1 := by kernel_rfl
theorem cells_bool : Try.prog.cellsOf 4 = 1 := by kernel_rfl
theorem cells_string : Try.prog.cellsOf 9 = 1 := by kernel_rfl
theorem cells_errno : Try.prog.cellsOf 34 = 1 := by kernel_rfl
theorem cells_letters : Try.prog.cellsOf 40 = 1 := by kernel_rfl
theorem cells_letter : Try.prog.cellsOf 36 = 6 := by kernel_rfl
theorem cells_offers : Try.prog.cellsOf 31 = 1 := by kernel_rfl
theorem cells_offer : Try.prog.cellsOf 38 = 9 := by kernel_rfl
theorem cells_duct : Try.prog.cellsOf 42 = 3 := by kernel_rfl
theorem wf64 {n : Int} (h : (Lit.int .i64 n).wf = true) : I64 n := by
  unfold I64
  simpa [Lit.wf, IntKind.min, IntKind.max, IntKind.signed, IntKind.bits] using h

set_option maxRecDepth 1000000
/-- A letter's cells. -/
theorem trod_letter {fuel : Nat} {cs : List Value} {x : DataW H × List MemPlace} (h : DataW.trod enc Try.prog w base spare held fuel 36 cs = some x) : ∃ a : Lt, cs = a.enc := by
  obtain ⟨xs, n, _, rfl, hl, hlen, hf⟩ := DataW.trod_struct Try.underlying36 h
  rw [cells_letter] at hl
  match cs, hl with
  | [v0, v1, v2, v3, v4, v5], _ =>
    match xs, hlen with
    | [x0, x1, x2, x3, x4, x5], _ =>
      have f0 : DataW.trod enc Try.prog w base spare held n 33 (([v0, v1, v2, v3, v4, v5].drop 0).take (Try.prog.cellsOf 33)) = some x0 := hf 0 _ rfl
      have f1 : DataW.trod enc Try.prog w base spare held n 3 (([v0, v1, v2, v3, v4, v5].drop 1).take (Try.prog.cellsOf 3)) = some x1 := hf 1 _ rfl
      have f2 : DataW.trod enc Try.prog w base spare held n 3 (([v0, v1, v2, v3, v4, v5].drop 2).take (Try.prog.cellsOf 3)) = some x2 := hf 2 _ rfl
      have f3 : DataW.trod enc Try.prog w base spare held n 3 (([v0, v1, v2, v3, v4, v5].drop 3).take (Try.prog.cellsOf 3)) = some x3 := hf 3 _ rfl
      have f4 : DataW.trod enc Try.prog w base spare held n 9 (([v0, v1, v2, v3, v4, v5].drop 4).take (Try.prog.cellsOf 9)) = some x4 := hf 4 _ rfl
      have f5 : DataW.trod enc Try.prog w base spare held n 34 (([v0, v1, v2, v3, v4, v5].drop 5).take (Try.prog.cellsOf 34)) = some x5 := hf 5 _ rfl
      rw [cells_i8] at f0
      rw [cells_int] at f1 f2 f3
      rw [cells_string] at f4
      rw [cells_errno] at f5
      obtain ⟨n0, h0, _, _⟩ := DataW.trod_int Try.underlying33 f0
      obtain ⟨n1, h1, _, _⟩ := DataW.trod_int Try.underlying3 f1
      obtain ⟨n2, h2, _, _⟩ := DataW.trod_int Try.underlying3 f2
      obtain ⟨n3, h3, _, _⟩ := DataW.trod_int Try.underlying3 f3
      obtain ⟨s4, h4, _, _⟩ := DataW.trod_string Try.underlying9 f4
      obtain ⟨n5, h5, _, _⟩ := DataW.trod_int Try.underlying34 f5
      simp at h0 h1 h2 h3 h4 h5
      subst h0 h1 h2 h3 h4 h5
      exact ⟨⟨n0, n1, n2, n3, s4, n5⟩, rfl⟩
/-- A parameter that is a row. -/
theorem open_row {α : Type} [Inhabited α] (K : Kind Try.prog α) (hc : Try.prog.cellsOf K.T = K.k) (hel : ∀ {fuel : Nat} {cs : List Value} {x : DataW H × List MemPlace}, DataW.trod enc Try.prog w base spare held fuel K.T cs = some x → ∃ a : α, cs = K.enc a)
    {fuel : Nat} {cs : List Value} {x : DataW H × List MemPlace} (h : DataW.trod enc Try.prog w base spare held fuel K.S cs = some x) :
    ∃ (l : List α) (a : Option Addr) (c : Nat), cs = [.slice a l.length c] ∧ l.length ≤ maxLen ∧ K.RowC w a c l := by
  rcases open_slice K.hu h with ⟨hcs, _⟩ | ⟨a, len, cap, m, n, D, Pl, hcs, _, hl, hml, hm, _, hi⟩
  · exact ⟨[], none, 0, hcs, by simp, row_none w⟩
  · have hlm : len ≤ m := by rw [hm]; split <;> omega
    have hk0 := K.hk0
    have hch : ∀ i, i < len → ∃ x : α, ∀ j, j < K.k → w.cell? (a.add (i * K.k + j)) = (K.enc x)[j]? := by
      intro i hil
      obtain ⟨cs', hcc, ht⟩ := hi i (by omega)
      rw [hc] at hcc
      obtain ⟨x, hx⟩ := hel ht
      obtain ⟨_, hcl, hat⟩ := World.cells?_some hcc
      refine ⟨x, fun j hj => ?_⟩
      rw [← hx, ← add_add]
      exact hat j hj
    obtain ⟨f, hfx⟩ := choose_lt hch
    have hll : ((List.range len).map f).length = len := by simp
    refine ⟨(List.range len).map f, some a, cap, by rw [hll]; exact hcs, by rw [hll]; omega, by rw [hll]; exact hl, hml, (fun e => by cases e), fun h0 => ?_⟩
    rw [hll] at h0
    obtain ⟨b, off, spot⟩ := a
    have hc0 := hfx 0 h0 0 hk0
    obtain ⟨v0, hv0⟩ : ∃ v, (K.enc (f 0))[0]? = some v := ⟨_, List.getElem?_eq_getElem (by rw [K.hk]; exact hk0)⟩
    rw [hv0] at hc0
    have hspot : spot = none := by simpa [Addr.add] using World.cell?_spot hc0
    subst hspot
    have hadd : ∀ k, (⟨b, off, none⟩ : Addr).add k = ⟨b, off + k, none⟩ := by intro k; unfold Addr.add; split <;> simp_all
    refine ⟨b, off, rfl, ?_, ?_⟩
    · rw [hadd] at hc0
      exact World.block_lt_of_cell? w _ hc0
    · intro j x hx i u hu
      have hj : j < len := by have := (List.getElem?_eq_some_iff.1 hx).1; simpa using this
      have hxe : x = f j := by
        rw [List.getElem?_map, List.getElem?_range hj] at hx
        simpa using hx.symm
      subst hxe
      have hik : i < K.k := by have := (List.getElem?_eq_some_iff.1 hu).1; rwa [K.hk] at this
      have := hfx j hj i hik
      rw [hadd] at this
      rw [Nat.add_assoc, this]
      exact hu
theorem open_row_p {α : Type} [Inhabited α] (K : Kind Try.prog α) (pr : α → Prop) (hc : Try.prog.cellsOf K.T = K.k) (hel : ∀ {fuel : Nat} {cs : List Value} {x : DataW H × List MemPlace}, DataW.trod enc Try.prog w base spare held fuel K.T cs = some x → ∃ a : α, cs = K.enc a ∧ pr a)
    {fuel : Nat} {cs : List Value} {x : DataW H × List MemPlace} (h : DataW.trod enc Try.prog w base spare held fuel K.S cs = some x) :
    ∃ (l : List α) (a : Option Addr) (c : Nat), cs = [.slice a l.length c] ∧ l.length ≤ maxLen ∧ (∀ x ∈ l, pr x) ∧ K.RowC w a c l := by
  rcases open_slice K.hu h with ⟨hcs, _⟩ | ⟨a, len, cap, m, n, D, Pl, hcs, _, hl, hml, hm, _, hi⟩
  · exact ⟨[], none, 0, hcs, by simp, by simp, row_none w⟩
  · have hlm : len ≤ m := by rw [hm]; split <;> omega
    have hk0 := K.hk0
    have hch : ∀ i, i < len → ∃ x : α, pr x ∧ ∀ j, j < K.k → w.cell? (a.add (i * K.k + j)) = (K.enc x)[j]? := by
      intro i hil
      obtain ⟨cs', hcc, ht⟩ := hi i (by omega)
      rw [hc] at hcc
      obtain ⟨x, hx, hpx⟩ := hel ht
      obtain ⟨_, hcl, hat⟩ := World.cells?_some hcc
      refine ⟨x, hpx, fun j hj => ?_⟩
      rw [← hx, ← add_add]
      exact hat j hj
    obtain ⟨f, hfx⟩ := choose_lt hch
    have hfp : ∀ x ∈ (List.range len).map f, pr x := fun x hx => by
      obtain ⟨i, hi, rfl⟩ := List.mem_map.1 hx
      exact (hfx i (List.mem_range.1 hi)).1
    replace hfx : ∀ i, i < len → ∀ j, j < K.k → w.cell? (a.add (i * K.k + j)) = (K.enc (f i))[j]? := fun i hi => (hfx i hi).2
    have hll : ((List.range len).map f).length = len := by simp
    refine ⟨(List.range len).map f, some a, cap, by rw [hll]; exact hcs, by rw [hll]; omega, hfp, by rw [hll]; exact hl, hml, (fun e => by cases e), fun h0 => ?_⟩
    rw [hll] at h0
    obtain ⟨b, off, spot⟩ := a
    have hc0 := hfx 0 h0 0 hk0
    obtain ⟨v0, hv0⟩ : ∃ v, (K.enc (f 0))[0]? = some v := ⟨_, List.getElem?_eq_getElem (by rw [K.hk]; exact hk0)⟩
    rw [hv0] at hc0
    have hspot : spot = none := by simpa [Addr.add] using World.cell?_spot hc0
    subst hspot
    have hadd : ∀ k, (⟨b, off, none⟩ : Addr).add k = ⟨b, off + k, none⟩ := by intro k; unfold Addr.add; split <;> simp_all
    refine ⟨b, off, rfl, ?_, ?_⟩
    · rw [hadd] at hc0
      exact World.block_lt_of_cell? w _ hc0
    · intro j x hx i u hu
      have hj : j < len := by have := (List.getElem?_eq_some_iff.1 hx).1; simpa using this
      have hxe : x = f j := by
        rw [List.getElem?_map, List.getElem?_range hj] at hx
        simpa using hx.symm
      subst hxe
      have hik : i < K.k := by have := (List.getElem?_eq_some_iff.1 hu).1; rwa [K.hk] at this
      have := hfx j hj i hik
      rw [hadd] at this
      rw [Nat.add_assoc, this]
      exact hu
/-- A duct's cells. -/
theorem trod_duct {fuel : Nat} {cs : List Value} {x : DataW H × List MemPlace} (h : DataW.trod enc Try.prog w base spare held fuel 42 cs = some x) :
    ∃ (cap : Int) (l : List Lt) (a : Option Addr) (c : Nat) (cl : Bool), cs = [.int .i64 cap, .slice a l.length c, .bool cl] ∧ l.length ≤ maxLen ∧ I64 cap ∧ LK.RowC w a c l := by
  obtain ⟨xs, n, _, rfl, hl, hlen, hf⟩ := DataW.trod_struct Try.underlying42 h
  rw [cells_duct] at hl
  match cs, hl with
  | [v0, v1, v2], _ =>
    match xs, hlen with
    | [x0, x1, x2], _ =>
      have f0 : DataW.trod enc Try.prog w base spare held n 3 (([v0, v1, v2].drop 0).take (Try.prog.cellsOf 3)) = some x0 := hf 0 _ rfl
      have f1 : DataW.trod enc Try.prog w base spare held n 40 (([v0, v1, v2].drop 1).take (Try.prog.cellsOf 40)) = some x1 := hf 1 _ rfl
      have f2 : DataW.trod enc Try.prog w base spare held n 4 (([v0, v1, v2].drop 2).take (Try.prog.cellsOf 4)) = some x2 := hf 2 _ rfl
      rw [cells_int] at f0
      rw [cells_letters] at f1
      rw [cells_bool] at f2
      obtain ⟨n0, h0, _, w0⟩ := DataW.trod_int Try.underlying3 f0
      obtain ⟨l, a, c, h1, hl, hR⟩ := open_row LK cells_letter (fun h => trod_letter h) f1
      obtain ⟨t2, h2, _⟩ := DataW.trod_bool Try.underlying4 f2
      simp at h0 h1 h2
      subst h0 h1 h2
      exact ⟨n0, l, a, c, t2, rfl, hl, wf64 w0, hR⟩
/-- Parameters that are rows of ducts, of bools. -/
theorem open_ducts {r : Reach} {b0 : Nat} {v : Value} {d : DataW H} {ps : List MemPlace} (hv : Value.okWide Try.prog w r b0 23 v) (h : DataW.Trod enc Try.prog w base spare held 23 v d ps) :
    ∃ (l : List Dv) (a : Option Addr) (c : Nat), v = .slice a l.length c ∧ l.length ≤ maxLen ∧ (∀ x ∈ l, x.cap ≤ 9223372036854775807) ∧ DK.RowC w a c l := by
  obtain ⟨a0, len, cap, rfl⟩ := okWide_slice Try.underlying23 hv
  obtain ⟨fuel, hf⟩ := h
  obtain ⟨l, a, c, e, hl, hP, hR⟩ := open_row_p DK (fun x => x.cap ≤ 9223372036854775807) cells_duct (fun h => by
    obtain ⟨cap, l, a, c, cl, e, _, hi, _⟩ := trod_duct h
    exact ⟨⟨cap, a, l.length, c, cl⟩, e, hi.2⟩) hf
  simp [Value.cells] at e
  obtain ⟨rfl, rfl, rfl⟩ := e
  exact ⟨l, a0, cap, rfl, hl, hP, hR⟩
theorem open_bools {r : Reach} {b0 : Nat} {v : Value} {d : DataW H} {ps : List MemPlace} (hv : Value.okWide Try.prog w r b0 24 v) (h : DataW.Trod enc Try.prog w base spare held 24 v d ps) :
    ∃ (l : List Bool) (a : Option Addr) (c : Nat), v = .slice a l.length c ∧ l.length ≤ maxLen ∧ True ∧ BK.RowC w a c l := by
  obtain ⟨a0, len, cap, rfl⟩ := okWide_slice Try.underlying24 hv
  obtain ⟨fuel, hf⟩ := h
  obtain ⟨l, a, c, e, hl, hR⟩ := open_row BK cells_bool (fun h => by
    obtain ⟨t, h2, _⟩ := DataW.trod_bool Try.underlying4 h
    exact ⟨t, h2⟩) hf
  simp [Value.cells] at e
  obtain ⟨rfl, rfl, rfl⟩ := e
  exact ⟨l, a0, cap, rfl, hl, trivial, hR⟩
/-- A case's cells. -/
theorem trod_offer {fuel : Nat} {cs : List Value} {x : DataW H × List MemPlace} (h : DataW.trod enc Try.prog w base spare held fuel 38 cs = some x) : ∃ a : Of, cs = a.enc := by
  obtain ⟨xs, n, _, rfl, hl, hlen, hf⟩ := DataW.trod_struct Try.underlying38 h
  rw [cells_offer] at hl
  match cs, hl with
  | [u0, u1, v0, v1, v2, v3, v4, v5, u8], _ =>
    match xs, hlen with
    | [x0, x1, x2, x3], _ =>
      have f0 : DataW.trod enc Try.prog w base spare held n 33 (([u0, u1, v0, v1, v2, v3, v4, v5, u8].drop 0).take (Try.prog.cellsOf 33)) = some x0 := hf 0 _ rfl
      have f1 : DataW.trod enc Try.prog w base spare held n 3 (([u0, u1, v0, v1, v2, v3, v4, v5, u8].drop 1).take (Try.prog.cellsOf 3)) = some x1 := hf 1 _ rfl
      have f2 : DataW.trod enc Try.prog w base spare held n 36 (([u0, u1, v0, v1, v2, v3, v4, v5, u8].drop 2).take (Try.prog.cellsOf 36)) = some x2 := hf 2 _ rfl
      have f3 : DataW.trod enc Try.prog w base spare held n 3 (([u0, u1, v0, v1, v2, v3, v4, v5, u8].drop 8).take (Try.prog.cellsOf 3)) = some x3 := hf 3 _ rfl
      rw [cells_i8] at f0
      rw [cells_int] at f1 f3
      rw [cells_letter] at f2
      obtain ⟨n0, h0, _, _⟩ := DataW.trod_int Try.underlying33 f0
      obtain ⟨n1, h1, _, _⟩ := DataW.trod_int Try.underlying3 f1
      obtain ⟨m, hm⟩ := trod_letter f2
      obtain ⟨n3, h3, _, _⟩ := DataW.trod_int Try.underlying3 f3
      simp at h0 h1 h3
      subst h0 h1 h3
      have e : [v0, v1, v2, v3, v4, v5] = m.enc := hm
      simp only [Lt.enc, List.cons.injEq, and_true] at e
      obtain ⟨rfl, rfl, rfl, rfl, rfl, rfl⟩ := e
      exact ⟨⟨n0, n1, m, n3⟩, rfl⟩
theorem open_offers {r : Reach} {b0 : Nat} {v : Value} {d : DataW H} {ps : List MemPlace} (hv : Value.okWide Try.prog w r b0 31 v) (h : DataW.Trod enc Try.prog w base spare held 31 v d ps) :
    ∃ (l : List Of) (a : Option Addr) (c : Nat), v = .slice a l.length c ∧ l.length ≤ maxLen ∧ True ∧ OK.RowC w a c l := by
  obtain ⟨a0, len, cap, rfl⟩ := okWide_slice Try.underlying31 hv
  obtain ⟨fuel, hf⟩ := h
  obtain ⟨l, a, c, e, hl, hR⟩ := open_row OK cells_offer (fun h => trod_offer h) hf
  simp [Value.cells] at e
  obtain ⟨rfl, rfl, rfl⟩ := e
  exact ⟨l, a0, cap, rfl, hl, trivial, hR⟩
/-- Rows of rows. -/
theorem open_rows {fuel : Nat} {cs : List Value} {x : DataW H × List MemPlace} (h : DataW.trod enc Try.prog w base spare held fuel RK.S cs = some x) :
    ∃ (hs : List Hv) (R : List (List Of)) (a : Option Addr) (c : Nat), cs = [.slice a hs.length c] ∧ hs.length ≤ maxLen ∧ RowsC w a c hs R := by
  rcases open_slice RK.hu h with ⟨hcs, _⟩ | ⟨a, len, cap, m, n, D, Pl, hcs, _, hl, hml, hm, _, hi⟩
  · exact ⟨[], [], none, 0, hcs, by simp, row_none w, rfl, fun j h l h1 => by simp at h1⟩
  · have hlm : len ≤ m := by rw [hm]; split <;> omega
    have hch : ∀ i, i < len → ∃ y : List Of × Option Addr × Nat, w.cell? (a.add i) = some (.slice y.2.1 y.1.length y.2.2) ∧ OK.RowC w y.2.1 y.2.2 y.1 := by
      intro i hil
      obtain ⟨cs', hcc, ht⟩ := hi i (by omega)
      have hc1 : Try.prog.cellsOf RK.T = 1 := cells_offers
      rw [hc1] at hcc
      obtain ⟨l, ar, cr, e, _, hR⟩ := open_row OK cells_offer (fun h => trod_offer h) ht
      obtain ⟨_, hcl, hat⟩ := World.cells?_some hcc
      refine ⟨(l, ar, cr), ?_, hR⟩
      have h0 := hat 0 (by omega)
      rw [e] at h0
      rw [Nat.mul_one] at h0
      have ha0 : ∀ p : Addr, p.add 0 = p := fun p => by cases p; simp [Addr.add]
      rw [ha0] at h0
      simpa using h0
    obtain ⟨f, hfx⟩ := choose_lt hch
    have hll : ((List.range len).map (fun i => (⟨(f i).2.1, (f i).1.length, (f i).2.2⟩ : Hv))).length = len := by simp
    refine ⟨(List.range len).map (fun i => ⟨(f i).2.1, (f i).1.length, (f i).2.2⟩), (List.range len).map (fun i => (f i).1), some a, cap, by rw [hll]; exact hcs, by rw [hll]; omega, ⟨by rw [hll]; exact hl, hml, (fun e => by cases e), fun h0 => ?_⟩, by simp, fun j h l h1 h2 => ?_⟩
    · rw [hll] at h0
      obtain ⟨b, off, spot⟩ := a
      have hc0 := (hfx 0 h0).1
      have hspot : spot = none := by simpa [Addr.add] using World.cell?_spot hc0
      subst hspot
      have hadd : ∀ k, (⟨b, off, none⟩ : Addr).add k = ⟨b, off + k, none⟩ := by intro k; unfold Addr.add; split <;> simp_all
      refine ⟨b, off, rfl, ?_, ?_⟩
      · rw [hadd] at hc0
        exact World.block_lt_of_cell? w _ hc0
      · intro j y hy i u hu
        have hj : j < len := by have := (List.getElem?_eq_some_iff.1 hy).1; simpa using this
        have hye : y = ⟨(f j).2.1, (f j).1.length, (f j).2.2⟩ := by
          rw [List.getElem?_map, List.getElem?_range hj] at hy
          simpa using hy.symm
        subst hye
        have hi0 : i = 0 := by have := (List.getElem?_eq_some_iff.1 hu).1; simp [RK] at this; omega
        subst hi0
        have := (hfx j hj).1
        rw [hadd] at this
        show w.cell? ⟨b, off + j * 1 + 0, none⟩ = some u
        rw [Nat.mul_one, Nat.add_zero, this]
        simpa [RK] using hu
    · have hj : j < len := by have := (List.getElem?_eq_some_iff.1 h1).1; simpa using this
      rw [List.getElem?_map, List.getElem?_range hj] at h1 h2
      simp at h1 h2
      subst h1 h2
      exact ⟨rfl, (hfx j hj).2⟩
theorem open_rowss {r : Reach} {b0 : Nat} {v : Value} {d : DataW H} {ps : List MemPlace} (hv : Value.okWide Try.prog w r b0 22 v) (h : DataW.Trod enc Try.prog w base spare held 22 v d ps) :
    ∃ (hs : List Hv) (R : List (List Of)) (a : Option Addr) (c : Nat), v = .slice a hs.length c ∧ hs.length ≤ maxLen ∧ RowsC w a c hs R := by
  obtain ⟨a0, len, cap, rfl⟩ := okWide_slice Try.underlying22 hv
  obtain ⟨fuel, hf⟩ := h
  obtain ⟨hs, R, a, c, e, hl, hR⟩ := open_rows hf
  simp [Value.cells] at e
  obtain ⟨rfl, rfl, rfl⟩ := e
  exact ⟨hs, R, a0, cap, rfl, hl, hR⟩
end
/-- How many a slice's reading holds. -/
theorem rows_weight {H : Type} {enc : TypeId × Value → H} {w : World} {base : Nat} {spare : Nat → Bool} {held : Bool} {a : Option Addr} {n c : Nat} {d : DataW H} {ps : List MemPlace} (h : DataW.Trod enc Try.prog w base spare held 22 (.slice a n c) d ps) : n = 0 ∨ ∃ elems rest, d = .slice elems rest ∧ elems.length = n := by
  obtain ⟨fuel, hf⟩ := h
  rcases open_slice (P := Try.prog) RK.hu hf with ⟨hcs, _⟩ | ⟨a, len, cap, m, k, D, Pl, hcs, _, _, _, _, hx, _⟩
  · simp [Value.cells] at hcs
    exact .inl hcs.2.1
  · simp [Value.cells] at hcs
    injection hx with hx _
    exact .inr ⟨_, _, hx, by simp [hcs.2.1]⟩
theorem bytes_offers : Try.prog.bytesOf 31 = 24 := by kernel_rfl
/-- An argument reads behind the call as it read before. -/
theorem stays {H : Type} {enc : TypeId × Value → H} {t : TypeId} (hr : Try.prog.readableRec t = true) (hrow : t < Try.prog.types.size) {W W' : World} {v : Value} {d : DataW H} {ps : List MemPlace}
    (h : DataW.Trod enc Try.prog W 0 (fun _ => true) true t v d ps) (hb : Below W.heap.size W W') (hlt : ∀ x ∈ ps, x.block < W.heap.size) (sp : Nat → Bool) (hsp : ∀ x ∈ ps, sp x.block = true) :
    DataW.Trod enc Try.prog W' 0 sp true t v d ps :=
  WideElems.Trod_stays laidOut hr hrow h (fun x hx => hb.same (hlt x hx)) hsp
end Go.Proofs.Ytjiepdgflfhkcaa
