/- What comes among the arguments, opened; arguments that read as they did. -/
import Derived.Test.YtpncgcaepdkcnaaSpecs
import Derived.Test.YtpncgcaepdkcnaaFrame
import Derived.Deep.Slices
import Derived.OpenShut
import Derived.Carry
set_option linter.unusedSimpArgs false
set_option linter.unusedVariables false
namespace Go.Proofs.Ytpncgcaepdkcnaa
open Go.ChangeShapes Go.WideShapes Go.ChangeAt Go.RowKit Go.Deep Go.Proofs.Ytpncgcaepdkcnaa.Kind
theorem choose_list {α β : Type} {P : α → β → Prop} : ∀ (l : List α), (∀ x ∈ l, ∃ b, P x b) → ∃ L : List β, l.length = L.length ∧ ∀ (j : Nat) (x : α) (b : β), l[j]? = some x → L[j]? = some b → P x b
  | [], _ => ⟨[], rfl, fun j x b h => by simp at h⟩
  | y :: l, h => by
    obtain ⟨b, hb⟩ := h y (by simp)
    obtain ⟨L, h1, h2⟩ := choose_list l (fun x hx => h x (by simp [hx]))
    refine ⟨b :: L, by simp [h1], fun j x c hx hc => ?_⟩
    cases j with
    | zero => simp at hx hc; subst hx hc; exact hb
    | succ j => exact h2 j x c (by simpa using hx) (by simpa using hc)
section
variable {H : Type} {enc : TypeId × Value → H} {w : World} {base : Nat} {spare : Nat → Bool} {held : Bool}
theorem laidOut : laidOutB Try.prog = true := by kernel_rfl
theorem cells_of_bool : Try.prog.cellsOf 4 = 1 := by kernel_rfl
theorem cells_of_i64 : Try.prog.cellsOf 3 = 1 := by kernel_rfl
set_option maxRecDepth 1000000
/-- What was read takes no more than the form's own reach. -/
def Light (t : TypeId) (d : DataW H) : Prop := ∀ y ∈ d.weights Try.prog t, y ≤ reachBytes
theorem mem_weightsAll {e : TypeId} : ∀ {l : List (DataW H)} {d : DataW H}, d ∈ l → ∀ y ∈ d.weights Try.prog e, y ∈ DataW.weightsAll Try.prog e l
  | x :: l, d, hd, y, hy => by
    simp only [DataW.weightsAll, List.mem_append]
    rcases List.mem_cons.1 hd with rfl | h
    · exact .inl hy
    · exact .inr (mem_weightsAll h y hy)
theorem light_elem {t e : TypeId} {elems rest : List (DataW H)} (hu : Try.prog.underlying t = some (.slice e)) (h : Light t (.slice elems rest)) : ∀ d ∈ elems, Light e d := fun d hd y hy =>
  h y (by simp only [DataW.weights, hu, List.mem_cons, List.mem_append]; exact .inr (.inl (mem_weightsAll hd y hy)))
theorem light_size {t e : TypeId} {elems rest : List (DataW H)} (hu : Try.prog.underlying t = some (.slice e)) (h : Light t (.slice elems rest)) : (elems.length + rest.length) * Try.prog.bytesOf e ≤ reachBytes :=
  h _ (by simp [DataW.weights, hu])
theorem light_field {t : TypeId} {fs : Array Field} {parts : List (DataW H)} (hu : Try.prog.underlying t = some (.struct fs)) (h : Light t (.agg parts)) {j : Nat} {f : Field} {d : DataW H} (hf : fs[j]? = some f) (hd : parts[j]? = some d) : Light f.type d := fun y hy =>
  h y (by
    simp only [DataW.weights, hu]
    exact DataW.weights_mem_each (j := j) (t := f.type) (d := d) (by simp [hf]) hd y hy)
theorem light_par {ts : List TypeId} {ds : List (DataW H)} (h : (DataW.weightsEach Try.prog ts ds).all (fun x => decide (x ≤ reachBytes)) = true) {j : Nat} {t : TypeId} {d : DataW H} (ht : ts[j]? = some t) (hd : ds[j]? = some d) : Light t d := fun y hy => by
  have := List.all_eq_true.1 h _ (DataW.weights_mem_each ht hd y hy)
  simpa using this
theorem open_row_w {α : Type} [Inhabited α] (K : Kind Try.prog α) (pr : α → Prop) (hc : Try.prog.cellsOf K.T = K.k) (hel : ∀ {fuel : Nat} {cs : List Value} {x : DataW H × List MemPlace}, DataW.trod enc Try.prog w base spare held fuel K.T cs = some x → Light K.T x.1 → ∃ a : α, cs = K.enc a ∧ pr a)
    {fuel : Nat} {cs : List Value} {x : DataW H × List MemPlace} (h : DataW.trod enc Try.prog w base spare held fuel K.S cs = some x) (hL : Light K.S x.1) :
    ∃ (l : List α) (a : Option Addr) (c : Nat), cs = [.slice a l.length c] ∧ l.length ≤ maxLen ∧ l.length * Try.prog.bytesOf K.T ≤ reachBytes ∧ (∀ x ∈ l, pr x) ∧ K.RowC w a c l := by
  rcases open_slice K.hu h with ⟨hcs, _⟩ | ⟨a, len, cap, m, n, D, Pl, hcs, _, hl, hml, hm, hx, hi⟩
  · exact ⟨[], none, 0, hcs, by simp, by simp, by simp, row_none w⟩
  · rw [hx] at hL
    have hle := light_elem K.hu hL
    have hls := light_size K.hu hL
    clear hx
    have hlm : len ≤ m := by rw [hm]; split <;> omega
    have hk0 := K.hk0
    have hch : ∀ i, i < len → ∃ x : α, pr x ∧ ∀ j, j < K.k → w.cell? (a.add (i * K.k + j)) = (K.enc x)[j]? := by
      intro i hil
      obtain ⟨cs', hcc, ht⟩ := hi i (by omega)
      rw [hc] at hcc
      obtain ⟨x, hx, hpx⟩ := hel ht (hle (D i) (List.mem_map.2 ⟨i, List.mem_range.2 hil, rfl⟩))
      obtain ⟨_, hcl, hat⟩ := World.cells?_some hcc
      refine ⟨x, hpx, fun j hj => ?_⟩
      rw [← hx, ← add_add]
      exact hat j hj
    obtain ⟨f, hfx⟩ := choose_lt hch
    have hfp : ∀ x ∈ (List.range len).map f, pr x := fun x hx => by
      obtain ⟨i, hi, rfl⟩ := List.mem_map.1 hx
      exact (hfx i (List.mem_range.1 hi)).1
    replace hfx : ∀ i, i < len → ∀ j, j < K.k → w.cell? (a.add (i * K.k + j)) = (K.enc (f i))[j]? := fun i hi => (hfx i hi).2
    have hll : ((List.range len).map f).length = len := by simp
    refine ⟨(List.range len).map f, some a, cap, by rw [hll]; exact hcs, by rw [hll]; omega, by rw [hll]; refine Nat.le_trans (Nat.mul_le_mul_right _ ?_) hls; simp, hfp, by rw [hll]; exact hl, hml, (fun e => by cases e), fun h0 => ?_⟩
    rw [hll] at h0
    obtain ⟨b, off, spot⟩ := a
    have hc0 := hfx 0 h0 0 hk0
    obtain ⟨v0, hv0⟩ : ∃ v, (K.enc (f 0))[0]? = some v := ⟨_, List.getElem?_eq_getElem (by rw [K.hk]; exact hk0)⟩
    rw [hv0] at hc0
    have hspot : spot = none := by simpa [Addr.add] using World.cell?_spot hc0
    subst hspot
    have hadd : ∀ k, (⟨b, off, none⟩ : Addr).add k = ⟨b, off + k, none⟩ := by intro k; unfold Addr.add; split <;> simp_all
    refine ⟨b, off, rfl, ?_, ?_⟩
    · rw [hadd] at hc0
      exact World.block_lt_of_cell? w _ hc0
    · intro j x hx i u hu
      have hj : j < len := by have := (List.getElem?_eq_some_iff.1 hx).1; simpa using this
      have hxe : x = f j := by
        rw [List.getElem?_map, List.getElem?_range hj] at hx
        simpa using hx.symm
      subst hxe
      have hik : i < K.k := by have := (List.getElem?_eq_some_iff.1 hu).1; rwa [K.hk] at this
      have := hfx j hj i hik
      rw [hadd] at this
      rw [Nat.add_assoc, this]
      exact hu
theorem cells_Pc : Try.prog.cellsOf 26 = 3 := by kernel_rfl
/-- What memory pays of it. -/
def FitPc (a : Pc) : Prop := (-9223372036854775808 ≤ a.n ∧ a.n ≤ 9223372036854775807) ∧ (-9223372036854775808 ≤ a.at_ ∧ a.at_ ≤ 9223372036854775807)
theorem trod_Pc {fuel : Nat} {cs : List Value} {x : DataW H × List MemPlace} (h : DataW.trod enc Try.prog w base spare held fuel 26 cs = some x) (hL : Light 26 x.1) : ∃ a : Pc, cs = a.enc ∧ FitPc a := by
  obtain ⟨xs, n, _, rfl, hl, hlen, hf⟩ := DataW.trod_struct Try.underlying26 h
  rw [cells_Pc] at hl
  match cs, hl with
  | [v0, v1, v2], _ =>
    match xs, hlen with
    | [x0, x1, x2], _ =>
      have f0 : DataW.trod enc Try.prog w base spare held n 4 (([v0, v1, v2].drop 0).take (Try.prog.cellsOf 4)) = some x0 := hf 0 _ rfl
      rw [cells_of_bool] at f0
      have f1 : DataW.trod enc Try.prog w base spare held n 3 (([v0, v1, v2].drop 1).take (Try.prog.cellsOf 3)) = some x1 := hf 1 _ rfl
      rw [cells_of_i64] at f1
      have f2 : DataW.trod enc Try.prog w base spare held n 3 (([v0, v1, v2].drop 2).take (Try.prog.cellsOf 3)) = some x2 := hf 2 _ rfl
      rw [cells_of_i64] at f2
      obtain ⟨q0, h0, _⟩ := DataW.trod_bool Try.underlying4 f0
      simp at h0
      subst h0
      obtain ⟨q1, h1, _, w1⟩ := DataW.trod_int Try.underlying3 f1
      have p1 : -9223372036854775808 ≤ q1 ∧ q1 ≤ 9223372036854775807 := by simpa [Lit.wf, IntKind.min, IntKind.max, IntKind.signed, IntKind.bits] using w1
      simp at h1
      subst h1
      obtain ⟨q2, h2, _, w2⟩ := DataW.trod_int Try.underlying3 f2
      have p2 : -9223372036854775808 ≤ q2 ∧ q2 ≤ 9223372036854775807 := by simpa [Lit.wf, IntKind.min, IntKind.max, IntKind.signed, IntKind.bits] using w2
      simp at h2
      subst h2
      exact ⟨⟨q0, q1, q2⟩, rfl, ⟨p1, p2⟩⟩
/-- A parameter that is one. -/
theorem open_pc {r : Reach} {b0 : Nat} {v : Value} {d : DataW H} {ps : List MemPlace} (hv : Value.okWide Try.prog w r b0 26 v) (h : DataW.Trod enc Try.prog w base spare held 26 v d ps) (hL : Light 26 d) :
    ∃ a : Pc, v = a.v ∧ FitPc a := by
  obtain ⟨cs, rfl, hsz⟩ := okWide_struct Try.underlying26 hv
  obtain ⟨fuel, hf⟩ := h
  obtain ⟨a, ha, hP⟩ := trod_Pc hf hL
  refine ⟨a, ?_, hP⟩
  have e : cs.toList = a.enc := ha
  show Value.agg cs = Value.agg a.enc.toArray
  rw [← e]
/-- A parameter that is a row of them. -/
theorem open_pcs {r : Reach} {b0 : Nat} {v : Value} {d : DataW H} {ps : List MemPlace} (hv : Value.okWide Try.prog w r b0 24 v) (h : DataW.Trod enc Try.prog w base spare held 24 v d ps) (hL : Light 24 d) :
    ∃ (l : List Pc) (a : Option Addr) (c : Nat), v = .slice a l.length c ∧ l.length ≤ maxLen ∧ (∀ x ∈ l, FitPc x) ∧ PK.RowC w a c l := by
  obtain ⟨a0, len, cap, rfl⟩ := okWide_slice Try.underlying24 hv
  obtain ⟨fuel, hf⟩ := h
  obtain ⟨l, a, c, e, hl, _, hok, hR⟩ := open_row_w PK FitPc cells_Pc (fun h hL => trod_Pc h hL) hf hL
  simp [Value.cells] at e
  obtain ⟨rfl, rfl, rfl⟩ := e
  exact ⟨l, a0, cap, rfl, hl, hok, hR⟩
theorem cells_Ac : Try.prog.cellsOf 39 = 2 := by kernel_rfl
/-- What memory pays of it. -/
def FitAc (a : Ac) : Prop := (-9223372036854775808 ≤ a.n ∧ a.n ≤ 9223372036854775807) ∧ (-9223372036854775808 ≤ a.later ∧ a.later ≤ 9223372036854775807)
theorem trod_Ac {fuel : Nat} {cs : List Value} {x : DataW H × List MemPlace} (h : DataW.trod enc Try.prog w base spare held fuel 39 cs = some x) (hL : Light 39 x.1) : ∃ a : Ac, cs = a.enc ∧ FitAc a := by
  obtain ⟨xs, n, _, rfl, hl, hlen, hf⟩ := DataW.trod_struct Try.underlying39 h
  rw [cells_Ac] at hl
  match cs, hl with
  | [v0, v1], _ =>
    match xs, hlen with
    | [x0, x1], _ =>
      have f0 : DataW.trod enc Try.prog w base spare held n 3 (([v0, v1].drop 0).take (Try.prog.cellsOf 3)) = some x0 := hf 0 _ rfl
      rw [cells_of_i64] at f0
      have f1 : DataW.trod enc Try.prog w base spare held n 3 (([v0, v1].drop 1).take (Try.prog.cellsOf 3)) = some x1 := hf 1 _ rfl
      rw [cells_of_i64] at f1
      obtain ⟨q0, h0, _, w0⟩ := DataW.trod_int Try.underlying3 f0
      have p0 : -9223372036854775808 ≤ q0 ∧ q0 ≤ 9223372036854775807 := by simpa [Lit.wf, IntKind.min, IntKind.max, IntKind.signed, IntKind.bits] using w0
      simp at h0
      subst h0
      obtain ⟨q1, h1, _, w1⟩ := DataW.trod_int Try.underlying3 f1
      have p1 : -9223372036854775808 ≤ q1 ∧ q1 ≤ 9223372036854775807 := by simpa [Lit.wf, IntKind.min, IntKind.max, IntKind.signed, IntKind.bits] using w1
      simp at h1
      subst h1
      exact ⟨⟨q0, q1⟩, rfl, ⟨p0, p1⟩⟩
/-- A parameter that is one. -/
theorem open_ac {r : Reach} {b0 : Nat} {v : Value} {d : DataW H} {ps : List MemPlace} (hv : Value.okWide Try.prog w r b0 39 v) (h : DataW.Trod enc Try.prog w base spare held 39 v d ps) (hL : Light 39 d) :
    ∃ a : Ac, v = a.v ∧ FitAc a := by
  obtain ⟨cs, rfl, hsz⟩ := okWide_struct Try.underlying39 hv
  obtain ⟨fuel, hf⟩ := h
  obtain ⟨a, ha, hP⟩ := trod_Ac hf hL
  refine ⟨a, ?_, hP⟩
  have e : cs.toList = a.enc := ha
  show Value.agg cs = Value.agg a.enc.toArray
  rw [← e]
/-- A parameter that is a row of them. -/
theorem open_acs {r : Reach} {b0 : Nat} {v : Value} {d : DataW H} {ps : List MemPlace} (hv : Value.okWide Try.prog w r b0 36 v) (h : DataW.Trod enc Try.prog w base spare held 36 v d ps) (hL : Light 36 d) :
    ∃ (l : List Ac) (a : Option Addr) (c : Nat), v = .slice a l.length c ∧ l.length ≤ maxLen ∧ (∀ x ∈ l, FitAc x) ∧ CK.RowC w a c l := by
  obtain ⟨a0, len, cap, rfl⟩ := okWide_slice Try.underlying36 hv
  obtain ⟨fuel, hf⟩ := h
  obtain ⟨l, a, c, e, hl, _, hok, hR⟩ := open_row_w CK FitAc cells_Ac (fun h hL => trod_Ac h hL) hf hL
  simp [Value.cells] at e
  obtain ⟨rfl, rfl, rfl⟩ := e
  exact ⟨l, a0, cap, rfl, hl, hok, hR⟩
end
/-- An argument reads behind the call as it read before. -/
theorem stays {H : Type} {enc : TypeId × Value → H} {t : TypeId} (hr : Try.prog.readableRec t = true) (hrow : t < Try.prog.types.size) {W W' : World} {v : Value} {d : DataW H} {ps : List MemPlace}
    (h : DataW.Trod enc Try.prog W 0 (fun _ => true) true t v d ps) (hb : Below W.heap.size W W') (hlt : ∀ x ∈ ps, x.block < W.heap.size) (sp : Nat → Bool) (hsp : ∀ x ∈ ps, sp x.block = true) :
    DataW.Trod enc Try.prog W' 0 sp true t v d ps :=
  WideElems.Trod_stays laidOut hr hrow h (fun x hx => hb.same (hlt x hx)) hsp
end Go.Proofs.Ytpncgcaepdkcnaa
