/- What comes among the arguments, opened; arguments that read as they did. -/
import Derived.Test.YtaealoodchkeaaaSpecs
import Derived.Test.YtaealoodchkeaaaFrame
import Derived.Deep.Slices
import Derived.OpenShut
import Derived.Carry
set_option linter.unusedSimpArgs false
set_option linter.unusedVariables false
namespace Go.Proofs.Ytaealoodchkeaaa
open Go.ChangeShapes Go.WideShapes Go.ChangeAt Go.RowKit Go.Deep Go.Proofs.Ytaealoodchkeaaa.Kind
theorem choose_list {α β : Type} {P : α → β → Prop} : ∀ (l : List α), (∀ x ∈ l, ∃ b, P x b) → ∃ L : List β, l.length = L.length ∧ ∀ (j : Nat) (x : α) (b : β), l[j]? = some x → L[j]? = some b → P x b
  | [], _ => ⟨[], rfl, fun j x b h => by simp at h⟩
  | y :: l, h => by
    obtain ⟨b, hb⟩ := h y (by simp)
    obtain ⟨L, h1, h2⟩ := choose_list l (fun x hx => h x (by simp [hx]))
    refine ⟨b :: L, by simp [h1], fun j x c hx hc => ?_⟩
    cases j with
    | zero => simp at hx hc; subst hx hc; exact hb
    | succ j => exact h2 j x c (by simpa using hx) (by simpa using hc)
section
variable {H : Type} {enc : TypeId × Value → H} {w : World} {base : Nat} {spare : Nat → Bool} {held : Bool}
theorem laidOut : laidOutB Try.prog = true := by kernel_rfl
theorem cells_of_Errno : Try.prog.cellsOf 25 = 1 := by kernel_rfl
theorem cells_of_i64 : Try.prog.cellsOf 3 = 1 := by kernel_rfl
theorem cells_of_str : Try.prog.cellsOf 9 = 1 := by kernel_rfl
set_option maxRecDepth 1000000
/-- What was read takes no more than the form's own reach. -/
def Light (t : TypeId) (d : DataW H) : Prop := ∀ y ∈ d.weights Try.prog t, y ≤ reachBytes
theorem mem_weightsAll {e : TypeId} : ∀ {l : List (DataW H)} {d : DataW H}, d ∈ l → ∀ y ∈ d.weights Try.prog e, y ∈ DataW.weightsAll Try.prog e l
  | x :: l, d, hd, y, hy => by
    simp only [DataW.weightsAll, List.mem_append]
    rcases List.mem_cons.1 hd with rfl | h
    · exact .inl hy
    · exact .inr (mem_weightsAll h y hy)
theorem light_elem {t e : TypeId} {elems rest : List (DataW H)} (hu : Try.prog.underlying t = some (.slice e)) (h : Light t (.slice elems rest)) : ∀ d ∈ elems, Light e d := fun d hd y hy =>
  h y (by simp only [DataW.weights, hu, List.mem_cons, List.mem_append]; exact .inr (.inl (mem_weightsAll hd y hy)))
theorem light_size {t e : TypeId} {elems rest : List (DataW H)} (hu : Try.prog.underlying t = some (.slice e)) (h : Light t (.slice elems rest)) : (elems.length + rest.length) * Try.prog.bytesOf e ≤ reachBytes :=
  h _ (by simp [DataW.weights, hu])
theorem light_field {t : TypeId} {fs : Array Field} {parts : List (DataW H)} (hu : Try.prog.underlying t = some (.struct fs)) (h : Light t (.agg parts)) {j : Nat} {f : Field} {d : DataW H} (hf : fs[j]? = some f) (hd : parts[j]? = some d) : Light f.type d := fun y hy =>
  h y (by
    simp only [DataW.weights, hu]
    exact DataW.weights_mem_each (j := j) (t := f.type) (d := d) (by simp [hf]) hd y hy)
theorem light_par {ts : List TypeId} {ds : List (DataW H)} (h : (DataW.weightsEach Try.prog ts ds).all (fun x => decide (x ≤ reachBytes)) = true) {j : Nat} {t : TypeId} {d : DataW H} (ht : ts[j]? = some t) (hd : ds[j]? = some d) : Light t d := fun y hy => by
  have := List.all_eq_true.1 h _ (DataW.weights_mem_each ht hd y hy)
  simpa using this
theorem open_row_w {α : Type} [Inhabited α] (K : Kind Try.prog α) (pr : α → Prop) (hc : Try.prog.cellsOf K.T = K.k) (hel : ∀ {fuel : Nat} {cs : List Value} {x : DataW H × List MemPlace}, DataW.trod enc Try.prog w base spare held fuel K.T cs = some x → Light K.T x.1 → ∃ a : α, cs = K.enc a ∧ pr a)
    {fuel : Nat} {cs : List Value} {x : DataW H × List MemPlace} (h : DataW.trod enc Try.prog w base spare held fuel K.S cs = some x) (hL : Light K.S x.1) :
    ∃ (l : List α) (a : Option Addr) (c : Nat), cs = [.slice a l.length c] ∧ l.length ≤ maxLen ∧ l.length * Try.prog.bytesOf K.T ≤ reachBytes ∧ (∀ x ∈ l, pr x) ∧ K.RowC w a c l := by
  rcases open_slice K.hu h with ⟨hcs, _⟩ | ⟨a, len, cap, m, n, D, Pl, hcs, _, hl, hml, hm, hx, hi⟩
  · exact ⟨[], none, 0, hcs, by simp, by simp, by simp, row_none w⟩
  · rw [hx] at hL
    have hle := light_elem K.hu hL
    have hls := light_size K.hu hL
    clear hx
    have hlm : len ≤ m := by rw [hm]; split <;> omega
    have hk0 := K.hk0
    have hch : ∀ i, i < len → ∃ x : α, pr x ∧ ∀ j, j < K.k → w.cell? (a.add (i * K.k + j)) = (K.enc x)[j]? := by
      intro i hil
      obtain ⟨cs', hcc, ht⟩ := hi i (by omega)
      rw [hc] at hcc
      obtain ⟨x, hx, hpx⟩ := hel ht (hle (D i) (List.mem_map.2 ⟨i, List.mem_range.2 hil, rfl⟩))
      obtain ⟨_, hcl, hat⟩ := World.cells?_some hcc
      refine ⟨x, hpx, fun j hj => ?_⟩
      rw [← hx, ← add_add]
      exact hat j hj
    obtain ⟨f, hfx⟩ := choose_lt hch
    have hfp : ∀ x ∈ (List.range len).map f, pr x := fun x hx => by
      obtain ⟨i, hi, rfl⟩ := List.mem_map.1 hx
      exact (hfx i (List.mem_range.1 hi)).1
    replace hfx : ∀ i, i < len → ∀ j, j < K.k → w.cell? (a.add (i * K.k + j)) = (K.enc (f i))[j]? := fun i hi => (hfx i hi).2
    have hll : ((List.range len).map f).length = len := by simp
    refine ⟨(List.range len).map f, some a, cap, by rw [hll]; exact hcs, by rw [hll]; omega, by rw [hll]; refine Nat.le_trans (Nat.mul_le_mul_right _ ?_) hls; simp, hfp, by rw [hll]; exact hl, hml, (fun e => by cases e), fun h0 => ?_⟩
    rw [hll] at h0
    obtain ⟨b, off, spot⟩ := a
    have hc0 := hfx 0 h0 0 hk0
    obtain ⟨v0, hv0⟩ : ∃ v, (K.enc (f 0))[0]? = some v := ⟨_, List.getElem?_eq_getElem (by rw [K.hk]; exact hk0)⟩
    rw [hv0] at hc0
    have hspot : spot = none := by simpa [Addr.add] using World.cell?_spot hc0
    subst hspot
    have hadd : ∀ k, (⟨b, off, none⟩ : Addr).add k = ⟨b, off + k, none⟩ := by intro k; unfold Addr.add; split <;> simp_all
    refine ⟨b, off, rfl, ?_, ?_⟩
    · rw [hadd] at hc0
      exact World.block_lt_of_cell? w _ hc0
    · intro j x hx i u hu
      have hj : j < len := by have := (List.getElem?_eq_some_iff.1 hx).1; simpa using this
      have hxe : x = f j := by
        rw [List.getElem?_map, List.getElem?_range hj] at hx
        simpa using hx.symm
      subst hxe
      have hik : i < K.k := by have := (List.getElem?_eq_some_iff.1 hu).1; rwa [K.hk] at this
      have := hfx j hj i hik
      rw [hadd] at this
      rw [Nat.add_assoc, this]
      exact hu
theorem cells_Kn : Try.prog.cellsOf 29 = 4 := by kernel_rfl
/-- What memory pays of it. -/
def FitKn (a : Kn) : Prop := a.name.size ≤ 140737488355328 ∧ a.row.size ≤ 140737488355328 ∧ (-9223372036854775808 ≤ a.e ∧ a.e ≤ 9223372036854775807) ∧ (-9223372036854775808 ≤ a.until_ ∧ a.until_ ≤ 9223372036854775807)
theorem trod_Kn {fuel : Nat} {cs : List Value} {x : DataW H × List MemPlace} (h : DataW.trod enc Try.prog w base spare held fuel 29 cs = some x) (hL : Light 29 x.1) : ∃ a : Kn, cs = a.enc ∧ FitKn a := by
  obtain ⟨xs, n, _, rfl, hl, hlen, hf⟩ := DataW.trod_struct Try.underlying29 h
  rw [cells_Kn] at hl
  match cs, hl with
  | [v0, v1, v2, v3], _ =>
    match xs, hlen with
    | [x0, x1, x2, x3], _ =>
      have f0 : DataW.trod enc Try.prog w base spare held n 9 (([v0, v1, v2, v3].drop 0).take (Try.prog.cellsOf 9)) = some x0 := hf 0 _ rfl
      rw [cells_of_str] at f0
      have f1 : DataW.trod enc Try.prog w base spare held n 9 (([v0, v1, v2, v3].drop 1).take (Try.prog.cellsOf 9)) = some x1 := hf 1 _ rfl
      rw [cells_of_str] at f1
      have f2 : DataW.trod enc Try.prog w base spare held n 25 (([v0, v1, v2, v3].drop 2).take (Try.prog.cellsOf 25)) = some x2 := hf 2 _ rfl
      rw [cells_of_Errno] at f2
      have f3 : DataW.trod enc Try.prog w base spare held n 3 (([v0, v1, v2, v3].drop 3).take (Try.prog.cellsOf 3)) = some x3 := hf 3 _ rfl
      rw [cells_of_i64] at f3
      obtain ⟨q0, h0, e0, _⟩ := DataW.trod_string Try.underlying9 f0
      have p0 : q0.size ≤ 140737488355328 := by
        have h := light_field Try.underlying29 hL (j := 0) (d := x0.1) rfl rfl q0.size (by rw [e0]; simp [DataW.weights])
        simp only [reachBytes] at h
        omega
      simp at h0
      subst h0
      obtain ⟨q1, h1, e1, _⟩ := DataW.trod_string Try.underlying9 f1
      have p1 : q1.size ≤ 140737488355328 := by
        have h := light_field Try.underlying29 hL (j := 1) (d := x1.1) rfl rfl q1.size (by rw [e1]; simp [DataW.weights])
        simp only [reachBytes] at h
        omega
      simp at h1
      subst h1
      obtain ⟨q2, h2, _, w2⟩ := DataW.trod_int Try.underlying25 f2
      have p2 : -9223372036854775808 ≤ q2 ∧ q2 ≤ 9223372036854775807 := by simpa [Lit.wf, IntKind.min, IntKind.max, IntKind.signed, IntKind.bits] using w2
      simp at h2
      subst h2
      obtain ⟨q3, h3, _, w3⟩ := DataW.trod_int Try.underlying3 f3
      have p3 : -9223372036854775808 ≤ q3 ∧ q3 ≤ 9223372036854775807 := by simpa [Lit.wf, IntKind.min, IntKind.max, IntKind.signed, IntKind.bits] using w3
      simp at h3
      subst h3
      exact ⟨⟨q0, q1, q2, q3⟩, rfl, ⟨p0, p1, p2, p3⟩⟩
/-- A parameter that is one. -/
theorem open_kn {r : Reach} {b0 : Nat} {v : Value} {d : DataW H} {ps : List MemPlace} (hv : Value.okWide Try.prog w r b0 29 v) (h : DataW.Trod enc Try.prog w base spare held 29 v d ps) (hL : Light 29 d) :
    ∃ a : Kn, v = a.v ∧ FitKn a := by
  obtain ⟨cs, rfl, hsz⟩ := okWide_struct Try.underlying29 hv
  obtain ⟨fuel, hf⟩ := h
  obtain ⟨a, ha, hP⟩ := trod_Kn hf hL
  refine ⟨a, ?_, hP⟩
  have e : cs.toList = a.enc := ha
  show Value.agg cs = Value.agg a.enc.toArray
  rw [← e]
/-- A parameter that is a row of them. -/
theorem open_kns {r : Reach} {b0 : Nat} {v : Value} {d : DataW H} {ps : List MemPlace} (hv : Value.okWide Try.prog w r b0 24 v) (h : DataW.Trod enc Try.prog w base spare held 24 v d ps) (hL : Light 24 d) :
    ∃ (l : List Kn) (a : Option Addr) (c : Nat), v = .slice a l.length c ∧ l.length ≤ maxLen ∧ (∀ x ∈ l, FitKn x) ∧ KK.RowC w a c l := by
  obtain ⟨a0, len, cap, rfl⟩ := okWide_slice Try.underlying24 hv
  obtain ⟨fuel, hf⟩ := h
  obtain ⟨l, a, c, e, hl, _, hok, hR⟩ := open_row_w KK FitKn cells_Kn (fun h hL => trod_Kn h hL) hf hL
  simp [Value.cells] at e
  obtain ⟨rfl, rfl, rfl⟩ := e
  exact ⟨l, a0, cap, rfl, hl, hok, hR⟩
theorem cells_Cf : Try.prog.cellsOf 23 = 9 := by kernel_rfl
/-- What memory pays of it. -/
def FitCf (a : Cf) : Prop := (-9223372036854775808 ≤ a.perHost ∧ a.perHost ≤ 9223372036854775807) ∧ (-9223372036854775808 ≤ a.idle ∧ a.idle ≤ 9223372036854775807) ∧ (-9223372036854775808 ≤ a.waiters ∧ a.waiters ≤ 9223372036854775807) ∧ (-9223372036854775808 ≤ a.attempts ∧ a.attempts ≤ 9223372036854775807) ∧ (-9223372036854775808 ≤ a.stagger ∧ a.stagger ≤ 9223372036854775807) ∧ (-9223372036854775808 ≤ a.idleAge ∧ a.idleAge ≤ 9223372036854775807) ∧ (-9223372036854775808 ≤ a.ttl ∧ a.ttl ≤ 9223372036854775807) ∧ (-9223372036854775808 ≤ a.negTTL ∧ a.negTTL ≤ 9223372036854775807) ∧ (-9223372036854775808 ≤ a.scarAge ∧ a.scarAge ≤ 9223372036854775807)
theorem trod_Cf {fuel : Nat} {cs : List Value} {x : DataW H × List MemPlace} (h : DataW.trod enc Try.prog w base spare held fuel 23 cs = some x) (hL : Light 23 x.1) : ∃ a : Cf, cs = a.enc ∧ FitCf a := by
  obtain ⟨xs, n, _, rfl, hl, hlen, hf⟩ := DataW.trod_struct Try.underlying23 h
  rw [cells_Cf] at hl
  match cs, hl with
  | [v0, v1, v2, v3, v4, v5, v6, v7, v8], _ =>
    match xs, hlen with
    | [x0, x1, x2, x3, x4, x5, x6, x7, x8], _ =>
      have f0 : DataW.trod enc Try.prog w base spare held n 3 (([v0, v1, v2, v3, v4, v5, v6, v7, v8].drop 0).take (Try.prog.cellsOf 3)) = some x0 := hf 0 _ rfl
      rw [cells_of_i64] at f0
      have f1 : DataW.trod enc Try.prog w base spare held n 3 (([v0, v1, v2, v3, v4, v5, v6, v7, v8].drop 1).take (Try.prog.cellsOf 3)) = some x1 := hf 1 _ rfl
      rw [cells_of_i64] at f1
      have f2 : DataW.trod enc Try.prog w base spare held n 3 (([v0, v1, v2, v3, v4, v5, v6, v7, v8].drop 2).take (Try.prog.cellsOf 3)) = some x2 := hf 2 _ rfl
      rw [cells_of_i64] at f2
      have f3 : DataW.trod enc Try.prog w base spare held n 3 (([v0, v1, v2, v3, v4, v5, v6, v7, v8].drop 3).take (Try.prog.cellsOf 3)) = some x3 := hf 3 _ rfl
      rw [cells_of_i64] at f3
      have f4 : DataW.trod enc Try.prog w base spare held n 3 (([v0, v1, v2, v3, v4, v5, v6, v7, v8].drop 4).take (Try.prog.cellsOf 3)) = some x4 := hf 4 _ rfl
      rw [cells_of_i64] at f4
      have f5 : DataW.trod enc Try.prog w base spare held n 3 (([v0, v1, v2, v3, v4, v5, v6, v7, v8].drop 5).take (Try.prog.cellsOf 3)) = some x5 := hf 5 _ rfl
      rw [cells_of_i64] at f5
      have f6 : DataW.trod enc Try.prog w base spare held n 3 (([v0, v1, v2, v3, v4, v5, v6, v7, v8].drop 6).take (Try.prog.cellsOf 3)) = some x6 := hf 6 _ rfl
      rw [cells_of_i64] at f6
      have f7 : DataW.trod enc Try.prog w base spare held n 3 (([v0, v1, v2, v3, v4, v5, v6, v7, v8].drop 7).take (Try.prog.cellsOf 3)) = some x7 := hf 7 _ rfl
      rw [cells_of_i64] at f7
      have f8 : DataW.trod enc Try.prog w base spare held n 3 (([v0, v1, v2, v3, v4, v5, v6, v7, v8].drop 8).take (Try.prog.cellsOf 3)) = some x8 := hf 8 _ rfl
      rw [cells_of_i64] at f8
      obtain ⟨q0, h0, _, w0⟩ := DataW.trod_int Try.underlying3 f0
      have p0 : -9223372036854775808 ≤ q0 ∧ q0 ≤ 9223372036854775807 := by simpa [Lit.wf, IntKind.min, IntKind.max, IntKind.signed, IntKind.bits] using w0
      simp at h0
      subst h0
      obtain ⟨q1, h1, _, w1⟩ := DataW.trod_int Try.underlying3 f1
      have p1 : -9223372036854775808 ≤ q1 ∧ q1 ≤ 9223372036854775807 := by simpa [Lit.wf, IntKind.min, IntKind.max, IntKind.signed, IntKind.bits] using w1
      simp at h1
      subst h1
      obtain ⟨q2, h2, _, w2⟩ := DataW.trod_int Try.underlying3 f2
      have p2 : -9223372036854775808 ≤ q2 ∧ q2 ≤ 9223372036854775807 := by simpa [Lit.wf, IntKind.min, IntKind.max, IntKind.signed, IntKind.bits] using w2
      simp at h2
      subst h2
      obtain ⟨q3, h3, _, w3⟩ := DataW.trod_int Try.underlying3 f3
      have p3 : -9223372036854775808 ≤ q3 ∧ q3 ≤ 9223372036854775807 := by simpa [Lit.wf, IntKind.min, IntKind.max, IntKind.signed, IntKind.bits] using w3
      simp at h3
      subst h3
      obtain ⟨q4, h4, _, w4⟩ := DataW.trod_int Try.underlying3 f4
      have p4 : -9223372036854775808 ≤ q4 ∧ q4 ≤ 9223372036854775807 := by simpa [Lit.wf, IntKind.min, IntKind.max, IntKind.signed, IntKind.bits] using w4
      simp at h4
      subst h4
      obtain ⟨q5, h5, _, w5⟩ := DataW.trod_int Try.underlying3 f5
      have p5 : -9223372036854775808 ≤ q5 ∧ q5 ≤ 9223372036854775807 := by simpa [Lit.wf, IntKind.min, IntKind.max, IntKind.signed, IntKind.bits] using w5
      simp at h5
      subst h5
      obtain ⟨q6, h6, _, w6⟩ := DataW.trod_int Try.underlying3 f6
      have p6 : -9223372036854775808 ≤ q6 ∧ q6 ≤ 9223372036854775807 := by simpa [Lit.wf, IntKind.min, IntKind.max, IntKind.signed, IntKind.bits] using w6
      simp at h6
      subst h6
      obtain ⟨q7, h7, _, w7⟩ := DataW.trod_int Try.underlying3 f7
      have p7 : -9223372036854775808 ≤ q7 ∧ q7 ≤ 9223372036854775807 := by simpa [Lit.wf, IntKind.min, IntKind.max, IntKind.signed, IntKind.bits] using w7
      simp at h7
      subst h7
      obtain ⟨q8, h8, _, w8⟩ := DataW.trod_int Try.underlying3 f8
      have p8 : -9223372036854775808 ≤ q8 ∧ q8 ≤ 9223372036854775807 := by simpa [Lit.wf, IntKind.min, IntKind.max, IntKind.signed, IntKind.bits] using w8
      simp at h8
      subst h8
      exact ⟨⟨q0, q1, q2, q3, q4, q5, q6, q7, q8⟩, rfl, ⟨p0, p1, p2, p3, p4, p5, p6, p7, p8⟩⟩
/-- A parameter that is one. -/
theorem open_cf {r : Reach} {b0 : Nat} {v : Value} {d : DataW H} {ps : List MemPlace} (hv : Value.okWide Try.prog w r b0 23 v) (h : DataW.Trod enc Try.prog w base spare held 23 v d ps) (hL : Light 23 d) :
    ∃ a : Cf, v = a.v ∧ FitCf a := by
  obtain ⟨cs, rfl, hsz⟩ := okWide_struct Try.underlying23 hv
  obtain ⟨fuel, hf⟩ := h
  obtain ⟨a, ha, hP⟩ := trod_Cf hf hL
  refine ⟨a, ?_, hP⟩
  have e : cs.toList = a.enc := ha
  show Value.agg cs = Value.agg a.enc.toArray
  rw [← e]
end
/-- An argument reads behind the call as it read before. -/
theorem stays {H : Type} {enc : TypeId × Value → H} {t : TypeId} (hr : Try.prog.readableRec t = true) (hrow : t < Try.prog.types.size) {W W' : World} {v : Value} {d : DataW H} {ps : List MemPlace}
    (h : DataW.Trod enc Try.prog W 0 (fun _ => true) true t v d ps) (hb : Below W.heap.size W W') (hlt : ∀ x ∈ ps, x.block < W.heap.size) (sp : Nat → Bool) (hsp : ∀ x ∈ ps, sp x.block = true) :
    DataW.Trod enc Try.prog W' 0 sp true t v d ps :=
  WideElems.Trod_stays laidOut hr hrow h (fun x hx => hb.same (hlt x hx)) hsp
end Go.Proofs.Ytaealoodchkeaaa
