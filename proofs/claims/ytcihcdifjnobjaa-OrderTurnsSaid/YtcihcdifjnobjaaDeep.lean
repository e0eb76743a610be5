/- What comes among the arguments, opened; arguments that read as they did. -/
import Derived.Test.YtcihcdifjnobjaaOkA
import Derived.Test.YtcihcdifjnobjaaFrame
import Derived.Deep.Slices
import Derived.OpenShut
import Derived.Carry
set_option linter.unusedSimpArgs false
set_option linter.unusedVariables false
namespace Go.Proofs.Ytcihcdifjnobjaa
open Go.ChangeShapes Go.WideShapes Go.ChangeAt Go.RowKit Go.Deep Go.Proofs.Ytcihcdifjnobjaa.Kind
theorem choose_list {α β : Type} {P : α → β → Prop} : ∀ (l : List α), (∀ x ∈ l, ∃ b, P x b) → ∃ L : List β, l.length = L.length ∧ ∀ (j : Nat) (x : α) (b : β), l[j]? = some x → L[j]? = some b → P x b
  | [], _ => ⟨[], rfl, fun j x b h => by simp at h⟩
  | y :: l, h => by
    obtain ⟨b, hb⟩ := h y (by simp)
    obtain ⟨L, h1, h2⟩ := choose_list l (fun x hx => h x (by simp [hx]))
    refine ⟨b :: L, by simp [h1], fun j x c hx hc => ?_⟩
    cases j with
    | zero => simp at hx hc; subst hx hc; exact hb
    | succ j => exact h2 j x c (by simpa using hx) (by simpa using hc)
section
variable {H : Type} {enc : TypeId × Value → H} {w : World} {base : Nat} {spare : Nat → Bool} {held : Bool}
theorem laidOut : laidOutB Try.prog = true := by kernel_rfl
theorem cells_u16 : Try.prog.cellsOf 24 = 1 := by kernel_rfl
theorem cells_arr : Try.prog.cellsOf 25 = 8 := by kernel_rfl
theorem cells_ad : Try.prog.cellsOf 27 = 10 := by kernel_rfl
theorem cells_i8 : Try.prog.cellsOf 23 = 1 := by kernel_rfl
theorem cells_int : Try.prog.cellsOf 3 = 1 := by kernel_rfl
set_option maxRecDepth 1000000
theorem wf_ok {n0 n1 n2 n3 n4 n5 n6 n7 n8 n9 : Int} (w0 : (Lit.int .i8 n0).wf = true) (w1 : (Lit.int .u16 n1).wf = true) (w2 : (Lit.int .u16 n2).wf = true) (w3 : (Lit.int .u16 n3).wf = true) (w4 : (Lit.int .u16 n4).wf = true) (w5 : (Lit.int .u16 n5).wf = true) (w6 : (Lit.int .u16 n6).wf = true) (w7 : (Lit.int .u16 n7).wf = true) (w8 : (Lit.int .u16 n8).wf = true) (w9 : (Lit.int .i64 n9).wf = true) : okA ⟨n0, n1, n2, n3, n4, n5, n6, n7, n8, n9⟩ := by
  simp [Lit.wf, IntKind.min, IntKind.max, IntKind.signed, IntKind.bits] at *
  exact ⟨w0, ⟨w1, w2, w3, w4, w5, w6, w7, w8⟩, w9⟩
/-- An address's cells. -/
theorem trod_ad {fuel : Nat} {cs : List Value} {x : DataW H × List MemPlace} (h : DataW.trod enc Try.prog w base spare held fuel 27 cs = some x) : ∃ a : Ad, cs = a.enc ∧ okA a := by
  obtain ⟨xs, n, _, rfl, hl, hlen, hf⟩ := DataW.trod_struct Try.underlying27 h
  rw [cells_ad] at hl
  match cs, hl with
  | [v0, v1, v2, v3, v4, v5, v6, v7, v8, v9], _ =>
    match xs, hlen with
    | [x0, x1, x2], _ =>
      have f0 : DataW.trod enc Try.prog w base spare held n 23 (([v0, v1, v2, v3, v4, v5, v6, v7, v8, v9].drop 0).take (Try.prog.cellsOf 23)) = some x0 := hf 0 _ rfl
      have f1 : DataW.trod enc Try.prog w base spare held n 25 (([v0, v1, v2, v3, v4, v5, v6, v7, v8, v9].drop 1).take (Try.prog.cellsOf 25)) = some x1 := hf 1 _ rfl
      have f2 : DataW.trod enc Try.prog w base spare held n 3 (([v0, v1, v2, v3, v4, v5, v6, v7, v8, v9].drop 9).take (Try.prog.cellsOf 3)) = some x2 := hf 2 _ rfl
      rw [cells_i8] at f0
      rw [cells_arr] at f1
      rw [cells_int] at f2
      obtain ⟨n0, h0, _, w0⟩ := DataW.trod_int Try.underlying23 f0
      obtain ⟨n9, h9, _, w9⟩ := DataW.trod_int Try.underlying3 f2
      obtain ⟨ys, m, _, _, _, hyl, hy⟩ := DataW.trod_array Try.underlying25 f1
      match ys, hyl with
      | [y0, y1, y2, y3, y4, y5, y6, y7], _ =>
        have g0 := hy 0 (by omega)
        have g1 := hy 1 (by omega)
        have g2 := hy 2 (by omega)
        have g3 := hy 3 (by omega)
        have g4 := hy 4 (by omega)
        have g5 := hy 5 (by omega)
        have g6 := hy 6 (by omega)
        have g7 := hy 7 (by omega)
        rw [cells_u16] at g0 g1 g2 g3 g4 g5 g6 g7
        obtain ⟨n1, h1, _, w1⟩ := DataW.trod_int Try.underlying24 g0
        obtain ⟨n2, h2, _, w2⟩ := DataW.trod_int Try.underlying24 g1
        obtain ⟨n3, h3, _, w3⟩ := DataW.trod_int Try.underlying24 g2
        obtain ⟨n4, h4, _, w4⟩ := DataW.trod_int Try.underlying24 g3
        obtain ⟨n5, h5, _, w5⟩ := DataW.trod_int Try.underlying24 g4
        obtain ⟨n6, h6, _, w6⟩ := DataW.trod_int Try.underlying24 g5
        obtain ⟨n7, h7, _, w7⟩ := DataW.trod_int Try.underlying24 g6
        obtain ⟨n8, h8, _, w8⟩ := DataW.trod_int Try.underlying24 g7
        simp at h0 h1 h2 h3 h4 h5 h6 h7 h8 h9
        subst h0 h1 h2 h3 h4 h5 h6 h7 h8 h9
        exact ⟨⟨n0, n1, n2, n3, n4, n5, n6, n7, n8, n9⟩, rfl, wf_ok w0 w1 w2 w3 w4 w5 w6 w7 w8 w9⟩
/-- What was read takes no more than the form's own reach. -/
def Light (t : TypeId) (d : DataW H) : Prop := ∀ y ∈ d.weights Try.prog t, y ≤ reachBytes
theorem mem_weightsAll {e : TypeId} : ∀ {l : List (DataW H)} {d : DataW H}, d ∈ l → ∀ y ∈ d.weights Try.prog e, y ∈ DataW.weightsAll Try.prog e l
  | x :: l, d, hd, y, hy => by
    simp only [DataW.weightsAll, List.mem_append]
    rcases List.mem_cons.1 hd with rfl | h
    · exact .inl hy
    · exact .inr (mem_weightsAll h y hy)
theorem light_elem {t e : TypeId} {elems rest : List (DataW H)} (hu : Try.prog.underlying t = some (.slice e)) (h : Light t (.slice elems rest)) : ∀ d ∈ elems, Light e d := fun d hd y hy =>
  h y (by simp only [DataW.weights, hu, List.mem_cons, List.mem_append]; exact .inr (.inl (mem_weightsAll hd y hy)))
theorem light_size {t e : TypeId} {elems rest : List (DataW H)} (hu : Try.prog.underlying t = some (.slice e)) (h : Light t (.slice elems rest)) : (elems.length + rest.length) * Try.prog.bytesOf e ≤ reachBytes :=
  h _ (by simp [DataW.weights, hu])
theorem light_field {t : TypeId} {fs : Array Field} {parts : List (DataW H)} (hu : Try.prog.underlying t = some (.struct fs)) (h : Light t (.agg parts)) {j : Nat} {f : Field} {d : DataW H} (hf : fs[j]? = some f) (hd : parts[j]? = some d) : Light f.type d := fun y hy =>
  h y (by
    simp only [DataW.weights, hu]
    exact DataW.weights_mem_each (j := j) (t := f.type) (d := d) (by simp [hf]) hd y hy)
theorem light_par {ts : List TypeId} {ds : List (DataW H)} (h : (DataW.weightsEach Try.prog ts ds).all (fun x => decide (x ≤ reachBytes)) = true) {j : Nat} {t : TypeId} {d : DataW H} (ht : ts[j]? = some t) (hd : ds[j]? = some d) : Light t d := fun y hy => by
  have := List.all_eq_true.1 h _ (DataW.weights_mem_each ht hd y hy)
  simpa using this
theorem open_row_w {α : Type} [Inhabited α] (K : Kind Try.prog α) (pr : α → Prop) (hc : Try.prog.cellsOf K.T = K.k) (hel : ∀ {fuel : Nat} {cs : List Value} {x : DataW H × List MemPlace}, DataW.trod enc Try.prog w base spare held fuel K.T cs = some x → Light K.T x.1 → ∃ a : α, cs = K.enc a ∧ pr a)
    {fuel : Nat} {cs : List Value} {x : DataW H × List MemPlace} (h : DataW.trod enc Try.prog w base spare held fuel K.S cs = some x) (hL : Light K.S x.1) :
    ∃ (l : List α) (a : Option Addr) (c : Nat), cs = [.slice a l.length c] ∧ l.length ≤ maxLen ∧ l.length * Try.prog.bytesOf K.T ≤ reachBytes ∧ (∀ x ∈ l, pr x) ∧ K.RowC w a c l := by
  rcases open_slice K.hu h with ⟨hcs, _⟩ | ⟨a, len, cap, m, n, D, Pl, hcs, _, hl, hml, hm, hx, hi⟩
  · exact ⟨[], none, 0, hcs, by simp, by simp, by simp, row_none w⟩
  · rw [hx] at hL
    have hle := light_elem K.hu hL
    have hls := light_size K.hu hL
    clear hx
    have hlm : len ≤ m := by rw [hm]; split <;> omega
    have hk0 := K.hk0
    have hch : ∀ i, i < len → ∃ x : α, pr x ∧ ∀ j, j < K.k → w.cell? (a.add (i * K.k + j)) = (K.enc x)[j]? := by
      intro i hil
      obtain ⟨cs', hcc, ht⟩ := hi i (by omega)
      rw [hc] at hcc
      obtain ⟨x, hx, hpx⟩ := hel ht (hle (D i) (List.mem_map.2 ⟨i, List.mem_range.2 hil, rfl⟩))
      obtain ⟨_, hcl, hat⟩ := World.cells?_some hcc
      refine ⟨x, hpx, fun j hj => ?_⟩
      rw [← hx, ← add_add]
      exact hat j hj
    obtain ⟨f, hfx⟩ := choose_lt hch
    have hfp : ∀ x ∈ (List.range len).map f, pr x := fun x hx => by
      obtain ⟨i, hi, rfl⟩ := List.mem_map.1 hx
      exact (hfx i (List.mem_range.1 hi)).1
    replace hfx : ∀ i, i < len → ∀ j, j < K.k → w.cell? (a.add (i * K.k + j)) = (K.enc (f i))[j]? := fun i hi => (hfx i hi).2
    have hll : ((List.range len).map f).length = len := by simp
    refine ⟨(List.range len).map f, some a, cap, by rw [hll]; exact hcs, by rw [hll]; omega, by rw [hll]; refine Nat.le_trans (Nat.mul_le_mul_right _ ?_) hls; simp, hfp, by rw [hll]; exact hl, hml, (fun e => by cases e), fun h0 => ?_⟩
    rw [hll] at h0
    obtain ⟨b, off, spot⟩ := a
    have hc0 := hfx 0 h0 0 hk0
    obtain ⟨v0, hv0⟩ : ∃ v, (K.enc (f 0))[0]? = some v := ⟨_, List.getElem?_eq_getElem (by rw [K.hk]; exact hk0)⟩
    rw [hv0] at hc0
    have hspot : spot = none := by simpa [Addr.add] using World.cell?_spot hc0
    subst hspot
    have hadd : ∀ k, (⟨b, off, none⟩ : Addr).add k = ⟨b, off + k, none⟩ := by intro k; unfold Addr.add; split <;> simp_all
    refine ⟨b, off, rfl, ?_, ?_⟩
    · rw [hadd] at hc0
      exact World.block_lt_of_cell? w _ hc0
    · intro j x hx i u hu
      have hj : j < len := by have := (List.getElem?_eq_some_iff.1 hx).1; simpa using this
      have hxe : x = f j := by
        rw [List.getElem?_map, List.getElem?_range hj] at hx
        simpa using hx.symm
      subst hxe
      have hik : i < K.k := by have := (List.getElem?_eq_some_iff.1 hu).1; rwa [K.hk] at this
      have := hfx j hj i hik
      rw [hadd] at this
      rw [Nat.add_assoc, this]
      exact hu
theorem open_ads {r : Reach} {b0 : Nat} {v : Value} {d : DataW H} {ps : List MemPlace} (hv : Value.okWide Try.prog w r b0 22 v) (h : DataW.Trod enc Try.prog w base spare held 22 v d ps) (hL : Light 22 d) :
    ∃ (l : List Ad) (a : Option Addr) (c : Nat), v = .slice a l.length c ∧ l.length ≤ maxLen ∧ (∀ x ∈ l, okA x) ∧ AK.RowC w a c l := by
  obtain ⟨a0, len, cap, rfl⟩ := okWide_slice Try.underlying22 hv
  obtain ⟨fuel, hf⟩ := h
  obtain ⟨l, a, c, e, hl, _, hok, hR⟩ := open_row_w AK okA cells_ad (fun h hL => trod_ad h) hf hL
  simp [Value.cells] at e
  obtain ⟨rfl, rfl, rfl⟩ := e
  exact ⟨l, a0, cap, rfl, hl, hok, hR⟩
theorem open_ad {r : Reach} {b0 : Nat} {v : Value} {d : DataW H} {ps : List MemPlace} (hv : Value.okWide Try.prog w r b0 27 v) (h : DataW.Trod enc Try.prog w base spare held 27 v d ps) (hL : Light 27 d) : ∃ a : Ad, v = a.v ∧ okA a := by
  obtain ⟨cs, rfl, hsz⟩ := okWide_struct Try.underlying27 hv
  obtain ⟨fuel, hf⟩ := h
  obtain ⟨a, ha, hP⟩ := trod_ad hf
  refine ⟨a, ?_, hP⟩
  have e : cs.toList = a.enc := ha
  show Value.agg cs = Value.agg a.enc.toArray
  rw [← e]
end
/-- An argument reads behind the call as it read before. -/
theorem stays {H : Type} {enc : TypeId × Value → H} {t : TypeId} (hr : Try.prog.readableRec t = true) (hrow : t < Try.prog.types.size) {W W' : World} {v : Value} {d : DataW H} {ps : List MemPlace}
    (h : DataW.Trod enc Try.prog W 0 (fun _ => true) true t v d ps) (hb : Below W.heap.size W W') (hlt : ∀ x ∈ ps, x.block < W.heap.size) (sp : Nat → Bool) (hsp : ∀ x ∈ ps, sp x.block = true) :
    DataW.Trod enc Try.prog W' 0 sp true t v d ps :=
  WideElems.Trod_stays laidOut hr hrow h (fun x hx => hb.same (hlt x hx)) hsp
end Go.Proofs.Ytcihcdifjnobjaa
