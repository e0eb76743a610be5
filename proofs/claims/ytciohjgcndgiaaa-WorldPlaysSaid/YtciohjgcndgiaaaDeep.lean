/- Plans, worlds among the arguments, opened; arguments that read as they did. -/
import Derived.Test.YtciohjgcndgiaaaVk
import Derived.Test.YtciohjgcndgiaaaActs
import Derived.Test.YtciohjgcndgiaaaSpecs
import Derived.Test.YtciohjgcndgiaaaEvents
import Derived.Test.YtciohjgcndgiaaaFrame
import Derived.Deep.Slices
import Derived.OpenShut
import Derived.Carry
set_option linter.unusedSimpArgs false
set_option linter.unusedVariables false
namespace Go.Proofs.Ytciohjgcndgiaaa
open Go.ChangeShapes Go.WideShapes Go.ChangeAt Go.RowKit Go.Deep Go.Proofs.Ytciohjgcndgiaaa.Kind
theorem choose_list {α β : Type} {P : α → β → Prop} : ∀ (l : List α), (∀ x ∈ l, ∃ b, P x b) → ∃ L : List β, l.length = L.length ∧ ∀ (j : Nat) (x : α) (b : β), l[j]? = some x → L[j]? = some b → P x b
  | [], _ => ⟨[], rfl, fun j x b h => by simp at h⟩
  | y :: l, h => by
    obtain ⟨b, hb⟩ := h y (by simp)
    obtain ⟨L, h1, h2⟩ := choose_list l (fun x hx => h x (by simp [hx]))
    refine ⟨b :: L, by simp [h1], fun j x c hx hc => ?_⟩
    cases j with
    | zero => simp at hx hc; subst hx hc; exact hb
    | succ j => exact h2 j x c (by simpa using hx) (by simpa using hc)
section
variable {H : Type} {enc : TypeId × Value → H} {w : World} {base : Nat} {spare : Nat → Bool} {held : Bool}
theorem laidOut : laidOutB Try.prog = true := by kernel_rfl
theorem cells_u16 : Try.prog.cellsOf 40 = 1 := by kernel_rfl
theorem cells_arr : Try.prog.cellsOf 41 = 8 := by kernel_rfl
theorem cells_ad : Try.prog.cellsOf 43 = 10 := by kernel_rfl
theorem cells_i8 : Try.prog.cellsOf 39 = 1 := by kernel_rfl
theorem cells_int : Try.prog.cellsOf 3 = 1 := by kernel_rfl
theorem cells_string : Try.prog.cellsOf 9 = 1 := by kernel_rfl
theorem cells_ads : Try.prog.cellsOf 71 = 1 := by kernel_rfl
theorem cells_adss : Try.prog.cellsOf 68 = 1 := by kernel_rfl
theorem cells_i8s : Try.prog.cellsOf 72 = 1 := by kernel_rfl
theorem cells_ints : Try.prog.cellsOf 24 = 1 := by kernel_rfl
theorem cells_zone : Try.prog.cellsOf 70 = 2 := by kernel_rfl
theorem cells_zones : Try.prog.cellsOf 22 = 1 := by kernel_rfl
theorem cells_fate : Try.prog.cellsOf 74 = 11 := by kernel_rfl
theorem cells_fates : Try.prog.cellsOf 23 = 1 := by kernel_rfl
theorem cells_plan : Try.prog.cellsOf 26 = 4 := by kernel_rfl

set_option maxRecDepth 1000000
theorem wf_ok {n0 n1 n2 n3 n4 n5 n6 n7 n8 n9 : Int} (w0 : (Lit.int .i8 n0).wf = true) (w1 : (Lit.int .u16 n1).wf = true) (w2 : (Lit.int .u16 n2).wf = true) (w3 : (Lit.int .u16 n3).wf = true) (w4 : (Lit.int .u16 n4).wf = true) (w5 : (Lit.int .u16 n5).wf = true) (w6 : (Lit.int .u16 n6).wf = true) (w7 : (Lit.int .u16 n7).wf = true) (w8 : (Lit.int .u16 n8).wf = true) (w9 : (Lit.int .i64 n9).wf = true) : okA ⟨n0, n1, n2, n3, n4, n5, n6, n7, n8, n9⟩ := by
  simp [Lit.wf, IntKind.min, IntKind.max, IntKind.signed, IntKind.bits] at *
  exact ⟨w0, ⟨w1, w2, w3, w4, w5, w6, w7, w8⟩, w9⟩
/-- An address's cells. -/
theorem trod_ad {fuel : Nat} {cs : List Value} {x : DataW H × List MemPlace} (h : DataW.trod enc Try.prog w base spare held fuel 43 cs = some x) : ∃ a : Ad, cs = a.enc ∧ okA a := by
  obtain ⟨xs, n, _, rfl, hl, hlen, hf⟩ := DataW.trod_struct Try.underlying43 h
  rw [cells_ad] at hl
  match cs, hl with
  | [v0, v1, v2, v3, v4, v5, v6, v7, v8, v9], _ =>
    match xs, hlen with
    | [x0, x1, x2], _ =>
      have f0 : DataW.trod enc Try.prog w base spare held n 39 (([v0, v1, v2, v3, v4, v5, v6, v7, v8, v9].drop 0).take (Try.prog.cellsOf 39)) = some x0 := hf 0 _ rfl
      have f1 : DataW.trod enc Try.prog w base spare held n 41 (([v0, v1, v2, v3, v4, v5, v6, v7, v8, v9].drop 1).take (Try.prog.cellsOf 41)) = some x1 := hf 1 _ rfl
      have f2 : DataW.trod enc Try.prog w base spare held n 3 (([v0, v1, v2, v3, v4, v5, v6, v7, v8, v9].drop 9).take (Try.prog.cellsOf 3)) = some x2 := hf 2 _ rfl
      rw [cells_i8] at f0
      rw [cells_arr] at f1
      rw [cells_int] at f2
      obtain ⟨n0, h0, _, w0⟩ := DataW.trod_int Try.underlying39 f0
      obtain ⟨n9, h9, _, w9⟩ := DataW.trod_int Try.underlying3 f2
      obtain ⟨ys, m, _, _, _, hyl, hy⟩ := DataW.trod_array Try.underlying41 f1
      match ys, hyl with
      | [y0, y1, y2, y3, y4, y5, y6, y7], _ =>
        have g0 := hy 0 (by omega)
        have g1 := hy 1 (by omega)
        have g2 := hy 2 (by omega)
        have g3 := hy 3 (by omega)
        have g4 := hy 4 (by omega)
        have g5 := hy 5 (by omega)
        have g6 := hy 6 (by omega)
        have g7 := hy 7 (by omega)
        rw [cells_u16] at g0 g1 g2 g3 g4 g5 g6 g7
        obtain ⟨n1, h1, _, w1⟩ := DataW.trod_int Try.underlying40 g0
        obtain ⟨n2, h2, _, w2⟩ := DataW.trod_int Try.underlying40 g1
        obtain ⟨n3, h3, _, w3⟩ := DataW.trod_int Try.underlying40 g2
        obtain ⟨n4, h4, _, w4⟩ := DataW.trod_int Try.underlying40 g3
        obtain ⟨n5, h5, _, w5⟩ := DataW.trod_int Try.underlying40 g4
        obtain ⟨n6, h6, _, w6⟩ := DataW.trod_int Try.underlying40 g5
        obtain ⟨n7, h7, _, w7⟩ := DataW.trod_int Try.underlying40 g6
        obtain ⟨n8, h8, _, w8⟩ := DataW.trod_int Try.underlying40 g7
        simp at h0 h1 h2 h3 h4 h5 h6 h7 h8 h9
        subst h0 h1 h2 h3 h4 h5 h6 h7 h8 h9
        exact ⟨⟨n0, n1, n2, n3, n4, n5, n6, n7, n8, n9⟩, rfl, wf_ok w0 w1 w2 w3 w4 w5 w6 w7 w8 w9⟩
/-- A parameter that is a row. -/
theorem open_row {α : Type} [Inhabited α] (K : Kind Try.prog α) (hc : Try.prog.cellsOf K.T = K.k) (hel : ∀ {fuel : Nat} {cs : List Value} {x : DataW H × List MemPlace}, DataW.trod enc Try.prog w base spare held fuel K.T cs = some x → ∃ a : α, cs = K.enc a)
    {fuel : Nat} {cs : List Value} {x : DataW H × List MemPlace} (h : DataW.trod enc Try.prog w base spare held fuel K.S cs = some x) :
    ∃ (l : List α) (a : Option Addr) (c : Nat), cs = [.slice a l.length c] ∧ l.length ≤ maxLen ∧ K.RowC w a c l := by
  rcases open_slice K.hu h with ⟨hcs, _⟩ | ⟨a, len, cap, m, n, D, Pl, hcs, _, hl, hml, hm, _, hi⟩
  · exact ⟨[], none, 0, hcs, by simp, row_none w⟩
  · have hlm : len ≤ m := by rw [hm]; split <;> omega
    have hk0 := K.hk0
    have hch : ∀ i, i < len → ∃ x : α, ∀ j, j < K.k → w.cell? (a.add (i * K.k + j)) = (K.enc x)[j]? := by
      intro i hil
      obtain ⟨cs', hcc, ht⟩ := hi i (by omega)
      rw [hc] at hcc
      obtain ⟨x, hx⟩ := hel ht
      obtain ⟨_, hcl, hat⟩ := World.cells?_some hcc
      refine ⟨x, fun j hj => ?_⟩
      rw [← hx, ← add_add]
      exact hat j hj
    obtain ⟨f, hfx⟩ := choose_lt hch
    have hll : ((List.range len).map f).length = len := by simp
    refine ⟨(List.range len).map f, some a, cap, by rw [hll]; exact hcs, by rw [hll]; omega, by rw [hll]; exact hl, hml, (fun e => by cases e), fun h0 => ?_⟩
    rw [hll] at h0
    obtain ⟨b, off, spot⟩ := a
    have hc0 := hfx 0 h0 0 hk0
    obtain ⟨v0, hv0⟩ : ∃ v, (K.enc (f 0))[0]? = some v := ⟨_, List.getElem?_eq_getElem (by rw [K.hk]; exact hk0)⟩
    rw [hv0] at hc0
    have hspot : spot = none := by simpa [Addr.add] using World.cell?_spot hc0
    subst hspot
    have hadd : ∀ k, (⟨b, off, none⟩ : Addr).add k = ⟨b, off + k, none⟩ := by intro k; unfold Addr.add; split <;> simp_all
    refine ⟨b, off, rfl, ?_, ?_⟩
    · rw [hadd] at hc0
      exact World.block_lt_of_cell? w _ hc0
    · intro j x hx i u hu
      have hj : j < len := by have := (List.getElem?_eq_some_iff.1 hx).1; simpa using this
      have hxe : x = f j := by
        rw [List.getElem?_map, List.getElem?_range hj] at hx
        simpa using hx.symm
      subst hxe
      have hik : i < K.k := by have := (List.getElem?_eq_some_iff.1 hu).1; rwa [K.hk] at this
      have := hfx j hj i hik
      rw [hadd] at this
      rw [Nat.add_assoc, this]
      exact hu
/-- What was read takes no more than the form's own reach. -/
def Light (t : TypeId) (d : DataW H) : Prop := ∀ y ∈ d.weights Try.prog t, y ≤ reachBytes
theorem mem_weightsAll {e : TypeId} : ∀ {l : List (DataW H)} {d : DataW H}, d ∈ l → ∀ y ∈ d.weights Try.prog e, y ∈ DataW.weightsAll Try.prog e l
  | x :: l, d, hd, y, hy => by
    simp only [DataW.weightsAll, List.mem_append]
    rcases List.mem_cons.1 hd with rfl | h
    · exact .inl hy
    · exact .inr (mem_weightsAll h y hy)
theorem light_elem {t e : TypeId} {elems rest : List (DataW H)} (hu : Try.prog.underlying t = some (.slice e)) (h : Light t (.slice elems rest)) : ∀ d ∈ elems, Light e d := fun d hd y hy =>
  h y (by simp only [DataW.weights, hu, List.mem_cons, List.mem_append]; exact .inr (.inl (mem_weightsAll hd y hy)))
theorem light_size {t e : TypeId} {elems rest : List (DataW H)} (hu : Try.prog.underlying t = some (.slice e)) (h : Light t (.slice elems rest)) : (elems.length + rest.length) * Try.prog.bytesOf e ≤ reachBytes :=
  h _ (by simp [DataW.weights, hu])
theorem light_field {t : TypeId} {fs : Array Field} {parts : List (DataW H)} (hu : Try.prog.underlying t = some (.struct fs)) (h : Light t (.agg parts)) {j : Nat} {f : Field} {d : DataW H} (hf : fs[j]? = some f) (hd : parts[j]? = some d) : Light f.type d := fun y hy =>
  h y (by
    simp only [DataW.weights, hu]
    exact DataW.weights_mem_each (j := j) (t := f.type) (d := d) (by simp [hf]) hd y hy)
theorem light_par {ts : List TypeId} {ds : List (DataW H)} (h : (DataW.weightsEach Try.prog ts ds).all (fun x => decide (x ≤ reachBytes)) = true) {j : Nat} {t : TypeId} {d : DataW H} (ht : ts[j]? = some t) (hd : ds[j]? = some d) : Light t d := fun y hy => by
  have := List.all_eq_true.1 h _ (DataW.weights_mem_each ht hd y hy)
  simpa using this
theorem open_row_w {α : Type} [Inhabited α] (K : Kind Try.prog α) (pr : α → Prop) (hc : Try.prog.cellsOf K.T = K.k) (hel : ∀ {fuel : Nat} {cs : List Value} {x : DataW H × List MemPlace}, DataW.trod enc Try.prog w base spare held fuel K.T cs = some x → Light K.T x.1 → ∃ a : α, cs = K.enc a ∧ pr a)
    {fuel : Nat} {cs : List Value} {x : DataW H × List MemPlace} (h : DataW.trod enc Try.prog w base spare held fuel K.S cs = some x) (hL : Light K.S x.1) :
    ∃ (l : List α) (a : Option Addr) (c : Nat), cs = [.slice a l.length c] ∧ l.length ≤ maxLen ∧ l.length * Try.prog.bytesOf K.T ≤ reachBytes ∧ (∀ x ∈ l, pr x) ∧ K.RowC w a c l := by
  rcases open_slice K.hu h with ⟨hcs, _⟩ | ⟨a, len, cap, m, n, D, Pl, hcs, _, hl, hml, hm, hx, hi⟩
  · exact ⟨[], none, 0, hcs, by simp, by simp, by simp, row_none w⟩
  · rw [hx] at hL
    have hle := light_elem K.hu hL
    have hls := light_size K.hu hL
    clear hx
    have hlm : len ≤ m := by rw [hm]; split <;> omega
    have hk0 := K.hk0
    have hch : ∀ i, i < len → ∃ x : α, pr x ∧ ∀ j, j < K.k → w.cell? (a.add (i * K.k + j)) = (K.enc x)[j]? := by
      intro i hil
      obtain ⟨cs', hcc, ht⟩ := hi i (by omega)
      rw [hc] at hcc
      obtain ⟨x, hx, hpx⟩ := hel ht (hle (D i) (List.mem_map.2 ⟨i, List.mem_range.2 hil, rfl⟩))
      obtain ⟨_, hcl, hat⟩ := World.cells?_some hcc
      refine ⟨x, hpx, fun j hj => ?_⟩
      rw [← hx, ← add_add]
      exact hat j hj
    obtain ⟨f, hfx⟩ := choose_lt hch
    have hfp : ∀ x ∈ (List.range len).map f, pr x := fun x hx => by
      obtain ⟨i, hi, rfl⟩ := List.mem_map.1 hx
      exact (hfx i (List.mem_range.1 hi)).1
    replace hfx : ∀ i, i < len → ∀ j, j < K.k → w.cell? (a.add (i * K.k + j)) = (K.enc (f i))[j]? := fun i hi => (hfx i hi).2
    have hll : ((List.range len).map f).length = len := by simp
    refine ⟨(List.range len).map f, some a, cap, by rw [hll]; exact hcs, by rw [hll]; omega, by rw [hll]; refine Nat.le_trans (Nat.mul_le_mul_right _ ?_) hls; simp, hfp, by rw [hll]; exact hl, hml, (fun e => by cases e), fun h0 => ?_⟩
    rw [hll] at h0
    obtain ⟨b, off, spot⟩ := a
    have hc0 := hfx 0 h0 0 hk0
    obtain ⟨v0, hv0⟩ : ∃ v, (K.enc (f 0))[0]? = some v := ⟨_, List.getElem?_eq_getElem (by rw [K.hk]; exact hk0)⟩
    rw [hv0] at hc0
    have hspot : spot = none := by simpa [Addr.add] using World.cell?_spot hc0
    subst hspot
    have hadd : ∀ k, (⟨b, off, none⟩ : Addr).add k = ⟨b, off + k, none⟩ := by intro k; unfold Addr.add; split <;> simp_all
    refine ⟨b, off, rfl, ?_, ?_⟩
    · rw [hadd] at hc0
      exact World.block_lt_of_cell? w _ hc0
    · intro j x hx i u hu
      have hj : j < len := by have := (List.getElem?_eq_some_iff.1 hx).1; simpa using this
      have hxe : x = f j := by
        rw [List.getElem?_map, List.getElem?_range hj] at hx
        simpa using hx.symm
      subst hxe
      have hik : i < K.k := by have := (List.getElem?_eq_some_iff.1 hu).1; rwa [K.hk] at this
      have := hfx j hj i hik
      rw [hadd] at this
      rw [Nat.add_assoc, this]
      exact hu
theorem open_nest {α β : Type} [Inhabited α] (K : Kind Try.prog α) (P : World → α → β → Prop) (Q : β → Prop) (hc : Try.prog.cellsOf K.T = K.k) (hel : ∀ {fuel : Nat} {cs : List Value} {x : DataW H × List MemPlace}, DataW.trod enc Try.prog w base spare held fuel K.T cs = some x → Light K.T x.1 → ∃ a : α, cs = K.enc a ∧ ∃ b, P w a b ∧ Q b)
    {fuel : Nat} {cs : List Value} {x : DataW H × List MemPlace} (h : DataW.trod enc Try.prog w base spare held fuel K.S cs = some x) (hL : Light K.S x.1) :
    ∃ (hs : List α) (L : List β) (a : Option Addr) (c : Nat), cs = [.slice a L.length c] ∧ L.length ≤ maxLen ∧ K.NestC P w a c hs L ∧ ∀ b ∈ L, Q b := by
  obtain ⟨hs, a, c, e, hl, _, hp, hR⟩ := open_row_w K (fun a => ∃ b, P w a b ∧ Q b) hc hel h hL
  obtain ⟨L, h1, h2⟩ := choose_list hs hp
  refine ⟨hs, L, a, c, by rw [e, h1], by rw [← h1]; exact hl, ⟨h1, hR, fun j x b hx hb => (h2 j x b hx hb).1⟩, fun b hb => ?_⟩
  obtain ⟨j, hj, e⟩ := List.getElem_of_mem hb
  exact (h2 j _ b (List.getElem?_eq_getElem (by omega)) (by rw [List.getElem?_eq_getElem hj, e])).2
theorem bytes_i8 : Try.prog.bytesOf 39 = 1 := by kernel_rfl
theorem bytes_i64 : Try.prog.bytesOf 3 = 8 := by kernel_rfl
theorem bytes_ad : Try.prog.bytesOf 43 = 32 := by kernel_rfl
theorem trod_ans {fuel : Nat} {cs : List Value} {x : DataW H × List MemPlace} (h : DataW.trod enc Try.prog w base spare held fuel 71 cs = some x) (hL : Light 71 x.1) : ∃ a : Hv, cs = HK.enc a ∧ ∃ l, AnsP w a l ∧ okL l := by
  obtain ⟨l, a, c, e, hl, hw, hok, hR⟩ := open_row_w AK okA cells_ad (fun h _ => trod_ad h) h hL
  refine ⟨⟨a, l.length, c⟩, e, l, ⟨rfl, hR⟩, ?_, hok⟩
  have hw' : l.length * 32 ≤ reachBytes := by rw [← bytes_ad]; exact hw
  simp only [reachBytes] at hw'
  omega
theorem trod_zone {fuel : Nat} {cs : List Value} {x : DataW H × List MemPlace} (h : DataW.trod enc Try.prog w base spare held fuel 70 cs = some x) (hL : Light 70 x.1) : ∃ a : Zv, cs = ZK.enc a ∧ ∃ z, ZoP w a z ∧ z.name.size ≤ 140737488355328 ∧ ∀ l ∈ z.ans, okL l := by
  obtain ⟨xs, n, _, rfl, hl, hlen, hf⟩ := DataW.trod_struct Try.underlying70 h
  rw [cells_zone] at hl
  match cs, hl with
  | [v0, v1], _ =>
    match xs, hlen with
    | [x0, x1], _ =>
      have f0 : DataW.trod enc Try.prog w base spare held n 9 (([v0, v1].drop 0).take (Try.prog.cellsOf 9)) = some x0 := hf 0 _ rfl
      have f1 : DataW.trod enc Try.prog w base spare held n 68 (([v0, v1].drop 1).take (Try.prog.cellsOf 68)) = some x1 := hf 1 _ rfl
      rw [cells_string] at f0
      rw [cells_adss] at f1
      obtain ⟨s0, h0, hx0, _⟩ := DataW.trod_string Try.underlying9 f0
      have hs0 : s0.size ≤ 140737488355328 := by
        have h := light_field Try.underlying70 hL (j := 0) (d := x0.1) rfl rfl s0.size (by rw [hx0]; simp [DataW.weights])
        simp only [reachBytes] at h
        omega
      obtain ⟨hs, L, a, c, h1, hl, hN, hQ⟩ := open_nest HK AnsP okL cells_ads (fun h hL => trod_ans h hL) f1 (light_field Try.underlying70 hL (j := 1) (d := x1.1) rfl rfl)
      simp at h0 h1
      subst h0 h1
      exact ⟨⟨s0, ⟨a, L.length, c⟩⟩, rfl, ⟨s0, L⟩, ⟨rfl, rfl, hs, hN⟩, hs0, hQ⟩
theorem trod_fate {fuel : Nat} {cs : List Value} {x : DataW H × List MemPlace} (h : DataW.trod enc Try.prog w base spare held fuel 74 cs = some x) (hL : Light 74 x.1) : ∃ a : Fv, cs = FK.enc a ∧ ∃ z, FoP w a z ∧ z.l.length ≤ 140737488351232 := by
  obtain ⟨xs, n, _, rfl, hl, hlen, hf⟩ := DataW.trod_struct Try.underlying74 h
  rw [cells_fate] at hl
  match cs, hl with
  | [v0, v1, v2, v3, v4, v5, v6, v7, v8, v9, u1], _ =>
    match xs, hlen with
    | [x0, x1], _ =>
      have f0 : DataW.trod enc Try.prog w base spare held n 43 (([v0, v1, v2, v3, v4, v5, v6, v7, v8, v9, u1].drop 0).take (Try.prog.cellsOf 43)) = some x0 := hf 0 _ rfl
      have f1 : DataW.trod enc Try.prog w base spare held n 72 (([v0, v1, v2, v3, v4, v5, v6, v7, v8, v9, u1].drop 10).take (Try.prog.cellsOf 72)) = some x1 := hf 1 _ rfl
      rw [cells_ad] at f0
      rw [cells_i8s] at f1
      obtain ⟨ad, ha, _⟩ := trod_ad f0
      obtain ⟨l, a, c, h1, hl, hw, _, hR⟩ := open_row_w JK (fun _ => True) cells_i8 (fun h _ => by
        obtain ⟨t, h2, _⟩ := DataW.trod_int Try.underlying39 h
        exact ⟨t, h2, trivial⟩) f1 (light_field Try.underlying74 hL (j := 1) (d := x1.1) rfl rfl)
      have hw' : l.length * 1 ≤ reachBytes := by rw [← bytes_i8]; exact hw
      simp only [reachBytes] at hw'
      simp at h1
      subst h1
      have e : [v0, v1, v2, v3, v4, v5, v6, v7, v8, v9] = ad.enc := ha
      simp only [Ad.enc, List.cons.injEq, and_true] at e
      obtain ⟨rfl, rfl, rfl, rfl, rfl, rfl, rfl, rfl, rfl, rfl⟩ := e
      exact ⟨⟨ad, ⟨a, l.length, c⟩⟩, rfl, ⟨ad, l⟩, ⟨rfl, rfl, hR⟩, by dsimp only; omega⟩
theorem trod_plan {fuel : Nat} {cs : List Value} {x : DataW H × List MemPlace} (h : DataW.trod enc Try.prog w base spare held fuel 26 cs = some x) (hL : Light 26 x.1) :
    ∃ (P : Pl) (pv : Pv), cs = [.slice pv.za P.zones.length pv.zc, .slice pv.fa P.fates.length pv.fc, .int .i64 P.ticks, .slice pv.da P.drops.length pv.dc] ∧ PlanC w pv P ∧ Mem P ∧ (-9223372036854775808 ≤ P.ticks ∧ P.ticks ≤ 9223372036854775807) := by
  obtain ⟨xs, n, _, rfl, hl, hlen, hf⟩ := DataW.trod_struct Try.underlying26 h
  rw [cells_plan] at hl
  match cs, hl with
  | [v0, v1, v2, v3], _ =>
    match xs, hlen with
    | [x0, x1, x2, x3], _ =>
      have f0 : DataW.trod enc Try.prog w base spare held n 22 (([v0, v1, v2, v3].drop 0).take (Try.prog.cellsOf 22)) = some x0 := hf 0 _ rfl
      have f1 : DataW.trod enc Try.prog w base spare held n 23 (([v0, v1, v2, v3].drop 1).take (Try.prog.cellsOf 23)) = some x1 := hf 1 _ rfl
      have f2 : DataW.trod enc Try.prog w base spare held n 3 (([v0, v1, v2, v3].drop 2).take (Try.prog.cellsOf 3)) = some x2 := hf 2 _ rfl
      have f3 : DataW.trod enc Try.prog w base spare held n 24 (([v0, v1, v2, v3].drop 3).take (Try.prog.cellsOf 24)) = some x3 := hf 3 _ rfl
      rw [cells_zones] at f0
      rw [cells_fates] at f1
      rw [cells_int] at f2
      rw [cells_ints] at f3
      obtain ⟨hs, Z, za, zc, h0, _, hZ, hQ⟩ := open_nest ZK ZoP (fun z => z.name.size ≤ 140737488355328 ∧ ∀ l ∈ z.ans, okL l) cells_zone (fun h hL => trod_zone h hL) f0 (light_field Try.underlying26 hL (j := 0) (d := x0.1) rfl rfl)
      obtain ⟨fs, F, fa, fc, h1, _, hF, hFQ⟩ := open_nest FK FoP (fun z => z.l.length ≤ 140737488351232) cells_fate (fun h hL => trod_fate h hL) f1 (light_field Try.underlying26 hL (j := 1) (d := x1.1) rfl rfl)
      obtain ⟨t, h2, _, ht⟩ := DataW.trod_int Try.underlying3 f2
      obtain ⟨D, da, dc, h3, _, hDw, _, hD⟩ := open_row_w IK (fun _ => True) cells_int (fun h _ => by
        obtain ⟨t, h2, _⟩ := DataW.trod_int Try.underlying3 h
        exact ⟨t, h2, trivial⟩) f3 (light_field Try.underlying26 hL (j := 3) (d := x3.1) rfl rfl)
      have hDw' : D.length * 8 ≤ reachBytes := by rw [← bytes_i64]; exact hDw
      simp only [reachBytes] at hDw'
      simp at h0 h1 h2 h3
      subst h0 h1 h2 h3
      exact ⟨⟨Z, F, t, D⟩, ⟨za, zc, fa, fc, da, dc⟩, rfl, ⟨⟨hs, hZ⟩, ⟨fs, hF⟩, hD⟩, ⟨fun z hz => (hQ z hz).1, fun z hz => (hQ z hz).2, hFQ, by dsimp only; omega⟩, by simpa [Lit.wf, IntKind.min, IntKind.max, IntKind.signed, IntKind.bits] using ht⟩
/-- A parameter that is a plan. -/
theorem open_plan {r : Reach} {b0 : Nat} {v : Value} {d : DataW H} {ps : List MemPlace} (hv : Value.okWide Try.prog w r b0 26 v) (h : DataW.Trod enc Try.prog w base spare held 26 v d ps) (hL : Light 26 d) :
    ∃ (P : Pl) (pv : Pv), v = pv.val P ∧ PlanC w pv P ∧ Mem P ∧ (-9223372036854775808 ≤ P.ticks ∧ P.ticks ≤ 9223372036854775807) := by
  obtain ⟨cs, rfl, hsz⟩ := okWide_struct Try.underlying26 hv
  obtain ⟨fuel, hf⟩ := h
  obtain ⟨P, pv, ha, hP⟩ := trod_plan hf hL
  refine ⟨P, pv, ?_, hP⟩
  have e : cs.toList = _ := ha
  show Value.agg cs = Value.agg (List.toArray [.slice pv.za P.zones.length pv.zc, .slice pv.fa P.fates.length pv.fc, .int .i64 P.ticks, .slice pv.da P.drops.length pv.dc])
  rw [← e]
theorem cells_bool : Try.prog.cellsOf 4 = 1 := by kernel_rfl
theorem cells_bools : Try.prog.cellsOf 59 = 1 := by kernel_rfl
theorem cells_world : Try.prog.cellsOf 33 = 10 := by kernel_rfl
theorem cells_Sk : Try.prog.cellsOf 64 = 14 := by kernel_rfl
theorem cells_Sks : Try.prog.cellsOf 28 = 1 := by kernel_rfl
theorem trod_Sk {fuel : Nat} {cs : List Value} {x : DataW H × List MemPlace} (h : DataW.trod enc Try.prog w base spare held fuel 64 cs = some x) : ∃ a : Sk, cs = SK.enc a := by
  obtain ⟨xs, n, _, rfl, hl, hlen, hf⟩ := DataW.trod_struct Try.underlying64 h
  rw [cells_Sk] at hl
  match cs, hl with
  | [v0, v1, v2, v3, v4, v5, v6, v7, v8, v9, v10, v11, v12, v13], _ =>
    match xs, hlen with
    | [x0, x1, x2, x3, x4], _ =>
      have f0 : DataW.trod enc Try.prog w base spare held n 43 (([v0, v1, v2, v3, v4, v5, v6, v7, v8, v9, v10, v11, v12, v13].drop 0).take (Try.prog.cellsOf 43)) = some x0 := hf 0 _ rfl
      rw [cells_ad] at f0
      have f1 : DataW.trod enc Try.prog w base spare held n 3 (([v0, v1, v2, v3, v4, v5, v6, v7, v8, v9, v10, v11, v12, v13].drop 10).take (Try.prog.cellsOf 3)) = some x1 := hf 1 _ rfl
      rw [cells_int] at f1
      have f2 : DataW.trod enc Try.prog w base spare held n 3 (([v0, v1, v2, v3, v4, v5, v6, v7, v8, v9, v10, v11, v12, v13].drop 11).take (Try.prog.cellsOf 3)) = some x2 := hf 2 _ rfl
      rw [cells_int] at f2
      have f3 : DataW.trod enc Try.prog w base spare held n 3 (([v0, v1, v2, v3, v4, v5, v6, v7, v8, v9, v10, v11, v12, v13].drop 12).take (Try.prog.cellsOf 3)) = some x3 := hf 3 _ rfl
      rw [cells_int] at f3
      have f4 : DataW.trod enc Try.prog w base spare held n 4 (([v0, v1, v2, v3, v4, v5, v6, v7, v8, v9, v10, v11, v12, v13].drop 13).take (Try.prog.cellsOf 4)) = some x4 := hf 4 _ rfl
      rw [cells_bool] at f4
      obtain ⟨q0, h0, _⟩ := trod_ad f0
      have h0 : [v0, v1, v2, v3, v4, v5, v6, v7, v8, v9] = q0.enc := h0
      simp only [Ad.enc, List.cons.injEq, and_true] at h0
      obtain ⟨rfl, rfl, rfl, rfl, rfl, rfl, rfl, rfl, rfl, rfl⟩ := h0
      obtain ⟨q1, h1, _⟩ := DataW.trod_int Try.underlying3 f1
      simp at h1
      subst h1
      obtain ⟨q2, h2, _⟩ := DataW.trod_int Try.underlying3 f2
      simp at h2
      subst h2
      obtain ⟨q3, h3, _⟩ := DataW.trod_int Try.underlying3 f3
      simp at h3
      subst h3
      obtain ⟨q4, h4, _⟩ := DataW.trod_bool Try.underlying4 f4
      simp at h4
      subst h4
      exact ⟨⟨q0, q1, q2, q3, q4⟩, rfl⟩
theorem cells_Nk : Try.prog.cellsOf 105 = 3 := by kernel_rfl
theorem cells_Nks : Try.prog.cellsOf 31 = 1 := by kernel_rfl
theorem trod_Nk {fuel : Nat} {cs : List Value} {x : DataW H × List MemPlace} (h : DataW.trod enc Try.prog w base spare held fuel 105 cs = some x) : ∃ a : Nk, cs = NK.enc a := by
  obtain ⟨xs, n, _, rfl, hl, hlen, hf⟩ := DataW.trod_struct Try.underlying105 h
  rw [cells_Nk] at hl
  match cs, hl with
  | [v0, v1, v2], _ =>
    match xs, hlen with
    | [x0, x1, x2], _ =>
      have f0 : DataW.trod enc Try.prog w base spare held n 4 (([v0, v1, v2].drop 0).take (Try.prog.cellsOf 4)) = some x0 := hf 0 _ rfl
      rw [cells_bool] at f0
      have f1 : DataW.trod enc Try.prog w base spare held n 3 (([v0, v1, v2].drop 1).take (Try.prog.cellsOf 3)) = some x1 := hf 1 _ rfl
      rw [cells_int] at f1
      have f2 : DataW.trod enc Try.prog w base spare held n 3 (([v0, v1, v2].drop 2).take (Try.prog.cellsOf 3)) = some x2 := hf 2 _ rfl
      rw [cells_int] at f2
      obtain ⟨q0, h0, _⟩ := DataW.trod_bool Try.underlying4 f0
      simp at h0
      subst h0
      obtain ⟨q1, h1, _⟩ := DataW.trod_int Try.underlying3 f1
      simp at h1
      subst h1
      obtain ⟨q2, h2, _⟩ := DataW.trod_int Try.underlying3 f2
      simp at h2
      subst h2
      exact ⟨⟨q0, q1, q2⟩, rfl⟩
theorem cells_Di : Try.prog.cellsOf 88 = 14 := by kernel_rfl
theorem cells_Dis : Try.prog.cellsOf 29 = 1 := by kernel_rfl
theorem trod_Di {fuel : Nat} {cs : List Value} {x : DataW H × List MemPlace} (h : DataW.trod enc Try.prog w base spare held fuel 88 cs = some x) : ∃ a : Di, cs = DK.enc a := by
  obtain ⟨xs, n, _, rfl, hl, hlen, hf⟩ := DataW.trod_struct Try.underlying88 h
  rw [cells_Di] at hl
  match cs, hl with
  | [v0, v1, v2, v3, v4, v5, v6, v7, v8, v9, v10, v11, v12, v13], _ =>
    match xs, hlen with
    | [x0, x1, x2, x3, x4], _ =>
      have f0 : DataW.trod enc Try.prog w base spare held n 3 (([v0, v1, v2, v3, v4, v5, v6, v7, v8, v9, v10, v11, v12, v13].drop 0).take (Try.prog.cellsOf 3)) = some x0 := hf 0 _ rfl
      rw [cells_int] at f0
      have f1 : DataW.trod enc Try.prog w base spare held n 43 (([v0, v1, v2, v3, v4, v5, v6, v7, v8, v9, v10, v11, v12, v13].drop 1).take (Try.prog.cellsOf 43)) = some x1 := hf 1 _ rfl
      rw [cells_ad] at f1
      have f2 : DataW.trod enc Try.prog w base spare held n 39 (([v0, v1, v2, v3, v4, v5, v6, v7, v8, v9, v10, v11, v12, v13].drop 11).take (Try.prog.cellsOf 39)) = some x2 := hf 2 _ rfl
      rw [cells_i8] at f2
      have f3 : DataW.trod enc Try.prog w base spare held n 4 (([v0, v1, v2, v3, v4, v5, v6, v7, v8, v9, v10, v11, v12, v13].drop 12).take (Try.prog.cellsOf 4)) = some x3 := hf 3 _ rfl
      rw [cells_bool] at f3
      have f4 : DataW.trod enc Try.prog w base spare held n 4 (([v0, v1, v2, v3, v4, v5, v6, v7, v8, v9, v10, v11, v12, v13].drop 13).take (Try.prog.cellsOf 4)) = some x4 := hf 4 _ rfl
      rw [cells_bool] at f4
      obtain ⟨q0, h0, _⟩ := DataW.trod_int Try.underlying3 f0
      simp at h0
      subst h0
      obtain ⟨q1, h1, _⟩ := trod_ad f1
      have h1 : [v1, v2, v3, v4, v5, v6, v7, v8, v9, v10] = q1.enc := h1
      simp only [Ad.enc, List.cons.injEq, and_true] at h1
      obtain ⟨rfl, rfl, rfl, rfl, rfl, rfl, rfl, rfl, rfl, rfl⟩ := h1
      obtain ⟨q2, h2, _⟩ := DataW.trod_int Try.underlying39 f2
      simp at h2
      subst h2
      obtain ⟨q3, h3, _⟩ := DataW.trod_bool Try.underlying4 f3
      simp at h3
      subst h3
      obtain ⟨q4, h4, _⟩ := DataW.trod_bool Try.underlying4 f4
      simp at h4
      subst h4
      exact ⟨⟨q0, q1, q2, q3, q4⟩, rfl⟩
theorem cells_Lo : Try.prog.cellsOf 122 = 4 := by kernel_rfl
theorem cells_Los : Try.prog.cellsOf 30 = 1 := by kernel_rfl
theorem trod_Lo {fuel : Nat} {cs : List Value} {x : DataW H × List MemPlace} (h : DataW.trod enc Try.prog w base spare held fuel 122 cs = some x) : ∃ a : Lo, cs = LK.enc a := by
  obtain ⟨xs, n, _, rfl, hl, hlen, hf⟩ := DataW.trod_struct Try.underlying122 h
  rw [cells_Lo] at hl
  match cs, hl with
  | [v0, v1, v2, v3], _ =>
    match xs, hlen with
    | [x0, x1, x2, x3], _ =>
      have f0 : DataW.trod enc Try.prog w base spare held n 3 (([v0, v1, v2, v3].drop 0).take (Try.prog.cellsOf 3)) = some x0 := hf 0 _ rfl
      rw [cells_int] at f0
      have f1 : DataW.trod enc Try.prog w base spare held n 9 (([v0, v1, v2, v3].drop 1).take (Try.prog.cellsOf 9)) = some x1 := hf 1 _ rfl
      rw [cells_string] at f1
      have f2 : DataW.trod enc Try.prog w base spare held n 3 (([v0, v1, v2, v3].drop 2).take (Try.prog.cellsOf 3)) = some x2 := hf 2 _ rfl
      rw [cells_int] at f2
      have f3 : DataW.trod enc Try.prog w base spare held n 4 (([v0, v1, v2, v3].drop 3).take (Try.prog.cellsOf 4)) = some x3 := hf 3 _ rfl
      rw [cells_bool] at f3
      obtain ⟨q0, h0, _⟩ := DataW.trod_int Try.underlying3 f0
      simp at h0
      subst h0
      obtain ⟨q1, h1, _⟩ := DataW.trod_string Try.underlying9 f1
      simp at h1
      subst h1
      obtain ⟨q2, h2, _⟩ := DataW.trod_int Try.underlying3 f2
      simp at h2
      subst h2
      obtain ⟨q3, h3, _⟩ := DataW.trod_bool Try.underlying4 f3
      simp at h3
      subst h3
      exact ⟨⟨q0, q1, q2, q3⟩, rfl⟩
theorem cells_Ac : Try.prog.cellsOf 45 = 13 := by kernel_rfl
theorem cells_Acs : Try.prog.cellsOf 27 = 1 := by kernel_rfl
theorem trod_Ac {fuel : Nat} {cs : List Value} {x : DataW H × List MemPlace} (h : DataW.trod enc Try.prog w base spare held fuel 45 cs = some x) : ∃ a : Ac, cs = CK.enc a ∧ okA a.ad := by
  obtain ⟨xs, n, _, rfl, hl, hlen, hf⟩ := DataW.trod_struct Try.underlying45 h
  rw [cells_Ac] at hl
  match cs, hl with
  | [v0, v1, v2, v3, v4, v5, v6, v7, v8, v9, v10, v11, v12], _ =>
    match xs, hlen with
    | [x0, x1, x2, x3], _ =>
      have f0 : DataW.trod enc Try.prog w base spare held n 3 (([v0, v1, v2, v3, v4, v5, v6, v7, v8, v9, v10, v11, v12].drop 0).take (Try.prog.cellsOf 3)) = some x0 := hf 0 _ rfl
      rw [cells_int] at f0
      have f1 : DataW.trod enc Try.prog w base spare held n 3 (([v0, v1, v2, v3, v4, v5, v6, v7, v8, v9, v10, v11, v12].drop 1).take (Try.prog.cellsOf 3)) = some x1 := hf 1 _ rfl
      rw [cells_int] at f1
      have f2 : DataW.trod enc Try.prog w base spare held n 3 (([v0, v1, v2, v3, v4, v5, v6, v7, v8, v9, v10, v11, v12].drop 2).take (Try.prog.cellsOf 3)) = some x2 := hf 2 _ rfl
      rw [cells_int] at f2
      have f3 : DataW.trod enc Try.prog w base spare held n 43 (([v0, v1, v2, v3, v4, v5, v6, v7, v8, v9, v10, v11, v12].drop 3).take (Try.prog.cellsOf 43)) = some x3 := hf 3 _ rfl
      rw [cells_ad] at f3
      obtain ⟨q0, h0, _⟩ := DataW.trod_int Try.underlying3 f0
      simp at h0
      subst h0
      obtain ⟨q1, h1, _⟩ := DataW.trod_int Try.underlying3 f1
      simp at h1
      subst h1
      obtain ⟨q2, h2, _⟩ := DataW.trod_int Try.underlying3 f2
      simp at h2
      subst h2
      obtain ⟨q3, h3, hok⟩ := trod_ad f3
      have h3 : [v3, v4, v5, v6, v7, v8, v9, v10, v11, v12] = q3.enc := h3
      simp only [Ad.enc, List.cons.injEq, and_true] at h3
      obtain ⟨rfl, rfl, rfl, rfl, rfl, rfl, rfl, rfl, rfl, rfl⟩ := h3
      exact ⟨⟨q0, q1, q2, q3⟩, rfl, hok⟩
theorem trod_world {fuel : Nat} {cs : List Value} {x : DataW H × List MemPlace} (h : DataW.trod enc Try.prog w base spare held fuel 33 cs = some x) (hL : Light 33 x.1) :
    ∃ (A : Wo) (v : Wv), cs = (v.cells A).toList ∧ WorldC w v A ∧ Mem A.plan ∧ A.plan.ticks ≤ 9223372036854775807 ∧ (-9223372036854775808 ≤ A.clock ∧ A.clock ≤ 9223372036854775807) := by
  obtain ⟨xs, n, _, rfl, hl, hlen, hf⟩ := DataW.trod_struct Try.underlying33 h
  rw [cells_world] at hl
  match cs, hl with
  | [v0, v1, v2, v3, v4, v5, v6, v7, v8, v9], _ =>
    match xs, hlen with
    | [x0, x1, x2, x3, x4, x5, x6], _ =>
      have f0 : DataW.trod enc Try.prog w base spare held n 26 (([v0, v1, v2, v3, v4, v5, v6, v7, v8, v9].drop 0).take (Try.prog.cellsOf 26)) = some x0 := hf 0 _ rfl
      have f1 : DataW.trod enc Try.prog w base spare held n 3 (([v0, v1, v2, v3, v4, v5, v6, v7, v8, v9].drop 4).take (Try.prog.cellsOf 3)) = some x1 := hf 1 _ rfl
      have f2 : DataW.trod enc Try.prog w base spare held n 28 (([v0, v1, v2, v3, v4, v5, v6, v7, v8, v9].drop 5).take (Try.prog.cellsOf 28)) = some x2 := hf 2 _ rfl
      have f3 : DataW.trod enc Try.prog w base spare held n 29 (([v0, v1, v2, v3, v4, v5, v6, v7, v8, v9].drop 6).take (Try.prog.cellsOf 29)) = some x3 := hf 3 _ rfl
      have f4 : DataW.trod enc Try.prog w base spare held n 30 (([v0, v1, v2, v3, v4, v5, v6, v7, v8, v9].drop 7).take (Try.prog.cellsOf 30)) = some x4 := hf 4 _ rfl
      have f5 : DataW.trod enc Try.prog w base spare held n 3 (([v0, v1, v2, v3, v4, v5, v6, v7, v8, v9].drop 8).take (Try.prog.cellsOf 3)) = some x5 := hf 5 _ rfl
      have f6 : DataW.trod enc Try.prog w base spare held n 31 (([v0, v1, v2, v3, v4, v5, v6, v7, v8, v9].drop 9).take (Try.prog.cellsOf 31)) = some x6 := hf 6 _ rfl
      rw [cells_plan] at f0
      rw [cells_int] at f1 f5
      rw [cells_Sks] at f2
      rw [cells_Dis] at f3
      rw [cells_Los] at f4
      rw [cells_Nks] at f6
      obtain ⟨P, pv, h0, hP, hM, ht⟩ := trod_plan f0 (light_field Try.underlying33 hL (j := 0) (d := x0.1) rfl rfl)
      obtain ⟨ck, h1, _, hck⟩ := DataW.trod_int Try.underlying3 f1
      obtain ⟨S, sa, sc, h2, _, hS⟩ := open_row SK cells_Sk (fun h => trod_Sk h) f2
      obtain ⟨D, ia, ic, h3, _, hD⟩ := open_row DK cells_Di (fun h => trod_Di h) f3
      obtain ⟨K, la, lc, h4, _, hK⟩ := open_row LK cells_Lo (fun h => trod_Lo h) f4
      obtain ⟨dr, h5, _, hdr⟩ := DataW.trod_int Try.underlying3 f5
      obtain ⟨M, ma, mc, h6, _, hMk⟩ := open_row NK cells_Nk (fun h => trod_Nk h) f6
      have h0 : [v0, v1, v2, v3] = _ := h0
      simp only [List.cons.injEq, and_true] at h0
      obtain ⟨rfl, rfl, rfl, rfl⟩ := h0
      simp at h1 h2 h3 h4 h5 h6
      subst h1 h2 h3 h4 h5 h6
      exact ⟨⟨P, ck, S, D, K, dr, M⟩, ⟨pv, sa, sc, ia, ic, la, lc, ma, mc⟩, rfl, ⟨hP, hS, hD, hK, hMk⟩, hM, ht.2, by simpa [Lit.wf, IntKind.min, IntKind.max, IntKind.signed, IntKind.bits] using hck⟩
/-- A parameter that is a world. -/
theorem open_world {r : Reach} {b0 : Nat} {v : Value} {d : DataW H} {ps : List MemPlace} (hv : Value.okWide Try.prog w r b0 33 v) (h : DataW.Trod enc Try.prog w base spare held 33 v d ps) (hL : Light 33 d) :
    ∃ (A : Wo) (u : Wv), v = u.val A ∧ WorldC w u A ∧ Mem A.plan ∧ A.plan.ticks ≤ 9223372036854775807 ∧ (-9223372036854775808 ≤ A.clock ∧ A.clock ≤ 9223372036854775807) := by
  obtain ⟨cs, rfl, hsz⟩ := okWide_struct Try.underlying33 hv
  obtain ⟨fuel, hf⟩ := h
  obtain ⟨A, u, ha, hP⟩ := trod_world hf hL
  refine ⟨A, u, ?_, hP⟩
  have e : cs.toList = (u.cells A).toList := ha
  show Value.agg cs = Value.agg (u.cells A)
  rw [Array.toList_inj.1 e]
theorem open_acts {r : Reach} {b0 : Nat} {v : Value} {d : DataW H} {ps : List MemPlace} (hv : Value.okWide Try.prog w r b0 27 v) (h : DataW.Trod enc Try.prog w base spare held 27 v d ps) (hL : Light 27 d) :
    ∃ (l : List Ac) (a : Option Addr) (c : Nat), v = .slice a l.length c ∧ l.length ≤ maxLen ∧ (∀ x ∈ l, okA x.ad) ∧ CK.RowC w a c l := by
  obtain ⟨a0, len, cap, rfl⟩ := okWide_slice Try.underlying27 hv
  obtain ⟨fuel, hf⟩ := h
  obtain ⟨l, a, c, e, hl, _, hok, hR⟩ := open_row_w CK (fun x => okA x.ad) cells_Ac (fun h _ => trod_Ac h) hf hL
  simp [Value.cells] at e
  obtain ⟨rfl, rfl, rfl⟩ := e
  exact ⟨l, a0, cap, rfl, hl, hok, hR⟩
theorem open_bools {r : Reach} {b0 : Nat} {v : Value} {d : DataW H} {ps : List MemPlace} (hv : Value.okWide Try.prog w r b0 59 v) (h : DataW.Trod enc Try.prog w base spare held 59 v d ps) :
    ∃ (l : List Bool) (a : Option Addr) (c : Nat), v = .slice a l.length c ∧ l.length ≤ maxLen ∧ True ∧ VK.RowC w a c l := by
  obtain ⟨a0, len, cap, rfl⟩ := okWide_slice Try.underlying59 hv
  obtain ⟨fuel, hf⟩ := h
  obtain ⟨l, a, c, e, hl, hR⟩ := open_row VK cells_bool (fun h => by
    obtain ⟨t, h2, _⟩ := DataW.trod_bool Try.underlying4 h
    exact ⟨t, h2⟩) hf
  simp [Value.cells] at e
  obtain ⟨rfl, rfl, rfl⟩ := e
  exact ⟨l, a0, cap, rfl, hl, trivial, hR⟩
/-- A parameter that is an address. -/
theorem open_ad {r : Reach} {b0 : Nat} {v : Value} {d : DataW H} {ps : List MemPlace} (hv : Value.okWide Try.prog w r b0 43 v) (h : DataW.Trod enc Try.prog w base spare held 43 v d ps) : ∃ a : Ad, v = a.v := by
  obtain ⟨cs, rfl, hsz⟩ := okWide_struct Try.underlying43 hv
  obtain ⟨fuel, hf⟩ := h
  obtain ⟨a, ha, _⟩ := trod_ad hf
  refine ⟨a, ?_⟩
  have e : cs.toList = a.enc := ha
  show Value.agg cs = Value.agg a.enc.toArray
  rw [← e]
end
/-- An argument reads behind the call as it read before. -/
theorem stays {H : Type} {enc : TypeId × Value → H} {t : TypeId} (hr : Try.prog.readableRec t = true) (hrow : t < Try.prog.types.size) {W W' : World} {v : Value} {d : DataW H} {ps : List MemPlace}
    (h : DataW.Trod enc Try.prog W 0 (fun _ => true) true t v d ps) (hb : Below W.heap.size W W') (hlt : ∀ x ∈ ps, x.block < W.heap.size) (sp : Nat → Bool) (hsp : ∀ x ∈ ps, sp x.block = true) :
    DataW.Trod enc Try.prog W' 0 sp true t v d ps :=
  WideElems.Trod_stays laidOut hr hrow h (fun x hx => hb.same (hlt x hx)) hsp
end Go.Proofs.Ytciohjgcndgiaaa
