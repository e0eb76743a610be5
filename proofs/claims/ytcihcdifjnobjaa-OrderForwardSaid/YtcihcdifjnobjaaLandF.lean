/- The landed order: whose row is at its end; those are struck. -/
import Derived.Test.YtcihcdifjnobjaaLandE
import Derived.Test.YtcihcdifjnobjaaPairs
import Derived.Test.YtcihcdifjnobjaaDelShelf
set_option linter.unusedSimpArgs false
set_option linter.unusedVariables false
namespace Go.Proofs.Ytcihcdifjnobjaa
open Go.RowKit Go.Proofs.Ytcihcdifjnobjaa.Kind Go.Shelf Go.Sort

def IK : Kind Try.prog Int where
  enc := fun n => [.int .i64 n]
  k := 1
  T := 3
  S := 59
  z := .int .i64 0
  bytes := 8
  hk := fun _ => rfl
  h1 := by
    intro x v hv
    simp only [List.mem_cons, List.not_mem_nil, or_false] at hv
    rcases hv with rfl
    rfl
  hu := Try.underlying59
  hi := by kernel_rfl
  hz := rfl
  hk0 := by decide
  hb := by decide
theorem IK.one {w : World} {b o : Nat} {l : List Int} (h : IK.At w b o l) {j : Nat} {x : Int} (hx : l[j]? = some x) : w.cell? ⟨b, o + j, none⟩ = some (.int .i64 x) := by
  have h1 := h j x hx 0 _ rfl
  have e : o + j * IK.k + 0 = o + j := by show o + j * 1 + 0 = o + j; omega
  rwa [e] at h1
def intsOf (l : List Nat) : List Int := l.map (fun (n : Nat) => (n : Int))
theorem ints_len (l : List Nat) : (intsOf l).length = l.length := by simp [intsOf]
theorem ints_at {l : List Nat} {i n : Nat} (h : l[i]? = some n) : (intsOf l)[i]? = some (n : Int) := by simp [intsOf, h]

/-- Only the block g has changed. -/
structure OneB (g : Nat) (w w' : World) : Prop where
  os : w'.os = w.os
  tape : w'.tape = w.tape
  output : w'.output = w.output
  size : w'.heap.size = w.heap.size
  block : ∀ k, k ≠ g → w'.heap[k]? = w.heap[k]?
theorem putRow_one {α : Type} [Inhabited α] (enc : α → Value) (w : World) (n blk off : Nat) (d : Array α) : OneB blk w (putRow enc (Sort.ahead w n) blk off d) :=
  ⟨rfl, rfl, rfl, by simp [Sort.ahead], fun k hk => by
    simp only [putRow, mapBlock, Array.getElem?_modify, Sort.ahead]
    rw [if_neg (fun e => hk e.symm)]⟩

/-- What the closure looks at. -/
structure Sees (W : World) (Bx B5 : Nat) (gq : Option Addr) (cq : Nat) (Q : List (List Ad)) (r : Nat) : Prop where
  box : W.cell? ⟨Bx, 0, none⟩ = some (.slice gq Q.length cq)
  rnd : W.cell? ⟨B5, 0, none⟩ = some (.int .i64 (r : Int))
  el : ∀ n, n < Q.length → ∃ g o a c, gq = some ⟨g, o, none⟩ ∧ W.cell? ⟨g, o + n, none⟩ = some (.slice a (Q.getD n []).length c)
theorem Sees.move {W W' : World} {Bx B5 : Nat} {gq : Option Addr} {cq : Nat} {Q : List (List Ad)} {r : Nat} (h : Sees W Bx B5 gq cq Q r) (hc : ∀ a : Addr, (a.block = Bx ∨ a.block = B5 ∨ ∃ g o, gq = some ⟨g, o, none⟩ ∧ a.block = g) → W'.cell? a = W.cell? a) : Sees W' Bx B5 gq cq Q r :=
  ⟨(hc _ (.inl rfl)).trans h.box, (hc _ (.inr (.inl rfl))).trans h.rnd, fun n hn => by
    obtain ⟨g, o, a, c, e, h1⟩ := h.el n hn
    exact ⟨g, o, a, c, e, (hc _ (.inr (.inr ⟨g, o, e, rfl⟩))).trans h1⟩⟩

set_option maxHeartbeats 4000000 in
set_option maxRecDepth 1000000 in
theorem sees_is {W : World} {Bx B5 : Nat} {gq : Option Addr} {cq : Nat} {Q : List (List Ad)} {r n : Nat} (h : Sees W Bx B5 gq cq Q r) (hn : n < Q.length) (p : Bool) (hp : p = decide ((Q.getD n []).length ≤ r)) :
    FnGives Try.prog 32 #[.pointer (some ⟨Bx, 0, none⟩), .pointer (some ⟨B5, 0, none⟩)] #[.int .i64 (n : Int)] (.bool p) W := by
  show Calls Try.prog 32 #[.int .i64 (n : Int), .pointer (some ⟨Bx, 0, none⟩), .pointer (some ⟨B5, 0, none⟩)] W _
  obtain ⟨g, o, a, c, rfl, h3⟩ := h.el n hn
  have h1 := h.box
  have h2 := h.rnd
  have hni : (n : Int) < (Q.length : Int) := by omega
  have hn0 : (0 : Int) ≤ (n : Int) := by omega
  obtain ⟨m, hm⟩ : ∃ m, m = (Q.getD n []).length := ⟨_, rfl⟩
  obtain ⟨N, hN⟩ : ∃ N, N = Q.length := ⟨_, rfl⟩
  rw [← hm] at h3 hp
  rw [← hN] at h1 hni
  have HP := Lib.hid hp
  clear h hn hm hN hp
  go_enter Try.func32, Try.ntmps32
  go_wp2_with fail
  go_quiet (fail)
  go_wp2_with fail
  go_ret
  refine ⟨?_, _, rfl⟩
  rw [HP.out]
  congr 2

def toF (q n : Nat) : Fin (q + 1) := if h : n < q + 1 then ⟨n, h⟩ else 0
theorem toF_val {q n : Nat} (h : n < q + 1) : (toF q n).val = n := by unfold toF; rw [dif_pos h]
def encF (q : Nat) (x : Fin (q + 1)) : Value := .int .i64 ((x.val : Nat) : Int)
set_option maxHeartbeats 1000000 in
theorem del_any (Q : List (List Ad)) (q : Nat) (hq : Q.length = q + 1) (l : List Nat) (hl : ∀ n ∈ l, n < Q.length) (hl0 : 0 < l.length) (hll : l.length ≤ 400) (a : Option Addr) (c base Bx B5 : Nat) (gq : Option Addr) (cq r : Nat) (w : World) (hO : IK.Loose w base a c (intsOf l)) (hS : Sees w Bx B5 gq cq Q r)
    (L : List Nat) (hL : L = l.filter (fun n => !decide ((Q.getD n []).length ≤ r))) (hlt : ∀ k, (k = Bx ∨ k = B5 ∨ ∃ g o, gq = some ⟨g, o, none⟩ ∧ k = g) → k < w.heap.size ∧ ∀ ad : Addr, a = some ad → k ≠ ad.block) :
    Calls Try.prog 31 #[.slice a l.length c, .func (.func 32) #[] #[.pointer (some ⟨Bx, 0, none⟩), .pointer (some ⟨B5, 0, none⟩)]] w fun e w' => e = .returned (.slice a L.length c) ∧ IK.Loose w' base a c (intsOf L) ∧ ∀ ad : Addr, a = some ad → OneB ad.block w w' := by
  have hlc : l.length ≤ c := by have := hO.1; rwa [ints_len] at this
  obtain ⟨blk, off, rfl, hb1, hb2, hcs, hat⟩ := hO.2.2.2 (by omega)
  have hcm := hO.2.1
  obtain ⟨d, hd⟩ : ∃ d : Array (Fin (q + 1)), d = (l.map (toF q)).toArray := ⟨_, rfl⟩
  have hds : d.size = l.length := by rw [hd]; simp
  have hdj : ∀ j, j < d.size → ∃ n, l[j]? = some n ∧ encF q d[j]! = .int .i64 (n : Int) := fun j hj => by
    obtain ⟨n, hn⟩ : ∃ n, l[j]? = some n := ⟨_, List.getElem?_eq_getElem (by omega)⟩
    have hnq := hl n (List.mem_of_getElem? hn)
    refine ⟨n, hn, ?_⟩
    have e : d[j]! = toF q n := by
      rw [getElem!_pos d j hj]
      have h2 : d[j]? = some (toF q n) := by rw [hd]; simp [hn]
      exact (Array.getElem?_eq_some_iff.1 h2).2
    rw [e]
    unfold encF
    rw [toF_val (by omega)]
  have hH : Holds (encF q) w blk off d := fun j hj => by
    obtain ⟨n, hn, e⟩ := hdj j hj
    refine ⟨by rw [e]; exact IK.one hat (ints_at hn), ?_⟩
    exact (hcs j (by show j < c * 1; omega)).2
  have hne : ∀ k, (k = Bx ∨ k = B5 ∨ ∃ g o, gq = some ⟨g, o, none⟩ ∧ k = g) → k < w.heap.size ∧ k ≠ blk := fun k hk => ⟨(hlt k hk).1, (hlt k hk).2 ⟨blk, off, none⟩ rfl⟩
  have eg : ∀ args w, (callFunc 32 args).run Try.prog w = .ok (.enter 32 args) w := enters_of Try.func32 (by kernel_rfl) rfl
  have hp : PredAt Try.prog 32 #[.pointer (some ⟨Bx, 0, none⟩), .pointer (some ⟨B5, 0, none⟩)] (encF q) (fun x => decide ((Q.getD x.val []).length ≤ r)) w := fun W x hb =>
    sees_is (hS.move (fun a ha => hb.cell (hne a.block ha).1)) (by have := x.isLt; omega) _ rfl
  have hpo : PredOver Try.prog 32 #[.pointer (some ⟨Bx, 0, none⟩), .pointer (some ⟨B5, 0, none⟩)] (encF q) (fun x => decide ((Q.getD x.val []).length ≤ r)) blk off d.size w := fun n os dk x _ =>
    sees_is (hS.move (fun a ha => by
      unfold sortWorld
      rw [cell?_grow _ _ _ (by rw [size_putRow]; exact (hne a.block ha).1), cell?_putRow_other _ _ blk off _ _ (.inl (hne a.block ha).2)]
      rfl)) (by have := x.isLt; omega) _ rfl
  have hcon := AnyE.slices_DeleteFunc Try.delI (encF q) (fun _ => rfl) (fun x => decide ((Q.getD x.val []).length ≤ r)) 32 #[.pointer (some ⟨Bx, 0, none⟩), .pointer (some ⟨B5, 0, none⟩)] eg 0 (fun w => by show (zeroValue 3).run Try.prog w = _; rw [zero_i64]; rfl) blk off c d w hp hpo hH (by omega) (by omega)
  have hf : d.toList.filter (fun x => !decide ((Q.getD x.val []).length ≤ r)) = L.map (toF q) := by
    rw [hd, hL]
    show (l.map (toF q)).filter _ = _
    rw [List.filter_map]
    congr 1
    refine List.filter_congr fun n hn => ?_
    have hnq := hl n hn
    show (!decide ((Q.getD (toF q n).val []).length ≤ r)) = _
    rw [toF_val (by omega)]
  have hLl : L.length ≤ l.length := by rw [hL]; exact List.length_filter_le _ _
  have hLq : ∀ n ∈ L, n < Q.length := fun n hn => hl n (by rw [hL] at hn; exact (List.mem_filter.1 hn).1)
  rw [hf, hds] at hcon
  refine Calls.mono hcon ?_
  rintro e w' ⟨rfl, n, rfl⟩
  have hlm : (L.map (toF q)).length = L.length := by simp
  rw [hlm]
  obtain ⟨d2, hd2⟩ : ∃ d2 : Array (Fin (q + 1)), d2 = (L.map (toF q) ++ List.replicate (l.length - L.length) 0).toArray := ⟨_, rfl⟩
  have hs2 : d2.size = d.size := by rw [hd2, hds, List.size_toArray, List.length_append, List.length_map, List.length_replicate]; omega
  rw [← hd2]
  refine ⟨rfl, ⟨by rw [ints_len]; omega, hcm, (fun e => by cases e), fun _ => ⟨blk, off, rfl, hb1, by rw [size_putRow]; exact hb2, fun j hj => ⟨?_, by rw [frozen?_putRow]; exact (hcs j hj).2⟩, fun j x hx i v hv => ?_⟩⟩, fun ad had => ?_⟩
  · by_cases hjd : j < d2.size
    · rw [cell?_putRow (encF q) _ blk off d d2 (holds_ahead _ _ _ _ _ _ hH) hs2 j hjd]; rfl
    · rw [cell?_putRow_other _ _ blk off _ _ (.inr (.inr (by show off + d2.size ≤ off + j; omega)))]
      exact (hcs j hj).1
  · have hjl : j < L.length := by have := (List.getElem?_eq_some_iff.1 hx).1; rwa [ints_len] at this
    obtain ⟨m, hm⟩ : ∃ m, L[j]? = some m := ⟨_, List.getElem?_eq_getElem hjl⟩
    rw [ints_at hm] at hx
    obtain rfl := Option.some.inj hx
    have hi0 : i = 0 := by have := (List.getElem?_eq_some_iff.1 hv).1; have h2 : (IK.enc (m : Int)).length = 1 := rfl; omega
    subst hi0
    have e0 : off + j * IK.k + 0 = off + j := by show off + j * 1 + 0 = off + j; omega
    rw [e0, cell?_putRow (encF q) _ blk off d d2 (holds_ahead _ _ _ _ _ _ hH) hs2 j (by omega)]
    have e : d2[j]! = toF q m := by
      rw [getElem!_pos d2 j (by omega)]
      have h2 : d2[j]? = some (toF q m) := by rw [hd2, List.getElem?_toArray, List.getElem?_append_left (by rw [hlm]; exact hjl), List.getElem?_map, hm]; rfl
      exact (Array.getElem?_eq_some_iff.1 h2).2
    rw [e]
    unfold encF
    rw [toF_val (by have := hLq m (List.mem_of_getElem? hm); omega)]
    exact hv
  · injection had with had
    subst had
    exact putRow_one _ _ _ _ _ _
end Go.Proofs.Ytcihcdifjnobjaa
