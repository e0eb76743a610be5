/- Rows of numbers in memory, and what append makes of them. -/
import Derived.Test.YtooophfmhohnmaaProg
import Derived.Test.YtooophfmhohnmaaPure
import Derived.WalkKit
import Derived.Handy
import Derived.WalkSpells
import Derived.WalkLawsBesides
import Derived.WalkSmall
import Derived.Lib.Hide
import Derived.Below
import Derived.Deep.Light
import Derived.Deep.LoopGhost
import Derived.Deep.QuietTactic
import Derived.BigQuiet
import Derived.ProofKit
import Derived.Laws.OwnMore
import Derived.OwnWalk
import Derived.Maps.AppendAt
import Derived.Deep.Onto
import Derived.ArgAppend
import Derived.Laws.AppendOwnNone
set_option linter.unusedSimpArgs false
set_option linter.unusedVariables false
namespace Go.Proofs.Ytooophfmhohnmaa
open Go.RowKit

theorem ret_i64 {a b : Int} (h : a = b) : Ending.returned (.int .i64 a) = Ending.returned (.int .i64 b) := by rw [h]
theorem ret_bo {a b : Bool} (h : a = b) : Ending.returned (.bool a) = Ending.returned (.bool b) := by rw [h]
theorem iInt : (Try.prog.info? 3).map (fun i => (i.zero, i.size, i.bytes)) = some (some (.int .i64 0), 1, 8) := by kernel_rfl
def P.ints (l : List Int) : List Value := l.map (Value.int .i64)
theorem P.ints_length (l : List Int) : (P.ints l).length = l.length := by simp [P.ints]
theorem P.ints_append (l m : List Int) : P.ints (l ++ m) = P.ints l ++ P.ints m := by simp [P.ints]
theorem P.ints_one (l : List Int) : ∀ u ∈ P.ints l, u.oneCell' = true := by
  intro u hu
  obtain ⟨x, _, rfl⟩ := List.mem_map.1 hu
  rfl

/-- Numbers that lie in a row. -/
def IntsAt (w : World) (b o : Nat) (l : List Int) : Prop := ∀ j x, l[j]? = some x → w.cell? ⟨b, o + j, none⟩ = some (.int .i64 x)
theorem IntsAt.below {w w' : World} {b o B : Nat} {l : List Int} (h : IntsAt w b o l) (hb : Below B w w') (hlt : b < B) : IntsAt w' b o l := fun j x hx => by
  rw [hb.cell (p := ⟨b, o + j, none⟩) hlt]; exact h j x hx
/-- A row of numbers, wherever it lies; nothing is asked of an empty one's address. -/
def RowI (w : World) (a : Option Addr) (l : List Int) : Prop := 0 < l.length → ∃ b o, a = some ⟨b, o, none⟩ ∧ b < w.heap.size ∧ IntsAt w b o l
theorem RowI.below {w w' : World} {a : Option Addr} {l : List Int} (h : RowI w a l) (hb : Below w.heap.size w w') : RowI w' a l := fun hl => by
  obtain ⟨b, o, h1, h2, h3⟩ := h hl
  exact ⟨b, o, h1, Nat.lt_of_lt_of_le h2 hb.size, h3.below hb h2⟩
/-- A row that is read, with the room behind it. -/
def RowC (w : World) (a : Option Addr) (c : Nat) (l : List Int) : Prop := l.length ≤ c ∧ c ≤ maxLen ∧ (a = none → c = 0) ∧ RowI w a l
theorem RowC.below {w w' : World} {a : Option Addr} {c : Nat} {l : List Int} (h : RowC w a c l) (hb : Below w.heap.size w w') : RowC w' a c l := ⟨h.1, h.2.1, h.2.2.1, h.2.2.2.below hb⟩
/-- A row in memory of the call's own. -/
def MineC (w : World) (base : Nat) (a : Option Addr) (c : Nat) (l : List Int) : Prop :=
  l.length ≤ c ∧ c ≤ maxLen ∧ (a = none → c = 0) ∧ (0 < l.length → ∃ g cur t, a = some ⟨g, 0, none⟩ ∧ base ≤ g ∧ w.heap[g]? = some (.cells cur t (0, 0)) ∧ l.length ≤ cur.size ∧ cur.toList.take l.length = P.ints l)
theorem lt_heap {w : World} {g : Nat} {o : Obj} (h : w.heap[g]? = some o) : g < w.heap.size := (Array.getElem?_eq_some_iff.1 h).1
theorem MineC.below {w w' : World} {base B : Nat} {a : Option Addr} {c : Nat} {l : List Int} (h : MineC w base a c l) (hb : Below B w w') (hB : w.heap.size ≤ B) : MineC w' base a c l :=
  ⟨h.1, h.2.1, h.2.2.1, fun hl => by
    obtain ⟨g, cur, t, h1, h2, h3, h4, h5⟩ := h.2.2.2 hl
    exact ⟨g, cur, t, h1, h2, by rw [hb.block g (Nat.lt_of_lt_of_le (lt_heap h3) hB)]; exact h3, h4, h5⟩⟩
theorem MineC.mono {w : World} {base b2 : Nat} {a : Option Addr} {c : Nat} {l : List Int} (h : MineC w base a c l) (hb : b2 ≤ base) : MineC w b2 a c l :=
  ⟨h.1, h.2.1, h.2.2.1, fun hl => by
    obtain ⟨g, cur, t, h1, h2, h3, h4, h5⟩ := h.2.2.2 hl
    exact ⟨g, cur, t, h1, Nat.le_trans hb h2, h3, h4, h5⟩⟩
theorem cells_at {w : World} {g : Nat} {cur : Array Value} {t : TypeId} {l : List Int} (h3 : w.heap[g]? = some (.cells cur t (0, 0))) (h4 : l.length ≤ cur.size) (h5 : cur.toList.take l.length = P.ints l) : IntsAt w g 0 l := by
  intro j x hx
  have hj : j < l.length := (List.getElem?_eq_some_iff.1 hx).1
  have e : (cur.toList.take l.length)[j]? = (P.ints l)[j]? := by rw [h5]
  rw [List.getElem?_take, if_pos hj, Array.getElem?_toList, P.ints, List.getElem?_map, hx] at e
  simp only [World.cell?, h3, Nat.zero_add]
  simpa using e
theorem MineC.row {w : World} {base : Nat} {a : Option Addr} {c : Nat} {l : List Int} (h : MineC w base a c l) : RowC w a c l :=
  ⟨h.1, h.2.1, h.2.2.1, fun hl => by
    obtain ⟨g, cur, t, h1, h2, h3, h4, h5⟩ := h.2.2.2 hl
    exact ⟨g, 0, h1, lt_heap h3, cells_at h3 h4 h5⟩⟩
theorem mine_none (w : World) (base : Nat) : MineC w base none 0 [] := ⟨by simp, by simp, fun _ => rfl, fun h => by simp at h⟩
theorem row_none (w : World) : RowC w none 0 [] := (mine_none w 0).row
/-- A row that a call has just laid. -/
theorem rowC_at (w : World) (t : TypeId) (l : List Int) (c : Array Value) (g n : Nat) (hg : g = w.heap.size) (hn : n = l.length) (hc : c = (l.map (Value.int .i64)).toArray) (hm : l.length ≤ 1000) : RowC (w.alloc (.cells c t)) (some ⟨g, 0, none⟩) n l := by
  subst hg hn hc
  refine ⟨Nat.le_refl _, by unfold maxLen; omega, (fun h => by cases h), fun _ => ⟨w.heap.size, 0, rfl, by simp, fun j x hx => ?_⟩⟩
  rw [Nat.zero_add, World.cell?_alloc_new]
  simp [hx]
theorem add_at (b a j : Nat) : ((⟨b, a, none⟩ : Addr).add j) = ⟨b, a + j, none⟩ := by
  unfold Addr.add
  split
  · rename_i h; have : j = 0 := by simpa using h
    subst this; rfl
  · rfl
/-- A row from its k-th number on, and up to it. -/
theorem RowC.drop {w : World} {a a' : Option Addr} {c : Nat} {l : List Int} (h : RowC w a c l) (k : Nat) (hk : k ≤ l.length) (ha : a' = if c = k then a else a.map (·.add k)) : RowC w a' (c - k) (l.drop k) := by
  obtain ⟨h1, h2, h3, h4⟩ := h
  subst ha
  refine ⟨by simp; omega, by omega, fun e => ?_, fun hl => ?_⟩
  · split at e
    · omega
    · rw [Option.map_eq_none_iff] at e
      have := h3 e; omega
  · have hlk : k < l.length := by simp at hl; omega
    obtain ⟨b, o, rfl, hb, hat⟩ := h4 (by omega)
    refine ⟨b, o + k, ?_, hb, fun j x hx => ?_⟩
    · rw [if_neg (by omega)]; simp [add_at]
    · rw [List.getElem?_drop] at hx
      rw [Nat.add_assoc]; exact hat _ _ hx
theorem RowC.take {w : World} {a a' : Option Addr} {c : Nat} {l : List Int} (h : RowC w a c l) (k : Nat) (hk : k ≤ l.length) (ha : a' = a) : RowC w a' c (l.take k) := by
  obtain ⟨h1, h2, h3, h4⟩ := h
  subst ha
  refine ⟨by simp; omega, h2, h3, fun hl => ?_⟩
  have hlk : 0 < l.length := by simp at hl; omega
  obtain ⟨b, o, rfl, hb, hat⟩ := h4 hlk
  refine ⟨b, o, rfl, hb, fun j x hx => ?_⟩
  rw [List.getElem?_take] at hx
  split at hx
  · exact hat _ _ hx
  · cases hx
theorem add_none (a : Option Addr) : Option.map (fun x => x.add 0) a = a := by cases a <;> rfl
/-- What is handed back without room behind it. -/
theorem MineC.cut {w : World} {base : Nat} {a a' : Option Addr} {c : Nat} {l : List Int} (h : MineC w base a c l) (ha : a' = a) : MineC w base a' l.length l := by
  obtain ⟨h1, h2, h3, h4⟩ := h
  subst ha
  exact ⟨Nat.le_refl _, by omega, fun e => by have := h3 e; omega, h4⟩

/-- What append is handed first: a row of the call's own, or nothing with no room. -/
def Dst (w : World) (base : Nat) (v : Value) (l : List Int) : Prop := w.ownsRow base 3 1 v l.length (P.ints l) ∨ (l = [] ∧ ∃ ad, v = .slice ad 0 0)
theorem Dst.mine {w : World} {base : Nat} {v : Value} {l : List Int} (h : Dst w base v l) : ∃ a c, v = .slice a l.length c ∧ MineC w base a c l := by
  rcases h with h | ⟨rfl, ad, rfl⟩
  · rcases h.2 with ⟨rfl, h2⟩ | ⟨g, cap, cur, rfl, hb, hg, hc, hm, hs, ht⟩
    · obtain rfl : l = [] := List.length_eq_zero_iff.1 h2
      exact ⟨none, 0, rfl, mine_none _ _⟩
    · exact ⟨_, cap, rfl, hc, hm, (fun e => by cases e), fun hl => ⟨g, cur, _, rfl, hb, hg, by omega, by rw [← ht]; simp⟩⟩
  · exact ⟨ad, 0, rfl, Nat.le_refl _, by simp, fun _ => rfl, fun h => by simp at h⟩
theorem Dst.below {w w' : World} {base B : Nat} {v : Value} {l : List Int} (h : Dst w base v l) (hb : Below B w w') (hB : w.heap.size ≤ B) : Dst w' base v l := by
  rcases h with h | h
  · refine .inl ⟨h.1, ?_⟩
    rcases h.2 with h2 | ⟨g, cap, cur, rfl, b, c, d⟩
    · exact .inl h2
    · exact .inr ⟨g, cap, cur, rfl, b, by rw [hb.block g (Nat.lt_of_lt_of_le (lt_heap c) hB)]; exact c, d⟩
  · exact .inr h
theorem dst_nil (w : World) (base : Nat) : Dst w base (.slice none 0 0) [] := .inl (World.ownsRow_nil _ _ _ _)
theorem dst_made (w : World) (base : Nat) (t : TypeId) (hb : base ≤ w.heap.size) : Dst (w.alloc (.cells #[] 3)) base (.slice (some ⟨w.heap.size, 0, none⟩) 0 0) [] := .inr ⟨rfl, _, rfl⟩

theorem run_append_bare (a ad : Option Addr) (c : Nat) (w : World) (ty : TypeId) (hn : ad = none → c = 0) : (Builtin.append_ #[22, 22] ty #[.slice a 0 0, .slice ad 0 c]).run Try.prog w = .ok (.slice a 0 0) w := by
  obtain ⟨i0, hi, hz0, hz1, hz2⟩ := info_parts iInt
  have ht := Try.underlying22
  cases a <;> cases ad
  · have := hn rfl
    subst this
    simp [Builtin.append_, run_underlying ht, sizeOf, typeInfo, hi, Builtin.lenOf, Builtin.firstCells, storeCells, loadCells, loadCellsFrom, Result.andThen]
  all_goals simp [Builtin.append_, run_underlying ht, sizeOf, typeInfo, hi, Builtin.lenOf, Builtin.firstCells, storeCells, loadCells, loadCellsFrom, Result.andThen]

theorem cells_src {w : World} {b o : Nat} {l : List Int} (h : IntsAt w b o l) : ∀ (j : Nat) (u : Value), (P.ints l)[j]? = some u → w.cell? ((⟨b, o, none⟩ : Addr).add j) = some u := by
  intro j u hu
  rw [P.ints, List.getElem?_map, Option.map_eq_some_iff] at hu
  obtain ⟨x, hx, rfl⟩ := hu
  rw [add_at]; exact h j x hx

set_option maxHeartbeats 1000000 in
/-- Append, whatever the row ahead and the row behind. -/
theorem run_append_ints (w : World) (ty : TypeId) (base : Nat) (v : Value) (l : List Int) (hD : Dst w base v l) (a : Option Addr) (c m : Nat) (k : List Int) (hm : m = k.length) (hR : RowC w a c k) (hlen : l.length + k.length ≤ 1000000) (hbase : base ≤ w.heap.size) :
    ∃ v' w', (Builtin.append_ #[22, 22] ty #[v, .slice a m c]).run Try.prog w = .ok v' w' ∧ Dst w' base v' (l ++ k) ∧ Below base w w' := by
  obtain ⟨i0, hi, hz0, hz1, hz2⟩ := info_parts iInt
  obtain ⟨h1, h2, h3, h4⟩ := hR
  subst hm
  by_cases hk : k.length = 0
  · obtain rfl : k = [] := List.length_eq_zero_iff.1 hk
    rw [List.append_nil]
    rcases hD with hD | ⟨rfl, ad, rfl⟩
    · cases a with
      | none =>
        have := h3 rfl
        subst this
        exact ⟨v, w, run_append_owned_none w base 22 ty 3 i0 1 Try.underlying22 hi v _ _ hD, .inl hD, Below.refl _ _⟩
      | some ad =>
        obtain ⟨v', w', r1, r2, r3, _⟩ := run_append_own (P := Try.prog) (w := w) base 22 ty 3 i0 (.int .i64 0) 1 8 Try.underlying22 hi hz0 hz1 hz2 rfl (by decide) v _ _ hD ad 0 c [] rfl (by intro j u hj; simp at hj) (by intro u hu; cases hu) (by unfold maxLen; omega) (by omega) hbase
        exact ⟨v', w', r1, .inl (by simpa using r2), (Below.refl _ w).grown r3 hbase (fun g hg => (hD.lt g hg).1)⟩
    · exact ⟨_, w, run_append_bare ad a c w ty h3, .inr ⟨rfl, ad, rfl⟩, Below.refl _ _⟩
  · obtain ⟨b, o, rfl, hb, hat⟩ := h4 (by omega)
    rcases hD with hD | ⟨rfl, ad, rfl⟩
    · obtain ⟨v', w', r1, r2, r3, _⟩ := run_append_own (P := Try.prog) (w := w) base 22 ty 3 i0 (.int .i64 0) 1 8 Try.underlying22 hi hz0 hz1 hz2 rfl (by decide) v _ _ hD ⟨b, o, none⟩ k.length c (P.ints k) (by simp [P.ints]) (cells_src hat) (P.ints_one k) (by unfold maxLen; omega) (by omega) hbase
      exact ⟨v', w', r1, .inl (by rw [P.ints_append, List.length_append]; exact r2), (Below.refl _ w).grown r3 hbase (fun g hg => (hD.lt g hg).1)⟩
    · rw [List.nil_append]
      cases ad with
      | none =>
        have hD : w.ownsRow base 3 1 (.slice none 0 0) 0 [] := World.ownsRow_nil _ _ _ _
        obtain ⟨v', w', r1, r2, r3, _⟩ := run_append_own (P := Try.prog) (w := w) base 22 ty 3 i0 (.int .i64 0) 1 8 Try.underlying22 hi hz0 hz1 hz2 rfl (by decide) _ _ _ hD ⟨b, o, none⟩ k.length c (P.ints k) (by simp [P.ints]) (cells_src hat) (P.ints_one k) (by unfold maxLen; omega) (by omega) hbase
        exact ⟨v', w', r1, .inl (by simpa using r2), (Below.refl _ w).grown r3 hbase (fun g hg => (hD.lt g hg).1)⟩
      | some ad =>
        obtain ⟨v', w', r1, r2, r3⟩ := run_append_arg_grows (P := Try.prog) (w := w) 22 ty 3 i0 (.int .i64 0) 1 8 Try.underlying22 hi hz0 hz1 hz2 rfl (by decide) ad 0 0 [] rfl (by intro j u hj; simp at hj) ⟨b, o, none⟩ k.length c (P.ints k) (by simp [P.ints]) (cells_src hat) (by omega) (by unfold maxLen; omega) (by omega)
        have r2 : w'.ownsRow w.heap.size 3 1 v' k.length (P.ints k) := by simpa using r2
        exact ⟨v', w', r1, .inl (r2.mono hbase), (Below.refl _ w).grown r3 hbase (fun g hg => by cases hg)⟩

theorem wpList_append_ints {w : World} {ops : Array Oper} {rest : List Oper} {o : Oper} {act : Act} {Q : Exit → Act → World → Prop} (hgd : o.guard = none) (s x : Operand)
    (ho : o.op = .call { callee := .builtin .append, args := #[s, x], argTypes := #[22, 22] })
    (base : Nat) (v : Value) (hs : act.eval s = v) (l : List Int) (hD : Dst w base v l) (a : Option Addr) (m c : Nat) (hx : act.eval x = .slice a m c) (k : List Int) (hm : m = k.length) (hR : RowC w a c k) (hlen : l.length + k.length ≤ 1000000) (hbase : base ≤ w.heap.size)
    (h : ∀ a' c' w', Dst w' base (.slice a' (l ++ k).length c') (l ++ k) → MineC w' base a' c' (l ++ k) → Below base w w' → wpList Try.prog ops Q rest (act.put o.dst (.slice a' (l ++ k).length c')) w') : wpList Try.prog ops Q (o :: rest) act w := by
  refine wpList_plain hgd fun K hK => ?_
  obtain ⟨v', w', hrun, r1, r2⟩ := run_append_ints w o.type base v l hD a c m k hm hR hlen hbase
  obtain ⟨a', c', rfl, r3⟩ := r1.mine
  unfold Oper.wp
  simp [execOp, ho, resolve, invoke, builtin, hs, hx, hrun, Result.andThen]
  have h4 := h a' c' w' r1 r3 r2
  rw [List.length_append] at h4
  exact hK _ _ h4
end Go.Proofs.Ytooophfmhohnmaa
