/- The landed order: rows of rows of one's own, family by family. -/
import Derived.Test.YtcihcdifjnobjaaLandC
set_option linter.unusedSimpArgs false
set_option linter.unusedVariables false
namespace Go.Proofs.Ytcihcdifjnobjaa
open Go.RowKit Go.Maps Go.Proofs.Ytcihcdifjnobjaa.Kind

namespace Kind
section
variable {Pr : Program} {α : Type} {K : Kind Pr α}
theorem slot_ne {j k n i i' : Nat} (hi : i < n) (hi' : i' < n) (h : j ≠ k) : j * n + i' ≠ k * n + i := by
  rcases Nat.lt_or_gt_of_ne h with h | h
  · have := Nat.mul_le_mul_right n (show j + 1 ≤ k from h)
    rw [Nat.add_mul] at this
    omega
  · have := Nat.mul_le_mul_right n (show k + 1 ≤ j from h)
    rw [Nat.add_mul] at this
    omega
theorem Loose.poke {w : World} {base : Nat} {a : Option Addr} {c : Nat} {l : List α} (h : K.Loose w base a c l) {k i : Nat} {x y : α} {v : Value} (hx : l[k]? = some x) (hi : i < K.k) (hy : K.enc y = (K.enc x).set i v) :
    ∃ g o, a = some ⟨g, o, none⟩ ∧ base ≤ g ∧ g < w.heap.size ∧ K.Loose (w.setCell ⟨g, o + k * K.k + i, none⟩ v) base a c (l.set k y) ∧ w.cell? ⟨g, o + k * K.k + i, none⟩ = (K.enc x)[i]? ∧ w.frozen? ⟨g, o + k * K.k + i, none⟩ = false := by
  have hk : k < l.length := (List.getElem?_eq_some_iff.1 hx).1
  have hc := h.1
  obtain ⟨g, o, rfl, h2, h3, h4, h5⟩ := h.2.2.2 (by omega)
  obtain ⟨u, hu⟩ : ∃ u, (K.enc x)[i]? = some u := ⟨_, List.getElem?_eq_getElem (by rw [K.hk]; exact hi)⟩
  have hcell := h5 k x hx i u hu
  have hin : k * K.k + i < c * K.k := by
    have := Nat.mul_le_mul_right K.k (show k + 1 ≤ c by omega)
    rw [Nat.add_mul] at this
    omega
  refine ⟨g, o, rfl, h2, h3, ⟨by simpa using h.1, h.2.1, h.2.2.1, fun _ => ⟨g, o, rfl, h2, by simpa using h3, fun j hj => ⟨?_, ?_⟩, ?_⟩⟩, by rw [hcell, hu], ?_⟩
  · by_cases e : j = k * K.k + i
    · subst e
      rw [← Nat.add_assoc, World.cell?_setCell_same _ _ _ hcell]
      rfl
    · rw [World.cell?_setCell_other _ _ _ _ (by intro e2; injection e2 with e3 e4 e5; omega)]
      exact (h4 j hj).1
  · rw [World.frozen?_setCell]
    exact (h4 j hj).2
  · intro j z hz i' u' hu'
    have hi' : i' < K.k := by have := (List.getElem?_eq_some_iff.1 hu').1; rwa [K.hk] at this
    rw [List.getElem?_set] at hz
    by_cases hjk : k = j
    · subst hjk
      rw [if_pos rfl, if_pos hk] at hz
      simp at hz
      subst hz
      rw [hy, List.getElem?_set] at hu'
      by_cases hii : i = i'
      · subst hii
        rw [if_pos rfl, K.hk, if_pos hi] at hu'
        rw [World.cell?_setCell_same _ _ _ hcell]
        exact hu'
      · rw [if_neg hii] at hu'
        rw [World.cell?_setCell_other _ _ _ _ (by intro e2; injection e2 with e3 e4 e5; omega)]
        exact h5 k x hx i' u' hu'
    · rw [if_neg hjk] at hz
      have hne := slot_ne hi hi' (fun e => hjk e.symm)
      rw [World.cell?_setCell_other _ _ _ _ (by intro e2; injection e2 with e3 e4 e5; omega)]
      exact h5 j z hz i' u' hu'
  · have := (h4 _ hin).2
    rwa [← Nat.add_assoc] at this
theorem Loose.mono {w : World} {base b2 : Nat} {a : Option Addr} {c : Nat} {l : List α} (h : K.Loose w base a c l) (hb : b2 ≤ base) : K.Loose w b2 a c l := ⟨h.1, h.2.1, h.2.2.1, fun hc => by
  obtain ⟨g, o, h1, h2, h3⟩ := h.2.2.2 hc
  exact ⟨g, o, h1, Nat.le_trans hb h2, h3⟩⟩
theorem Loose.lt {w : World} {base : Nat} {a : Option Addr} {c : Nat} {l : List α} (h : K.Loose w base a c l) (hc : 0 < c) {x : Addr} (e : a = some x) : base ≤ x.block ∧ x.block < w.heap.size := by
  obtain ⟨g, o, h1, h2, h3, _⟩ := h.2.2.2 hc
  rw [e] at h1
  injection h1 with h1
  subst h1
  exact ⟨h2, h3⟩
/-- At a step of a region that draws its order: append to a row of one's own, wherever it begins. -/
theorem step_append_loose (K : Kind Pr α) {w : World} {ops : Array Oper} {o : Oper} {act : Act} {K' : Act → World → Prop} {Q : Exit → Act → World → Prop} {E : Prop} (hgd : o.guard = none) (s x : Operand)
    (ho : o.op = .call { callee := .builtin .append, args := #[s, x], argTypes := #[K.S, K.S] })
    (base : Nat) (a : Option Addr) (n c : Nat) (hs : act.eval s = .slice a n c) (l : List α) (hn : n = l.length) (hD : K.Loose w base a c l) (b : Option Addr) (m d : Nat) (hx : act.eval x = .slice b m d) (k : List α) (hm : m = k.length) (hk : 0 < k.length) (hR : K.RowC w b d k) (hlen : l.length + k.length ≤ 4000000) (hbase : base ≤ w.heap.size)
    (L : List α) (hL : L = l ++ k)
    (h : ∀ a' c' w', K.Loose w' base a' c' L → (∃ row, w.grownBy w' row ∧ ∀ j, row = some j → base ≤ j ∧ 0 < c ∧ ∃ ad, a = some ad ∧ ad.block = j) → ((∃ g, a' = some ⟨g, 0, none⟩ ∧ w.heap.size ≤ g) ∨ (a' = a ∧ 0 < c)) → K' (act.put o.dst (.slice a' L.length c')) w') : if Region.wanted o (yielded ops act.tmps) = true then Oper.wp Pr o act w K' Q else E := by
  have hw : Region.wanted o (yielded ops act.tmps) = true := by simp [Region.wanted, hgd]
  rw [if_pos hw]
  obtain ⟨a', c', w', hrun, r1, r2, r3⟩ := run_append_loose w o.type base a c n l hn hD b d m k hm hk hR hlen hbase
  rw [← hL] at r1 hrun
  unfold Oper.wp
  simp [execOp, ho, resolve, invoke, builtin, hs, hx, hrun, Result.andThen]
  exact h a' c' w' r1 r2 r3
/-- A row that grew in its own block, or into a new one, lies apart from what it lay apart from. -/
theorem grown_same {w w' : World} {base b2 : Nat} {a : Option Addr} {c : Nat} {l : List α} (h : K.Loose w base a c l) {row : Option Nat} (hg : w.grownBy w' row) (hne : 0 < c → ∀ x, a = some x → row ≠ some x.block) : K.Loose w' base a c l := by
  by_cases hc : 0 < c
  · exact loose_same h hg.size (fun ad e => hg.block _ (h.lt hc e).2 (fun e2 => hne hc ad e e2.symm))
  · exact ⟨h.1, h.2.1, h.2.2.1, fun h0 => absurd h0 hc⟩
theorem set_same {w : World} {base : Nat} {a : Option Addr} {c : Nat} {l : List α} (h : K.Loose w base a c l) {p : Addr} (v : Value) (hne : 0 < c → ∀ x, a = some x → x.block ≠ p.block) : K.Loose (w.setCell p v) base a c l := by
  by_cases hc : 0 < c
  · exact loose_same h (by simp) (fun ad e => Below.heap_setCell _ _ _ _ (hne hc ad e))
  · exact ⟨h.1, h.2.1, h.2.2.1, fun h0 => absurd h0 hc⟩
end
end Kind

/-- A header. -/
structure Hv where
  a : Option Addr
  n : Nat
  c : Nat
  deriving Inhabited
def HK : Kind Try.prog Hv where
  enc := fun h => [.slice h.a h.n h.c]
  k := 1
  T := 49
  S := 42
  z := .slice none 0 0
  bytes := 24
  hk := fun _ => rfl
  h1 := by
    intro x v hv
    simp only [List.mem_cons, List.not_mem_nil, or_false] at hv
    rcases hv with rfl
    rfl
  hu := Try.underlying42
  hi := by kernel_rfl
  hz := rfl
  hk0 := by decide
  hb := by decide
/-- An address as a value of whatever type. -/
def Ad.any (x : Ad) : Value := .iface 27 (.agg #[.int .i8 x.f, .int .u16 x.g0, .int .u16 x.g1, .int .u16 x.g2, .int .u16 x.g3, .int .u16 x.g4, .int .u16 x.g5, .int .u16 x.g6, .int .u16 x.g7, .int .i64 x.p])
def PK : Kind Try.prog Ad where
  enc := fun x => [x.any]
  k := 1
  T := 20
  S := 49
  z := .nilIface
  bytes := 16
  hk := fun _ => rfl
  h1 := by
    intro x v hv
    simp only [List.mem_cons, List.not_mem_nil, or_false] at hv
    subst hv
    rfl
  hu := Try.underlying49
  hi := by kernel_rfl
  hz := rfl
  hk0 := by decide
  hb := by decide
theorem PK.one {w : World} {b o : Nat} {l : List Ad} (h : PK.At w b o l) {j : Nat} {x : Ad} (hx : l[j]? = some x) : w.cell? ⟨b, o + j, none⟩ = some x.any := by
  have h1 := h j x hx 0 _ rfl
  have e : o + j * PK.k + 0 = o + j := by show o + j * 1 + 0 = o + j; omega
  rwa [e] at h1
theorem HK.poke1 {w : World} {base : Nat} {a : Option Addr} {c : Nat} {l : List Hv} (h : HK.Loose w base a c l) {k : Nat} {x y : Hv} (hx : l[k]? = some x) :
    ∃ g o, a = some ⟨g, o, none⟩ ∧ base ≤ g ∧ g < w.heap.size ∧ HK.Loose (w.setCell ⟨g, o + k, none⟩ (.slice y.a y.n y.c)) base a c (l.set k y) ∧ w.cell? ⟨g, o + k, none⟩ = some (.slice x.a x.n x.c) ∧ w.frozen? ⟨g, o + k, none⟩ = false := by
  obtain ⟨g, o, h1, h2, h3, h4, h5, h6⟩ := h.poke (K := HK) (i := 0) (y := y) (v := .slice y.a y.n y.c) hx (by decide) rfl
  have e : o + k * HK.k + 0 = o + k := by show o + k * 1 + 0 = o + k; omega
  rw [e] at h4 h5 h6
  exact ⟨g, o, h1, h2, h3, h4, h5, h6⟩

/-- Rows of one's own, each apart, whose headers lie in a row of one's own apart from them. -/
structure Fams (w : World) (base : Nat) (a : Option Addr) (c : Nat) (hs : List Hv) (Q : List (List Ad)) : Prop where
  row : HK.Loose w base a c hs
  len : hs.length = Q.length
  el : ∀ (j : Nat) (h : Hv) (L : List Ad), hs[j]? = some h → Q[j]? = some L → h.n = L.length ∧ PK.Loose w base h.a h.c L
  ap : ∀ (j : Nat) (h : Hv), hs[j]? = some h → 0 < h.c → 0 < c → ∀ x y : Addr, h.a = some x → a = some y → x.block ≠ y.block
  two : ∀ (i j : Nat) (h k : Hv), i ≠ j → hs[i]? = some h → hs[j]? = some k → 0 < h.c → 0 < k.c → ∀ x y : Addr, h.a = some x → k.a = some y → x.block ≠ y.block
theorem fams_nil (w : World) (base : Nat) : Fams w base none 0 [] [] := ⟨loose_nil _ _, rfl, fun j h L hj => by simp at hj, fun j h hj => by simp at hj, fun i j h k _ hj => by simp at hj⟩
theorem Fams.below {w w' : World} {base : Nat} {a : Option Addr} {c : Nat} {hs : List Hv} {Q : List (List Ad)} (h : Fams w base a c hs Q) (hb : Below w.heap.size w w') : Fams w' base a c hs Q :=
  ⟨h.row.below hb, h.len, fun j x L hj hL => ⟨(h.el j x L hj hL).1, (h.el j x L hj hL).2.below hb⟩, h.ap, h.two⟩
theorem Fams.has {w : World} {base : Nat} {a : Option Addr} {c : Nat} {hs : List Hv} {Q : List (List Ad)} (h : Fams w base a c hs Q) {j : Nat} {L : List Ad} (hL : Q[j]? = some L) : ∃ x, hs[j]? = some x := by
  have h1 := (List.getElem?_eq_some_iff.1 hL).1
  have h2 := h.len
  exact ⟨_, List.getElem?_eq_getElem (by omega)⟩
/-- One more header, of nothing. -/
theorem Fams.more {w w' : World} {base : Nat} {a a3 : Option Addr} {c c3 : Nat} {hs : List Hv} {Q : List (List Ad)} (h : Fams w base a c hs Q) (hO : HK.Loose w' base a3 c3 (hs ++ [⟨none, 0, 0⟩]))
    (hG : ∃ row, w.grownBy w' row ∧ ∀ j, row = some j → base ≤ j ∧ 0 < c ∧ ∃ ad, a = some ad ∧ ad.block = j) (hP : (∃ g, a3 = some ⟨g, 0, none⟩ ∧ w.heap.size ≤ g) ∨ (a3 = a ∧ 0 < c)) : Fams w' base a3 c3 (hs ++ [⟨none, 0, 0⟩]) (Q ++ [[]]) := by
  obtain ⟨row, hg, hr⟩ := hG
  have hin : ∀ (j : Nat) (x : Hv), (hs ++ [⟨none, 0, 0⟩])[j]? = some x → (j < hs.length ∧ hs[j]? = some x) ∨ (j = hs.length ∧ x = ⟨none, 0, 0⟩) := fun j x hj => by
    by_cases hlt : j < hs.length
    · rw [List.getElem?_append_left hlt] at hj
      exact .inl ⟨hlt, hj⟩
    · rw [List.getElem?_append_right (by omega)] at hj
      obtain ⟨h1, h2⟩ := List.getElem?_eq_some_iff.1 hj
      have h3 : j - hs.length = 0 := by simp at h1; omega
      refine .inr ⟨by omega, ?_⟩
      rw [← h2]
      simp [h3]
  refine ⟨hO, by simp [h.len], fun j x L hj hL => ?_, fun j x hj hc hc3 p q hp hq => ?_, fun i j x y hij hi hj hcx hcy p q hp hq => ?_⟩
  · rcases hin j x hj with ⟨h1, h2⟩ | ⟨h1, rfl⟩
    · rw [List.getElem?_append_left (by rw [← h.len]; exact h1)] at hL
      obtain ⟨e1, e2⟩ := h.el j x L h2 hL
      refine ⟨e1, grown_same (b2 := base) e2 hg (fun hc p hp e => ?_)⟩
      obtain ⟨_, hc1, ad, ha, hb⟩ := hr _ e
      exact h.ap j x h2 hc hc1 p ad hp ha hb.symm
    · rw [List.getElem?_append_right (by rw [← h.len]; omega)] at hL
      obtain ⟨h3, h4⟩ := List.getElem?_eq_some_iff.1 hL
      have h5 : j - Q.length = 0 := by simp at h3; omega
      have h6 : L = [] := by rw [← h4]; simp [h5]
      subst h6
      exact ⟨rfl, loose_nil _ _⟩
  · rcases hin j x hj with ⟨h1, h2⟩ | ⟨h1, rfl⟩
    · rcases hP with ⟨g, e2, hg2⟩ | ⟨e2, hc1⟩
      · obtain ⟨L, hL⟩ : ∃ L, Q[j]? = some L := ⟨_, List.getElem?_eq_getElem (by rw [← h.len]; exact h1)⟩
        have h3 := ((h.el j x L h2 hL).2.lt hc hp).2
        rw [e2] at hq
        injection hq with hq
        subst hq
        show p.block ≠ g
        omega
      · rw [e2] at hq
        exact h.ap j x h2 hc hc1 p q hp hq
    · cases hp
  · rcases hin i x hi with ⟨h1, h2⟩ | ⟨h1, rfl⟩
    · rcases hin j y hj with ⟨h3, h4⟩ | ⟨h3, rfl⟩
      · exact h.two i j x y hij h2 h4 hcx hcy p q hp hq
      · cases hq
    · cases hp
/-- One row has grown, and its header tells so. -/
theorem Fams.put {W W' w5 : World} {base : Nat} {a a5 : Option Addr} {c c5 : Nat} {hs : List Hv} {Q : List (List Ad)} (h : Fams W base a c hs Q) (hW : Below W.heap.size W W') {j : Nat} {x : Hv} {L M : List Ad} (hj : hs[j]? = some x) (hL : Q[j]? = some L)
    (hO : PK.Loose w5 base a5 c5 M) (hG : ∃ row, W'.grownBy w5 row ∧ ∀ j, row = some j → base ≤ j ∧ 0 < x.c ∧ ∃ ad, x.a = some ad ∧ ad.block = j) (hP : (∃ g, a5 = some ⟨g, 0, none⟩ ∧ W'.heap.size ≤ g) ∨ (a5 = x.a ∧ 0 < x.c)) :
    ∃ g o, a = some ⟨g, o, none⟩ ∧ base ≤ g ∧ g < W.heap.size ∧ w5.cell? ⟨g, o + j, none⟩ = some (.slice x.a x.n x.c) ∧ w5.frozen? ⟨g, o + j, none⟩ = false ∧ Fams (w5.setCell ⟨g, o + j, none⟩ (.slice a5 M.length c5)) base a c (hs.set j ⟨a5, M.length, c5⟩) (Q.set j M) := by
  obtain ⟨row, hg, hr⟩ := hG
  have h' := h.below hW
  have hjl : j < hs.length := (List.getElem?_eq_some_iff.1 hj).1
  have hc : 0 < c := by have := h.row.1; omega
  have hr5 : HK.Loose w5 base a c hs := grown_same (b2 := base) h'.row hg (fun _ p hp e => by
    obtain ⟨_, hc1, ad, e2, e3⟩ := hr _ e
    exact h.ap j x hj hc1 hc ad p e2 hp e3)
  obtain ⟨g, o, e1, e2, e3, e4, e5, e6⟩ := HK.poke1 hr5 (y := ⟨a5, M.length, c5⟩) hj
  have hgW : g < W.heap.size := (h.row.lt hc e1).2
  have hset : ∀ (i : Nat) (y : Hv), (hs.set j ⟨a5, M.length, c5⟩)[i]? = some y → (i ≠ j ∧ hs[i]? = some y) ∨ (i = j ∧ y = ⟨a5, M.length, c5⟩) := fun i y hi => by
    rw [List.getElem?_set] at hi
    by_cases e : j = i
    · subst e
      rw [if_pos rfl, if_pos hjl] at hi
      exact .inr ⟨rfl, (Option.some.inj hi).symm⟩
    · rw [if_neg e] at hi
      exact .inl ⟨fun e2 => e e2.symm, hi⟩
  have h5 : ∀ (i : Nat) (y : Hv) (N : List Ad), i ≠ j → hs[i]? = some y → Q[i]? = some N → PK.Loose w5 base y.a y.c N := fun i y N hij hi hN => grown_same (b2 := base) (h'.el i y N hi hN).2 hg (fun hcy p hp e => by
    obtain ⟨_, hc1, ad, e2, e3⟩ := hr _ e
    exact h.two i j y x hij hi hj hcy hc1 p ad hp e2 e3.symm)
  have hnew : 0 < c5 → ∀ p q : Addr, a5 = some p → a = some q → p.block ≠ q.block := fun h5c p q hp hq => by
    rcases hP with ⟨g2, e7, e8⟩ | ⟨e7, hc1⟩
    · rw [e7] at hp
      injection hp with hp
      subst hp
      have := (h'.row.lt hc hq).2
      show g2 ≠ _
      omega
    · rw [e7] at hp
      exact h.ap j x hj hc1 hc p q hp hq
  have hold : 0 < c5 → ∀ (i : Nat) (y : Hv) (N : List Ad), i ≠ j → hs[i]? = some y → Q[i]? = some N → 0 < y.c → ∀ p q : Addr, a5 = some p → y.a = some q → p.block ≠ q.block := fun h5c i y N hij hi hN hcy p q hp hq => by
    rcases hP with ⟨g2, e7, e8⟩ | ⟨e7, hc1⟩
    · rw [e7] at hp
      injection hp with hp
      subst hp
      have := ((h'.el i y N hi hN).2.lt hcy hq).2
      show g2 ≠ _
      omega
    · rw [e7] at hp
      exact h.two j i x y (fun e => hij e.symm) hj hi hc1 hcy p q hp hq
  have hQ : ∀ (i : Nat) (y : Hv), hs[i]? = some y → ∃ N, Q[i]? = some N := fun i y hi => ⟨_, List.getElem?_eq_getElem (by rw [← h.len]; exact (List.getElem?_eq_some_iff.1 hi).1)⟩
  refine ⟨g, o, e1, e2, hgW, e5, e6, ⟨e4, by simp [h.len], fun i y N hi hN => ?_, fun i y hi hcy _ p q hp hq => ?_, fun i k y z hik hi hk hcy hcz p q hp hq => ?_⟩⟩
  · rcases hset i y hi with ⟨h1, h2⟩ | ⟨rfl, rfl⟩
    · rw [List.getElem?_set, if_neg (fun e => h1 e.symm)] at hN
      refine ⟨(h.el i y N h2 hN).1, set_same (h5 i y N h1 h2 hN) _ (fun hcy p hp => ?_)⟩
      exact h.ap i y h2 hcy hc p ⟨g, o, none⟩ hp e1
    · rw [List.getElem?_set, if_pos rfl, if_pos (List.getElem?_eq_some_iff.1 hL).1] at hN
      obtain rfl := Option.some.inj hN
      exact ⟨rfl, set_same hO _ (fun hcy p hp => hnew hcy p ⟨g, o, none⟩ hp e1)⟩
  · rcases hset i y hi with ⟨h1, h2⟩ | ⟨rfl, rfl⟩
    · exact h.ap i y h2 hcy hc p q hp hq
    · exact hnew hcy p q hp hq
  · rcases hset i y hi with ⟨h1, h2⟩ | ⟨rfl, rfl⟩
    · rcases hset k z hk with ⟨h3, h4⟩ | ⟨rfl, rfl⟩
      · exact h.two i k y z hik h2 h4 hcy hcz p q hp hq
      · obtain ⟨N, hN⟩ := hQ i y h2
        exact fun e => hold hcz i y N h1 h2 hN hcy q p hq hp e.symm
    · rcases hset k z hk with ⟨h3, h4⟩ | ⟨h3, h4⟩
      · obtain ⟨N, hN⟩ := hQ k z h4
        exact hold hcy k z N h3 h4 hN hcz p q hp hq
      · exact absurd h3.symm hik

/-! Lists alone: families. -/
theorem kinds_snoc (l : List Ad) (x : Ad) : Turn.kinds famA (l ++ [x]) = if x.f ∈ Turn.kinds famA l then Turn.kinds famA l else Turn.kinds famA l ++ [x.f] := by
  unfold Turn.kinds
  rw [List.map_append]
  exact Turn.once_snoc _ _
def fams (l : List Ad) : List (List Ad) := (Turn.kinds famA l).map (Turn.fq famA l)
theorem fams_len (l : List Ad) : (fams l).length = (Turn.kinds famA l).length := by unfold fams; simp
theorem fq_snoc (l : List Ad) (x : Ad) (f : Int) : Turn.fq famA (l ++ [x]) f = Turn.fq famA l f ++ (if x.f = f then [x] else []) := by
  unfold Turn.fq
  rw [List.filter_append]
  congr 1
  by_cases e : x.f = f <;> simp [Turn.inF, famA, e]
theorem fams_at {l : List Ad} {x : Ad} (h : x.f ∈ Turn.kinds famA l) : (fams l)[(Turn.kinds famA l).idxOf x.f]? = some (Turn.fq famA l x.f) := by
  have h1 := List.idxOf_lt_length_of_mem h
  unfold fams
  rw [List.getElem?_map, List.getElem?_eq_getElem h1]
  simp
theorem fams_old {l : List Ad} {x : Ad} (h : x.f ∈ Turn.kinds famA l) : fams (l ++ [x]) = (fams l).set ((Turn.kinds famA l).idxOf x.f) (Turn.fq famA l x.f ++ [x]) := by
  have h1 := List.idxOf_lt_length_of_mem h
  have hn : (Turn.kinds famA l).Nodup := Turn.once_nodup _
  unfold fams
  rw [kinds_snoc, if_pos h]
  apply List.ext_getElem?
  intro j
  rw [List.getElem?_map, List.getElem?_set, List.getElem?_map, List.length_map]
  by_cases e : (Turn.kinds famA l).idxOf x.f = j
  · rw [if_pos e, if_pos (by omega), ← e, List.getElem?_eq_getElem h1, Option.map_some, List.getElem_idxOf h1, fq_snoc, if_pos rfl]
  · rw [if_neg e]
    cases hg : (Turn.kinds famA l)[j]? with
    | none => rfl
    | some f =>
      rw [Option.map_some, Option.map_some, fq_snoc, if_neg, List.append_nil]
      intro e2
      obtain ⟨hj, e3⟩ := List.getElem?_eq_some_iff.1 hg
      apply e
      rw [e2, ← e3]
      exact hn.idxOf_getElem j hj
theorem fams_new {l : List Ad} {x : Ad} (h : x.f ∉ Turn.kinds famA l) : fams (l ++ [x]) = (fams l ++ [[]]).set (fams l).length [x] := by
  have h0 : Turn.fq famA l x.f = [] := by
    unfold Turn.fq
    rw [List.filter_eq_nil_iff]
    intro y hy e
    exact h (Turn.mem_kinds.2 ⟨y, hy, by simpa [Turn.inF] using e⟩)
  have e1 : fams (l ++ [x]) = (Turn.kinds famA l).map (Turn.fq famA (l ++ [x])) ++ [Turn.fq famA (l ++ [x]) x.f] := by
    unfold fams
    rw [kinds_snoc, if_neg h, List.map_append]; rfl
  have e2 : (Turn.kinds famA l).map (Turn.fq famA (l ++ [x])) = fams l := by
    unfold fams
    refine List.map_congr_left fun f hf => ?_
    rw [fq_snoc, if_neg (by intro e; rw [e] at h; exact h hf), List.append_nil]
  rw [e1, e2, fq_snoc, h0, if_pos rfl]
  simp
/-- The map knows which family is where. -/
def FamTo (K : List Int) (D : DataW Unit) : Prop := ∀ f : Int, -128 ≤ f ∧ f ≤ 127 → Maps.has D (.int .i8 f) = decide (f ∈ K) ∧ D.atKey (.int .i8 f) (.lit (.int .i64 0)) = .lit (.int .i64 (if f ∈ K then (K.idxOf f : Nat) else 0 : Int))
theorem famTo_nil : FamTo [] (.map []) := fun f _ => ⟨by simp [Maps.has], by simp [DataW.atKey]⟩
theorem famTo_put {K : List Int} {D : DataW Unit} {f : Int} (h : FamTo K D) (hD : Maps.IsMap D) (hn : f ∉ K) : FamTo (K ++ [f]) (D.put (.int .i8 f) (.lit (.int .i64 (K.length : Int)))) := by
  have hkl : WideAt.IsKeyLit (.int .i8 f) := by simp [WideAt.IsKeyLit]
  intro g hg
  by_cases e : f = g
  · subst e
    refine ⟨by rw [has_put_same hD hkl]; simp, ?_⟩
    rw [atKey_put_same hD hkl, if_pos (by simp), List.idxOf_append, if_neg hn]
    simp
  · have hne : (Lit.int .i8 g) ≠ .int .i8 f := fun e2 => e (by injection e2 with _ e3; exact e3.symm)
    have hm : g ∈ K ++ [f] ↔ g ∈ K := by
      rw [List.mem_append, List.mem_singleton]
      exact ⟨fun h => h.resolve_right (fun e2 => e e2.symm), .inl⟩
    rw [has_put_other hne, atKey_put_other hne]
    obtain ⟨h1, h2⟩ := h g hg
    refine ⟨by rw [h1]; exact decide_eq_decide.2 hm.symm, ?_⟩
    rw [h2]
    by_cases hgk : g ∈ K
    · rw [if_pos hgk, if_pos (hm.2 hgk), List.idxOf_append, if_pos hgk]
    · rw [if_neg hgk, if_neg (fun h => hgk (hm.1 h))]
/-- A look whose answer is known. -/
theorem wpList_look_at (w : World) {ops : Array Oper} {rest : List Oper} {o : Oper} {a : Act} {Q : Exit → Act → World → Prop} (hg : o.guard = none) (m x : Operand) (t : TypeId) (hop : o.op = Op.lookup t m x true)
    (k e : TypeId) (K : Keyed Try.prog k) (ht : Try.prog.underlying t = some (.map k e)) (hz : (zeroValue e).run Try.prog w = .ok (.int .i64 0) w) (b n : Nat) (D : DataW Unit)
    (hm : a.eval m = .map (some b)) (hown : w.ownsMap Try.prog k rawI b n D) (key : Value) (kl : Lit) (hx : a.eval x = key) (hkey : keyOf Try.prog k key = some kl) (c : Int) (r : Bool) (hat : D.atKey kl (.lit (.int .i64 0)) = .lit (.int .i64 c)) (hr : Maps.has D kl = r)
    (hK : wpList Try.prog ops Q rest (a.put o.dst (.tuple #[.int .i64 c, .bool r])) w) :
    wpList Try.prog ops Q (o :: rest) a w :=
  wpList_lookup_own_ok w hg m x t hop k e K ht rawI hz (.lit (.int .i64 0)) [] rfl b n D hm hown key kl hx hkey (fun v ps hv => by
    obtain ⟨c', rfl, hc⟩ := rawI_inv hv
    have h1 := hat.symm.trans (congrArg Prod.fst hc)
    injection h1 with h1
    injection h1 with _ h1
    rw [hr, ← h1]
    exact hK)
end Go.Proofs.Ytcihcdifjnobjaa
