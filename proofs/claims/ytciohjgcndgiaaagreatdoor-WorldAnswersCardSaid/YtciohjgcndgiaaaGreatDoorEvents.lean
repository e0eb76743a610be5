/- Sockets and a record that go together, as plain data; what follows of it. Nothing here runs the program. -/
import Derived.Test.YtciohjgcndgiaaaGreatDoorPure
set_option linter.unusedSimpArgs false
set_option linter.unusedVariables false
namespace Go.Proofs.YtciohjgcndgiaaaGreatDoor

instance (o : Option Int) (t : Int) : Decidable (∃ p, o = some p ∧ t < p) := match o with
  | none => isFalse (fun ⟨_, h, _⟩ => by cases h)
  | some p => if h : t < p then isTrue ⟨p, rfl, h⟩ else isFalse (fun ⟨q, h1, h2⟩ => by cases h1; exact h h2)
def stepG (ops : List Int) (st : Nat × Option Int) (m : Nk) : Option (Nat × Option Int) :=
  if (∃ p, st.2 = some p ∧ m.at_ < p) then none
  else if m.shut = true then (if 0 ≤ m.sock ∧ m.sock < (st.1 : Int) then some (st.1, some m.at_) else none)
  else if m.sock = (st.1 : Int) ∧ ops[st.1]? = some m.at_ then some (st.1 + 1, some m.at_) else none
def runG (ops : List Int) : List Nk → Nat × Option Int → Option (Nat × Option Int)
  | [], st => some st
  | m :: M, st => (stepG ops st m).bind (runG ops M)
def shutsOf (M : List Nk) (k : Nat) : Nat := M.countP (fun m => m.shut && decide (m.sock = (k : Int)))
def opensOf (M : List Nk) : Nat := M.countP (fun m => !m.shut)
def opsOf (S : List Sk) : List Int := S.map (fun s => s.opened)
def goesB (S : List Sk) (M : List Nk) : Bool := (match runG (opsOf S) M (0, none) with | some st => decide (st.1 = S.length) | none => false) && (List.range S.length).all (fun k => match S[k]? with | some x => decide (x.shut = (shutsOf M k : Int)) | none => true)
theorem goesB_iff {S : List Sk} {M : List Nk} : goesB S M = true ↔ (∃ p, runG (opsOf S) M (0, none) = some (S.length, p)) ∧ ∀ (k : Nat) (x : Sk), S[k]? = some x → x.shut = (shutsOf M k : Int) := by
  unfold goesB
  rw [Bool.and_eq_true, List.all_eq_true]
  apply and_congr
  · cases h : runG (opsOf S) M (0, none) with
    | none => simp
    | some st =>
      obtain ⟨a, b⟩ := st
      simp
  · constructor
    · intro h k x hx
      have := h k (List.mem_range.2 (List.getElem?_eq_some_iff.1 hx).1)
      rw [hx] at this
      simpa using this
    · intro h k hk
      cases hx : S[k]? with
      | none => rfl
      | some x => simpa using h k x hx
theorem runG_append (ops : List Int) : ∀ (A B : List Nk) (st : Nat × Option Int), runG ops (A ++ B) st = (runG ops A st).bind (runG ops B)
  | [], B, st => rfl
  | m :: A, B, st => by
    rw [List.cons_append]
    unfold runG
    cases stepG ops st m with
    | none => rfl
    | some s2 => exact runG_append ops A B s2
theorem stepG_more {ops : List Int} {st st' : Nat × Option Int} {m : Nk} (h : stepG ops st m = some st') (e : List Int) : stepG (ops ++ e) st m = some st' := by
  unfold stepG at h ⊢
  split at h
  · cases h
  · rename_i h0
    rw [if_neg h0]
    split at h
    · rename_i h1
      rw [if_pos h1]
      exact h
    · rename_i h1
      rw [if_neg h1]
      split at h
      · rename_i h2
        have hlt := (List.getElem?_eq_some_iff.1 h2.2).1
        rw [if_pos ⟨h2.1, by rw [List.getElem?_append_left hlt]; exact h2.2⟩]
        exact h
      · cases h
theorem runG_more {ops : List Int} (e : List Int) : ∀ {M : List Nk} {st st' : Nat × Option Int}, runG ops M st = some st' → runG (ops ++ e) M st = some st'
  | [], _, _, h => h
  | m :: M, st, st', h => by
    unfold runG at h ⊢
    cases hs : stepG ops st m with
    | none => rw [hs] at h; cases h
    | some s2 =>
      rw [hs] at h
      rw [stepG_more hs e]
      exact runG_more e h
/-- How many were opened. -/
theorem stepG_opens {ops : List Int} {st st' : Nat × Option Int} {m : Nk} (h : stepG ops st m = some st') : st'.1 = st.1 + (if m.shut then 0 else 1) ∧ st'.2 = some m.at_ ∧ (m.shut = true → 0 ≤ m.sock ∧ m.sock < (st.1 : Int)) := by
  unfold stepG at h
  split at h
  · cases h
  · split at h
    · rename_i h1
      split at h
      · rename_i h2
        cases h
        simp [h1, h2]
      · cases h
    · rename_i h1
      split at h
      · cases h
        simp [h1]
      · cases h
theorem runG_last {ops : List Int} : ∀ {M : List Nk} {o : Nat} {p : Option Int}, runG ops M (0, none) = some (o, p) → ∀ q, p = some q → ∃ m ∈ M, m.at_ = q := by
  have key : ∀ {M : List Nk} {st st' : Nat × Option Int}, runG ops M st = some st' → (M = [] ∧ st' = st) ∨ ∃ m ∈ M, st'.2 = some m.at_ := by
    intro M
    induction M with
    | nil => intro st st' h; cases h; exact .inl ⟨rfl, rfl⟩
    | cons m M ih =>
      intro st st' h
      unfold runG at h
      cases hs : stepG ops st m with
      | none => rw [hs] at h; cases h
      | some s2 =>
        rw [hs] at h
        rcases ih h with ⟨rfl, rfl⟩ | ⟨x, hx, e⟩
        · exact .inr ⟨m, by simp, (stepG_opens hs).2.1⟩
        · exact .inr ⟨x, by simp [hx], e⟩
  intro M o p h q hq
  rcases key h with ⟨rfl, e⟩ | ⟨x, hx, e⟩
  · cases e
    cases hq
  · refine ⟨x, hx, ?_⟩
    dsimp only at e
    rw [hq] at e
    exact (Option.some.inj e).symm
theorem runG_opens {ops : List Int} : ∀ {M : List Nk} {st st' : Nat × Option Int}, runG ops M st = some st' → st'.1 = st.1 + opensOf M ∧ (∀ m ∈ M, m.shut = true → 0 ≤ m.sock ∧ m.sock < (st'.1 : Int))
  | [], st, st', h => by
    cases h
    simp [opensOf]
  | m :: M, st, st', h => by
    unfold runG at h
    cases hs : stepG ops st m with
    | none => rw [hs] at h; cases h
    | some s2 =>
      rw [hs] at h
      obtain ⟨h1, h2⟩ := runG_opens (M := M) h
      obtain ⟨h3, _, h4⟩ := stepG_opens hs
      have e : opensOf (m :: M) = opensOf M + (if m.shut then 0 else 1) := by
        unfold opensOf
        rw [List.countP_cons]
        cases m.shut <;> simp
      refine ⟨by rw [e]; omega, fun x hx hsx => ?_⟩
      rcases List.mem_cons.1 hx with rfl | hx
      · have := h4 hsx
        omega
      · exact h2 x hx hsx
theorem opensOf_append (A B : List Nk) : opensOf (A ++ B) = opensOf A + opensOf B := by simp [opensOf]
theorem shutsOf_append (A B : List Nk) (k : Nat) : shutsOf (A ++ B) k = shutsOf A k + shutsOf B k := by simp [shutsOf]

/-- Of a record that goes together with its sockets one taken away, or put twice, does not. -/
theorem goes_count {S : List Sk} {M N : List Nk} (h : goesB S M = true) (h2 : goesB S N = true) : opensOf M = opensOf N ∧ ∀ k, k < S.length → shutsOf M k = shutsOf N k := by
  obtain ⟨⟨p, h3⟩, h4⟩ := goesB_iff.1 h
  obtain ⟨⟨q, h5⟩, h6⟩ := goesB_iff.1 h2
  have e1 := (runG_opens h3).1
  have e2 := (runG_opens h5).1
  simp only [Nat.zero_add] at e1 e2
  refine ⟨by omega, fun k hk => ?_⟩
  have e3 := h4 k _ (List.getElem?_eq_getElem hk)
  have e4 := h6 k _ (List.getElem?_eq_getElem hk)
  omega
theorem goes_less {S : List Sk} {A B : List Nk} {m : Nk} (h : goesB S (A ++ m :: B) = true) : goesB S (A ++ B) = false := by
  cases h2 : goesB S (A ++ B) with
  | false => rfl
  | true =>
    obtain ⟨h3, h4⟩ := goes_count h h2
    obtain ⟨⟨p, h5⟩, _⟩ := goesB_iff.1 h
    have h6 := (runG_opens h5).2 m (by simp)
    rw [opensOf_append, opensOf_append] at h3
    unfold opensOf at h3
    rw [List.countP_cons] at h3
    cases hs : m.shut with
    | false => rw [hs] at h3; simp at h3
    | true =>
      obtain ⟨h7, h8⟩ := h6 hs
      have h9 := h4 m.sock.toNat (by omega)
      rw [shutsOf_append, shutsOf_append] at h9
      unfold shutsOf at h9
      rw [List.countP_cons, hs] at h9
      have : m.sock = (m.sock.toNat : Int) := by omega
      simp [← this] at h9
theorem goes_more {S : List Sk} {A B : List Nk} {m : Nk} (h : goesB S (A ++ m :: B) = true) : goesB S (A ++ m :: m :: B) = false := by
  cases h2 : goesB S (A ++ m :: m :: B) with
  | false => rfl
  | true =>
    have h3 := goes_less (A := A ++ [m]) (B := B) (m := m) (S := S) (by simpa using h2)
    rw [show A ++ [m] ++ B = A ++ m :: B by simp, h] at h3
    cases h3

/-- Which of the first k are such. -/
def selT (f : Sk → Bool) (S : List Sk) (k : Nat) : List Int := (List.range k).filterMap (fun (j : Nat) => match S[j]? with | some x => if f x = true then some (j : Int) else none | none => none)
def isOpen (x : Sk) : Bool := decide (x.shut = 0)
def isTwice (x : Sk) : Bool := decide (1 < x.shut)
def liveP (S : List Sk) : List Int := selT isOpen S S.length
def twiceP (S : List Sk) : List Int := selT isTwice S S.length
def openP (S : List Sk) (n : Int) : Bool := if n < 0 then false else match S[n.toNat]? with | some x => isOpen x | none => false
theorem selT_succ {f : Sk → Bool} {S : List Sk} {k : Nat} {x : Sk} (h : S[k]? = some x) : selT f S (k + 1) = selT f S k ++ (if f x = true then [(k : Int)] else []) := by
  unfold selT
  rw [List.range_succ, List.filterMap_append]
  congr 1
  simp only [List.filterMap_cons, List.filterMap_nil, h]
  by_cases hf : f x = true
  · simp [hf]
  · simp [hf]
theorem selT_le (f : Sk → Bool) (S : List Sk) {k n : Nat} (h : k ≤ n) : ∃ r, selT f S n = selT f S k ++ r := by
  obtain ⟨d, rfl⟩ : ∃ d, n = k + d := ⟨n - k, by omega⟩
  unfold selT
  rw [List.range_add, List.filterMap_append]
  exact ⟨_, rfl⟩
theorem selT_length (f : Sk → Bool) (S : List Sk) : ∀ k, k ≤ S.length → (selT f S k).length = (S.take k).countP f
  | 0, _ => by simp [selT]
  | k + 1, h => by
    obtain ⟨x, hx⟩ : ∃ x, S[k]? = some x := ⟨_, List.getElem?_eq_getElem (by omega)⟩
    rw [selT_succ hx, List.length_append, selT_length f S k (by omega), List.take_add_one, hx, List.countP_append]
    congr 1
    by_cases hf : f x = true <;> simp [hf]
theorem selT_bound (f : Sk → Bool) (S : List Sk) (k : Nat) (hk : k ≤ S.length) : (selT f S k).length ≤ k := by
  rw [selT_length f S k hk]
  exact Nat.le_trans List.countP_le_length (by simp; omega)
theorem live_length (S : List Sk) : (liveP S).length = S.countP isOpen := by
  unfold liveP
  rw [selT_length _ _ _ (Nat.le_refl _), List.take_length]
theorem sel_mem {f : Sk → Bool} {S : List Sk} {k : Nat} {n : Int} (h : n ∈ selT f S k) : ∃ (j : Nat) (x : Sk), n = j ∧ S[j]? = some x ∧ f x = true := by
  unfold selT at h
  obtain ⟨j, _, hj⟩ := List.mem_filterMap.1 h
  cases hx : S[j]? with
  | none => rw [hx] at hj; cases hj
  | some x =>
    rw [hx] at hj
    dsimp only at hj
    split at hj
    · cases hj
      exact ⟨j, x, rfl, hx, by assumption⟩
    · cases hj
/-- Whether the place at which one reads on is this one. -/
theorem sel_at {f : Sk → Bool} {S : List Sk} {i : Nat} {x : Sk} (hx : S[i]? = some x) (L : List Int) (hL : L = selT f S S.length) : (f x = true → L[(selT f S i).length]? = some (i : Int)) ∧ (f x = false → ∀ n, L[(selT f S i).length]? = some n → n ≠ (i : Int)) := by
  have hlt := (List.getElem?_eq_some_iff.1 hx).1
  obtain ⟨r, hr⟩ := selT_le f S (k := i + 1) (n := S.length) hlt
  rw [selT_succ hx] at hr
  subst hL
  constructor
  · intro hf
    rw [hr, if_pos hf]
    simp
  · intro hf n hn e
    subst e
    have hm := List.mem_of_getElem? hn
    obtain ⟨j, y, e, hy, hfy⟩ := sel_mem hm
    obtain rfl : i = j := by omega
    rw [hx] at hy
    cases hy
    rw [hf] at hfy
    cases hfy
theorem two_bound (S : List Sk) : (liveP S).length + (twiceP S).length ≤ S.length := by
  unfold liveP twiceP
  rw [selT_length _ _ _ (Nat.le_refl _), selT_length _ _ _ (Nat.le_refl _), List.take_length]
  induction S with
  | nil => simp
  | cons x S ih =>
    simp only [List.countP_cons, List.length_cons]
    have : (if isOpen x = true then 1 else 0) + (if isTwice x = true then 1 else 0) ≤ 1 := by
      unfold isOpen isTwice
      by_cases h1 : x.shut = 0
      · simp [h1]
      · by_cases h2 : 1 < x.shut
        · simp [h1, h2]
        · simp [h1, h2]
    omega

/-- What is carried from act to act. -/
def skNew (a : Ad) (y t : Int) : Sk := ⟨a, y, t, 0, false⟩
theorem goes_open {S : List Sk} {M : List Nk} (h : goesB S M = true) (a : Ad) (y t : Int) (ht : ∀ m ∈ M, m.at_ ≤ t) : goesB (S ++ [skNew a y t]) (M ++ [⟨false, S.length, t⟩]) = true := by
  obtain ⟨⟨p, h1⟩, h2⟩ := goesB_iff.1 h
  refine goesB_iff.2 ⟨?_, fun k x hx => ?_⟩
  · have e : opsOf (S ++ [skNew a y t]) = opsOf S ++ [t] := by simp [opsOf, skNew]
    have hp := runG_last h1
    rw [e, runG_append, runG_more [t] h1]
    refine ⟨some t, ?_⟩
    show (stepG (opsOf S ++ [t]) (S.length, p) ⟨false, S.length, t⟩).bind _ = _
    have hl : (opsOf S).length = S.length := by simp [opsOf]
    have h3 : stepG (opsOf S ++ [t]) (S.length, p) ⟨false, S.length, t⟩ = some (S.length + 1, some t) := by
      unfold stepG
      rw [if_neg (fun ⟨q, e1, e2⟩ => by
        dsimp only at e1 e2
        have := hp q e1
        obtain ⟨m, hm, e3⟩ := this
        have := ht m hm
        omega), if_neg (by simp), if_pos ⟨rfl, by rw [List.getElem?_append_right (by omega), hl, Nat.sub_self]; rfl⟩]
    rw [h3]
    simp [runG]
  · rw [shutsOf_append]
    have e0 : shutsOf [⟨false, S.length, t⟩] k = 0 := by simp [shutsOf]
    rw [e0, Nat.add_zero]
    by_cases hk : k < S.length
    · rw [List.getElem?_append_left hk] at hx
      exact h2 k x hx
    · have hk2 : k = S.length := by have := (List.getElem?_eq_some_iff.1 hx).1; simp at this; omega
      subst hk2
      rw [List.getElem?_append_right (Nat.le_refl _), Nat.sub_self] at hx
      cases hx
      have hz : shutsOf M S.length = 0 := by
        unfold shutsOf
        rw [List.countP_eq_zero]
        intro m hm hc
        simp at hc
        have := (runG_opens h1).2 m hm hc.1
        simp only at this
        omega
      rw [hz]
      rfl
theorem goes_shut {S : List Sk} {M : List Nk} (h : goesB S M = true) (n : Nat) (x : Sk) (hx : S[n]? = some x) (t : Int) (ht : ∀ m ∈ M, m.at_ ≤ t) : goesB (S.set n { x with shut := x.shut + 1 }) (M ++ [⟨true, n, t⟩]) = true := by
  obtain ⟨⟨p, h1⟩, h2⟩ := goesB_iff.1 h
  have hn := (List.getElem?_eq_some_iff.1 hx).1
  have e : opsOf (S.set n { x with shut := x.shut + 1 }) = opsOf S := by
    unfold opsOf
    rw [List.map_set]
    apply List.ext_getElem?
    intro j
    by_cases hj : n = j
    · subst hj
      rw [List.getElem?_set_self (by simpa using hn)]
      simp [hx]
    · rw [List.getElem?_set_ne hj]
  refine goesB_iff.2 ⟨?_, fun k y hy => ?_⟩
  · rw [e, runG_append, h1]
    refine ⟨some t, ?_⟩
    have hp := runG_last h1
    show (stepG (opsOf S) (S.length, p) ⟨true, n, t⟩).bind _ = _
    have h3 : stepG (opsOf S) (S.length, p) ⟨true, n, t⟩ = some (S.length, some t) := by
      unfold stepG
      rw [if_neg (fun ⟨q, e1, e2⟩ => by
        dsimp only at e1 e2
        obtain ⟨m, hm, e3⟩ := hp q e1
        have := ht m hm
        omega), if_pos rfl, if_pos ⟨by simp, by simp; omega⟩]
    rw [h3]
    simp [runG]
  · rw [shutsOf_append]
    by_cases hk : n = k
    · subst hk
      rw [List.getElem?_set_self hn] at hy
      cases hy
      have := h2 n x hx
      have e1 : shutsOf [⟨true, n, t⟩] n = 1 := by simp [shutsOf]
      rw [e1]
      show x.shut + 1 = _
      omega
    · rw [List.getElem?_set_ne hk] at hy
      have e1 : shutsOf [⟨true, n, t⟩] k = 0 := by
        simp [shutsOf]
        omega
      rw [e1, Nat.add_zero]
      exact h2 k y hy
theorem goes_drop {S : List Sk} {M : List Nk} (h : goesB S M = true) (n : Nat) (x : Sk) (hx : S[n]? = some x) : goesB (S.set n { x with dead := true }) M = true := by
  obtain ⟨⟨p, h1⟩, h2⟩ := goesB_iff.1 h
  have hn := (List.getElem?_eq_some_iff.1 hx).1
  have e : opsOf (S.set n { x with dead := true }) = opsOf S := by
    unfold opsOf
    rw [List.map_set]
    apply List.ext_getElem?
    intro j
    by_cases hj : n = j
    · subst hj
      rw [List.getElem?_set_self (by simpa using hn)]
      simp [hx]
    · rw [List.getElem?_set_ne hj]
  refine goesB_iff.2 ⟨⟨p, by rw [e, h1]; simp⟩, fun k y hy => ?_⟩
  by_cases hk : n = k
  · subst hk
    rw [List.getElem?_set_self hn] at hy
    cases hy
    exact h2 n x hx
  · rw [List.getElem?_set_ne hk] at hy
    exact h2 k y hy
end Go.Proofs.YtciohjgcndgiaaaGreatDoor

set_option linter.unusedSimpArgs false
set_option linter.unusedVariables false
namespace Go.Proofs.YtciohjgcndgiaaaGreatDoor
open Go.RowKit Go.Proofs.YtciohjgcndgiaaaGreatDoor.Kind

/-- The place of what comes n-th of so many (of none: 0). -/
def nthI (n : Int) (many : Nat) : Nat := min n.toNat (many - 1)
def zoneOf (P : Pl) (s : ByteArray) : Option Zo := P.zones.find? (fun z => decide (z.name = s))
def rowOf (P : Pl) (a : Ad) : Option Fo := P.fates.find? (fun f => decide (f.ad = a))
def answerP (P : Pl) (s : ByteArray) (n : Int) : List Ad := match zoneOf P s with | none => [] | some z => (z.ans[nthI n z.ans.length]?).getD []
def answerE (P : Pl) (s : ByteArray) (n : Int) : Int := if (answerP P s n).length = 0 then 110 else 0
def fateP (P : Pl) (a : Ad) (n : Int) : Int := match rowOf P a with | none => 1 | some f => (f.l[nthI n f.l.length]?).getD 1
def goodOne (P : Pl) (a : Ad) : Bool := match rowOf P a with | none => false | some f => decide (0 < f.l.length) && f.l.all (fun x => decide (x = 0))
def goodP (P : Pl) (l : List Ad) : Bool := l.all (goodOne P)
/-- No answer is greater than memory. -/
def okA (a : Ad) : Prop := (-128 ≤ a.f ∧ a.f ≤ 127) ∧ ((0 ≤ a.g0 ∧ a.g0 ≤ 65535) ∧ (0 ≤ a.g1 ∧ a.g1 ≤ 65535) ∧ (0 ≤ a.g2 ∧ a.g2 ≤ 65535) ∧ (0 ≤ a.g3 ∧ a.g3 ≤ 65535) ∧ (0 ≤ a.g4 ∧ a.g4 ≤ 65535) ∧ (0 ≤ a.g5 ∧ a.g5 ≤ 65535) ∧ (0 ≤ a.g6 ∧ a.g6 ≤ 65535) ∧ (0 ≤ a.g7 ∧ a.g7 ≤ 65535)) ∧ -9223372036854775808 ≤ a.p ∧ a.p ≤ 9223372036854775807
def okL (l : List Ad) : Prop := l.length ≤ 4398046511104 ∧ ∀ x ∈ l, okA x
def Fits (P : Pl) : Prop := ∀ z ∈ P.zones, ∀ l ∈ z.ans, okL l


/-- What a zone, a row of fates may be (the document's words of names and addresses: given by the round). -/
structure Rules where
  zok : Zo → Bool
  fok : Fo → Bool
def checkB (R : Rules) (P : Pl) : Bool := decide (P.zones.length ≤ 8) && P.zones.all R.zok && decide ((P.zones.map (·.name)).Nodup) && decide (P.fates.length ≤ 32) && P.fates.all R.fok && decide ((P.fates.map (·.ad)).Nodup) && decide (0 ≤ P.ticks ∧ P.ticks ≤ 200) && decide (P.drops.length ≤ 16) && P.drops.all (fun d => decide (0 ≤ d))
/-- What a plan that is not too great is. -/
def Small (P : Pl) : Prop := ∀ z ∈ P.zones, z.name.size ≤ 400 ∧ z.ans.length ≤ 60
def Few (P : Pl) : Prop := Small P ∧ P.zones.length ≤ 40 ∧ P.fates.length ≤ 100
theorem check_few {R : Rules} {P : Pl} (h : checkB R P = true) : P.zones.length ≤ 8 ∧ P.fates.length ≤ 32 ∧ (0 ≤ P.ticks ∧ P.ticks ≤ 200) ∧ P.drops.length ≤ 16 := by
  unfold checkB at h
  simp only [Bool.and_eq_true, decide_eq_true_eq] at h
  obtain ⟨⟨⟨⟨⟨⟨⟨⟨h1, _⟩, _⟩, h4⟩, _⟩, _⟩, h7⟩, h8⟩, _⟩ := h
  exact ⟨h1, h4, h7, h8⟩
theorem nth_late {n m : Int} {k : Nat} (h1 : (k : Int) ≤ n) (h2 : (k : Int) ≤ m) : nthI n k = nthI m k := by
  unfold nthI
  omega
theorem nth_neg {n : Int} {k : Nat} (h : n ≤ 0) : nthI n k = nthI 0 k := by
  unfold nthI
  omega
theorem answer_late {P : Pl} {s : ByteArray} {n m : Int} (h : ∀ z ∈ P.zones, (z.ans.length : Int) ≤ n ∧ (z.ans.length : Int) ≤ m) : answerP P s n = answerP P s m := by
  unfold answerP
  cases hz : zoneOf P s with
  | none => rfl
  | some z =>
    have := h z (List.mem_of_find?_eq_some hz)
    dsimp only
    rw [nth_late this.1 this.2]
theorem answer_neg {P : Pl} {s : ByteArray} {n : Int} (h : n ≤ 0) : answerP P s n = answerP P s 0 := by
  unfold answerP
  cases hz : zoneOf P s with
  | none => rfl
  | some z =>
    dsimp only
    rw [nth_neg h]
theorem fate_late {P : Pl} {a : Ad} {n m : Int} (h : ∀ f ∈ P.fates, (f.l.length : Int) ≤ n ∧ (f.l.length : Int) ≤ m) : fateP P a n = fateP P a m := by
  unfold fateP
  cases hz : rowOf P a with
  | none => rfl
  | some z =>
    have := h z (List.mem_of_find?_eq_some hz)
    dsimp only
    rw [nth_late this.1 this.2]
theorem fate_neg {P : Pl} {a : Ad} {n : Int} (h : n ≤ 0) : fateP P a n = fateP P a 0 := by
  unfold fateP
  cases hz : rowOf P a with
  | none => rfl
  | some z =>
    dsimp only
    rw [nth_neg h]
theorem fate_good {P : Pl} {a : Ad} (h : goodP P [a] = true) (n : Int) : fateP P a n = 0 := by
  unfold goodP at h
  simp only [List.all_cons, List.all_nil, Bool.and_true] at h
  unfold goodOne at h
  unfold fateP
  cases hz : rowOf P a with
  | none => rw [hz] at h; cases h
  | some f =>
    rw [hz] at h
    simp only [Bool.and_eq_true, decide_eq_true_eq, List.all_eq_true] at h
    dsimp only
    have hlt : nthI n f.l.length < f.l.length := by unfold nthI; omega
    rw [List.getElem?_eq_getElem hlt]
    exact h.2 _ (List.getElem_mem _)

end Go.Proofs.YtciohjgcndgiaaaGreatDoor

set_option linter.unusedSimpArgs false
set_option linter.unusedVariables false
namespace Go.Proofs.YtciohjgcndgiaaaGreatDoor
open Go.RowKit Go.Proofs.YtciohjgcndgiaaaGreatDoor.Kind

def Lt.zero : Lt := ⟨0, 0, 0, 0, { data := #[] }, 0⟩
def mayG (a : Ad) : Bool := if a.f == 4 then a.g2 == 0 && a.g3 == 0 && a.g4 == 0 && a.g5 == 0 && a.g6 == 0 && a.g7 == 0 else a.f == 6
def mayP (a : Ad) : Bool := mayG a && decide (1 ≤ a.p) && decide (a.p ≤ 65535)
def Pl.zero : Pl := ⟨[], [], 0, []⟩
def Wo.new (P : Pl) : Wo := ⟨P, 0, [], [], [], 0, []⟩
def newP (R : Rules) (P : Pl) : Wo := if checkB R P = true then Wo.new P else Wo.new Pl.zero
def newE (R : Rules) (P : Pl) : Int := if checkB R P = true then 0 else 90
def tickP (A : Wo) : Wo := if A.plan.ticks ≤ A.clock then A else { A with clock := A.clock + 1 }
def tickE (A : Wo) : Int := if A.plan.ticks ≤ A.clock then 70 else 0
def deadAt (S : List Sk) (n : Int) : List Sk := if openP S n = true then (match S[n.toNat]? with | some x => S.set n.toNat { x with dead := true } | none => S) else S
def dropN (A : Wo) : Option Int := if A.dropped < 0 then none else A.plan.drops[A.dropped.toNat]?
def dropP (A : Wo) : Wo := match dropN A with | none => A | some n => { A with socks := deadAt A.socks n, dropped := A.dropped + 1 }
def dropE (A : Wo) : Int := match dropN A with | none => 70 | some _ => 0
def byB (y : Int) (d : Di) : Bool := decide (d.by_ = y)
def dialIx (A : Wo) (y : Int) : Nat := A.dials.findIdx (byB y)
def dialOf (A : Wo) (y : Int) : Option Di := A.dials[dialIx A y]?
def diNew (A : Wo) (y : Int) (a : Ad) : Di := ⟨y, a, fateP A.plan a (A.dials.countP (fun d => decide (d.ad = a))), false, false⟩
def dialE (A : Wo) (y : Int) (a : Ad) : Int := if mayP a = false then 20 else if (dialOf A y).isSome = true then 100 else 0
def dialP (A : Wo) (y : Int) (a : Ad) : Wo := if dialE A y a = 0 then { A with dials := A.dials ++ [diNew A y a] } else A
def cutP (A : Wo) (y : Int) : Wo := match dialOf A y with | none => A | some d => if d.over = true then A else { A with dials := A.dials.set (dialIx A y) { d with cut := true } }
def readyD (d : Di) : Bool := !d.over && (decide (d.fate = 0) || decide (d.fate = 1) || (decide (d.fate = 2) && d.cut))
def readyP (A : Wo) (y : Int) : Bool := match dialOf A y with | none => false | some d => readyD d
def overP (A : Wo) (y : Int) : Wo := match dialOf A y with | none => A | some d => { A with dials := A.dials.set (dialIx A y) { d with over := true } }
def wellP (A : Wo) (y : Int) : Bool := match dialOf A y with | none => false | some d => decide (d.fate = 0)
def endP (A : Wo) (y : Int) : Wo := match dialOf A y with
  | none => A
  | some d => if readyD d = false then A else if d.fate = 0 then { overP A y with socks := A.socks ++ [skNew d.ad y A.clock], marks := A.marks ++ [⟨false, A.socks.length, A.clock⟩] } else overP A y
def endM (A : Wo) (y : Int) : Lt := if readyP A y = false then Lt.zero else if wellP A y = true then ⟨11, 0, 0, A.socks.length, { data := #[] }, 0⟩ else ⟨11, 0, 0, 0, { data := #[] }, 160⟩
def endE (A : Wo) (y : Int) : Int := if readyP A y = true then 0 else 100
def underP (A : Wo) (l : List Ad) : Nat := A.dials.countP (fun d => (l.isEmpty || l.contains d.ad) && !d.over)
def shutP (A : Wo) (n : Int) : Wo := if n < 0 then A else match A.socks[n.toNat]? with | none => A | some x => { A with socks := A.socks.set n.toNat { x with shut := wrap64 (x.shut + 1) }, marks := A.marks ++ [⟨true, n, A.clock⟩] }
def shutE (A : Wo) (n : Int) : Int := if n < 0 then 80 else match A.socks[n.toNat]? with | none => 80 | some _ => 0
def lookB (y : Int) (d : Lo) : Bool := decide (d.by_ = y)
def lookIx (A : Wo) (y : Int) : Nat := A.looks.findIdx (lookB y)
def lookOf (A : Wo) (y : Int) : Option Lo := A.looks[lookIx A y]?
def askE (A : Wo) (y : Int) : Int := if (lookOf A y).isSome = true then 101 else 0
def askP (A : Wo) (y : Int) (s : ByteArray) : Wo := if askE A y = 0 then { A with looks := A.looks ++ [⟨y, s, A.looks.countP (fun d => decide (d.name = s)), false⟩] } else A
def askedP (A : Wo) (y : Int) : Bool := match lookOf A y with | none => false | some d => !d.over
def answerW (A : Wo) (y : Int) : Wo := match lookOf A y with | none => A | some d => if d.over = true then A else { A with looks := A.looks.set (lookIx A y) { d with over := true } }

/-! ### what they leave -/
theorem count_set {α : Type} (f : α → Bool) : ∀ {L : List α} {k : Nat} {x y : α}, L[k]? = some x → (L.set k y).countP f + (if f x = true then 1 else 0) = L.countP f + (if f y = true then 1 else 0)
  | [], k, x, y, h => by simp at h
  | z :: L, 0, x, y, h => by
    simp at h
    subst h
    simp only [List.set_cons_zero, List.countP_cons]
    omega
  | z :: L, k + 1, x, y, h => by
    simp only [List.getElem?_cons_succ] at h
    have := count_set f (y := y) h
    simp only [List.set_cons_succ, List.countP_cons]
    omega
theorem dialOf_some {A : Wo} {y : Int} {d : Di} (h : dialOf A y = some d) : dialIx A y < A.dials.length ∧ A.dials[dialIx A y]? = some d ∧ d.by_ = y := by
  have h1 := (List.getElem?_eq_some_iff.1 h)
  obtain ⟨hlt, e⟩ := h1
  refine ⟨hlt, h, ?_⟩
  have := List.findIdx_getElem (w := hlt)
  have e' : A.dials[List.findIdx (byB y) A.dials]'hlt = d := e
  have h3 : byB y d = true := by rw [← e']; exact this
  simpa [byB] using h3
theorem ix_set {A : Wo} {y : Int} {d d' : Di} (h : dialOf A y = some d) (hb : d'.by_ = y) : (A.dials.set (dialIx A y) d').findIdx (byB y) = dialIx A y := by
  obtain ⟨hlt, h1, h2⟩ := dialOf_some h
  rw [List.findIdx_eq (by simpa using hlt)]
  refine ⟨by simp [byB, hb], fun j hj => ?_⟩
  rw [List.getElem_set_ne (by omega)]
  exact List.not_of_lt_findIdx hj
theorem readyP_over {A : Wo} {y : Int} {d : Di} (h : dialOf A y = some d) (A' : Wo) (hA : A'.dials = A.dials.set (dialIx A y) { d with over := true }) : readyP A' y = false := by
  have hix : dialIx A' y = dialIx A y := by unfold dialIx; rw [hA]; exact ix_set h (dialOf_some h).2.2
  unfold readyP dialOf
  rw [hix, hA, List.getElem?_set_self (dialOf_some h).1]
  simp [readyD]

structure PlaysInv (P : Pl) (A : Wo) (i well under : Nat) : Prop where
  plan : A.plan = P
  goes : goesB A.socks A.marks = true
  late : ∀ m ∈ A.marks, m.at_ ≤ A.clock
  well_ : A.socks.length = well
  under_ : A.dials.countP (fun d => !d.over) = under
  cl : 0 ≤ A.clock ∧ A.clock ≤ P.ticks
  lens : A.dials.length ≤ i ∧ A.marks.length ≤ i ∧ A.looks.length = 0
theorem PlaysInv.more {P : Pl} {A : Wo} {i well under : Nat} (h : PlaysInv P A i well under) : PlaysInv P A (i + 1) well under :=
  ⟨h.plan, h.goes, h.late, h.well_, h.under_, h.cl, by have := h.lens; omega⟩
theorem lens_ok {a b c i a' b' : Nat} (h : a ≤ i ∧ b ≤ i ∧ c = 0) (ha : a' ≤ a + 1) (hb : b' ≤ b + 1) : a' ≤ i + 1 ∧ b' ≤ i + 1 ∧ c = 0 := by omega
theorem goes_few {S : List Sk} {M : List Nk} (h : goesB S M = true) : S.length ≤ M.length := by
  obtain ⟨⟨p, hr⟩, _⟩ := goesB_iff.1 h
  have h1 := (runG_opens hr).1
  have h2 : opensOf M ≤ M.length := List.countP_le_length
  simp at h1
  omega
theorem inv_new {P : Pl} (ht : 0 ≤ P.ticks) : PlaysInv P (Wo.new P) 0 0 0 :=
  ⟨rfl, by simp [Wo.new]; rfl, by simp [Wo.new], rfl, rfl, ⟨Int.le_refl _, ht⟩, by simp [Wo.new]⟩
theorem inv_tick {P : Pl} {A : Wo} {i well under : Nat} (h : PlaysInv P A i well under) : PlaysInv P (tickP A) (i + 1) well under := by
  unfold tickP
  split
  · exact h.more
  · rename_i hlt
    refine ⟨h.plan, h.goes, fun m hm => ?_, h.well_, h.under_, ?_, by have := h.lens; dsimp only; omega⟩
    · have := h.late m hm
      dsimp only
      omega
    · have h1 := h.cl
      have h2 := h.plan
      dsimp only
      rw [h2] at hlt
      omega
theorem dead_len (S : List Sk) (n : Int) : (deadAt S n).length = S.length := by
  unfold deadAt
  split
  · split <;> simp
  · rfl
theorem inv_drop {P : Pl} {A : Wo} {i well under : Nat} (h : PlaysInv P A i well under) : PlaysInv P (dropP A) (i + 1) well under := by
  unfold dropP
  split
  · exact h.more
  · rename_i n hn
    refine ⟨h.plan, ?_, h.late, by rw [dead_len]; exact h.well_, h.under_, h.cl, by have := h.lens; dsimp only; omega⟩
    show goesB (deadAt A.socks n) A.marks = true
    unfold deadAt
    split
    · split
      · rename_i x hx
        exact goes_drop h.goes _ x hx
      · exact h.goes
    · exact h.goes
theorem inv_dial {P : Pl} {A : Wo} {i well under : Nat} (h : PlaysInv P A i well under) (y : Int) (a : Ad) : PlaysInv P (dialP A y a) (i + 1) well (if dialE A y a = 0 then under + 1 else under) := by
  unfold dialP
  split
  · refine ⟨h.plan, h.goes, h.late, h.well_, ?_, h.cl, lens_ok h.lens (by simp only [List.length_append, List.length_set, List.length_cons, List.length_nil]; omega) (by simp only [List.length_append, List.length_set, List.length_cons, List.length_nil]; omega)⟩
    simp [List.countP_append, List.countP_cons, diNew, h.under_]
  · exact h.more
theorem inv_cut {P : Pl} {A : Wo} {i well under : Nat} (h : PlaysInv P A i well under) (y : Int) : PlaysInv P (cutP A y) (i + 1) well under := by
  unfold cutP
  split
  · exact h.more
  · rename_i d hd
    split
    · exact h.more
    · rename_i ho
      refine ⟨h.plan, h.goes, h.late, h.well_, ?_, h.cl, lens_ok h.lens (by simp only [List.length_append, List.length_set, List.length_cons, List.length_nil]; omega) (by simp only [List.length_append, List.length_set, List.length_cons, List.length_nil]; omega)⟩
      have := count_set (fun d : Di => !d.over) (y := { d with cut := true }) (dialOf_some hd).2.1
      dsimp only at this ⊢
      rw [h.under_] at this
      omega
theorem under_cut (A : Wo) (y : Int) : underP (cutP A y) [] = underP A [] := by
  unfold cutP
  split
  · rfl
  · rename_i d hd
    split
    · rfl
    · have := count_set (fun d : Di => !d.over) (y := { d with cut := true }) (dialOf_some hd).2.1
      simp only [underP, List.isEmpty_nil, Bool.true_or, Bool.true_and] at this ⊢
      omega
theorem under_nil (A : Wo) : underP A [] = A.dials.countP (fun d => !d.over) := by simp [underP]
theorem end_some {A : Wo} {y : Int} (h : readyP A y = true) : ∃ d, dialOf A y = some d ∧ readyD d = true := by
  unfold readyP at h
  split at h
  · cases h
  · rename_i d hd
    exact ⟨d, hd, h⟩
theorem ready_end {A : Wo} {y : Int} (h : readyP A y = true) : readyP (endP A y) y = false := by
  obtain ⟨d, hd, hr⟩ := end_some h
  refine readyP_over hd _ ?_
  unfold endP overP
  simp only [hd, hr]
  split
  · rename_i h2
    cases h2
  · split <;> rfl
theorem inv_end {P : Pl} {A : Wo} {i well under : Nat} (h : PlaysInv P A i well under) (y : Int) (hr : readyP A y = true) : 1 ≤ under ∧ PlaysInv P (endP A y) (i + 1) (if wellP A y = true then well + 1 else well) (under - 1) := by
  obtain ⟨d, hd, hrd⟩ := end_some hr
  have hov : d.over = false := by
    unfold readyD at hrd
    cases ho : d.over <;> simp_all
  have hc := count_set (fun d : Di => !d.over) (y := { d with over := true }) (dialOf_some hd).2.1
  simp only [hov, Bool.not_false, Bool.not_true, if_true, Bool.false_eq_true, if_false] at hc
  rw [h.under_] at hc
  have hw : wellP A y = decide (d.fate = 0) := by unfold wellP; rw [hd]
  refine ⟨by omega, ?_⟩
  unfold endP overP
  simp only [hd, hrd, hw, decide_eq_true_eq]
  split
  · rename_i h2
    cases h2
  · split
    · refine ⟨h.plan, goes_open h.goes _ _ _ h.late, ?_, by simp [h.well_], by simpa using (show List.countP (fun d => !d.over) (A.dials.set (dialIx A y) { d with over := true }) = under - 1 by omega), h.cl, lens_ok h.lens (by simp only [List.length_append, List.length_set, List.length_cons, List.length_nil]; omega) (by simp only [List.length_append, List.length_set, List.length_cons, List.length_nil]; omega)⟩
      intro m hm
      rcases List.mem_append.1 hm with hm | hm
      · exact h.late m hm
      · simp at hm
        subst hm
        exact Int.le_refl _
    · exact ⟨h.plan, h.goes, h.late, h.well_, by simpa using (show List.countP (fun d => !d.over) (A.dials.set (dialIx A y) { d with over := true }) = under - 1 by omega), h.cl, lens_ok h.lens (by simp only [List.length_append, List.length_set, List.length_cons, List.length_nil]; omega) (by simp only [List.length_append, List.length_set, List.length_cons, List.length_nil]; omega)⟩
theorem end_not {A : Wo} {y : Int} (h : readyP A y = false) : endP A y = A := by
  unfold readyP at h
  unfold endP
  split
  · rfl
  · rename_i d hd
    rw [hd] at h
    rw [if_pos h]
theorem dial_not {A : Wo} {y : Int} {a : Ad} (h : dialE A y a ≠ 0) : dialP A y a = A := by unfold dialP; rw [if_neg h]
theorem tick_not {A : Wo} (h : tickE A ≠ 0) : tickP A = A := by
  unfold tickE at h
  unfold tickP
  split at h
  · rename_i h1
    rw [if_pos h1]
  · exact absurd rfl h
theorem drop_not {A : Wo} (h : dropE A ≠ 0) : dropP A = A := by
  unfold dropE at h
  unfold dropP
  split at h
  · rfl
  · exact absurd rfl h
theorem shut_not {A : Wo} {n : Int} (h : shutE A n ≠ 0) : shutP A n = A := by
  unfold shutE at h
  unfold shutP
  split
  · rfl
  · rename_i hn
    rw [if_neg hn] at h
    split at h
    · rfl
    · exact absurd rfl h
theorem goes_shuts {S : List Sk} {M : List Nk} (h : goesB S M = true) {n : Nat} {x : Sk} (hx : S[n]? = some x) : 0 ≤ x.shut ∧ x.shut ≤ M.length := by
  have h1 := (goesB_iff.1 h).2 n x hx
  have h2 : shutsOf M n ≤ M.length := List.countP_le_length
  omega
theorem wrap_more {z : Int} (h : 0 ≤ z) (h2 : z ≤ 1000) : wrap64 (z + 1) = z + 1 := by
  unfold wrap64
  omega

theorem inv_shut {P : Pl} {A : Wo} {i well under : Nat} (h : PlaysInv P A i well under) (hi : i ≤ 1000) (n : Int) : PlaysInv P (shutP A n) (i + 1) well under := by
  unfold shutP
  split
  · exact h.more
  · rename_i hn
    split
    · exact h.more
    · rename_i x hx
      have hs := goes_shuts h.goes hx
      have hl := h.lens
      have hw : wrap64 (x.shut + 1) = x.shut + 1 := wrap_more hs.1 (by omega)
      have hnn : ((n.toNat : Nat) : Int) = n := by omega
      refine ⟨h.plan, ?_, ?_, by simpa using h.well_, h.under_, h.cl, lens_ok h.lens (by simp only [List.length_append, List.length_set, List.length_cons, List.length_nil]; omega) (by simp only [List.length_append, List.length_set, List.length_cons, List.length_nil]; omega)⟩
      · have := goes_shut h.goes n.toNat x hx A.clock h.late
        rw [hnn] at this
        dsimp only
        rw [hw]
        exact this
      · intro m hm
        rcases List.mem_append.1 hm with hm | hm
        · exact h.late m hm
        · simp at hm
          subst hm
          exact Int.le_refl _
end Go.Proofs.YtciohjgcndgiaaaGreatDoor

