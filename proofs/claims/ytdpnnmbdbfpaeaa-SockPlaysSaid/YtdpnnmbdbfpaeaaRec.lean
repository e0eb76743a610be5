/- Sockets and a record that go together, as plain data; what follows of it. Nothing here runs the program. -/
import Derived.Test.YtdpnnmbdbfpaeaaPure
set_option linter.unusedSimpArgs false
set_option linter.unusedVariables false
namespace Go.Proofs.Ytdpnnmbdbfpaeaa

instance (o : Option Int) (t : Int) : Decidable (∃ p, o = some p ∧ t < p) := match o with
  | none => isFalse (fun ⟨_, h, _⟩ => by cases h)
  | some p => if h : t < p then isTrue ⟨p, rfl, h⟩ else isFalse (fun ⟨q, h1, h2⟩ => by cases h1; exact h h2)
def stepG (ops : List Int) (st : Nat × Option Int) (m : Nk) : Option (Nat × Option Int) :=
  if (∃ p, st.2 = some p ∧ m.at_ < p) then none
  else if m.shut = true then (if 0 ≤ m.sock ∧ m.sock < (st.1 : Int) then some (st.1, some m.at_) else none)
  else if m.sock = (st.1 : Int) ∧ ops[st.1]? = some m.at_ then some (st.1 + 1, some m.at_) else none
def runG (ops : List Int) : List Nk → Nat × Option Int → Option (Nat × Option Int)
  | [], st => some st
  | m :: M, st => (stepG ops st m).bind (runG ops M)
def shutsOf (M : List Nk) (k : Nat) : Nat := M.countP (fun m => m.shut && decide (m.sock = (k : Int)))
def opensOf (M : List Nk) : Nat := M.countP (fun m => !m.shut)
def opsOf (S : List Sk) : List Int := S.map (fun s => s.opened)
def goesB (S : List Sk) (M : List Nk) : Bool := (match runG (opsOf S) M (0, none) with | some st => decide (st.1 = S.length) | none => false) && (List.range S.length).all (fun k => match S[k]? with | some x => decide (x.shut = (shutsOf M k : Int)) | none => true)
theorem goesB_iff {S : List Sk} {M : List Nk} : goesB S M = true ↔ (∃ p, runG (opsOf S) M (0, none) = some (S.length, p)) ∧ ∀ (k : Nat) (x : Sk), S[k]? = some x → x.shut = (shutsOf M k : Int) := by
  unfold goesB
  rw [Bool.and_eq_true, List.all_eq_true]
  apply and_congr
  · cases h : runG (opsOf S) M (0, none) with
    | none => simp
    | some st =>
      obtain ⟨a, b⟩ := st
      simp
  · constructor
    · intro h k x hx
      have := h k (List.mem_range.2 (List.getElem?_eq_some_iff.1 hx).1)
      rw [hx] at this
      simpa using this
    · intro h k hk
      cases hx : S[k]? with
      | none => rfl
      | some x => simpa using h k x hx
theorem runG_append (ops : List Int) : ∀ (A B : List Nk) (st : Nat × Option Int), runG ops (A ++ B) st = (runG ops A st).bind (runG ops B)
  | [], B, st => rfl
  | m :: A, B, st => by
    rw [List.cons_append]
    unfold runG
    cases stepG ops st m with
    | none => rfl
    | some s2 => exact runG_append ops A B s2
theorem stepG_more {ops : List Int} {st st' : Nat × Option Int} {m : Nk} (h : stepG ops st m = some st') (e : List Int) : stepG (ops ++ e) st m = some st' := by
  unfold stepG at h ⊢
  split at h
  · cases h
  · rename_i h0
    rw [if_neg h0]
    split at h
    · rename_i h1
      rw [if_pos h1]
      exact h
    · rename_i h1
      rw [if_neg h1]
      split at h
      · rename_i h2
        have hlt := (List.getElem?_eq_some_iff.1 h2.2).1
        rw [if_pos ⟨h2.1, by rw [List.getElem?_append_left hlt]; exact h2.2⟩]
        exact h
      · cases h
theorem runG_more {ops : List Int} (e : List Int) : ∀ {M : List Nk} {st st' : Nat × Option Int}, runG ops M st = some st' → runG (ops ++ e) M st = some st'
  | [], _, _, h => h
  | m :: M, st, st', h => by
    unfold runG at h ⊢
    cases hs : stepG ops st m with
    | none => rw [hs] at h; cases h
    | some s2 =>
      rw [hs] at h
      rw [stepG_more hs e]
      exact runG_more e h
/-- How many were opened. -/
theorem stepG_opens {ops : List Int} {st st' : Nat × Option Int} {m : Nk} (h : stepG ops st m = some st') : st'.1 = st.1 + (if m.shut then 0 else 1) ∧ st'.2 = some m.at_ ∧ (m.shut = true → 0 ≤ m.sock ∧ m.sock < (st.1 : Int)) := by
  unfold stepG at h
  split at h
  · cases h
  · split at h
    · rename_i h1
      split at h
      · rename_i h2
        cases h
        simp [h1, h2]
      · cases h
    · rename_i h1
      split at h
      · cases h
        simp [h1]
      · cases h
theorem runG_last {ops : List Int} : ∀ {M : List Nk} {o : Nat} {p : Option Int}, runG ops M (0, none) = some (o, p) → ∀ q, p = some q → ∃ m ∈ M, m.at_ = q := by
  have key : ∀ {M : List Nk} {st st' : Nat × Option Int}, runG ops M st = some st' → (M = [] ∧ st' = st) ∨ ∃ m ∈ M, st'.2 = some m.at_ := by
    intro M
    induction M with
    | nil => intro st st' h; cases h; exact .inl ⟨rfl, rfl⟩
    | cons m M ih =>
      intro st st' h
      unfold runG at h
      cases hs : stepG ops st m with
      | none => rw [hs] at h; cases h
      | some s2 =>
        rw [hs] at h
        rcases ih h with ⟨rfl, rfl⟩ | ⟨x, hx, e⟩
        · exact .inr ⟨m, by simp, (stepG_opens hs).2.1⟩
        · exact .inr ⟨x, by simp [hx], e⟩
  intro M o p h q hq
  rcases key h with ⟨rfl, e⟩ | ⟨x, hx, e⟩
  · cases e
    cases hq
  · refine ⟨x, hx, ?_⟩
    dsimp only at e
    rw [hq] at e
    exact (Option.some.inj e).symm
theorem runG_opens {ops : List Int} : ∀ {M : List Nk} {st st' : Nat × Option Int}, runG ops M st = some st' → st'.1 = st.1 + opensOf M ∧ (∀ m ∈ M, m.shut = true → 0 ≤ m.sock ∧ m.sock < (st'.1 : Int))
  | [], st, st', h => by
    cases h
    simp [opensOf]
  | m :: M, st, st', h => by
    unfold runG at h
    cases hs : stepG ops st m with
    | none => rw [hs] at h; cases h
    | some s2 =>
      rw [hs] at h
      obtain ⟨h1, h2⟩ := runG_opens (M := M) h
      obtain ⟨h3, _, h4⟩ := stepG_opens hs
      have e : opensOf (m :: M) = opensOf M + (if m.shut then 0 else 1) := by
        unfold opensOf
        rw [List.countP_cons]
        cases m.shut <;> simp
      refine ⟨by rw [e]; omega, fun x hx hsx => ?_⟩
      rcases List.mem_cons.1 hx with rfl | hx
      · have := h4 hsx
        omega
      · exact h2 x hx hsx
theorem opensOf_append (A B : List Nk) : opensOf (A ++ B) = opensOf A + opensOf B := by simp [opensOf]
theorem shutsOf_append (A B : List Nk) (k : Nat) : shutsOf (A ++ B) k = shutsOf A k + shutsOf B k := by simp [shutsOf]

/-- Of a record that goes together with its sockets one taken away, or put twice, does not. -/
theorem goes_count {S : List Sk} {M N : List Nk} (h : goesB S M = true) (h2 : goesB S N = true) : opensOf M = opensOf N ∧ ∀ k, k < S.length → shutsOf M k = shutsOf N k := by
  obtain ⟨⟨p, h3⟩, h4⟩ := goesB_iff.1 h
  obtain ⟨⟨q, h5⟩, h6⟩ := goesB_iff.1 h2
  have e1 := (runG_opens h3).1
  have e2 := (runG_opens h5).1
  simp only [Nat.zero_add] at e1 e2
  refine ⟨by omega, fun k hk => ?_⟩
  have e3 := h4 k _ (List.getElem?_eq_getElem hk)
  have e4 := h6 k _ (List.getElem?_eq_getElem hk)
  omega
theorem goes_less {S : List Sk} {A B : List Nk} {m : Nk} (h : goesB S (A ++ m :: B) = true) : goesB S (A ++ B) = false := by
  cases h2 : goesB S (A ++ B) with
  | false => rfl
  | true =>
    obtain ⟨h3, h4⟩ := goes_count h h2
    obtain ⟨⟨p, h5⟩, _⟩ := goesB_iff.1 h
    have h6 := (runG_opens h5).2 m (by simp)
    rw [opensOf_append, opensOf_append] at h3
    unfold opensOf at h3
    rw [List.countP_cons] at h3
    cases hs : m.shut with
    | false => rw [hs] at h3; simp at h3
    | true =>
      obtain ⟨h7, h8⟩ := h6 hs
      have h9 := h4 m.sock.toNat (by omega)
      rw [shutsOf_append, shutsOf_append] at h9
      unfold shutsOf at h9
      rw [List.countP_cons, hs] at h9
      have : m.sock = (m.sock.toNat : Int) := by omega
      simp [← this] at h9
theorem goes_more {S : List Sk} {A B : List Nk} {m : Nk} (h : goesB S (A ++ m :: B) = true) : goesB S (A ++ m :: m :: B) = false := by
  cases h2 : goesB S (A ++ m :: m :: B) with
  | false => rfl
  | true =>
    have h3 := goes_less (A := A ++ [m]) (B := B) (m := m) (S := S) (by simpa using h2)
    rw [show A ++ [m] ++ B = A ++ m :: B by simp, h] at h3
    cases h3

/-- Which of the first k are such. -/
def selT (f : Sk → Bool) (S : List Sk) (k : Nat) : List Int := (List.range k).filterMap (fun (j : Nat) => match S[j]? with | some x => if f x = true then some (j : Int) else none | none => none)
def isOpen (x : Sk) : Bool := decide (x.shut = 0)
def isTwice (x : Sk) : Bool := decide (1 < x.shut)
def liveP (S : List Sk) : List Int := selT isOpen S S.length
def twiceP (S : List Sk) : List Int := selT isTwice S S.length
def openP (S : List Sk) (n : Int) : Bool := if n < 0 then false else match S[n.toNat]? with | some x => isOpen x | none => false
theorem selT_succ {f : Sk → Bool} {S : List Sk} {k : Nat} {x : Sk} (h : S[k]? = some x) : selT f S (k + 1) = selT f S k ++ (if f x = true then [(k : Int)] else []) := by
  unfold selT
  rw [List.range_succ, List.filterMap_append]
  congr 1
  simp only [List.filterMap_cons, List.filterMap_nil, h]
  by_cases hf : f x = true
  · simp [hf]
  · simp [hf]
theorem selT_le (f : Sk → Bool) (S : List Sk) {k n : Nat} (h : k ≤ n) : ∃ r, selT f S n = selT f S k ++ r := by
  obtain ⟨d, rfl⟩ : ∃ d, n = k + d := ⟨n - k, by omega⟩
  unfold selT
  rw [List.range_add, List.filterMap_append]
  exact ⟨_, rfl⟩
theorem selT_length (f : Sk → Bool) (S : List Sk) : ∀ k, k ≤ S.length → (selT f S k).length = (S.take k).countP f
  | 0, _ => by simp [selT]
  | k + 1, h => by
    obtain ⟨x, hx⟩ : ∃ x, S[k]? = some x := ⟨_, List.getElem?_eq_getElem (by omega)⟩
    rw [selT_succ hx, List.length_append, selT_length f S k (by omega), List.take_add_one, hx, List.countP_append]
    congr 1
    by_cases hf : f x = true <;> simp [hf]
theorem selT_bound (f : Sk → Bool) (S : List Sk) (k : Nat) (hk : k ≤ S.length) : (selT f S k).length ≤ k := by
  rw [selT_length f S k hk]
  exact Nat.le_trans List.countP_le_length (by simp; omega)
theorem live_length (S : List Sk) : (liveP S).length = S.countP isOpen := by
  unfold liveP
  rw [selT_length _ _ _ (Nat.le_refl _), List.take_length]
theorem sel_mem {f : Sk → Bool} {S : List Sk} {k : Nat} {n : Int} (h : n ∈ selT f S k) : ∃ (j : Nat) (x : Sk), n = j ∧ S[j]? = some x ∧ f x = true := by
  unfold selT at h
  obtain ⟨j, _, hj⟩ := List.mem_filterMap.1 h
  cases hx : S[j]? with
  | none => rw [hx] at hj; cases hj
  | some x =>
    rw [hx] at hj
    dsimp only at hj
    split at hj
    · cases hj
      exact ⟨j, x, rfl, hx, by assumption⟩
    · cases hj
/-- Whether the place at which one reads on is this one. -/
theorem sel_at {f : Sk → Bool} {S : List Sk} {i : Nat} {x : Sk} (hx : S[i]? = some x) (L : List Int) (hL : L = selT f S S.length) : (f x = true → L[(selT f S i).length]? = some (i : Int)) ∧ (f x = false → ∀ n, L[(selT f S i).length]? = some n → n ≠ (i : Int)) := by
  have hlt := (List.getElem?_eq_some_iff.1 hx).1
  obtain ⟨r, hr⟩ := selT_le f S (k := i + 1) (n := S.length) hlt
  rw [selT_succ hx] at hr
  subst hL
  constructor
  · intro hf
    rw [hr, if_pos hf]
    simp
  · intro hf n hn e
    subst e
    have hm := List.mem_of_getElem? hn
    obtain ⟨j, y, e, hy, hfy⟩ := sel_mem hm
    obtain rfl : i = j := by omega
    rw [hx] at hy
    cases hy
    rw [hf] at hfy
    cases hfy
theorem two_bound (S : List Sk) : (liveP S).length + (twiceP S).length ≤ S.length := by
  unfold liveP twiceP
  rw [selT_length _ _ _ (Nat.le_refl _), selT_length _ _ _ (Nat.le_refl _), List.take_length]
  induction S with
  | nil => simp
  | cons x S ih =>
    simp only [List.countP_cons, List.length_cons]
    have : (if isOpen x = true then 1 else 0) + (if isTwice x = true then 1 else 0) ≤ 1 := by
      unfold isOpen isTwice
      by_cases h1 : x.shut = 0
      · simp [h1]
      · by_cases h2 : 1 < x.shut
        · simp [h1, h2]
        · simp [h1, h2]
    omega

/-- What is carried from act to act. -/
def skNew (a : Ad) (y t : Int) : Sk := ⟨a, y, t, 0, false⟩
theorem goes_open {S : List Sk} {M : List Nk} (h : goesB S M = true) (a : Ad) (y t : Int) (ht : ∀ m ∈ M, m.at_ ≤ t) : goesB (S ++ [skNew a y t]) (M ++ [⟨false, S.length, t⟩]) = true := by
  obtain ⟨⟨p, h1⟩, h2⟩ := goesB_iff.1 h
  refine goesB_iff.2 ⟨?_, fun k x hx => ?_⟩
  · have e : opsOf (S ++ [skNew a y t]) = opsOf S ++ [t] := by simp [opsOf, skNew]
    have hp := runG_last h1
    rw [e, runG_append, runG_more [t] h1]
    refine ⟨some t, ?_⟩
    show (stepG (opsOf S ++ [t]) (S.length, p) ⟨false, S.length, t⟩).bind _ = _
    have hl : (opsOf S).length = S.length := by simp [opsOf]
    have h3 : stepG (opsOf S ++ [t]) (S.length, p) ⟨false, S.length, t⟩ = some (S.length + 1, some t) := by
      unfold stepG
      rw [if_neg (fun ⟨q, e1, e2⟩ => by
        dsimp only at e1 e2
        have := hp q e1
        obtain ⟨m, hm, e3⟩ := this
        have := ht m hm
        omega), if_neg (by simp), if_pos ⟨rfl, by rw [List.getElem?_append_right (by omega), hl, Nat.sub_self]; rfl⟩]
    rw [h3]
    simp [runG]
  · rw [shutsOf_append]
    have e0 : shutsOf [⟨false, S.length, t⟩] k = 0 := by simp [shutsOf]
    rw [e0, Nat.add_zero]
    by_cases hk : k < S.length
    · rw [List.getElem?_append_left hk] at hx
      exact h2 k x hx
    · have hk2 : k = S.length := by have := (List.getElem?_eq_some_iff.1 hx).1; simp at this; omega
      subst hk2
      rw [List.getElem?_append_right (Nat.le_refl _), Nat.sub_self] at hx
      cases hx
      have hz : shutsOf M S.length = 0 := by
        unfold shutsOf
        rw [List.countP_eq_zero]
        intro m hm hc
        simp at hc
        have := (runG_opens h1).2 m hm hc.1
        simp only at this
        omega
      rw [hz]
      rfl
theorem goes_shut {S : List Sk} {M : List Nk} (h : goesB S M = true) (n : Nat) (x : Sk) (hx : S[n]? = some x) (t : Int) (ht : ∀ m ∈ M, m.at_ ≤ t) : goesB (S.set n { x with shut := x.shut + 1 }) (M ++ [⟨true, n, t⟩]) = true := by
  obtain ⟨⟨p, h1⟩, h2⟩ := goesB_iff.1 h
  have hn := (List.getElem?_eq_some_iff.1 hx).1
  have e : opsOf (S.set n { x with shut := x.shut + 1 }) = opsOf S := by
    unfold opsOf
    rw [List.map_set]
    apply List.ext_getElem?
    intro j
    by_cases hj : n = j
    · subst hj
      rw [List.getElem?_set_self (by simpa using hn)]
      simp [hx]
    · rw [List.getElem?_set_ne hj]
  refine goesB_iff.2 ⟨?_, fun k y hy => ?_⟩
  · rw [e, runG_append, h1]
    refine ⟨some t, ?_⟩
    have hp := runG_last h1
    show (stepG (opsOf S) (S.length, p) ⟨true, n, t⟩).bind _ = _
    have h3 : stepG (opsOf S) (S.length, p) ⟨true, n, t⟩ = some (S.length, some t) := by
      unfold stepG
      rw [if_neg (fun ⟨q, e1, e2⟩ => by
        dsimp only at e1 e2
        obtain ⟨m, hm, e3⟩ := hp q e1
        have := ht m hm
        omega), if_pos rfl, if_pos ⟨by simp, by simp; omega⟩]
    rw [h3]
    simp [runG]
  · rw [shutsOf_append]
    by_cases hk : n = k
    · subst hk
      rw [List.getElem?_set_self hn] at hy
      cases hy
      have := h2 n x hx
      have e1 : shutsOf [⟨true, n, t⟩] n = 1 := by simp [shutsOf]
      rw [e1]
      show x.shut + 1 = _
      omega
    · rw [List.getElem?_set_ne hk] at hy
      have e1 : shutsOf [⟨true, n, t⟩] k = 0 := by
        simp [shutsOf]
        omega
      rw [e1, Nat.add_zero]
      exact h2 k y hy
theorem goes_drop {S : List Sk} {M : List Nk} (h : goesB S M = true) (n : Nat) (x : Sk) (hx : S[n]? = some x) : goesB (S.set n { x with dead := true }) M = true := by
  obtain ⟨⟨p, h1⟩, h2⟩ := goesB_iff.1 h
  have hn := (List.getElem?_eq_some_iff.1 hx).1
  have e : opsOf (S.set n { x with dead := true }) = opsOf S := by
    unfold opsOf
    rw [List.map_set]
    apply List.ext_getElem?
    intro j
    by_cases hj : n = j
    · subst hj
      rw [List.getElem?_set_self (by simpa using hn)]
      simp [hx]
    · rw [List.getElem?_set_ne hj]
  refine goesB_iff.2 ⟨⟨p, by rw [e, h1]; simp⟩, fun k y hy => ?_⟩
  by_cases hk : n = k
  · subst hk
    rw [List.getElem?_set_self hn] at hy
    cases hy
    exact h2 n x hx
  · rw [List.getElem?_set_ne hk] at hy
    exact h2 k y hy
end Go.Proofs.Ytdpnnmbdbfpaeaa
