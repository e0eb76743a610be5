/- PLAIN LEAN (label): runes of a text, names, folding, parts; nothing of the program stands here. -/
import Derived.Laws.RangeAny
import Derived.Lib.RuneBytes
import Derived.Lib.Strings
import Derived.Lib.ItoaNum
set_option linter.unusedSimpArgs false
namespace Go.Proofs.Ytlceeeajhejedaa.P

/-- Is a byte one that goes on? -/
def cb (b : UInt8) : Bool := b.toNat / 64 == 2

/-- n more bytes, each of which goes on, put behind r. -/
def acc : Nat → List UInt8 → Nat → Option Nat
  | 0, _, r => some r
  | _ + 1, [], _ => none
  | n + 1, b :: l, r => if cb b then acc n l (r * 64 + b.toNat % 64) else none

def long (l : List UInt8) (n r least : Nat) : Nat × Nat :=
  match acc (n - 1) (l.drop 1) r with
  | none => (0, 0)
  | some q => if q < least ∨ (55296 ≤ q ∧ q ≤ 57343) ∨ 1114111 < q then (0, 0) else (q, n)

/-- The rune at the front, and its width; (0, 0): ill formed. -/
def one : List UInt8 → Nat × Nat
  | [] => (0, 0)
  | a :: l =>
    if a.toNat < 128 then (a.toNat, 1)
    else if 194 ≤ a.toNat ∧ a.toNat ≤ 223 then long (a :: l) 2 (a.toNat % 32) 128
    else if 224 ≤ a.toNat ∧ a.toNat ≤ 239 then long (a :: l) 3 (a.toNat % 16) 2048
    else if 240 ≤ a.toNat ∧ a.toNat ≤ 244 then long (a :: l) 4 (a.toNat % 8) 65536
    else (0, 0)

theorem acc_le : ∀ (n : Nat) (l : List UInt8) (r q : Nat), acc n l r = some q → n ≤ l.length
  | 0, _, _, _, _ => Nat.zero_le _
  | n + 1, [], r, q, h => by simp [acc] at h
  | n + 1, b :: l, r, q, h => by
    unfold acc at h
    split at h
    · have := acc_le n l _ q h
      simp; omega
    · simp at h

theorem long_cases (l : List UInt8) (n r least : Nat) :
    long l n r least = (0, 0) ∨ ∃ q, acc (n - 1) (l.drop 1) r = some q ∧ long l n r least = (q, n) ∧ least ≤ q ∧ ¬ (55296 ≤ q ∧ q ≤ 57343) ∧ q ≤ 1114111 := by
  unfold long
  cases h : acc (n - 1) (l.drop 1) r with
  | none => exact Or.inl rfl
  | some q =>
    by_cases hq : q < least ∨ (55296 ≤ q ∧ q ≤ 57343) ∨ 1114111 < q
    · exact Or.inl (by simp [hq])
    · exact Or.inr ⟨q, rfl, by simp [hq], by omega, by omega, by omega⟩

theorem one_nil : one [] = (0, 0) := rfl
theorem one_cons (a : UInt8) (l : List UInt8) : one (a :: l) =
    if a.toNat < 128 then (a.toNat, 1)
    else if 194 ≤ a.toNat ∧ a.toNat ≤ 223 then long (a :: l) 2 (a.toNat % 32) 128
    else if 224 ≤ a.toNat ∧ a.toNat ≤ 239 then long (a :: l) 3 (a.toNat % 16) 2048
    else if 240 ≤ a.toNat ∧ a.toNat ≤ 244 then long (a :: l) 4 (a.toNat % 8) 65536
    else (0, 0) := rfl

theorem one_le (l : List UInt8) : (one l).2 ≤ l.length := by
  cases l with
  | nil => simp [one]
  | cons a l =>
    have hl : ∀ n r least, 1 ≤ n → (long (a :: l) n r least).2 ≤ (a :: l).length := by
      intro n r least h1
      rcases long_cases (a :: l) n r least with h | ⟨q, ha, h, _⟩
      · rw [h]; simp
      · rw [h]
        have := acc_le _ _ _ _ ha
        simp at this ⊢; omega
    rw [one_cons]
    repeat' split
    · simp
    · exact hl 2 _ _ (by omega)
    · exact hl 3 _ _ (by omega)
    · exact hl 4 _ _ (by omega)
    · simp

theorem one_lt (l : List UInt8) : (one l).1 ≤ 1114111 ∧ (one l).2 ≤ 4 := by
  have hl : ∀ m n r least, n ≤ 4 → (long m n r least).1 ≤ 1114111 ∧ (long m n r least).2 ≤ 4 := by
    intro m n r least h4
    rcases long_cases m n r least with h | ⟨q, _, h, _, _, hq⟩
    · rw [h]; simp
    · rw [h]; exact ⟨hq, h4⟩
  cases l with
  | nil => simp [one]
  | cons a l =>
    rw [one_cons]
    repeat' split
    · have := a.toNat_lt; simp; omega
    · exact hl _ 2 _ _ (by omega)
    · exact hl _ 3 _ _ (by omega)
    · exact hl _ 4 _ _ (by omega)
    · simp

/-- What the model's own decoding makes of an ill formed byte. -/
def seen (o : Nat × Nat) : Nat × Nat := if o.2 = 0 then (65533, 1) else o

theorem get_at' (s : ByteArray) (pos k : Nat) (b : UInt8) (h : (s.data.toList.drop pos)[k]? = some b) : pos + k < s.size ∧ s.get! (pos + k) = b := by
  rw [List.getElem?_drop] at h
  obtain ⟨hk, he⟩ := List.getElem?_eq_some_iff.1 h
  have hk' : pos + k < s.size := by simpa using hk
  refine ⟨hk', ?_⟩
  rw [← he]
  simp [ByteArray.get!, getElem!_pos, hk']
theorem no_at' (s : ByteArray) (pos k : Nat) (h : (s.data.toList.drop pos).length ≤ k) : ¬ pos + k < s.size := by
  simp at h; have : s.data.size = s.size := rfl; omega

theorem cb_eq (b : UInt8) : (b.toNat / 64 == 2) = cb b := rfl

set_option maxHeartbeats 2000000 in
theorem decode_eq (s : ByteArray) (pos : Nat) (h : pos < s.size) : Utf8.decode s pos = seen (one (s.data.toList.drop pos)) := by
  have hne : (s.data.toList.drop pos).length ≠ 0 := by simp; have : s.data.size = s.size := rfl; omega
  match hl : s.data.toList.drop pos with
  | [] => rw [hl] at hne; simp at hne
  | [a] =>
    have h0 := get_at' s pos 0 a (by rw [hl]; rfl)
    have h1 := no_at' s pos 1 (by rw [hl]; simp)
    have ha := a.toNat_lt
    simp only [Utf8.decode, h0.2, h1, decide_false, Bool.false_and, Bool.and_false, Bool.false_eq_true, if_false, one, long, acc, seen, List.drop, List.drop_succ_cons]
    repeat' split
    all_goals first | rfl | (simp_all; done) | (simp_all; omega)
  | [a, b] =>
    have h0 := get_at' s pos 0 a (by rw [hl]; rfl)
    have h1 := get_at' s pos 1 b (by rw [hl]; rfl)
    have h2 := no_at' s pos 2 (by rw [hl]; simp)
    have ha := a.toNat_lt
    have hb := b.toNat_lt
    cases hcb : cb b
    all_goals
      simp only [Utf8.decode, h0.2, h1.1, h1.2, h2, cb_eq, hcb, decide_true, decide_false, Bool.true_and, Bool.and_true, Bool.false_and, Bool.and_false, Bool.false_eq_true, if_false, one, long, acc, seen, List.drop, List.drop_succ_cons, if_true]
      repeat' split
      all_goals first | rfl | (simp_all; done) | (simp_all [Utf8.runeError]; omega)
  | [a, b, c] =>
    have h0 := get_at' s pos 0 a (by rw [hl]; rfl)
    have h1 := get_at' s pos 1 b (by rw [hl]; rfl)
    have h2 := get_at' s pos 2 c (by rw [hl]; rfl)
    have h3 := no_at' s pos 3 (by rw [hl]; simp)
    have ha := a.toNat_lt
    have hb := b.toNat_lt
    have hc := c.toNat_lt
    cases hcb : cb b <;> cases hcc : cb c
    all_goals
      simp only [Utf8.decode, h0.2, h1.1, h1.2, h2.1, h2.2, h3, cb_eq, hcb, hcc, decide_true, decide_false, Bool.true_and, Bool.and_true, Bool.false_and, Bool.and_false, Bool.false_eq_true, if_false, one, long, acc, seen, List.drop, List.drop_succ_cons, if_true, Utf8.valid]
      repeat' split
      all_goals first | rfl | (simp_all; done) | (simp_all [Utf8.runeError]; omega)
  | a :: b :: c :: d :: t =>
    have h0 := get_at' s pos 0 a (by rw [hl]; rfl)
    have h1 := get_at' s pos 1 b (by rw [hl]; rfl)
    have h2 := get_at' s pos 2 c (by rw [hl]; rfl)
    have h3 := get_at' s pos 3 d (by rw [hl]; rfl)
    have ha := a.toNat_lt
    have hb := b.toNat_lt
    have hc := c.toNat_lt
    have hd := d.toNat_lt
    cases hcb : cb b <;> cases hcc : cb c <;> cases hcd : cb d
    all_goals
      simp only [Utf8.decode, h0.2, h1.1, h1.2, h2.1, h2.2, h3.1, h3.2, cb_eq, hcb, hcc, hcd, decide_true, decide_false, Bool.true_and, Bool.and_true, Bool.false_and, Bool.and_false, Bool.false_eq_true, if_false, one, long, acc, seen, List.drop, List.drop_succ_cons, if_true, Utf8.valid]
      repeat' split
      all_goals first | rfl | (simp_all; done) | (simp_all [Utf8.runeError]; omega)

/-- How far one step goes. -/
def wd (l : List UInt8) : Nat := max 1 (one l).2
theorem wd_pos (l : List UInt8) : 1 ≤ wd l := by unfold wd; omega
theorem wd_seen (l : List UInt8) : (seen (one l)).2 = wd l := by
  unfold seen wd
  by_cases h : (one l).2 = 0
  · simp [h]
  · rw [if_neg h]; omega

def runesF : Nat → List UInt8 → List (Nat × Nat)
  | 0, _ => []
  | _ + 1, [] => []
  | f + 1, a :: l => one (a :: l) :: runesF f ((a :: l).drop (wd (a :: l)))
def runesOf (l : List UInt8) : List (Nat × Nat) := runesF l.length l

theorem runesF_eq : ∀ (f : Nat) (l : List UInt8), l.length ≤ f → runesF f l = runesOf l
  | 0, l, h => by
    have : l = [] := List.length_eq_zero_iff.1 (by omega)
    subst this; rfl
  | f + 1, [], _ => rfl
  | f + 1, a :: l, h => by
    have hw := wd_pos (a :: l)
    have h1 : ((a :: l).drop (wd (a :: l))).length ≤ l.length := by simp; omega
    simp only [runesF, runesOf, List.length_cons]
    rw [runesF_eq f _ (by simp at h h1 ⊢; omega), runesF_eq l.length _ h1]

theorem runesOf_nil : runesOf [] = [] := rfl
theorem runesOf_cons (a : UInt8) (l : List UInt8) : runesOf (a :: l) = one (a :: l) :: runesOf ((a :: l).drop (wd (a :: l))) := by
  have hw := wd_pos (a :: l)
  have h1 : ((a :: l).drop (wd (a :: l))).length ≤ l.length := by simp; omega
  show runesF (l.length + 1) (a :: l) = _
  rw [runesF, runesF_eq l.length _ h1]

theorem runes_ind {motive : List UInt8 → Prop} (nil : motive []) (cons : ∀ a l, motive ((a :: l).drop (wd (a :: l))) → motive (a :: l)) (l : List UInt8) : motive l := by
  have : ∀ n, ∀ l : List UInt8, l.length ≤ n → motive l := by
    intro n
    induction n with
    | zero => intro l h; have : l = [] := List.length_eq_zero_iff.1 (by omega); subst this; exact nil
    | succ n ih =>
      intro l h
      cases l with
      | nil => exact nil
      | cons a l =>
        refine cons a l (ih _ ?_)
        have hw := wd_pos (a :: l)
        simp at h ⊢; omega
  exact this _ l (Nat.le_refl _)

/-- The rest of a text at a place: its runes there. -/
theorem runesOf_at (s : List UInt8) (pos : Nat) (h : pos < s.length) : runesOf (s.drop pos) = one (s.drop pos) :: runesOf (s.drop (pos + wd (s.drop pos))) := by
  match hl : s.drop pos with
  | [] => exfalso; have := congrArg List.length hl; simp at this; omega
  | a :: l => rw [runesOf_cons, ← hl, List.drop_drop]
theorem runesOf_end (s : List UInt8) (pos : Nat) (h : s.length ≤ pos) : runesOf (s.drop pos) = [] := by
  rw [List.drop_eq_nil_of_le h]; rfl


def letB (r : Int) : Bool := decide (97 ≤ r ∧ r ≤ 122 ∨ 65 ≤ r ∧ r ≤ 90 ∨ (192 ≤ r ∧ r ≤ 591 ∧ ¬ r = 215 ∧ ¬ r = 247))
def digB (r : Int) : Bool := decide (48 ≤ r ∧ r ≤ 57)
def portB (n : Int) : Bool := decide (1 ≤ n ∧ n ≤ 65535)
/-- Is r a sign? -/
def sgB (r : Int) : Bool := letB r || digB r || r == 45
/-- May r stand behind b in a name? -/
def fol (b r : Int) : Bool := if r = 46 then decide (¬ b = 46 ∧ ¬ b = 45) else if r = 45 then decide (¬ b = 46) else letB r || digB r
def validR : Int → List (Nat × Nat) → Bool
  | b, [] => fol b 46
  | b, o :: t => fol b o.1 && validR o.1 t
def name (l : List UInt8) : Bool := decide (l.length ≤ 64) && validR 46 (runesOf l)
def foldR (r : Int) : Int := if 65 ≤ r ∧ r ≤ 90 ∨ 192 ≤ r ∧ r ≤ 222 then r + 32 else r
def foldL (t : List (Nat × Nat)) : List UInt8 := t.flatMap fun o => Lib.encodeRune (foldR o.1)
def foldB (l : List UInt8) : List UInt8 := foldL (runesOf l)
def wells (t : List (Nat × Nat)) : Nat := (t.filter fun o => decide (o.2 ≠ 0)).length
def ills (t : List (Nat × Nat)) : Nat := (t.filter fun o => decide (o.2 = 0)).length

theorem fol_cases (b r : Int) (t : Bool) (h : t = true ↔ b = 46) : fol b r = if r == 46 then (!t && !(b == 45)) else (sgB r && !(t && r == 45)) := by
  have hb : ∀ x y : Int, (x == y) = decide (x = y) := fun x y => by rw [Bool.eq_iff_iff]; simp
  simp only [fol, sgB, hb]
  cases t <;> by_cases h1 : r = 46 <;> by_cases h2 : r = 45 <;> by_cases h3 : b = 46 <;> by_cases h4 : b = 45 <;> simp_all
theorem fol_bad (b : Int) : fol b 0 = false ∧ fol b 65533 = false := by
  constructor <;> (unfold fol letB digB; simp)
end Go.Proofs.Ytlceeeajhejedaa.P
