/- PLAIN LEAN (label): runes of a text, names, folding, parts; nothing of the program stands here. -/
import Derived.Laws.RangeAny
import Derived.Lib.RuneBytes
import Derived.Lib.Strings
import Derived.Lib.ItoaNum
import Derived.Test.YtciohjgcndgiaaaGreatDoorProg
import Derived.WalkKit
import Derived.BigCall
import Derived.LoopTactic
import Derived.Outline
import Derived.Deep.QuietTactic
import Derived.BigQuiet
import Derived.Lib.Hide
import Derived.Handy
import Derived.Deep.Light
import Derived.Deep.LoopGhost
import Derived.Test.YtciohjgcndgiaaaGreatDoorShelf
import Derived.Lib.OthersKept
set_option linter.unusedSimpArgs false
namespace Go.Proofs.YtciohjgcndgiaaaGreatDoor.P

/-- Is a byte one that goes on? -/
def cb (b : UInt8) : Bool := b.toNat / 64 == 2

/-- n more bytes, each of which goes on, put behind r. -/
def acc : Nat → List UInt8 → Nat → Option Nat
  | 0, _, r => some r
  | _ + 1, [], _ => none
  | n + 1, b :: l, r => if cb b then acc n l (r * 64 + b.toNat % 64) else none

def long (l : List UInt8) (n r least : Nat) : Nat × Nat :=
  match acc (n - 1) (l.drop 1) r with
  | none => (0, 0)
  | some q => if q < least ∨ (55296 ≤ q ∧ q ≤ 57343) ∨ 1114111 < q then (0, 0) else (q, n)

/-- The rune at the front, and its width; (0, 0): ill formed. -/
def one : List UInt8 → Nat × Nat
  | [] => (0, 0)
  | a :: l =>
    if a.toNat < 128 then (a.toNat, 1)
    else if 194 ≤ a.toNat ∧ a.toNat ≤ 223 then long (a :: l) 2 (a.toNat % 32) 128
    else if 224 ≤ a.toNat ∧ a.toNat ≤ 239 then long (a :: l) 3 (a.toNat % 16) 2048
    else if 240 ≤ a.toNat ∧ a.toNat ≤ 244 then long (a :: l) 4 (a.toNat % 8) 65536
    else (0, 0)

theorem acc_le : ∀ (n : Nat) (l : List UInt8) (r q : Nat), acc n l r = some q → n ≤ l.length
  | 0, _, _, _, _ => Nat.zero_le _
  | n + 1, [], r, q, h => by simp [acc] at h
  | n + 1, b :: l, r, q, h => by
    unfold acc at h
    split at h
    · have := acc_le n l _ q h
      simp; omega
    · simp at h

theorem long_cases (l : List UInt8) (n r least : Nat) :
    long l n r least = (0, 0) ∨ ∃ q, acc (n - 1) (l.drop 1) r = some q ∧ long l n r least = (q, n) ∧ least ≤ q ∧ ¬ (55296 ≤ q ∧ q ≤ 57343) ∧ q ≤ 1114111 := by
  unfold long
  cases h : acc (n - 1) (l.drop 1) r with
  | none => exact Or.inl rfl
  | some q =>
    by_cases hq : q < least ∨ (55296 ≤ q ∧ q ≤ 57343) ∨ 1114111 < q
    · exact Or.inl (by simp [hq])
    · exact Or.inr ⟨q, rfl, by simp [hq], by omega, by omega, by omega⟩

theorem one_nil : one [] = (0, 0) := rfl
theorem one_cons (a : UInt8) (l : List UInt8) : one (a :: l) =
    if a.toNat < 128 then (a.toNat, 1)
    else if 194 ≤ a.toNat ∧ a.toNat ≤ 223 then long (a :: l) 2 (a.toNat % 32) 128
    else if 224 ≤ a.toNat ∧ a.toNat ≤ 239 then long (a :: l) 3 (a.toNat % 16) 2048
    else if 240 ≤ a.toNat ∧ a.toNat ≤ 244 then long (a :: l) 4 (a.toNat % 8) 65536
    else (0, 0) := rfl

theorem one_le (l : List UInt8) : (one l).2 ≤ l.length := by
  cases l with
  | nil => simp [one]
  | cons a l =>
    have hl : ∀ n r least, 1 ≤ n → (long (a :: l) n r least).2 ≤ (a :: l).length := by
      intro n r least h1
      rcases long_cases (a :: l) n r least with h | ⟨q, ha, h, _⟩
      · rw [h]; simp
      · rw [h]
        have := acc_le _ _ _ _ ha
        simp at this ⊢; omega
    rw [one_cons]
    repeat' split
    · simp
    · exact hl 2 _ _ (by omega)
    · exact hl 3 _ _ (by omega)
    · exact hl 4 _ _ (by omega)
    · simp

theorem one_lt (l : List UInt8) : (one l).1 ≤ 1114111 ∧ (one l).2 ≤ 4 := by
  have hl : ∀ m n r least, n ≤ 4 → (long m n r least).1 ≤ 1114111 ∧ (long m n r least).2 ≤ 4 := by
    intro m n r least h4
    rcases long_cases m n r least with h | ⟨q, _, h, _, _, hq⟩
    · rw [h]; simp
    · rw [h]; exact ⟨hq, h4⟩
  cases l with
  | nil => simp [one]
  | cons a l =>
    rw [one_cons]
    repeat' split
    · have := a.toNat_lt; simp; omega
    · exact hl _ 2 _ _ (by omega)
    · exact hl _ 3 _ _ (by omega)
    · exact hl _ 4 _ _ (by omega)
    · simp

/-- What the model's own decoding makes of an ill formed byte. -/
def seen (o : Nat × Nat) : Nat × Nat := if o.2 = 0 then (65533, 1) else o

theorem get_at' (s : ByteArray) (pos k : Nat) (b : UInt8) (h : (s.data.toList.drop pos)[k]? = some b) : pos + k < s.size ∧ s.get! (pos + k) = b := by
  rw [List.getElem?_drop] at h
  obtain ⟨hk, he⟩ := List.getElem?_eq_some_iff.1 h
  have hk' : pos + k < s.size := by simpa using hk
  refine ⟨hk', ?_⟩
  rw [← he]
  simp [ByteArray.get!, getElem!_pos, hk']
theorem no_at' (s : ByteArray) (pos k : Nat) (h : (s.data.toList.drop pos).length ≤ k) : ¬ pos + k < s.size := by
  simp at h; have : s.data.size = s.size := rfl; omega

theorem cb_eq (b : UInt8) : (b.toNat / 64 == 2) = cb b := rfl

set_option maxHeartbeats 2000000 in
theorem decode_eq (s : ByteArray) (pos : Nat) (h : pos < s.size) : Utf8.decode s pos = seen (one (s.data.toList.drop pos)) := by
  have hne : (s.data.toList.drop pos).length ≠ 0 := by simp; have : s.data.size = s.size := rfl; omega
  match hl : s.data.toList.drop pos with
  | [] => rw [hl] at hne; simp at hne
  | [a] =>
    have h0 := get_at' s pos 0 a (by rw [hl]; rfl)
    have h1 := no_at' s pos 1 (by rw [hl]; simp)
    have ha := a.toNat_lt
    simp only [Utf8.decode, h0.2, h1, decide_false, Bool.false_and, Bool.and_false, Bool.false_eq_true, if_false, one, long, acc, seen, List.drop, List.drop_succ_cons]
    repeat' split
    all_goals first | rfl | (simp_all; done) | (simp_all; omega)
  | [a, b] =>
    have h0 := get_at' s pos 0 a (by rw [hl]; rfl)
    have h1 := get_at' s pos 1 b (by rw [hl]; rfl)
    have h2 := no_at' s pos 2 (by rw [hl]; simp)
    have ha := a.toNat_lt
    have hb := b.toNat_lt
    cases hcb : cb b
    all_goals
      simp only [Utf8.decode, h0.2, h1.1, h1.2, h2, cb_eq, hcb, decide_true, decide_false, Bool.true_and, Bool.and_true, Bool.false_and, Bool.and_false, Bool.false_eq_true, if_false, one, long, acc, seen, List.drop, List.drop_succ_cons, if_true]
      repeat' split
      all_goals first | rfl | (simp_all; done) | (simp_all [Utf8.runeError]; omega)
  | [a, b, c] =>
    have h0 := get_at' s pos 0 a (by rw [hl]; rfl)
    have h1 := get_at' s pos 1 b (by rw [hl]; rfl)
    have h2 := get_at' s pos 2 c (by rw [hl]; rfl)
    have h3 := no_at' s pos 3 (by rw [hl]; simp)
    have ha := a.toNat_lt
    have hb := b.toNat_lt
    have hc := c.toNat_lt
    cases hcb : cb b <;> cases hcc : cb c
    all_goals
      simp only [Utf8.decode, h0.2, h1.1, h1.2, h2.1, h2.2, h3, cb_eq, hcb, hcc, decide_true, decide_false, Bool.true_and, Bool.and_true, Bool.false_and, Bool.and_false, Bool.false_eq_true, if_false, one, long, acc, seen, List.drop, List.drop_succ_cons, if_true, Utf8.valid]
      repeat' split
      all_goals first | rfl | (simp_all; done) | (simp_all [Utf8.runeError]; omega)
  | a :: b :: c :: d :: t =>
    have h0 := get_at' s pos 0 a (by rw [hl]; rfl)
    have h1 := get_at' s pos 1 b (by rw [hl]; rfl)
    have h2 := get_at' s pos 2 c (by rw [hl]; rfl)
    have h3 := get_at' s pos 3 d (by rw [hl]; rfl)
    have ha := a.toNat_lt
    have hb := b.toNat_lt
    have hc := c.toNat_lt
    have hd := d.toNat_lt
    cases hcb : cb b <;> cases hcc : cb c <;> cases hcd : cb d
    all_goals
      simp only [Utf8.decode, h0.2, h1.1, h1.2, h2.1, h2.2, h3.1, h3.2, cb_eq, hcb, hcc, hcd, decide_true, decide_false, Bool.true_and, Bool.and_true, Bool.false_and, Bool.and_false, Bool.false_eq_true, if_false, one, long, acc, seen, List.drop, List.drop_succ_cons, if_true, Utf8.valid]
      repeat' split
      all_goals first | rfl | (simp_all; done) | (simp_all [Utf8.runeError]; omega)

/-- How far one step goes. -/
def wd (l : List UInt8) : Nat := max 1 (one l).2
theorem wd_pos (l : List UInt8) : 1 ≤ wd l := by unfold wd; omega
theorem wd_seen (l : List UInt8) : (seen (one l)).2 = wd l := by
  unfold seen wd
  by_cases h : (one l).2 = 0
  · simp [h]
  · rw [if_neg h]; omega

def runesF : Nat → List UInt8 → List (Nat × Nat)
  | 0, _ => []
  | _ + 1, [] => []
  | f + 1, a :: l => one (a :: l) :: runesF f ((a :: l).drop (wd (a :: l)))
def runesOf (l : List UInt8) : List (Nat × Nat) := runesF l.length l

theorem runesF_eq : ∀ (f : Nat) (l : List UInt8), l.length ≤ f → runesF f l = runesOf l
  | 0, l, h => by
    have : l = [] := List.length_eq_zero_iff.1 (by omega)
    subst this; rfl
  | f + 1, [], _ => rfl
  | f + 1, a :: l, h => by
    have hw := wd_pos (a :: l)
    have h1 : ((a :: l).drop (wd (a :: l))).length ≤ l.length := by simp; omega
    simp only [runesF, runesOf, List.length_cons]
    rw [runesF_eq f _ (by simp at h h1 ⊢; omega), runesF_eq l.length _ h1]

theorem runesOf_nil : runesOf [] = [] := rfl
theorem runesOf_cons (a : UInt8) (l : List UInt8) : runesOf (a :: l) = one (a :: l) :: runesOf ((a :: l).drop (wd (a :: l))) := by
  have hw := wd_pos (a :: l)
  have h1 : ((a :: l).drop (wd (a :: l))).length ≤ l.length := by simp; omega
  show runesF (l.length + 1) (a :: l) = _
  rw [runesF, runesF_eq l.length _ h1]

theorem runes_ind {motive : List UInt8 → Prop} (nil : motive []) (cons : ∀ a l, motive ((a :: l).drop (wd (a :: l))) → motive (a :: l)) (l : List UInt8) : motive l := by
  have : ∀ n, ∀ l : List UInt8, l.length ≤ n → motive l := by
    intro n
    induction n with
    | zero => intro l h; have : l = [] := List.length_eq_zero_iff.1 (by omega); subst this; exact nil
    | succ n ih =>
      intro l h
      cases l with
      | nil => exact nil
      | cons a l =>
        refine cons a l (ih _ ?_)
        have hw := wd_pos (a :: l)
        simp at h ⊢; omega
  exact this _ l (Nat.le_refl _)

/-- The rest of a text at a place: its runes there. -/
theorem runesOf_at (s : List UInt8) (pos : Nat) (h : pos < s.length) : runesOf (s.drop pos) = one (s.drop pos) :: runesOf (s.drop (pos + wd (s.drop pos))) := by
  match hl : s.drop pos with
  | [] => exfalso; have := congrArg List.length hl; simp at this; omega
  | a :: l => rw [runesOf_cons, ← hl, List.drop_drop]
theorem runesOf_end (s : List UInt8) (pos : Nat) (h : s.length ≤ pos) : runesOf (s.drop pos) = [] := by
  rw [List.drop_eq_nil_of_le h]; rfl


def letB (r : Int) : Bool := decide (97 ≤ r ∧ r ≤ 122 ∨ 65 ≤ r ∧ r ≤ 90 ∨ (192 ≤ r ∧ r ≤ 591 ∧ ¬ r = 215 ∧ ¬ r = 247))
def digB (r : Int) : Bool := decide (48 ≤ r ∧ r ≤ 57)
def portB (n : Int) : Bool := decide (1 ≤ n ∧ n ≤ 65535)
/-- Is r a sign? -/
def sgB (r : Int) : Bool := letB r || digB r || r == 45
/-- May r stand behind b in a name? -/
def fol (b r : Int) : Bool := if r = 46 then decide (¬ b = 46 ∧ ¬ b = 45) else if r = 45 then decide (¬ b = 46) else letB r || digB r
def validR : Int → List (Nat × Nat) → Bool
  | b, [] => fol b 46
  | b, o :: t => fol b o.1 && validR o.1 t
def name (l : List UInt8) : Bool := decide (l.length ≤ 64) && validR 46 (runesOf l)
def foldR (r : Int) : Int := if 65 ≤ r ∧ r ≤ 90 ∨ 192 ≤ r ∧ r ≤ 222 then r + 32 else r
def foldL (t : List (Nat × Nat)) : List UInt8 := t.flatMap fun o => Lib.encodeRune (foldR o.1)
def foldB (l : List UInt8) : List UInt8 := foldL (runesOf l)
def wells (t : List (Nat × Nat)) : Nat := (t.filter fun o => decide (o.2 ≠ 0)).length
def ills (t : List (Nat × Nat)) : Nat := (t.filter fun o => decide (o.2 = 0)).length

theorem fol_cases (b r : Int) (t : Bool) (h : t = true ↔ b = 46) : fol b r = if r == 46 then (!t && !(b == 45)) else (sgB r && !(t && r == 45)) := by
  have hb : ∀ x y : Int, (x == y) = decide (x = y) := fun x y => by rw [Bool.eq_iff_iff]; simp
  simp only [fol, sgB, hb]
  cases t <;> by_cases h1 : r = 46 <;> by_cases h2 : r = 45 <;> by_cases h3 : b = 46 <;> by_cases h4 : b = 45 <;> simp_all
theorem fol_bad (b : Int) : fol b 0 = false ∧ fol b 65533 = false := by
  constructor <;> (unfold fol letB digB; simp)
end Go.Proofs.YtciohjgcndgiaaaGreatDoor.P

set_option linter.unusedSimpArgs false
set_option linter.unusedVariables false
namespace Go.Proofs.YtciohjgcndgiaaaGreatDoor.Lab
open Go.RowKit

theorem ret_bool {a b : Bool} (h : a = b) : Ending.returned (.bool a) = .returned (.bool b) := by rw [h]
theorem ret_int {k : IntKind} {a b : Int} (h : a = b) : Ending.returned (.int k a) = .returned (.int k b) := by rw [h]

set_option maxHeartbeats 400000 in
theorem isLetter_any (r : Int) (w : World) :
    Calls Tryz.prog 110 #[.int .i32 r] w fun e w' => e = .returned (.bool (P.letB r)) ∧ w = w' := by
  go_enter Tryz.func110, Tryz.ntmps110
  go_wp2
  all_goals (go_ret; refine ⟨ret_bool ?_, rfl⟩; rw [Bool.eq_iff_iff]; simp only [P.letB, decide_eq_true_eq, beq_iff_eq, beq_eq_false_iff_ne, Bool.false_eq_true, true_iff, false_iff] at *; omega)

set_option maxHeartbeats 400000 in
theorem isDigit_any (r : Int) (w : World) :
    Calls Tryz.prog 111 #[.int .i32 r] w fun e w' => e = .returned (.bool (P.digB r)) ∧ w = w' := by
  go_enter Tryz.func111, Tryz.ntmps111
  go_wp2
  all_goals (go_ret; refine ⟨ret_bool ?_, rfl⟩; rw [Bool.eq_iff_iff]; simp only [P.digB, decide_eq_true_eq, Bool.false_eq_true, true_iff, false_iff] at *; omega)

theorem fol_dot (b r : Int) (h : (r == 46) = true) : P.fol b r = decide (¬ b = 46 ∧ ¬ b = 45) := by rw [P.fol, if_pos (by simpa using h)]
theorem fol_hyphen (b r : Int) (h : (r == 46) = false) (h' : (r == 45) = true) : P.fol b r = decide (¬ b = 46) := by rw [P.fol, if_neg (by simpa using h), if_pos (by simpa using h')]
theorem fol_sign (b r : Int) (h : (r == 46) = false) (h' : (r == 45) = false) : P.fol b r = (P.letB r || P.digB r) := by rw [P.fol, if_neg (by simpa using h), if_neg (by simpa using h')]

set_option maxHeartbeats 400000 in
theorem follows_any (b r : Int) (w : World) :
    Calls Tryz.prog 101 #[.int .i32 b, .int .i32 r] w fun e w' => e = .returned (.bool (P.fol b r)) ∧ w = w' := by
  go_enter Tryz.func101, Tryz.ntmps101
  go_wp2_with (first | (go_at_call 110; refine (isLetter_any _ _).mono ?_; rintro e w' ⟨rfl, rfl⟩) | (go_at_call 111; refine (isDigit_any _ _).mono ?_; rintro e w' ⟨rfl, rfl⟩))
  all_goals (go_ret; refine ⟨ret_bool ?_, rfl⟩)
  all_goals first | (rw [fol_dot _ _ (by assumption)]; rw [Bool.eq_iff_iff]; simp_all; done) | (rw [fol_hyphen _ _ (by assumption) (by assumption)]; rw [Bool.eq_iff_iff]; simp_all; done) | (rw [fol_sign _ _ (by assumption) (by assumption)]; simp_all; done)

set_option maxHeartbeats 400000 in
theorem foldRune_any (r : Int) (w : World) (h0 : 0 ≤ r) (h1 : r ≤ 1114111) :
    Calls Tryz.prog 91 #[.int .i32 r] w fun e w' => e = .returned (.int .i32 (P.foldR r)) ∧ w = w' := by
  go_enter Tryz.func91, Tryz.ntmps91
  go_wp2
  all_goals (go_ret; refine ⟨ret_int ?_, rfl⟩)
  all_goals (unfold P.foldR; first | (rw [if_pos (by omega)]; done) | (rw [if_neg (by omega)]; done))

theorem one_zero (l : List UInt8) (h : (P.one l).2 = 0) : P.one l = (0, 0) := by
  have hl : ∀ m n r least, 1 ≤ n → (P.long m n r least).2 = 0 → P.long m n r least = (0, 0) := by
    intro m n r least h1 h2
    rcases P.long_cases m n r least with h | ⟨q, _, h, _⟩
    · exact h
    · rw [h] at h2; simp at h2; omega
  cases l with
  | nil => rfl
  | cons a l =>
    rw [P.one_cons] at h ⊢
    split at h
    · simp at h
    · rename_i h1; rw [if_neg h1]
      split at h
      · rename_i h2; rw [if_pos h2]; exact hl _ 2 _ _ (by omega) h
      · rename_i h2; rw [if_neg h2]
        split at h
        · rename_i h3; rw [if_pos h3]; exact hl _ 3 _ _ (by omega) h
        · rename_i h3; rw [if_neg h3]
          split at h
          · rename_i h4; rw [if_pos h4]; exact hl _ 4 _ _ (by omega) h
          · rename_i h4; rw [if_neg h4]

theorem validR_at (s : ByteArray) (pos r n : Nat) (b : Int) (h0 : pos < s.size) (ho : P.one (s.data.toList.drop pos) = (r, n)) :
    P.validR b (P.runesOf (s.data.toList.drop pos)) = (P.fol b r && P.validR r (P.runesOf (s.data.toList.drop (pos + max 1 n)))) := by
  rw [P.runesOf_at s.data.toList pos (by simpa using h0), P.wd, ho]; rfl
theorem validR_end (s : ByteArray) (pos : Nat) (b : Int) (h0 : s.size ≤ pos) : P.validR b (P.runesOf (s.data.toList.drop pos)) = P.fol b 46 := by
  rw [P.runesOf_end _ _ (by simpa using h0)]; rfl

/-- The step of a look at a name, as facts to be met in the walk. -/
theorem valid_step (s : ByteArray) (pos r n : Nat) (b : Int) (h0 : pos < s.size) (ho : P.one (s.data.toList.drop pos) = (r, n)) (hv : P.validR 46 (P.runesOf s.data.toList) = P.validR b (P.runesOf (s.data.toList.drop pos))) :
    (n = 0 ∨ P.fol b r = false → P.validR 46 (P.runesOf s.data.toList) = false) ∧
    (n ≠ 0 → P.fol b r = true → P.validR 46 (P.runesOf s.data.toList) = P.validR r (P.runesOf (s.data.toList.drop (pos + n)))) := by
  rw [hv, validR_at s pos r n b h0 ho]
  constructor
  · rintro (h | h)
    · have h1 : P.one (s.data.toList.drop pos) = (0, 0) := one_zero _ (by rw [ho]; exact h)
      rw [ho] at h1
      obtain ⟨rfl, rfl⟩ : r = 0 ∧ n = 0 := by simpa using h1
      rw [show P.fol b ((0 : Nat) : Int) = false from (P.fol_bad b).1]; rfl
    · rw [h]; rfl
  · intro h1 h2
    rw [h2, show max 1 n = n from by omega]; rfl

theorem one_room (s : ByteArray) (pos r n : Nat) (h0 : pos < s.size) (ho : P.one (s.data.toList.drop pos) = (r, n)) : pos + n ≤ s.size ∧ r ≤ 1114111 ∧ n ≤ 4 := by
  have h1 := P.one_le (s.data.toList.drop pos)
  have h2 := P.one_lt (s.data.toList.drop pos)
  rw [ho] at h1 h2
  simp at h1 h2
  have : s.data.size = s.size := rfl
  omega

theorem name_eq (s : ByteArray) (h : s.size ≤ 64) : P.name s.data.toList = P.validR 46 (P.runesOf s.data.toList) := by
  have : s.data.toList.length ≤ 64 := by simpa using h
  rw [P.name, decide_eq_true this, Bool.true_and]

theorem decode_at (s : ByteArray) (pos : Nat) (h : pos < s.size) (r n : Nat) (ho : P.one (s.data.toList.drop pos) = (r, n)) :
    Utf8.decode s pos = if n = 0 then (65533, 1) else (r, n) := by
  rw [P.decode_eq s pos h, ho]; rfl

theorem all_false (ss : List ByteArray) (k : Nat) (h : k < ss.length) (hn : P.name ss[k].data.toList = false) : (ss.all fun s => P.name s.data.toList) = false := by
  rw [List.all_eq_false]
  exact ⟨ss[k], List.getElem_mem h, by simp [hn]⟩
theorem all_true (ss : List ByteArray) (hn : ∀ (j : Nat) (h : j < ss.length), P.name ss[j].data.toList = true) : (ss.all fun s => P.name s.data.toList) = true := by
  rw [List.all_eq_true]
  intro s hs
  obtain ⟨j, hj, rfl⟩ := List.getElem_of_mem hs
  exact hn j hj
theorem name_long (s : ByteArray) (h : 64 < s.size) : P.name s.data.toList = false := by
  have : ¬ s.data.toList.length ≤ 64 := by simpa using h
  rw [P.name, decide_eq_false this]; rfl
theorem nat_eq_false (a b : Nat) (h : a < b) : ((a : Int) == (b : Int)) = false := by
  rw [beq_eq_false_iff_ne]; omega

set_option maxHeartbeats 1600000 in
set_option maxRecDepth 100000 in
theorem valid_any (ss : List ByteArray) (bk : Nat) (w : World) (hl : ss.length ≤ 2) (hss : ∀ s ∈ ss, s.size ≤ 140737488355328) (hbk : bk < w.heap.size)
    (hc : ∀ (k : Nat) (h : k < ss.length), w.cell? ⟨bk, k, none⟩ = some (.string ss[k])) :
    Calls Tryz.prog 89 #[.slice (some ⟨bk, 0, none⟩) ss.length ss.length] w fun e w' =>
      e = .returned (.bool (ss.all fun s => P.name s.data.toList)) ∧ Below w.heap.size w w' := by
  have HC := Lib.hid hc
  have HSS := Lib.hid hss
  clear hc hss
  go_enter Tryz.func89, Tryz.ntmps89
  go_wp2
  go_step3
  go_wp2
  go_step3
  go_wp2
  go_loopg [3, 11] ss.length (fun g good ix wr => ∃ k, k + g = ss.length ∧ ix = .int .i64 k ∧ good = .int .i64 k ∧ Hid (∀ (j : Nat) (h : j < ss.length), j < k → P.name ss[j].data.toList = true) ∧ Below w.heap.size w wr)
  case atStart => exact ⟨0, by omega, rfl, rfl, Lib.hid (fun j h h' => absurd h' (by omega)), Below.refl _ _⟩
  case round =>
    obtain ⟨k, hkg, rfl, rfl, hn, hb⟩ := hrel
    by_cases hk : k < ss.length
    · have hck : wr.cell? ⟨bk, k, none⟩ = some (.string ss[k]) := by
        rw [hb.cell (p := ⟨bk, k, none⟩) hbk]; exact HC.out k hk
      have hsz := HSS.out ss[k] (List.getElem_mem hk)
      have HF := Lib.hid (fun h => all_false ss k hk h)
      have HN := Lib.hid (fun (h : P.name ss[k].data.toList = true) => (show ∀ (j : Nat) (h : j < ss.length), j < k + 1 → P.name ss[j].data.toList = true from fun j h1 h2 => by
        by_cases hj : j = k
        · subst hj; exact h
        · exact hn.out j h1 (by omega)))
      have HKF := nat_eq_false k ss.length hk
      generalize ss[k] = s at hck hsz HF HN
      by_cases h64 : 64 < s.size
      · go_wp2
        try rw [Exit.noGoto_ret]
        go_ret
        exact ⟨by rw [HF.out (name_long s h64)]; rfl, hb⟩
      · have HNE := Lib.hid (name_eq s (by omega))
        have hbs := hb.size
        obtain ⟨wo, rfl⟩ : ∃ wo : World, wo = wr := ⟨_, rfl⟩
        go_wp2
        go_loopg [6] s.size (fun g b wi => ∃ pos b' : Nat, pos + g = s.size ∧ b = .int .i32 b' ∧ wi = wo.iter s pos ∧ Hid (P.validR 46 (P.runesOf s.data.toList) = P.validR b' (P.runesOf (s.data.toList.drop pos))))
        case atStart => exact ⟨0, 46, by omega, rfl, rfl, Lib.hid rfl⟩
        case round =>
          obtain ⟨pos, b, hpg, rfl, rfl, hv⟩ := hrel
          have hbi : Below w.heap.size w (wo.iter s pos) := hb.alloc hbs _
          by_cases hp : pos < s.size
          · obtain ⟨r, n, ho⟩ : ∃ r n, P.one (s.data.toList.drop pos) = (r, n) := ⟨_, _, rfl⟩
            obtain ⟨hr1, hr2, hr3⟩ := one_room s pos r n hp ho
            have HS := Lib.hid (valid_step s pos r n b hp ho hv.out)
            have hnx := fun ty => run_next_any (P := Tryz.prog) wo s pos ty hp
            rw [decode_at s pos hp r n ho] at hnx
            clear hv ho
            by_cases hn0 : n = 0
            · rw [if_pos hn0] at hnx
              have hf := (P.fol_bad b).2
              have hf' : P.fol (↑b) ((65533, 1) : Nat × Nat).1 = false := hf
              go_wp2_with (go_at_call 101; refine (follows_any _ _ _).mono ?_; rintro e w' ⟨rfl, rfl⟩)
              try rw [Exit.noGoto_ret]
              go_ret
              exact ⟨by rw [HF.out (by rw [HNE.out]; exact HS.out.1 (Or.inl hn0))]; rfl, hb.alloc hbs _⟩
            · rw [if_neg hn0] at hnx
              by_cases hf : P.fol b r = true
              · go_wp2_with (go_at_call 101; refine (follows_any _ _ _).mono ?_; rintro e w' ⟨rfl, rfl⟩)
                go_roundg (s.size - (pos + n))
                case rel => exact ⟨pos + n, r, by omega, rfl, rfl, Lib.hid (HS.out.2 hn0 hf)⟩
                case measure => omega
              · have hf : P.fol b r = false := by simpa using hf
                go_wp2_with (go_at_call 101; refine (follows_any _ _ _).mono ?_; rintro e w' ⟨rfl, rfl⟩)
                try rw [Exit.noGoto_ret]
                go_ret
                exact ⟨by rw [HF.out (by rw [HNE.out]; exact HS.out.1 (Or.inr hf))]; rfl, hb.alloc hbs _⟩
          · have hnx := fun ty => run_next_end (P := Tryz.prog) wo s pos ty hp
            rw [validR_end s pos b (by omega)] at hv
            by_cases hf : P.fol b 46 = true
            · go_wp2_with (go_at_call 101; refine (follows_any _ _ _).mono ?_; rintro e w' ⟨rfl, rfl⟩)
              go_roundg (ss.length - (k + 1))
              case rel => exact ⟨k + 1, by omega, by go_num, by go_num, Lib.hid (HN.out (by rw [HNE.out, hv.out, hf])), hbi⟩
              case measure => omega
            · have hf : P.fol b 46 = false := by simpa using hf
              go_wp2_with (go_at_call 101; refine (follows_any _ _ _).mono ?_; rintro e w' ⟨rfl, rfl⟩)
              try rw [Exit.noGoto_ret]
              go_ret
              exact ⟨by rw [HF.out (by rw [HNE.out, hv.out, hf])]; rfl, hbi⟩
    · obtain rfl : k = ss.length := by omega
      go_wp2
      try rw [Exit.noGoto_ret]
      go_ret
      exact ⟨by rw [all_true ss (fun j h => hn.out j h h)]; simp, hb⟩
theorem fol_bound (b r : Int) (h : P.fol b r = true) : r ≤ 591 ∧ r ≠ 215 ∧ (192 ≤ r → P.letB r = true) := by
  unfold P.fol P.letB P.digB at h
  unfold P.letB
  split at h
  · simp; omega
  · split at h
    · simp; omega
    · simp at h ⊢; omega
end Go.Proofs.YtciohjgcndgiaaaGreatDoor.Lab

set_option linter.unusedSimpArgs false
set_option linter.unusedVariables false
namespace Go.Proofs.YtciohjgcndgiaaaGreatDoor.Lab
open Go.RowKit

theorem valid_one (s : ByteArray) (bk : Nat) (w : World) (hs : s.size ≤ 140737488355328) (hbk : bk < w.heap.size) (hc : w.cell? ⟨bk, 0, none⟩ = some (.string s)) :
    Calls Tryz.prog 89 #[.slice (some ⟨bk, 0, none⟩) 1 1] w fun e w' =>
      e = .returned (.bool (P.name s.data.toList)) ∧ Below w.heap.size w w' := by
  refine (valid_any [s] bk w (by simp) (by simpa using hs) hbk (fun k h => ?_)).mono fun e w' ⟨he, hb⟩ => ⟨by rw [he]; simp, hb⟩
  obtain rfl : k = 0 := by simp at h; omega
  exact hc
theorem valid_two (a b : ByteArray) (bk : Nat) (w : World) (ha : a.size ≤ 140737488355328) (hb : b.size ≤ 140737488355328) (hbk : bk < w.heap.size) (hc : w.cell? ⟨bk, 0, none⟩ = some (.string a)) (hc' : w.cell? ⟨bk, 1, none⟩ = some (.string b)) :
    Calls Tryz.prog 89 #[.slice (some ⟨bk, 0, none⟩) 2 2] w fun e w' =>
      e = .returned (.bool (P.name a.data.toList && P.name b.data.toList)) ∧ Below w.heap.size w w' := by
  refine (valid_any [a, b] bk w (by simp) (by simp [ha, hb]) hbk (fun k h => ?_)).mono fun e w' ⟨he, hb⟩ => ⟨by rw [he]; simp, hb⟩
  simp at h
  match k, h with
  | 0, _ => exact hc
  | 1, _ => exact hc'

theorem foldL_at (s : ByteArray) (pos r n : Nat) (h0 : pos < s.size) (hn : n ≠ 0) (ho : P.one (s.data.toList.drop pos) = (r, n)) :
    P.foldL (P.runesOf (s.data.toList.drop pos)) = Lib.encodeRune (P.foldR r) ++ P.foldL (P.runesOf (s.data.toList.drop (pos + n))) := by
  rw [P.runesOf_at s.data.toList pos (by simpa using h0), P.wd, ho, show max 1 n = n from by omega]; rfl
theorem foldL_end (s : ByteArray) (pos : Nat) (h0 : s.size ≤ pos) : P.foldL (P.runesOf (s.data.toList.drop pos)) = [] := by
  rw [P.runesOf_end _ _ (by simpa using h0)]; rfl

/-- In a name each rune is well formed, and what stands behind it is good too. -/
theorem valid_on (s : ByteArray) (pos r n : Nat) (b : Int) (h0 : pos < s.size) (ho : P.one (s.data.toList.drop pos) = (r, n)) (hv : P.validR b (P.runesOf (s.data.toList.drop pos)) = true) :
    n ≠ 0 ∧ P.fol b r = true ∧ P.validR r (P.runesOf (s.data.toList.drop (pos + n))) = true := by
  rw [validR_at s pos r n b h0 ho, Bool.and_eq_true] at hv
  have hn : n ≠ 0 := by
    intro h
    have h1 : P.one (s.data.toList.drop pos) = (0, 0) := one_zero _ (by rw [ho]; exact h)
    rw [ho] at h1
    obtain ⟨rfl, rfl⟩ : r = 0 ∧ n = 0 := by simpa using h1
    have := (P.fol_bad b).1
    rw [show P.fol b ((0 : Nat) : Int) = P.fol b 0 from rfl, this] at hv
    simp at hv
  exact ⟨hn, hv.1, by have h2 := hv.2; rwa [show max 1 n = n from by omega] at h2⟩
theorem foldR_bound (r : Int) (h0 : 0 ≤ r) (h : r ≤ 591) : 0 ≤ P.foldR r ∧ P.foldR r ≤ 623 := by
  unfold P.foldR; split <;> omega
theorem name_valid (l : List UInt8) (h : P.name l = true) : l.length ≤ 64 ∧ P.validR 46 (P.runesOf l) = true := by
  rw [P.name, Bool.and_eq_true] at h
  exact ⟨of_decide_eq_true h.1, h.2⟩

set_option maxHeartbeats 4000000 in
set_option maxRecDepth 1000000 in
theorem fold_no (s : ByteArray) (w : World) (hs : s.size ≤ 140737488355328) (hn : P.name s.data.toList = false) :
    Calls Tryz.prog 76 #[.string s] w fun e w' => e = .returned (.tuple #[.string ByteArray.empty, .int .i64 10]) ∧ Below w.heap.size w w' := by
  go_enter Tryz.func76, Tryz.ntmps76
  go_wp2_with fail
  refine (valid_one s w.heap.size _ hs (by simp) (by simp [go_sem])).mono ?_
  rw [hn]
  rintro e w1 ⟨rfl, hb1⟩
  go_wp2_with fail
  go_ret2
  exact ⟨rfl, ((Below.refl _ w).alloc (Nat.le_refl _) _).trans (hb1.mono (by simp))⟩

set_option maxHeartbeats 4000000 in
set_option maxRecDepth 1000000 in
theorem fold_yes (s : ByteArray) (w : World) (hs : s.size ≤ 140737488355328) (hn : P.name s.data.toList = true) :
    Calls Tryz.prog 76 #[.string s] w fun e w' => e = .returned (.tuple #[.string ⟨(P.foldB s.data.toList).toArray⟩, .int .i64 0]) ∧ Below w.heap.size w w' := by
  have HV := Lib.hid (name_valid _ hn)
  have h64 : s.size ≤ 64 := by have := HV.out.1; simpa using this
  go_enter Tryz.func76, Tryz.ntmps76
  go_wp2_with fail
  refine (valid_one s w.heap.size _ hs (by simp) (by simp [go_sem])).mono ?_
  rw [hn]
  rintro e w1 ⟨rfl, hb1⟩
  have hb1 : Below w.heap.size w w1 := ((Below.refl _ w).alloc (Nat.le_refl _) _).trans (hb1.mono (by simp))
  have hw1 := hb1.size
  clear hn
  go_wp2_with fail
  go_loopw [] (fun wr => ∃ (pos : Nat) (b : Int) (acc : List UInt8), Lib.IsBuilderF 145 5 w1.heap.size w1.heap.size (Lib.byteCells acc) wr ∧ wr.heap[w1.heap.size + 1]? = some (.stringIter s pos) ∧ Below w1.heap.size w1 wr ∧ acc ++ P.foldL (P.runesOf (s.data.toList.drop pos)) = P.foldB s.data.toList ∧ acc.length ≤ 4 * pos ∧ P.validR b (P.runesOf (s.data.toList.drop pos)) = true) (fun wr => s.size - wr.iterPos (w1.heap.size + 1))
  case atStart =>
    refine ⟨0, 46, [], (Lib.IsBuilderF.of (Lib.fresh_isBuilder 145 5 w1)).alloc _, ?_, ((Below.refl _ w1).alloc (Nat.le_refl _) _).alloc (by simp) _, rfl, by simp, HV.out.2⟩
    have := World.iter_heap (w1.alloc (.cells #[.pointer none, .slice none 0 0] 145)) s 0
    simpa using this
  case round =>
    obtain ⟨pos, b, acc, hI, hit, hbw, hacc, hal, hvr⟩ := hrel
    have hsz : w1.heap.size + 1 < wr.heap.size := (Array.getElem?_eq_some_iff.1 hit).1
    by_cases hp : pos < s.size
    · obtain ⟨r, n, ho⟩ : ∃ r n, P.one (s.data.toList.drop pos) = (r, n) := ⟨_, _, rfl⟩
      obtain ⟨hr1, hr2, hr3⟩ := one_room s pos r n hp ho
      obtain ⟨hn0, hf, hvr2⟩ := valid_on s pos r n b hp ho hvr
      have hn1 : 1 ≤ n := by omega
      have hr4 := (fol_bound b r hf).1
      have hfr := foldR_bound r (by omega) (by omega)
      have hfl := foldL_at s pos r n hp hn0 ho
      have hnx : ∀ ty, (Instr.next (.pointer (some ⟨w1.heap.size + 1, 0, none⟩)) true ty).run Tryz.prog wr = _ := fun ty => Lib.run_next_any_at wr (w1.heap.size + 1) s pos ty hit hp
      rw [decode_at s pos hp r n ho, if_neg hn0] at hnx
      have hI2 := hI.iterAt hit (pos + n)
      have hit2 := Lib.iterAt_heap wr (w1.heap.size + 1) s pos (pos + n) hit
      have hbw2 := Lib.below_iterAt hbw (k := w1.heap.size + 1) (by omega) s (pos + n)
      have hsz2 : w1.heap.size ≤ (wr.iterAt (w1.heap.size + 1) s (pos + n)).heap.size := by rw [Lib.iterAt_size]; omega
      have HF := Lib.hid (And.intro hacc (And.intro hfl hvr2))
      clear hacc hfl hvr2 hvr ho hf hn0
      go_wp2_with (go_at_call 91; refine (foldRune_any _ _ (by omega) (by omega)).mono ?_; rintro e w' ⟨rfl, rfl⟩)
      refine (Tryz.Builder_WriteRune_k w1.heap.size w1.heap.size _ _ (by omega) (by omega) _ hI2 (by rw [Lib.byteCells_length]; omega) hsz2).mono ?_
      rintro e W1 ⟨rfl, h1, b1, k1⟩
      go_wp2_with fail
      go_roundw
      case rel =>
        have hl4 := Lib.runeCells_le (P.foldR r)
        rw [Lib.runeCells_length] at hl4
        refine ⟨pos + n, r, acc ++ Lib.encodeRune (P.foldR r), ?_, k1.iter hit2 (by omega), hbw2.trans b1, ?_, ?_, HF.out.2.2⟩
        · rw [Lib.byteCells_append, Lib.byteCells_encodeRune]; exact Or.inr h1
        · rw [List.append_assoc, ← HF.out.2.1, HF.out.1]
        · rw [List.length_append]; omega
      case measure =>
        simp only [World.iterPos, k1.iter hit2 (by omega), hit]
        omega
    · have hnx : ∀ ty, (Instr.next (.pointer (some ⟨w1.heap.size + 1, 0, none⟩)) true ty).run Tryz.prog wr = _ := fun ty => Lib.run_next_end_at wr (w1.heap.size + 1) s pos ty hit hp
      have HA := Lib.hid hacc
      clear hacc hvr
      go_wp2_with (go_at_call 88; refine (Tryz.Builder_String_any_k w1.heap.size w1.heap.size acc _ hI (by omega)).mono ?_)
      rintro e W1 ⟨rfl, _, b1, _⟩
      go_wp2_with fail
      go_ret2
      have hacc := HA.out
      rw [foldL_end s pos (by omega), List.append_nil] at hacc
      exact ⟨by rw [← hacc]; rfl, (hb1.trans ((hbw.trans b1).mono hw1))⟩
end Go.Proofs.YtciohjgcndgiaaaGreatDoor.Lab

