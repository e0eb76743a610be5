/- PLAIN LEAN for layer 2: the document's own way to read addresses, held against ours. -/
import Derived.Test.YtbejnnkdgcelmaaGreatDoorBackP
set_option linter.unusedSimpArgs false
set_option linter.unusedVariables false
namespace Go.Proofs.YtbejnnkdgcelmaaGreatDoor.P

def cutF (c : UInt8) : List UInt8 → List UInt8 → List (List UInt8)
  | cur, [] => [cur]
  | cur, b :: l => if b = c then cur :: cutF c [] l else cutF c (cur ++ [b]) l
/-- The pieces between signs c. -/
def cutP (c : UInt8) (l : List UInt8) : List (List UInt8) := cutF c [] l
theorem cutF_app (c : UInt8) : ∀ (x cur y : List UInt8), c ∉ x → cutF c cur (x ++ y) = cutF c (cur ++ x) y
  | [], cur, y, _ => by simp
  | b :: x, cur, y, h => by
    have hb : b ≠ c := fun e => h (by simp [e])
    rw [List.cons_append, cutF, if_neg hb, cutF_app c x (cur ++ [b]) y (fun e => h (by simp [e]))]
    simp
theorem cutP_none (c : UInt8) (x : List UInt8) (h : c ∉ x) : cutP c x = [x] := by
  have := cutF_app c x [] [] h
  rw [List.append_nil] at this
  rw [cutP, this]; rfl
theorem cutP_cons (c : UInt8) (x y : List UInt8) (h : c ∉ x) : cutP c (x ++ c :: y) = x :: cutP c y := by
  rw [cutP, cutF_app c x [] (c :: y) h, cutF, if_pos rfl]; rfl
theorem cut_ind (c : UInt8) (l : List UInt8) : c ∉ l ∨ ∃ x y, l = x ++ c :: y ∧ c ∉ x := by
  by_cases h : c ∈ l
  · obtain ⟨x, y, h1, h2⟩ := List.eq_append_cons_of_mem h
    exact Or.inr ⟨x, y, h1, h2⟩
  · exact Or.inl h
theorem cutF_len (c : UInt8) : ∀ (l cur : List UInt8), 1 ≤ (cutF c cur l).length ∧ (cutF c cur l).length ≤ l.length + 1
  | [], cur => by simp [cutF]
  | b :: l, cur => by
    unfold cutF
    split
    · have := cutF_len c l []; simp; omega
    · have := cutF_len c l (cur ++ [b]); simp; omega
theorem cutP_len (c : UInt8) (l : List UInt8) : 1 ≤ (cutP c l).length ∧ (cutP c l).length ≤ l.length + 1 := cutF_len c l []
theorem splitK_cut (c : UInt8) : ∀ (k : Nat) (l : List UInt8), ((cutP c l).length ≤ k + 1 ∧ Lib.splitK [c] 0 k l = cutP c l) ∨ (k + 1 < (cutP c l).length ∧ ∃ bad, c ∈ bad ∧ Lib.splitK [c] 0 k l = (cutP c l).take k ++ [bad])
  | 0, l => by
    rcases cut_ind c l with h | ⟨x, y, rfl, h⟩
    · left; rw [cutP_none c l h]; exact ⟨by simp, rfl⟩
    · right
      have := cutP_len c y
      rw [cutP_cons c x y h]
      exact ⟨by simp; omega, x ++ c :: y, by simp, rfl⟩
  | k + 1, l => by
    rcases cut_ind c l with h | ⟨x, y, rfl, h⟩
    · left; rw [cutP_none c l h, splitK_none c _ l h]; exact ⟨by simp, rfl⟩
    · rw [cutP_cons c x y h, splitK_cons c k x y h]
      rcases splitK_cut c k y with ⟨h1, h2⟩ | ⟨h1, bad, hb, h2⟩
      · left; rw [h2]; exact ⟨by simp; omega, rfl⟩
      · right; exact ⟨by simp; omega, bad, hb, by rw [h2]; simp⟩
theorem splitN_cut (c : UInt8) (l : List UInt8) (n : Nat) (hn : 1 ≤ n) : ((cutP c l).length ≤ n ∧ Lib.splitN l [c] n = cutP c l) ∨ (n < (cutP c l).length ∧ ∃ bad, c ∈ bad ∧ Lib.splitN l [c] n = (cutP c l).take (n - 1) ++ [bad]) := by
  have hl := cutP_len c l
  unfold Lib.splitN
  rcases splitK_cut c (min n (l.length + 1) - 1) l with ⟨h1, h2⟩ | ⟨h1, bad, hb, h2⟩
  · left; exact ⟨by omega, h2⟩
  · right
    refine ⟨by omega, bad, hb, ?_⟩
    rw [h2, show min n (l.length + 1) - 1 = n - 1 by omega]

theorem grpF_bad : ∀ (l : List UInt8) (n : Nat), (58 : UInt8) ∈ l → grpF n l = none
  | b :: l, n, h => by
    rw [grpF]
    by_cases hb : b = 58
    · rw [hb]; rfl
    · cases hexB b with
      | none => rfl
      | some d => exact grpF_bad l _ (by simpa [Ne.symm hb] using h)
theorem grpP_bad (l : List UInt8) (h : (58 : UInt8) ∈ l) : grpP l = none := by
  unfold grpP
  split
  · rfl
  · exact grpF_bad l 0 h
theorem grpsF_bad (bad : List UInt8) (h : grpP bad = none) : ∀ ps : List (List UInt8), grpsF (ps ++ [bad]) = none
  | [] => by simp [grpsF, h]
  | p :: ps => by
    rw [List.cons_append, grpsF, grpsF_bad bad h ps]
    cases grpP p <;> rfl
/-- Groups without a bound on how many. -/
def grpsR (l : List UInt8) : Option (List Nat) := if l = [] then some [] else grpsF (cutP 58 l)
theorem grpsP_ref (l : List UInt8) : grpsP l = grpsR l ∨ (grpsP l = none ∧ ∀ A, grpsR l = some A → 9 < A.length) := by
  unfold grpsP grpsR
  by_cases h : l = []
  · left; rw [if_pos h, if_pos h]
  · rw [if_neg h, if_neg h]
    rcases splitN_cut 58 l 9 (by omega) with ⟨_, h2⟩ | ⟨h1, bad, hb, h2⟩
    · left; rw [h2]
    · right
      refine ⟨by rw [h2]; exact grpsF_bad bad (grpP_bad bad hb) _, fun A hA => ?_⟩
      rw [(grpsF_len _ _ hA).1]; exact h1
def sixR (l : List UInt8) : Option (List Nat) :=
  match grpsR (Lib.cut l [58, 58]).1, grpsR (Lib.cut l [58, 58]).2.1 with
  | some A, some B => sixG A B (Lib.cut l [58, 58]).2.2
  | _, _ => none
theorem sixG_big (A B : List Nat) (b : Bool) (h : 8 < A.length + B.length) : sixG A B b = none := by
  unfold sixG; rw [if_pos]
  cases b
  · right; exact ⟨rfl, by omega⟩
  · left; exact ⟨rfl, by omega⟩
theorem sixR_eq (l : List UInt8) : sixR l = sixP l := by
  unfold sixR sixP
  rcases grpsP_ref (Lib.cut l [58, 58]).1 with h | ⟨h, h'⟩
  · rcases grpsP_ref (Lib.cut l [58, 58]).2.1 with k | ⟨k, k'⟩
    · rw [h, k]
      cases grpsR (Lib.cut l [58, 58]).1 <;> cases grpsR (Lib.cut l [58, 58]).2.1 <;> rfl
    · rw [h, k]
      cases hA : grpsR (Lib.cut l [58, 58]).1 with
      | none => rfl
      | some A =>
        cases hB : grpsR (Lib.cut l [58, 58]).2.1 with
        | none => rfl
        | some B => exact sixG_big A B _ (by have := k' B hB; omega)
  · rw [h]
    cases hA : grpsR (Lib.cut l [58, 58]).1 with
    | none => rfl
    | some A =>
      cases hB : grpsR (Lib.cut l [58, 58]).2.1 with
      | none => rfl
      | some B => exact sixG_big A B _ (by have := h' A hA; omega)

/-- The number whose digits a text is, without a bound. -/
def numV : Nat → List UInt8 → Option Nat
  | n, [] => some n
  | n, b :: l => if digB b then numV (10 * n + (b.toNat - 48)) l else none
theorem numV_le : ∀ (l : List UInt8) (n r : Nat), numV n l = some r → n * 10 ^ l.length ≤ r
  | [], n, r, h => by simp [numV] at h; simp [h]
  | b :: l, n, r, h => by
    rw [numV] at h
    split at h
    · have := numV_le l _ r h
      rw [List.length_cons, Nat.pow_succ]
      have h2 : n * (10 ^ l.length * 10) ≤ (10 * n + (b.toNat - 48)) * 10 ^ l.length := by
        rw [Nat.add_mul, Nat.mul_comm (10 ^ l.length) 10, ← Nat.mul_assoc, Nat.mul_comm n 10]; omega
      omega
    · cases h
theorem numV_ge (l : List UInt8) (n r : Nat) (h : numV n l = some r) : n ≤ r := by
  have h1 := numV_le l n r h
  have h2 : n * 1 ≤ n * 10 ^ l.length := Nat.mul_le_mul_left n (Nat.pos_of_ne_zero (by simp))
  omega
theorem numF_V (most : Nat) : ∀ (l : List UInt8) (n : Nat), n ≤ most → numF most n l = (numV n l).bind fun r => if r ≤ most then some r else none
  | [], n, h => by simp [numF, numV, h]
  | b :: l, n, h => by
    rw [numF, numV]
    by_cases hb : digB b = true
    · rw [if_pos hb, if_pos hb]
      by_cases hm : 10 * n + (b.toNat - 48) ≤ most
      · rw [if_pos hm, numF_V most l _ hm]
      · rw [if_neg hm]
        cases hv : numV (10 * n + (b.toNat - 48)) l with
        | none => rfl
        | some r =>
          have := numV_ge _ _ _ hv
          rw [Option.bind_some, if_neg (by omega)]
    · rw [if_neg hb, if_neg hb]; rfl
/-- A number without noughts ahead, of five digits at most. -/
def decR (most : Nat) (l : List UInt8) : Option Nat :=
  if l.length < 1 ∨ 5 < l.length ∨ (1 < l.length ∧ l.head? = some 48) then none else (numV 0 l).bind fun r => if r ≤ most then some r else none
theorem decR_eq (most : Nat) (hm : most ≤ 65535) (l : List UInt8) : decR most l = numP most l := by
  unfold decR numP
  cases l with
  | nil => rfl
  | cons b t =>
    rw [if_neg (show ¬ (b :: t) = [] by simp)]
    by_cases hz : (b :: t).head? = some 48 ∧ (b :: t) ≠ [48]
    · rw [if_pos hz, if_pos]
      right; right
      refine ⟨?_, hz.1⟩
      cases t with
      | nil => exfalso; have h1 := hz.1; simp at h1; exact hz.2 (by rw [h1])
      | cons _ _ => simp
    · rw [if_neg hz, numF_V most _ 0 (by omega)]
      by_cases h5 : 5 < (b :: t).length
      · rw [if_pos (Or.inr (Or.inl h5))]
        have hb : b ≠ 48 := by
          intro e; apply hz; subst e
          refine ⟨rfl, fun e => ?_⟩
          rw [e] at h5; simp at h5
        cases hv : numV 0 (b :: t) with
        | none => rfl
        | some r =>
          rw [numV] at hv
          split at hv
          · rename_i hd
            have h1 := numV_le t _ r hv
            have h2 : 48 ≤ b.toNat := by have := of_decide_eq_true hd; omega
            have h3 : b.toNat ≠ 48 := fun e => hb (UInt8.toNat_inj.1 (by simpa using e))
            have h4 : 10 ^ 5 ≤ 10 ^ t.length := Nat.pow_le_pow_right (by omega) (by simp at h5; omega)
            have h6 : 1 * 10 ^ t.length ≤ (10 * 0 + (b.toNat - 48)) * 10 ^ t.length := Nat.mul_le_mul_right _ (by omega)
            rw [Option.bind_some, if_neg (by omega)]
          · cases hv
      · rw [if_neg]
        rintro (h | h | ⟨h, h'⟩)
        · simp at h
        · exact h5 h
        · apply hz
          refine ⟨h', fun e => ?_⟩
          rw [e] at h; simp at h
theorem fourP_cut (l : List UInt8) : fourP l = if (cutP 46 l).length = 4 then fourF 0 0 0 (cutP 46 l) else none := by
  unfold fourP
  rcases splitN_cut 46 l 5 (by omega) with ⟨_, h2⟩ | ⟨h1, bad, hb, h2⟩
  · rw [h2]
  · rw [h2, if_neg (by rw [List.length_append, List.length_take]; simp; omega), if_neg (by omega)]
end Go.Proofs.YtbejnnkdgcelmaaGreatDoor.P
