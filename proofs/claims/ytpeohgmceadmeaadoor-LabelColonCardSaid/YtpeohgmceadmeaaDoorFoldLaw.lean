/- PLAIN LEAN for layer 1: folding, parting, and names. -/
import Derived.Test.YtpeohgmceadmeaaDoorBehind
import Derived.Test.YtpeohgmceadmeaaDoorPieces
namespace Go.Proofs.YtpeohgmceadmeaaDoor.P

theorem acc_stop (d : UInt8) (hd : cb d = false) : ∀ (n : Nat) (l b : List UInt8) (r : Nat), acc n (l ++ d :: b) r = acc n l r
  | 0, _, _, _ => by simp [acc]
  | n + 1, [], b, r => by simp [acc, hd]
  | n + 1, c :: l, b, r => by
    rw [List.cons_append]
    unfold acc
    rw [acc_stop d hd n l b]
theorem one_stop (d : UInt8) (hd : cb d = false) (a : UInt8) (l b : List UInt8) : one ((a :: l) ++ d :: b) = one (a :: l) := by
  have h : ∀ n r least, long ((a :: l) ++ d :: b) n r least = long (a :: l) n r least := by
    intro n r least
    unfold long
    rw [List.cons_append, List.drop_succ_cons, List.drop_zero, List.drop_succ_cons, List.drop_zero, acc_stop d hd]
  rw [one_cons, List.cons_append, one_cons, ← List.cons_append, h, h, h]
/-- What stands ahead of a byte that does not go on is read by itself. -/
theorem runes_stop (d : UInt8) (hd : cb d = false) (b : List UInt8) : ∀ a : List UInt8, runesOf (a ++ d :: b) = runesOf a ++ runesOf (d :: b) :=
  runes_ind (motive := fun a => runesOf (a ++ d :: b) = runesOf a ++ runesOf (d :: b)) rfl
    (fun a l ih => by
      have hw : wd ((a :: l) ++ d :: b) = wd (a :: l) := by rw [wd, wd, one_stop d hd]
      rw [runesOf_ne ((a :: l) ++ d :: b) (by simp), one_stop d hd, hw, drop_wd, ih, runesOf_cons a l]
      rfl)
theorem runes_dot (b : List UInt8) : runesOf (46 :: b) = (46, 1) :: runesOf b := by
  have h : one (46 :: b) = (46, 1) := rfl
  rw [runesOf_cons, wd, h]; rfl
theorem validR_dot (u : List (Nat × Nat)) : ∀ (t : List (Nat × Nat)) (b : Int), validR b (t ++ (46, 1) :: u) = (validR b t && validR 46 u)
  | [], b => rfl
  | o :: t, b => by
    rw [List.cons_append, validR, validR_dot u t, validR, Bool.and_assoc]

/-- A text up to its first dot. -/
theorem first_dot : ∀ a : List UInt8, ∃ p, (∀ b ∈ p, b ≠ 46) ∧ ((a = p) ∨ ∃ r, a = p ++ 46 :: r)
  | [] => ⟨[], by simp, .inl rfl⟩
  | b :: l => by
    by_cases h : b = 46
    · subst h; exact ⟨[], by simp, .inr ⟨l, rfl⟩⟩
    · obtain ⟨p, h1, h2⟩ := first_dot l
      refine ⟨b :: p, ?_, ?_⟩
      · intro c hc
        rcases List.mem_cons.1 hc with rfl | hc
        · exact h
        · exact h1 c hc
      · rcases h2 with rfl | ⟨r, rfl⟩
        · exact .inl rfl
        · exact .inr ⟨r, rfl⟩
theorem split_one (p : List UInt8) (h : ∀ b ∈ p, b ≠ 46) : splitDot p = [p] := by
  have := split_plain p [] h
  simpa [splitDot, joinHead] using this
theorem split_two (p r : List UInt8) (h : ∀ b ∈ p, b ≠ 46) : splitDot (p ++ 46 :: r) = p :: splitDot r := by
  rw [split_plain p _ h, splitDot, if_pos rfl]
  simp [joinHead]

/-- A text, part by part. -/
theorem parts_ind {motive : List UInt8 → Prop} (one : ∀ p, (∀ b ∈ p, b ≠ 46) → motive p) (two : ∀ p r, (∀ b ∈ p, b ≠ 46) → motive r → motive (p ++ 46 :: r)) (a : List UInt8) : motive a := by
  have : ∀ n, ∀ l : List UInt8, l.length ≤ n → motive l := by
    intro n
    induction n with
    | zero =>
      intro l h
      have : l = [] := List.length_eq_zero_iff.1 (by omega)
      subst this; exact one [] (by simp)
    | succ n ih =>
      intro l h
      obtain ⟨p, h1, rfl | ⟨r, rfl⟩⟩ := first_dot l
      · exact one _ h1
      · refine two p r h1 (ih r ?_)
        simp at h; omega
  exact this _ a (Nat.le_refl _)

theorem valid_parts (a : List UInt8) : validR 46 (runesOf a) = true → ∀ p ∈ splitDot a, validR 46 (runesOf p) = true ∧ p.length ≤ a.length := by
  refine parts_ind (motive := fun a => validR 46 (runesOf a) = true → ∀ p ∈ splitDot a, validR 46 (runesOf p) = true ∧ p.length ≤ a.length) ?_ ?_ a
  · intro p hp h q hq
    rw [split_one p hp, List.mem_singleton] at hq
    subst hq; exact ⟨h, Nat.le_refl _⟩
  · intro p r hp ih h q hq
    rw [runes_stop 46 (by decide), runes_dot, validR_dot, Bool.and_eq_true] at h
    rw [split_two p r hp, List.mem_cons] at hq
    rcases hq with rfl | hq
    · exact ⟨h.1, by simp⟩
    · have := ih h.2 q hq
      exact ⟨this.1, by simp; omega⟩

/-- A rune of one or two bytes, read off its bytes. -/
theorem one_of_enc (x : Nat) (rest : List UInt8) (hx : x ≤ 591) : one (Lib.encodeRune x ++ rest) = (x, (Lib.encodeRune x).length) ∧ 1 ≤ (Lib.encodeRune x).length := by
  by_cases h : x ≤ 127
  · rw [enc_bytes _ (by omega) (by omega)]
    have e : ((x : Int).toNat.toUInt8).toNat = x := by simp; omega
    refine ⟨?_, by simp⟩
    show one ((x : Int).toNat.toUInt8 :: rest) = _
    rw [one_cons, e, if_pos (by omega)]
    rfl
  · rw [enc_bytes2 _ (by omega) (by omega)]
    have e1 : ((192 + (x : Int) / 64).toNat.toUInt8).toNat = 192 + x / 64 := by simp; omega
    have e2 : ((128 + (x : Int) % 64).toNat.toUInt8).toNat = 128 + x % 64 := by simp; omega
    refine ⟨?_, by simp⟩
    show one ((192 + (x : Int) / 64).toNat.toUInt8 :: (128 + (x : Int) % 64).toNat.toUInt8 :: rest) = _
    generalize (192 + (x : Int) / 64).toNat.toUInt8 = c at e1
    generalize (128 + (x : Int) % 64).toNat.toUInt8 = d at e2
    rw [one_cons, e1, if_neg (by omega), if_pos (by omega)]
    have hc : cb d = true := by simp [cb, e2]; omega
    simp only [long, List.drop_succ_cons, List.drop_zero, acc, hc, if_true, e2]
    rw [if_neg (by omega)]
    simp; omega
theorem runes_enc (x : Nat) (rest : List UInt8) (hx : x ≤ 591) : runesOf (Lib.encodeRune x ++ rest) = (x, (Lib.encodeRune x).length) :: runesOf rest := by
  obtain ⟨h1, h2⟩ := one_of_enc x rest hx
  have hne : Lib.encodeRune x ++ rest ≠ [] := by
    intro h
    have := congrArg List.length h
    rw [List.length_append, List.length_nil] at this
    omega
  rw [runesOf_ne _ hne, wd, h1]
  show (x, (Lib.encodeRune x).length) :: runesOf ((Lib.encodeRune x ++ rest).drop (max 1 (Lib.encodeRune x).length)) = _
  rw [Nat.max_eq_right h2, List.drop_left]

theorem foldR_small (r : Int) (h0 : 0 ≤ r) (h : r ≤ 591) : 0 ≤ foldR r ∧ foldR r ≤ 591 := by
  unfold foldR; split <;> omega
theorem foldR_again (r : Int) : foldR (foldR r) = foldR r := by
  unfold foldR
  by_cases h : 65 ≤ r ∧ r ≤ 90 ∨ 192 ≤ r ∧ r ≤ 222
  · rw [if_pos h, if_neg (by omega)]
  · rw [if_neg h, if_neg h]
theorem enc_fold_length (r : Int) (h0 : 0 ≤ r) (h : r ≤ 591) : (Lib.encodeRune (foldR r)).length = (Lib.encodeRune r).length := by
  have h1 := foldR_small r h0 h
  by_cases h2 : r ≤ 127
  · have : foldR r ≤ 127 := by unfold foldR; split <;> omega
    rw [enc_bytes _ h1.1 this, enc_bytes _ h0 h2]; rfl
  · have : 128 ≤ foldR r := by unfold foldR; split <;> omega
    rw [enc_bytes2 _ this (by omega), enc_bytes2 _ (by omega) (by omega)]; rfl
theorem fol_fold (b r : Int) (h : fol b r = true) : fol (foldR b) (foldR r) = true := by
  have hb46 : foldR b = 46 ↔ b = 46 := by unfold foldR; split <;> omega
  have hb45 : foldR b = 45 ↔ b = 45 := by unfold foldR; split <;> omega
  by_cases h46 : r = 46
  · subst h46
    rw [show foldR 46 = 46 from rfl]
    unfold fol at h ⊢
    rw [if_pos rfl] at h ⊢
    simp only [decide_eq_true_eq] at h ⊢
    omega
  · by_cases h45 : r = 45
    · subst h45
      rw [show foldR 45 = 45 from rfl]
      unfold fol at h ⊢
      rw [if_neg (by omega), if_pos rfl] at h ⊢
      simp only [decide_eq_true_eq] at h ⊢
      omega
    · unfold fol at h ⊢
      rw [if_neg h46, if_neg h45] at h
      have h1 : ¬ foldR r = 46 := by unfold foldR; split <;> omega
      have h2 : ¬ foldR r = 45 := by unfold foldR; split <;> omega
      rw [if_neg h1, if_neg h2]
      simp only [letB, digB, Bool.or_eq_true, decide_eq_true_eq] at h ⊢
      unfold foldR
      split <;> omega

/-- A text that is good behind b: rune by rune, with the bytes of each. -/
theorem good_ind {motive : List UInt8 → Prop} (nil : motive []) (cons : ∀ (r : Nat) (rest : List UInt8) (b : Int), fol b r = true → r ≤ 591 → validR r (runesOf rest) = true → motive rest → motive (Lib.encodeRune r ++ rest)) :
    ∀ (a : List UInt8) (b : Int), validR b (runesOf a) = true → motive a := by
  intro a
  refine runes_ind (motive := fun a => ∀ b : Int, validR b (runesOf a) = true → motive a) (fun _ _ => nil) (fun c l ih b h => ?_) a
  rw [runesOf_cons, validR, Bool.and_eq_true] at h
  have h0 : (one (c :: l)).2 ≠ 0 := by
    intro h0
    have h1 := one_zero _ h0
    have h2 := h.1
    rw [h1] at h2
    have := (fol_bad b).1
    rw [show fol b (((0, 0) : Nat × Nat).1 : Int) = fol b 0 from rfl, this] at h2
    cases h2
  obtain ⟨r, n, ho⟩ : ∃ r n, one (c :: l) = (r, n) := ⟨_, _, rfl⟩
  have hw : wd (c :: l) = n := by rw [wd, ho]; rw [ho] at h0; simp at h0 ⊢; omega
  rw [hw] at h ih
  rw [ho] at h h0
  have hr := (fol_bound b r h.1).1
  have he := (one_enc (c :: l) r n ho h0 (by omega)).1
  have : c :: l = Lib.encodeRune r ++ (c :: l).drop n := by rw [← he, List.take_append_drop]
  rw [this]
  exact cons r _ b h.1 (by omega) h.2 (ih r h.2)

theorem foldB_cons (r : Nat) (rest : List UInt8) (h : r ≤ 591) : foldB (Lib.encodeRune r ++ rest) = Lib.encodeRune (foldR r) ++ foldB rest := by
  rw [foldB, runes_enc r rest h]; rfl
theorem foldR_nat (r : Nat) (h : r ≤ 591) : ∃ q : Nat, foldR r = q ∧ q ≤ 591 := by
  have := foldR_small r (by omega) (by omega)
  exact ⟨(foldR r).toNat, by omega, by omega⟩
theorem fold_length (a : List UInt8) (b : Int) (h : validR b (runesOf a) = true) : (foldB a).length = a.length :=
  good_ind (motive := fun a => (foldB a).length = a.length) rfl (fun r rest _ _ hr _ ih => by
    rw [foldB_cons r rest hr, List.length_append, List.length_append, ih, enc_fold_length r (by omega) (by omega)]) a b h
theorem fold_again (a : List UInt8) (b : Int) (h : validR b (runesOf a) = true) : foldB (foldB a) = foldB a :=
  good_ind (motive := fun a => foldB (foldB a) = foldB a) rfl (fun r rest _ _ hr _ ih => by
    obtain ⟨q, hq, hq'⟩ := foldR_nat r hr
    have := foldR_again r
    rw [foldB_cons r rest hr, hq, foldB_cons q _ hq', ih, ← hq, this]) a b h
theorem fold_valid (a : List UInt8) (b : Int) (h : validR b (runesOf a) = true) : ∀ b : Int, validR b (runesOf a) = true → validR (foldR b) (runesOf (foldB a)) = true :=
  good_ind (motive := fun a => ∀ b : Int, validR b (runesOf a) = true → validR (foldR b) (runesOf (foldB a)) = true)
    (fun b h => by
      rw [runesOf_nil, validR] at h
      rw [foldB, runesOf_nil]
      have := fol_fold b 46 h
      exact this)
    (fun r rest _ _ hr _ ih b h => by
      obtain ⟨q, hq, hq'⟩ := foldR_nat r hr
      rw [runes_enc r rest hr, validR, Bool.and_eq_true] at h
      rw [foldB_cons r rest hr, hq, runes_enc q _ hq', validR, Bool.and_eq_true]
      have h1 := fol_fold b r h.1
      have h2 := ih r h.2
      rw [hq] at h1 h2
      exact ⟨h1, h2⟩) a b h
/-- WHAT FOLDING KEEPS. -/
theorem fold_name (a : List UInt8) (h : name a = true) : name (foldB a) = true ∧ (foldB a).length = a.length ∧ foldB (foldB a) = foldB a := by
  obtain ⟨h1, h2⟩ := name_valid a h
  have h3 := fold_length a 46 h2
  have h4 := fold_valid a 46 h2 46 h2
  refine ⟨?_, h3, fold_again a 46 h2⟩
  rw [name, h3, decide_eq_true h1, Bool.true_and]
  exact h4

theorem enc_dot (r : Nat) (h : r ≤ 591) (hb : (46 : UInt8) ∈ Lib.encodeRune r) : r = 46 := by
  by_cases h2 : r ≤ 127
  · rw [enc_bytes _ (by omega) (by omega), List.mem_singleton] at hb
    have h4 := congrArg UInt8.toNat hb
    simp at h4; omega
  · rw [enc_bytes2 _ (by omega) (by omega)] at hb
    simp only [List.mem_cons, List.not_mem_nil, or_false] at hb
    rcases hb with hb | hb
    · have h4 := congrArg UInt8.toNat hb
      simp at h4; omega
    · have h4 := congrArg UInt8.toNat hb
      simp at h4; omega
theorem fold_nodot (a : List UInt8) (b : Int) (h : validR b (runesOf a) = true) : (∀ c ∈ a, c ≠ 46) → ∀ c ∈ foldB a, c ≠ 46 :=
  good_ind (motive := fun a => (∀ c ∈ a, c ≠ 46) → ∀ c ∈ foldB a, c ≠ 46) (fun _ c hc => by simp [foldB, foldL, runesOf_nil] at hc)
    (fun r rest _ _ hr _ ih hp c hc => by
      rw [foldB_cons r rest hr, List.mem_append] at hc
      rcases hc with hc | hc
      · intro h46
        subst h46
        obtain ⟨q, hq, hq'⟩ := foldR_nat r hr
        rw [hq] at hc
        have h1 := enc_dot q hq' hc
        have h2 : r = 46 := by
          unfold foldR at hq
          split at hq <;> omega
        have h3 : (46 : UInt8) ∈ Lib.encodeRune (r : Int) := by rw [h2]; decide
        exact hp 46 (List.mem_append_left _ h3) rfl
      · exact ih (fun c hc => hp c (List.mem_append_right _ hc)) c hc) a b h
theorem foldB_dot (p r : List UInt8) : foldB (p ++ 46 :: r) = foldB p ++ 46 :: foldB r := by
  rw [foldB, runes_stop 46 (by decide), runes_dot, foldL, List.flatMap_append]
  show foldB p ++ (Lib.encodeRune (foldR 46) ++ foldB r) = _
  rfl
theorem split_fold (a : List UInt8) : validR 46 (runesOf a) = true → splitDot (foldB a) = (splitDot a).map foldB := by
  refine parts_ind (motive := fun a => validR 46 (runesOf a) = true → splitDot (foldB a) = (splitDot a).map foldB) ?_ ?_ a
  · intro p hp h
    rw [split_one p hp, split_one _ (fold_nodot p 46 h hp)]; rfl
  · intro p r hp ih h
    rw [runes_stop 46 (by decide), runes_dot, validR_dot, Bool.and_eq_true] at h
    rw [foldB_dot, split_two _ _ (fold_nodot p 46 h.1 hp), split_two p r hp, ih h.2]; rfl

/-- Parts with dots between. -/
def joinD : List (List UInt8) → List UInt8
  | [] => []
  | p :: t => if t = [] then p else p ++ 46 :: joinD t
theorem join_split (a : List UInt8) : joinD (splitDot a) = a := by
  refine parts_ind (motive := fun a => joinD (splitDot a) = a) ?_ ?_ a
  · intro p hp; rw [split_one p hp]; rfl
  · intro p r hp ih
    rw [split_two p r hp, joinD, if_neg (splitDot_ne r), ih]
theorem join_snoc (x : List UInt8) : ∀ (t : List (List UInt8)), t ≠ [] → joinD (t ++ [x]) = joinD t ++ 46 :: x
  | [], h => absurd rfl h
  | [p], _ => by simp [joinD]
  | p :: q :: t, _ => by
    have h1 := join_snoc x (q :: t) (by simp)
    have e1 : joinD (p :: q :: t ++ [x]) = p ++ 46 :: joinD (q :: t ++ [x]) := by
      show joinD (p :: (q :: t ++ [x])) = _
      rw [joinD, if_neg (by simp)]
    have e2 : joinD (p :: q :: t) = p ++ 46 :: joinD (q :: t) := by rw [joinD, if_neg (by simp)]
    rw [e1, h1, e2]
    simp
theorem join_take (ps : List (List UInt8)) (k : Nat) (h : k < ps.length) : joinD (ps.take (k + 1)) = if k = 0 then ps[k] else joinD (ps.take k) ++ 46 :: ps[k] := by
  rw [List.take_succ_eq_append_getElem h]
  by_cases hk : k = 0
  · subst hk; simp [joinD]
  · rw [if_neg hk, join_snoc _ _ (by
      intro h0
      have h1 : (ps.take k).length = k := by simp; omega
      rw [h0] at h1
      simp at h1; omega)]
end Go.Proofs.YtpeohgmceadmeaaDoor.P
