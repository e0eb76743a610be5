/- PLAIN LEAN for layer 1: keys, there and back. -/
import Derived.Test.YtpeohgmceadmeaaDoorPortP
import Derived.Lib.LastIndexByte
set_option linter.unusedSimpArgs false
set_option linter.unusedVariables false
namespace Go.Proofs.YtpeohgmceadmeaaDoor.P

theorem val_snoc (l : List UInt8) (p : Nat) (c : UInt8) : val p (l ++ [c]) = 10 * val p l + (c.toNat - 48) := by
  simp only [val, List.foldl_append, List.foldl_cons, List.foldl_nil]
theorem dec_one (u : Nat) (h : u < 10) : Lib.decDigits u = [UInt8.ofNat (48 + u)] := by
  rw [Lib.decDigits, dif_pos h]
theorem dec_more (u : Nat) (h : 10 ≤ u) : Lib.decDigits u = Lib.decDigits (u / 10) ++ [UInt8.ofNat (48 + u % 10)] := by
  rw [Lib.decDigits, dif_neg (by omega)]
theorem digit_nat (r : Nat) (h : r < 10) : (UInt8.ofNat (48 + r)).toNat = 48 + r := by simp; omega
/-- The digits of a number. -/
theorem dec_props (u : Nat) : allDig (Lib.decDigits u) = true ∧ val 0 (Lib.decDigits u) = u ∧ (1 ≤ u → ∃ b l, Lib.decDigits u = b :: l ∧ b ≠ 48) := by
  induction u using Nat.strongRecOn with
  | _ u ih =>
    by_cases h : u < 10
    · have hd := digit_nat u h
      rw [dec_one u h]
      refine ⟨?_, ?_, fun h1 => ⟨_, [], rfl, ?_⟩⟩
      · simp only [allDig, List.all_cons, List.all_nil, Bool.and_true]
        exact (digB_nat _).2 (by omega)
      · simp only [val, List.foldl_cons, List.foldl_nil, hd]; omega
      · intro h2
        have h3 := congrArg UInt8.toNat h2
        rw [hd] at h3
        simp at h3; omega
    · obtain ⟨i1, i2, i3⟩ := ih (u / 10) (by omega)
      have hd := digit_nat (u % 10) (by omega)
      rw [dec_more u (by omega)]
      refine ⟨?_, ?_, fun h1 => ?_⟩
      · unfold allDig at i1 ⊢
        rw [List.all_append, i1, Bool.true_and, List.all_cons, List.all_nil, Bool.and_true]
        exact (digB_nat _).2 (by omega)
      · rw [val_snoc, i2, hd]; omega
      · obtain ⟨b, l, h2, h3⟩ := i3 (by omega)
        exact ⟨b, l ++ [UInt8.ofNat (48 + u % 10)], by rw [h2]; rfl, h3⟩
theorem port_dec (u : Nat) (h1 : 1 ≤ u) (h2 : u ≤ 65535) : port (Lib.decDigits u) = u := by
  obtain ⟨i1, i2, i3⟩ := dec_props u
  obtain ⟨b, l, h3, h4⟩ := i3 h1
  rw [h3] at i1 i2 ⊢
  rw [port_eq, i1, i2, if_pos ⟨h4, rfl, h2⟩]
theorem dec_length (u : Nat) (h1 : 1 ≤ u) (h2 : u ≤ 65535) : (Lib.decDigits u).length ≤ 5 := by
  by_cases h : 5 < (Lib.decDigits u).length
  · have h3 := port_long _ h
    rw [port_dec u h1 h2] at h3
    omega
  · omega
/-- Digits are those of what they say. -/
theorem dec_val : ∀ (n : Nat) (l : List UInt8) (b : UInt8), l.length ≤ n → allDig (b :: l) = true → b ≠ 48 → Lib.decDigits (val 0 (b :: l)) = b :: l := by
  intro n
  induction n with
  | zero =>
    intro l b hl hd hb
    have : l = [] := List.length_eq_zero_iff.1 (by omega)
    subst this
    have h1 : digB b.toNat = true := by simpa [allDig] using hd
    have h2 := (digB_nat b).1 h1
    have e : val 0 [b] = b.toNat - 48 := by simp [val]
    rw [e, dec_one _ (by omega), show 48 + (b.toNat - 48) = b.toNat from by omega]
    simp
  | succ n ih =>
    intro l b hl hd hb
    by_cases h0 : l = []
    · subst h0
      exact ih [] b (by simp) hd hb
    · obtain ⟨m, c, rfl⟩ : ∃ m c, l = m ++ [c] := ⟨l.dropLast, l.getLast h0, (List.dropLast_concat_getLast h0).symm⟩
      have hdm : allDig (b :: m) = true ∧ digB c.toNat = true := by
        unfold allDig at hd ⊢
        rw [← List.cons_append, List.all_append, Bool.and_eq_true] at hd
        exact ⟨hd.1, by simpa using hd.2⟩
      have hc := (digB_nat c).1 hdm.2
      have hb1 : digB b.toNat = true := by
        have := hdm.1; unfold allDig at this; rw [List.all_cons, Bool.and_eq_true] at this; exact this.1
      have hb2 := (digB_nat b).1 hb1
      have hb3 : b.toNat ≠ 48 := fun h => hb (UInt8.toNat_inj.1 h)
      have h1 := ih m b (by simp at hl; omega) hdm.1 hb
      have hge : 1 ≤ val 0 (b :: m) := by
        have := val_le m (10 * 0 + (b.toNat - 48))
        rw [val_cons]; omega
      rw [← List.cons_append, val_snoc, dec_more _ (by omega), show (10 * val 0 (b :: m) + (c.toNat - 48)) / 10 = val 0 (b :: m) from by omega, h1,
        show (10 * val 0 (b :: m) + (c.toNat - 48)) % 10 = c.toNat - 48 from by omega, show 48 + (c.toNat - 48) = c.toNat from by omega]
      simp
theorem dec_port (d : List UInt8) (h : portB (port d) = true) : Lib.decDigits (port d) = d := by
  have h0 : 1 ≤ port d := by simp [portB] at h; omega
  cases d with
  | nil => rw [port_nil] at h0; omega
  | cons b l =>
    rw [port_eq] at h0 ⊢
    split at h0
    · rename_i hc
      rw [if_pos hc]
      exact dec_val l.length l b (Nat.le_refl _) hc.2.1 hc.1
    · omega

theorem enc_colon (r : Nat) (h : r ≤ 591) (hb : (58 : UInt8) ∈ Lib.encodeRune r) : r = 58 := by
  by_cases h2 : r ≤ 127
  · rw [enc_bytes _ (by omega) (by omega), List.mem_singleton] at hb
    have h4 := congrArg UInt8.toNat hb
    simp at h4; omega
  · rw [enc_bytes2 _ (by omega) (by omega)] at hb
    simp only [List.mem_cons, List.not_mem_nil, or_false] at hb
    rcases hb with hb | hb
    · have h4 := congrArg UInt8.toNat hb
      simp at h4; omega
    · have h4 := congrArg UInt8.toNat hb
      simp at h4; omega
/-- In a name there is no colon. -/
theorem no_colon (a : List UInt8) (h : name a = true) : (58 : UInt8) ∉ a :=
  good_ind (motive := fun a => (58 : UInt8) ∉ a) (by simp)
    (fun r rest b hf hr _ ih hc => by
      rw [List.mem_append] at hc
      rcases hc with hc | hc
      · have h58 := enc_colon r hr hc
        subst h58
        have : fol b 58 = false := by
          unfold fol letB digB
          rw [if_neg (by omega), if_neg (by omega)]
          simp
        rw [show ((58 : Nat) : Int) = 58 from rfl, this] at hf
        cases hf
      · exact ih hc) a 46 (name_valid a h).2
theorem dec_no_colon (u : Nat) : (58 : UInt8) ∉ Lib.decDigits u := by
  intro h
  have h1 := (dec_props u).1
  unfold allDig at h1
  rw [List.all_eq_true] at h1
  have h2 := (digB_nat 58).1 (h1 58 h)
  simp at h2
/-- The last colon of a text. -/
theorem last_colon (s : ByteArray) (F D : List UInt8) (hs : s.data.toList = F ++ 58 :: D) (hd : (58 : UInt8) ∉ D) : Lib.lastIndexByte s 58 = F.length := by
  have hl : s.data.toList.length = s.size := by simp
  have hsz : s.size = F.length + 1 + D.length := by rw [← hl, hs]; simp; omega
  have at_ : ∀ j, j < s.size → (s.data[j]!) = s.data.toList[j]! := by
    intro j hj
    have h1 : j < s.data.size := hj
    have h2 : j < s.data.toList.length := by simpa using hj
    rw [getElem!_pos s.data j h1, getElem!_pos s.data.toList j h2]
    simp
  rcases Lib.lastIndexByte_spec s 58 with ⟨h, hn⟩ | ⟨i, hi, h, hc, hn⟩
  · exfalso
    have h1 := hn F.length (by omega)
    rw [at_ _ (by omega), hs] at h1
    simp at h1
  · rw [h]
    rw [at_ i hi, hs] at hc
    by_cases h1 : i < F.length
    · exfalso
      have h2 := hn F.length h1 (by omega)
      rw [at_ _ (by omega), hs] at h2
      simp at h2
    · by_cases h2 : i = F.length
      · rw [h2]
      · exfalso
        obtain ⟨j, rfl⟩ : ∃ j, i = F.length + 1 + j := ⟨i - F.length - 1, by omega⟩
        have hj : j < D.length := by omega
        have e : (F ++ 58 :: D)[F.length + 1 + j]! = D[j] := by
          have h3 : F.length + 1 + j < (F ++ 58 :: D).length := by simp; omega
          rw [getElem!_pos (F ++ 58 :: D) (F.length + 1 + j) h3, List.getElem_append_right (by omega)]
          simp [show F.length + 1 + j - F.length = j + 1 from by omega]
        rw [e] at hc
        have h4 : D[j] = 58 := UInt8.toNat_inj.1 (by show D[j].toNat = 58; omega)
        exact hd (h4 ▸ List.getElem_mem hj)
theorem split_of (s : ByteArray) (F D : List UInt8) (hs : s.data.toList = F ++ 58 :: D) (hd : (58 : UInt8) ∉ D) :
    split s = if name F = false then (ByteArray.empty, 0, 10) else if portB (port D) then (⟨(foldB F).toArray⟩, ((port D : Nat) : Int), 0) else (ByteArray.empty, 0, 11) := by
  have h := last_colon s F D hs hd
  rw [split, h, if_neg (by omega), Int.toNat_natCast, hs, List.take_left, show F ++ 58 :: D = (F ++ [58]) ++ D by simp, show F.length + 1 = (F ++ [58]).length by simp, List.drop_left]
/-- WHAT WAS JOINED, SPLIT. -/
theorem split_join (a : List UInt8) (n : Int) (h : name a = true) (hp : portB n = true) : split (joinV a n) = (⟨(foldB a).toArray⟩, n, 0) := by
  have hr : 1 ≤ n ∧ n ≤ 65535 := by simp [portB] at hp; omega
  obtain ⟨f1, f2, f3⟩ := fold_name a h
  have hj : joinV a n = ⟨(foldB a ++ 58 :: Lib.decDigits n.toNat).toArray⟩ := by rw [joinV, h, hp]; rfl
  have e : ((port (Lib.decDigits n.toNat) : Nat) : Int) = n := by rw [port_dec _ (by omega) (by omega)]; omega
  rw [hj, split_of ⟨(foldB a ++ 58 :: Lib.decDigits n.toNat).toArray⟩ _ _ rfl (dec_no_colon _), f1, if_neg (by decide), e, hp, if_pos rfl, f3]
/-- WHAT WAS SPLIT, JOINED. -/
theorem join_split_key (s : ByteArray) (h : (split s).2.2 = 0) : ∃ F D, s.data.toList = F ++ 58 :: D ∧ name F = true ∧ portB (split s).2.1 = true ∧ (split s).1 = ⟨(foldB F).toArray⟩ ∧ Lib.decDigits (split s).2.1.toNat = D := by
  have hl : s.data.toList.length = s.size := by simp
  unfold split at h ⊢
  by_cases h0 : Lib.lastIndexByte s 58 < 0
  · rw [if_pos h0] at h; simp at h
  · rw [if_neg h0] at h ⊢
    obtain ⟨k, hk, hke, hc⟩ : ∃ k : Nat, k < s.size ∧ Lib.lastIndexByte s 58 = k ∧ ((s.data[k]!).toNat : Int) = 58 := by
      rcases Lib.lastIndexByte_spec s 58 with ⟨h, _⟩ | ⟨i, hi, h, hc, _⟩
      · omega
      · exact ⟨i, hi, h, hc⟩
    rw [hke, Int.toNat_natCast] at h ⊢
    cases hn : name (s.data.toList.take k)
    · rw [hn, if_pos rfl] at h; simp at h
    · rw [hn, if_neg (by decide)] at h
      rw [if_neg (by decide)]
      cases hp : portB (port (s.data.toList.drop (k + 1)))
      · rw [hp, if_neg (by decide)] at h; simp at h
      · rw [if_pos rfl]
        have h2 : k < s.data.toList.length := by rw [hl]; exact hk
        have e : s.data.toList[k] = 58 := by
          have h1 : k < s.data.size := hk
          rw [getElem!_pos s.data k h1] at hc
          have : s.data[k] = 58 := UInt8.toNat_inj.1 (by show s.data[k].toNat = 58; omega)
          simpa using this
        refine ⟨s.data.toList.take k, s.data.toList.drop (k + 1), ?_, hn, hp, rfl, ?_⟩
        · rw [← e, ← List.drop_eq_getElem_cons h2, List.take_append_drop]
        · show Lib.decDigits ((port (s.data.toList.drop (k + 1)) : Nat) : Int).toNat = _
          rw [Int.toNat_natCast]; exact dec_port _ hp
theorem split_bad (s : ByteArray) (h : (split s).2.2 ≠ 0) : (split s).1 = ByteArray.empty ∧ (split s).2.1 = 0 := by
  unfold split at h ⊢
  split
  · exact ⟨rfl, rfl⟩
  · rename_i h0
    rw [if_neg h0] at h
    split
    · exact ⟨rfl, rfl⟩
    · rename_i h1
      rw [if_neg h1] at h
      split
      · rename_i h2
        rw [if_pos h2] at h
        exact absurd rfl h
      · exact ⟨rfl, rfl⟩
end Go.Proofs.YtpeohgmceadmeaaDoor.P
namespace Go.Proofs.YtpeohgmceadmeaaDoor
theorem joinV_yes (l : List UInt8) (n : Int) (h : P.name l = true) (hp : P.portB n = true) : P.joinV l n = ⟨(P.foldB l ++ 58 :: Lib.decDigits n.toNat).toArray⟩ ∧ P.joinE l n = 0 := by
  rw [P.joinV, P.joinE, h, hp]; exact ⟨rfl, rfl⟩
theorem joinE_no (l : List UInt8) (n : Int) (h : ¬ (P.name l = true ∧ P.portB n = true)) : P.joinV l n = ByteArray.empty ∧ (P.joinE l n = 10 ∨ P.joinE l n = 11) := by
  rw [P.joinV, P.joinE]
  cases h1 : P.name l
  · exact ⟨rfl, .inl rfl⟩
  · cases h2 : P.portB n
    · exact ⟨rfl, .inr rfl⟩
    · exact absurd ⟨h1, h2⟩ h
end Go.Proofs.YtpeohgmceadmeaaDoor
