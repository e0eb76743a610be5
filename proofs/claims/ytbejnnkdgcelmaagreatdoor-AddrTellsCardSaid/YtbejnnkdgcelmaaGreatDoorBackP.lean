/- PLAIN LEAN for layer 2: what is told reads as what it was. -/
import Derived.Test.YtbejnnkdgcelmaaGreatDoorParseB
set_option linter.unusedSimpArgs false
set_option linter.unusedVariables false
namespace Go.Proofs.YtbejnnkdgcelmaaGreatDoor.P

/-! Cutting at a sign. -/
theorem idx1_none (c : UInt8) : ∀ l : List UInt8, c ∉ l → Lib.index l [c] = -1
  | [], _ => rfl
  | b :: l, h => by
    rw [List.mem_cons, not_or] at h
    have hb : (c == b) = false := by rw [beq_eq_false_iff_ne]; exact h.1
    unfold Lib.index
    rw [idx1_none c l h.2]
    simp [List.isPrefixOf, hb]
theorem idx1_at (c : UInt8) : ∀ (x y : List UInt8), c ∉ x → Lib.index (x ++ c :: y) [c] = x.length
  | [], y, _ => by simp [Lib.index, List.isPrefixOf]
  | b :: x, y, h => by
    rw [List.mem_cons, not_or] at h
    have hb : (c == b) = false := by rw [beq_eq_false_iff_ne]; exact h.1
    rw [List.cons_append, Lib.index, idx1_at c x y h.2]
    have h1 : (((x.length : Nat) : Int) == -1) = false := by rw [beq_eq_false_iff_ne]; omega
    simp [List.isPrefixOf, hb, h1]
theorem splitK_none (c : UInt8) (k : Nat) (s : List UInt8) (h : c ∉ s) : Lib.splitK [c] 0 k s = [s] := by
  cases k with
  | zero => rfl
  | succ k => rw [Lib.splitK, idx1_none c s h]; simp
theorem splitK_cons (c : UInt8) (k : Nat) (x y : List UInt8) (h : c ∉ x) : Lib.splitK [c] 0 (k + 1) (x ++ c :: y) = x :: Lib.splitK [c] 0 k y := by
  rw [Lib.splitK, idx1_at c x y h]
  have h1 : (((x.length : Nat) : Int) == -1) = false := by rw [beq_eq_false_iff_ne]; omega
  rw [h1]
  simp
theorem join_two (c : UInt8) (x y : List UInt8) (r : List (List UInt8)) : Lib.join (x :: y :: r) [c] = x ++ c :: Lib.join (y :: r) [c] := by
  rw [Lib.join_cons, Lib.join_cons]
  simp [Lib.joinTail]
theorem splitK_join (c : UInt8) : ∀ (ts : List (List UInt8)) (k : Nat), ts ≠ [] → (∀ t ∈ ts, c ∉ t) → ts.length ≤ k + 1 → Lib.splitK [c] 0 k (Lib.join ts [c]) = ts
  | [], _, h, _, _ => absurd rfl h
  | [x], k, _, h, _ => by rw [Lib.join_one]; exact splitK_none c k x (h x (by simp))
  | x :: y :: r, k, _, h, hl => by
    obtain ⟨k, rfl⟩ : ∃ m, k = m + 1 := ⟨k - 1, by simp at hl; omega⟩
    rw [join_two, splitK_cons c k _ _ (h x (by simp)), splitK_join c (y :: r) k (by simp) (fun t ht => h t (List.mem_cons_of_mem _ ht)) (by simp at hl ⊢; omega)]
theorem join_len (c : UInt8) : ∀ ts : List (List UInt8), ts.length ≤ (Lib.join ts [c]).length + 1
  | [] => by simp
  | [x] => by simp
  | x :: y :: r => by
    have := join_len c (y :: r)
    rw [join_two]
    simp only [List.length_append, List.length_cons] at this ⊢
    omega
theorem splitN_join (c : UInt8) (ts : List (List UInt8)) (n : Nat) (h0 : ts ≠ []) (h : ∀ t ∈ ts, c ∉ t) (hn : ts.length ≤ n) : Lib.splitN (Lib.join ts [c]) [c] n = ts := by
  unfold Lib.splitN
  refine splitK_join c ts _ h0 h ?_
  have := join_len c ts
  omega

/-! Two colons. -/
def sh (n : Nat) (i : Int) : Int := if i = -1 then -1 else n + i
theorem idx2_free : ∀ (x r : List UInt8), (58 : UInt8) ∉ x → Lib.index (x ++ r) [58, 58] = sh x.length (Lib.index r [58, 58])
  | [], r, _ => by
    unfold sh
    split
    · simp_all
    · simp
  | b :: x, r, h => by
    rw [List.mem_cons, not_or] at h
    have hb : ((58 : UInt8) == b) = false := by rw [beq_eq_false_iff_ne]; exact h.1
    rw [List.cons_append, Lib.index, idx2_free x r h.2]
    simp only [List.isPrefixOf, hb, Bool.false_and, Bool.false_eq_true, if_false]
    have hge := Lib.index_ge r [58, 58]
    unfold sh
    by_cases h1 : Lib.index r [58, 58] = -1
    · simp [h1]
    · have h2 : (((x.length : Nat) : Int) + Lib.index r [58, 58] == -1) = false := by rw [beq_eq_false_iff_ne]; omega
      simp only [h1, if_false, h2, Bool.false_eq_true, List.length_cons]
      omega
theorem idx2_one (d : UInt8) (r : List UInt8) (h : d ≠ 58) : Lib.index (58 :: d :: r) [58, 58] = sh 1 (Lib.index (d :: r) [58, 58]) := by
  have hd : ((58 : UInt8) == d) = false := by rw [beq_eq_false_iff_ne]; exact fun e => h e.symm
  have hge := Lib.index_ge (d :: r) [58, 58]
  rw [Lib.index]
  simp only [List.isPrefixOf, hd, Bool.false_and, Bool.and_false, Bool.false_eq_true, if_false]
  unfold sh
  by_cases h1 : Lib.index (d :: r) [58, 58] = -1
  · simp [h1]
  · have h2 : (Lib.index (d :: r) [58, 58] == -1) = false := by rw [beq_eq_false_iff_ne]; exact h1
    simp only [h1, if_false, h2, Bool.false_eq_true]
    omega
theorem sh_sh (a b : Nat) (i : Int) (h : -1 ≤ i) : sh a (sh b i) = sh (a + b) i := by
  unfold sh
  by_cases h1 : i = -1
  · simp [h1]
  · simp only [h1, if_false]
    rw [if_neg (by omega)]
    omega
theorem idx2_join : ∀ (ts : List (List UInt8)) (R : List UInt8), ts ≠ [] → (∀ t ∈ ts, t ≠ [] ∧ (58 : UInt8) ∉ t) → Lib.index (Lib.join ts [58] ++ R) [58, 58] = sh (Lib.join ts [58]).length (Lib.index R [58, 58])
  | [], _, h, _ => absurd rfl h
  | [x], R, _, h => by rw [Lib.join_one]; exact idx2_free x R (h x (by simp)).2
  | x :: y :: r, R, _, h => by
    have ih := idx2_join (y :: r) R (by simp) (fun t ht => h t (List.mem_cons_of_mem _ ht))
    rw [join_two, List.append_assoc, idx2_free _ _ (h x (by simp)).2, List.cons_append]
    obtain ⟨d, y', hy⟩ : ∃ d y', y = d :: y' := by
      cases y with
      | nil => exact absurd rfl (h [] (by simp)).1
      | cons d y' => exact ⟨d, y', rfl⟩
    have hd : d ≠ 58 := by
      intro e
      have := (h y (by simp)).2
      rw [hy, e] at this
      simp at this
    obtain ⟨q, hq⟩ : ∃ q, Lib.join (y :: r) [58] ++ R = d :: q := by rw [Lib.join_cons, hy]; exact ⟨_, rfl⟩
    have hge := Lib.index_ge R [58, 58]
    rw [hq, idx2_one d q hd, ← hq, ih, sh_sh _ _ _ hge, sh_sh _ _ _ hge]
    congr 1
    simp only [List.length_append, List.length_cons]
    omega
theorem cut_none (ts : List (List UInt8)) (h0 : ts ≠ []) (h : ∀ t ∈ ts, t ≠ [] ∧ (58 : UInt8) ∉ t) : Lib.cut (Lib.join ts [58]) [58, 58] = (Lib.join ts [58], [], false) := by
  have := idx2_join ts [] h0 h
  rw [List.append_nil] at this
  unfold Lib.cut
  rw [this]
  rfl
theorem cut_at (ts : List (List UInt8)) (R : List UInt8) (h : ∀ t ∈ ts, t ≠ [] ∧ (58 : UInt8) ∉ t) : Lib.cut (Lib.join ts [58] ++ (58 :: 58 :: R)) [58, 58] = (Lib.join ts [58], R, true) := by
  have h1 : Lib.index (58 :: 58 :: R) [58, 58] = 0 := by simp [Lib.index, List.isPrefixOf]
  have h2 : Lib.index (Lib.join ts [58] ++ (58 :: 58 :: R)) [58, 58] = ((Lib.join ts [58]).length : Nat) := by
    cases ts with
    | nil => exact h1
    | cons x r =>
      rw [idx2_join (x :: r) _ (by simp) h, h1]
      simp [sh]
  unfold Lib.cut
  rw [h2, if_pos (by omega)]
  simp

/-! Groups. -/
theorem grpF_append : ∀ (l m : List UInt8) (n : Nat), grpF n (l ++ m) = (grpF n l).bind fun k => grpF k m
  | [], m, n => rfl
  | b :: l, m, n => by
    rw [List.cons_append]
    cases hb : hexB b with
    | none => rw [grpF_none _ _ _ hb, grpF_none _ _ _ hb]; rfl
    | some d => rw [grpF_some _ _ _ _ hb, grpF_some _ _ _ _ hb]; exact grpF_append l m _
theorem hexB_hexC : ∀ d, d < 16 → hexB (hexC d) = some d := by decide
theorem hexC_colon : ∀ d, d < 16 → hexC d ≠ 58 := by decide
theorem grpF_hexF : ∀ (k n : Nat), n < 16 ^ (k + 1) → grpF 0 (hexF k n) = some n
  | 0, n, h => by
    rw [hexF, grpF, hexB_hexC _ (by omega)]
    simp [grpF]; omega
  | k + 1, n, h => by
    unfold hexF
    split
    · rw [grpF, hexB_hexC _ (by omega)]; simp [grpF]
    · rw [grpF_append, grpF_hexF k (n / 16) (by rw [Nat.pow_succ] at h; omega), Option.bind_some, grpF, hexB_hexC _ (by omega)]
      simp [grpF]; omega
theorem hexF_colon : ∀ (k n : Nat), (58 : UInt8) ∉ hexF k n
  | 0, n => by
    rw [hexF, List.mem_singleton]
    exact fun e => hexC_colon _ (by omega) e.symm
  | k + 1, n => by
    unfold hexF
    split
    · rw [List.mem_singleton]; exact fun e => hexC_colon _ (by omega) e.symm
    · rw [List.mem_append, List.mem_singleton, not_or]
      exact ⟨hexF_colon k _, fun e => hexC_colon _ (by omega) e.symm⟩
theorem grpP_hexD (g : Nat) (h : g ≤ 65535) : grpP (hexD g) = some g := by
  have hl := hexD_len g
  unfold grpP
  rw [if_neg]
  · exact grpF_hexF 3 g (by omega)
  · rintro (e | e)
    · rw [e] at hl; simp at hl
    · omega
theorem hexD_ok (g : Nat) : hexD g ≠ [] ∧ (58 : UInt8) ∉ hexD g := by
  refine ⟨fun e => ?_, hexF_colon 3 g⟩
  have hl := hexD_len g
  rw [e] at hl; simp at hl
theorem grpsF_map (tell : Nat → List UInt8) : ∀ (gs : List Nat), (∀ g ∈ gs, grpP (tell g) = some g) → grpsF (gs.map tell) = some gs
  | [], _ => rfl
  | g :: gs, h => by
    rw [List.map_cons, grpsF, h g (by simp), grpsF_map tell gs (fun x hx => h x (by simp [hx]))]
    rfl
theorem join_ne (c : UInt8) (ts : List (List UInt8)) (h0 : ts ≠ []) (h : ∀ t ∈ ts, t ≠ []) : Lib.join ts [c] ≠ [] := by
  cases ts with
  | nil => exact absurd rfl h0
  | cons x r =>
    rw [Lib.join_cons]
    intro e
    exact h x (by simp) (List.append_eq_nil_iff.1 e).1
/-- Groups told by any way that reads back are read back. -/
theorem grpsP_join (tell : Nat → List UInt8) (gs : List Nat) (hl : gs.length ≤ 9) (hr : ∀ g ∈ gs, grpP (tell g) = some g) (ht : ∀ g ∈ gs, tell g ≠ [] ∧ (58 : UInt8) ∉ tell g) : grpsP (Lib.join (gs.map tell) [58]) = some gs := by
  cases gs with
  | nil => rfl
  | cons g gs =>
    unfold grpsP
    rw [if_neg (join_ne 58 _ (by simp) (fun t h => by rw [List.mem_map] at h; obtain ⟨x, hx, rfl⟩ := h; exact (ht x hx).1)),
      splitN_join 58 _ 9 (by simp) (fun t h => by rw [List.mem_map] at h; obtain ⟨x, hx, rfl⟩ := h; exact (ht x hx).2) (by simpa using hl)]
    exact grpsF_map tell _ hr
/-- Eight groups, all of them told. -/
theorem sixP_eight (tell : Nat → List UInt8) (gs : List Nat) (h8 : gs.length = 8) (hr : ∀ g ∈ gs, grpP (tell g) = some g) (ht : ∀ g ∈ gs, tell g ≠ [] ∧ (58 : UInt8) ∉ tell g) : sixP (Lib.join (gs.map tell) [58]) = some gs := by
  have hne : gs.map tell ≠ [] := by intro e; have := congrArg List.length e; simp at this; subst this; simp at h8
  unfold sixP
  rw [cut_none _ hne (fun t h => by rw [List.mem_map] at h; obtain ⟨x, hx, rfl⟩ := h; exact ht x hx), grpsP_join tell gs (by omega) hr ht]
  show sixG gs [] false = some gs
  unfold sixG
  rw [if_neg (by simp [h8])]
  simp [h8]

/-! Numbers. -/
theorem numF_append (most : Nat) : ∀ (l m : List UInt8) (n : Nat), numF most n (l ++ m) = (numF most n l).bind fun k => numF most k m
  | [], m, n => rfl
  | b :: l, m, n => by
    rw [List.cons_append]
    cases hb : digB b with
    | false => rw [numF_bad _ _ _ _ hb, numF_bad _ _ _ _ hb]; rfl
    | true =>
      by_cases h2 : 10 * n + (b.toNat - 48) ≤ most
      · rw [numF_dig _ _ _ _ hb h2, numF_dig _ _ _ _ hb h2]; exact numF_append most l m _
      · rw [numF_big _ _ _ _ h2, numF_big _ _ _ _ h2]; rfl
theorem dec1 (u : Nat) (h : u < 10) : Lib.decDigits u = [UInt8.ofNat (48 + u)] := by rw [Lib.decDigits, dif_pos h]
theorem dec2 (u : Nat) (h : 10 ≤ u) : Lib.decDigits u = Lib.decDigits (u / 10) ++ [UInt8.ofNat (48 + u % 10)] := by rw [Lib.decDigits, dif_neg (by omega)]
theorem digit_nat (r : Nat) (h : r < 10) : (UInt8.ofNat (48 + r)).toNat = 48 + r := by simp; omega
theorem numF_digit (most n r : Nat) (h : r < 10) (hm : 10 * n + r ≤ most) : numF most n [UInt8.ofNat (48 + r)] = some (10 * n + r) := by
  have hd := digit_nat r h
  rw [numF, if_pos (by unfold digB; rw [hd]; simp; omega), hd, show 48 + r - 48 = r from by omega, if_pos hm]
  rfl
theorem numF_dec (most : Nat) (u : Nat) : u ≤ most → numF most 0 (Lib.decDigits u) = some u := by
  induction u using Nat.strongRecOn with
  | _ u ih =>
    intro hu
    by_cases h : u < 10
    · rw [dec1 u h, numF_digit most 0 u h (by omega)]; simp
    · rw [dec2 u (by omega), numF_append, ih (u / 10) (by omega) (by omega), Option.bind_some, numF_digit most _ _ (by omega) (by omega)]
      congr 1; omega
theorem dec_head (u : Nat) (h1 : 1 ≤ u) : ∃ b l, Lib.decDigits u = b :: l ∧ b ≠ 48 := by
  induction u using Nat.strongRecOn with
  | _ u ih =>
    by_cases h : u < 10
    · refine ⟨_, [], dec1 u h, fun e => ?_⟩
      have := congrArg UInt8.toNat e
      rw [digit_nat u h] at this
      simp at this; omega
    · obtain ⟨b, l, h2, h3⟩ := ih (u / 10) (by omega) (by omega)
      exact ⟨b, l ++ [UInt8.ofNat (48 + u % 10)], by rw [dec2 u (by omega), h2]; rfl, h3⟩
theorem numP_dec (most u : Nat) (h : u ≤ most) : numP most (Lib.decDigits u) = some u := by
  by_cases h0 : u = 0
  · subst h0
    rw [dec1 0 (by omega)]
    unfold numP
    rw [if_neg (by simp), if_neg (by simp), show ([UInt8.ofNat (48 + 0)] : List UInt8) = Lib.decDigits 0 from (dec1 0 (by omega)).symm]
    exact numF_dec most 0 h
  · obtain ⟨b, l, h2, h3⟩ := dec_head u (by omega)
    unfold numP
    rw [if_neg (by rw [h2]; simp), if_neg (by rw [h2]; simp [h3]), numF_dec most u h]
theorem dec_dig (u : Nat) : ∀ b ∈ Lib.decDigits u, 48 ≤ b.toNat ∧ b.toNat ≤ 57 := by
  induction u using Nat.strongRecOn with
  | _ u ih =>
    intro b hb
    by_cases h : u < 10
    · rw [dec1 u h, List.mem_singleton] at hb
      subst hb
      rw [digit_nat u h]; omega
    · rw [dec2 u (by omega), List.mem_append, List.mem_singleton] at hb
      rcases hb with hb | rfl
      · exact ih (u / 10) (by omega) b hb
      · rw [digit_nat _ (by omega)]; omega
theorem dec_free (u : Nat) (c : UInt8) (hc : c.toNat < 48 ∨ 57 < c.toNat) : c ∉ Lib.decDigits u := fun h => by
  have := dec_dig u c h
  omega

/-! The last colon. -/
theorem last_colon (s : ByteArray) (F D : List UInt8) (hs : s.data.toList = F ++ 58 :: D) (hd : (58 : UInt8) ∉ D) : Lib.lastIndexByte s 58 = F.length := by
  have hl : s.data.toList.length = s.size := by simp
  have hsz : s.size = F.length + 1 + D.length := by rw [← hl, hs]; simp; omega
  have at_ : ∀ j, j < s.size → (s.data[j]!) = s.data.toList[j]! := by
    intro j hj
    have h1 : j < s.data.size := hj
    have h2 : j < s.data.toList.length := by simpa using hj
    rw [getElem!_pos s.data j h1, getElem!_pos s.data.toList j h2]
    simp
  rcases Lib.lastIndexByte_spec s 58 with ⟨h, hn⟩ | ⟨i, hi, h, hc, hn⟩
  · exfalso
    have h1 := hn F.length (by omega)
    rw [at_ _ (by omega), hs] at h1
    simp at h1
  · rw [h]
    rw [at_ i hi, hs] at hc
    by_cases h1 : i < F.length
    · exfalso
      have h2 := hn F.length h1 (by omega)
      rw [at_ _ (by omega), hs] at h2
      simp at h2
    · by_cases h2 : i = F.length
      · rw [h2]
      · exfalso
        obtain ⟨j, rfl⟩ : ∃ j, i = F.length + 1 + j := ⟨i - F.length - 1, by omega⟩
        have hj : j < D.length := by omega
        have e : (F ++ 58 :: D)[F.length + 1 + j]! = D[j] := by
          have h3 : F.length + 1 + j < (F ++ 58 :: D).length := by simp; omega
          rw [getElem!_pos (F ++ 58 :: D) (F.length + 1 + j) h3, List.getElem_append_right (by omega)]
          simp [show F.length + 1 + j - F.length = j + 1 from by omega]
        rw [e] at hc
        have h4 : D[j] = 58 := UInt8.toNat_inj.1 (by show D[j].toNat = 58; omega)
        exact hd (h4 ▸ List.getElem_mem hj)
/-- What reads as an address: a host that reads, a colon, the port's digits. -/
theorem parseP_of (F : List UInt8) (p : Nat) (gs : List Nat) (hp1 : 1 ≤ p) (hp2 : p ≤ 65535) (hR : (hostR F).2 = some gs) (hm : mayP (adMk (hostR F).1 gs p) = true) : parseP ⟨(F ++ 58 :: Lib.decDigits p).toArray⟩ = some (adMk (hostR F).1 gs p) := by
  have hl := last_colon ⟨(F ++ 58 :: Lib.decDigits p).toArray⟩ F (Lib.decDigits p) rfl (dec_free p 58 (by decide))
  unfold parseP
  rw [hl, if_neg (by omega), Int.toNat_natCast]
  rw [show (⟨(F ++ 58 :: Lib.decDigits p).toArray⟩ : ByteArray).data.toList = F ++ 58 :: Lib.decDigits p from by simp, List.take_left, show F ++ 58 :: Lib.decDigits p = (F ++ [58]) ++ Lib.decDigits p by simp,
    show F.length + 1 = (F ++ [58]).length by simp, List.drop_left, numP_dec 65535 p hp2, hR]
  show (if mayP (adMk (hostR F).1 gs p) = true then some (adMk (hostR F).1 gs p) else none) = _
  rw [if_pos hm]
theorem hostR_six (T : List UInt8) : hostR (91 :: (T ++ [93])) = (6, sixP T) := by
  have e1 : Lib.hasPrefix (91 :: (T ++ [93])) [91] = true := by simp [Lib.hasPrefix, List.isPrefixOf]
  have e2 : Lib.trimPrefix (91 :: (T ++ [93])) [91] = T ++ [93] := by unfold Lib.trimPrefix; rw [e1, if_pos rfl]; rfl
  have e3 : Lib.hasSuffix (T ++ [93]) [93] = true := by simp [Lib.hasSuffix]
  have e4 : Lib.trimSuffix (T ++ [93]) [93] = T := by unfold Lib.trimSuffix; rw [e3, if_pos rfl]; simp
  unfold hostR
  rw [e1, e2, e3, e4, if_pos ⟨rfl, rfl⟩]
end Go.Proofs.YtbejnnkdgcelmaaGreatDoor.P
