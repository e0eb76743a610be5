/- PLAIN LEAN for layer 2: the document's own way to tell addresses: digits, runs, texts. -/
import Derived.Test.YtbejnnkdgcelmaaGreatDoorBackP
set_option linter.unusedSimpArgs false
set_option linter.unusedVariables false
namespace Go.Proofs.YtbejnnkdgcelmaaGreatDoor.P

def dg10 (n : Nat) : List UInt8 := if n = 0 then [] else Lib.decDigits n
def dg16 (n : Nat) : List UInt8 := if n = 0 then [] else hexD n
theorem hexF_stay : ∀ (k n : Nat), n < 16 ^ (k + 1) → hexF (k + 1) n = hexF k n
  | 0, n, h => by
    have h16 : n < 16 := by simpa using h
    rw [hexF_small _ _ h16, hexF_small _ _ h16]
  | k + 1, n, h => by
    by_cases h16 : n < 16
    · rw [hexF_small _ _ h16, hexF_small _ _ h16]
    · rw [hexF, if_neg h16, hexF_stay k (n / 16) (by rw [Nat.pow_succ] at h; omega)]
      conv => rhs; rw [hexF, if_neg h16]
theorem hexC_low (d : Nat) (h : d < 10) : hexC d = UInt8.ofNat (48 + d) := by rw [hexC, if_pos h]
theorem dg10_step (n : Nat) (h : n ≠ 0) : dg10 n = dg10 (n / 10) ++ [hexC (n % 10)] := by
  rw [dg10, if_neg h, hexC_low _ (Nat.mod_lt _ (by omega))]
  by_cases h10 : n < 10
  · rw [dec1 n h10, dg10, if_pos (by omega), Nat.mod_eq_of_lt h10]; rfl
  · rw [dec2 n (by omega), dg10, if_neg (by omega)]
theorem dg16_step (n : Nat) (h : n ≠ 0) (hn : n ≤ 65535) : dg16 n = dg16 (n / 16) ++ [hexC (n % 16)] := by
  rw [dg16, if_neg h]
  by_cases h16 : n < 16
  · rw [hexD, hexF_small _ _ h16, dg16, if_pos (by omega), Nat.mod_eq_of_lt h16]; rfl
  · rw [dg16, if_neg (by omega), hexD, hexD, hexF, if_neg h16, hexF_stay 2 (n / 16) (by omega)]
theorem hexD_zero : hexD 0 = [48] := by decide
theorem dec_zero : Lib.decDigits 0 = [48] := by rw [dec1 0 (by omega)]; rfl

def nz : List Nat → Nat
  | [] => 0
  | g :: l => if g = 0 then nz l + 1 else 0
/-- The first longest run of noughts, two at least: where it is, how long. -/
def runR : List Nat → Nat → Int → Nat → Int × Nat
  | [], _, a, m => (a, m)
  | g :: l, i, a, m => if m < nz (g :: l) then runR l (i + 1) i (nz (g :: l)) else runR l (i + 1) a m
def nzB : List Bool → Nat
  | [] => 0
  | b :: l => if b then nzB l + 1 else 0
def runRB : List Bool → Nat → Int → Nat → Int × Nat
  | [], _, a, m => (a, m)
  | b :: l, i, a, m => if m < nzB (b :: l) then runRB l (i + 1) i (nzB (b :: l)) else runRB l (i + 1) a m
def runFB : List Bool → Nat → Nat → Nat → Nat → Nat × Nat
  | [], _, _, f, t => (f, t)
  | g :: l, i, b, f, t => if g then (if 2 ≤ i + 1 - b ∧ t - f < i + 1 - b then runFB l (i + 1) b b (i + 1) else runFB l (i + 1) b f t) else runFB l (i + 1) (i + 1) f t
theorem nz_map : ∀ l : List Nat, nz l = nzB (l.map (· == 0))
  | [] => rfl
  | g :: l => by
    rw [nz, List.map_cons, nzB, nz_map l]
    by_cases h : g = 0 <;> simp [h]
theorem runR_map : ∀ (l : List Nat) (i : Nat) (a : Int) (m : Nat), runR l i a m = runRB (l.map (· == 0)) i a m
  | [], _, _, _ => rfl
  | g :: l, i, a, m => by
    rw [runR, List.map_cons, runRB, nz_map (g :: l), List.map_cons, runR_map l, runR_map l]
theorem runF_map : ∀ (l : List Nat) (i b f t : Nat), runF l i b f t = runFB (l.map (· == 0)) i b f t
  | [], _, _, _, _ => rfl
  | g :: l, i, b, f, t => by
    rw [runF, List.map_cons, runFB, runF_map l, runF_map l, runF_map l]
    by_cases h : g = 0 <;> simp [h]
def runT (l : List Bool) : Bool := runRB l 0 (-1) 1 == (if (runFB l 0 0 0 0).1 = (runFB l 0 0 0 0).2 then (-1, 1) else (((runFB l 0 0 0 0).1 : Int), (runFB l 0 0 0 0).2 - (runFB l 0 0 0 0).1))
theorem runT_all : ∀ b0 b1 b2 b3 b4 b5 b6 b7 : Bool, runT [b0, b1, b2, b3, b4, b5, b6, b7] = true := by decide +kernel
theorem run_same (gs : List Nat) (h : gs.length = 8) : runR gs 0 (-1) 1 = if (runP gs).1 = (runP gs).2 then (-1, 1) else (((runP gs).1 : Int), (runP gs).2 - (runP gs).1) := by
  obtain ⟨y0, y1, y2, y3, y4, y5, y6, y7, rfl⟩ := list8 gs h
  have := runT_all (y0 == 0) (y1 == 0) (y2 == 0) (y3 == 0) (y4 == 0) (y5 == 0) (y6 == 0) (y7 == 0)
  rw [runT, beq_iff_eq] at this
  rw [runR_map, runP, runF_map]
  simpa only [List.map_cons, List.map_nil] using this

theorem tellG_nil : tellG [] = [] := by simp [tellG, Lib.join_nil]
theorem join_snoc (c : UInt8) : ∀ (ts : List (List UInt8)) (t : List UInt8), ts ≠ [] → Lib.join (ts ++ [t]) [c] = Lib.join ts [c] ++ c :: t
  | [], _, h => absurd rfl h
  | [a], t, _ => by rw [show [a] ++ [t] = [a, t] from rfl, join_two, Lib.join_cons, Lib.join_cons]; simp [Lib.joinTail]
  | a :: b :: r, t, _ => by
    rw [show (a :: b :: r) ++ [t] = a :: b :: (r ++ [t]) from rfl, join_two, join_two, show b :: (r ++ [t]) = (b :: r) ++ [t] from rfl, join_snoc c (b :: r) t (by simp)]
    simp
theorem tellG_one (g : Nat) : tellG [g] = hexD g := by rw [tellG, List.map_cons, List.map_nil, Lib.join_cons]; simp [Lib.joinTail]
theorem tellG_snoc (l : List Nat) (g : Nat) (h : l ≠ []) : tellG (l ++ [g]) = tellG l ++ 58 :: hexD g := by
  rw [tellG, List.map_append, List.map_cons, List.map_nil, join_snoc 58 _ _ (by simpa using h)]; rfl
theorem hexD_snoc (g : Nat) : ∃ x b, hexD g = x ++ [b] ∧ b ≠ 58 := by
  obtain ⟨h1, h2⟩ := hexD_ok g
  refine ⟨(hexD g).dropLast, (hexD g).getLast h1, (List.dropLast_concat_getLast h1).symm, ?_⟩
  intro e
  exact h2 (e ▸ List.getLast_mem h1)
theorem tellG_last (l : List Nat) (h : l ≠ []) : ∃ x b, tellG l = x ++ [b] ∧ b ≠ 58 := by
  obtain ⟨y, b, hy, hb⟩ := hexD_snoc (l.getLast h)
  have e : l = l.dropLast ++ [l.getLast h] := (List.dropLast_concat_getLast h).symm
  by_cases h0 : l.dropLast = []
  · rw [h0, List.nil_append] at e
    refine ⟨y, b, ?_, hb⟩
    rw [← hy, ← tellG_one]
    exact congrArg tellG e
  · refine ⟨tellG l.dropLast ++ 58 :: y, b, ?_, hb⟩
    have h2 := tellG_snoc l.dropLast (l.getLast h) h0
    rw [← e, hy] at h2
    rw [h2]; simp

/-- What has been told of eight groups ahead of the i-th, if those from F on till T are left out. -/
def sixS (gs : List Nat) (F T i : Nat) : List UInt8 := if i ≤ F then tellG (gs.take i) else tellG (gs.take F) ++ (58 :: 58 :: tellG ((gs.drop T).take (i - T)))
theorem sixS_zero (gs : List Nat) (F T : Nat) : sixS gs F T 0 = [] := by rw [sixS, if_pos (by omega), List.take_zero, tellG_nil]
theorem sixS_jump (gs : List Nat) (F T : Nat) (h : F < T) : sixS gs F T T = sixS gs F T F ++ [58, 58] := by
  rw [sixS, if_neg (by omega), sixS, if_pos (by omega), Nat.sub_self, List.take_zero, tellG_nil]
/-- What comes behind: a group, with a colon ahead of it unless there is nothing, or a colon. -/
def sixA (s : List UInt8) (g : Nat) : List UInt8 := if s = [] ∨ s.getLast? = some 58 then hexD g else 58 :: hexD g
theorem sixA_tell (l : List Nat) (g : Nat) : tellG (l ++ [g]) = tellG l ++ sixA (tellG l) g := by
  by_cases h : l = []
  · subst h; rw [tellG_nil, sixA, if_pos (Or.inl rfl)]; simpa using tellG_one g
  · obtain ⟨x, b, hx, hb⟩ := tellG_last l h
    rw [tellG_snoc l g h, sixA, if_neg]
    rw [hx]; simp [hb]
theorem sixS_step (gs : List Nat) (F T i g : Nat) (h : i < F ∨ (F < T ∧ T ≤ i)) (hg : gs[i]? = some g) : sixS gs F T (i + 1) = sixS gs F T i ++ sixA (sixS gs F T i) g := by
  rcases h with h | ⟨h1, h2⟩
  · rw [sixS, if_pos (by omega), sixS, if_pos (by omega), List.take_add_one, hg]
    exact sixA_tell _ _
  · have e : (gs.drop T).take (i + 1 - T) = (gs.drop T).take (i - T) ++ [g] := by
      rw [show i + 1 - T = (i - T) + 1 by omega, List.take_add_one, List.getElem?_drop, show T + (i - T) = i by omega, hg]; rfl
    rw [sixS, if_neg (by omega), sixS, if_neg (by omega), e]
    by_cases h0 : (gs.drop T).take (i - T) = []
    · rw [h0, List.nil_append, tellG_one, tellG_nil, sixA, if_pos]
      · simp
      · exact Or.inr (by simp)
    · obtain ⟨x, b, hx, hb⟩ := tellG_last _ h0
      rw [tellG_snoc _ _ h0, sixA, if_neg]
      · simp
      · rw [hx, show tellG (gs.take F) ++ (58 :: 58 :: (x ++ [b])) = (tellG (gs.take F) ++ (58 :: 58 :: x)) ++ [b] by simp]
        rintro (h | h)
        · simp at h
        · rw [List.getLast?_concat] at h; exact hb (Option.some.inj h)
theorem sixS_none (gs : List Nat) (h8 : gs.length = 8) (h : (runP gs).1 = (runP gs).2) : sixS gs 8 0 8 = tell6 gs := by
  rw [sixS, if_pos (by omega), tell6, if_pos h, List.take_of_length_le (by omega)]
theorem sixS_some (gs : List Nat) (h8 : gs.length = 8) (h : (runP gs).1 ≠ (runP gs).2) : sixS gs (runP gs).1 (runP gs).2 8 = tell6 gs := by
  have := runP_le gs
  rw [sixS, if_neg (by omega), tell6, if_neg h, List.take_of_length_le (l := gs.drop _) (by rw [List.length_drop]; omega)]
theorem sixS_len (gs : List Nat) (F T i : Nat) (h8 : gs.length = 8) : (sixS gs F T i).length ≤ 82 := by
  have a := tellG_len (gs.take i)
  have b := tellG_len (gs.take F)
  have c := tellG_len ((gs.drop T).take (i - T))
  rw [List.length_take] at a b c
  rw [List.length_drop] at c
  unfold sixS
  split
  · omega
  · simp only [List.length_append, List.length_cons]
    omega
end Go.Proofs.YtbejnnkdgcelmaaGreatDoor.P
