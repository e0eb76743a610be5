/- For layer 14, about lists alone: paces. -/
import Derived.Test.YtpncgcaepdkcnaaAge1
import Derived.Test.YtpncgcaepdkcnaaPure
set_option linter.unusedSimpArgs false
set_option linter.unusedVariables false
namespace Go.Proofs.Ytpncgcaepdkcnaa
open R3

def startsL (l : List Pc) : List Int := (l.filter (fun x => !x.fail)).map Pc.at_
def failedL (l : List Pc) (n : Int) : Bool := l.any (fun x => x.fail && decide (x.n = n))
def riseP (l : List Pc) (x : Pc) : Bool := match l.getLast? with
  | some y => decide (y.at_ ≤ x.at_)
  | none => true
/-- Whether the next one of a history keeps the pace. -/
def okP (g : Int) (l : List Pc) (x : Pc) : Bool := riseP l x && (if x.fail then decide (0 ≤ x.n) && decide (x.n < (startsL l).length) && !failedL l x.n else decide (x.n = (startsL l).length) && (decide (x.n ≤ 0) || failedL l (x.n - 1) || P.old ((startsL l).getD (x.n - 1).toNat 0) g x.at_))
def keepsF (g : Int) : List Pc → List Pc → Bool
  | _, [] => true
  | l, x :: m => okP g l x && keepsF g (l ++ [x]) m
def keepsP (g : Int) (l : List Pc) : Bool := keepsF g [] l
theorem keepsF_app (g : Int) : ∀ (m k l : List Pc), keepsF g l (m ++ k) = (keepsF g l m && keepsF g (l ++ m) k)
  | [], k, l => by simp [keepsF]
  | x :: m, k, l => by
    show (okP g l x && keepsF g (l ++ [x]) (m ++ k)) = ((okP g l x && keepsF g (l ++ [x]) m) && _)
    rw [keepsF_app g m k (l ++ [x]), Bool.and_assoc, List.append_assoc]; rfl
theorem keeps_snoc (g : Int) (l : List Pc) (x : Pc) : keepsP g (l ++ [x]) = (keepsP g l && okP g l x) := by
  unfold keepsP
  rw [keepsF_app]
  simp [keepsF]
theorem keeps_take {g : Int} {l : List Pc} (h : keepsP g l = true) (k : Nat) : keepsP g (l.take k) = true := by
  have e : keepsP g (l.take k ++ l.drop k) = true := by rw [List.take_append_drop]; exact h
  unfold keepsP at e ⊢
  rw [keepsF_app, Bool.and_eq_true] at e
  exact e.1
theorem starts_app (l m : List Pc) : startsL (l ++ m) = startsL l ++ startsL m := by unfold startsL; rw [List.filter_append, List.map_append]
theorem starts_len (l : List Pc) : (startsL l).length ≤ l.length := by
  unfold startsL
  rw [List.length_map]
  exact List.length_filter_le _ _
theorem starts_take (l : List Pc) (k : Nat) : startsL (l.take k) = (startsL l).take (startsL (l.take k)).length := by
  have e : startsL l = startsL (l.take k) ++ startsL (l.drop k) := by rw [← starts_app, List.take_append_drop]
  rw [e, List.take_left]
theorem failed_app (l m : List Pc) (n : Int) : failedL (l ++ m) n = (failedL l n || failedL m n) := List.any_append

/-! What is planned. -/
def planF (g : Int) : Nat → Int → List Int
  | 0, _ => []
  | k + 1, t => t :: planF g k (P.plus t g)
def planN (n : Int) : Nat := (min (max n 0) 8).toNat
def planL (n t g : Int) : List Int := planF g (planN n) (P.clamp t)
theorem planF_len (g : Int) : ∀ (k : Nat) (t : Int), (planF g k t).length = k
  | 0, _ => rfl
  | k + 1, t => by rw [planF, List.length_cons, planF_len g k]
theorem plan_len (n t g : Int) : (planL n t g).length = planN n := planF_len _ _ _
theorem planN_le (n : Int) : planN n ≤ 8 := by unfold planN; omega
theorem planN_int (n : Int) : (planN n : Int) = min (max n 0) 8 := by unfold planN; omega
theorem planF_at (g : Int) : ∀ (k : Nat) (t : Int) (i : Nat) (x y : Int), (planF g k t)[i]? = some x → (planF g k t)[i + 1]? = some y → y = P.plus x g
  | 0, _, i, x, y, h, _ => by simp [planF] at h
  | k + 1, t, 0, x, y, h, h2 => by
    simp [planF] at h h2
    subst h
    cases k with
    | zero => simp [planF] at h2
    | succ k => simp [planF] at h2; exact h2.symm
  | k + 1, t, i + 1, x, y, h, h2 => by
    simp [planF] at h h2
    exact planF_at g k _ i x y h h2
theorem planF_in (g : Int) : ∀ (k : Nat) (t : Int), 0 ≤ t → t ≤ 1073741824 → ∀ x ∈ planF g k t, 0 ≤ x ∧ x ≤ 1073741824
  | 0, _, _, _, x, h => by simp [planF] at h
  | k + 1, t, h0, h1, x, h => by
    rcases List.mem_cons.1 h with rfl | h
    · exact ⟨h0, h1⟩
    · exact planF_in g k _ (P.plus_ge _ _) (P.plus_le _ _) x h
theorem plan_in (n t g : Int) : ∀ x ∈ planL n t g, 0 ≤ x ∧ x ≤ 1073741824 := planF_in g _ _ (P.clamp_ge _) (P.clamp_le _)
theorem plan_first {n t g : Int} {x : Int} (h : (planL n t g)[0]? = some x) : x = P.clamp t := by
  unfold planL at h
  cases hk : planN n with
  | zero => rw [hk] at h; simp [planF] at h
  | succ k => rw [hk] at h; simp [planF] at h; exact h.symm
/-- A plan as a history. -/
def asPc (p : List Int) : List Pc := p.zipIdx.map (fun z => ⟨false, (z.2 : Int), z.1⟩)
theorem asPc_snoc (p : List Int) (x : Int) : asPc (p ++ [x]) = asPc p ++ [⟨false, (p.length : Int), x⟩] := by
  unfold asPc
  rw [List.zipIdx_append, List.map_append]
  simp
theorem asPc_len (p : List Int) : (asPc p).length = p.length := by unfold asPc; simp
theorem asPc_starts : ∀ (p : List Int) (n : Nat), ((p.zipIdx n).map (fun z => (⟨false, (z.2 : Int), z.1⟩ : Pc))).map Pc.at_ = p
  | [], _ => rfl
  | x :: p, n => by
    rw [List.zipIdx_cons, List.map_cons, List.map_cons, asPc_starts p (n + 1)]
theorem starts_asPc (p : List Int) : startsL (asPc p) = p := by
  unfold startsL asPc
  rw [List.filter_eq_self.2 (by intro x hx; obtain ⟨z, _, rfl⟩ := List.mem_map.1 hx; rfl)]
  exact asPc_starts p 0
theorem plus_mono {t g h : Int} (hh : h ≤ g) : P.plus t h ≤ P.plus t g := by
  unfold P.plus P.clamp
  repeat' split
  all_goals omega
theorem plus_up {t : Int} (h0 : 0 ≤ t) (h1 : t ≤ 1073741824) (g : Int) : t ≤ P.plus t g := by
  unfold P.plus P.clamp
  repeat' split
  all_goals omega
theorem plan_old {x g h : Int} (h0 : 0 ≤ x) (h1 : x ≤ 1073741824) (hh : h ≤ g) : P.old x h (P.plus x g) = true := by
  unfold P.old
  rw [P.clamp_id x h0 h1, P.clamp_id _ (P.plus_ge _ _) (P.plus_le _ _)]
  exact decide_eq_true (plus_mono hh)
theorem asPc_last (p : List Int) (y : Int) : (asPc (p ++ [y])).getLast? = some ⟨false, (p.length : Int), y⟩ := by rw [asPc_snoc]; simp
/-- What is planned keeps the pace, of a lesser stagger too. -/
theorem plan_keeps (n t g h : Int) (hh : h ≤ g) : ∀ i, i ≤ (planL n t g).length → keepsP h (asPc ((planL n t g).take i)) = true
  | 0, _ => rfl
  | i + 1, hi => by
    obtain ⟨x, hx⟩ : ∃ x, (planL n t g)[i]? = some x := ⟨_, List.getElem?_eq_getElem (by omega)⟩
    have ht : (planL n t g).take (i + 1) = (planL n t g).take i ++ [x] := by rw [List.take_add_one, hx]; rfl
    have hl : ((planL n t g).take i).length = i := by rw [List.length_take]; omega
    rw [ht, asPc_snoc, keeps_snoc, plan_keeps n t g h hh i (by omega), Bool.true_and, hl]
    unfold okP
    rw [starts_asPc, hl]
    cases i with
    | zero => rfl
    | succ i =>
      obtain ⟨y, hy⟩ : ∃ y, (planL n t g)[i]? = some y := ⟨_, List.getElem?_eq_getElem (by omega)⟩
      have hty : (planL n t g).take (i + 1) = (planL n t g).take i ++ [y] := by rw [List.take_add_one, hy]; rfl
      have hxy := planF_at g _ _ i y x hy hx
      obtain ⟨y0, y1⟩ := plan_in n t g y (List.mem_of_getElem? hy)
      have hli : ((planL n t g).take i).length = i := by rw [List.length_take]; omega
      have e1 : riseP (asPc ((planL n t g).take (i + 1))) ⟨false, ((i + 1 : Nat) : Int), x⟩ = true := by
        unfold riseP
        rw [hty, asPc_last]
        exact decide_eq_true (by rw [hxy]; exact plus_up y0 y1 g)
      rw [e1]
      have e2 : ((planL n t g).take (i + 1)).getD (((i + 1 : Nat) : Int) - 1).toNat 0 = y := by
        rw [show (((i + 1 : Nat) : Int) - 1).toNat = i by omega, hty, List.getD_eq_getElem?_getD, List.getElem?_append_right (by omega), hli]
        simp
      simp only [Bool.false_eq_true, if_false, e2, hxy, plan_old y0 y1 hh, Bool.or_true, Bool.and_true, Bool.true_and]
      simp

/-! Whether the next one may start; from when on. -/
def mayP (s n : Int) (f : Bool) (since g now : Int) : Bool := decide (max s 0 < n) && (decide (s < 1) || f || P.old since g now)
def whenT (s n since g : Int) : Int := if 1 ≤ s ∧ s < n then P.later since [g] else 0
def whenB (s n : Int) : Bool := decide (1 ≤ s) && decide (s < n)

/-! A script. -/
theorem old_next {s g n : Int} (h : P.old s g n = true) : P.old s g (n + 1) = true := by
  unfold P.old P.clamp at *
  simp only [decide_eq_true_eq] at *
  revert h
  repeat' split
  all_goals (intros; omega)
theorem may_next {s n : Int} {f : Bool} {since g now : Int} (h : mayP s n f since g now = true) : s < n ∧ mayP s n f since g (now + 1) = true := by
  unfold mayP at *
  rw [Bool.and_eq_true, Bool.or_eq_true, Bool.or_eq_true] at h
  obtain ⟨h1, h2⟩ := h
  refine ⟨by have h3 := of_decide_eq_true h1; omega, ?_⟩
  rw [h1, Bool.true_and]
  rcases h2 with (h2 | h2) | h2
  · rw [h2]; simp
  · rw [h2]; simp
  · rw [old_next h2]; simp
/-- What a script has come to: the history, who has failed, the clock, the last start, how many have started. -/
structure Sim (g : Int) (l : List Pc) (bad : List Bool) (now since : Int) (st : Nat) : Prop where
  keeps : keepsP g l = true
  starts : (startsL l).length = st
  since : 0 < st → (startsL l)[st - 1]? = some since
  rise : ∀ y, l.getLast? = some y → y.at_ ≤ now
  bad8 : bad.length = 8
  bad : ∀ n : Nat, n < 8 → failedL l n = bad.getD n false
  st8 : st ≤ 8
theorem sim_zero (g : Int) : Sim g [] [false, false, false, false, false, false, false, false] 0 0 0 where
  keeps := rfl
  starts := rfl
  since := fun h => absurd h (by omega)
  rise := fun y h => by simp at h
  bad8 := rfl
  bad := fun n hn => by
    match n, hn with
    | 0, _ | 1, _ | 2, _ | 3, _ | 4, _ | 5, _ | 6, _ | 7, _ => rfl
  st8 := by omega
theorem Sim.later {g : Int} {l : List Pc} {bad : List Bool} {now since : Int} {st : Nat} (h : Sim g l bad now since st) {n : Int} (hn : now ≤ n) : Sim g l bad n since st :=
  { h with rise := fun y hy => by have := h.rise y hy; omega }
theorem Sim.riseP {g : Int} {l : List Pc} {bad : List Bool} {now since : Int} {st : Nat} (h : Sim g l bad now since st) (x : Pc) (hx : x.at_ = now) : riseP l x = true := by
  unfold Go.Proofs.Ytpncgcaepdkcnaa.riseP
  cases hl : l.getLast? with
  | none => rfl
  | some y => exact decide_eq_true (by have := h.rise y hl; omega)
theorem Sim.fail {g : Int} {l : List Pc} {bad : List Bool} {now since : Int} {st : Nat} (h : Sim g l bad now since st) {n : Nat} (hn : n < st) (hb : bad.getD n false = false) : Sim g (l ++ [⟨true, n, now⟩]) (bad.set n true) now since st where
  keeps := by
    rw [keeps_snoc, h.keeps, Bool.true_and]
    unfold okP
    rw [h.riseP ⟨true, n, now⟩ rfl]
    have h8 := h.st8
    have hf : failedL l (n : Int) = false := by rw [h.bad n (by omega)]; exact hb
    simp only [if_true, Bool.true_and, hf, h.starts, Bool.not_false, Bool.and_true, Bool.and_eq_true, decide_eq_true_eq]
    omega
  starts := by
    have e : startsL [(⟨true, (n : Int), now⟩ : Pc)] = [] := rfl
    rw [starts_app, e, List.append_nil]; exact h.starts
  since := fun h0 => by rw [starts_app]; simpa [startsL] using h.since h0
  rise := fun y hy => by
    rw [List.getLast?_concat] at hy
    obtain rfl := Option.some.inj hy
    exact Int.le_refl _
  bad8 := by rw [List.length_set]; exact h.bad8
  bad := fun m hm => by
    rw [failed_app, h.bad m hm]
    have e : failedL [⟨true, (n : Int), now⟩] (m : Int) = decide (n = m) := by
      unfold failedL
      simp only [List.any_cons, List.any_nil, Bool.or_false, Bool.true_and]
      exact decide_eq_decide.2 (by omega)
    rw [e, List.getD_eq_getElem?_getD, List.getD_eq_getElem?_getD, List.getElem?_set]
    by_cases hnm : n = m
    · subst hnm
      have h8 := h.bad8
      simp [h8, hm]
    · simp [hnm]
  st8 := h.st8
theorem Sim.start {g : Int} {l : List Pc} {bad : List Bool} {now since : Int} {st : Nat} (h : Sim g l bad now since st) {total : Int} (ht : total ≤ 8) (hm : mayP st total (decide (0 < st) && bad.getD (st - 1) false) since g now = true) : Sim g (l ++ [⟨false, st, now⟩]) bad now now (st + 1) where
  keeps := by
    rw [keeps_snoc, h.keeps, Bool.true_and]
    unfold okP
    rw [h.riseP ⟨false, st, now⟩ rfl]
    unfold mayP at hm
    rw [Bool.and_eq_true, Bool.or_eq_true, Bool.or_eq_true] at hm
    obtain ⟨h1, h2⟩ := hm
    have h8 := h.st8
    simp only [Bool.false_eq_true, if_false, Bool.true_and, h.starts, decide_true]
    by_cases h0 : 0 < st
    · have hs := h.since h0
      have e1 : (startsL l).getD ((st : Int) - 1).toNat 0 = since := by
        rw [show ((st : Int) - 1).toNat = st - 1 by omega, List.getD_eq_getElem?_getD, hs]; rfl
      have e2 : failedL l ((st : Int) - 1) = bad.getD (st - 1) false := by
        rw [show (st : Int) - 1 = ((st - 1 : Nat) : Int) by omega]
        exact h.bad _ (by omega)
      rw [e1, e2]
      rcases h2 with (h2 | h2) | h2
      · exact absurd (by simpa using h2 : (st : Int) < 1) (by omega)
      · rw [Bool.and_eq_true] at h2
        rw [h2.2]; simp
      · rw [h2]; simp
    · have : st = 0 := by omega
      subst this
      simp
  starts := by
    have e : startsL [(⟨false, (st : Int), now⟩ : Pc)] = [now] := rfl
    rw [starts_app, e, List.length_append, h.starts]; rfl
  since := fun _ => by
    rw [starts_app, List.getElem?_append_right (by have := h.starts; omega), h.starts]
    simp [startsL]
  rise := fun y hy => by
    rw [List.getLast?_concat] at hy
    obtain rfl := Option.some.inj hy
    exact Int.le_refl _
  bad8 := h.bad8
  bad := fun m hm2 => by
    rw [failed_app, h.bad m hm2]
    simp [failedL]
  st8 := by
    unfold mayP at hm
    rw [Bool.and_eq_true] at hm
    have := hm.1
    simp only [decide_eq_true_eq] at this
    omega

/-! Two starts, and a failure between. -/
theorem old_plain {s g n : Int} (h0 : 0 ≤ s) (h1 : s ≤ 4000000) (h2 : 0 ≤ g) (h3 : g ≤ 4000000) (h4 : 0 ≤ n) (h5 : n ≤ 8000000) : P.old s g n = decide (s + g ≤ n) := by
  have e1 : P.clamp s = s := P.clamp_id _ h0 (by omega)
  have e2 : P.clamp g = g := P.clamp_id _ h2 (by omega)
  have e3 : P.clamp n = n := P.clamp_id _ h4 (by omega)
  have e4 : P.clamp (s + g) = s + g := P.clamp_id _ (by omega) (by omega)
  unfold P.old P.plus
  rw [e1, e2, e3, e4]
theorem brk_two {t m g : Int} (h0 : 0 ≤ t) (h1 : t ≤ 1048576) (h2 : 0 ≤ m) (h3 : m ≤ 1048576) (h4 : 0 ≤ g) (h5 : g ≤ 1048576) : keepsP g [⟨false, 0, t⟩, ⟨false, 1, t + m⟩] = decide (g ≤ m) := by
  have ho := old_plain (s := t) (g := g) (n := t + m) h0 (by omega) h4 (by omega) (by omega) (by omega)
  have e : decide (t + g ≤ t + m) = decide (g ≤ m) := decide_eq_decide.2 (by omega)
  have hr : t ≤ t + m := by omega
  simp [keepsP, keepsF, okP, riseP, startsL, failedL, ho, e, hr]
theorem brk_three {t m g : Int} (h2 : 0 ≤ m) : keepsP g [⟨false, 0, t⟩, ⟨true, 0, t + m⟩, ⟨false, 1, t + m⟩] = true := by
  have hr : t ≤ t + m := by omega
  simp [keepsP, keepsF, okP, riseP, startsL, failedL, hr]
theorem brk_late (g t : Int) : keepsP g [⟨false, 1, t⟩] = false := by simp [keepsP, keepsF, okP, riseP, startsL, failedL]
theorem brk_twice (g t : Int) : keepsP g [⟨false, 0, t⟩, ⟨false, 0, t⟩] = false := by simp [keepsP, keepsF, okP, riseP, startsL, failedL]
theorem brk_fails (g t u : Int) : keepsP g [⟨false, 0, t⟩, ⟨true, 0, u⟩, ⟨true, 0, u⟩] = false := by
  simp [keepsP, keepsF, okP, riseP, startsL, failedL]
theorem brk_none (g u : Int) : keepsP g [⟨true, 0, u⟩] = false := by simp [keepsP, keepsF, okP, riseP, startsL, failedL]
theorem brk_empty (g : Int) : keepsP g [] = true := rfl
theorem brk_back (g t u : Int) : keepsP g [⟨true, 0, u⟩, ⟨false, 0, t⟩] = false := by simp [keepsP, keepsF, okP, riseP, startsL, failedL]

/-! All of it some ticks later. -/
def moreP (k : Int) (x : Pc) : Pc := ⟨x.fail, x.n, x.at_ + k⟩
theorem more_starts (k : Int) (l : List Pc) : startsL (l.map (moreP k)) = (startsL l).map (· + k) := by
  unfold startsL
  rw [List.filter_map, List.map_map, List.map_map]
  rfl
theorem more_failed (k : Int) (l : List Pc) (n : Int) : failedL (l.map (moreP k)) n = failedL l n := by
  unfold failedL
  rw [List.any_map]
  rfl
theorem more_rise (k : Int) (l : List Pc) (x : Pc) : riseP (l.map (moreP k)) (moreP k x) = riseP l x := by
  unfold riseP
  rw [List.getLast?_map]
  cases l.getLast? with
  | none => rfl
  | some y => exact decide_eq_decide.2 (by simp only [moreP]; omega)
theorem more_ok {g k : Int} {l : List Pc} {x : Pc} (hl : ∀ y ∈ l, 0 ≤ y.at_ ∧ y.at_ ≤ 1048576) (hx : 0 ≤ x.at_ ∧ x.at_ ≤ 1048576) (hg : 0 ≤ g ∧ g ≤ 1048576) (hk : 0 ≤ k ∧ k ≤ 1000) : okP g (l.map (moreP k)) (moreP k x) = okP g l x := by
  unfold okP
  rw [more_rise, more_starts, more_failed, more_failed]
  show (riseP l x && if x.fail = true then _ else _) = _
  congr 1
  by_cases hf : x.fail = true
  · rw [if_pos hf, if_pos hf, List.length_map]; rfl
  · rw [if_neg hf, if_neg hf, List.length_map]
    show (decide (x.n = (startsL l).length) && _) = _
    by_cases hn : x.n = (startsL l).length
    · by_cases h0 : x.n ≤ 0
      · show (_ && (decide (x.n ≤ 0) || _ || _)) = _
        rw [decide_eq_true h0]; simp
      · obtain ⟨s, hs⟩ : ∃ s, (startsL l)[(x.n - 1).toNat]? = some s := ⟨_, List.getElem?_eq_getElem (by omega)⟩
        have hsb : 0 ≤ s ∧ s ≤ 1048576 := by
          obtain ⟨y, hy, rfl⟩ := List.mem_map.1 (List.mem_of_getElem? hs)
          exact hl y (List.mem_filter.1 hy).1
        have e1 : (startsL l).getD (x.n - 1).toNat 0 = s := by rw [List.getD_eq_getElem?_getD, hs]; rfl
        have e2 : ((startsL l).map (· + k)).getD ((moreP k x).n - 1).toNat 0 = s + k := by
          show ((startsL l).map (· + k)).getD (x.n - 1).toNat 0 = s + k
          rw [List.getD_eq_getElem?_getD, List.getElem?_map, hs]; rfl
        rw [e1, e2]
        have e3 : P.old (s + k) g (moreP k x).at_ = P.old s g x.at_ := by
          show P.old (s + k) g (x.at_ + k) = _
          rw [old_plain (by omega) (by omega) hg.1 (by omega) (by omega) (by omega), old_plain (by omega) (by omega) hg.1 (by omega) (by omega) (by omega)]
          exact decide_eq_decide.2 (by omega)
        rw [e3]; rfl
    · rw [decide_eq_false hn]; simp
theorem more_keepsF {g k : Int} (hg : 0 ≤ g ∧ g ≤ 1048576) (hk : 0 ≤ k ∧ k ≤ 1000) : ∀ (m l : List Pc), (∀ y ∈ l, 0 ≤ y.at_ ∧ y.at_ ≤ 1048576) → (∀ y ∈ m, 0 ≤ y.at_ ∧ y.at_ ≤ 1048576) → keepsF g (l.map (moreP k)) (m.map (moreP k)) = keepsF g l m
  | [], l, _, _ => rfl
  | x :: m, l, hl, hm => by
    show (okP g (l.map (moreP k)) (moreP k x) && keepsF g (l.map (moreP k) ++ [moreP k x]) (m.map (moreP k))) = _
    have hx := hm x (by simp)
    rw [more_ok hl hx hg hk, show l.map (moreP k) ++ [moreP k x] = (l ++ [x]).map (moreP k) by simp, more_keepsF hg hk m (l ++ [x]) (fun y hy => by
      rcases List.mem_append.1 hy with h | h
      · exact hl y h
      · obtain rfl := List.mem_singleton.1 h; exact hx) (fun y hy => hm y (by simp [hy]))]
    rfl
theorem more_keeps {g k : Int} (hg : 0 ≤ g ∧ g ≤ 1048576) (hk : 0 ≤ k ∧ k ≤ 1000) {l : List Pc} (hl : ∀ y ∈ l, 0 ≤ y.at_ ∧ y.at_ ≤ 1048576) : keepsP g (l.map (moreP k)) = keepsP g l := more_keepsF hg hk l [] (by simp) hl
end Go.Proofs.Ytpncgcaepdkcnaa
