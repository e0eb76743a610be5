/- For layer 11, about lists alone: what is known of names: entries in the order of their names. -/
import GoSem.Op.String
import Derived.Lib.Strings
import Derived.Test.YtaealoodchkeaaaAge1
import Derived.Test.YtaealoodchkeaaaPure
set_option linter.unusedSimpArgs false
set_option linter.unusedVariables false
namespace Go.Proofs.Ytaealoodchkeaaa
open R3

/-! The order of texts. -/
theorem less_irr : ∀ x : List UInt8, Op.bytesLess x x = false
  | [] => rfl
  | a :: x => by
    have h := less_irr x
    have ha : ¬ a < a := UInt8.lt_irrefl a
    simp [Op.bytesLess, h, ha]
theorem less_trans : ∀ {x y z : List UInt8}, Op.bytesLess x y = true → Op.bytesLess y z = true → Op.bytesLess x z = true
  | [], [], _, h, _ => by simp [Op.bytesLess] at h
  | [], _ :: _, [], _, h => by simp [Op.bytesLess] at h
  | [], _ :: _, _ :: _, _, _ => by simp [Op.bytesLess]
  | _ :: _, [], _, h, _ => by simp [Op.bytesLess] at h
  | _ :: _, _ :: _, [], _, h => by simp [Op.bytesLess] at h
  | a :: x, b :: y, c :: z, h, h2 => by
    simp only [Op.bytesLess, Bool.or_eq_true, decide_eq_true_eq, Bool.and_eq_true, beq_iff_eq] at h h2 ⊢
    rcases h with h | ⟨rfl, h⟩
    · rcases h2 with h2 | ⟨rfl, h2⟩
      · exact .inl (UInt8.lt_trans h h2)
      · exact .inl h
    · rcases h2 with h2 | ⟨rfl, h2⟩
      · exact .inl h2
      · exact .inr ⟨rfl, less_trans h h2⟩
theorem less_total : ∀ {x y : List UInt8}, x ≠ y → Op.bytesLess x y = false → Op.bytesLess y x = true
  | [], [], h, _ => absurd rfl h
  | [], _ :: _, _, h => by simp [Op.bytesLess] at h
  | _ :: _, [], _, _ => by simp [Op.bytesLess]
  | a :: x, b :: y, h, h2 => by
    simp only [Op.bytesLess, Bool.or_eq_false_iff, decide_eq_false_iff_not, Bool.and_eq_false_iff, beq_eq_false_iff_ne] at h2
    simp only [Op.bytesLess, Bool.or_eq_true, decide_eq_true_eq, Bool.and_eq_true, beq_iff_eq]
    by_cases he : a = b
    · subst he
      exact .inr ⟨rfl, less_total (fun e => h (by rw [e])) (by rcases h2.2 with h3 | h3; exact absurd rfl h3; exact h3)⟩
    · left
      have := h2.1
      have hne : a.toNat ≠ b.toNat := fun e => he (UInt8.toNat_inj.1 e)
      rw [UInt8.lt_iff_toNat_lt] at this ⊢
      omega
def ltS (a b : ByteArray) : Bool := Op.bytesLess a.toList b.toList
theorem ltS_irr (a : ByteArray) : ltS a a = false := less_irr _
theorem ltS_trans {a b c : ByteArray} (h : ltS a b = true) (h2 : ltS b c = true) : ltS a c = true := less_trans h h2
theorem toList_inj {a b : ByteArray} (h : a.toList = b.toList) : a = b := by
  rw [ByteArray.toList_eq, ByteArray.toList_eq] at h
  exact ByteArray.ext (Array.toList_inj.1 h)
theorem ltS_total {a b : ByteArray} (h : a ≠ b) (h2 : ltS a b = false) : ltS b a = true := less_total (fun e => h (toList_inj e)) h2
theorem ltS_asymm {a b : ByteArray} (h : ltS a b = true) : ltS b a = false := by
  cases h2 : ltS b a with
  | false => rfl
  | true => have := ltS_trans h h2; rw [ltS_irr] at this; cases this
theorem ltS_ne {a b : ByteArray} (h : ltS a b = true) : a ≠ b := fun e => by subst e; rw [ltS_irr] at h; cases h
def leS (a b : ByteArray) : Bool := ltS a b || decide (a = b)
theorem leS_not {a b : ByteArray} : leS a b = false ↔ ltS b a = true := by
  unfold leS
  constructor
  · intro h
    simp only [Bool.or_eq_false_iff, decide_eq_false_iff_not] at h
    exact ltS_total h.2 h.1
  · intro h
    rw [ltS_asymm h, decide_eq_false (Ne.symm (ltS_ne h))]
    rfl

def Kn.no : Kn := ⟨.empty, .empty, 0, 0⟩
def is (s : ByteArray) (k : Kn) : Bool := decide (k.name = s)
def findK (l : List Kn) (s : ByteArray) : Option Kn := l.find? (is s)
def freshB (n : Int) (k : Kn) : Bool := decide (P.clamp n < P.clamp k.until_)
def freshK (l : List Kn) (n : Int) : List Kn := l.filter (freshB n)
def getK (l : List Kn) (s : ByteArray) (n : Int) : Option Kn := match findK l s with | some k => if freshB n k then some k else none | none => none
def oneK (l : List Kn) (x : Kn) : List Kn := match l.findIdx? (is x.name) with
  | some i => l.set i x
  | none => l.takeWhile (fun k => leS k.name x.name) ++ x :: l.dropWhile (fun k => leS k.name x.name)
def putK (l more : List Kn) : List Kn := more.foldl oneK l
def entryK (ttl neg : Int) (s row : ByteArray) (e now : Int) : Kn := if e = 0 then ⟨s, row, 0, P.later now [ttl]⟩ else ⟨s, .empty, e, P.later now [neg]⟩
def untilK (l : List Kn) : Int × Int := P.first (l.map (·.until_))
def okK (k : Kn) : Bool := decide (k.name ≠ .empty) && (decide (k.e = 0) || decide (k.row = .empty))
def upK : List Kn → Bool
  | a :: b :: l => ltS a.name b.name && upK (b :: l)
  | _ => true
def mayK (l : List Kn) : Bool := l.all okK && upK l

def Up (l : List Kn) : Prop := l.Pairwise (fun a b => ltS a.name b.name = true)
theorem up_iff : ∀ {l : List Kn}, upK l = true ↔ Up l
  | [] => by simp [upK, Up]
  | [a] => by simp [upK, Up]
  | a :: b :: l => by
    have ih := up_iff (l := b :: l)
    unfold Up at *
    rw [upK, Bool.and_eq_true, ih, List.pairwise_cons (a := a)]
    constructor
    · rintro ⟨h1, h2⟩
      refine ⟨fun c hc => ?_, h2⟩
      rcases List.mem_cons.1 hc with rfl | hc
      · exact h1
      · exact ltS_trans h1 ((List.pairwise_cons.1 h2).1 c hc)
    · rintro ⟨h1, h2⟩
      exact ⟨h1 b (by simp), h2⟩
theorem may_iff {l : List Kn} : mayK l = true ↔ (∀ k ∈ l, okK k = true) ∧ Up l := by
  unfold mayK
  rw [Bool.and_eq_true, List.all_eq_true, up_iff]
/-- An entry put into its place among entries in order. -/
def insK (x : Kn) : List Kn → List Kn
  | [] => [x]
  | y :: l => if y.name = x.name then x :: l else if ltS x.name y.name = true then x :: y :: l else y :: insK x l
theorem one_ins (x : Kn) : ∀ {l : List Kn}, Up l → oneK l x = insK x l
  | [], _ => rfl
  | y :: l, h => by
    have h' := List.pairwise_cons.1 h
    have ih := one_ins x h'.2
    rw [insK]
    by_cases he : y.name = x.name
    · rw [if_pos he]
      unfold oneK
      rw [List.findIdx?_cons, if_pos (by unfold is; exact decide_eq_true he)]
      rfl
    · rw [if_neg he]
      have hp : is x.name y = false := by unfold is; exact decide_eq_false he
      by_cases hl : ltS x.name y.name = true
      · rw [if_pos hl]
        have hn : l.findIdx? (is x.name) = none := by
          rw [List.findIdx?_eq_none_iff]
          intro k hk
          unfold is
          exact decide_eq_false (Ne.symm (ltS_ne (ltS_trans hl (h'.1 k hk))))
        have hle : leS y.name x.name = false := leS_not.2 hl
        unfold oneK
        rw [List.findIdx?_cons, hp, hn]
        simp [List.takeWhile_cons, List.dropWhile_cons, hle]
      · rw [if_neg hl]
        have hle : leS y.name x.name = true := by
          cases h3 : leS y.name x.name with
          | true => rfl
          | false => exact absurd (leS_not.1 h3) hl
        rw [← ih]
        unfold oneK
        rw [List.findIdx?_cons, hp]
        cases hf : l.findIdx? (is x.name) with
        | some i => simp
        | none => simp [List.takeWhile_cons, List.dropWhile_cons, hle]
theorem mem_ins {x k : Kn} : ∀ {l : List Kn}, k ∈ insK x l → k = x ∨ k ∈ l
  | [], h => by simpa [insK] using h
  | y :: l, h => by
    rw [insK] at h
    split at h
    · rcases List.mem_cons.1 h with h | h
      · exact .inl h
      · exact .inr (List.mem_cons_of_mem _ h)
    · split at h
      · rcases List.mem_cons.1 h with h | h
        · exact .inl h
        · exact .inr h
      · rcases List.mem_cons.1 h with h | h
        · exact .inr (by simp [h])
        · rcases mem_ins h with h | h
          · exact .inl h
          · exact .inr (List.mem_cons_of_mem _ h)
theorem ins_up {x : Kn} : ∀ {l : List Kn}, Up l → Up (insK x l)
  | [], _ => by simp [insK, Up]
  | y :: l, h => by
    have h' := List.pairwise_cons.1 h
    rw [insK]
    split
    · rename_i he
      exact List.pairwise_cons.2 ⟨fun k hk => he ▸ h'.1 k hk, h'.2⟩
    · rename_i he
      split
      · rename_i hl
        exact List.pairwise_cons.2 ⟨fun k hk => by
          rcases List.mem_cons.1 hk with rfl | hk
          · exact hl
          · exact ltS_trans hl (h'.1 k hk), h⟩
      · rename_i hl
        refine List.pairwise_cons.2 ⟨fun k hk => ?_, ins_up h'.2⟩
        rcases mem_ins hk with rfl | hk
        · exact ltS_total (Ne.symm he) (by simpa using hl)
        · exact h'.1 k hk
theorem ins_may {x : Kn} {l : List Kn} (h : mayK l = true) (hx : okK x = true) : mayK (insK x l) = true := by
  rw [may_iff] at h ⊢
  refine ⟨fun k hk => ?_, ins_up h.2⟩
  rcases mem_ins hk with rfl | hk
  · exact hx
  · exact h.1 k hk
theorem find_ins (x : Kn) : ∀ l : List Kn, findK (insK x l) x.name = some x
  | [] => by simp [insK, findK, is]
  | y :: l => by
    have ih := find_ins x l
    unfold findK at *
    rw [insK]
    split
    · simp [is]
    · split
      · simp [is]
      · rename_i he _
        rw [List.find?_cons_of_neg (by simpa [is] using he)]
        exact ih
theorem find_other {x : Kn} {s : ByteArray} (hs : s ≠ x.name) : ∀ l : List Kn, findK (insK x l) s = findK l s
  | [] => by simp [insK, findK, is, Ne.symm hs]
  | y :: l => by
    have ih := find_other hs l
    unfold findK at *
    rw [insK]
    have hx : ¬ (is s x = true) := by simpa [is] using Ne.symm hs
    split
    · rename_i he
      rw [List.find?_cons_of_neg hx, List.find?_cons_of_neg (by simpa [is, he] using Ne.symm hs)]
    · split
      · rw [List.find?_cons_of_neg hx]
      · rw [List.find?_cons, List.find?_cons, ih]
theorem find_none_lt {s : ByteArray} {l : List Kn} (h : ∀ k ∈ l, ltS s k.name = true) : findK l s = none := by
  unfold findK
  rw [List.find?_eq_none]
  intro k hk
  simpa [is] using Ne.symm (ltS_ne (h k hk))
theorem len_ins (x : Kn) : ∀ {l : List Kn}, Up l → (insK x l).length = if (findK l x.name).isSome then l.length else l.length + 1
  | [], _ => rfl
  | y :: l, h => by
    have h' := List.pairwise_cons.1 h
    have ih := len_ins x h'.2
    rw [insK]
    by_cases he : y.name = x.name
    · rw [if_pos he]
      have : findK (y :: l) x.name = some y := by unfold findK; rw [List.find?_cons_of_pos (by simpa [is] using he)]
      simp [this]
    · rw [if_neg he]
      have hf : findK (y :: l) x.name = findK l x.name := by unfold findK; rw [List.find?_cons_of_neg (by simpa [is] using he)]
      rw [hf]
      split
      · rename_i hl
        rw [find_none_lt (fun k hk => ltS_trans hl (h'.1 k hk))]
        simp
      · rw [List.length_cons, ih, List.length_cons]
        split <;> rfl
theorem ins_ins (x : Kn) : ∀ l : List Kn, insK x (insK x l) = insK x l
  | [] => by simp [insK]
  | y :: l => by
    have ih := ins_ins x l
    by_cases he : y.name = x.name
    · simp [insK, he]
    · by_cases hl : ltS x.name y.name = true
      · simp [insK, he, hl]
      · simp only [insK, if_neg he, if_neg hl, ih]
theorem ins_comm {x y : Kn} (hxy : x.name ≠ y.name) : ∀ l : List Kn, insK x (insK y l) = insK y (insK x l)
  | [] => by
    cases h : ltS x.name y.name with
    | true => simp [insK, hxy, Ne.symm hxy, h, ltS_asymm h]
    | false => simp [insK, hxy, Ne.symm hxy, h, ltS_total hxy h]
  | z :: l => by
    have ih := ins_comm hxy l
    by_cases hx : z.name = x.name
    · have hy : z.name ≠ y.name := hx ▸ hxy
      cases h : ltS y.name z.name with
      | true =>
        have h2 : ltS y.name x.name = true := hx ▸ h
        simp [insK, hx, hxy, Ne.symm hxy, h2, ltS_asymm h2]
      | false =>
        have h2 : ltS y.name x.name = false := hx ▸ h
        simp [insK, hx, hxy, Ne.symm hxy, h2]
    · by_cases hy : z.name = y.name
      · cases h : ltS x.name z.name with
        | true =>
          have h2 : ltS x.name y.name = true := hy ▸ h
          simp [insK, hy, hxy, Ne.symm hxy, h2, ltS_asymm h2]
        | false =>
          have h2 : ltS x.name y.name = false := hy ▸ h
          simp [insK, hy, hxy, Ne.symm hxy, h2]
      · cases h1 : ltS x.name z.name with
        | true =>
          cases h2 : ltS y.name z.name with
          | true =>
            cases h : ltS x.name y.name with
            | true => simp [insK, hx, hy, hxy, Ne.symm hxy, h1, h2, h, ltS_asymm h]
            | false => simp [insK, hx, hy, hxy, Ne.symm hxy, h1, h2, h, ltS_total hxy h]
          | false =>
            have h3 : ltS x.name y.name = true := ltS_trans h1 (ltS_total (Ne.symm hy) h2)
            simp [insK, hx, hy, hxy, Ne.symm hxy, h1, h2, h3, ltS_asymm h3]
        | false =>
          cases h2 : ltS y.name z.name with
          | true =>
            have h3 : ltS y.name x.name = true := ltS_trans h2 (ltS_total (Ne.symm hx) h1)
            simp [insK, hx, hy, hxy, Ne.symm hxy, h1, h2, h3, ltS_asymm h3]
          | false => simp [insK, hx, hy, h1, h2, ih]
/-! What the statements say of rows in order. -/
theorem put_one (l : List Kn) (x : Kn) (h : Up l) : putK l [x] = insK x l := one_ins x h
theorem put_two (l : List Kn) (x y : Kn) (h : Up l) : putK l [x, y] = insK y (insK x l) := by
  show oneK (oneK l x) y = _
  rw [one_ins x h, one_ins y (ins_up h)]
theorem put_swap {l : List Kn} {x y : Kn} (h : Up l) (hxy : x.name ≠ y.name) : putK l [x, y] = putK l [y, x] := by
  rw [put_two _ _ _ h, put_two _ _ _ h, ins_comm hxy]
theorem put_put (l : List Kn) (x y : Kn) : putK (putK l [x]) [y] = putK l [x, y] := rfl
theorem put_again {l : List Kn} {x : Kn} (h : Up l) : putK (putK l [x]) [x] = putK l [x] := by
  rw [put_put, put_two _ _ _ h, put_one _ _ h, ins_ins]
theorem get_put {l : List Kn} {x : Kn} (h : Up l) (n : Int) : getK (putK l [x]) x.name n = if freshB n x then some x else none := by
  unfold getK
  rw [put_one _ _ h, find_ins]
theorem get_other {l : List Kn} {x : Kn} {s : ByteArray} (h : Up l) (hs : s ≠ x.name) (n : Int) : getK (putK l [x]) s n = getK l s n := by
  unfold getK
  rw [put_one _ _ h, find_other hs]
theorem put_may {l : List Kn} {x : Kn} (h : mayK l = true) (hx : mayK [x] = true) : mayK (putK l [x]) = true := by
  rw [put_one _ _ (may_iff.1 h).2]
  exact ins_may h ((may_iff.1 hx).1 x (by simp))
theorem put_len {l : List Kn} {x : Kn} (h : Up l) : (putK l [x]).length = if (findK l x.name).isSome then l.length else l.length + 1 := by
  rw [put_one _ _ h, len_ins x h]
theorem clamp_mono {a b : Int} (h : a ≤ b) : P.clamp a ≤ P.clamp b := by unfold P.clamp; split <;> split <;> (try split) <;> (try split) <;> omega
theorem fresh_later {l : List Kn} {n m : Int} (h : n ≤ m) : freshK (freshK l n) m = freshK l m := by
  unfold freshK
  rw [List.filter_filter]
  refine List.filter_congr fun k _ => ?_
  unfold freshB
  by_cases h2 : P.clamp m < P.clamp k.until_
  · rw [decide_eq_true h2, decide_eq_true (by have := clamp_mono h; omega)]; rfl
  · rw [decide_eq_false h2]; rfl
theorem fresh_len {l : List Kn} {n m : Int} (h : n ≤ m) : (freshK l m).length ≤ (freshK l n).length := by
  rw [← fresh_later h]
  exact List.length_filter_le _ _
theorem find_mem {k : Kn} : ∀ {l : List Kn}, Up l → k ∈ l → findK l k.name = some k
  | y :: l, h, hk => by
    have h' := List.pairwise_cons.1 h
    unfold findK
    rcases List.mem_cons.1 hk with rfl | hk
    · rw [List.find?_cons_of_pos (by simp [is])]
    · rw [List.find?_cons_of_neg (by simpa [is] using ltS_ne (h'.1 k hk))]
      exact find_mem h'.2 hk
theorem fresh_got {l : List Kn} {k : Kn} {n : Int} (h : Up l) (hk : k ∈ freshK l n) : getK l k.name n = some k := by
  have h2 := List.mem_filter.1 hk
  unfold getK
  rw [find_mem h h2.1]
  exact if_pos h2.2
theorem fresh_none {l : List Kn} {n : Int} (h : ∀ k ∈ l, P.clamp k.until_ ≤ P.clamp n) : freshK l n = [] := by
  unfold freshK
  rw [List.filter_eq_nil_iff]
  intro k hk
  have := h k hk
  simp [freshB]
  omega
theorem fresh_all {l : List Kn} {n : Int} (h : ∀ k ∈ l, P.clamp n < P.clamp k.until_) : freshK l n = l := by
  unfold freshK
  rw [List.filter_eq_self]
  intro k hk
  simpa [freshB] using h k hk
theorem fresh_fewer {l : List Kn} {n : Int} {k : Kn} (hk : k ∈ l) (h : P.clamp k.until_ ≤ P.clamp n) : (freshK l n).length < l.length := by
  unfold freshK
  rcases Nat.lt_or_ge (l.filter (freshB n)).length l.length with h2 | h2
  · exact h2
  · have h3 : (l.filter (freshB n)).length = l.length := Nat.le_antisymm (List.length_filter_le _ _) h2
    have h4 := List.length_filter_eq_length_iff.1 h3 k hk
    simp [freshB] at h4
    omega
/-- The first least tick: it stands somewhere, and none is less. -/
theorem firstF_min : ∀ (l : List Int) (k : Nat) (a t : Int), 0 ≤ a → a < k →
    (∃ j : Nat, (j : Int) + k = (P.firstF k a t l).1 ∧ (∃ x, l[j]? = some x ∧ P.clamp x = (P.firstF k a t l).2)) ∨ (P.firstF k a t l) = (a, t)
  | [], k, a, t, _, _ => .inr rfl
  | x :: l, k, a, t, h, h2 => by
    rw [P.firstF]
    split
    · rcases firstF_min l (k + 1) k (P.clamp x) (by omega) (by omega) with ⟨j, h3, y, h4, h5⟩ | h3
      · exact .inl ⟨j + 1, by push_cast; push_cast at h3; omega, y, by simpa using h4, h5⟩
      · rw [h3]
        exact .inl ⟨0, by simp, x, rfl, rfl⟩
    · rcases firstF_min l (k + 1) a t h (by omega) with ⟨j, h3, y, h4, h5⟩ | h3
      · exact .inl ⟨j + 1, by push_cast; push_cast at h3; omega, y, by simpa using h4, h5⟩
      · exact .inr h3
theorem firstF_least : ∀ (l : List Int) (k : Nat) (a t : Int), 0 ≤ a → (P.firstF k a t l).2 ≤ t ∧ ∀ x ∈ l, (P.firstF k a t l).2 ≤ P.clamp x
  | [], k, a, t, _ => ⟨Int.le_refl _, by simp⟩
  | x :: l, k, a, t, h => by
    rw [P.firstF]
    split
    · rename_i hc
      have h1 := firstF_least l (k + 1) k (P.clamp x) (by omega)
      refine ⟨by omega, fun y hy => ?_⟩
      rcases List.mem_cons.1 hy with rfl | hy
      · exact h1.1
      · exact h1.2 y hy
    · rename_i hc
      have h1 := firstF_least l (k + 1) a t h
      refine ⟨h1.1, fun y hy => ?_⟩
      rcases List.mem_cons.1 hy with rfl | hy
      · omega
      · exact h1.2 y hy
theorem first_cons (x : Int) (l : List Int) : P.first (x :: l) = P.firstF 1 0 (P.clamp x) l := by
  unfold P.first
  rw [P.firstF, if_pos (.inl (by decide))]
  rfl
theorem until_none : untilK [] = (-1, 0) := rfl
theorem until_some {l : List Kn} (h : l ≠ []) : ∃ k ∈ l, P.clamp k.until_ = (untilK l).2 ∧ (∀ y ∈ l, (untilK l).2 ≤ P.clamp y.until_) ∧ 0 ≤ (untilK l).1 ∧ (untilK l).1 < l.length := by
  match l, h with
  | x :: l, _ =>
    have e : untilK (x :: l) = P.firstF 1 0 (P.clamp x.until_) (l.map (·.until_)) := first_cons _ _
    rw [e]
    have h1 := firstF_least (l.map (·.until_)) 1 0 (P.clamp x.until_) (by decide)
    have hall : ∀ y ∈ x :: l, (P.firstF 1 0 (P.clamp x.until_) (l.map (·.until_))).2 ≤ P.clamp y.until_ := fun y hy => by
      rcases List.mem_cons.1 hy with rfl | hy
      · exact h1.1
      · exact h1.2 _ (List.mem_map.2 ⟨y, hy, rfl⟩)
    rcases firstF_min (l.map (·.until_)) 1 0 (P.clamp x.until_) (by decide) (by decide) with ⟨j, h2, z, h3, h4⟩ | h2
    · rw [List.getElem?_map] at h3
      obtain ⟨y, hy, rfl⟩ := Option.map_eq_some_iff.1 h3
      refine ⟨y, List.mem_cons_of_mem _ (List.mem_of_getElem? hy), h4, hall, by omega, ?_⟩
      have := (List.getElem?_eq_some_iff.1 hy).1
      rw [List.length_cons]
      omega
    · rw [h2] at hall ⊢
      exact ⟨x, by simp, rfl, hall, Int.le_refl _, by simp⟩
theorem until_ge (l : List Kn) : 0 ≤ (untilK l).2 ∧ (untilK l).2 ≤ 1073741824 := by
  cases l with
  | nil => rw [until_none]; decide
  | cons x l =>
    obtain ⟨k, _, h, _⟩ := until_some (l := x :: l) (by simp)
    rw [← h]
    exact ⟨P.clamp_ge _, P.clamp_le _⟩
theorem until_ahead {l : List Kn} (h : l ≠ []) (h0 : (untilK l).2 ≠ 0) : freshK l ((untilK l).2 - 1) = l := by
  obtain ⟨k, _, _, h2, _⟩ := until_some h
  refine fresh_all fun y hy => ?_
  have := h2 y hy
  have hg := until_ge l
  rw [P.clamp_id _ (by omega) (by omega)]
  omega
theorem until_fewer {l : List Kn} (h : l ≠ []) : (freshK l (untilK l).2).length < l.length := by
  obtain ⟨k, hk, h1, _⟩ := until_some h
  refine fresh_fewer hk ?_
  have hg := until_ge l
  rw [P.clamp_id _ hg.1 hg.2]
  omega
end Go.Proofs.Ytaealoodchkeaaa
