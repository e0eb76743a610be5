/- PLAIN LEAN for layer 1: a text parted at its dots. -/
import Derived.Test.YtpeohgmceadmeaaDoorRow
namespace Go.Proofs.YtpeohgmceadmeaaDoor.P

def joinHead (p : List UInt8) : List (List UInt8) → List (List UInt8)
  | [] => [p]
  | h :: t => (p ++ h) :: t
def splitDot : List UInt8 → List (List UInt8)
  | [] => [[]]
  | b :: l => if b = 46 then [] :: splitDot l else joinHead [b] (splitDot l)
def parts (l : List UInt8) : List (List UInt8) := if name l then splitDot l else []
def strs (ps : List (List UInt8)) : List Value := ps.map fun l => Value.string ⟨l.toArray⟩

theorem joinHead_ne (p : List UInt8) (x : List (List UInt8)) : joinHead p x ≠ [] := by cases x <;> simp [joinHead]
theorem splitDot_ne (l : List UInt8) : splitDot l ≠ [] := by
  cases l with
  | nil => simp [splitDot]
  | cons b l =>
    unfold splitDot
    split
    · simp
    · exact joinHead_ne _ _
theorem joinHead_nil (x : List (List UInt8)) (h : x ≠ []) : joinHead [] x = x := by
  cases x with
  | nil => exact absurd rfl h
  | cons a t => simp [joinHead]
theorem joinHead_join (p q : List UInt8) (x : List (List UInt8)) (h : x ≠ []) : joinHead p (joinHead q x) = joinHead (p ++ q) x := by
  cases x with
  | nil => exact absurd rfl h
  | cons a t => simp [joinHead]
/-- Bytes without a dot go to the first part. -/
theorem split_plain (x l : List UInt8) (h : ∀ b ∈ x, b ≠ 46) : splitDot (x ++ l) = joinHead x (splitDot l) := by
  induction x with
  | nil => rw [List.nil_append, joinHead_nil _ (splitDot_ne l)]
  | cons b x ih =>
    have hb : ¬ b = 46 := h b (by simp)
    rw [List.cons_append, splitDot, if_neg hb, ih (fun c hc => h c (by simp [hc])), joinHead_join _ _ _ (splitDot_ne l)]
    rfl
theorem seg_grow (s : List UInt8) (a pos n : Nat) (h : a ≤ pos) : (s.drop a).take (pos - a) ++ (s.drop pos).take n = (s.drop a).take (pos + n - a) := by
  have e : s.drop pos = (s.drop a).drop (pos - a) := by rw [List.drop_drop]; congr 1; omega
  rw [e, ← List.take_add]; congr 1; omega
/-- One step without a dot. -/
theorem parts_plain (s : List UInt8) (acc : List (List UInt8)) (a pos n : Nat) (ha : a ≤ pos) (hx : ∀ b ∈ (s.drop pos).take n, b ≠ 46)
    (h : acc ++ joinHead ((s.drop a).take (pos - a)) (splitDot (s.drop pos)) = splitDot s) :
    acc ++ joinHead ((s.drop a).take (pos + n - a)) (splitDot (s.drop (pos + n))) = splitDot s := by
  rw [← seg_grow s a pos n ha, ← joinHead_join _ _ _ (splitDot_ne _), ← split_plain _ _ hx, ← List.drop_drop, List.take_append_drop]
  exact h
/-- One step over a dot. -/
theorem parts_dot (s : List UInt8) (acc : List (List UInt8)) (a pos : Nat) (hd : s.drop pos = 46 :: s.drop (pos + 1))
    (h : acc ++ joinHead ((s.drop a).take (pos - a)) (splitDot (s.drop pos)) = splitDot s) :
    (acc ++ [(s.drop a).take (pos - a)]) ++ joinHead ((s.drop (pos + 1)).take (pos + 1 - (pos + 1))) (splitDot (s.drop (pos + 1))) = splitDot s := by
  rw [Nat.sub_self, List.take_zero, joinHead_nil _ (splitDot_ne _), ← h]
  conv => rhs; rw [hd, splitDot, if_pos rfl]
  simp [joinHead]
theorem parts_end (s : List UInt8) (acc : List (List UInt8)) (a : Nat)
    (h : acc ++ joinHead ((s.drop a).take (s.length - a)) (splitDot (s.drop s.length)) = splitDot s) : acc ++ [s.drop a] = splitDot s := by
  rw [List.drop_length, List.take_of_length_le (by simp)] at h
  simpa [splitDot, joinHead] using h
theorem strs_append (a b : List (List UInt8)) : strs (a ++ b) = strs a ++ strs b := by simp [strs]
theorem strs_length (a : List (List UInt8)) : (strs a).length = a.length := by simp [strs]
theorem split_length (l : List UInt8) : (splitDot l).length ≤ l.length + 1 := by
  induction l with
  | nil => simp [splitDot]
  | cons b l ih =>
    unfold splitDot
    split
    · simp; omega
    · have : (joinHead [b] (splitDot l)).length = (splitDot l).length := by
        cases h : splitDot l with
        | nil => exact absurd h (splitDot_ne l)
        | cons a t => simp [joinHead]
      rw [this]; simp; omega
end Go.Proofs.YtpeohgmceadmeaaDoor.P
