/- PLAIN LEAN for layer 1: ports and their digits; keys. -/
import Derived.Test.YtpeohgmceadmeaaDoorSplit
import Derived.Test.YtpeohgmceadmeaaDoorFoldLaw
import Derived.Lib.ItoaNum
set_option linter.unusedSimpArgs false
set_option linter.unusedVariables false
namespace Go.Proofs.YtpeohgmceadmeaaDoor.P

def val (p : Nat) (l : List UInt8) : Nat := l.foldl (fun q b => 10 * q + (b.toNat - 48)) p
theorem val_cons (p : Nat) (b : UInt8) (l : List UInt8) : val p (b :: l) = val (10 * p + (b.toNat - 48)) l := by simp only [val, List.foldl_cons]
def allDig (l : List UInt8) : Bool := l.all fun b => digB b.toNat
theorem val_ge : ∀ (l : List UInt8) (p : Nat), p * 10 ^ l.length ≤ val p l
  | [], p => by simp [val]
  | b :: l, p => by
    have h := val_ge l (10 * p + (b.toNat - 48))
    have h2 : 10 * p * 10 ^ l.length ≤ (10 * p + (b.toNat - 48)) * 10 ^ l.length := Nat.mul_le_mul_right _ (by omega)
    rw [val_cons, List.length_cons, Nat.pow_succ]
    have h3 : p * (10 ^ l.length * 10) = 10 * p * 10 ^ l.length := by rw [Nat.mul_comm 10 p, Nat.mul_assoc, Nat.mul_comm 10]
    omega
theorem val_le (l : List UInt8) (p : Nat) : p ≤ val p l := by
  have h := val_ge l p
  have h2 : p * 1 ≤ p * 10 ^ l.length := Nat.mul_le_mul_left _ (Nat.one_le_pow _ _ (by omega))
  omega
theorem digB_nat (b : UInt8) : digB b.toNat = true ↔ 48 ≤ b.toNat ∧ b.toNat ≤ 57 := by simp [digB]; omega
theorem portF_eq : ∀ (l : List UInt8) (p : Nat), 1 ≤ p → p ≤ 65535 → portF p l = if allDig l = true ∧ val p l ≤ 65535 then val p l else 0
  | [], p, _, h => by simp [portF, allDig, val, h]
  | b :: l, p, h1, h2 => by
    unfold portF
    by_cases hd : digB b.toNat = true
    · rw [if_pos hd]
      have hd2 := (digB_nat b).1 hd
      have ha : allDig (b :: l) = allDig l := by simp [allDig, hd]
      rw [ha, val_cons]
      by_cases hq : 10 * p + (b.toNat - 48) ≤ 65535
      · rw [if_pos (by simp [portB]; omega)]
        exact portF_eq l _ (by omega) hq
      · have := val_le l (10 * p + (b.toNat - 48))
        rw [if_neg (by simp [portB]; omega), if_neg (by omega)]
    · have ha : allDig (b :: l) = false := by simp [allDig, hd]
      rw [if_neg hd, ha, if_neg (by simp)]
/-- A text's port, all at once. -/
theorem port_eq (b : UInt8) (l : List UInt8) : port (b :: l) = if b ≠ 48 ∧ allDig (b :: l) = true ∧ val 0 (b :: l) ≤ 65535 then val 0 (b :: l) else 0 := by
  unfold port portF
  by_cases hd : digB b.toNat = true
  · rw [if_pos hd]
    have hd2 := (digB_nat b).1 hd
    have ha : allDig (b :: l) = allDig l := by simp [allDig, hd]
    rw [ha, val_cons]
    by_cases h0 : b = 48
    · subst h0
      rw [if_neg (by simp [portB]), if_neg (by simp)]
    · have h1 : b.toNat ≠ 48 := fun h => h0 (UInt8.toNat_inj.1 h)
      rw [if_pos (by simp [portB]; omega), portF_eq l _ (by omega) (by omega)]
      simp [h0]
  · have ha : allDig (b :: l) = false := by simp [allDig, hd]
    rw [if_neg hd, ha, if_neg (by simp)]
theorem port_nil : port [] = 0 := rfl
theorem port_long (l : List UInt8) (h : 5 < l.length) : port l = 0 := by
  cases l with
  | nil => simp at h
  | cons b l =>
    rw [port_eq]
    by_cases hc : b ≠ 48 ∧ allDig (b :: l) = true ∧ val 0 (b :: l) ≤ 65535
    · exfalso
      obtain ⟨h1, h2, h3⟩ := hc
      have hd : digB b.toNat = true := by simp [allDig] at h2; exact h2.1
      have hd2 := (digB_nat b).1 hd
      have h4 : b.toNat ≠ 48 := fun h => h1 (UInt8.toNat_inj.1 h)
      rw [val_cons] at h3
      have h5 := val_ge l (10 * 0 + (b.toNat - 48))
      have h6 : 10 ^ 5 ≤ 10 ^ l.length := Nat.pow_le_pow_right (by omega) (by simp at h; omega)
      have h7 : 1 * 10 ^ l.length ≤ (10 * 0 + (b.toNat - 48)) * 10 ^ l.length := Nat.mul_le_mul_right _ (by omega)
      omega
    · rw [if_neg hc]

/-- What is said of a name and a port, joined. -/
def joinV (l : List UInt8) (n : Int) : ByteArray := if name l then (if portB n then ⟨(foldB l ++ 58 :: Lib.decDigits n.toNat).toArray⟩ else ByteArray.empty) else ByteArray.empty
def joinE (l : List UInt8) (n : Int) : Int := if name l then (if portB n then 0 else 11) else 10
end Go.Proofs.YtpeohgmceadmeaaDoor.P
