/- Keys: the program's Split; what both sides say of four texts. -/
import Derived.Test.YtpeohgmceadmeaaDoorRFold
namespace Go.Proofs.YtpeohgmceadmeaaDoor.P
def portF : Nat → List UInt8 → Nat
  | p, [] => p
  | p, b :: l => if digB b.toNat then (if portB ((10 * p + (b.toNat - 48) : Nat)) then portF (10 * p + (b.toNat - 48)) l else 0) else 0
def port (l : List UInt8) : Nat := portF 0 l
def foldV (l : List UInt8) : ByteArray := if name l then ⟨(foldB l).toArray⟩ else ByteArray.empty
def foldE (l : List UInt8) : Int := if name l then 0 else 10
def split (s : ByteArray) : ByteArray × Int × Int :=
  if Lib.lastIndexByte s 58 < 0 then (ByteArray.empty, 0, 10)
  else if name (s.data.toList.take (Lib.lastIndexByte s 58).toNat) = false then (ByteArray.empty, 0, 10)
  else if portB (port (s.data.toList.drop ((Lib.lastIndexByte s 58).toNat + 1))) then
    (⟨(foldB (s.data.toList.take (Lib.lastIndexByte s 58).toNat)).toArray⟩, port (s.data.toList.drop ((Lib.lastIndexByte s 58).toNat + 1)), 0)
  else (ByteArray.empty, 0, 11)
theorem portF_le : ∀ (l : List UInt8) (p : Nat), p ≤ 65535 → portF p l ≤ 65535
  | [], p, h => h
  | b :: l, p, h => by
    unfold portF
    split
    · split
      · rename_i h1
        exact portF_le l _ (by simp [portB] at h1; omega)
      · omega
    · omega
theorem port_step (s : List UInt8) (pos r n p : Nat) (hp : pos < s.length) (ho : one (s.drop pos) = (r, n)) :
    (digB r = true → n = 1 ∧ r ≤ 57 ∧ 48 ≤ r ∧ portF p (s.drop pos) = if portB (10 * (p : Int) + (r - 48)) then portF (10 * p + (r - 48)) (s.drop (pos + 1)) else 0) ∧ (digB r = false → portF p (s.drop pos) = 0) := by
  have hd : s.drop pos = s[pos] :: s.drop (pos + 1) := List.drop_eq_getElem_cons hp
  generalize s[pos] = b at hd
  rw [hd] at ho ⊢
  have hb := b.toNat_lt
  have hl : ∀ m q least, 128 ≤ least → (long (b :: s.drop (pos + 1)) m q least = (r, n)) → (r = 0 ∧ n = 0) ∨ 128 ≤ r := by
    intro m q least h0 h1
    rcases long_cases (b :: s.drop (pos + 1)) m q least with h2 | ⟨x, h2, h3, h4, _⟩
    · rw [h2] at h1; simp at h1; omega
    · rw [h3] at h1
      obtain ⟨rfl, rfl⟩ : x = r ∧ m = n := by simpa using h1
      omega
  have hcase : (b.toNat = r ∧ n = 1) ∨ (128 ≤ b.toNat ∧ ((r = 0 ∧ n = 0) ∨ 128 ≤ r)) := by
    rw [one_cons] at ho
    split at ho
    · simp at ho; omega
    · right
      refine ⟨by omega, ?_⟩
      split at ho
      · exact hl 2 _ _ (by omega) ho
      · split at ho
        · exact hl 3 _ _ (by omega) ho
        · split at ho
          · exact hl 4 _ _ (by omega) ho
          · simp at ho; omega
  rcases hcase with ⟨rfl, rfl⟩ | ⟨h1, h2⟩
  · constructor
    · intro h
      have h3 : 48 ≤ b.toNat ∧ b.toNat ≤ 57 := by simp [digB] at h; omega
      refine ⟨rfl, h3.2, h3.1, ?_⟩
      rw [portF, if_pos h, show (((10 * p + (b.toNat - 48) : Nat)) : Int) = 10 * (p : Int) + ((b.toNat : Int) - 48) from by omega]
    · intro h
      rw [portF, h]; rfl
  · have h3 : digB b.toNat = false := by simp [digB]; omega
    constructor
    · intro h
      simp [digB] at h; omega
    · intro _
      rw [portF, h3]; rfl
end Go.Proofs.YtpeohgmceadmeaaDoor.P
namespace Go.Proofs.YtpeohgmceadmeaaDoor
open Go.RowKit

theorem fold_any (s : ByteArray) (w : World) (hs : s.size ≤ 4000) :
    Calls Tryd.prog 11 #[.string s] w fun e w' => e = .returned (.tuple #[.string (P.foldV s.data.toList), .int .i64 (P.foldE s.data.toList)]) ∧ Below w.heap.size w w' := by
  cases hn : P.name s.data.toList
  · exact (fold_no s w hs hn).mono fun e w' ⟨he, hb⟩ => ⟨by rw [he, P.foldV, P.foldE, hn]; rfl, hb⟩
  · exact (fold_yes s w hs hn).mono fun e w' ⟨he, hb⟩ => ⟨by rw [he, P.foldV, P.foldE, hn]; rfl, hb⟩
theorem rfold_any (s : ByteArray) (w : World) (hs : s.size ≤ 4000) :
    Calls Tryd.prog 15 #[.string s] w fun e w' => e = .returned (.tuple #[.string (P.foldV s.data.toList), .int .i64 (P.foldE s.data.toList)]) ∧ Below w.heap.size w w' := by
  cases hn : P.name s.data.toList
  · exact (rfold_no s w hs hn).mono fun e w' ⟨he, hb⟩ => ⟨by rw [he, P.foldV, P.foldE, hn]; rfl, hb⟩
  · exact (rfold_yes s w hs hn).mono fun e w' ⟨he, hb⟩ => ⟨by rw [he, P.foldV, P.foldE, hn]; rfl, hb⟩

set_option maxHeartbeats 4000000 in
set_option maxRecDepth 1000000 in
theorem readPort_any (s : ByteArray) (w : World) (hs : s.size ≤ 4000) :
    Calls Tryd.prog 13 #[.string s] w fun e w' => e = .returned (.int .i64 (P.port s.data.toList)) ∧ Below w.heap.size w w' := by
  have hlen : s.data.toList.length = s.size := by simp
  have HL := Lib.hid hlen
  clear hlen
  go_enter Tryd.func13, Tryd.ntmps13
  go_wp2
  go_loopg [3] s.size (fun g x wi => ∃ pos p : Nat, pos + g = s.size ∧ x = .int .i64 p ∧ p ≤ 65535 ∧ wi = w.iter s pos ∧ Hid (P.portF p (s.data.toList.drop pos) = P.port s.data.toList))
  case atStart => exact ⟨0, 0, by omega, rfl, by omega, rfl, Lib.hid rfl⟩
  case round =>
    obtain ⟨pos, p, hpg, rfl, hpb, rfl, hc⟩ := hrel
    by_cases hp : pos < s.size
    · obtain ⟨r, n, ho⟩ : ∃ r n, P.one (s.data.toList.drop pos) = (r, n) := ⟨_, _, rfl⟩
      obtain ⟨hr1, hr2, hr3⟩ := one_room s pos r n hp ho
      have HC := Lib.hid (P.port_step s.data.toList pos r n p (by rw [HL.out]; exact hp) ho)
      have HZ := Lib.hid (one_zero (s.data.toList.drop pos))
      have HO := Lib.hid ho
      have hnx := fun ty => run_next_any (P := Tryd.prog) w s pos ty hp
      rw [decode_at s pos hp r n ho] at hnx
      clear ho
      by_cases hn0 : n = 0
      · have hr0 : r = 0 := by
          have h1 := HZ.out (by rw [HO.out]; exact hn0)
          rw [HO.out] at h1
          simpa using (Prod.mk.inj h1).1
        rw [if_pos hn0] at hnx
        have hdb : P.digB ((65533, 1) : Nat × Nat).1 = false := rfl
        have H0 := Lib.hid (HC.out.2 (by rw [hr0]; rfl))
        clear hr0 hn0
        go_wp2_with (go_at_call 24; refine (isDigit_any _ _).mono ?_; rintro e w' ⟨rfl, rfl⟩)
        all_goals go_ret
        all_goals exact ⟨by rw [← hc.out, H0.out]; rfl, (Below.refl _ w).alloc (Nat.le_refl _) _⟩
      · rw [if_neg hn0] at hnx
        cases hd : P.digB r
        · have H0 := Lib.hid (HC.out.2 hd)
          go_wp2_with (go_at_call 24; refine (isDigit_any _ _).mono ?_; rintro e w' ⟨rfl, rfl⟩)
          go_ret
          exact ⟨by rw [← hc.out, H0.out]; rfl, (Below.refl _ w).alloc (Nat.le_refl _) _⟩
        · obtain ⟨rfl, hr57, hr48, hst⟩ := HC.out.1 hd
          rw [hc.out] at hst
          have hst := Lib.hid hst
          clear hn0 hc
          cases hq : P.portB (10 * (p : Int) + ((r : Int) - 48))
          · have H0 := Lib.hid hq
            go_wp2_with (first | (go_at_call 24; refine (isDigit_any _ _).mono ?_; rintro e w' ⟨rfl, rfl⟩) | (go_at_call 14; refine (mayPort_any _ _).mono ?_; rintro e w' ⟨rfl, rfl⟩))
            go_ret
            exact ⟨by have h := hst.out; rw [H0.out] at h; rw [h]; rfl, (Below.refl _ w).alloc (Nat.le_refl _) _⟩
          · have H0 := Lib.hid hq
            have hqb : (10 * (p : Int) + ((r : Int) - 48)) ≤ 65535 := by simp [P.portB] at hq; omega
            go_wp2_with (first | (go_at_call 24; refine (isDigit_any _ _).mono ?_; rintro e w' ⟨rfl, rfl⟩) | (go_at_call 14; refine (mayPort_any _ _).mono ?_; rintro e w' ⟨rfl, rfl⟩))
            go_roundg (s.size - (pos + 1))
            case rel => exact ⟨pos + 1, 10 * p + (r - 48), by omega, by go_num, by omega, rfl, Lib.hid (by have h := hst.out; rw [H0.out, if_pos rfl] at h; exact h.symm)⟩
            case measure => omega
    · have hnx := fun ty => run_next_end (P := Tryd.prog) w s pos ty hp
      have hE : p = P.port s.data.toList := by
        rw [← hc.out, List.drop_eq_nil_of_le (by rw [HL.out]; omega)]; rfl
      have HE := Lib.hid hE
      clear hE
      go_wp2
      go_ret
      exact ⟨by rw [← HE.out]; rfl, (Below.refl _ w).alloc (Nat.le_refl _) _⟩

set_option maxHeartbeats 4000000 in
set_option maxRecDepth 1000000 in
theorem split_any (s : ByteArray) (w : World) (hs : s.size ≤ 4000) :
    Calls Tryd.prog 7 #[.string s] w fun e w' => e = .returned (.tuple #[.string (P.split s).1, .int .i64 (P.split s).2.1, .int .i64 (P.split s).2.2]) ∧ Below w.heap.size w w' := by
  have hsp := Lib.lastIndexByte_spec s 58
  by_cases h0 : Lib.lastIndexByte s 58 < 0
  · have HS := Lib.hid (show P.split s = (ByteArray.empty, 0, 10) by rw [P.split, if_pos h0])
    have hv : Lib.lastIndexByte s 58 = -1 := by rcases hsp with ⟨h, _⟩ | ⟨i, _, h, _⟩ <;> omega
    have HV := Lib.hid hv
    clear hsp h0 hv
    go_enter Tryd.func7, Tryd.ntmps7
    go_wp2_with fail
    refine (Tryd.strings_LastIndexByte s 58 (by omega) _).mono ?_
    rw [HV.out]
    rintro e w1 ⟨rfl, rfl⟩
    go_wp2_with fail
    go_ret3
    exact ⟨by rw [HS.out]; rfl, Below.refl _ _⟩
  · obtain ⟨k, hk, hke⟩ : ∃ k : Nat, k < s.size ∧ Lib.lastIndexByte s 58 = k := by
      rcases hsp with ⟨h, _⟩ | ⟨i, hi, h, _⟩
      · omega
      · exact ⟨i, hi, h⟩
    have e1 : (s.extract 0 k).data.toList = s.data.toList.take k := by rw [Lib.extract_data]; simp
    have e2 : (s.extract 0 k).size = k := by simp; omega
    have e3 : (s.extract (k + 1) s.size).data.toList = s.data.toList.drop (k + 1) := by rw [Lib.extract_data, List.take_of_length_le (by simp)]
    have e4 : (s.extract (k + 1) s.size).size ≤ s.size := by simp
    have hS : P.split s = if P.name (s.data.toList.take k) = false then (ByteArray.empty, 0, 10) else if P.portB (P.port (s.data.toList.drop (k + 1))) then (⟨(P.foldB (s.data.toList.take k)).toArray⟩, ((P.port (s.data.toList.drop (k + 1)) : Nat) : Int), 0) else (ByteArray.empty, 0, 11) := by
      rw [P.split, if_neg h0, hke, Int.toNat_natCast]
    have HK := Lib.hid hke
    have HE := Lib.hid (And.intro e1 (And.intro e2 (And.intro e3 e4)))
    clear hsp h0 hke e1 e2 e3 e4
    cases hn : P.name (s.data.toList.take k)
    · rw [hn, if_pos rfl] at hS
      have HS := Lib.hid hS
      have HN := Lib.hid hn
      clear hS hn
      go_enter Tryd.func7, Tryd.ntmps7
      go_wp2_with fail
      refine (Tryd.strings_LastIndexByte s 58 (by omega) _).mono ?_
      rw [HK.out]
      rintro e w1 ⟨rfl, rfl⟩
      go_wp2_with fail
      refine (fold_no _ _ (by rw [HE.out.2.1]; omega) (by rw [HE.out.1]; exact HN.out)).mono ?_
      rintro e w1 ⟨rfl, hb1⟩
      go_wp2_with fail
      go_ret3
      exact ⟨by rw [HS.out]; rfl, hb1⟩
    · rw [hn, if_neg (by decide)] at hS
      have HN := Lib.hid hn
      clear hn
      cases hq : P.portB (P.port (s.data.toList.drop (k + 1)))
      all_goals
        rw [hq] at hS
        have HS := Lib.hid hS
        have HQ := Lib.hid hq
        clear hS hq
        go_enter Tryd.func7, Tryd.ntmps7
        go_wp2_with fail
        refine (Tryd.strings_LastIndexByte s 58 (by omega) _).mono ?_
        rw [HK.out]
        rintro e w1 ⟨rfl, rfl⟩
        go_wp2_with fail
        refine (fold_yes _ _ (by rw [HE.out.2.1]; omega) (by rw [HE.out.1]; exact HN.out)).mono ?_
        rw [HE.out.1]
        rintro e w1 ⟨rfl, hb1⟩
        go_wp2_with fail
        refine (readPort_any _ _ (by have := HE.out.2.2.2; omega)).mono ?_
        rw [HE.out.2.2.1]
        rintro e w2 ⟨rfl, hb2⟩
        go_wp2_with fail
        refine (mayPort_any _ _).mono ?_
        rw [HQ.out]
        rintro e w3 ⟨rfl, rfl⟩
        go_wp2_with fail
        go_ret3
        exact ⟨by rw [HS.out]; rfl, hb1.trans (hb2.mono hb1.size)⟩
end Go.Proofs.YtpeohgmceadmeaaDoor
