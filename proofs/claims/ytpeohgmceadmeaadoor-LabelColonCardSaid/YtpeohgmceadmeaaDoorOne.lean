/- The document's answer of layer 1: the rune at a text's front. -/
import Derived.Test.YtpeohgmceadmeaaDoorSmall
import Derived.Handy
namespace Go.Proofs.YtpeohgmceadmeaaDoor
open Go.RowKit

theorem and192_fin : ∀ b : Fin 256, (bits .and .u8 (b.val : Int) 192 != 128) = !(b.val / 64 == 2) := by decide +kernel
theorem and192 (b : UInt8) : (bits .and .u8 (b.toNat : Int) 192 != 128) = !P.cb b := and192_fin ⟨b.toNat, b.toNat_lt⟩
theorem and63_fin : ∀ b : Fin 256, bits .and .u8 (b.val : Int) 63 = (b.val % 64 : Nat) := by decide +kernel
theorem and63 (b : UInt8) : bits .and .u8 (b.toNat : Int) 63 = (b.toNat % 64 : Nat) := and63_fin ⟨b.toNat, b.toNat_lt⟩
theorem and31_fin : ∀ b : Fin 256, bits .and .u8 (b.val : Int) 31 = (b.val % 32 : Nat) := by decide +kernel
theorem and31 (b : UInt8) : bits .and .u8 (b.toNat : Int) 31 = (b.toNat % 32 : Nat) := and31_fin ⟨b.toNat, b.toNat_lt⟩
theorem and15_fin : ∀ b : Fin 256, bits .and .u8 (b.val : Int) 15 = (b.val % 16 : Nat) := by decide +kernel
theorem and15 (b : UInt8) : bits .and .u8 (b.toNat : Int) 15 = (b.toNat % 16 : Nat) := and15_fin ⟨b.toNat, b.toNat_lt⟩
theorem and7_fin : ∀ b : Fin 256, bits .and .u8 (b.val : Int) 7 = (b.val % 8 : Nat) := by decide +kernel
theorem and7 (b : UInt8) : bits .and .u8 (b.toNat : Int) 7 = (b.toNat % 8 : Nat) := and7_fin ⟨b.toNat, b.toNat_lt⟩

theorem drop_at (s : ByteArray) (k : Nat) (h : k < s.size) : s.data.toList.drop k = s[k] :: s.data.toList.drop (k + 1) := by
  have : k < s.data.toList.length := by simpa using h
  rw [List.drop_eq_getElem_cons this]; rfl
theorem acc_step (s : ByteArray) (n k q : Nat) (hk : k < s.size) (hn : k < n) :
    P.acc (n - k) (s.data.toList.drop k) q = if P.cb s[k] then P.acc (n - (k + 1)) (s.data.toList.drop (k + 1)) (q * 64 + s[k].toNat % 64) else none := by
  obtain ⟨m, hm⟩ : ∃ m, n - k = m + 1 := ⟨n - k - 1, by omega⟩
  rw [hm, drop_at s k hk, show n - (k + 1) = m from by omega]; rfl
theorem ret_two {k k' : IntKind} {a b c d : Int} (h : a = b) (h' : c = d) : Ending.returned (.tuple #[.int k a, .int k' c]) = .returned (.tuple #[.int k b, .int k' d]) := by rw [h, h']

theorem long_none {l : List UInt8} {n r least : Nat} (h : P.acc (n - 1) (l.drop 1) r = none) : P.long l n r least = (0, 0) := by rw [P.long, h]
theorem long_bad {l : List UInt8} {n r least q : Nat} (h : P.acc (n - 1) (l.drop 1) r = some q) (hq : q < least ∨ (55296 ≤ q ∧ q ≤ 57343) ∨ 1114111 < q) : P.long l n r least = (0, 0) := by rw [P.long, h]; exact if_pos hq
theorem long_good {l : List UInt8} {n r least q : Nat} (h : P.acc (n - 1) (l.drop 1) r = some q) (hq : ¬ (q < least ∨ (55296 ≤ q ∧ q ≤ 57343) ∨ 1114111 < q)) : P.long l n r least = (q, n) := by rw [P.long, h]; exact if_neg hq

set_option maxHeartbeats 1600000 in
theorem rlong_any (s : ByteArray) (n : Int) (m : Nat) (r least : Int) (w : World) (hm : n = m) (hs : s.size ≤ 4000) (hn : 2 ≤ m) (hn' : m ≤ 4) (h1 : 0 ≤ r) (h2 : r ≤ 31) (h3 : 0 ≤ least) :
    Calls Tryd.prog 33 #[.string s, .int .i64 n, .int .i32 r, .int .i32 least] w fun e w' =>
      e = .returned (.tuple #[.int .i32 (P.long s.data.toList m r.toNat least.toNat).1, .int .i64 (P.long s.data.toList m r.toNat least.toNat).2]) ∧ w = w' := by
  subst hm
  by_cases hlt : s.size < m
  · go_enter Tryd.func33, Tryd.ntmps33
    go_wp2
    go_ret2
    have : P.acc (m - 1) (s.data.toList.drop 1) r.toNat = none := by
      cases h : P.acc (m - 1) (s.data.toList.drop 1) r.toNat with
      | none => rfl
      | some q =>
        have h5 := P.acc_le _ _ _ _ h
        have h6 : s.data.toList.length = s.size := by simp
        rw [List.length_drop, h6] at h5
        omega
    exact ⟨by rw [long_none this]; rfl, rfl⟩
  · go_enter Tryd.func33, Tryd.ntmps33
    go_wp2
    go_loop [2, 10] (fun r' i => ∃ k : Nat, 1 ≤ k ∧ k ≤ m ∧ i = .int .i64 k ∧ ∃ q : Nat, r' = .int .i32 q ∧ (k = 1 ∧ q ≤ 31 ∨ k = 2 ∧ q ≤ 2047 ∨ k = 3 ∧ q ≤ 131071 ∨ k = 4 ∧ q ≤ 8388607) ∧ Hid (P.acc (m - 1) (s.data.toList.drop 1) r.toNat = P.acc (m - k) (s.data.toList.drop k) q)) (fun _ i => m - (intOf i).toNat)
    case atStart => exact ⟨1, by omega, by omega, rfl, r.toNat, by rw [Int.toNat_of_nonneg h1], by omega, Lib.hid rfl⟩
    case round =>
      obtain ⟨k, hk1, hk2, rfl, q, rfl, hq, hacc⟩ := hrel
      by_cases hkn : k < m
      · go_wp2
        · have ht : (bits BinOp.and IntKind.u8 (↑s[k].toNat) 192 != 128) = true := by assumption
          rw [and192] at ht
          go_ret2
          have : P.acc (m - 1) (s.data.toList.drop 1) r.toNat = none := by
            rw [hacc.out, acc_step s m k q (by omega) hkn, if_neg (by simpa using ht)]
          exact ⟨by rw [long_none this]; rfl, rfl⟩
        · have ht : (bits BinOp.and IntKind.u8 (↑s[k].toNat) 192 != 128) = false := by assumption
          rw [and192] at ht
          go_round
          case rel =>
            refine ⟨k + 1, by omega, by omega, by go_num, q * 64 + s[k].toNat % 64, ?_, by omega, ?_⟩
            · have e1 : wrap32 ((s[k].toNat % 64 : Nat) : Int) = (s[k].toNat % 64 : Nat) := IntWalk.wrap32_in _ (by omega)
              rw [and63, e1, IntWalk.wrap32_in _ (by omega)]; go_num
            · have H := hacc.out
              rw [acc_step s m k q (by omega) hkn, if_pos (by simpa using ht)] at H
              exact H
          case measure => simp [intOf]; omega
      · obtain rfl : k = m := by omega
        have H : P.acc (k - 1) (s.data.toList.drop 1) r.toNat = some q := by rw [hacc.out, Nat.sub_self]; rfl
        have H := Lib.hid H
        obtain ⟨L, rfl⟩ : ∃ L : Nat, least = L := ⟨least.toNat, by omega⟩
        clear hacc
        go_wp2
        all_goals go_ret2
        all_goals first
          | exact ⟨by rw [long_bad H.out (by omega)]; rfl, rfl⟩
          | exact ⟨by rw [long_good H.out (by omega)]; rfl, rfl⟩

theorem w31 (b : UInt8) : wrap32 (bits .and .u8 (b.toNat : Int) 31) = (b.toNat % 32 : Nat) := by rw [and31]; exact IntWalk.wrap32_in _ (by omega)
theorem w15 (b : UInt8) : wrap32 (bits .and .u8 (b.toNat : Int) 15) = (b.toNat % 16 : Nat) := by rw [and15]; exact IntWalk.wrap32_in _ (by omega)
theorem w7 (b : UInt8) : wrap32 (bits .and .u8 (b.toNat : Int) 7) = (b.toNat % 8 : Nat) := by rw [and7]; exact IntWalk.wrap32_in _ (by omega)

/-- What each of the four ways comes to. -/
theorem one_ways (s : ByteArray) (h0 : 0 < s.size) :
    ((s[0].toNat : Int) < 128 → P.one s.data.toList = (s[0].toNat, 1)) ∧
    ((194 ≤ (s[0].toNat : Int)) → (s[0].toNat : Int) ≤ 223 → P.one s.data.toList = P.long s.data.toList 2 (s[0].toNat % 32) 128) ∧
    ((224 ≤ (s[0].toNat : Int)) → (s[0].toNat : Int) ≤ 239 → P.one s.data.toList = P.long s.data.toList 3 (s[0].toNat % 16) 2048) ∧
    ((240 ≤ (s[0].toNat : Int)) → (s[0].toNat : Int) ≤ 244 → P.one s.data.toList = P.long s.data.toList 4 (s[0].toNat % 8) 65536) ∧
    (128 ≤ (s[0].toNat : Int) → ¬ (194 ≤ (s[0].toNat : Int) ∧ (s[0].toNat : Int) ≤ 244) → P.one s.data.toList = (0, 0)) := by
  have hd : s.data.toList = s[0] :: s.data.toList.drop 1 := drop_at s 0 h0
  have HO := P.one_cons s[0] (s.data.toList.drop 1)
  rw [← hd] at HO
  have hb := s[0].toNat_lt
  refine ⟨fun h => ?_, fun h h' => ?_, fun h h' => ?_, fun h h' => ?_, fun h h' => ?_⟩
  · rw [HO, if_pos (by omega)]
  · rw [HO, if_neg (by omega), if_pos (by omega)]
  · rw [HO, if_neg (by omega), if_neg (by omega), if_pos (by omega)]
  · rw [HO, if_neg (by omega), if_neg (by omega), if_neg (by omega), if_pos (by omega)]
  · rw [HO, if_neg (by omega), if_neg (by omega), if_neg (by omega), if_neg (by omega)]

set_option maxHeartbeats 1600000 in
set_option maxRecDepth 100000 in
theorem rone_any (s : ByteArray) (w : World) (h0 : 0 < s.size) (hs : s.size ≤ 4000) :
    Calls Tryd.prog 26 #[.string s] w fun e w' =>
      e = .returned (.tuple #[.int .i32 (P.one s.data.toList).1, .int .i64 (P.one s.data.toList).2]) ∧ w = w' := by
  have HW := Lib.hid (one_ways s h0)
  go_enter Tryd.func26, Tryd.ntmps26
  go_wp2_with fail
  · go_ret2
    exact ⟨by rw [HW.out.1 (by assumption)]; rfl, rfl⟩
  · refine (rlong_any s _ 2 _ _ _ rfl hs (by omega) (by omega) (by omega) (by omega) (by omega)).mono ?_
    rintro e w' ⟨rfl, rfl⟩
    have e1 : ((s[0].toNat : Int) % 32).toNat = s[0].toNat % 32 := by omega
    have HE := HW.out.2.1 (by assumption) (by assumption)
    rw [e1, ← show P.one s.data.toList = P.long s.data.toList 2 (s[0].toNat % 32) (128 : Int).toNat from HE]
    clear HE e1
    go_wp2_with fail
    go_ret2
    exact ⟨rfl, rfl⟩
  · refine (rlong_any s _ 3 _ _ _ rfl hs (by omega) (by omega) (by omega) (by omega) (by omega)).mono ?_
    rintro e w' ⟨rfl, rfl⟩
    have e1 : ((s[0].toNat : Int) % 16).toNat = s[0].toNat % 16 := by omega
    have HE := HW.out.2.2.1 (by assumption) (by assumption)
    rw [e1, ← show P.one s.data.toList = P.long s.data.toList 3 (s[0].toNat % 16) (2048 : Int).toNat from HE]
    clear HE e1
    go_wp2_with fail
    go_ret2
    exact ⟨rfl, rfl⟩
  · refine (rlong_any s _ 4 _ _ _ rfl hs (by omega) (by omega) (by omega) (by omega) (by omega)).mono ?_
    rintro e w' ⟨rfl, rfl⟩
    have e1 : ((s[0].toNat : Int) % 8).toNat = s[0].toNat % 8 := by omega
    have HE := HW.out.2.2.2.1 (by assumption) (by assumption)
    rw [e1, ← show P.one s.data.toList = P.long s.data.toList 4 (s[0].toNat % 8) (65536 : Int).toNat from HE]
    clear HE e1
    go_wp2_with fail
    go_ret2
    exact ⟨rfl, rfl⟩
  all_goals
    go_ret2
    exact ⟨by rw [HW.out.2.2.2.2 (by omega) (by omega)]; rfl, rfl⟩
end Go.Proofs.YtpeohgmceadmeaaDoor
