/- The document's own Fold. -/
import Derived.Test.YtciohjgcndgiaaaGreatLabFold
import Derived.Lib.AppendStr
import Derived.Lib.UnsafeStr
import Derived.Laws.BytesString
import Derived.Laws.OwnMore
import Derived.OwnWalk
import Derived.WalkSmall
import Derived.ShutString
import Derived.WalkSpells
import Derived.Maps.AppendAt
set_option linter.unusedSimpArgs false
set_option linter.unusedVariables false
namespace Go.Proofs.YtciohjgcndgiaaaGreat.Lab
open Go.RowKit

theorem info_u8 : (Tryz.prog.info? 5).map (fun i => (i.zero, i.size, i.bytes)) = some (some (.int .u8 0), 1, 1) := by kernel_rfl
set_option maxHeartbeats 400000 in
theorem rletter_any (r : Int) (w : World) :
    Calls Tryz.prog 90 #[.int .i32 r] w fun e w' => e = .returned (.bool (P.letB r)) ∧ w = w' := by
  go_enter Tryz.func90, Tryz.ntmps90
  go_wp2
  all_goals (go_ret; refine ⟨ret_bool ?_, rfl⟩; rw [Bool.eq_iff_iff]; simp only [P.letB, Bool.and_eq_true, Bool.or_eq_true, bne_iff_ne, beq_iff_eq, decide_eq_true_eq, ne_eq, Bool.false_eq_true, true_iff, false_iff] at *; omega)

set_option maxHeartbeats 400000 in
theorem rsign_any (r : Int) (w : World) :
    Calls Tryz.prog 100 #[.int .i32 r] w fun e w' => e = .returned (.bool (P.sgB r)) ∧ w = w' := by
  go_enter Tryz.func100, Tryz.ntmps100
  go_wp2_with (go_at_call 90; refine (rletter_any _ _).mono ?_; rintro e w' ⟨rfl, rfl⟩)
  all_goals (go_ret; refine ⟨ret_bool ?_, rfl⟩; simp_all [P.sgB, P.digB]; try omega)
theorem and192_fin : ∀ b : Fin 256, (bits .and .u8 (b.val : Int) 192 != 128) = !(b.val / 64 == 2) := by decide +kernel
theorem and192 (b : UInt8) : (bits .and .u8 (b.toNat : Int) 192 != 128) = !P.cb b := and192_fin ⟨b.toNat, b.toNat_lt⟩
theorem and63_fin : ∀ b : Fin 256, bits .and .u8 (b.val : Int) 63 = (b.val % 64 : Nat) := by decide +kernel
theorem and63 (b : UInt8) : bits .and .u8 (b.toNat : Int) 63 = (b.toNat % 64 : Nat) := and63_fin ⟨b.toNat, b.toNat_lt⟩
theorem and31_fin : ∀ b : Fin 256, bits .and .u8 (b.val : Int) 31 = (b.val % 32 : Nat) := by decide +kernel
theorem and31 (b : UInt8) : bits .and .u8 (b.toNat : Int) 31 = (b.toNat % 32 : Nat) := and31_fin ⟨b.toNat, b.toNat_lt⟩
theorem and15_fin : ∀ b : Fin 256, bits .and .u8 (b.val : Int) 15 = (b.val % 16 : Nat) := by decide +kernel
theorem and15 (b : UInt8) : bits .and .u8 (b.toNat : Int) 15 = (b.toNat % 16 : Nat) := and15_fin ⟨b.toNat, b.toNat_lt⟩
theorem and7_fin : ∀ b : Fin 256, bits .and .u8 (b.val : Int) 7 = (b.val % 8 : Nat) := by decide +kernel
theorem and7 (b : UInt8) : bits .and .u8 (b.toNat : Int) 7 = (b.toNat % 8 : Nat) := and7_fin ⟨b.toNat, b.toNat_lt⟩

theorem drop_at (s : ByteArray) (k : Nat) (h : k < s.size) : s.data.toList.drop k = s[k] :: s.data.toList.drop (k + 1) := by
  have : k < s.data.toList.length := by simpa using h
  rw [List.drop_eq_getElem_cons this]; rfl
theorem acc_step (s : ByteArray) (n k q : Nat) (hk : k < s.size) (hn : k < n) :
    P.acc (n - k) (s.data.toList.drop k) q = if P.cb s[k] then P.acc (n - (k + 1)) (s.data.toList.drop (k + 1)) (q * 64 + s[k].toNat % 64) else none := by
  obtain ⟨m, hm⟩ : ∃ m, n - k = m + 1 := ⟨n - k - 1, by omega⟩
  rw [hm, drop_at s k hk, show n - (k + 1) = m from by omega]; rfl
theorem ret_two {k k' : IntKind} {a b c d : Int} (h : a = b) (h' : c = d) : Ending.returned (.tuple #[.int k a, .int k' c]) = .returned (.tuple #[.int k b, .int k' d]) := by rw [h, h']

theorem long_none {l : List UInt8} {n r least : Nat} (h : P.acc (n - 1) (l.drop 1) r = none) : P.long l n r least = (0, 0) := by rw [P.long, h]
theorem long_bad {l : List UInt8} {n r least q : Nat} (h : P.acc (n - 1) (l.drop 1) r = some q) (hq : q < least ∨ (55296 ≤ q ∧ q ≤ 57343) ∨ 1114111 < q) : P.long l n r least = (0, 0) := by rw [P.long, h]; exact if_pos hq
theorem long_good {l : List UInt8} {n r least q : Nat} (h : P.acc (n - 1) (l.drop 1) r = some q) (hq : ¬ (q < least ∨ (55296 ≤ q ∧ q ≤ 57343) ∨ 1114111 < q)) : P.long l n r least = (q, n) := by rw [P.long, h]; exact if_neg hq

set_option maxHeartbeats 1600000 in
theorem rlong_any (s : ByteArray) (n : Int) (m : Nat) (r least : Int) (w : World) (hm : n = m) (hs : s.size ≤ 4000) (hn : 2 ≤ m) (hn' : m ≤ 4) (h1 : 0 ≤ r) (h2 : r ≤ 31) (h3 : 0 ≤ least) :
    Calls Tryz.prog 101 #[.string s, .int .i64 n, .int .i32 r, .int .i32 least] w fun e w' =>
      e = .returned (.tuple #[.int .i32 (P.long s.data.toList m r.toNat least.toNat).1, .int .i64 (P.long s.data.toList m r.toNat least.toNat).2]) ∧ w = w' := by
  subst hm
  by_cases hlt : s.size < m
  · go_enter Tryz.func101, Tryz.ntmps101
    go_wp2
    go_ret2
    have : P.acc (m - 1) (s.data.toList.drop 1) r.toNat = none := by
      cases h : P.acc (m - 1) (s.data.toList.drop 1) r.toNat with
      | none => rfl
      | some q =>
        have h5 := P.acc_le _ _ _ _ h
        have h6 : s.data.toList.length = s.size := by simp
        rw [List.length_drop, h6] at h5
        omega
    exact ⟨by rw [long_none this]; rfl, rfl⟩
  · go_enter Tryz.func101, Tryz.ntmps101
    go_wp2
    go_loop [2, 10] (fun r' i => ∃ k : Nat, 1 ≤ k ∧ k ≤ m ∧ i = .int .i64 k ∧ ∃ q : Nat, r' = .int .i32 q ∧ (k = 1 ∧ q ≤ 31 ∨ k = 2 ∧ q ≤ 2047 ∨ k = 3 ∧ q ≤ 131071 ∨ k = 4 ∧ q ≤ 8388607) ∧ Hid (P.acc (m - 1) (s.data.toList.drop 1) r.toNat = P.acc (m - k) (s.data.toList.drop k) q)) (fun _ i => m - (intOf i).toNat)
    case atStart => exact ⟨1, by omega, by omega, rfl, r.toNat, by rw [Int.toNat_of_nonneg h1], by omega, Lib.hid rfl⟩
    case round =>
      obtain ⟨k, hk1, hk2, rfl, q, rfl, hq, hacc⟩ := hrel
      by_cases hkn : k < m
      · go_wp2
        · have ht : (bits BinOp.and IntKind.u8 (↑s[k].toNat) 192 != 128) = true := by assumption
          rw [and192] at ht
          go_ret2
          have : P.acc (m - 1) (s.data.toList.drop 1) r.toNat = none := by
            rw [hacc.out, acc_step s m k q (by omega) hkn, if_neg (by simpa using ht)]
          exact ⟨by rw [long_none this]; rfl, rfl⟩
        · have ht : (bits BinOp.and IntKind.u8 (↑s[k].toNat) 192 != 128) = false := by assumption
          rw [and192] at ht
          go_round
          case rel =>
            refine ⟨k + 1, by omega, by omega, by go_num, q * 64 + s[k].toNat % 64, ?_, by omega, ?_⟩
            · have e1 : wrap32 ((s[k].toNat % 64 : Nat) : Int) = (s[k].toNat % 64 : Nat) := IntWalk.wrap32_in _ (by omega)
              rw [and63, e1, IntWalk.wrap32_in _ (by omega)]; go_num
            · have H := hacc.out
              rw [acc_step s m k q (by omega) hkn, if_pos (by simpa using ht)] at H
              exact H
          case measure => simp [intOf]; omega
      · obtain rfl : k = m := by omega
        have H : P.acc (k - 1) (s.data.toList.drop 1) r.toNat = some q := by rw [hacc.out, Nat.sub_self]; rfl
        have H := Lib.hid H
        obtain ⟨L, rfl⟩ : ∃ L : Nat, least = L := ⟨least.toNat, by omega⟩
        clear hacc
        go_wp2
        all_goals go_ret2
        all_goals first
          | exact ⟨by rw [long_bad H.out (by omega)]; rfl, rfl⟩
          | exact ⟨by rw [long_good H.out (by omega)]; rfl, rfl⟩

theorem w31 (b : UInt8) : wrap32 (bits .and .u8 (b.toNat : Int) 31) = (b.toNat % 32 : Nat) := by rw [and31]; exact IntWalk.wrap32_in _ (by omega)
theorem w15 (b : UInt8) : wrap32 (bits .and .u8 (b.toNat : Int) 15) = (b.toNat % 16 : Nat) := by rw [and15]; exact IntWalk.wrap32_in _ (by omega)
theorem w7 (b : UInt8) : wrap32 (bits .and .u8 (b.toNat : Int) 7) = (b.toNat % 8 : Nat) := by rw [and7]; exact IntWalk.wrap32_in _ (by omega)

/-- What each of the four ways comes to. -/
theorem one_ways (s : ByteArray) (h0 : 0 < s.size) :
    ((s[0].toNat : Int) < 128 → P.one s.data.toList = (s[0].toNat, 1)) ∧
    ((194 ≤ (s[0].toNat : Int)) → (s[0].toNat : Int) ≤ 223 → P.one s.data.toList = P.long s.data.toList 2 (s[0].toNat % 32) 128) ∧
    ((224 ≤ (s[0].toNat : Int)) → (s[0].toNat : Int) ≤ 239 → P.one s.data.toList = P.long s.data.toList 3 (s[0].toNat % 16) 2048) ∧
    ((240 ≤ (s[0].toNat : Int)) → (s[0].toNat : Int) ≤ 244 → P.one s.data.toList = P.long s.data.toList 4 (s[0].toNat % 8) 65536) ∧
    (128 ≤ (s[0].toNat : Int) → ¬ (194 ≤ (s[0].toNat : Int) ∧ (s[0].toNat : Int) ≤ 244) → P.one s.data.toList = (0, 0)) := by
  have hd : s.data.toList = s[0] :: s.data.toList.drop 1 := drop_at s 0 h0
  have HO := P.one_cons s[0] (s.data.toList.drop 1)
  rw [← hd] at HO
  have hb := s[0].toNat_lt
  refine ⟨fun h => ?_, fun h h' => ?_, fun h h' => ?_, fun h h' => ?_, fun h h' => ?_⟩
  · rw [HO, if_pos (by omega)]
  · rw [HO, if_neg (by omega), if_pos (by omega)]
  · rw [HO, if_neg (by omega), if_neg (by omega), if_pos (by omega)]
  · rw [HO, if_neg (by omega), if_neg (by omega), if_neg (by omega), if_pos (by omega)]
  · rw [HO, if_neg (by omega), if_neg (by omega), if_neg (by omega), if_neg (by omega)]

set_option maxHeartbeats 1600000 in
set_option maxRecDepth 100000 in
theorem rone_any (s : ByteArray) (w : World) (h0 : 0 < s.size) (hs : s.size ≤ 4000) :
    Calls Tryz.prog 89 #[.string s] w fun e w' =>
      e = .returned (.tuple #[.int .i32 (P.one s.data.toList).1, .int .i64 (P.one s.data.toList).2]) ∧ w = w' := by
  have HW := Lib.hid (one_ways s h0)
  go_enter Tryz.func89, Tryz.ntmps89
  go_wp2_with fail
  · go_ret2
    exact ⟨by rw [HW.out.1 (by assumption)]; rfl, rfl⟩
  · refine (rlong_any s _ 2 _ _ _ rfl hs (by omega) (by omega) (by omega) (by omega) (by omega)).mono ?_
    rintro e w' ⟨rfl, rfl⟩
    have e1 : ((s[0].toNat : Int) % 32).toNat = s[0].toNat % 32 := by omega
    have HE := HW.out.2.1 (by assumption) (by assumption)
    rw [e1, ← show P.one s.data.toList = P.long s.data.toList 2 (s[0].toNat % 32) (128 : Int).toNat from HE]
    clear HE e1
    go_wp2_with fail
    go_ret2
    exact ⟨rfl, rfl⟩
  · refine (rlong_any s _ 3 _ _ _ rfl hs (by omega) (by omega) (by omega) (by omega) (by omega)).mono ?_
    rintro e w' ⟨rfl, rfl⟩
    have e1 : ((s[0].toNat : Int) % 16).toNat = s[0].toNat % 16 := by omega
    have HE := HW.out.2.2.1 (by assumption) (by assumption)
    rw [e1, ← show P.one s.data.toList = P.long s.data.toList 3 (s[0].toNat % 16) (2048 : Int).toNat from HE]
    clear HE e1
    go_wp2_with fail
    go_ret2
    exact ⟨rfl, rfl⟩
  · refine (rlong_any s _ 4 _ _ _ rfl hs (by omega) (by omega) (by omega) (by omega) (by omega)).mono ?_
    rintro e w' ⟨rfl, rfl⟩
    have e1 : ((s[0].toNat : Int) % 8).toNat = s[0].toNat % 8 := by omega
    have HE := HW.out.2.2.2.1 (by assumption) (by assumption)
    rw [e1, ← show P.one s.data.toList = P.long s.data.toList 4 (s[0].toNat % 8) (65536 : Int).toNat from HE]
    clear HE e1
    go_wp2_with fail
    go_ret2
    exact ⟨rfl, rfl⟩
  all_goals
    go_ret2
    exact ⟨by rw [HW.out.2.2.2.2 (by omega) (by omega)]; rfl, rfl⟩
theorem rone_at (s : ByteArray) (pos r n : Nat) (w : World) (h0 : pos < s.size) (hs : s.size ≤ 4000) (ho : Hid (P.one (s.data.toList.drop pos) = (r, n))) :
    Calls Tryz.prog 89 #[.string (s.extract pos s.size)] w fun e w' =>
      e = .returned (.tuple #[.int .i32 r, .int .i64 n]) ∧ w = w' := by
  have e1 : (s.extract pos s.size).data.toList = s.data.toList.drop pos := by
    rw [Lib.extract_data, List.take_of_length_le (by simp)]
  have e2 : (s.extract pos s.size).size = s.size - pos := by simp
  refine (rone_any (s.extract pos s.size) w (by omega) (by omega)).mono fun e w' ⟨he, hw⟩ => ⟨?_, hw⟩
  rw [he, e1, ho.out]

set_option maxHeartbeats 1600000 in
set_option maxRecDepth 100000 in
theorem rvalid_any (s : ByteArray) (w : World) (hs : s.size ≤ 4000) :
    Calls Tryz.prog 88 #[.string s] w fun e w' => e = .returned (.bool (P.name s.data.toList)) ∧ w = w' := by
  by_cases h64 : 1 ≤ s.size ∧ s.size ≤ 64
  · obtain ⟨hs1, hs2⟩ := h64
    go_enter Tryz.func88, Tryz.ntmps88
    go_wp2
    go_loop [3, 4, 5] (fun st l i => ∃ pos : Nat, pos ≤ s.size ∧ i = .int .i64 pos ∧ ∃ b : Nat, l = .int .i32 b ∧ ∃ t : Bool, st = .bool t ∧ (t = true ↔ (b : Int) = 46) ∧ Hid (P.validR 46 (P.runesOf s.data.toList) = P.validR b (P.runesOf (s.data.toList.drop pos)))) (fun _ _ i => s.size - (intOf i).toNat)
    case atStart => exact ⟨0, by omega, rfl, 46, rfl, true, rfl, by simp, Lib.hid rfl⟩
    case round =>
      obtain ⟨pos, hp, rfl, b, rfl, t, rfl, htb, hv⟩ := hrel
      by_cases hlt : pos < s.size
      · obtain ⟨r, n, ho⟩ : ∃ r n, P.one (s.data.toList.drop pos) = (r, n) := ⟨_, _, rfl⟩
        obtain ⟨hr1, hr2, hr3⟩ := one_room s pos r n hlt ho
        have HS := Lib.hid (valid_step s pos r n b hlt ho hv.out)
        have HO := Lib.hid ho
        clear hv ho
        have HTB := Lib.hid htb
        clear htb
        go_wp2_with (first | (go_at_call 89; refine (rone_at s pos r n _ hlt hs HO).mono ?_; rintro e w' ⟨rfl, rfl⟩) | (go_at_call 100; refine (rsign_any _ _).mono ?_; rintro e w' ⟨rfl, rfl⟩))
        all_goals first
          | (go_ret
             refine ⟨ret_bool ?_, rfl⟩
             rw [name_eq s hs2, HS.out.1 ?_]
             go_light
             first
               | (left; simp_all; done)
               | (right; rw [P.fol_cases b r t HTB.out]; simp_all; done))
          | (go_round
             case rel =>
               rw [HS.out.2 ?_ ?_]
               · first
                   | exact ⟨pos + n, by omega, by go_num, r, rfl, true, rfl, by go_light; simp_all, Lib.hid rfl⟩
                   | exact ⟨pos + n, by omega, by go_num, r, rfl, false, rfl, by go_light; simp_all, Lib.hid rfl⟩
               · go_light; simp_all
               · go_light; rw [P.fol_cases b r t HTB.out]; simp_all
             case measure =>
               have hn0 : ((n : Int) == 0) = false := by assumption
               have : n ≠ 0 := by simpa using hn0
               simp [intOf]; omega)
      · obtain rfl : pos = s.size := by omega
        rw [validR_end s s.size b (by omega)] at hv
        have HTB := Lib.hid htb
        clear htb
        go_wp2
        all_goals
          go_ret
          refine ⟨ret_bool ?_, rfl⟩
          rw [name_eq s hs2, hv.out, P.fol_cases b 46 t HTB.out]
          go_light
          simp_all
          try rfl
  · have hn : P.name s.data.toList = false := by
      by_cases h : s.size ≤ 64
      · obtain rfl : s = ByteArray.empty := by
          have h0 : s.size = 0 := by omega
          have : s.data.toList = [] := List.length_eq_zero_iff.1 (by simpa using h0)
          rw [← Lib.mk_data s, this]; rfl
        decide
      · have : ¬ s.data.toList.length ≤ 64 := by simpa using h
        rw [P.name, decide_eq_false this]; rfl
    have HN := Lib.hid hn
    clear hn
    by_cases h1 : s.size < 1
    · go_enter Tryz.func88, Tryz.ntmps88
      go_wp2
      go_ret
      exact ⟨by rw [HN.out]; rfl, rfl⟩
    · have h2 : 64 < s.size := by omega
      clear h64
      go_enter Tryz.func88, Tryz.ntmps88
      go_wp2
      go_ret
      exact ⟨by rw [HN.out]; rfl, rfl⟩
theorem push_bytes : ∀ (l : List UInt8) (s : ByteArray), (l.map fun b => (b.toNat : Int)).foldl (fun r n => r.push (UInt8.ofNat n.toNat)) s = ⟨s.data ++ l.toArray⟩
  | [], s => by simp
  | b :: l, s => by
    rw [List.map_cons, List.foldl_cons, push_bytes l]
    have : UInt8.ofNat ((b.toNat : Int)).toNat = b := by simp
    rw [this]
    apply ByteArray.ext
    show (s.data.push b) ++ l.toArray = _
    apply Array.ext'
    simp

/-- A row of bytes that a call owns, turned into a text. -/
theorem run_own_string {Pr : Program} {w : World} {base : Nat} {e : TypeId} {v : Value} {n : Nat} {l : List UInt8} (src dst : TypeId)
    (hs : Pr.underlying src = some (.slice e)) (he : Pr.underlying e = some (.int .u8)) (hd : Pr.underlying dst = some .string) (h : w.ownsRow base e 1 v n (Lib.byteCells l)) :
    (convert src dst v).run Pr w = .ok (.string ⟨l.toArray⟩) w := by
  have hc : ∀ g, v.ownBlock = some g → ∀ j u, (Lib.byteCells l)[j]? = some u → w.cell? ((⟨g, 0, none⟩ : Addr).add j) = some u := fun g => World.ownsRow.cells h
  rcases h.2 with ⟨rfl, hn⟩ | ⟨g, cap, cur, rfl, _⟩
  · rw [run_convert_bytes_string w src dst e none 0 0 hs he hd]
    have : l = [] := by
      have h1 := h.1
      rw [hn] at h1
      simpa [Lib.byteCells] using h1
    subst this
    rfl
  · rw [run_convert_bytes_string w src dst e _ _ _ hs he hd]
    have hlen : l.length = n := by have h1 := h.1; simpa [Lib.byteCells] using h1
    have hl := run_loadCells_list (P := Pr) (w := w) (⟨g, 0, none⟩ : Addr) (Lib.byteCells l) (fun j u hu => hc g rfl j u hu)
    have hb : Lib.byteCells l = (l.map fun b => (b.toNat : Int)).map (Value.int .u8) := by simp [Lib.byteCells]
    have hl2 : (Lib.byteCells l).length = n := by simpa [Lib.byteCells] using hlen
    rw [hl2, hb] at hl
    rw [run_bytesToString w _ n cap _ hl, push_bytes, show ByteArray.empty.data ++ l.toArray = l.toArray from by apply Array.ext'; simp]

theorem enc_bytes (r : Int) (h0 : 0 ≤ r) (h1 : r ≤ 127) : Lib.encodeRune r = [r.toNat.toUInt8] := by
  rw [Lib.encodeRune, Lib.encodeRuneZ_one h0 h1]; rfl
theorem enc_bytes2 (r : Int) (h0 : 128 ≤ r) (h1 : r ≤ 2047) : Lib.encodeRune r = [(192 + r / 64).toNat.toUInt8, (128 + r % 64).toNat.toUInt8] := by
  rw [Lib.encodeRune, Lib.encodeRuneZ_two h0 h1]; rfl

/-- A rune of one or two bytes is those bytes. -/
theorem one_enc (l : List UInt8) (r n : Nat) (h : P.one l = (r, n)) (hn : n ≠ 0) (hr : r ≤ 591) :
    l.take n = Lib.encodeRune r ∧ (n = 1 ∧ r ≤ 127 ∨ n = 2 ∧ 128 ≤ r) := by
  cases l with
  | nil => simp [P.one] at h; omega
  | cons a l =>
    have ha := a.toNat_lt
    rw [P.one_cons] at h
    have hl : ∀ m q least, (P.long (a :: l) m q least = (r, n)) → least ≤ r ∧ P.acc (m - 1) l q = some r ∧ n = m := by
      intro m q least h1
      rcases P.long_cases (a :: l) m q least with h2 | ⟨x, h2, h3, h4, _⟩
      · rw [h2] at h1; simp at h1; omega
      · rw [h3] at h1
        obtain ⟨rfl, rfl⟩ : x = r ∧ m = n := by simpa using h1
        exact ⟨h4, by simpa using h2, rfl⟩
    split at h
    · obtain ⟨rfl, rfl⟩ : a.toNat = r ∧ 1 = n := by simpa using h
      refine ⟨?_, .inl ⟨rfl, by omega⟩⟩
      rw [enc_bytes _ (by omega) (by omega)]
      simp
    · split at h
      · obtain ⟨h1, h2, rfl⟩ := hl 2 _ _ h
        refine ⟨?_, .inr ⟨rfl, h1⟩⟩
        cases l with
        | nil => simp [P.acc] at h2
        | cons b l =>
          have hb := b.toNat_lt
          rw [enc_bytes2 _ (by omega) (by omega)]
          simp only [P.acc, P.cb] at h2
          by_cases hc : b.toNat / 64 = 2
          · simp [hc] at h2
            have e1 : (192 + (r : Int) / 64).toNat = a.toNat := by omega
            have e2 : (128 + (r : Int) % 64).toNat = b.toNat := by omega
            rw [e1, e2]
            simp
          · simp [hc] at h2
      · split at h
        · obtain ⟨h1, _⟩ := hl 3 _ _ h
          omega
        · split at h
          · obtain ⟨h1, _⟩ := hl 4 _ _ h
            omega
          · simp at h; omega
theorem or_fin : ∀ k : Fin 31, bits .or .u8 128 (bits .and .i32 ((192 + k.val : Nat) + 32 : Int) 63 % 256) = 128 + (((192 + k.val : Nat) : Int) + 32) % 64 := by decide +kernel
theorem or_low (r : Nat) (h1 : 192 ≤ r) (h2 : r ≤ 222) : bits .or .u8 128 (bits .and .i32 ((r : Int) + 32) 63 % 256) = 128 + ((r : Int) + 32) % 64 := by
  obtain ⟨k, rfl⟩ : ∃ k, r = 192 + k := ⟨r - 192, by omega⟩
  exact or_fin ⟨k, by omega⟩

set_option maxHeartbeats 4000000 in
set_option maxRecDepth 1000000 in
theorem rfold_yes (s : ByteArray) (w : World) (hs : s.size ≤ 4000) (hn : P.name s.data.toList = true) :
    Calls Tryz.prog 73 #[.string s] w fun e w' => e = .returned (.tuple #[.string ⟨(P.foldB s.data.toList).toArray⟩, .int .i64 0]) ∧ Below w.heap.size w w' := by
  have HV := Lib.hid (name_valid _ hn)
  have h64 : s.size ≤ 64 := by have := HV.out.1; simpa using this
  obtain ⟨i0, hi, hz0, hz1, hz2⟩ := info_parts info_u8
  go_enter Tryz.func73, Tryz.ntmps73
  go_wp2_with fail
  refine (rvalid_any s _ hs).mono ?_
  rw [hn]
  rintro e w1 ⟨rfl, rfl⟩
  clear hn
  go_wp2_with fail
  go_loopw [4, 5] (fun v i wr => ∃ (pos : Nat) (b : Int) (acc : List UInt8), pos ≤ s.size ∧ i = .int .i64 pos ∧ wr.ownsRow w.heap.size 5 1 v acc.length (Lib.byteCells acc) ∧ Below w.heap.size w wr ∧ Hid (acc ++ P.foldL (P.runesOf (s.data.toList.drop pos)) = P.foldB s.data.toList) ∧ acc.length ≤ 4 * pos ∧ Hid (P.validR b (P.runesOf (s.data.toList.drop pos)) = true)) (fun _ i _ => s.size - (intOf i).toNat)
  case atStart => exact ⟨0, 46, [], by omega, rfl, World.ownsRow_nil _ _ _ _, Below.refl _ _, Lib.hid rfl, by simp, Lib.hid HV.out.2⟩
  case round =>
    obtain ⟨pos, b, acc, hp', rfl, hown, hbw, hacc, hal, hvr⟩ := hrel
    by_cases hp : pos < s.size
    · obtain ⟨r, n, ho⟩ : ∃ r n, P.one (s.data.toList.drop pos) = (r, n) := ⟨_, _, rfl⟩
      obtain ⟨hr1, hr2, hr3⟩ := one_room s pos r n hp ho
      obtain ⟨hn0, hf, hvr2⟩ := valid_on s pos r n b hp ho hvr.out
      have hn1 : 1 ≤ n := by omega
      obtain ⟨hr4, hr5, hr6⟩ := fol_bound b r hf
      have hfb := Lib.hid hf
      obtain ⟨hen, hcs⟩ := one_enc _ r n ho hn0 (by omega)
      have hfl := foldL_at s pos r n hp hn0 ho
      have HO := Lib.hid ho
      have HF := Lib.hid (And.intro hacc.out (And.intro hfl (And.intro hvr2 hen)))
      clear hacc hfl hvr2 hvr ho hf hn0 hen
      by_cases cA : n = 1 ∧ 65 ≤ r ∧ r ≤ 90
      · obtain ⟨rfl, c1, c2⟩ := cA
        go_wp2_with (first | (go_at_call 89; refine (rone_at s pos r 1 _ hp hs HO).mono ?_; rintro e w' ⟨rfl, rfl⟩) | (at_builtin; refine wpList_append_own _ rfl _ _ 133 rfl w.heap.size 5 i0 (.int .u8 0) 1 1 Tryz.underlying133 hi hz0 hz1 hz2 rfl (by decide) _ _ _ rfl (hown.alloc _) ⟨wr.heap.size, 0, none⟩ 1 1 _ rfl rfl (cell_one_new _ _ _) (by intro u hu; simp at hu; subst hu; rfl) (by unfold maxLen; omega) (by omega) (by simp; have := hbw.size; omega) ?_; intro v' w' hown' hgrow' _))
        go_roundw
        case rel =>
          have hE : Lib.encodeRune (P.foldR r) = [((r : Int) + 32).toNat.toUInt8] := by
            rw [P.foldR, if_pos (by omega)]; exact enc_bytes _ (by omega) (by omega)
          have hC : Lib.byteCells [((r : Int) + 32).toNat.toUInt8] = [Value.int .u8 ((r : Int) + 32)] := by
            simp [Lib.byteCells]; omega
          refine ⟨pos + 1, r, acc ++ Lib.encodeRune (P.foldR r), by omega, by go_num, ?_, (hbw.alloc hbw.size _).grown hgrow' (by simp; have := hbw.size; omega) (fun k hk => (hown.lt k hk).1), ?_, ?_, HF.out.2.2.1⟩
          · rw [Lib.byteCells_append, List.length_append, hE, hC]; exact hown'
          · exact Lib.hid (by rw [List.append_assoc, ← HF.out.2.1, HF.out.1])
          · rw [List.length_append, hE]; simp; omega
        case measure => simp [intOf]; omega
      · by_cases cB : n = 2 ∧ 192 ≤ r ∧ r ≤ 222
        · obtain ⟨rfl, c1, c2⟩ := cB
          have hlet := hr6 (by omega)
          clear hr6 cA
          go_wp2_with (first | (go_at_call 89; refine (rone_at s pos r 2 _ hp hs HO).mono ?_; rintro e w' ⟨rfl, rfl⟩) | (go_at_call 90; refine (rletter_any _ _).mono ?_; rintro e w' ⟨rfl, rfl⟩) | (at_builtin; refine wpList_append_own _ rfl _ _ 133 rfl w.heap.size 5 i0 (.int .u8 0) 1 1 Tryz.underlying133 hi hz0 hz1 hz2 rfl (by decide) _ _ _ rfl (hown.alloc _) ⟨wr.heap.size, 0, none⟩ 2 2 _ rfl rfl (cell_two_new _ _ _ _) (by intro u hu; simp at hu; rcases hu with rfl | rfl <;> rfl) (by unfold maxLen; omega) (by omega) (by simp; have := hbw.size; omega) ?_; intro v' w' hown' hgrow' _))
          go_roundw
          case rel =>
            have hE : Lib.encodeRune (P.foldR r) = [(192 + ((r : Int) + 32) / 64).toNat.toUInt8, (128 + ((r : Int) + 32) % 64).toNat.toUInt8] := by
              rw [P.foldR, if_pos (by omega)]; exact enc_bytes2 _ (by omega) (by omega)
            have hC : Lib.byteCells [(192 + ((r : Int) + 32) / 64).toNat.toUInt8, (128 + ((r : Int) + 32) % 64).toNat.toUInt8] = [Value.int .u8 (192 + ((r : Int) + 32) / 64), Value.int .u8 (128 + ((r : Int) + 32) % 64)] := by
              simp [Lib.byteCells]; omega
            refine ⟨pos + 2, r, acc ++ Lib.encodeRune (P.foldR r), by omega, by go_num, ?_, (hbw.alloc hbw.size _).grown hgrow' (by simp; have := hbw.size; omega) (fun k hk => (hown.lt k hk).1), ?_, ?_, HF.out.2.2.1⟩
            · rw [or_low r c1 c2] at hown'; rw [Lib.byteCells_append, List.length_append, hE, hC]; exact hown'
            · exact Lib.hid (by rw [List.append_assoc, ← HF.out.2.1, HF.out.1])
            · rw [List.length_append, hE]; simp; omega
          case measure => simp [intOf]; omega
        · have hC : (n = 1 ∧ r < 65) ∨ (n = 1 ∧ 90 < r ∧ r ≤ 127) ∨ (n = 2 ∧ 222 < r) := by
            rcases hcs with ⟨h1, h2⟩ | ⟨h1, h2⟩
            · omega
            · have : 192 ≤ r := by
                by_cases h3 : 192 ≤ r
                · exact h3
                · exfalso
                  have h4 := hfb.out
                  unfold P.fol P.letB P.digB at h4
                  rw [if_neg (by omega), if_neg (by omega)] at h4
                  simp at h4
                  omega
              omega
          have hfr : P.foldR r = r := by rw [P.foldR, if_neg (by omega)]
          have hext : s.extract pos (pos + n) = ⟨(Lib.encodeRune (P.foldR r)).toArray⟩ := by
            rw [Lib.extract_eq, Nat.add_sub_cancel_left, HF.out.2.2.2, hfr]
          have HX := Lib.hid hext
          have hsz : (s.extract pos (pos + n)).size = n := by simp; omega
          clear hext hr6 cA cB hcs
          have hsz := Lib.hid hsz
          rcases hC with ⟨rfl, c1⟩ | ⟨rfl, c1, c2⟩ | ⟨rfl, c1⟩
          · go_wp2_with (first | (go_at_call 89; refine (rone_at s pos r 1 _ hp hs HO).mono ?_; rintro e w' ⟨rfl, rfl⟩) | (at_builtin; refine Lib.wpList_append_own_string _ rfl _ _ 133 9 rfl w.heap.size 5 i0 Tryz.underlying133 Tryz.underlying9 hi hz0 hz1 hz2 _ _ _ rfl hown (s.extract pos (pos + 1)) rfl (by rw [hsz.out]; unfold maxLen; omega) (by rw [hsz.out]; omega) (by have := hbw.size; omega) ?_; intro v' w' hown' hgrow' _))
            go_roundw
            case rel =>
              rw [hsz.out] at hown'
              have hstr : Lib.strCells (s.extract pos (pos + 1)) = Lib.byteCells (Lib.encodeRune (P.foldR r)) := by rw [HX.out]; rfl
              have hlen : (Lib.encodeRune (P.foldR r)).length = 1 := by rw [← size_of_list, ← HX.out]; exact hsz.out
              refine ⟨pos + 1, r, acc ++ Lib.encodeRune (P.foldR r), hr1, by go_num, ?_, hbw.grown hgrow' hbw.size (fun k hk => (hown.lt k hk).1), ?_, ?_, HF.out.2.2.1⟩
              · rw [Lib.byteCells_append, List.length_append, ← hstr, hlen]; exact hown'
              · exact Lib.hid (by rw [List.append_assoc, ← HF.out.2.1, HF.out.1])
              · rw [List.length_append, hlen]; omega
            case measure => simp [intOf]; omega
          · go_wp2_with (first | (go_at_call 89; refine (rone_at s pos r 1 _ hp hs HO).mono ?_; rintro e w' ⟨rfl, rfl⟩) | (at_builtin; refine Lib.wpList_append_own_string _ rfl _ _ 133 9 rfl w.heap.size 5 i0 Tryz.underlying133 Tryz.underlying9 hi hz0 hz1 hz2 _ _ _ rfl hown (s.extract pos (pos + 1)) rfl (by rw [hsz.out]; unfold maxLen; omega) (by rw [hsz.out]; omega) (by have := hbw.size; omega) ?_; intro v' w' hown' hgrow' _))
            go_roundw
            case rel =>
              rw [hsz.out] at hown'
              have hstr : Lib.strCells (s.extract pos (pos + 1)) = Lib.byteCells (Lib.encodeRune (P.foldR r)) := by rw [HX.out]; rfl
              have hlen : (Lib.encodeRune (P.foldR r)).length = 1 := by rw [← size_of_list, ← HX.out]; exact hsz.out
              refine ⟨pos + 1, r, acc ++ Lib.encodeRune (P.foldR r), hr1, by go_num, ?_, hbw.grown hgrow' hbw.size (fun k hk => (hown.lt k hk).1), ?_, ?_, HF.out.2.2.1⟩
              · rw [Lib.byteCells_append, List.length_append, ← hstr, hlen]; exact hown'
              · exact Lib.hid (by rw [List.append_assoc, ← HF.out.2.1, HF.out.1])
              · rw [List.length_append, hlen]; omega
            case measure => simp [intOf]; omega
          · go_wp2_with (first | (go_at_call 89; refine (rone_at s pos r 2 _ hp hs HO).mono ?_; rintro e w' ⟨rfl, rfl⟩) | (at_builtin; refine Lib.wpList_append_own_string _ rfl _ _ 133 9 rfl w.heap.size 5 i0 Tryz.underlying133 Tryz.underlying9 hi hz0 hz1 hz2 _ _ _ rfl hown (s.extract pos (pos + 2)) rfl (by rw [hsz.out]; unfold maxLen; omega) (by rw [hsz.out]; omega) (by have := hbw.size; omega) ?_; intro v' w' hown' hgrow' _))
            go_roundw
            case rel =>
              rw [hsz.out] at hown'
              have hstr : Lib.strCells (s.extract pos (pos + 2)) = Lib.byteCells (Lib.encodeRune (P.foldR r)) := by rw [HX.out]; rfl
              have hlen : (Lib.encodeRune (P.foldR r)).length = 2 := by rw [← size_of_list, ← HX.out]; exact hsz.out
              refine ⟨pos + 2, r, acc ++ Lib.encodeRune (P.foldR r), hr1, by go_num, ?_, hbw.grown hgrow' hbw.size (fun k hk => (hown.lt k hk).1), ?_, ?_, HF.out.2.2.1⟩
              · rw [Lib.byteCells_append, List.length_append, ← hstr, hlen]; exact hown'
              · exact Lib.hid (by rw [List.append_assoc, ← HF.out.2.1, HF.out.1])
              · rw [List.length_append, hlen]; omega
            case measure => simp [intOf]; omega
    · obtain rfl : pos = s.size := by omega
      have hcv := run_own_string (Pr := Tryz.prog) 133 9 Tryz.underlying133 Tryz.underlying5 Tryz.underlying9 hown
      go_wp2_with fail
      go_ret2
      have hacc := hacc.out
      rw [foldL_end s s.size (by omega), List.append_nil] at hacc
      exact ⟨by rw [← hacc]; rfl, hbw⟩

set_option maxHeartbeats 4000000 in
set_option maxRecDepth 1000000 in
theorem rfold_no (s : ByteArray) (w : World) (hs : s.size ≤ 4000) (hn : P.name s.data.toList = false) :
    Calls Tryz.prog 73 #[.string s] w fun e w' => e = .returned (.tuple #[.string ByteArray.empty, .int .i64 10]) ∧ Below w.heap.size w w' := by
  go_enter Tryz.func73, Tryz.ntmps73
  go_wp2_with fail
  refine (rvalid_any s _ hs).mono ?_
  rw [hn]
  rintro e w1 ⟨rfl, rfl⟩
  clear hn
  go_wp2_with fail
  go_ret2
  exact ⟨rfl, Below.refl _ _⟩
end Go.Proofs.YtciohjgcndgiaaaGreat.Lab
