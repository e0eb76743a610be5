/- Numbers and groups read: digits of texts. -/
import Derived.Test.YtbejnnkdgcelmaaGreatDoorPure
import Derived.Test.YtbejnnkdgcelmaaGreatDoorOwn
import Derived.Lib.RuneBytes
import Derived.Laws.BitsAllLaws
set_option linter.unusedSimpArgs false
set_option linter.unusedVariables false
namespace Go.Proofs.YtbejnnkdgcelmaaGreatDoor.P
def digB (b : UInt8) : Bool := decide (48 ≤ b.toNat ∧ b.toNat ≤ 57)
def numF (most : Nat) : Nat → List UInt8 → Option Nat
  | n, [] => some n
  | n, b :: l => if digB b then (if 10 * n + (b.toNat - 48) ≤ most then numF most (10 * n + (b.toNat - 48)) l else none) else none
/-- The number whose digits a text is, at most 'most'; no noughts ahead. -/
def numP (most : Nat) (l : List UInt8) : Option Nat := if l = [] then none else if l.head? = some 48 ∧ l ≠ [48] then none else numF most 0 l
def hexB (b : UInt8) : Option Nat := if 48 ≤ b.toNat ∧ b.toNat ≤ 57 then some (b.toNat - 48) else if 97 ≤ b.toNat ∧ b.toNat ≤ 102 then some (b.toNat - 87) else if 65 ≤ b.toNat ∧ b.toNat ≤ 70 then some (b.toNat - 55) else none
def grpF : Nat → List UInt8 → Option Nat
  | n, [] => some n
  | n, b :: l => match hexB b with
    | none => none
    | some d => grpF (16 * n + d) l
/-- The group that a text is. -/
def grpP (l : List UInt8) : Option Nat := if l = [] ∨ 4 < l.length then none else grpF 0 l

theorem one_great (l : List UInt8) (a : UInt8) (h : 128 ≤ a.toNat) : 128 ≤ (seen (one (a :: l))).1 := by
  have hl : ∀ n r least, 128 ≤ least → 128 ≤ (seen (long (a :: l) n r least)).1 := by
    intro n r least h0
    rcases long_cases (a :: l) n r least with h2 | ⟨x, h2, h3, h4, _⟩
    · rw [h2]; simp [seen]
    · rw [h3]
      unfold seen
      split
      · simp
      · simp; omega
  rw [one_cons]
  rw [if_neg (by omega)]
  split
  · exact hl _ _ _ (by omega)
  · split
    · exact hl _ _ _ (by omega)
    · split
      · exact hl _ _ _ (by omega)
      · simp [seen]
end Go.Proofs.YtbejnnkdgcelmaaGreatDoor.P
namespace Go.Proofs.YtbejnnkdgcelmaaGreatDoor
open Go.RowKit

theorem drop_at (s : ByteArray) (k : Nat) (h : k < s.size) : s.data.toList.drop k = s[k] :: s.data.toList.drop (k + 1) := by
  have : k < s.data.toList.length := by simpa using h
  rw [List.drop_eq_getElem_cons this]; rfl
/-- What stands at a place of a text: a sign of one byte, or a greater one. -/
theorem rune_at (s : ByteArray) (pos : Nat) (h : pos < s.size) :
    (s[pos].toNat < 128 ∧ Utf8.decode s pos = (s[pos].toNat, 1)) ∨ (128 ≤ s[pos].toNat ∧ ∃ r n, Utf8.decode s pos = (r, n) ∧ 128 ≤ r ∧ r ≤ 1114111 ∧ 1 ≤ n ∧ pos + n ≤ s.size) := by
  have hd := drop_at s pos h
  have he := P.decode_eq s pos h
  rw [hd] at he
  by_cases hb : s[pos].toNat < 128
  · refine .inl ⟨hb, ?_⟩
    rw [he, P.one_cons, if_pos hb]; simp [P.seen]
  · refine .inr ⟨by omega, (P.seen (P.one (s[pos] :: s.data.toList.drop (pos + 1)))).1, (P.seen (P.one (s[pos] :: s.data.toList.drop (pos + 1)))).2, he, P.one_great _ _ (by omega), ?_, ?_, ?_⟩
    · have := P.one_lt (s[pos] :: s.data.toList.drop (pos + 1))
      unfold P.seen
      split <;> simp <;> omega
    · rw [P.wd_seen]; exact P.wd_pos _
    · rw [P.wd_seen]
      have h1 := P.one_le (s[pos] :: s.data.toList.drop (pos + 1))
      have h2 : s.data.toList.length = s.size := by simp
      rw [List.length_cons, List.length_drop, h2] at h1
      unfold P.wd
      omega

theorem numF_dig (most n : Nat) (b : UInt8) (l : List UInt8) (h : P.digB b = true) (h2 : 10 * n + (b.toNat - 48) ≤ most) : P.numF most n (b :: l) = P.numF most (10 * n + (b.toNat - 48)) l := by rw [P.numF, if_pos h, if_pos h2]
theorem numF_big (most n : Nat) (b : UInt8) (l : List UInt8) (h2 : ¬ 10 * n + (b.toNat - 48) ≤ most) : P.numF most n (b :: l) = none := by
  rw [P.numF, if_neg h2]; split <;> rfl
theorem numF_bad (most n : Nat) (b : UInt8) (l : List UInt8) (h : P.digB b = false) : P.numF most n (b :: l) = none := by rw [P.numF, h]; rfl

set_option maxHeartbeats 4000000 in
set_option maxRecDepth 1000000 in
theorem readNumber_any (s : ByteArray) (most : Nat) (w : World) (hs : s.size ≤ 4000) (hm : most ≤ 65535) :
    Calls Tryz.prog 28 #[.string s, .int .i64 most] w fun e w' => e = .returned (.tuple #[.int .i64 ((P.numP most s.data.toList).getD 0 : Nat), .bool (P.numP most s.data.toList).isSome]) ∧ Below w.heap.size w w' := by
  have hlen : s.data.toList.length = s.size := by simp
  by_cases hz : s.size = 0
  · have hnil : s.data.toList = [] := List.length_eq_zero_iff.1 (by omega)
    have HN := Lib.hid (show P.numP most s.data.toList = none by rw [hnil]; rfl)
    have he : s.toList.isEmpty = true := by rw [ByteArray.toList_eq, hnil]; rfl
    clear hnil
    go_enter Tryz.func28, Tryz.ntmps28
    go_wp2_with fail
    go_ret2
    exact ⟨by rw [HN.out]; rfl, Below.refl _ _⟩
  · have hp0 : 0 < s.size := by omega
    have he : s.toList.isEmpty = false := by
      rw [ByteArray.toList_eq]
      cases h : s.data.toList with
      | nil => rw [h] at hlen; simp at hlen; omega
      | cons _ _ => rfl
    have hd0 := drop_at s 0 hp0
    rw [List.drop_zero] at hd0
    have hne : s.data.toList ≠ [] := by rw [hd0]; simp
    by_cases hbad : s[0] = 48 ∧ s.data.toList ≠ [48]
    · have HN := Lib.hid (show P.numP most s.data.toList = none by
        unfold P.numP
        rw [if_neg hne, if_pos ⟨by rw [hd0, hbad.1]; rfl, hbad.2⟩])
      have h0 : ((s[0].toNat : Int) == 48) = true := by rw [hbad.1]; rfl
      have h1 : (s.toList == [48]) = false := by rw [ByteArray.toList_eq, beq_eq_false_iff_ne]; exact hbad.2
      clear hbad hne hd0
      go_enter Tryz.func28, Tryz.ntmps28
      go_wp2_with fail
      go_ret2
      exact ⟨by rw [HN.out]; rfl, Below.refl _ _⟩
    · have HN := Lib.hid (show P.numP most s.data.toList = P.numF most 0 s.data.toList by
        unfold P.numP
        rw [if_neg hne, if_neg]
        rintro ⟨h1, h2⟩
        refine hbad ⟨?_, h2⟩
        rw [hd0] at h1
        simpa using h1)
      have HL := Lib.hid hlen
      have hb : ((s[0].toNat : Int) == 48) = false ∨ ((s[0].toNat : Int) == 48) = true ∧ (s.toList == [48]) = true := by
        by_cases h : s[0] = 48
        · right
          have h2 : s.data.toList = [48] := by
            by_cases h3 : s.data.toList = [48]
            · exact h3
            · exact absurd ⟨h, h3⟩ hbad
          exact ⟨by rw [h]; rfl, by rw [ByteArray.toList_eq, h2]; rfl⟩
        · left
          rw [beq_eq_false_iff_ne]
          intro h3
          exact h (UInt8.toNat_inj.1 (by show s[0].toNat = 48; omega))
      clear hbad hne hd0 hlen
      rcases hb with h0 | ⟨h0, h1⟩
      all_goals
        go_enter Tryz.func28, Tryz.ntmps28
        go_wp2_with fail
        go_loopg [4] s.size (fun g x wi => ∃ pos p : Nat, pos + g = s.size ∧ x = .int .i64 p ∧ p ≤ 65535 ∧ wi = w.iter s pos ∧ Hid (P.numF most p (s.data.toList.drop pos) = P.numP most s.data.toList))
        case atStart => exact ⟨0, 0, by omega, rfl, by omega, rfl, Lib.hid (by rw [HN.out]; rfl)⟩
        case round =>
          obtain ⟨pos, p, hpg, rfl, hpb, rfl, hc⟩ := hrel
          by_cases hp : pos < s.size
          · have hnx := fun ty => run_next_any (P := Tryz.prog) w s pos ty hp
            have hD := hc.out
            rw [drop_at s pos hp] at hD
            have HD := Lib.hid hD
            clear hc hD
            rcases rune_at s pos hp with ⟨hb, hdec⟩ | ⟨hb, r, n, hdec, hr1, hr2, hn1, hn2⟩
            · rw [hdec] at hnx
              clear hdec
              by_cases hdg : 48 ≤ s[pos].toNat ∧ s[pos].toNat ≤ 57
              · by_cases hq : 10 * p + (s[pos].toNat - 48) ≤ most
                · have hD := HD.out
                  rw [numF_dig _ _ _ _ (by simp [P.digB]; omega) hq] at hD
                  have HD2 := Lib.hid hD
                  clear hD HD
                  obtain ⟨hdg1, hdg2⟩ := hdg
                  go_wp2_with fail
                  go_roundg (s.size - (pos + 1))
                  case rel => exact ⟨pos + 1, 10 * p + (s[pos].toNat - 48), by omega, by go_num, by omega, rfl, HD2⟩
                  case measure => omega
                · have hD := HD.out
                  rw [numF_big _ _ _ _ hq] at hD
                  have HD2 := Lib.hid hD
                  clear hD HD
                  obtain ⟨hdg1, hdg2⟩ := hdg
                  go_wp2_with fail
                  go_ret2
                  exact ⟨by rw [← HD2.out]; rfl, (Below.refl _ w).alloc (Nat.le_refl _) _⟩
              · have hD := HD.out
                rw [numF_bad _ _ _ _ (by simp [P.digB]; omega)] at hD
                have HD2 := Lib.hid hD
                clear hD HD
                go_wp2_with fail
                all_goals
                  go_ret2
                  exact ⟨by rw [← HD2.out]; rfl, (Below.refl _ w).alloc (Nat.le_refl _) _⟩
            · rw [hdec] at hnx
              have hD := HD.out
              rw [numF_bad _ _ _ _ (by simp [P.digB]; omega)] at hD
              have HD2 := Lib.hid hD
              clear hD HD hdec
              go_wp2_with fail
              all_goals
                go_ret2
                exact ⟨by rw [← HD2.out]; rfl, (Below.refl _ w).alloc (Nat.le_refl _) _⟩
          · have hnx := fun ty => run_next_end (P := Tryz.prog) w s pos ty hp
            have hD := hc.out
            rw [List.drop_eq_nil_of_le (by rw [HL.out]; omega)] at hD
            have HD := Lib.hid hD
            clear hD hc
            go_wp2_with fail
            go_ret2
            exact ⟨by rw [← HD.out]; rfl, (Below.refl _ w).alloc (Nat.le_refl _) _⟩

set_option maxHeartbeats 1000000 in
theorem readHex_yes (b : UInt8) (d : Nat) (w : World) (h : P.hexB b = some d) :
    Calls Tryz.prog 104 #[.int .i32 b.toNat] w fun e w' => e = .returned (.tuple #[.int .u16 d, .bool true]) ∧ w' = w := by
  have hd : (48 ≤ b.toNat ∧ b.toNat ≤ 57 ∧ d = b.toNat - 48) ∨ (97 ≤ b.toNat ∧ b.toNat ≤ 102 ∧ d = b.toNat - 87) ∨ (65 ≤ b.toNat ∧ b.toNat ≤ 70 ∧ d = b.toNat - 55) := by
    unfold P.hexB at h
    split at h
    · left; simp at h; omega
    · split at h
      · right; left; simp at h; omega
      · split at h
        · right; right; simp at h; omega
        · cases h
  clear h
  generalize b.toNat = n at *
  rcases hd with ⟨h1, h2, rfl⟩ | ⟨h1, h2, rfl⟩ | ⟨h1, h2, rfl⟩
  all_goals
    go_enter Tryz.func104, Tryz.ntmps104
    go_wp2_with fail
    go_ret2
    exact ⟨by simp; omega, rfl⟩
set_option maxHeartbeats 1000000 in
theorem readHex_no (r : Nat) (w : World) (h : ¬ (48 ≤ r ∧ r ≤ 57) ∧ ¬ (97 ≤ r ∧ r ≤ 102) ∧ ¬ (65 ≤ r ∧ r ≤ 70)) :
    Calls Tryz.prog 104 #[.int .i32 r] w fun e w' => e = .returned (.tuple #[.int .u16 0, .bool false]) ∧ w' = w := by
  obtain ⟨h1, h2, h3⟩ := h
  rcases (show r < 48 ∨ (57 < r ∧ r < 65) ∨ (70 < r ∧ r < 97) ∨ 102 < r by omega) with h | ⟨h, h'⟩ | ⟨h, h'⟩ | h
  all_goals
    clear h1 h2 h3
    go_enter Tryz.func104, Tryz.ntmps104
    go_wp2_with fail
    go_ret2
    exact ⟨rfl, rfl⟩
theorem hexB_none (b : UInt8) (h : P.hexB b = none) : ¬ (48 ≤ b.toNat ∧ b.toNat ≤ 57) ∧ ¬ (97 ≤ b.toNat ∧ b.toNat ≤ 102) ∧ ¬ (65 ≤ b.toNat ∧ b.toNat ≤ 70) := by
  unfold P.hexB at h
  split at h
  · cases h
  · split at h
    · cases h
    · split at h
      · cases h
      · exact ⟨by assumption, by assumption, by assumption⟩
theorem hexB_some (b : UInt8) (d : Nat) (h : P.hexB b = some d) : d ≤ 15 ∧ b.toNat ≤ 102 := by
  unfold P.hexB at h
  split at h
  · simp at h; omega
  · split at h
    · simp at h; omega
    · split at h
      · simp at h; omega
      · cases h
theorem or_u16 (n d : Nat) (hn : n ≤ 4095) (hd : d ≤ 15) : bits .or .u16 ((n : Int) * 16) (d : Int) = ((16 * n + d : Nat) : Int) := by
  have h := u16_or_nat (16 * n) d (by omega) (by omega)
  have e : (16 * n) ||| d = 16 * n + d := by
    rw [show 16 * n = 2 ^ 4 * n from rfl, ← Nat.two_pow_add_eq_or_of_lt (show d < 2 ^ 4 by omega)]
  rw [e] at h
  rw [← h]; congr 1; omega
theorem grpF_some (n d : Nat) (b : UInt8) (l : List UInt8) (h : P.hexB b = some d) : P.grpF n (b :: l) = P.grpF (16 * n + d) l := by rw [P.grpF, h]
theorem grpF_none (n : Nat) (b : UInt8) (l : List UInt8) (h : P.hexB b = none) : P.grpF n (b :: l) = none := by rw [P.grpF, h]

set_option maxHeartbeats 4000000 in
set_option maxRecDepth 1000000 in
theorem readGroup_any (s : ByteArray) (w : World) (hs : s.size ≤ 4000) :
    Calls Tryz.prog 89 #[.string s] w fun e w' => e = .returned (.tuple #[.int .u16 ((P.grpP s.data.toList).getD 0 : Nat), .bool (P.grpP s.data.toList).isSome]) ∧ Below w.heap.size w w' := by
  have hlen : s.data.toList.length = s.size := by simp
  by_cases hz : s.size = 0
  · have hnil : s.data.toList = [] := List.length_eq_zero_iff.1 (by omega)
    have HN := Lib.hid (show P.grpP s.data.toList = none by rw [hnil]; rfl)
    have he : s.toList.isEmpty = true := by rw [ByteArray.toList_eq, hnil]; rfl
    clear hnil
    go_enter Tryz.func89, Tryz.ntmps89
    go_wp2_with fail
    go_ret2
    exact ⟨by rw [HN.out]; rfl, Below.refl _ _⟩
  · have he : s.toList.isEmpty = false := by
      rw [ByteArray.toList_eq]
      cases h : s.data.toList with
      | nil => rw [h] at hlen; simp at hlen; omega
      | cons _ _ => rfl
    have hne : s.data.toList ≠ [] := by intro h; rw [h] at hlen; simp at hlen; omega
    by_cases h4 : 4 < s.size
    · have HN := Lib.hid (show P.grpP s.data.toList = none by unfold P.grpP; rw [if_pos (.inr (by omega))])
      clear hne
      go_enter Tryz.func89, Tryz.ntmps89
      go_wp2_with fail
      go_ret2
      exact ⟨by rw [HN.out]; rfl, Below.refl _ _⟩
    · have HN := Lib.hid (show P.grpP s.data.toList = P.grpF 0 s.data.toList by
        unfold P.grpP
        rw [if_neg]
        rintro (h | h)
        · exact hne h
        · omega)
      have HL := Lib.hid hlen
      clear hne hlen
      go_enter Tryz.func89, Tryz.ntmps89
      go_wp2_with fail
      go_loopg [2] s.size (fun g x wi => ∃ pos p : Nat, pos + g = s.size ∧ x = .int .u16 p ∧ p < 16 ^ pos ∧ wi = w.iter s pos ∧ Hid (P.grpF p (s.data.toList.drop pos) = P.grpP s.data.toList))
      case atStart => exact ⟨0, 0, by omega, rfl, by omega, rfl, Lib.hid (by rw [HN.out]; rfl)⟩
      case round =>
        obtain ⟨pos, p, hpg, rfl, hpb, rfl, hc⟩ := hrel
        by_cases hp : pos < s.size
        · have hnx := fun ty => run_next_any (P := Tryz.prog) w s pos ty hp
          have hp4 : p ≤ 4095 := by
            have : 16 ^ pos ≤ 16 ^ 3 := Nat.pow_le_pow_right (by omega) (by omega)
            omega
          have hD := hc.out
          rw [drop_at s pos hp] at hD
          have HD := Lib.hid hD
          clear hc hD
          rcases rune_at s pos hp with ⟨hb, hdec⟩ | ⟨hb, r, n, hdec, hr1, hr2, hn1, hn2⟩
          · rw [hdec] at hnx
            clear hdec
            cases hh : P.hexB s[pos] with
            | some d =>
              have hd15 := (hexB_some _ _ hh).1
              have hor := or_u16 p d hp4 hd15
              have hD := HD.out
              rw [grpF_some _ _ _ _ hh] at hD
              have HD2 := Lib.hid hD
              have HX := Lib.hid (readHex_yes s[pos] d (w.iter s (pos + 1)) hh)
              clear hD HD hh
              go_wp2_with fail
              with_reducible refine HX.out.mono ?_
              rintro e w1 ⟨rfl, rfl⟩
              go_wp2_with fail
              go_roundg (s.size - (pos + 1))
              case rel => exact ⟨pos + 1, 16 * p + d, by omega, by go_num, by rw [Nat.pow_succ]; omega, rfl, HD2⟩
              case measure => omega
            | none =>
              have hD := HD.out
              rw [grpF_none _ _ _ hh] at hD
              have HD2 := Lib.hid hD
              have HX := Lib.hid (readHex_no s[pos].toNat (w.iter s (pos + 1)) (hexB_none _ hh))
              clear hD HD hh
              go_wp2_with fail
              with_reducible refine HX.out.mono ?_
              rintro e w1 ⟨rfl, rfl⟩
              go_wp2_with fail
              go_ret2
              exact ⟨by rw [← HD2.out]; rfl, (Below.refl _ w).alloc (Nat.le_refl _) _⟩
          · rw [hdec] at hnx
            have hh : P.hexB s[pos] = none := by
              cases hh : P.hexB s[pos] with
              | none => rfl
              | some d => have := (hexB_some _ _ hh).2; omega
            have hD := HD.out
            rw [grpF_none _ _ _ hh] at hD
            have HD2 := Lib.hid hD
            have HX := Lib.hid (readHex_no r (w.iter s (pos + n)) ⟨by omega, by omega, by omega⟩)
            clear hD HD hdec hh
            go_wp2_with fail
            with_reducible refine HX.out.mono ?_
            rintro e w1 ⟨rfl, rfl⟩
            go_wp2_with fail
            go_ret2
            exact ⟨by rw [← HD2.out]; rfl, (Below.refl _ w).alloc (Nat.le_refl _) _⟩
        · have hnx := fun ty => run_next_end (P := Tryz.prog) w s pos ty hp
          have hD := hc.out
          rw [List.drop_eq_nil_of_le (by rw [HL.out]; omega)] at hD
          have HD := Lib.hid hD
          clear hD hc
          go_wp2_with fail
          go_ret2
          exact ⟨by rw [← HD.out]; rfl, (Below.refl _ w).alloc (Nat.le_refl _) _⟩
end Go.Proofs.YtbejnnkdgcelmaaGreatDoor
