/- Runes, counted; names, several at once; whether two are the same. -/
import Derived.Test.YtpeohgmceadmeaaRFold
import Derived.Test.YtpeohgmceadmeaaCountP
namespace Go.Proofs.Ytpeohgmceadmeaa
open Go.RowKit

theorem prefix_any (s : ByteArray) (b : Bool) (w : World) (h : Hid (Lib.hasPrefix s.data.toList [239, 191, 189] = b)) :
    Calls Try.prog 25 #[.string s, .string ⟨#[239, 191, 189]⟩] w fun e w' => e = .returned (.bool b) ∧ w = w' :=
  (Try.strings_HasPrefix s ⟨#[239, 191, 189]⟩ w).mono fun e w' ⟨he, hw⟩ => ⟨by rw [he, ← h.out], hw.symm⟩

set_option maxHeartbeats 4000000 in
set_option maxRecDepth 1000000 in
theorem runes_any (s : ByteArray) (w : World) (hs : s.size ≤ 4000) :
    Calls Try.prog 9 #[.string s] w fun e w' => e = .returned (.tuple #[.int .i64 (P.wells (P.runesOf s.data.toList)), .int .i64 (P.ills (P.runesOf s.data.toList))]) ∧ Below w.heap.size w w' := by
  have hlen : s.data.toList.length = s.size := by simp
  have HL := Lib.hid hlen
  clear hlen
  go_enter Try.func9, Try.ntmps9
  go_wp2
  go_loopg [2, 3] s.size (fun g x y wi => ∃ pos a b : Nat, pos + g = s.size ∧ x = .int .i64 a ∧ y = .int .i64 b ∧ a + b ≤ pos ∧ wi = w.iter s pos ∧ Hid (a + P.wells (P.runesOf (s.data.toList.drop pos)) = P.wells (P.runesOf s.data.toList) ∧ b + P.ills (P.runesOf (s.data.toList.drop pos)) = P.ills (P.runesOf s.data.toList)))
  case atStart => exact ⟨0, 0, 0, by omega, rfl, rfl, by omega, rfl, Lib.hid ⟨Nat.zero_add _, Nat.zero_add _⟩⟩
  case round =>
    obtain ⟨pos, a, b, hpg, rfl, rfl, hab, rfl, hc⟩ := hrel
    by_cases hp : pos < s.size
    · obtain ⟨r, n, ho⟩ : ∃ r n, P.one (s.data.toList.drop pos) = (r, n) := ⟨_, _, rfl⟩
      obtain ⟨hr1, hr2, hr3⟩ := one_room s pos r n hp ho
      have HC := Lib.hid (And.intro hc.out (P.count_at s.data.toList pos r n (by rw [HL.out]; exact hp) ho))
      have hnx := fun ty => run_next_any (P := Try.prog) w s pos ty hp
      rw [decode_at s pos hp r n ho] at hnx
      have hpf := P.bad_prefix _ r n ho
      have e1 : (s.extract pos s.size).data.toList = s.data.toList.drop pos := by
        rw [Lib.extract_data, List.take_of_length_le (by simp)]
      rw [← e1] at hpf
      clear hc ho e1
      by_cases hn0 : n = 0
      · have HPF := Lib.hid (hpf.1 hn0)
        clear hpf
        subst hn0
        rw [if_pos rfl] at hnx
        go_wp2_with (go_at_call 25; refine (prefix_any _ false _ HPF).mono ?_; rintro e w' ⟨rfl, rfl⟩)
        go_roundg (s.size - (pos + 1))
        case rel => exact ⟨pos + 1, a, b + 1, by omega, rfl, by go_num, by omega, rfl, Lib.hid (by obtain ⟨⟨h1, h2⟩, h3, h4⟩ := HC.out; simp at h3 h4; constructor <;> omega)⟩
        case measure => omega
      · rw [if_neg hn0] at hnx
        by_cases hr : r = 65533
        · have HPF := Lib.hid (hpf.2 hn0 hr)
          clear hpf
          subst hr
          go_wp2_with (go_at_call 25; refine (prefix_any _ true _ HPF).mono ?_; rintro e w' ⟨rfl, rfl⟩)
          go_roundg (s.size - (pos + n))
          case rel => exact ⟨pos + n, a + 1, b, by omega, by go_num, rfl, by omega, rfl, Lib.hid (by obtain ⟨⟨h1, h2⟩, h3, h4⟩ := HC.out; rw [if_neg hn0, show max 1 n = n from by omega] at h3 h4; constructor <;> omega)⟩
          case measure => omega
        · have hrb : ((r : Int) == 65533) = false := by simp; omega
          clear hpf
          go_wp2
          go_roundg (s.size - (pos + n))
          case rel => exact ⟨pos + n, a + 1, b, by omega, by go_num, rfl, by omega, rfl, Lib.hid (by obtain ⟨⟨h1, h2⟩, h3, h4⟩ := HC.out; rw [if_neg hn0, show max 1 n = n from by omega] at h3 h4; constructor <;> omega)⟩
          case measure => omega
    · have hnx := fun ty => run_next_end (P := Try.prog) w s pos ty hp
      have hc := hc.out
      rw [P.runesOf_end _ _ (by rw [HL.out]; omega)] at hc
      have HC := Lib.hid hc
      clear hc
      go_wp2
      go_ret2
      have hc := HC.out
      rw [show P.wells [] = 0 from rfl, show P.ills [] = 0 from rfl, Nat.add_zero, Nat.add_zero] at hc
      exact ⟨by rw [← show a = P.wells (P.runesOf s.data.toList) from hc.1, ← show b = P.ills (P.runesOf s.data.toList) from hc.2]; rfl, (Below.refl _ w).alloc (Nat.le_refl _) _⟩

set_option maxHeartbeats 4000000 in
set_option maxRecDepth 1000000 in
theorem rrunes_any (s : ByteArray) (w : World) (hs : s.size ≤ 4000) :
    Calls Try.prog 10 #[.string s] w fun e w' => e = .returned (.tuple #[.int .i64 (P.wells (P.runesOf s.data.toList)), .int .i64 (P.ills (P.runesOf s.data.toList))]) ∧ w = w' := by
  have hlen : s.data.toList.length = s.size := by simp
  have HL := Lib.hid hlen
  clear hlen
  go_enter Try.func10, Try.ntmps10
  go_wp2
  go_loop [4, 5, 6] (fun x y i => ∃ pos a b : Nat, pos ≤ s.size ∧ i = .int .i64 pos ∧ x = .int .i64 a ∧ y = .int .i64 b ∧ a + b ≤ pos ∧ Hid (a + P.wells (P.runesOf (s.data.toList.drop pos)) = P.wells (P.runesOf s.data.toList) ∧ b + P.ills (P.runesOf (s.data.toList.drop pos)) = P.ills (P.runesOf s.data.toList))) (fun _ _ i => s.size - (intOf i).toNat)
  case atStart => exact ⟨0, 0, 0, by omega, rfl, rfl, rfl, by omega, Lib.hid ⟨Nat.zero_add _, Nat.zero_add _⟩⟩
  case round =>
    obtain ⟨pos, a, b, hpg, rfl, rfl, rfl, hab, hc⟩ := hrel
    by_cases hp : pos < s.size
    · obtain ⟨r, n, ho⟩ : ∃ r n, P.one (s.data.toList.drop pos) = (r, n) := ⟨_, _, rfl⟩
      obtain ⟨hr1, hr2, hr3⟩ := one_room s pos r n hp ho
      have HC := Lib.hid (And.intro hc.out (P.count_at s.data.toList pos r n (by rw [HL.out]; exact hp) ho))
      have HO := Lib.hid ho
      clear hc ho
      by_cases hn0 : n = 0
      · subst hn0
        go_wp2_with (go_at_call 23; refine (rone_at s pos r 0 _ hp hs HO).mono ?_; rintro e w' ⟨rfl, rfl⟩)
        go_round
        case rel => exact ⟨pos + 1, a, b + 1, by omega, by go_num, rfl, by go_num, by omega, Lib.hid (by obtain ⟨⟨h1, h2⟩, h3, h4⟩ := HC.out; simp at h3 h4; constructor <;> omega)⟩
        case measure => simp [intOf]; omega
      · have hnb : ((n : Int) == 0) = false := by simp; omega
        go_wp2_with (go_at_call 23; refine (rone_at s pos r n _ hp hs HO).mono ?_; rintro e w' ⟨rfl, rfl⟩)
        go_round
        case rel => exact ⟨pos + n, a + 1, b, by omega, by go_num, by go_num, rfl, by omega, Lib.hid (by obtain ⟨⟨h1, h2⟩, h3, h4⟩ := HC.out; rw [if_neg hn0, show max 1 n = n from by omega] at h3 h4; constructor <;> omega)⟩
        case measure => simp [intOf]; omega
    · have hc := hc.out
      rw [P.runesOf_end _ _ (by rw [HL.out]; omega)] at hc
      have HC := Lib.hid hc
      clear hc
      go_wp2
      go_ret2
      have hc := HC.out
      rw [show P.wells [] = 0 from rfl, show P.ills [] = 0 from rfl, Nat.add_zero, Nat.add_zero] at hc
      exact ⟨by rw [← show a = P.wells (P.runesOf s.data.toList) from hc.1, ← show b = P.ills (P.runesOf s.data.toList) from hc.2]; rfl, rfl⟩

set_option maxHeartbeats 1600000 in
set_option maxRecDepth 100000 in
theorem rValid_any (ss : List ByteArray) (bk : Nat) (w : World) (hl : ss.length ≤ 2) (hss : ∀ s ∈ ss, s.size ≤ 4000)
    (hc : ∀ (k : Nat) (h : k < ss.length), w.cell? ⟨bk, k, none⟩ = some (.string ss[k])) :
    Calls Try.prog 12 #[.slice (some ⟨bk, 0, none⟩) ss.length ss.length] w fun e w' =>
      e = .returned (.bool (ss.all fun s => P.name s.data.toList)) ∧ w = w' := by
  have HC := Lib.hid hc
  have HSS := Lib.hid hss
  clear hc hss
  go_enter Try.func12, Try.ntmps12
  go_wp2
  go_loop [3] (fun ix => ∃ k : Nat, k ≤ ss.length ∧ ix = .int .i64 k ∧ Hid (∀ (j : Nat) (h : j < ss.length), j < k → P.name ss[j].data.toList = true)) (fun ix => ss.length - (intOf ix).toNat)
  case atStart => exact ⟨0, by omega, rfl, Lib.hid (fun j h h' => absurd h' (by omega))⟩
  case round =>
    obtain ⟨k, hkg, rfl, hn⟩ := hrel
    by_cases hk : k < ss.length
    · have hck := HC.out k hk
      have hsz := HSS.out ss[k] (List.getElem_mem hk)
      have HF := Lib.hid (fun h => all_false ss k hk h)
      have HN := Lib.hid (fun (h : P.name ss[k].data.toList = true) => (show ∀ (j : Nat) (h : j < ss.length), j < k + 1 → P.name ss[j].data.toList = true from fun j h1 h2 => by
        by_cases hj : j = k
        · subst hj; exact h
        · exact hn.out j h1 (by omega)))
      generalize ss[k] = s at hck hsz HF HN
      cases hv : P.name s.data.toList
      all_goals
        have HV := Lib.hid hv
        clear hv
        go_wp2_with (go_at_call 22; refine (rvalid_any s _ hsz).mono ?_; rw [HV.out]; rintro e w' ⟨rfl, rfl⟩)
      · go_ret
        exact ⟨by rw [HF.out HV.out]; rfl, rfl⟩
      · go_round
        case rel => exact ⟨k + 1, by omega, by go_num, Lib.hid (HN.out HV.out)⟩
        case measure => simp [intOf]; omega
    · obtain rfl : k = ss.length := by omega
      go_wp2
      go_ret
      exact ⟨by rw [all_true ss (fun j h => hn.out j h h)]; rfl, rfl⟩
theorem rValid_one (s : ByteArray) (bk : Nat) (w : World) (hs : s.size ≤ 4000) (hc : w.cell? ⟨bk, 0, none⟩ = some (.string s)) :
    Calls Try.prog 12 #[.slice (some ⟨bk, 0, none⟩) 1 1] w fun e w' =>
      e = .returned (.bool (P.name s.data.toList)) ∧ w = w' := by
  refine (rValid_any [s] bk w (by simp) (by simpa using hs) (fun k h => ?_)).mono fun e w' ⟨he, hb⟩ => ⟨by rw [he]; simp, hb⟩
  obtain rfl : k = 0 := by simp at h; omega
  exact hc
theorem rValid_two (a b : ByteArray) (bk : Nat) (w : World) (ha : a.size ≤ 4000) (hb : b.size ≤ 4000) (hc : w.cell? ⟨bk, 0, none⟩ = some (.string a)) (hc' : w.cell? ⟨bk, 1, none⟩ = some (.string b)) :
    Calls Try.prog 12 #[.slice (some ⟨bk, 0, none⟩) 2 2] w fun e w' =>
      e = .returned (.bool (P.name a.data.toList && P.name b.data.toList)) ∧ w = w' := by
  refine (rValid_any [a, b] bk w (by simp) (by simp [ha, hb]) (fun k h => ?_)).mono fun e w' ⟨he, hb⟩ => ⟨by rw [he]; simp, hb⟩
  simp at h
  match k, h with
  | 0, _ => exact hc
  | 1, _ => exact hc'
end Go.Proofs.Ytpeohgmceadmeaa
