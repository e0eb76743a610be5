/- Whether one of a row is something; whether no two are the same: of texts, of addresses. -/
import Derived.Test.YtlceeeajhejedaaFind
import Derived.Deep.RegionHeld3
set_option linter.unusedSimpArgs false
set_option linter.unusedVariables false
namespace Go.Proofs.Ytlceeeajhejedaa
open Go.RowKit Go.Proofs.Ytlceeeajhejedaa.Kind

def hasB {α : Type} [DecidableEq α] (x : α) (l : List α) : Bool := decide (x ∈ l)
theorem hasB_true {α : Type} [DecidableEq α] {x : α} {l : List α} (h : x ∈ l) : hasB x l = true := decide_eq_true h
theorem hasB_false {α : Type} [DecidableEq α] {x : α} {l : List α} (h : ¬ x ∈ l) : hasB x l = false := decide_eq_false h
theorem idxI_has {α : Type} [DecidableEq α] (x : α) (l : List α) : decide (0 ≤ idxI (fun y => decide (x = y)) l) = hasB x l := by
  unfold hasB
  rcases idx_cases (fun y => decide (x = y)) l with ⟨h1, h2⟩ | ⟨k, z, h1, h2, h3⟩
  · rw [h1]
    have : x ∉ l := fun hx => by
      have := List.find?_eq_none.1 h2 x hx
      simp at this
    simp [this]
  · rw [h1]
    have h4 := List.find?_some h3
    have h5 : x = z := by simpa using h4
    have : x ∈ l := by rw [h5]; exact List.mem_of_find?_eq_some h3
    simp [this]
theorem nodup_yes {α : Type} [DecidableEq α] {l : List α} {k : Nat} {x : α} (hx : l[k]? = some x) (hn : x ∉ l.take k) (h : (l.take k).Nodup) : (l.take (k + 1)).Nodup := by
  have : l.take (k + 1) = l.take k ++ [x] := by rw [List.take_add_one, hx]; rfl
  rw [this, List.nodup_append]
  refine ⟨h, by simp, fun a ha b hb => ?_⟩
  simp at hb
  subst hb
  rintro rfl
  exact hn ha
theorem nodup_no {α : Type} [DecidableEq α] {l : List α} {k : Nat} {x : α} (hx : l[k]? = some x) (hn : x ∈ l.take k) : decide l.Nodup = false := by
  rw [decide_eq_false_iff_not]
  intro h
  have e : l = l.take k ++ l.drop k := (List.take_append_drop k l).symm
  rw [e, List.nodup_append] at h
  have hd : x ∈ l.drop k := by
    have := List.mem_of_getElem? (l := l.drop k) (i := 0) (a := x) (by rw [List.getElem?_drop]; simpa using hx)
    exact this
  exact h.2.2 x hn x hd rfl

set_option maxHeartbeats 4000000 in
set_option maxRecDepth 1000000 in
theorem index_text (x : ByteArray) (l : List ByteArray) (m : Nat) (hm : m = l.length) (a : Option Addr) (c : Nat) (w : World) (hR : TK.RowC w a c l) :
    Calls Try.prog 63 #[.slice a m c, .string x] w fun e w' => e = .returned (.int .i64 (idxI (fun y => decide (x = y)) l)) ∧ w = w' := by
  subst hm
  have hlen : (l.length : Int) ≤ 9223372036854775807 := len_int _ (Nat.le_trans hR.1 hR.2.1)
  have HR := Lib.hid hR
  clear hR
  go_enter Try.func63, Try.ntmps63
  go_wp2_with fail
  go_loopw [4, 8] (fun r i wr => ∃ k : Nat, r = .int .i64 0 ∧ i = .int .i64 k ∧ k ≤ l.length ∧ Hid (NoneTo (fun y => decide (x = y)) l k) ∧ w = wr) (fun _ i _ => l.length - (intOf i).toNat)
  case atStart => exact ⟨0, rfl, rfl, by omega, Lib.hid (noneTo_zero _ _), by first | rfl | trivial⟩
  case round =>
    obtain ⟨k, rfl, rfl, hk, hn, rfl⟩ := hrel
    have HN := Lib.hid hn.out
    clear hn
    by_cases hki : k < l.length
    · obtain ⟨y, hy⟩ : ∃ y, l[k]? = some y := ⟨_, List.getElem?_eq_getElem hki⟩
      obtain ⟨b, o, rfl, hbl, hat⟩ := HR.out.2.2.2 (by omega)
      have y0 := TK.one hat hy
      have HX := Lib.hid hy
      clear hy hat
      by_cases hq : x = y
      · have hd : decide (x = y) = true := decide_eq_true hq
        have he : (x.toList == y.toList) = true := by rw [text_eq]; exact hd
        have HD := Lib.hid hd
        clear hd hq
        go_wp2_with fail
        go_ret
        exact ⟨by rw [idxI_at HX.out HD.out HN.out]; rfl, rfl⟩
      · have hd : decide (x = y) = false := decide_eq_false hq
        have he : (x.toList == y.toList) = false := by rw [text_eq]; exact hd
        have HD := Lib.hid hd
        clear hd hq
        go_wp2_with fail
        go_roundw
        case rel => exact ⟨k + 1, rfl, by go_num, by omega, Lib.hid (noneTo_step HN.out HX.out HD.out), by first | rfl | trivial⟩
        case measure => simp [intOf]; omega
    · obtain rfl : k = l.length := by omega
      go_wp2_with fail
      go_ret
      exact ⟨by rw [idxI_none HN.out]; rfl, rfl⟩

set_option maxHeartbeats 4000000 in
set_option maxRecDepth 1000000 in
theorem has_text (x : ByteArray) (l : List ByteArray) (m : Nat) (hm : m = l.length) (a : Option Addr) (c : Nat) (w : World) (hR : TK.RowC w a c l) :
    Calls Try.prog 45 #[.slice a m c, .string x] w fun e w' => e = .returned (.bool (hasB x l)) ∧ w = w' := by
  have HC := Lib.hid (index_text x l m hm a c w hR)
  rw [← idxI_has]
  clear hR hm
  go_enter Try.func45, Try.ntmps45
  go_wp2_with fail
  with_reducible refine HC.out.mono ?_
  rintro e w1 ⟨rfl, rfl⟩
  go_wp2_with fail
  go_ret
  exact ⟨rfl, rfl⟩

set_option maxHeartbeats 4000000 in
set_option maxRecDepth 1000000 in
theorem unlike_texts (l : List ByteArray) (m : Nat) (hm : m = l.length) (a : Option Addr) (c : Nat) (w : World) (hR : TK.RowC w a c l) :
    Calls Try.prog 35 #[.slice a m c] w fun e w' => e = .returned (.bool (decide l.Nodup)) ∧ w = w' := by
  subst hm
  have hlen : (l.length : Int) ≤ 9223372036854775807 := len_int _ (Nat.le_trans hR.1 hR.2.1)
  have hcap := hR.1
  have HR := Lib.hid hR
  clear hR
  go_enter Try.func35, Try.ntmps35
  go_wp2_with fail
  go_loopw [7] (fun i wr => ∃ k : Nat, i = .int .i64 k ∧ k ≤ l.length ∧ Hid ((l.take k).Nodup) ∧ w = wr) (fun i _ => l.length - (intOf i).toNat)
  case atStart => exact ⟨0, rfl, by omega, Lib.hid (by simp), by first | rfl | trivial⟩
  case round =>
    obtain ⟨k, rfl, hk, hn, rfl⟩ := hrel
    have HN := Lib.hid hn.out
    clear hn
    by_cases hki : k < l.length
    · obtain ⟨y, hy⟩ : ∃ y, l[k]? = some y := ⟨_, List.getElem?_eq_getElem hki⟩
      have HC := Lib.hid (fun a' ha => has_text y (l.take k) k (by simp; omega) a' c w (HR.out.take k (by omega) ha))
      obtain ⟨b, o, rfl, hbl, hat⟩ := HR.out.2.2.2 (by omega)
      have y0 := TK.one hat hy
      have HX := Lib.hid hy
      clear hy hat
      go_wp2_with fail
      with_reducible refine (HC.out _ rfl).mono ?_
      rintro e w1 ⟨rfl, rfl⟩
      by_cases hq : y ∈ l.take k
      · rw [hasB_true hq]
        have HQ := Lib.hid hq
        clear hq HC
        go_wp2_with fail
        go_ret
        exact ⟨by rw [nodup_no HX.out HQ.out]; rfl, rfl⟩
      · rw [hasB_false hq]
        have HQ := Lib.hid hq
        clear hq HC
        go_wp2_with fail
        go_roundw
        case rel => exact ⟨k + 1, by go_num, by omega, Lib.hid (nodup_yes HX.out HQ.out HN.out), by first | rfl | trivial⟩
        case measure => simp [intOf]; omega
    · obtain rfl : k = l.length := by omega
      go_wp2_with fail
      go_ret
      have := HN.out
      rw [List.take_of_length_le (Nat.le_refl _)] at this
      exact ⟨by rw [decide_eq_true this]; rfl, rfl⟩
end Go.Proofs.Ytlceeeajhejedaa
