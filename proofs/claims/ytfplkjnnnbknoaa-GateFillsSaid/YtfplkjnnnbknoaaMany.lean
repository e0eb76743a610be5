/- Rows of ducts: are all cut, how many are inside, are they too great; by the program and by the document. -/
import Derived.Test.YtfplkjnnnbknoaaAt
set_option linter.unusedSimpArgs false
set_option linter.unusedVariables false
namespace Go.Proofs.Ytfplkjnnnbknoaa
open Go.RowKit Go.Proofs.Ytfplkjnnnbknoaa.Kind

theorem drop_at {α : Type} (l : List α) (k : Nat) (x : α) (h : l[k]? = some x) : l.drop k = x :: l.drop (k + 1) := by
  obtain ⟨h1, h2⟩ := List.getElem?_eq_some_iff.1 h
  rw [List.drop_eq_getElem_cons h1, h2]
/-- The three cells of a duct in a row. -/
theorem DK.three {w : World} {b o : Nat} {l : List Dv} (h : DK.At w b o l) {j : Nat} {x : Dv} (hx : l[j]? = some x) :
    w.cell? ⟨b, o + j * 3, none⟩ = some (.int .i64 x.cap) ∧ w.cell? ⟨b, o + j * 3 + 1, none⟩ = some (.slice x.a x.n x.c) ∧ w.cell? ⟨b, o + j * 3 + 2, none⟩ = some (.bool x.closed) :=
  ⟨h j x hx 0 _ rfl, h j x hx 1 _ rfl, h j x hx 2 _ rfl⟩
def cutB (l : List Dv) : Bool := l.all (fun d => d.closed)
def sumN (l : List Dv) : Nat := (l.map (fun d => d.n)).sum
theorem sumN_cons (x : Dv) (l : List Dv) : sumN (x :: l) = x.n + sumN l := by simp [sumN]
def greatD (l : List Dv) : Bool := (l.take 61).any (fun d => decide (200 < d.n) || decide (d.cap < -1099511627776)) || decide (60 < l.length)
theorem greatD_false {l : List Dv} (h : greatD l = false) : l.length ≤ 60 ∧ ∀ d ∈ l, d.n ≤ 200 ∧ -1099511627776 ≤ d.cap := by
  simp only [greatD, Bool.or_eq_false_iff, List.any_eq_false, decide_eq_false_iff_not, Bool.not_eq_true] at h
  refine ⟨by omega, fun d hd => ?_⟩
  have := h.1 d (by rw [List.take_of_length_le (by omega)]; exact hd)
  omega
theorem sumN_le (l : List Dv) (h : ∀ d ∈ l, d.n ≤ 200) : sumN l ≤ 200 * l.length := by
  induction l with
  | nil => simp [sumN]
  | cons x l ih =>
    rw [sumN_cons, List.length_cons]
    have h1 := h x (by simp)
    have h2 := ih (fun d hd => h d (by simp [hd]))
    omega
theorem sumN_drop_le (l : List Dv) (k : Nat) : sumN (l.drop k) ≤ sumN l := by
  induction k generalizing l with
  | zero => simp
  | succ k ih =>
    cases l with
    | nil => simp
    | cons x l => rw [List.drop_succ_cons, sumN_cons]; have := ih l; omega

set_option maxHeartbeats 4000000 in
set_option maxRecDepth 1000000 in
theorem iscut_any (l : List Dv) (a : Option Addr) (c : Nat) (w : World) (hA : DK.RowC w a c l) :
    Calls Try.prog 19 #[.slice a l.length c] w fun e w' => e = .returned (.bool (cutB l)) ∧ Below w.heap.size w w' := by
  have hl1 := hA.1
  have hl2 := hA.2.1
  unfold maxLen at hl2
  have HA := Lib.hid hA
  clear hA
  go_enter Try.func19, Try.ntmps19
  go_wp2_with fail
  go_loopw [2, 7] (fun u2 u7 wr => ∃ k : Nat, u7 = .int .i64 k ∧ k ≤ l.length ∧ u2 = .bool false ∧ Below w.heap.size w wr ∧ Hid (cutB (l.drop k) = cutB l)) (fun _ u _ => l.length - (intOf u).toNat)
  case atStart => exact ⟨0, rfl, by omega, rfl, Below.refl _ _, Lib.hid rfl⟩
  case round =>
    obtain ⟨k, rfl, hk, rfl, hb, hF⟩ := hrel
    have HF := Lib.hid hF.out
    have HB := Lib.hid hb
    have hbs := hb.size
    clear hF hb
    by_cases hlt : k < l.length
    · obtain ⟨b, o, rfl, hb, hat⟩ := HA.out.2.2.2 (by omega)
      obtain ⟨⟨cap, ad, n, cc, cl⟩, hx⟩ : ∃ x, l[k]? = some x := ⟨_, List.getElem?_eq_getElem hlt⟩
      obtain ⟨z0, z1, z2⟩ := DK.three (hat.below HB.out hb) hx
      have HX := Lib.hid (drop_at l k _ hx)
      have hb2 : b < wr.heap.size := by omega
      have hlb : (k : Int) < (l.length : Int) := by omega
      clear hat hx
      cases cl
      · have HR := Lib.hid (show cutB l = false by rw [← HF.out, HX.out]; simp [cutB])
        go_wp2_with fail
        go_ret
        exact ⟨by rw [HR.out]; rfl, HB.out.alloc hbs _⟩
      · have HR := Lib.hid (show cutB (l.drop (k + 1)) = cutB l by rw [← HF.out, HX.out]; simp [cutB])
        go_wp2_with fail
        go_roundw
        case rel => exact ⟨k + 1, by go_num, by omega, by trivial, HB.out.alloc hbs _, HR⟩
        case measure => simp [intOf]; omega
    · obtain rfl : k = l.length := by omega
      have HR := Lib.hid (show cutB l = true by rw [← HF.out, List.drop_length]; rfl)
      go_wp2_with fail
      go_ret
      exact ⟨by rw [HR.out]; rfl, HB.out⟩

set_option maxHeartbeats 4000000 in
set_option maxRecDepth 1000000 in
theorem inside_any (l : List Dv) (a : Option Addr) (c : Nat) (w : World) (hA : DK.RowC w a c l) (hS : sumN l ≤ 1000000) :
    Calls Try.prog 21 #[.slice a l.length c] w fun e w' => e = .returned (.int .i64 (sumN l)) ∧ Below w.heap.size w w' := by
  have hl1 := hA.1
  have hl2 := hA.2.1
  unfold maxLen at hl2
  have HA := Lib.hid hA
  clear hA
  go_enter Try.func21, Try.ntmps21
  go_wp2_with fail
  go_loopw [3, 8] (fun u3 u8 wr => ∃ k s : Nat, u8 = .int .i64 k ∧ k ≤ l.length ∧ u3 = .int .i64 s ∧ Below w.heap.size w wr ∧ Hid (s + sumN (l.drop k) = sumN l)) (fun _ u _ => l.length - (intOf u).toNat)
  case atStart => exact ⟨0, 0, rfl, by omega, rfl, Below.refl _ _, Lib.hid (by simp)⟩
  case round =>
    obtain ⟨k, s, rfl, hk, rfl, hb, hF⟩ := hrel
    have HF := Lib.hid hF.out
    have HB := Lib.hid hb
    have hbs := hb.size
    clear hF hb
    by_cases hlt : k < l.length
    · obtain ⟨b, o, rfl, hb, hat⟩ := HA.out.2.2.2 (by omega)
      obtain ⟨⟨cap, ad, n, cc, cl⟩, hx⟩ : ∃ x, l[k]? = some x := ⟨_, List.getElem?_eq_getElem hlt⟩
      obtain ⟨z0, z1, z2⟩ := DK.three (hat.below HB.out hb) hx
      have hX := drop_at l k _ hx
      have hF := HF.out
      rw [hX, sumN_cons] at hF
      have HR := Lib.hid (show s + n + sumN (l.drop (k + 1)) = sumN l by rw [← hF]; simp; omega)
      have hsn : s + n ≤ 1000000 := by have := HR.out; omega
      have hwr : IntKind.i64.wrap ((s : Int) + (n : Int)) = ((s + n : Nat) : Int) := by rw [IntKind.wrap_i64]; omega
      have hb2 : b < wr.heap.size := by omega
      have hlb : (k : Int) < (l.length : Int) := by omega
      have HI := Lib.hid (fun w => minside_any cap ad n cc cl w)
      clear hat hx hX hF
      go_wp2_with fail
      with_reducible refine (HI.out _).mono ?_
      rintro e w1 ⟨rfl, rfl⟩
      go_wp2_with fail
      go_roundw
      case rel => exact ⟨k + 1, s + n, by go_num, by omega, by trivial, (HB.out.alloc hbs _).alloc (by simp; omega) _, HR⟩
      case measure => simp [intOf]; omega
    · obtain rfl : k = l.length := by omega
      have HR := Lib.hid (show s = sumN l by rw [← HF.out, List.drop_length]; simp [sumN])
      go_wp2_with fail
      go_ret
      exact ⟨by rw [← HR.out]; rfl, HB.out⟩

set_option maxHeartbeats 4000000 in
set_option maxRecDepth 1000000 in
theorem riscut_any (l : List Dv) (a : Option Addr) (c : Nat) (w : World) (hA : DK.RowC w a c l) :
    Calls Try.prog 20 #[.slice a l.length c] w fun e w' => e = .returned (.bool (cutB l)) ∧ Below w.heap.size w w' := by
  have hl1 := hA.1
  have hl2 := hA.2.1
  unfold maxLen at hl2
  have HA := Lib.hid hA
  clear hA
  go_enter Try.func20, Try.ntmps20
  go_wp2_with fail
  go_loopw [2, 3] (fun u2 u7 wr => ∃ k : Nat, u7 = .int .i64 k ∧ k ≤ l.length ∧ u2 = .bool false ∧ wr = w ∧ Hid (cutB (l.drop k) = cutB l)) (fun _ u _ => l.length - (intOf u).toNat)
  case atStart => exact ⟨0, rfl, by omega, rfl, rfl, Lib.hid rfl⟩
  case round =>
    obtain ⟨k, rfl, hk, rfl, rfl, hF⟩ := hrel
    have HF := Lib.hid hF.out
    clear hF
    by_cases hlt : k < l.length
    · obtain ⟨b, o, rfl, hb, hat⟩ := HA.out.2.2.2 (by omega)
      obtain ⟨⟨cap, ad, n, cc, cl⟩, hx⟩ : ∃ x, l[k]? = some x := ⟨_, List.getElem?_eq_getElem hlt⟩
      obtain ⟨z0, z1, z2⟩ := DK.three hat hx
      have HX := Lib.hid (drop_at l k _ hx)
      have hlb : (k : Int) < (l.length : Int) := by omega
      clear hat hx
      cases cl
      · have HR := Lib.hid (show cutB l = false by rw [← HF.out, HX.out]; simp [cutB])
        go_wp2_with fail
        go_ret
        exact ⟨by rw [HR.out]; rfl, Below.refl _ _⟩
      · have HR := Lib.hid (show cutB (l.drop (k + 1)) = cutB l by rw [← HF.out, HX.out]; simp [cutB])
        go_wp2_with fail
        go_roundw
        case rel => exact ⟨k + 1, by go_num, by omega, by trivial, by trivial, HR⟩
        case measure => simp [intOf]; omega
    · obtain rfl : k = l.length := by omega
      have HR := Lib.hid (show cutB l = true by rw [← HF.out, List.drop_length]; rfl)
      go_wp2_with fail
      go_ret
      exact ⟨by rw [HR.out]; rfl, Below.refl _ _⟩

set_option maxHeartbeats 4000000 in
set_option maxRecDepth 1000000 in
theorem rinside_any (l : List Dv) (a : Option Addr) (c : Nat) (w : World) (hA : DK.RowC w a c l) (hS : sumN l ≤ 1000000) :
    Calls Try.prog 22 #[.slice a l.length c] w fun e w' => e = .returned (.int .i64 (sumN l)) ∧ Below w.heap.size w w' := by
  have hl1 := hA.1
  have hl2 := hA.2.1
  unfold maxLen at hl2
  have HA := Lib.hid hA
  clear hA
  go_enter Try.func22, Try.ntmps22
  go_wp2_with fail
  go_loopw [3, 4] (fun u3 u8 wr => ∃ k s : Nat, u8 = .int .i64 k ∧ k ≤ l.length ∧ u3 = .int .i64 s ∧ wr = w ∧ Hid (s + sumN (l.drop k) = sumN l)) (fun _ u _ => l.length - (intOf u).toNat)
  case atStart => exact ⟨0, 0, rfl, by omega, rfl, rfl, Lib.hid (by simp)⟩
  case round =>
    obtain ⟨k, s, rfl, hk, rfl, rfl, hF⟩ := hrel
    have HF := Lib.hid hF.out
    clear hF
    by_cases hlt : k < l.length
    · obtain ⟨b, o, rfl, hb, hat⟩ := HA.out.2.2.2 (by omega)
      obtain ⟨⟨cap, ad, n, cc, cl⟩, hx⟩ : ∃ x, l[k]? = some x := ⟨_, List.getElem?_eq_getElem hlt⟩
      obtain ⟨z0, z1, z2⟩ := DK.three hat hx
      have hX := drop_at l k _ hx
      have hF := HF.out
      rw [hX, sumN_cons] at hF
      have HR := Lib.hid (show s + n + sumN (l.drop (k + 1)) = sumN l by rw [← hF]; simp; omega)
      have hsn : s + n ≤ 1000000 := by have := HR.out; omega
      have hwr : IntKind.i64.wrap ((s : Int) + (n : Int)) = ((s + n : Nat) : Int) := by rw [IntKind.wrap_i64]; omega
      have hlb : (k : Int) < (l.length : Int) := by omega
      clear hat hx hX hF
      go_wp2_with fail
      go_roundw
      case rel => exact ⟨k + 1, s + n, by go_num, by omega, by trivial, by trivial, HR⟩
      case measure => simp [intOf]; omega
    · obtain rfl : k = l.length := by omega
      have HR := Lib.hid (show s = sumN l by rw [← HF.out, List.drop_length]; simp [sumN])
      go_wp2_with fail
      go_ret
      exact ⟨by rw [← HR.out]; rfl, Below.refl _ _⟩

set_option maxHeartbeats 4000000 in
set_option maxRecDepth 1000000 in
theorem rgreat_any (l : List Dv) (a : Option Addr) (c : Nat) (w : World) (hA : DK.RowC w a c l) :
    Calls Try.prog 8 #[.slice a l.length c] w fun e w' => e = .returned (.bool (greatD l)) ∧ Below w.heap.size w w' := by
  have hl1 := hA.1
  have hl2 := hA.2.1
  unfold maxLen at hl2
  have HA := Lib.hid hA
  clear hA
  go_enter Try.func8, Try.ntmps8
  go_wp2_with fail
  go_loopw [2, 3] (fun u2 u3 wr => ∃ k : Nat, u3 = .int .i64 k ∧ k ≤ l.length ∧ k ≤ 61 ∧ wr = w ∧ u2 = .bool false ∧ Hid (((l.take 61).drop k).any (fun d => decide (200 < d.n) || decide (d.cap < -1099511627776)) = (l.take 61).any (fun d => decide (200 < d.n) || decide (d.cap < -1099511627776)))) (fun _ u _ => l.length - (intOf u).toNat)
  case atStart => exact ⟨0, rfl, by omega, by omega, rfl, rfl, Lib.hid rfl⟩
  case round =>
    obtain ⟨k, rfl, hk, hk2, rfl, rfl, hF⟩ := hrel
    have HF := Lib.hid hF.out
    clear hF
    by_cases hlt : k < l.length
    · by_cases hlt2 : k ≤ 60
      · obtain ⟨b, o, rfl, hb, hat⟩ := HA.out.2.2.2 (by omega)
        obtain ⟨⟨cap, ad, n, cc, cl⟩, hx⟩ : ∃ x, l[k]? = some x := ⟨_, List.getElem?_eq_getElem hlt⟩
        obtain ⟨z0, z1, z2⟩ := DK.three hat hx
        have HX := Lib.hid (drop_at (l.take 61) k _ (by rw [List.getElem?_take, if_pos (by omega), hx]))
        have hlb : (k : Int) < (l.length : Int) := by omega
        have hlb2 : (k : Int) ≤ 60 := by omega
        clear hat hx
        by_cases hg : 200 < n
        · have HR := Lib.hid (show greatD l = true by unfold greatD; rw [← HF.out, HX.out, List.any_cons]; simp [hg])
          have hgi : (200 : Int) < (n : Int) := by omega
          go_wp2_with fail
          go_ret
          exact ⟨by rw [HR.out]; rfl, Below.refl _ _⟩
        · have hgi : ¬ (200 : Int) < (n : Int) := by omega
          by_cases hg2 : cap < -1099511627776
          · have HR := Lib.hid (show greatD l = true by unfold greatD; rw [← HF.out, HX.out, List.any_cons]; simp [hg2])
            go_wp2_with fail
            go_ret
            exact ⟨by rw [HR.out]; rfl, Below.refl _ _⟩
          · have HR := Lib.hid (show ((l.take 61).drop (k + 1)).any (fun d => decide (200 < d.n) || decide (d.cap < -1099511627776)) = (l.take 61).any (fun d => decide (200 < d.n) || decide (d.cap < -1099511627776)) by rw [← HF.out, HX.out, List.any_cons]; simp [hg, hg2])
            go_wp2_with fail
            go_roundw
            case rel => exact ⟨k + 1, by go_num, by omega, by omega, by trivial, by trivial, HR⟩
            case measure => simp [intOf]; omega
      · have HR := Lib.hid (show greatD l = true by unfold greatD; simp; right; omega)
        have h3 : decide ((60 : Int) < (l.length : Int)) = true := by simp; omega
        have hlb2 : ¬ (k : Int) ≤ 60 := by omega
        go_wp2_with fail
        go_ret
        exact ⟨by rw [HR.out]; simp; try omega, Below.refl _ _⟩
    · obtain rfl : k = l.length := by omega
      have HR := Lib.hid (show greatD l = decide ((60 : Int) < (l.length : Int)) by unfold greatD; rw [← HF.out, List.drop_eq_nil_of_le (by simp; omega)]; simp; omega)
      go_wp2_with fail
      go_ret
      exact ⟨by rw [HR.out]; rfl, Below.refl _ _⟩
end Go.Proofs.Ytfplkjnnnbknoaa
