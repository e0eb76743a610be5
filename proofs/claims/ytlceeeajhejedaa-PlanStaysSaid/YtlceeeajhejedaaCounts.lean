/- How many there may be; which numbers may be; the parts of a plan. -/
import Derived.Test.YtlceeeajhejedaaFind
set_option linter.unusedSimpArgs false
set_option linter.unusedVariables false
namespace Go.Proofs.Ytlceeeajhejedaa
open Go.RowKit Go.Proofs.Ytlceeeajhejedaa.Kind

set_option maxHeartbeats 2000000 in
set_option maxRecDepth 1000000 in
theorem count_ads (n : Nat) (a : Option Addr) (c : Nat) (w : World) (hn : (n : Int) ≤ 9223372036854775807) :
    Calls Try.prog 41 #[.slice a n c] w fun e w' => e = .returned (.bool (decide (1 ≤ n ∧ n ≤ 32))) ∧ w = w' := by
  by_cases h1 : 1 ≤ n
  · by_cases h2 : n ≤ 32
    · rw [decide_eq_true ⟨h1, h2⟩]
      have h1 : (1 : Int) ≤ (n : Int) := by omega
      have h2 : (n : Int) ≤ 32 := by omega
      go_enter Try.func41, Try.ntmps41
      go_wp2_with fail
      go_ret
      exact ⟨by first | rfl | simp [*], rfl⟩
    · rw [decide_eq_false (by omega)]
      have h1 : (1 : Int) ≤ (n : Int) := by omega
      have h2 : ¬ (n : Int) ≤ 32 := by omega
      go_enter Try.func41, Try.ntmps41
      go_wp2_with fail
      go_ret
      exact ⟨by first | rfl | simp [*], rfl⟩
  · rw [decide_eq_false (by omega)]
    have h1 : ¬ (1 : Int) ≤ (n : Int) := by omega
    go_enter Try.func41, Try.ntmps41
    go_wp2_with fail
    go_ret
    exact ⟨by first | rfl | simp [*], rfl⟩

set_option maxHeartbeats 2000000 in
set_option maxRecDepth 1000000 in
theorem count_fates (n : Nat) (a : Option Addr) (c : Nat) (w : World) (hn : (n : Int) ≤ 9223372036854775807) :
    Calls Try.prog 43 #[.slice a n c] w fun e w' => e = .returned (.bool (decide (1 ≤ n ∧ n ≤ 32))) ∧ w = w' := by
  by_cases h1 : 1 ≤ n
  · by_cases h2 : n ≤ 32
    · rw [decide_eq_true ⟨h1, h2⟩]
      have h1 : (1 : Int) ≤ (n : Int) := by omega
      have h2 : (n : Int) ≤ 32 := by omega
      go_enter Try.func43, Try.ntmps43
      go_wp2_with fail
      go_ret
      exact ⟨by first | rfl | simp [*], rfl⟩
    · rw [decide_eq_false (by omega)]
      have h1 : (1 : Int) ≤ (n : Int) := by omega
      have h2 : ¬ (n : Int) ≤ 32 := by omega
      go_enter Try.func43, Try.ntmps43
      go_wp2_with fail
      go_ret
      exact ⟨by first | rfl | simp [*], rfl⟩
  · rw [decide_eq_false (by omega)]
    have h1 : ¬ (1 : Int) ≤ (n : Int) := by omega
    go_enter Try.func43, Try.ntmps43
    go_wp2_with fail
    go_ret
    exact ⟨by first | rfl | simp [*], rfl⟩

set_option maxHeartbeats 2000000 in
set_option maxRecDepth 1000000 in
theorem fate_may (x : Int) (w : World) :
    Calls Try.prog 44 #[.int .i8 x] w fun e w' => e = .returned (.bool (decide (x = 0 ∨ x = 1 ∨ x = 2))) ∧ w = w' := by
  by_cases h0 : x = 0
  · subst h0
    go_enter Try.func44, Try.ntmps44
    go_wp2_with fail
    go_ret
    exact ⟨rfl, rfl⟩
  · by_cases h1 : x = 1
    · subst h1
      go_enter Try.func44, Try.ntmps44
      go_wp2_with fail
      go_ret
      exact ⟨rfl, rfl⟩
    · by_cases h2 : x = 2
      · subst h2
        go_enter Try.func44, Try.ntmps44
        go_wp2_with fail
        go_ret
        exact ⟨rfl, rfl⟩
      · rw [decide_eq_false (by omega)]
        have e0 : (x == 0) = false := by simpa using h0
        have e1 : (x == 1) = false := by simpa using h1
        have e2 : (x == 2) = false := by simpa using h2
        clear h0 h1 h2
        go_enter Try.func44, Try.ntmps44
        go_wp2_with fail
        go_ret
        exact ⟨rfl, rfl⟩

def lensB (P : Pl) : Bool := decide (P.zones.length ≤ 8 ∧ P.fates.length ≤ 32 ∧ P.drops.length ≤ 16)
set_option maxHeartbeats 4000000 in
set_option maxRecDepth 1000000 in
theorem lens_any (P : Pl) (v : Pv) (w : World) :
    Calls Try.prog 25 #[v.val P] w fun e w' => e = .returned (.bool (lensB P)) ∧ Below w.heap.size w w' := by
  obtain ⟨za, zc, fa, fc, da, dc⟩ := v
  obtain ⟨zs, fs, t, ds⟩ := P
  simp only [Pv.val, lensB]
  generalize zs.length = z
  generalize fs.length = f
  generalize ds.length = d
  by_cases h1 : z ≤ 8
  · have i1 : (z : Int) ≤ 8 := by omega
    by_cases h2 : f ≤ 32
    · have i2 : (f : Int) ≤ 32 := by omega
      by_cases h3 : d ≤ 16
      · have i3 : (d : Int) ≤ 16 := by omega
        rw [decide_eq_true ⟨h1, h2, h3⟩]
        go_enter Try.func25, Try.ntmps25
        go_wp2_with fail
        go_ret
        exact ⟨by first | rfl | simp [*], below1 w _⟩
      · have i3 : ¬ (d : Int) ≤ 16 := by omega
        rw [decide_eq_false (by omega)]
        go_enter Try.func25, Try.ntmps25
        go_wp2_with fail
        go_ret
        exact ⟨by first | rfl | simp [*], below1 w _⟩
    · have i2 : ¬ (f : Int) ≤ 32 := by omega
      rw [decide_eq_false (by omega)]
      go_enter Try.func25, Try.ntmps25
      go_wp2_with fail
      go_ret
      exact ⟨by first | rfl | simp [*], below1 w _⟩
  · have i1 : ¬ (z : Int) ≤ 8 := by omega
    rw [decide_eq_false (by omega)]
    go_enter Try.func25, Try.ntmps25
    go_wp2_with fail
    go_ret
    exact ⟨by first | rfl | simp [*], below1 w _⟩

def numsB (P : Pl) : Bool := P.drops.all (fun d => decide (0 ≤ d)) && decide (0 ≤ P.ticks ∧ P.ticks ≤ 200)
theorem all_true {α : Type} {p : α → Bool} {l : List α} (h : NoneTo (fun x => !p x) l l.length) : l.all p = true := by
  rw [List.all_eq_true]
  intro x hx
  obtain ⟨j, hj, e⟩ := List.getElem_of_mem hx
  have := h j x hj (by rw [List.getElem?_eq_getElem hj, e])
  simpa using this
theorem all_false {α : Type} {p : α → Bool} {l : List α} {k : Nat} {x : α} (hx : l[k]? = some x) (hp : p x = false) : l.all p = false := by
  rw [List.all_eq_false]
  exact ⟨x, List.mem_of_getElem? hx, by simp [hp]⟩
set_option maxHeartbeats 4000000 in
set_option maxRecDepth 1000000 in
theorem nums_any (P : Pl) (v : Pv) (w : World) (hP : IK.RowC w v.da v.dc P.drops) :
    Calls Try.prog 26 #[v.val P] w fun e w' => e = .returned (.bool (numsB P)) ∧ Below w.heap.size w w' := by
  obtain ⟨za, zc, fa, fc, da, dc⟩ := v
  obtain ⟨zs, fs, t, l⟩ := P
  simp only [Pv.val, numsB]
  dsimp only at hP
  have hlen : (l.length : Int) ≤ 9223372036854775807 := len_int _ (Nat.le_trans hP.1 hP.2.1)
  obtain ⟨o1, ho1⟩ : ∃ o1 : Obj, o1 = .cells #[.slice za zs.length zc, .slice fa fs.length fc, .int .i64 t, .slice da l.length dc] 26 := ⟨_, rfl⟩
  have HB := Lib.hid (below1 w o1)
  have HL := Lib.hid (laid1 w o1)
  have HR := Lib.hid (hP.below (below1 w o1))
  rw [ho1] at HB HL HR
  clear ho1
  obtain ⟨W1, hW1⟩ : ∃ W1, W1 = w.alloc (.cells #[.slice za zs.length zc, .slice fa fs.length fc, .int .i64 t, .slice da l.length dc] 26) := ⟨_, rfl⟩
  rw [← hW1] at HB HL HR
  go_enter Try.func26, Try.ntmps26
  go_upto_region 1 with fail
  rw [← hW1]
  clear hW1
  obtain ⟨⟨x0, x1, x2, x3⟩, _⟩ := box4 HL.out
  go_wp2_with fail
  go_loopw [8] (fun i wr => ∃ k : Nat, i = .int .i64 k ∧ k ≤ l.length ∧ Hid (NoneTo (fun x : Int => !decide (0 ≤ x)) l k) ∧ W1 = wr) (fun i _ => l.length - (intOf i).toNat)
  case atStart => exact ⟨0, rfl, by omega, Lib.hid (noneTo_zero _ _), by first | rfl | trivial⟩
  case round =>
    obtain ⟨k, rfl, hk, hn, rfl⟩ := hrel
    have HN := Lib.hid hn.out
    clear hn
    by_cases hki : k < l.length
    · obtain ⟨y, hy⟩ : ∃ y, l[k]? = some y := ⟨_, List.getElem?_eq_getElem hki⟩
      obtain ⟨b, o, rfl, hbl, hat⟩ := HR.out.2.2.2 (by omega)
      have y0 := IK.one hat hy
      have HX := Lib.hid hy
      clear hy hat
      by_cases hq : y < 0
      · go_wp2_with fail
        go_ret
        exact ⟨by rw [all_false HX.out (by simp; omega)]; rfl, HB.out⟩
      · go_wp2_with fail
        go_roundw
        case rel => exact ⟨k + 1, by go_num, by omega, Lib.hid (noneTo_step HN.out HX.out (by simp; omega)), by first | rfl | trivial⟩
        case measure => simp [intOf]; omega
    · obtain rfl : k = l.length := by omega
      have HA := Lib.hid (all_true HN.out)
      by_cases h1 : 0 ≤ t
      · by_cases h2 : t ≤ 200
        · go_wp2_with fail
          go_ret
          exact ⟨by rw [HA.out, decide_eq_true ⟨h1, h2⟩]; first | rfl | simp [*], HB.out⟩
        · go_wp2_with fail
          go_ret
          exact ⟨by rw [HA.out, decide_eq_false (by omega)]; first | rfl | simp [*], HB.out⟩
      · go_wp2_with fail
        go_ret
        exact ⟨by rw [HA.out, decide_eq_false (by omega)]; first | rfl | simp [*], HB.out⟩
end Go.Proofs.Ytlceeeajhejedaa
