/- Package pace as it landed: what a history has come to; who may fail, who may start. -/
import Derived.Test.YtpncgcaepdkcnaaLandB
set_option linter.unusedSimpArgs false
set_option linter.unusedVariables false
namespace Go.Proofs.Ytpncgcaepdkcnaa
open R3 Go.RowKit Go.Proofs.Ytpncgcaepdkcnaa.Kind

def BK : Kind Try.prog Bool where
  enc := fun n => [.bool n]
  k := 1
  T := 4
  S := 48
  z := .bool false
  bytes := 1
  hk := fun _ => rfl
  h1 := by
    intro x v hv
    simp only [List.mem_cons, List.not_mem_nil, or_false] at hv
    rcases hv with rfl
    rfl
  hu := Try.underlying48
  hi := by kernel_rfl
  hz := rfl
  hk0 := by decide
  hb := by decide
theorem BK.one {w : World} {b o : Nat} {l : List Bool} (h : BK.At w b o l) {j : Nat} {x : Bool} (hx : l[j]? = some x) : w.cell? ⟨b, o + j, none⟩ = some (.bool x) := by
  have := h j x hx 0 _ rfl
  simpa [BK] using this
theorem box_2 {w : World} {g : Nat} {x0 x1 : Value} {t : TypeId} (h : w.heap[g]? = some (.cells #[x0, x1] t (0, 0))) :
    (w.cell? ⟨g, 0, none⟩ = some x0 ∧ w.cell? ⟨g, 1, none⟩ = some x1) ∧ (w.frozen? ⟨g, 0, none⟩ = false ∧ w.frozen? ⟨g, 1, none⟩ = false) := by
  simp [World.cell?, World.frozen?, h]
def mayFailP (F : List Bool) (n : Int) : Bool := decide (0 ≤ n) && decide (n < F.length) && !F.getD n.toNat false
def lastFB (F : List Bool) : Bool := decide (0 < F.length) && F.getD (F.length - 1) false
def mayStartP (F : List Bool) (since : Int) (n g t : Int) : Bool := decide (n = F.length) && mayP F.length (F.length + 1) (lastFB F) since g t

set_option maxHeartbeats 8000000 in
set_option maxRecDepth 1000000 in
theorem mayfail_any (F : List Bool) (since n : Int) (r : Bool) (a : Option Addr) (c : Nat) (w : World) (hr : r = mayFailP F n) (hl : F.length ≤ 1000) (hR : BK.RowC w a c F) :
    Calls Try.prog 20 #[.agg #[.slice a F.length c, .int .i64 since], .int .i64 n] w fun e w' => e = .returned (.bool r) ∧ Below w.heap.size w w' := by
  have HR := Lib.hid hr
  have HF := Lib.hid hR
  clear hr hR
  by_cases h0 : 0 ≤ n
  · by_cases h1 : n < F.length
    · obtain ⟨q, rfl⟩ : ∃ q : Nat, n = q := ⟨n.toNat, by omega⟩
      obtain ⟨b, o, rfl, hb, hat⟩ := HF.out.2.2.2 (by omega)
      obtain ⟨x, hx⟩ : ∃ x, F[q]? = some x := ⟨_, List.getElem?_eq_getElem (by omega)⟩
      have c0 := BK.one (hat.below (below1 w (.cells #[.slice (some ⟨b, o, none⟩) F.length c, .int .i64 since] 50)) hb) hx
      have HX := Lib.hid (show r = !x by rw [HR.out]; unfold mayFailP; rw [decide_eq_true h0, decide_eq_true h1, Int.toNat_natCast, List.getD_eq_getElem?_getD, hx]; rfl)
      have hd0 := decide_eq_true h0
      have hd1 := decide_eq_true h1
      have hq : q < F.length := by omega
      clear hat hx
      go_enter Try.func20, Try.ntmps20
      go_wp2_with fail
      go_ret
      exact ⟨by rw [HX.out]; rfl, below1 _ _⟩
    · have HX := Lib.hid (show r = false by rw [HR.out]; unfold mayFailP; rw [decide_eq_false h1, Bool.and_false, Bool.false_and])
      have hd0 := decide_eq_true h0
      have hd1 := decide_eq_false h1
      go_enter Try.func20, Try.ntmps20
      go_wp2_with fail
      go_ret
      exact ⟨by rw [HX.out]; rfl, below1 _ _⟩
  · have HX := Lib.hid (show r = false by rw [HR.out]; unfold mayFailP; rw [decide_eq_false h0, Bool.false_and, Bool.false_and])
    have hd0 := decide_eq_false h0
    go_enter Try.func20, Try.ntmps20
    go_wp2_with fail
    go_ret
    exact ⟨by rw [HX.out]; rfl, below1 _ _⟩

set_option maxHeartbeats 8000000 in
set_option maxRecDepth 1000000 in
theorem maystart_any (F : List Bool) (since g n t : Int) (f : Bool) (r : Bool) (a : Option Addr) (c : Nat) (w : World) (hr : r = mayStartP F since n g t) (hl : F.length ≤ 1000) (hR : BK.RowC w a c F) :
    Calls Try.prog 21 #[.agg #[.slice a F.length c, .int .i64 since], .agg #[.bool f, .int .i64 n, .int .i64 t], .int .i64 g] w fun e w' => e = .returned (.bool r) ∧ Below w.heap.size w w' := by
  obtain ⟨s, hs⟩ : ∃ s, s = lastFB F := ⟨_, rfl⟩
  obtain ⟨m, hm⟩ : ∃ m, m = mayP F.length (F.length + 1) s since g t := ⟨_, rfl⟩
  have HR := Lib.hid (show r = (decide (n = F.length) && m) by rw [hr, hm, hs]; rfl)
  have HM := Lib.hid (fun w => may_any F.length (F.length + 1) s since g t m w hm)
  have HF := Lib.hid hR
  have hw1 : IntKind.i64.wrap ((F.length : Int) + 1) = (F.length : Int) + 1 := by rw [IntKind.wrap_i64]; omega
  have hb2 := below2 w (.cells #[.slice a F.length c, .int .i64 since] 50) (.cells #[.bool f, .int .i64 n, .int .i64 t] 26)
  by_cases h0 : 0 < F.length
  · obtain ⟨q, hq⟩ : ∃ q, q + 1 = F.length := ⟨F.length - 1, by omega⟩
    have hw2 : IntKind.i64.wrap ((F.length : Int) - 1) = (q : Int) := by rw [IntKind.wrap_i64]; omega
    obtain ⟨b, o, rfl, hb, hat⟩ := HF.out.2.2.2 (by omega)
    obtain ⟨x, hx⟩ : ∃ x, F[q]? = some x := ⟨_, List.getElem?_eq_getElem (by omega)⟩
    obtain rfl : s = x := by rw [hs]; unfold lastFB; rw [decide_eq_true h0, Bool.true_and, show F.length - 1 = q by omega, List.getD_eq_getElem?_getD, hx]; rfl
    have c0 := BK.one (hat.below hb2 hb) hx
    have hd0 : decide ((0 : Int) < (F.length : Int)) = true := decide_eq_true (by omega)
    have hqi : (q : Int) < (F.length : Int) := by omega
    have hqn : q < F.length := by omega
    have HQ := Lib.hid hq
    clear hat hx hr hm hs hR hq
    by_cases h1 : n = F.length
    · have hd1 := decide_eq_true h1
      rw [hd1] at HR
      subst h1
      clear hb2
      go_enter Try.func21, Try.ntmps21
      go_wp2_with fail
      (with_reducible refine (HM.out _).mono ?_)
      rintro e w1 ⟨rfl, hw1⟩
      subst w1
      go_wp2_with fail
      go_ret
      exact ⟨by rw [HR.out]; rfl, below2 _ _ _⟩
    · have hd1 := decide_eq_false h1
      have hd1b : (n == (F.length : Int)) = false := by rw [beq_eq_false_iff_ne]; exact h1
      rw [hd1] at HR
      clear hb2
      go_enter Try.func21, Try.ntmps21
      go_wp2_with fail
      go_ret
      exact ⟨by rw [HR.out]; rfl, below2 _ _ _⟩
  · have hl0 : F = [] := List.length_eq_zero_iff.1 (by omega)
    subst hl0
    obtain rfl : s = false := by rw [hs]; rfl
    have HM := Lib.hid (fun w => may_any 0 1 false since g t m w (by rw [hm]; rfl))
    clear hr hm hs hR
    by_cases h1 : n = 0
    · subst h1
      clear hb2
      go_enter Try.func21, Try.ntmps21
      go_wp2_with fail
      (with_reducible refine (HM.out _).mono ?_)
      rintro e w1 ⟨rfl, hw1⟩
      subst w1
      go_wp2_with fail
      go_ret
      exact ⟨by rw [HR.out]; rfl, below2 _ _ _⟩
    · have hd1 := decide_eq_false h1
      have hd1b : (n == 0) = false := by rw [beq_eq_false_iff_ne]; exact h1
      have hrf := HR.out
      rw [show decide (n = (([] : List Bool).length : Int)) = false from hd1] at hrf
      have HRf := Lib.hid hrf
      clear hb2 hrf
      go_enter Try.func21, Try.ntmps21
      go_wp2_with fail
      go_ret
      exact ⟨by rw [HRf.out]; rfl, below2 _ _ _⟩
end Go.Proofs.Ytpncgcaepdkcnaa
