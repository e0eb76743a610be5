/- What is asked of package pace's calls: the document's words, as contracts; the document's own answers of rows of ints, of histories too long. -/
import Derived.Test.YtpncgcaepdkcnaaPaces
import Derived.Test.YtpncgcaepdkcnaaBoxes
import Derived.Test.YtpncgcaepdkcnaaLoose
import Derived.Deep.RegionHeld3
set_option linter.unusedSimpArgs false
set_option linter.unusedVariables false
namespace Go.Proofs.Ytpncgcaepdkcnaa
open R3 Go.RowKit Go.Proofs.Ytpncgcaepdkcnaa.Kind

def MaySpec : Prop := ∀ (s n : Int) (f : Bool) (since g now : Int) (r : Bool) (w : World), r = mayP s n f since g now →
  Calls Try.prog 10 #[.int .i64 s, .int .i64 n, .bool f, .int .i64 since, .int .i64 g, .int .i64 now] w fun e w' => e = .returned (.bool r) ∧ Below w.heap.size w w'
def WhenSpec : Prop := ∀ (s n since g t : Int) (r : Bool) (w : World), t = whenT s n since g → r = whenB s n →
  Calls Try.prog 9 #[.int .i64 s, .int .i64 n, .int .i64 since, .int .i64 g] w fun e w' => e = .returned (.tuple #[.int .i64 t, .bool r]) ∧ Below w.heap.size w w'
def PlanSpec : Prop := ∀ (n t g : Int) (L : List Int) (w : World), L = planL n t g →
  Calls Try.prog 7 #[.int .i64 n, .int .i64 t, .int .i64 g] w fun e w' => ∃ a1 c1, e = .returned (.slice a1 L.length c1) ∧ IK.RowC w' a1 c1 L ∧ Below w.heap.size w w'
def KeepsSpec : Prop := ∀ (g : Int) (l : List Pc) (s : Option Addr) (c : Nat) (r : Bool) (w : World), r = keepsP g l → l.length ≤ 500 → PK.RowC w s c l →
  Calls Try.prog 11 #[.int .i64 g, .slice s l.length c] w fun e w' => e = .returned (.bool r) ∧ Below w.heap.size w w'
def StartsSpec : Prop := ∀ (l : List Pc) (s : Option Addr) (c : Nat) (L : List Int) (w : World), L = startsL l → l.length ≤ 500 → PK.RowC w s c l →
  Calls Try.prog 13 #[.slice s l.length c] w fun e w' => ∃ a1 c1, e = .returned (.slice a1 L.length c1) ∧ IK.RowC w' a1 c1 L ∧ Below w.heap.size w w'
def WakesSpec : Prop := ∀ w : World, Calls Try.prog 14 #[] w fun e w' => e = .returned (.bool true) ∧ Below w.heap.size w w'

set_option maxHeartbeats 4000000 in
set_option maxRecDepth 1000000 in
theorem rgreat_any (l : List Pc) (a : Option Addr) (c : Nat) (r : Bool) (w : World) (hr : r = decide (100 < l.length)) (hl : l.length ≤ 9223372036854775807) :
    Calls Try.prog 15 #[.slice a l.length c] w fun e w' => e = .returned (.bool r) ∧ w' = w := by
  have HR := Lib.hid hr
  clear hr
  go_enter Try.func15, Try.ntmps15
  go_wp2_with fail
  go_ret
  refine ⟨?_, rfl⟩
  rw [HR.out]
  congr 2
  simp
  omega
set_option maxHeartbeats 4000000 in
set_option maxRecDepth 1000000 in
theorem rsame_any (l m : List Int) (a b : Option Addr) (c d : Nat) (r : Bool) (w : World) (hr : r = decide (l = m)) (hA : IK.RowC w a c l) (hB : IK.RowC w b d m) :
    Calls Try.prog 12 #[.slice a l.length c, .slice b m.length d] w fun e w' => e = .returned (.bool r) ∧ Below w.heap.size w w' := by
  have HA := Lib.hid hA
  have HB := Lib.hid hB
  have HR := Lib.hid hr
  have hmx : l.length ≤ 9223372036854775807 := by have h1 := hA.1; have h2 := hA.2.1; unfold maxLen at h2; omega
  have hmy : m.length ≤ 9223372036854775807 := by have h1 := hB.1; have h2 := hB.2.1; unfold maxLen at h2; omega
  clear hA hB hr
  go_enter Try.func12, Try.ntmps12
  by_cases hlm : l.length = m.length
  · go_wp2_with fail
    go_loopw [5] (fun i wr => ∃ k q : Nat, k ≤ l.length ∧ i = .int .i64 k ∧ Hid (l.take k = m.take k) ∧ wr = w.drewN q) (fun i _ => l.length - (intOf i).toNat)
    case atStart => exact ⟨0, 0, by omega, rfl, Lib.hid rfl, rfl⟩
    case round =>
      obtain ⟨k, q, hk, rfl, he, rfl⟩ := hrel
      have HE := Lib.hid he.out
      clear he
      by_cases hlt : k < l.length
      · obtain ⟨b1, o1, rfl, hb1, hat1⟩ := HA.out.2.2.2 (by omega)
        obtain ⟨b2, o2, rfl, hb2, hat2⟩ := HB.out.2.2.2 (by omega)
        obtain ⟨x, hx⟩ : ∃ x, l[k]? = some x := ⟨_, List.getElem?_eq_getElem hlt⟩
        obtain ⟨y, hy⟩ : ∃ y, m[k]? = some y := ⟨_, List.getElem?_eq_getElem (by omega)⟩
        have c0 := IK.one hat1 hx
        have d0 := IK.one hat2 hy
        have HX := Lib.hid hx
        have HY := Lib.hid hy
        clear hx hy hat1 hat2
        by_cases hxy : x = y
        · have hd : (x != y) = false := by simp [hxy]
          have HD := Lib.hid (show l.take (k + 1) = m.take (k + 1) by rw [List.take_add_one, List.take_add_one, HE.out, HX.out, HY.out, hxy])
          clear hxy
          go_wp2_with fail
          go_quiet (fail)
          go_wp2_with fail
          go_roundw
          case rel => exact ⟨k + 1, _, by omega, by go_num, HD, rfl⟩
          case measure => simp [intOf]; omega
        · have hd : (x != y) = true := by simp [hxy]
          have HD := Lib.hid (show r = false by rw [HR.out]; exact decide_eq_false (fun e => hxy (by have := HX.out; rw [e, HY.out] at this; exact (Option.some.inj this).symm)))
          clear hxy
          go_wp2_with fail
          go_quiet (fail)
          go_wp2_with fail
          go_ret
          exact ⟨by rw [HD.out]; rfl, below_drewN (below_drewN (Below.refl _ _) _) _⟩
      · obtain rfl : k = l.length := by omega
        have HD := Lib.hid (show r = true by rw [HR.out]; exact decide_eq_true (by have := HE.out; rwa [List.take_length, hlm, List.take_length] at this))
        go_wp2_with fail
        go_ret
        exact ⟨by rw [HD.out]; rfl, below_drewN (Below.refl _ _) q⟩
  · have HD := Lib.hid (show r = false by rw [HR.out]; exact decide_eq_false (fun e => hlm (by rw [e])))
    go_wp2_with fail
    go_ret
    exact ⟨by rw [HD.out]; rfl, Below.refl _ _⟩
end Go.Proofs.Ytpncgcaepdkcnaa
