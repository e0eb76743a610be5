/- The document's own answers about scars: without an address's, the fresh ones, the same. -/
import Derived.Test.YtipbkhbdnjhofaaScars
import Derived.Test.YtipbkhbdnjhofaaLoose
import Derived.Test.YtipbkhbdnjhofaaBoxes
import Derived.Deep.RegionHeld3
set_option linter.unusedSimpArgs false
set_option linter.unusedVariables false
namespace Go.Proofs.Ytipbkhbdnjhofaa
open R3 Go.RowKit Go.Proofs.Ytipbkhbdnjhofaa.Kind

theorem out_step {l : List Sc} {a : Ad} {k : Nat} {x : Sc} (hx : l[k]? = some x) : outS (l.take (k + 1)) a = outS (l.take k) a ++ (if offS a x then [x] else []) := by
  have : l.take (k + 1) = l.take k ++ [x] := by rw [List.take_add_one, hx]; rfl
  unfold outS
  rw [this, List.filter_append]
  simp [List.filter_cons]
theorem out_le (l : List Sc) (a : Ad) (k : Nat) : (outS (l.take k) a).length ≤ k := by
  refine Nat.le_trans (out_len _ _) ?_
  simp; omega
theorem fresh_step {l : List Sc} {g n : Int} {k : Nat} {x : Sc} (hx : l[k]? = some x) : freshS (l.take (k + 1)) g n = freshS (l.take k) g n ++ (if liveS g n x then [x] else []) := by
  have : l.take (k + 1) = l.take k ++ [x] := by rw [List.take_add_one, hx]; rfl
  unfold freshS
  rw [this, List.filter_append]
  simp [List.filter_cons]
theorem fresh_le (l : List Sc) (g n : Int) (k : Nat) : (freshS (l.take k) g n).length ≤ k := by
  refine Nat.le_trans (fresh_len _ _ _) ?_
  simp; omega





set_option maxHeartbeats 4000000 in
set_option maxRecDepth 1000000 in
theorem rsame_any (l m : List Sc) (a b : Option Addr) (c d : Nat) (r : Bool) (w : World) (hr : r = decide (l = m)) (hA : SK.RowC w a c l) (hB : SK.RowC w b d m) :
    Calls Try.prog 15 #[.slice a l.length c, .slice b m.length d] w fun e w' => e = .returned (.bool r) ∧ Below w.heap.size w w' := by
  have HA := Lib.hid hA
  have HB := Lib.hid hB
  have HR := Lib.hid hr
  have hmx : l.length ≤ 9223372036854775807 := by have h1 := hA.1; have h2 := hA.2.1; unfold maxLen at h2; omega
  have hmy : m.length ≤ 9223372036854775807 := by have h1 := hB.1; have h2 := hB.2.1; unfold maxLen at h2; omega
  clear hA hB hr
  go_enter Try.func15, Try.ntmps15
  by_cases hlm : l.length = m.length
  · go_wp2_with fail
    go_loopw [5] (fun i wr => ∃ k q : Nat, k ≤ l.length ∧ i = .int .i64 k ∧ Hid (l.take k = m.take k) ∧ wr = w.drewN q) (fun i _ => l.length - (intOf i).toNat)
    case atStart => exact ⟨0, 0, by omega, rfl, Lib.hid rfl, rfl⟩
    case round =>
      obtain ⟨k, q, hk, rfl, he, rfl⟩ := hrel
      have HE := Lib.hid he.out
      clear he
      by_cases hlt : k < l.length
      · obtain ⟨b1, o1, rfl, hb1, hat1⟩ := HA.out.2.2.2 (by omega)
        obtain ⟨b2, o2, rfl, hb2, hat2⟩ := HB.out.2.2.2 (by omega)
        obtain ⟨x, hx⟩ : ∃ x, l[k]? = some x := ⟨_, List.getElem?_eq_getElem hlt⟩
        obtain ⟨y, hy⟩ : ∃ y, m[k]? = some y := ⟨_, List.getElem?_eq_getElem (by omega)⟩
        obtain ⟨c0, c1, c2, c3, c4, c5, c6, c7, c8, c9, c10⟩ := SK.cells hat1 hx
        obtain ⟨d0, d1, d2, d3, d4, d5, d6, d7, d8, d9, d10⟩ := SK.cells hat2 hy
        have hnq := neq_sc x y
        have hgd := guard_sc
        have HX := Lib.hid hx
        have HY := Lib.hid hy
        clear hx hy hat1 hat2
        by_cases hxy : x = y
        · have hd : decide (x ≠ y) = false := by simp [hxy]
          have HD := Lib.hid (show l.take (k + 1) = m.take (k + 1) by rw [List.take_add_one, List.take_add_one, HE.out, HX.out, HY.out, hxy])
          rw [hd] at hnq
          clear hd hxy
          go_wp2_with fail
          go_quiet (fail)
          go_wp2_with fail
          go_roundw
          case rel => exact ⟨k + 1, _, by omega, by go_num, HD, rfl⟩
          case measure => simp [intOf]; omega
        · have hd : decide (x ≠ y) = true := by simp [hxy]
          have HD := Lib.hid (show r = false by rw [HR.out]; exact decide_eq_false (fun e => hxy (by have := HX.out; rw [e, HY.out] at this; exact (Option.some.inj this).symm)))
          rw [hd] at hnq
          clear hd hxy
          go_wp2_with fail
          go_quiet (fail)
          go_wp2_with fail
          go_ret
          exact ⟨by rw [HD.out]; rfl, below_drewN (below_drewN (Below.refl _ _) _) _⟩
      · obtain rfl : k = l.length := by omega
        have HD := Lib.hid (show r = true by rw [HR.out]; exact decide_eq_true (by have := HE.out; rwa [List.take_length, hlm, List.take_length] at this))
        go_wp2_with fail
        go_ret
        exact ⟨by rw [HD.out]; rfl, below_drewN (Below.refl _ _) q⟩
  · have HD := Lib.hid (show r = false by rw [HR.out]; exact decide_eq_false (fun e => hlm (by rw [e])))
    go_wp2_with fail
    go_ret
    exact ⟨by rw [HD.out]; rfl, Below.refl _ _⟩

set_option maxHeartbeats 4000000 in
set_option maxRecDepth 1000000 in
theorem rgreat_any (l : List Sc) (a : Option Addr) (c : Nat) (r : Bool) (w : World) (hr : r = decide (100 < l.length)) (hl : l.length ≤ 9223372036854775807) :
    Calls Try.prog 11 #[.slice a l.length c] w fun e w' => e = .returned (.bool r) ∧ w' = w := by
  have HR := Lib.hid hr
  clear hr
  go_enter Try.func11, Try.ntmps11
  go_wp2_with fail
  go_ret
  refine ⟨?_, rfl⟩
  rw [HR.out]
  congr 2
  simp
  omega
end Go.Proofs.Ytipbkhbdnjhofaa
