/- Whether one is among many; which is picked. -/
import Derived.Test.YtjiepdgflfhkcaaFew
set_option linter.unusedSimpArgs false
set_option linter.unusedVariables false
namespace Go.Proofs.Ytjiepdgflfhkcaa
open Go.RowKit Go.Proofs.Ytjiepdgflfhkcaa.Kind Go.Proofs.Ytjiepdgflfhkcaa.P7

def idxP (m : Mt) : List Mt → Int → Int
  | [], _ => -1
  | x :: l, k => if m = x then k else idxP m l (k + 1)
theorem idxP_mem (m : Mt) : ∀ (l : List Mt) (k : Int), 0 ≤ k → (0 ≤ idxP m l k ↔ m ∈ l)
  | [], k, hk => by simp [idxP]
  | x :: l, k, hk => by
    unfold idxP
    by_cases h : m = x
    · simp [h, hk]
    · rw [if_neg h, idxP_mem m l (k + 1) (by omega), List.mem_cons]
      simp [h]
theorem idxP_ne {m x : Mt} {l : List Mt} {k : Int} (h : ¬ m = x) : idxP m (x :: l) k = idxP m l (k + 1) := by rw [idxP, if_neg h]
theorem eql_meet2 (x y : Mt) (W : World) : (binOp .eql 30 (.agg #[.int .i64 x.p, .int .i64 x.i, .int .i64 x.q, .int .i64 x.j]) (.agg #[.int .i64 y.p, .int .i64 y.i, .int .i64 y.q, .int .i64 y.j])).run Try.prog W = .ok (.bool (x == y)) W := eql_meet W x y

set_option maxHeartbeats 4000000 in
set_option maxRecDepth 1000000 in
theorem index_any (m : Mt) (l : List Mt) (r : Int) (hr : Hid (idxP m l 0 = r)) (a : Option Addr) (c : Nat) (w : World) (hl : l.length ≤ 20000) (hA : MK.RowC w a c l) :
    Calls Try.prog 32 #[.slice a l.length c, .agg #[.int .i64 m.p, .int .i64 m.i, .int .i64 m.q, .int .i64 m.j]] w fun e w' => e = .returned (.int .i64 r) ∧ Below w.heap.size w w' := by
  have HB := Lib.hid (below1 w (.cells #[.int .i64 m.p, .int .i64 m.i, .int .i64 m.q, .int .i64 m.j] 30))
  have HA := Lib.hid hA
  clear hA
  go_enter Try.func32, Try.ntmps32
  go_wp2_with fail
  go_loopw [8] (fun i wr => ∃ k q : Nat, k ≤ l.length ∧ i = .int .i64 k ∧ Hid (idxP m (l.drop k) k = r) ∧ wr = (w.alloc (.cells #[.int .i64 m.p, .int .i64 m.i, .int .i64 m.q, .int .i64 m.j] 30)).drewN q) (fun i _ => l.length - (intOf i).toNat)
  case atStart => exact ⟨0, 0, by omega, rfl, hr, rfl⟩
  case round =>
    obtain ⟨k, q, hk, rfl, hI, rfl⟩ := hrel
    have HI := Lib.hid hI.out
    clear hI
    by_cases hlt : k < l.length
    · obtain ⟨b1, o1, rfl, hb1, hat1⟩ := HA.out.2.2.2 (by omega)
      obtain ⟨x, hx⟩ : ∃ x, l[k]? = some x := ⟨_, List.getElem?_eq_getElem hlt⟩
      obtain ⟨c0, c1, c2, c3⟩ := MK.four hat1 hx
      have HD := Lib.hid (drop_at l k x hx)
      have hgd := guard_meet
      clear hx hat1
      by_cases he : m = x
      · have HR := Lib.hid (show (k : Int) = r by rw [← HI.out, HD.out]; unfold idxP; rw [if_pos he])
        have heq := fun W => (eql_meet2 m x W).trans (by rw [show (m == x) = true by simp [he]])
        clear HI HD he
        go_wp2_with fail
        go_quiet (fail)
        go_wp2_with fail
        go_ret
        exact ⟨ret_i64 HR.out, by first | exact below_drewN HB.out _ | exact below_drewN (below_drewN HB.out _) _⟩
      · have HR := Lib.hid (show idxP m (l.drop (k + 1)) ((k + 1 : Nat) : Int) = r by rw [← HI.out, HD.out, idxP_ne he]; rfl)
        have heq := fun W => (eql_meet2 m x W).trans (by rw [show (m == x) = false by simp [he]])
        clear HI HD he
        go_wp2_with fail
        go_quiet (fail)
        go_wp2_with fail
        go_roundw
        case rel => exact ⟨k + 1, _, by omega, by go_num, HR, rfl⟩
        case measure => simp [intOf]; omega
    · obtain rfl : k = l.length := by omega
      have HR := Lib.hid (show (-1 : Int) = r by rw [← HI.out, List.drop_length]; rfl)
      clear HI
      go_wp2_with fail
      go_ret
      exact ⟨ret_i64 HR.out, below_drewN HB.out _⟩

set_option maxHeartbeats 4000000 in
set_option maxRecDepth 1000000 in
theorem contains_any (m : Mt) (l : List Mt) (r : Bool) (hr : Hid (decide (m ∈ l) = r)) (a : Option Addr) (c : Nat) (w : World) (hl : l.length ≤ 20000) (hA : MK.RowC w a c l) :
    Calls Try.prog 22 #[.slice a l.length c, .agg #[.int .i64 m.p, .int .i64 m.i, .int .i64 m.q, .int .i64 m.j]] w fun e w' => e = .returned (.bool r) ∧ Below w.heap.size w w' := by
  have HB := Lib.hid (below1 w (.cells #[.int .i64 m.p, .int .i64 m.i, .int .i64 m.q, .int .i64 m.j] 30))
  obtain ⟨k, hk⟩ : ∃ k, idxP m l 0 = k := ⟨_, rfl⟩
  have HC := Lib.hid (index_any m l k hk a c _ hl (hA.below HB.out))
  have HM := Lib.hid (show decide (0 ≤ k) = r by rw [← hr.out, decide_eq_decide, ← hk]; exact idxP_mem m l 0 (by omega))
  clear hA hk hr
  go_enter Try.func22, Try.ntmps22
  go_wp2_with fail
  with_reducible refine HC.out.mono ?_
  rintro e w1 ⟨rfl, hb⟩
  have HB1 := Lib.hid (HB.out.trans (hb.mono HB.out.size))
  clear hb HC HB
  go_wp2_with fail
  go_ret
  exact ⟨ret_bo HM.out, HB1.out⟩

set_option maxHeartbeats 4000000 in
set_option maxRecDepth 1000000 in
theorem is_spec : IsSpec := by
  intro m l a c w hl hA
  obtain ⟨r, hr⟩ : ∃ r, decide (m ∈ l) = r := ⟨_, rfl⟩
  rw [hr]
  have HB := Lib.hid (below1 w (.cells #[.int .i64 m.p, .int .i64 m.i, .int .i64 m.q, .int .i64 m.j] 30))
  have HC := Lib.hid (contains_any m l r hr a c _ hl (hA.below HB.out))
  clear hA hr
  go_enter Try.func12, Try.ntmps12
  go_wp2_with fail
  with_reducible refine HC.out.mono ?_
  rintro e w1 ⟨rfl, hb⟩
  have HB1 := Lib.hid (HB.out.trans (hb.mono HB.out.size))
  clear hb HC HB
  go_wp2_with fail
  go_ret
  exact ⟨rfl, HB1.out⟩

set_option maxHeartbeats 4000000 in
set_option maxRecDepth 1000000 in
theorem rest_any (n k r : Int) (hn : 0 ≤ n) (hk : 0 < k) (hk2 : k ≤ 20000) (hr : n % k = r) (w : World) : Calls Try.prog 27 #[.int .i64 n, .int .i64 k] w fun e w' => e = .returned (.int .i64 r) ∧ w' = w := by
  have h0 : 0 ≤ r := by rw [← hr]; exact Int.emod_nonneg n (by omega)
  have h1 : r < k := by rw [← hr]; exact Int.emod_lt_of_pos n hk
  have ht : n.tmod k = r := by rw [Int.tmod_eq_emod_of_nonneg hn]; exact hr
  have hne : (k == 0) = false := by rw [beq_eq_false_iff_ne]; omega
  have hne2 : ¬ k = 0 := by omega
  have hwr : IntKind.i64.wrap r = r := by rw [IntKind.wrap_i64]; omega
  have hlt : ¬ r < 0 := by omega
  clear hr
  go_enter Try.func27, Try.ntmps27
  go_wp2_with fail
  go_ret
  exact ⟨rfl, rfl⟩

set_option maxHeartbeats 4000000 in
set_option maxRecDepth 1000000 in
theorem pick_spec : PickSpec := by
  intro n l m a c w hn hl hl0 hm hA
  obtain ⟨b1, o1, rfl, hb1, hat1⟩ := hA.2.2.2 hl0
  obtain ⟨k, hk⟩ : ∃ k : Nat, n % (l.length : Int) = k := ⟨(n % (l.length : Int)).toNat, by have := Int.emod_nonneg n (show (l.length : Int) ≠ 0 by omega); omega⟩
  have hklt : k < l.length := by have := Int.emod_lt_of_pos n (show 0 < (l.length : Int) by omega); omega
  rw [hk, Int.toNat_natCast] at hm
  obtain ⟨c0, c1, c2, c3⟩ := MK.four hat1 hm
  have HC := Lib.hid (fun W => rest_any n (l.length : Int) k hn (by omega) (by omega) hk W)
  have hki : (k : Int) < (l.length : Int) := by omega
  have hwr : IntKind.i64.wrap (k : Int) = k := by rw [IntKind.wrap_i64]; omega
  have HB := Lib.hid (below1 w (.cells #[.int .i64 m.p, .int .i64 m.i, .int .i64 m.q, .int .i64 m.j] 30))
  have HL := Lib.hid (laid1 w (.cells #[.int .i64 m.p, .int .i64 m.i, .int .i64 m.q, .int .i64 m.j] 30))
  clear hat1 hm hA hk
  go_enter Try.func17, Try.ntmps17
  go_wp2_with fail
  with_reducible refine (HC.out _).mono ?_
  rintro e w1 ⟨rfl, rfl⟩
  go_wp2_with fail
  refine bodyPost_ret (res_cell_tmp rfl _ _ _ w.heap.size rfl _ (load4 HL.out)) rfl ?_
  exact ⟨rfl, HB.out⟩
end Go.Proofs.Ytjiepdgflfhkcaa
