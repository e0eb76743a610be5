/- '==' of groups and of addresses. -/
import Derived.Test.YtbejnnkdgcelmaaGreatDoorAd
import Derived.Laws.StructEq
import Derived.ChangeKeysEq
set_option linter.unusedSimpArgs false
set_option linter.unusedVariables false
namespace Go.Proofs.YtbejnnkdgcelmaaGreatDoor
open Go.RowKit

theorem eqItems_u16 (d : Nat) (w : World) (xs ys : Array Value) : ∀ (is : List Nat) (ks bs : List Int), is.length = ks.length → is.length = bs.length →
    (∀ (j i : Nat) (a : Int), is[j]? = some i → ks[j]? = some a → xs[i]? = some (Value.int .u16 a)) → (∀ (j i : Nat) (b : Int), is[j]? = some i → bs[j]? = some b → ys[i]? = some (Value.int .u16 b)) →
    (Op.eqItems (d + 1) 23 1 xs ys is).run Tryz.prog w = .ok (ks == bs) w
  | [], [], [], _, _, _, _ => by simp [Op.eqItems]
  | [], _ :: _, _, h, _, _, _ => by simp at h
  | [], _, _ :: _, _, h, _, _ => by simp at h
  | _ :: _, [], _, h, _, _, _ => by simp at h
  | _ :: _, _, [], _, h, _, _ => by simp at h
  | i :: is, a :: ks, b :: bs, h1, h2, h3, h4 => by
    have ha := h3 0 i a rfl rfl
    have hb := h4 0 i b rfl rfl
    have hk : Tryz.prog.plainKey 23 = true := by kernel_rfl
    simp only [Op.eqItems, Sem.run_bind, Nat.mul_one, run_part_plain w hk ha, run_part_plain w hk hb, Result.andThen_ok, run_equalIn_int w d _ _ _ a b Tryz.underlying23]
    by_cases hab : a = b
    · subst hab
      have ih := eqItems_u16 d w xs ys is ks bs (by simpa using h1) (by simpa using h2) (fun j i a hi ha => h3 (j + 1) i a (by simpa using hi) (by simpa using ha)) (fun j i b hi hb => h4 (j + 1) i b (by simpa using hi) (by simpa using hb))
      simpa using ih
    · simp [hab]

theorem at8 (g0 g1 g2 g3 g4 g5 g6 g7 : Int) (j i : Nat) (a : Int) (hi : (List.range 8)[j]? = some i) (ha : [g0, g1, g2, g3, g4, g5, g6, g7][j]? = some a) :
    (#[Value.int .u16 g0, .int .u16 g1, .int .u16 g2, .int .u16 g3, .int .u16 g4, .int .u16 g5, .int .u16 g6, .int .u16 g7] : Array Value)[i]? = some (.int .u16 a) := by
  have hij : i = j ∧ j < 8 := by
    have := List.getElem?_eq_some_iff.1 hi
    obtain ⟨h, e⟩ := this
    simp at h e
    omega
  obtain ⟨rfl, hlt⟩ := hij
  match i, hlt with
  | 0, _ | 1, _ | 2, _ | 3, _ | 4, _ | 5, _ | 6, _ | 7, _ => simp at ha ⊢; exact ha

theorem equalIn_groups (d : Nat) (w : World) (g0 g1 g2 g3 g4 g5 g6 g7 k0 k1 k2 k3 k4 k5 k6 k7 : Int) :
    (Op.equalIn (d + 2) 24 (.agg #[.int .u16 g0, .int .u16 g1, .int .u16 g2, .int .u16 g3, .int .u16 g4, .int .u16 g5, .int .u16 g6, .int .u16 g7]) (.agg #[.int .u16 k0, .int .u16 k1, .int .u16 k2, .int .u16 k3, .int .u16 k4, .int .u16 k5, .int .u16 k6, .int .u16 k7])).run Tryz.prog w = .ok ([g0, g1, g2, g3, g4, g5, g6, g7] == [k0, k1, k2, k3, k4, k5, k6, k7]) w := by
  obtain ⟨i, hi⟩ : ∃ i, Tryz.prog.info? 23 = some i := info_of_underlying Tryz.underlying23
  rw [run_equalIn_array w (d + 1) _ _ Tryz.underlying24 hi, show Tryz.prog.cellsOf 23 = 1 from by kernel_rfl]
  exact eqItems_u16 d w _ _ (List.range 8) _ _ rfl rfl (at8 _ _ _ _ _ _ _ _) (at8 _ _ _ _ _ _ _ _)

theorem eql_groups (w : World) (g0 g1 g2 g3 g4 g5 g6 g7 k0 k1 k2 k3 k4 k5 k6 k7 : Int) :
    (binOp .eql 24 (.agg #[.int .u16 g0, .int .u16 g1, .int .u16 g2, .int .u16 g3, .int .u16 g4, .int .u16 g5, .int .u16 g6, .int .u16 g7]) (.agg #[.int .u16 k0, .int .u16 k1, .int .u16 k2, .int .u16 k3, .int .u16 k4, .int .u16 k5, .int .u16 k6, .int .u16 k7])).run Tryz.prog w = .ok (.bool ([g0, g1, g2, g3, g4, g5, g6, g7] == [k0, k1, k2, k3, k4, k5, k6, k7])) w := by
  rw [run_eql_struct, show (10000 : Nat) = 9998 + 2 from rfl, equalIn_groups]
  rfl
theorem guard_groups (op : BinOp) (x y : Operand) (xs ys : Array Value) (w : World) : (eqGuard op 24 x y (.agg xs) (.agg ys)).run Tryz.prog w = .ok () w := run_eqGuard_agg w op _ x y xs ys (by kernel_rfl)
theorem guard_addr (op : BinOp) (x y : Operand) (xs ys : Array Value) (w : World) : (eqGuard op 26 x y (.agg xs) (.agg ys)).run Tryz.prog w = .ok () w := run_eqGuard_agg w op _ x y xs ys (by kernel_rfl)

theorem equalIn_addr (w : World) (a b : Ad) : (Op.equalIn 10000 26 a.v b.v).run Tryz.prog w = .ok (a == b) w := by
  have hS : Tryz.prog.underlying 26 = some (.struct (Tryz.prog.fieldsOf 26)) := by kernel_rfl
  have hp : Tryz.prog.stoodInHeld 26 = false := by kernel_rfl
  have u1 := Tryz.underlying22
  have u2 := Tryz.underlying3
  have a1 := Tryz.isAgg22
  have a2 := Tryz.isAgg3
  have a3 := Tryz.isAgg24
  have z1 := Tryz.sizeOf22
  have z2 := Tryz.sizeOf3
  have z3 := Tryz.sizeOf24
  have he := fun d w => equalIn_groups d w a.g0 a.g1 a.g2 a.g3 a.g4 a.g5 a.g6 a.g7 b.g0 b.g1 b.g2 b.g3 b.g4 b.g5 b.g6 b.g7
  obtain ⟨f, g0, g1, g2, g3, g4, g5, g6, g7, p⟩ := a
  obtain ⟨f', k0, k1, k2, k3, k4, k5, k6, k7, p'⟩ := b
  simp only [Ad.v, Ad.enc] at *
  rw [show (10000 : Nat) = 9997 + 2 + 1 from rfl, run_equalIn_agg w _ _ _ _ hS hp]
  simp only [Program.fieldsOf, Tryz.underlying26]
  have he' := he 9997
  have e : ((⟨f, g0, g1, g2, g3, g4, g5, g6, g7, p⟩ : Ad) == ⟨f', k0, k1, k2, k3, k4, k5, k6, k7, p'⟩) = (f == f' && ([g0, g1, g2, g3, g4, g5, g6, g7] == [k0, k1, k2, k3, k4, k5, k6, k7] && p == p')) := by
    rw [Bool.eq_iff_iff]
    simp only [beq_iff_eq, Ad.mk.injEq, Bool.and_eq_true, List.cons.injEq, and_true, and_assoc]
  rw [e]
  generalize ([g0, g1, g2, g3, g4, g5, g6, g7] == [k0, k1, k2, k3, k4, k5, k6, k7]) = B at he'
  go_simp
  by_cases h1 : f = f' <;> by_cases h2 : p = p' <;> cases B <;> simp_all
end Go.Proofs.YtbejnnkdgcelmaaGreatDoor
