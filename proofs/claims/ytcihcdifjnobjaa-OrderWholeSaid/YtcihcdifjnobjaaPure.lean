/- Addresses as plain data, their rows; '=='; rows of numbers, of bools. -/
import Derived.Test.YtcihcdifjnobjaaProg
import Derived.Test.YtcihcdifjnobjaaKit
import Derived.ShutString
import Derived.Laws.StructEq
import Derived.ChangeKeysEq
set_option linter.unusedSimpArgs false
set_option linter.unusedVariables false
namespace Go.Proofs.Ytcihcdifjnobjaa
open Go.RowKit Go.Proofs.Ytcihcdifjnobjaa.Kind

/-- An address. -/
structure Ad where
  f : Int
  g0 : Int
  g1 : Int
  g2 : Int
  g3 : Int
  g4 : Int
  g5 : Int
  g6 : Int
  g7 : Int
  p : Int
  deriving DecidableEq, Inhabited
def Ad.enc (a : Ad) : List Value := [.int .i8 a.f, .int .u16 a.g0, .int .u16 a.g1, .int .u16 a.g2, .int .u16 a.g3, .int .u16 a.g4, .int .u16 a.g5, .int .u16 a.g6, .int .u16 a.g7, .int .i64 a.p]
def AK : Kind Try.prog Ad where
  enc := Ad.enc
  k := 10
  T := 27
  S := 22
  z := .agg #[.int .i8 0, .int .u16 0, .int .u16 0, .int .u16 0, .int .u16 0, .int .u16 0, .int .u16 0, .int .u16 0, .int .u16 0, .int .i64 0]
  bytes := 32
  hk := fun _ => rfl
  h1 := by
    intro x v hv
    simp only [Ad.enc, List.mem_cons, List.not_mem_nil, or_false] at hv
    rcases hv with rfl | rfl | rfl | rfl | rfl | rfl | rfl | rfl | rfl | rfl <;> rfl
  hu := Try.underlying22
  hi := by kernel_rfl
  hz := rfl
  hk0 := by decide
  hb := by decide
theorem AK.ten {w : World} {b o : Nat} {l : List Ad} (h : AK.At w b o l) {j : Nat} {x : Ad} (hx : l[j]? = some x) :
    (w.cell? ⟨b, o + j * 10, none⟩ = some (.int .i8 x.f) ∧ w.cell? ⟨b, o + j * 10 + 1, none⟩ = some (.int .u16 x.g0) ∧ w.cell? ⟨b, o + j * 10 + 2, none⟩ = some (.int .u16 x.g1) ∧ w.cell? ⟨b, o + j * 10 + 3, none⟩ = some (.int .u16 x.g2) ∧ w.cell? ⟨b, o + j * 10 + 4, none⟩ = some (.int .u16 x.g3)) ∧
    (w.cell? ⟨b, o + j * 10 + 5, none⟩ = some (.int .u16 x.g4) ∧ w.cell? ⟨b, o + j * 10 + 6, none⟩ = some (.int .u16 x.g5) ∧ w.cell? ⟨b, o + j * 10 + 7, none⟩ = some (.int .u16 x.g6) ∧ w.cell? ⟨b, o + j * 10 + 8, none⟩ = some (.int .u16 x.g7) ∧ w.cell? ⟨b, o + j * 10 + 9, none⟩ = some (.int .i64 x.p)) :=
  ⟨⟨h j x hx 0 _ rfl, h j x hx 1 _ rfl, h j x hx 2 _ rfl, h j x hx 3 _ rfl, h j x hx 4 _ rfl⟩, h j x hx 5 _ rfl, h j x hx 6 _ rfl, h j x hx 7 _ rfl, h j x hx 8 _ rfl, h j x hx 9 _ rfl⟩
theorem eqItems_u16 (d : Nat) (w : World) (xs ys : Array Value) : ∀ (is : List Nat) (ks bs : List Int), is.length = ks.length → is.length = bs.length →
    (∀ (j i : Nat) (a : Int), is[j]? = some i → ks[j]? = some a → xs[i]? = some (Value.int .u16 a)) → (∀ (j i : Nat) (b : Int), is[j]? = some i → bs[j]? = some b → ys[i]? = some (Value.int .u16 b)) →
    (Op.eqItems (d + 1) 24 1 xs ys is).run Try.prog w = .ok (ks == bs) w
  | [], [], [], _, _, _, _ => by simp [Op.eqItems]
  | [], _ :: _, _, h, _, _, _ => by simp at h
  | [], _, _ :: _, _, h, _, _ => by simp at h
  | _ :: _, [], _, h, _, _, _ => by simp at h
  | _ :: _, _, [], _, h, _, _ => by simp at h
  | i :: is, a :: ks, b :: bs, h1, h2, h3, h4 => by
    have ha := h3 0 i a rfl rfl
    have hb := h4 0 i b rfl rfl
    have hk : Try.prog.plainKey 24 = true := by kernel_rfl
    simp only [Op.eqItems, Sem.run_bind, Nat.mul_one, run_part_plain w hk ha, run_part_plain w hk hb, Result.andThen_ok, run_equalIn_int w d _ _ _ a b Try.underlying24]
    by_cases hab : a = b
    · subst hab
      have ih := eqItems_u16 d w xs ys is ks bs (by simpa using h1) (by simpa using h2) (fun j i a hi ha => h3 (j + 1) i a (by simpa using hi) (by simpa using ha)) (fun j i b hi hb => h4 (j + 1) i b (by simpa using hi) (by simpa using hb))
      simpa using ih
    · simp [hab]
theorem at8 (g0 g1 g2 g3 g4 g5 g6 g7 : Int) (j i : Nat) (a : Int) (hi : (List.range 8)[j]? = some i) (ha : [g0, g1, g2, g3, g4, g5, g6, g7][j]? = some a) :
    (#[Value.int .u16 g0, .int .u16 g1, .int .u16 g2, .int .u16 g3, .int .u16 g4, .int .u16 g5, .int .u16 g6, .int .u16 g7] : Array Value)[i]? = some (.int .u16 a) := by
  have hij : i = j ∧ j < 8 := by
    have := List.getElem?_eq_some_iff.1 hi
    obtain ⟨h, e⟩ := this
    simp at h e
    omega
  obtain ⟨rfl, hlt⟩ := hij
  match i, hlt with
  | 0, _ | 1, _ | 2, _ | 3, _ | 4, _ | 5, _ | 6, _ | 7, _ => simp at ha ⊢; exact ha
theorem equalIn_groups (d : Nat) (w : World) (g0 g1 g2 g3 g4 g5 g6 g7 k0 k1 k2 k3 k4 k5 k6 k7 : Int) :
    (Op.equalIn (d + 2) 25 (.agg #[.int .u16 g0, .int .u16 g1, .int .u16 g2, .int .u16 g3, .int .u16 g4, .int .u16 g5, .int .u16 g6, .int .u16 g7]) (.agg #[.int .u16 k0, .int .u16 k1, .int .u16 k2, .int .u16 k3, .int .u16 k4, .int .u16 k5, .int .u16 k6, .int .u16 k7])).run Try.prog w = .ok ([g0, g1, g2, g3, g4, g5, g6, g7] == [k0, k1, k2, k3, k4, k5, k6, k7]) w := by
  obtain ⟨i, hi⟩ : ∃ i, Try.prog.info? 24 = some i := info_of_underlying Try.underlying24
  rw [run_equalIn_array w (d + 1) _ _ Try.underlying25 hi, show Try.prog.cellsOf 24 = 1 from by kernel_rfl]
  exact eqItems_u16 d w _ _ (List.range 8) _ _ rfl rfl (at8 _ _ _ _ _ _ _ _) (at8 _ _ _ _ _ _ _ _)

def Ad.v (a : Ad) : Value := .agg #[.int .i8 a.f, .int .u16 a.g0, .int .u16 a.g1, .int .u16 a.g2, .int .u16 a.g3, .int .u16 a.g4, .int .u16 a.g5, .int .u16 a.g6, .int .u16 a.g7, .int .i64 a.p]
theorem equalIn_addr (d : Nat) (w : World) (a b : Ad) : (Op.equalIn (d + 3) 27 a.v b.v).run Try.prog w = .ok (a == b) w := by
  have hS : Try.prog.underlying 27 = some (.struct (Try.prog.fieldsOf 27)) := by kernel_rfl
  have hp : Try.prog.stoodInHeld 27 = false := by kernel_rfl
  have u1 := Try.underlying23
  have u2 := Try.underlying3
  have a1 := Try.isAgg23
  have a2 := Try.isAgg3
  have a3 := Try.isAgg25
  have z1 := Try.sizeOf23
  have z2 := Try.sizeOf3
  have z3 := Try.sizeOf25
  have he := fun d w => equalIn_groups d w a.g0 a.g1 a.g2 a.g3 a.g4 a.g5 a.g6 a.g7 b.g0 b.g1 b.g2 b.g3 b.g4 b.g5 b.g6 b.g7
  obtain ⟨f, g0, g1, g2, g3, g4, g5, g6, g7, p⟩ := a
  obtain ⟨f', k0, k1, k2, k3, k4, k5, k6, k7, p'⟩ := b
  simp only [Ad.v] at *
  rw [show d + 3 = d + 2 + 1 from rfl, run_equalIn_agg w _ _ _ _ hS hp]
  simp only [Program.fieldsOf, Try.underlying27]
  have he' := he d
  have e : ((⟨f, g0, g1, g2, g3, g4, g5, g6, g7, p⟩ : Ad) == ⟨f', k0, k1, k2, k3, k4, k5, k6, k7, p'⟩) = (f == f' && ([g0, g1, g2, g3, g4, g5, g6, g7] == [k0, k1, k2, k3, k4, k5, k6, k7] && p == p')) := by
    rw [Bool.eq_iff_iff]
    simp only [beq_iff_eq, Ad.mk.injEq, Bool.and_eq_true, List.cons.injEq, and_true, and_assoc]
  rw [e]
  generalize ([g0, g1, g2, g3, g4, g5, g6, g7] == [k0, k1, k2, k3, k4, k5, k6, k7]) = B at he'
  go_simp
  by_cases h1 : f = f' <;> by_cases h2 : p = p' <;> cases B <;> simp_all
theorem boxes10 {w : World} {g : Nat} {x0 x1 x2 x3 x4 x5 x6 x7 x8 x9 : Value} {t : TypeId} (h : w.heap[g]? = some (.cells #[x0, x1, x2, x3, x4, x5, x6, x7, x8, x9] t (0, 0))) :
    (w.cell? ⟨g, 0, none⟩ = some x0 ∧ w.cell? ⟨g, 1, none⟩ = some x1 ∧ w.cell? ⟨g, 2, none⟩ = some x2 ∧ w.cell? ⟨g, 3, none⟩ = some x3 ∧ w.cell? ⟨g, 4, none⟩ = some x4 ∧ w.cell? ⟨g, 5, none⟩ = some x5 ∧ w.cell? ⟨g, 6, none⟩ = some x6 ∧ w.cell? ⟨g, 7, none⟩ = some x7 ∧ w.cell? ⟨g, 8, none⟩ = some x8 ∧ w.cell? ⟨g, 9, none⟩ = some x9) ∧ (w.frozen? ⟨g, 0, none⟩ = false ∧ w.frozen? ⟨g, 1, none⟩ = false ∧ w.frozen? ⟨g, 2, none⟩ = false ∧ w.frozen? ⟨g, 3, none⟩ = false ∧ w.frozen? ⟨g, 4, none⟩ = false ∧ w.frozen? ⟨g, 5, none⟩ = false ∧ w.frozen? ⟨g, 6, none⟩ = false ∧ w.frozen? ⟨g, 7, none⟩ = false ∧ w.frozen? ⟨g, 8, none⟩ = false ∧ w.frozen? ⟨g, 9, none⟩ = false) := by
  simp [World.cell?, World.frozen?, h]
theorem guard_ad (op : BinOp) (x y : Operand) (xs ys : Array Value) (w : World) : (eqGuard op 27 x y (.agg xs) (.agg ys)).run Try.prog w = .ok () w := run_eqGuard_agg w op _ x y xs ys (by kernel_rfl)
theorem eql_ad (x y : Ad) (W : World) : (binOp .eql 27 (.agg #[.int .i8 x.f, .int .u16 x.g0, .int .u16 x.g1, .int .u16 x.g2, .int .u16 x.g3, .int .u16 x.g4, .int .u16 x.g5, .int .u16 x.g6, .int .u16 x.g7, .int .i64 x.p]) (.agg #[.int .i8 y.f, .int .u16 y.g0, .int .u16 y.g1, .int .u16 y.g2, .int .u16 y.g3, .int .u16 y.g4, .int .u16 y.g5, .int .u16 y.g6, .int .u16 y.g7, .int .i64 y.p])).run Try.prog W = .ok (.bool (decide (x = y))) W := by
  have h : (Op.equalIn 10000 27 (.agg #[.int .i8 x.f, .int .u16 x.g0, .int .u16 x.g1, .int .u16 x.g2, .int .u16 x.g3, .int .u16 x.g4, .int .u16 x.g5, .int .u16 x.g6, .int .u16 x.g7, .int .i64 x.p]) (.agg #[.int .i8 y.f, .int .u16 y.g0, .int .u16 y.g1, .int .u16 y.g2, .int .u16 y.g3, .int .u16 y.g4, .int .u16 y.g5, .int .u16 y.g6, .int .u16 y.g7, .int .i64 y.p])).run Try.prog W = .ok (x == y) W := equalIn_addr 9997 W x y
  rw [run_eql_struct, h]
  by_cases e : x = y <;> simp [e]
theorem neq_ad (x y : Ad) (W : World) : (binOp .neq 27 (.agg #[.int .i8 x.f, .int .u16 x.g0, .int .u16 x.g1, .int .u16 x.g2, .int .u16 x.g3, .int .u16 x.g4, .int .u16 x.g5, .int .u16 x.g6, .int .u16 x.g7, .int .i64 x.p]) (.agg #[.int .i8 y.f, .int .u16 y.g0, .int .u16 y.g1, .int .u16 y.g2, .int .u16 y.g3, .int .u16 y.g4, .int .u16 y.g5, .int .u16 y.g6, .int .u16 y.g7, .int .i64 y.p])).run Try.prog W = .ok (.bool (decide (x ≠ y))) W := by
  have h : (Op.equalIn 10000 27 (.agg #[.int .i8 x.f, .int .u16 x.g0, .int .u16 x.g1, .int .u16 x.g2, .int .u16 x.g3, .int .u16 x.g4, .int .u16 x.g5, .int .u16 x.g6, .int .u16 x.g7, .int .i64 x.p]) (.agg #[.int .i8 y.f, .int .u16 y.g0, .int .u16 y.g1, .int .u16 y.g2, .int .u16 y.g3, .int .u16 y.g4, .int .u16 y.g5, .int .u16 y.g6, .int .u16 y.g7, .int .i64 y.p])).run Try.prog W = .ok (x == y) W := equalIn_addr 9997 W x y
  rw [run_neq_struct, h]
  by_cases e : x = y <;> simp [e]
def JK : Kind Try.prog Int where
  enc := fun n => [.int .i8 n]
  k := 1
  T := 23
  S := 50
  z := .int .i8 0
  bytes := 1
  hk := fun _ => rfl
  h1 := by
    intro x v hv
    simp only [List.mem_cons, List.not_mem_nil, or_false] at hv
    rcases hv with rfl
    rfl
  hu := Try.underlying50
  hi := by kernel_rfl
  hz := rfl
  hk0 := by decide
  hb := by decide
def BK : Kind Try.prog Bool where
  enc := fun n => [.bool n]
  k := 1
  T := 4
  S := 52
  z := .bool false
  bytes := 1
  hk := fun _ => rfl
  h1 := by
    intro x v hv
    simp only [List.mem_cons, List.not_mem_nil, or_false] at hv
    rcases hv with rfl
    rfl
  hu := Try.underlying52
  hi := by kernel_rfl
  hz := rfl
  hk0 := by decide
  hb := by decide
end Go.Proofs.Ytcihcdifjnobjaa
