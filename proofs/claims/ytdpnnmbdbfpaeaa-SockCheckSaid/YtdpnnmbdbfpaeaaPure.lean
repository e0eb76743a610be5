/- Sockets and marks as plain data; how they lie in cells; '==' of them. -/
import Derived.Test.YtdpnnmbdbfpaeaaProg
import Derived.Test.YtdpnnmbdbfpaeaaKit
import Derived.ShutString
import Derived.Laws.StructEq
import Derived.ChangeKeysEq
set_option linter.unusedSimpArgs false
set_option linter.unusedVariables false
namespace Go.Proofs.Ytdpnnmbdbfpaeaa
open Go.RowKit

/-- An address. -/
structure Ad where
  f : Int
  g0 : Int
  g1 : Int
  g2 : Int
  g3 : Int
  g4 : Int
  g5 : Int
  g6 : Int
  g7 : Int
  p : Int
  deriving DecidableEq, Inhabited
def Ad.zero : Ad := ⟨0, 0, 0, 0, 0, 0, 0, 0, 0, 0⟩
/-- A socket. -/
structure Sk where
  ad : Ad
  by_ : Int
  opened : Int
  shut : Int
  dead : Bool
  deriving DecidableEq, Inhabited
def Sk.enc (s : Sk) : List Value := [.int .i8 s.ad.f, .int .u16 s.ad.g0, .int .u16 s.ad.g1, .int .u16 s.ad.g2, .int .u16 s.ad.g3, .int .u16 s.ad.g4, .int .u16 s.ad.g5, .int .u16 s.ad.g6, .int .u16 s.ad.g7, .int .i64 s.ad.p, .int .i64 s.by_, .int .i64 s.opened, .int .i64 s.shut, .bool s.dead]
def Sk.v (s : Sk) : Value := .agg #[.int .i8 s.ad.f, .int .u16 s.ad.g0, .int .u16 s.ad.g1, .int .u16 s.ad.g2, .int .u16 s.ad.g3, .int .u16 s.ad.g4, .int .u16 s.ad.g5, .int .u16 s.ad.g6, .int .u16 s.ad.g7, .int .i64 s.ad.p, .int .i64 s.by_, .int .i64 s.opened, .int .i64 s.shut, .bool s.dead]
/-- A mark of the record. -/
structure Nk where
  shut : Bool
  sock : Int
  at_ : Int
  deriving DecidableEq, Inhabited
def Nk.enc (m : Nk) : List Value := [.bool m.shut, .int .i64 m.sock, .int .i64 m.at_]
def Nk.v (m : Nk) : Value := .agg #[.bool m.shut, .int .i64 m.sock, .int .i64 m.at_]
/-- One of a script. -/
structure Ac where
  n : Int
  later : Int
  drop : Bool
  deriving DecidableEq, Inhabited

def SK : Kind Try.prog Sk where
  enc := Sk.enc
  k := 14
  T := 48
  S := 24
  z := .agg #[.int .i8 0, .int .u16 0, .int .u16 0, .int .u16 0, .int .u16 0, .int .u16 0, .int .u16 0, .int .u16 0, .int .u16 0, .int .i64 0, .int .i64 0, .int .i64 0, .int .i64 0, .bool false]
  bytes := 64
  hk := fun _ => rfl
  h1 := by
    intro x v hv
    simp only [Sk.enc, List.mem_cons, List.not_mem_nil, or_false] at hv
    rcases hv with rfl | rfl | rfl | rfl | rfl | rfl | rfl | rfl | rfl | rfl | rfl | rfl | rfl | rfl <;> rfl
  hu := Try.underlying24
  hi := by kernel_rfl
  hz := rfl
  hk0 := by decide
  hb := by decide
def NK : Kind Try.prog Nk where
  enc := Nk.enc
  k := 3
  T := 51
  S := 25
  z := .agg #[.bool false, .int .i64 0, .int .i64 0]
  bytes := 24
  hk := fun _ => rfl
  h1 := by
    intro x v hv
    simp only [Nk.enc, List.mem_cons, List.not_mem_nil, or_false] at hv
    rcases hv with rfl | rfl | rfl <;> rfl
  hu := Try.underlying25
  hi := by kernel_rfl
  hz := rfl
  hk0 := by decide
  hb := by decide
def CK : Kind Try.prog Ac where
  enc := fun m => [.int .i64 m.n, .int .i64 m.later, .bool m.drop]
  k := 3
  T := 28
  S := 22
  z := .agg #[.int .i64 0, .int .i64 0, .bool false]
  bytes := 24
  hk := fun _ => rfl
  h1 := by
    intro x v hv
    simp only [List.mem_cons, List.not_mem_nil, or_false] at hv
    rcases hv with rfl | rfl | rfl <;> rfl
  hu := Try.underlying22
  hi := by kernel_rfl
  hz := rfl
  hk0 := by decide
  hb := by decide
def IK : Kind Try.prog Int where
  enc := fun n => [.int .i64 n]
  k := 1
  T := 3
  S := 42
  z := .int .i64 0
  bytes := 8
  hk := fun _ => rfl
  h1 := by
    intro x v hv
    simp only [List.mem_cons, List.not_mem_nil, or_false] at hv
    rcases hv with rfl
    rfl
  hu := Try.underlying42
  hi := by kernel_rfl
  hz := rfl
  hk0 := by decide
  hb := by decide
theorem IK.one {w : World} {b o : Nat} {l : List Int} (h : IK.At w b o l) {j : Nat} {x : Int} (hx : l[j]? = some x) : w.cell? ⟨b, o + j, none⟩ = some (.int .i64 x) := by
  have h1 := h j x hx 0 _ rfl
  have e : o + j * IK.k + 0 = o + j := by show o + j * 1 + 0 = o + j; omega
  rwa [e] at h1
theorem SK.fourteen {w : World} {b o : Nat} {l : List Sk} (h : SK.At w b o l) {j : Nat} {x : Sk} (hx : l[j]? = some x) :
    (w.cell? ⟨b, o + j * 14, none⟩ = some (.int .i8 x.ad.f) ∧ w.cell? ⟨b, o + j * 14 + 1, none⟩ = some (.int .u16 x.ad.g0) ∧ w.cell? ⟨b, o + j * 14 + 2, none⟩ = some (.int .u16 x.ad.g1) ∧ w.cell? ⟨b, o + j * 14 + 3, none⟩ = some (.int .u16 x.ad.g2) ∧ w.cell? ⟨b, o + j * 14 + 4, none⟩ = some (.int .u16 x.ad.g3) ∧
    w.cell? ⟨b, o + j * 14 + 5, none⟩ = some (.int .u16 x.ad.g4) ∧ w.cell? ⟨b, o + j * 14 + 6, none⟩ = some (.int .u16 x.ad.g5)) ∧ (w.cell? ⟨b, o + j * 14 + 7, none⟩ = some (.int .u16 x.ad.g6) ∧ w.cell? ⟨b, o + j * 14 + 8, none⟩ = some (.int .u16 x.ad.g7) ∧ w.cell? ⟨b, o + j * 14 + 9, none⟩ = some (.int .i64 x.ad.p) ∧
    w.cell? ⟨b, o + j * 14 + 10, none⟩ = some (.int .i64 x.by_) ∧ w.cell? ⟨b, o + j * 14 + 11, none⟩ = some (.int .i64 x.opened) ∧ w.cell? ⟨b, o + j * 14 + 12, none⟩ = some (.int .i64 x.shut) ∧ w.cell? ⟨b, o + j * 14 + 13, none⟩ = some (.bool x.dead)) :=
  ⟨⟨h j x hx 0 _ rfl, h j x hx 1 _ rfl, h j x hx 2 _ rfl, h j x hx 3 _ rfl, h j x hx 4 _ rfl, h j x hx 5 _ rfl, h j x hx 6 _ rfl⟩, h j x hx 7 _ rfl, h j x hx 8 _ rfl, h j x hx 9 _ rfl, h j x hx 10 _ rfl, h j x hx 11 _ rfl, h j x hx 12 _ rfl, h j x hx 13 _ rfl⟩
theorem NK.three {w : World} {b o : Nat} {l : List Nk} (h : NK.At w b o l) {j : Nat} {x : Nk} (hx : l[j]? = some x) :
    w.cell? ⟨b, o + j * 3, none⟩ = some (.bool x.shut) ∧ w.cell? ⟨b, o + j * 3 + 1, none⟩ = some (.int .i64 x.sock) ∧ w.cell? ⟨b, o + j * 3 + 2, none⟩ = some (.int .i64 x.at_) :=
  ⟨h j x hx 0 _ rfl, h j x hx 1 _ rfl, h j x hx 2 _ rfl⟩
theorem CK.three {w : World} {b o : Nat} {l : List Ac} (h : CK.At w b o l) {j : Nat} {x : Ac} (hx : l[j]? = some x) :
    w.cell? ⟨b, o + j * 3, none⟩ = some (.int .i64 x.n) ∧ w.cell? ⟨b, o + j * 3 + 1, none⟩ = some (.int .i64 x.later) ∧ w.cell? ⟨b, o + j * 3 + 2, none⟩ = some (.bool x.drop) :=
  ⟨h j x hx 0 _ rfl, h j x hx 1 _ rfl, h j x hx 2 _ rfl⟩

theorem guard_sock (op : BinOp) (x y : Operand) (xs ys : Array Value) (w : World) : (eqGuard op 48 x y (.agg xs) (.agg ys)).run Try.prog w = .ok () w := run_eqGuard_agg w op _ x y xs ys (by kernel_rfl)
theorem guard_mark (op : BinOp) (x y : Operand) (xs ys : Array Value) (w : World) : (eqGuard op 51 x y (.agg xs) (.agg ys)).run Try.prog w = .ok () w := run_eqGuard_agg w op _ x y xs ys (by kernel_rfl)

theorem eqItems_u16 (d : Nat) (w : World) (xs ys : Array Value) : ∀ (is : List Nat) (ks bs : List Int), is.length = ks.length → is.length = bs.length →
    (∀ (j i : Nat) (a : Int), is[j]? = some i → ks[j]? = some a → xs[i]? = some (Value.int .u16 a)) → (∀ (j i : Nat) (b : Int), is[j]? = some i → bs[j]? = some b → ys[i]? = some (Value.int .u16 b)) →
    (Op.eqItems (d + 1) 32 1 xs ys is).run Try.prog w = .ok (ks == bs) w
  | [], [], [], _, _, _, _ => by simp [Op.eqItems]
  | [], _ :: _, _, h, _, _, _ => by simp at h
  | [], _, _ :: _, _, h, _, _ => by simp at h
  | _ :: _, [], _, h, _, _, _ => by simp at h
  | _ :: _, _, [], _, h, _, _ => by simp at h
  | i :: is, a :: ks, b :: bs, h1, h2, h3, h4 => by
    have ha := h3 0 i a rfl rfl
    have hb := h4 0 i b rfl rfl
    have hk : Try.prog.plainKey 32 = true := by kernel_rfl
    simp only [Op.eqItems, Sem.run_bind, Nat.mul_one, run_part_plain w hk ha, run_part_plain w hk hb, Result.andThen_ok, run_equalIn_int w d _ _ _ a b Try.underlying32]
    by_cases hab : a = b
    · subst hab
      have ih := eqItems_u16 d w xs ys is ks bs (by simpa using h1) (by simpa using h2) (fun j i a hi ha => h3 (j + 1) i a (by simpa using hi) (by simpa using ha)) (fun j i b hi hb => h4 (j + 1) i b (by simpa using hi) (by simpa using hb))
      simpa using ih
    · simp [hab]
theorem at8 (g0 g1 g2 g3 g4 g5 g6 g7 : Int) (j i : Nat) (a : Int) (hi : (List.range 8)[j]? = some i) (ha : [g0, g1, g2, g3, g4, g5, g6, g7][j]? = some a) :
    (#[Value.int .u16 g0, .int .u16 g1, .int .u16 g2, .int .u16 g3, .int .u16 g4, .int .u16 g5, .int .u16 g6, .int .u16 g7] : Array Value)[i]? = some (.int .u16 a) := by
  have hij : i = j ∧ j < 8 := by
    have := List.getElem?_eq_some_iff.1 hi
    obtain ⟨h, e⟩ := this
    simp at h e
    omega
  obtain ⟨rfl, hlt⟩ := hij
  match i, hlt with
  | 0, _ | 1, _ | 2, _ | 3, _ | 4, _ | 5, _ | 6, _ | 7, _ => simp at ha ⊢; exact ha
theorem equalIn_groups (d : Nat) (w : World) (g0 g1 g2 g3 g4 g5 g6 g7 k0 k1 k2 k3 k4 k5 k6 k7 : Int) :
    (Op.equalIn (d + 2) 33 (.agg #[.int .u16 g0, .int .u16 g1, .int .u16 g2, .int .u16 g3, .int .u16 g4, .int .u16 g5, .int .u16 g6, .int .u16 g7]) (.agg #[.int .u16 k0, .int .u16 k1, .int .u16 k2, .int .u16 k3, .int .u16 k4, .int .u16 k5, .int .u16 k6, .int .u16 k7])).run Try.prog w = .ok ([g0, g1, g2, g3, g4, g5, g6, g7] == [k0, k1, k2, k3, k4, k5, k6, k7]) w := by
  obtain ⟨i, hi⟩ : ∃ i, Try.prog.info? 32 = some i := info_of_underlying Try.underlying32
  rw [run_equalIn_array w (d + 1) _ _ Try.underlying33 hi, show Try.prog.cellsOf 32 = 1 from by kernel_rfl]
  exact eqItems_u16 d w _ _ (List.range 8) _ _ rfl rfl (at8 _ _ _ _ _ _ _ _) (at8 _ _ _ _ _ _ _ _)

def Ad.v (a : Ad) : Value := .agg #[.int .i8 a.f, .int .u16 a.g0, .int .u16 a.g1, .int .u16 a.g2, .int .u16 a.g3, .int .u16 a.g4, .int .u16 a.g5, .int .u16 a.g6, .int .u16 a.g7, .int .i64 a.p]
theorem equalIn_addr (d : Nat) (w : World) (a b : Ad) : (Op.equalIn (d + 3) 35 a.v b.v).run Try.prog w = .ok (a == b) w := by
  have hS : Try.prog.underlying 35 = some (.struct (Try.prog.fieldsOf 35)) := by kernel_rfl
  have hp : Try.prog.stoodInHeld 35 = false := by kernel_rfl
  have u1 := Try.underlying31
  have u2 := Try.underlying3
  have a1 := Try.isAgg31
  have a2 := Try.isAgg3
  have a3 := Try.isAgg33
  have z1 := Try.sizeOf31
  have z2 := Try.sizeOf3
  have z3 := Try.sizeOf33
  have he := fun d w => equalIn_groups d w a.g0 a.g1 a.g2 a.g3 a.g4 a.g5 a.g6 a.g7 b.g0 b.g1 b.g2 b.g3 b.g4 b.g5 b.g6 b.g7
  obtain ⟨f, g0, g1, g2, g3, g4, g5, g6, g7, p⟩ := a
  obtain ⟨f', k0, k1, k2, k3, k4, k5, k6, k7, p'⟩ := b
  simp only [Ad.v] at *
  rw [show d + 3 = d + 2 + 1 from rfl, run_equalIn_agg w _ _ _ _ hS hp]
  simp only [Program.fieldsOf, Try.underlying35]
  have he' := he d
  have e : ((⟨f, g0, g1, g2, g3, g4, g5, g6, g7, p⟩ : Ad) == ⟨f', k0, k1, k2, k3, k4, k5, k6, k7, p'⟩) = (f == f' && ([g0, g1, g2, g3, g4, g5, g6, g7] == [k0, k1, k2, k3, k4, k5, k6, k7] && p == p')) := by
    rw [Bool.eq_iff_iff]
    simp only [beq_iff_eq, Ad.mk.injEq, Bool.and_eq_true, List.cons.injEq, and_true, and_assoc]
  rw [e]
  generalize ([g0, g1, g2, g3, g4, g5, g6, g7] == [k0, k1, k2, k3, k4, k5, k6, k7]) = B at he'
  go_simp
  by_cases h1 : f = f' <;> by_cases h2 : p = p' <;> cases B <;> simp_all
set_option maxHeartbeats 1000000 in
theorem equalIn_sock (w : World) (a b : Sk) : (Op.equalIn 10000 48 a.v b.v).run Try.prog w = .ok (a == b) w := by
  have hS : Try.prog.underlying 48 = some (.struct (Try.prog.fieldsOf 48)) := by kernel_rfl
  have hp : Try.prog.stoodInHeld 48 = false := by kernel_rfl
  have u1 := Try.underlying4
  have u2 := Try.underlying3
  have a1 := Try.isAgg4
  have a2 := Try.isAgg3
  have a3 := Try.isAgg35
  have z1 := Try.sizeOf4
  have z2 := Try.sizeOf3
  have z3 := Try.sizeOf35
  have he := fun w => equalIn_addr 9996 w a.ad b.ad
  obtain ⟨⟨f, g0, g1, g2, g3, g4, g5, g6, g7, p⟩, y, o, s, d⟩ := a
  obtain ⟨⟨f', k0, k1, k2, k3, k4, k5, k6, k7, p'⟩, y', o', s', d'⟩ := b
  simp only [Sk.v, Ad.v] at *
  rw [show (10000 : Nat) = 9999 + 1 from rfl, run_equalIn_agg w _ _ _ _ hS hp]
  simp only [Program.fieldsOf, Try.underlying48]
  have e : ((⟨⟨f, g0, g1, g2, g3, g4, g5, g6, g7, p⟩, y, o, s, d⟩ : Sk) == ⟨⟨f', k0, k1, k2, k3, k4, k5, k6, k7, p'⟩, y', o', s', d'⟩) = (((⟨f, g0, g1, g2, g3, g4, g5, g6, g7, p⟩ : Ad) == ⟨f', k0, k1, k2, k3, k4, k5, k6, k7, p'⟩) && (y == y' && (o == o' && (s == s' && d == d')))) := by
    rw [Bool.eq_iff_iff]
    simp only [beq_iff_eq, Sk.mk.injEq, Bool.and_eq_true]
  rw [e]
  generalize ((⟨f, g0, g1, g2, g3, g4, g5, g6, g7, p⟩ : Ad) == ⟨f', k0, k1, k2, k3, k4, k5, k6, k7, p'⟩) = B at he
  go_simp
  clear e
  by_cases h1 : y = y' <;> by_cases h2 : o = o' <;> by_cases h3 : s = s' <;> cases d <;> cases d' <;> cases B <;> simp_all
theorem eql_sock (w : World) (a b : Sk) : (binOp .eql 48 a.v b.v).run Try.prog w = .ok (.bool (a == b)) w := by
  have h := equalIn_sock w a b
  simp only [Sk.v] at h ⊢
  rw [run_eql_struct, h]
  rfl
theorem neq_sock (w : World) (a b : Sk) : (binOp .neq 48 a.v b.v).run Try.prog w = .ok (.bool (a != b)) w := by
  have h := equalIn_sock w a b
  simp only [Sk.v] at h ⊢
  rw [run_neq_struct, h]
  rfl
theorem equalIn_mark (w : World) (a b : Nk) : (Op.equalIn 10000 51 a.v b.v).run Try.prog w = .ok (a == b) w := by
  have hS : Try.prog.underlying 51 = some (.struct (Try.prog.fieldsOf 51)) := by kernel_rfl
  have hp : Try.prog.stoodInHeld 51 = false := by kernel_rfl
  have u1 := Try.underlying4
  have u2 := Try.underlying3
  have a1 := Try.isAgg4
  have a2 := Try.isAgg3
  have z1 := Try.sizeOf4
  have z2 := Try.sizeOf3
  obtain ⟨s, n, t⟩ := a
  obtain ⟨s', n', t'⟩ := b
  simp only [Nk.v] at *
  rw [show (10000 : Nat) = 9999 + 1 from rfl, run_equalIn_agg w _ _ _ _ hS hp]
  simp only [Program.fieldsOf, Try.underlying51]
  have e : ((⟨s, n, t⟩ : Nk) == ⟨s', n', t'⟩) = (s == s' && (n == n' && t == t')) := by
    rw [Bool.eq_iff_iff]
    simp only [beq_iff_eq, Nk.mk.injEq, Bool.and_eq_true]
  rw [e]
  go_simp
  clear e
  by_cases h1 : n = n' <;> by_cases h2 : t = t' <;> cases s <;> cases s' <;> simp_all
theorem neq_mark (w : World) (a b : Nk) : (binOp .neq 51 a.v b.v).run Try.prog w = .ok (.bool (a != b)) w := by
  have h := equalIn_mark w a b
  simp only [Nk.v] at h ⊢
  rw [run_neq_struct, h]
  rfl
def BK : Kind Try.prog Bool where
  enc := fun b => [.bool b]
  k := 1
  T := 4
  S := 26
  z := .bool false
  bytes := 1
  hk := fun _ => rfl
  h1 := by
    intro x v hv
    simp only [List.mem_cons, List.not_mem_nil, or_false] at hv
    rcases hv with rfl
    rfl
  hu := Try.underlying26
  hi := by kernel_rfl
  hz := rfl
  hk0 := by decide
  hb := by decide
theorem BK.one {w : World} {b o : Nat} {l : List Bool} (h : BK.At w b o l) {j : Nat} {x : Bool} (hx : l[j]? = some x) : w.cell? ⟨b, o + j, none⟩ = some (.bool x) := by
  have h1 := h j x hx 0 _ rfl
  have e : o + j * BK.k + 0 = o + j := by show o + j * 1 + 0 = o + j; omega
  rwa [e] at h1
end Go.Proofs.Ytdpnnmbdbfpaeaa
