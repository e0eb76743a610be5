/- Plans, sockets, marks, dials, lookups, worlds as plain data, as headers and rows; '==' of addresses. -/
import Derived.Test.YtciohjgcndgiaaaProg
import Derived.Test.YtciohjgcndgiaaaKit
import Derived.ShutString
import Derived.Laws.StructEq
import Derived.ChangeKeysEq
set_option linter.unusedSimpArgs false
set_option linter.unusedVariables false
namespace Go.Proofs.Ytciohjgcndgiaaa
open Go.RowKit Go.Proofs.Ytciohjgcndgiaaa.Kind

/-- An address. -/
structure Ad where
  f : Int
  g0 : Int
  g1 : Int
  g2 : Int
  g3 : Int
  g4 : Int
  g5 : Int
  g6 : Int
  g7 : Int
  p : Int
  deriving DecidableEq, Inhabited
def Ad.enc (a : Ad) : List Value := [.int .i8 a.f, .int .u16 a.g0, .int .u16 a.g1, .int .u16 a.g2, .int .u16 a.g3, .int .u16 a.g4, .int .u16 a.g5, .int .u16 a.g6, .int .u16 a.g7, .int .i64 a.p]
/-- A slice's header; a zone's; a row of fates'. -/
structure Hv where
  a : Option Addr
  n : Nat
  c : Nat
  deriving Inhabited
structure Zv where
  name : ByteArray
  h : Hv
  deriving Inhabited
structure Fv where
  ad : Ad
  h : Hv
  deriving Inhabited
/-- A zone, a row of fates, a plan, as plain data. -/
structure Zo where
  name : ByteArray
  ans : List (List Ad)
structure Fo where
  ad : Ad
  l : List Int
structure Pl where
  zones : List Zo
  fates : List Fo
  ticks : Int
  drops : List Int
def AK : Kind Try.prog Ad where
  enc := Ad.enc
  k := 10
  T := 43
  S := 71
  z := .agg #[.int .i8 0, .int .u16 0, .int .u16 0, .int .u16 0, .int .u16 0, .int .u16 0, .int .u16 0, .int .u16 0, .int .u16 0, .int .i64 0]
  bytes := 32
  hk := fun _ => rfl
  h1 := by
    intro x v hv
    simp only [Ad.enc, List.mem_cons, List.not_mem_nil, or_false] at hv
    rcases hv with rfl | rfl | rfl | rfl | rfl | rfl | rfl | rfl | rfl | rfl <;> rfl
  hu := Try.underlying71
  hi := by kernel_rfl
  hz := rfl
  hk0 := by decide
  hb := by decide
def HK : Kind Try.prog Hv where
  enc := fun h => [.slice h.a h.n h.c]
  k := 1
  T := 71
  S := 68
  z := .slice none 0 0
  bytes := 24
  hk := fun _ => rfl
  h1 := by
    intro x v hv
    simp only [List.mem_cons, List.not_mem_nil, or_false] at hv
    rcases hv with rfl
    rfl
  hu := Try.underlying68
  hi := by kernel_rfl
  hz := rfl
  hk0 := by decide
  hb := by decide
def ZK : Kind Try.prog Zv where
  enc := fun z => [.string z.name, .slice z.h.a z.h.n z.h.c]
  k := 2
  T := 70
  S := 22
  z := .agg #[.string { data := #[] }, .slice none 0 0]
  bytes := 40
  hk := fun _ => rfl
  h1 := by
    intro x v hv
    simp only [List.mem_cons, List.not_mem_nil, or_false] at hv
    rcases hv with rfl | rfl <;> rfl
  hu := Try.underlying22
  hi := by kernel_rfl
  hz := rfl
  hk0 := by decide
  hb := by decide
def FK : Kind Try.prog Fv where
  enc := fun f => [.int .i8 f.ad.f, .int .u16 f.ad.g0, .int .u16 f.ad.g1, .int .u16 f.ad.g2, .int .u16 f.ad.g3, .int .u16 f.ad.g4, .int .u16 f.ad.g5, .int .u16 f.ad.g6, .int .u16 f.ad.g7, .int .i64 f.ad.p, .slice f.h.a f.h.n f.h.c]
  k := 11
  T := 74
  S := 23
  z := .agg #[.int .i8 0, .int .u16 0, .int .u16 0, .int .u16 0, .int .u16 0, .int .u16 0, .int .u16 0, .int .u16 0, .int .u16 0, .int .i64 0, .slice none 0 0]
  bytes := 56
  hk := fun _ => rfl
  h1 := by
    intro x v hv
    simp only [List.mem_cons, List.not_mem_nil, or_false] at hv
    rcases hv with rfl | rfl | rfl | rfl | rfl | rfl | rfl | rfl | rfl | rfl | rfl <;> rfl
  hu := Try.underlying23
  hi := by kernel_rfl
  hz := rfl
  hk0 := by decide
  hb := by decide
def IK : Kind Try.prog Int where
  enc := fun n => [.int .i64 n]
  k := 1
  T := 3
  S := 24
  z := .int .i64 0
  bytes := 8
  hk := fun _ => rfl
  h1 := by
    intro x v hv
    simp only [List.mem_cons, List.not_mem_nil, or_false] at hv
    rcases hv with rfl
    rfl
  hu := Try.underlying24
  hi := by kernel_rfl
  hz := rfl
  hk0 := by decide
  hb := by decide
def JK : Kind Try.prog Int where
  enc := fun n => [.int .i8 n]
  k := 1
  T := 39
  S := 72
  z := .int .i8 0
  bytes := 1
  hk := fun _ => rfl
  h1 := by
    intro x v hv
    simp only [List.mem_cons, List.not_mem_nil, or_false] at hv
    rcases hv with rfl
    rfl
  hu := Try.underlying72
  hi := by kernel_rfl
  hz := rfl
  hk0 := by decide
  hb := by decide
def TK : Kind Try.prog ByteArray where
  enc := fun s => [.string s]
  k := 1
  T := 9
  S := 136
  z := .string { data := #[] }
  bytes := 16
  hk := fun _ => rfl
  h1 := by
    intro x v hv
    simp only [List.mem_cons, List.not_mem_nil, or_false] at hv
    rcases hv with rfl
    rfl
  hu := Try.underlying136
  hi := by kernel_rfl
  hz := rfl
  hk0 := by decide
  hb := by decide
theorem IK.one {w : World} {b o : Nat} {l : List Int} (h : IK.At w b o l) {j : Nat} {x : Int} (hx : l[j]? = some x) : w.cell? ⟨b, o + j, none⟩ = some (.int .i64 x) := by
  have h1 := h j x hx 0 _ rfl
  have e : o + j * IK.k + 0 = o + j := by show o + j * 1 + 0 = o + j; omega
  rwa [e] at h1
theorem JK.one {w : World} {b o : Nat} {l : List Int} (h : JK.At w b o l) {j : Nat} {x : Int} (hx : l[j]? = some x) : w.cell? ⟨b, o + j, none⟩ = some (.int .i8 x) := by
  have h1 := h j x hx 0 _ rfl
  have e : o + j * JK.k + 0 = o + j := by show o + j * 1 + 0 = o + j; omega
  rwa [e] at h1
theorem TK.one {w : World} {b o : Nat} {l : List ByteArray} (h : TK.At w b o l) {j : Nat} {x : ByteArray} (hx : l[j]? = some x) : w.cell? ⟨b, o + j, none⟩ = some (.string x) := by
  have h1 := h j x hx 0 _ rfl
  have e : o + j * TK.k + 0 = o + j := by show o + j * 1 + 0 = o + j; omega
  rwa [e] at h1
theorem AK.ten {w : World} {b o : Nat} {l : List Ad} (h : AK.At w b o l) {j : Nat} {x : Ad} (hx : l[j]? = some x) :
    (w.cell? ⟨b, o + j * 10, none⟩ = some (.int .i8 x.f) ∧ w.cell? ⟨b, o + j * 10 + 1, none⟩ = some (.int .u16 x.g0) ∧ w.cell? ⟨b, o + j * 10 + 2, none⟩ = some (.int .u16 x.g1) ∧ w.cell? ⟨b, o + j * 10 + 3, none⟩ = some (.int .u16 x.g2) ∧ w.cell? ⟨b, o + j * 10 + 4, none⟩ = some (.int .u16 x.g3)) ∧
    (w.cell? ⟨b, o + j * 10 + 5, none⟩ = some (.int .u16 x.g4) ∧ w.cell? ⟨b, o + j * 10 + 6, none⟩ = some (.int .u16 x.g5) ∧ w.cell? ⟨b, o + j * 10 + 7, none⟩ = some (.int .u16 x.g6) ∧ w.cell? ⟨b, o + j * 10 + 8, none⟩ = some (.int .u16 x.g7) ∧ w.cell? ⟨b, o + j * 10 + 9, none⟩ = some (.int .i64 x.p)) :=
  ⟨⟨h j x hx 0 _ rfl, h j x hx 1 _ rfl, h j x hx 2 _ rfl, h j x hx 3 _ rfl, h j x hx 4 _ rfl⟩, h j x hx 5 _ rfl, h j x hx 6 _ rfl, h j x hx 7 _ rfl, h j x hx 8 _ rfl, h j x hx 9 _ rfl⟩
theorem HK.one {w : World} {b o : Nat} {l : List Hv} (h : HK.At w b o l) {j : Nat} {x : Hv} (hx : l[j]? = some x) : w.cell? ⟨b, o + j, none⟩ = some (.slice x.a x.n x.c) := by
  have h1 := h j x hx 0 _ rfl
  have e : o + j * HK.k + 0 = o + j := by show o + j * 1 + 0 = o + j; omega
  rwa [e] at h1
theorem ZK.two {w : World} {b o : Nat} {l : List Zv} (h : ZK.At w b o l) {j : Nat} {x : Zv} (hx : l[j]? = some x) : w.cell? ⟨b, o + j * 2, none⟩ = some (.string x.name) ∧ w.cell? ⟨b, o + j * 2 + 1, none⟩ = some (.slice x.h.a x.h.n x.h.c) :=
  ⟨h j x hx 0 _ rfl, h j x hx 1 _ rfl⟩
theorem FK.last {w : World} {b o : Nat} {l : List Fv} (h : FK.At w b o l) {j : Nat} {x : Fv} (hx : l[j]? = some x) : w.cell? ⟨b, o + j * 11 + 10, none⟩ = some (.slice x.h.a x.h.n x.h.c) := h j x hx 10 _ rfl

/-- How a plan lies: its zones, their answers, those of one; its rows of fates. -/
def AnsP (w : World) (h : Hv) (l : List Ad) : Prop := h.n = l.length ∧ AK.RowC w h.a h.c l
def ZoP (w : World) (z : Zv) (b : Zo) : Prop := z.name = b.name ∧ z.h.n = b.ans.length ∧ ∃ hs, HK.NestC AnsP w z.h.a z.h.c hs b.ans
def FoP (w : World) (f : Fv) (b : Fo) : Prop := f.ad = b.ad ∧ f.h.n = b.l.length ∧ JK.RowC w f.h.a f.h.c b.l
theorem ansP_steady : Steady AnsP := fun w w' h b hp hb => ⟨hp.1, hp.2.below hb⟩
theorem zoP_steady : Steady ZoP := fun w w' h b hp hb => by
  obtain ⟨h1, h2, hs, h3⟩ := hp
  exact ⟨h1, h2, hs, h3.below ansP_steady hb⟩
theorem foP_steady : Steady FoP := fun w w' h b hp hb => ⟨hp.1, hp.2.1, hp.2.2.below hb⟩
/-- A plan's slices' headers: zones, fates, drops (the lengths are the rows'). -/
structure Pv where
  za : Option Addr
  zc : Nat
  fa : Option Addr
  fc : Nat
  da : Option Addr
  dc : Nat
structure PlanC (w : World) (v : Pv) (P : Pl) : Prop where
  zones : ∃ hs, ZK.NestC ZoP w v.za v.zc hs P.zones
  fates : ∃ hs, FK.NestC FoP w v.fa v.fc hs P.fates
  drops : IK.RowC w v.da v.dc P.drops
theorem PlanC.below {w w' : World} {v : Pv} {P : Pl} (h : PlanC w v P) (hb : Below w.heap.size w w') : PlanC w' v P := by
  obtain ⟨⟨hs, h1⟩, ⟨fs, h2⟩, h3⟩ := h
  exact ⟨⟨hs, h1.below zoP_steady hb⟩, ⟨fs, h2.below foP_steady hb⟩, h3.below hb⟩
def Pv.val (v : Pv) (P : Pl) : Value := .agg #[.slice v.za P.zones.length v.zc, .slice v.fa P.fates.length v.fc, .int .i64 P.ticks, .slice v.da P.drops.length v.dc]

theorem eqItems_u16 (d : Nat) (w : World) (xs ys : Array Value) : ∀ (is : List Nat) (ks bs : List Int), is.length = ks.length → is.length = bs.length →
    (∀ (j i : Nat) (a : Int), is[j]? = some i → ks[j]? = some a → xs[i]? = some (Value.int .u16 a)) → (∀ (j i : Nat) (b : Int), is[j]? = some i → bs[j]? = some b → ys[i]? = some (Value.int .u16 b)) →
    (Op.eqItems (d + 1) 40 1 xs ys is).run Try.prog w = .ok (ks == bs) w
  | [], [], [], _, _, _, _ => by simp [Op.eqItems]
  | [], _ :: _, _, h, _, _, _ => by simp at h
  | [], _, _ :: _, _, h, _, _ => by simp at h
  | _ :: _, [], _, h, _, _, _ => by simp at h
  | _ :: _, _, [], _, h, _, _ => by simp at h
  | i :: is, a :: ks, b :: bs, h1, h2, h3, h4 => by
    have ha := h3 0 i a rfl rfl
    have hb := h4 0 i b rfl rfl
    have hk : Try.prog.plainKey 40 = true := by kernel_rfl
    simp only [Op.eqItems, Sem.run_bind, Nat.mul_one, run_part_plain w hk ha, run_part_plain w hk hb, Result.andThen_ok, run_equalIn_int w d _ _ _ a b Try.underlying40]
    by_cases hab : a = b
    · subst hab
      have ih := eqItems_u16 d w xs ys is ks bs (by simpa using h1) (by simpa using h2) (fun j i a hi ha => h3 (j + 1) i a (by simpa using hi) (by simpa using ha)) (fun j i b hi hb => h4 (j + 1) i b (by simpa using hi) (by simpa using hb))
      simpa using ih
    · simp [hab]
theorem at8 (g0 g1 g2 g3 g4 g5 g6 g7 : Int) (j i : Nat) (a : Int) (hi : (List.range 8)[j]? = some i) (ha : [g0, g1, g2, g3, g4, g5, g6, g7][j]? = some a) :
    (#[Value.int .u16 g0, .int .u16 g1, .int .u16 g2, .int .u16 g3, .int .u16 g4, .int .u16 g5, .int .u16 g6, .int .u16 g7] : Array Value)[i]? = some (.int .u16 a) := by
  have hij : i = j ∧ j < 8 := by
    have := List.getElem?_eq_some_iff.1 hi
    obtain ⟨h, e⟩ := this
    simp at h e
    omega
  obtain ⟨rfl, hlt⟩ := hij
  match i, hlt with
  | 0, _ | 1, _ | 2, _ | 3, _ | 4, _ | 5, _ | 6, _ | 7, _ => simp at ha ⊢; exact ha
theorem equalIn_groups (d : Nat) (w : World) (g0 g1 g2 g3 g4 g5 g6 g7 k0 k1 k2 k3 k4 k5 k6 k7 : Int) :
    (Op.equalIn (d + 2) 41 (.agg #[.int .u16 g0, .int .u16 g1, .int .u16 g2, .int .u16 g3, .int .u16 g4, .int .u16 g5, .int .u16 g6, .int .u16 g7]) (.agg #[.int .u16 k0, .int .u16 k1, .int .u16 k2, .int .u16 k3, .int .u16 k4, .int .u16 k5, .int .u16 k6, .int .u16 k7])).run Try.prog w = .ok ([g0, g1, g2, g3, g4, g5, g6, g7] == [k0, k1, k2, k3, k4, k5, k6, k7]) w := by
  obtain ⟨i, hi⟩ : ∃ i, Try.prog.info? 40 = some i := info_of_underlying Try.underlying40
  rw [run_equalIn_array w (d + 1) _ _ Try.underlying41 hi, show Try.prog.cellsOf 40 = 1 from by kernel_rfl]
  exact eqItems_u16 d w _ _ (List.range 8) _ _ rfl rfl (at8 _ _ _ _ _ _ _ _) (at8 _ _ _ _ _ _ _ _)

def Ad.v (a : Ad) : Value := .agg #[.int .i8 a.f, .int .u16 a.g0, .int .u16 a.g1, .int .u16 a.g2, .int .u16 a.g3, .int .u16 a.g4, .int .u16 a.g5, .int .u16 a.g6, .int .u16 a.g7, .int .i64 a.p]
theorem equalIn_addr (d : Nat) (w : World) (a b : Ad) : (Op.equalIn (d + 3) 43 a.v b.v).run Try.prog w = .ok (a == b) w := by
  have hS : Try.prog.underlying 43 = some (.struct (Try.prog.fieldsOf 43)) := by kernel_rfl
  have hp : Try.prog.stoodInHeld 43 = false := by kernel_rfl
  have u1 := Try.underlying39
  have u2 := Try.underlying3
  have a1 := Try.isAgg39
  have a2 := Try.isAgg3
  have a3 := Try.isAgg41
  have z1 := Try.sizeOf39
  have z2 := Try.sizeOf3
  have z3 := Try.sizeOf41
  have he := fun d w => equalIn_groups d w a.g0 a.g1 a.g2 a.g3 a.g4 a.g5 a.g6 a.g7 b.g0 b.g1 b.g2 b.g3 b.g4 b.g5 b.g6 b.g7
  obtain ⟨f, g0, g1, g2, g3, g4, g5, g6, g7, p⟩ := a
  obtain ⟨f', k0, k1, k2, k3, k4, k5, k6, k7, p'⟩ := b
  simp only [Ad.v] at *
  rw [show d + 3 = d + 2 + 1 from rfl, run_equalIn_agg w _ _ _ _ hS hp]
  simp only [Program.fieldsOf, Try.underlying43]
  have he' := he d
  have e : ((⟨f, g0, g1, g2, g3, g4, g5, g6, g7, p⟩ : Ad) == ⟨f', k0, k1, k2, k3, k4, k5, k6, k7, p'⟩) = (f == f' && ([g0, g1, g2, g3, g4, g5, g6, g7] == [k0, k1, k2, k3, k4, k5, k6, k7] && p == p')) := by
    rw [Bool.eq_iff_iff]
    simp only [beq_iff_eq, Ad.mk.injEq, Bool.and_eq_true, List.cons.injEq, and_true, and_assoc]
  rw [e]
  generalize ([g0, g1, g2, g3, g4, g5, g6, g7] == [k0, k1, k2, k3, k4, k5, k6, k7]) = B at he'
  go_simp
  by_cases h1 : f = f' <;> by_cases h2 : p = p' <;> cases B <;> simp_all
/-- The zero address; a socket. -/
def Ad.zero : Ad := ⟨0, 0, 0, 0, 0, 0, 0, 0, 0, 0⟩
/-- api.Sock. -/
structure Sk where
  ad : Ad
  by_ : Int
  opened : Int
  shut : Int
  dead : Bool
  deriving DecidableEq, Inhabited
def Sk.enc (x : Sk) : List Value := [.int .i8 x.ad.f, .int .u16 x.ad.g0, .int .u16 x.ad.g1, .int .u16 x.ad.g2, .int .u16 x.ad.g3, .int .u16 x.ad.g4, .int .u16 x.ad.g5, .int .u16 x.ad.g6, .int .u16 x.ad.g7, .int .i64 x.ad.p, .int .i64 x.by_, .int .i64 x.opened, .int .i64 x.shut, .bool x.dead]
def Sk.v (x : Sk) : Value := .agg #[.int .i8 x.ad.f, .int .u16 x.ad.g0, .int .u16 x.ad.g1, .int .u16 x.ad.g2, .int .u16 x.ad.g3, .int .u16 x.ad.g4, .int .u16 x.ad.g5, .int .u16 x.ad.g6, .int .u16 x.ad.g7, .int .i64 x.ad.p, .int .i64 x.by_, .int .i64 x.opened, .int .i64 x.shut, .bool x.dead]
def SK : Kind Try.prog Sk where
  enc := Sk.enc
  k := 14
  T := 64
  S := 28
  z := .agg #[.int .i8 0, .int .u16 0, .int .u16 0, .int .u16 0, .int .u16 0, .int .u16 0, .int .u16 0, .int .u16 0, .int .u16 0, .int .i64 0, .int .i64 0, .int .i64 0, .int .i64 0, .bool false]
  bytes := 64
  hk := fun _ => rfl
  h1 := by
    intro x v hv
    simp only [Sk.enc, List.mem_cons, List.not_mem_nil, or_false] at hv
    rcases hv with rfl | rfl | rfl | rfl | rfl | rfl | rfl | rfl | rfl | rfl | rfl | rfl | rfl | rfl <;> rfl
  hu := Try.underlying28
  hi := by kernel_rfl
  hz := rfl
  hk0 := by decide
  hb := by decide
theorem SK.cells {w : World} {b o : Nat} {l : List Sk} (h : SK.At w b o l) {j : Nat} {x : Sk} (hx : l[j]? = some x) :
    w.cell? ⟨b, o + j * 14, none⟩ = some (.int .i8 x.ad.f) ∧ w.cell? ⟨b, o + j * 14 + 1, none⟩ = some (.int .u16 x.ad.g0) ∧ w.cell? ⟨b, o + j * 14 + 2, none⟩ = some (.int .u16 x.ad.g1) ∧ w.cell? ⟨b, o + j * 14 + 3, none⟩ = some (.int .u16 x.ad.g2) ∧ w.cell? ⟨b, o + j * 14 + 4, none⟩ = some (.int .u16 x.ad.g3) ∧ w.cell? ⟨b, o + j * 14 + 5, none⟩ = some (.int .u16 x.ad.g4) ∧ w.cell? ⟨b, o + j * 14 + 6, none⟩ = some (.int .u16 x.ad.g5) ∧ w.cell? ⟨b, o + j * 14 + 7, none⟩ = some (.int .u16 x.ad.g6) ∧ w.cell? ⟨b, o + j * 14 + 8, none⟩ = some (.int .u16 x.ad.g7) ∧ w.cell? ⟨b, o + j * 14 + 9, none⟩ = some (.int .i64 x.ad.p) ∧ w.cell? ⟨b, o + j * 14 + 10, none⟩ = some (.int .i64 x.by_) ∧ w.cell? ⟨b, o + j * 14 + 11, none⟩ = some (.int .i64 x.opened) ∧ w.cell? ⟨b, o + j * 14 + 12, none⟩ = some (.int .i64 x.shut) ∧ w.cell? ⟨b, o + j * 14 + 13, none⟩ = some (.bool x.dead) :=
  ⟨h j x hx 0 _ rfl, h j x hx 1 _ rfl, h j x hx 2 _ rfl, h j x hx 3 _ rfl, h j x hx 4 _ rfl, h j x hx 5 _ rfl, h j x hx 6 _ rfl, h j x hx 7 _ rfl, h j x hx 8 _ rfl, h j x hx 9 _ rfl, h j x hx 10 _ rfl, h j x hx 11 _ rfl, h j x hx 12 _ rfl, h j x hx 13 _ rfl⟩
theorem boxes14 {w : World} {g : Nat} {x0 x1 x2 x3 x4 x5 x6 x7 x8 x9 x10 x11 x12 x13 : Value} {t : TypeId} (h : w.heap[g]? = some (.cells #[x0, x1, x2, x3, x4, x5, x6, x7, x8, x9, x10, x11, x12, x13] t (0, 0))) :
    (w.cell? ⟨g, 0, none⟩ = some x0 ∧ w.cell? ⟨g, 1, none⟩ = some x1 ∧ w.cell? ⟨g, 2, none⟩ = some x2 ∧ w.cell? ⟨g, 3, none⟩ = some x3 ∧ w.cell? ⟨g, 4, none⟩ = some x4 ∧ w.cell? ⟨g, 5, none⟩ = some x5 ∧ w.cell? ⟨g, 6, none⟩ = some x6 ∧ w.cell? ⟨g, 7, none⟩ = some x7 ∧ w.cell? ⟨g, 8, none⟩ = some x8 ∧ w.cell? ⟨g, 9, none⟩ = some x9 ∧ w.cell? ⟨g, 10, none⟩ = some x10 ∧ w.cell? ⟨g, 11, none⟩ = some x11 ∧ w.cell? ⟨g, 12, none⟩ = some x12 ∧ w.cell? ⟨g, 13, none⟩ = some x13) ∧ (w.frozen? ⟨g, 0, none⟩ = false ∧ w.frozen? ⟨g, 1, none⟩ = false ∧ w.frozen? ⟨g, 2, none⟩ = false ∧ w.frozen? ⟨g, 3, none⟩ = false ∧ w.frozen? ⟨g, 4, none⟩ = false ∧ w.frozen? ⟨g, 5, none⟩ = false ∧ w.frozen? ⟨g, 6, none⟩ = false ∧ w.frozen? ⟨g, 7, none⟩ = false ∧ w.frozen? ⟨g, 8, none⟩ = false ∧ w.frozen? ⟨g, 9, none⟩ = false ∧ w.frozen? ⟨g, 10, none⟩ = false ∧ w.frozen? ⟨g, 11, none⟩ = false ∧ w.frozen? ⟨g, 12, none⟩ = false ∧ w.frozen? ⟨g, 13, none⟩ = false) := by
  simp [World.cell?, World.frozen?, h]
theorem load_Sk {w : World} {b : Nat} {x : Sk} {t : TypeId} (h : w.heap[b]? = some (.cells #[.int .i8 x.ad.f, .int .u16 x.ad.g0, .int .u16 x.ad.g1, .int .u16 x.ad.g2, .int .u16 x.ad.g3, .int .u16 x.ad.g4, .int .u16 x.ad.g5, .int .u16 x.ad.g6, .int .u16 x.ad.g7, .int .i64 x.ad.p, .int .i64 x.by_, .int .i64 x.opened, .int .i64 x.shut, .bool x.dead] t (0, 0))) :
    (loadVar 64 ⟨b, 0, none⟩).run Try.prog w = .ok (.agg #[.int .i8 x.ad.f, .int .u16 x.ad.g0, .int .u16 x.ad.g1, .int .u16 x.ad.g2, .int .u16 x.ad.g3, .int .u16 x.ad.g4, .int .u16 x.ad.g5, .int .u16 x.ad.g6, .int .u16 x.ad.g7, .int .i64 x.ad.p, .int .i64 x.by_, .int .i64 x.opened, .int .i64 x.shut, .bool x.dead]) w := by
  obtain ⟨⟨h0, h1, h2, h3, h4, h5, h6, h7, h8, h9, h10, h11, h12, h13⟩, _⟩ := boxes14 h
  have ag1 := Try.isAgg64
  have sz1 := Try.sizeOf64
  have ag2 := Try.isAgg43
  have sz2 := Try.sizeOf43
  have agA := Try.isAgg41
  have szA := Try.sizeOf41
  clear h
  simp [loadVar, go_sem, *]
set_option maxHeartbeats 1000000 in
theorem self_Sk_10000 (w : World) (x : Sk) : (Op.equalIn 10000 64 x.v x.v).run Try.prog w = .ok true w := by
  have hS : Try.prog.underlying 64 = some (.struct (Try.prog.fieldsOf 64)) := by kernel_rfl
  have hp : Try.prog.stoodInHeld 64 = false := by kernel_rfl
  have a0 := Try.isAgg43
  have z0 := Try.sizeOf43
  have a1 := Try.isAgg3
  have z1 := Try.sizeOf3
  have u1 := Try.underlying3
  have a2 := Try.isAgg4
  have z2 := Try.sizeOf4
  have u2 := Try.underlying4
  have e0 := fun w => (equalIn_addr 9996 w x.ad x.ad)
  simp only [Ad.v, beq_self_eq_true, Nat.reduceAdd] at e0
  simp only [Sk.v]
  rw [show (10000 : Nat) = 9999 + 1 from rfl, run_equalIn_agg w _ _ _ _ hS hp]
  simp only [Program.fieldsOf, Try.underlying64]
  go_simp
theorem guard_Sk (op : BinOp) (x y : Operand) (xs ys : Array Value) (w : World) : (eqGuard op 64 x y (.agg xs) (.agg ys)).run Try.prog w = .ok () w := run_eqGuard_agg w op _ x y xs ys (by kernel_rfl)
theorem neq_self_Sk (x : Sk) (W : World) : (binOp .neq 64 (.agg #[.int .i8 x.ad.f, .int .u16 x.ad.g0, .int .u16 x.ad.g1, .int .u16 x.ad.g2, .int .u16 x.ad.g3, .int .u16 x.ad.g4, .int .u16 x.ad.g5, .int .u16 x.ad.g6, .int .u16 x.ad.g7, .int .i64 x.ad.p, .int .i64 x.by_, .int .i64 x.opened, .int .i64 x.shut, .bool x.dead]) (.agg #[.int .i8 x.ad.f, .int .u16 x.ad.g0, .int .u16 x.ad.g1, .int .u16 x.ad.g2, .int .u16 x.ad.g3, .int .u16 x.ad.g4, .int .u16 x.ad.g5, .int .u16 x.ad.g6, .int .u16 x.ad.g7, .int .i64 x.ad.p, .int .i64 x.by_, .int .i64 x.opened, .int .i64 x.shut, .bool x.dead])).run Try.prog W = .ok (.bool false) W := by
  have h := self_Sk_10000 W x
  simp only [Sk.v] at h
  rw [run_neq_struct, h]
  try simp
theorem eql_self_Sk (x : Sk) (W : World) : (binOp .eql 64 (.agg #[.int .i8 x.ad.f, .int .u16 x.ad.g0, .int .u16 x.ad.g1, .int .u16 x.ad.g2, .int .u16 x.ad.g3, .int .u16 x.ad.g4, .int .u16 x.ad.g5, .int .u16 x.ad.g6, .int .u16 x.ad.g7, .int .i64 x.ad.p, .int .i64 x.by_, .int .i64 x.opened, .int .i64 x.shut, .bool x.dead]) (.agg #[.int .i8 x.ad.f, .int .u16 x.ad.g0, .int .u16 x.ad.g1, .int .u16 x.ad.g2, .int .u16 x.ad.g3, .int .u16 x.ad.g4, .int .u16 x.ad.g5, .int .u16 x.ad.g6, .int .u16 x.ad.g7, .int .i64 x.ad.p, .int .i64 x.by_, .int .i64 x.opened, .int .i64 x.shut, .bool x.dead])).run Try.prog W = .ok (.bool true) W := by
  have h := self_Sk_10000 W x
  simp only [Sk.v] at h
  rw [run_eql_struct, h]
  try simp
/-- api.Mark. -/
structure Nk where
  shut : Bool
  sock : Int
  at_ : Int
  deriving DecidableEq, Inhabited
def Nk.enc (x : Nk) : List Value := [.bool x.shut, .int .i64 x.sock, .int .i64 x.at_]
def Nk.v (x : Nk) : Value := .agg #[.bool x.shut, .int .i64 x.sock, .int .i64 x.at_]
def NK : Kind Try.prog Nk where
  enc := Nk.enc
  k := 3
  T := 105
  S := 31
  z := .agg #[.bool false, .int .i64 0, .int .i64 0]
  bytes := 24
  hk := fun _ => rfl
  h1 := by
    intro x v hv
    simp only [Nk.enc, List.mem_cons, List.not_mem_nil, or_false] at hv
    rcases hv with rfl | rfl | rfl <;> rfl
  hu := Try.underlying31
  hi := by kernel_rfl
  hz := rfl
  hk0 := by decide
  hb := by decide
theorem NK.cells {w : World} {b o : Nat} {l : List Nk} (h : NK.At w b o l) {j : Nat} {x : Nk} (hx : l[j]? = some x) :
    w.cell? ⟨b, o + j * 3, none⟩ = some (.bool x.shut) ∧ w.cell? ⟨b, o + j * 3 + 1, none⟩ = some (.int .i64 x.sock) ∧ w.cell? ⟨b, o + j * 3 + 2, none⟩ = some (.int .i64 x.at_) :=
  ⟨h j x hx 0 _ rfl, h j x hx 1 _ rfl, h j x hx 2 _ rfl⟩
theorem boxes3 {w : World} {g : Nat} {x0 x1 x2 : Value} {t : TypeId} (h : w.heap[g]? = some (.cells #[x0, x1, x2] t (0, 0))) :
    (w.cell? ⟨g, 0, none⟩ = some x0 ∧ w.cell? ⟨g, 1, none⟩ = some x1 ∧ w.cell? ⟨g, 2, none⟩ = some x2) ∧ (w.frozen? ⟨g, 0, none⟩ = false ∧ w.frozen? ⟨g, 1, none⟩ = false ∧ w.frozen? ⟨g, 2, none⟩ = false) := by
  simp [World.cell?, World.frozen?, h]
theorem load_Nk {w : World} {b : Nat} {x : Nk} {t : TypeId} (h : w.heap[b]? = some (.cells #[.bool x.shut, .int .i64 x.sock, .int .i64 x.at_] t (0, 0))) :
    (loadVar 105 ⟨b, 0, none⟩).run Try.prog w = .ok (.agg #[.bool x.shut, .int .i64 x.sock, .int .i64 x.at_]) w := by
  obtain ⟨⟨h0, h1, h2⟩, _⟩ := boxes3 h
  have ag1 := Try.isAgg105
  have sz1 := Try.sizeOf105
  clear h
  simp [loadVar, go_sem, *]
set_option maxHeartbeats 1000000 in
theorem self_Nk_10000 (w : World) (x : Nk) : (Op.equalIn 10000 105 x.v x.v).run Try.prog w = .ok true w := by
  have hS : Try.prog.underlying 105 = some (.struct (Try.prog.fieldsOf 105)) := by kernel_rfl
  have hp : Try.prog.stoodInHeld 105 = false := by kernel_rfl
  have a0 := Try.isAgg4
  have z0 := Try.sizeOf4
  have u0 := Try.underlying4
  have a1 := Try.isAgg3
  have z1 := Try.sizeOf3
  have u1 := Try.underlying3
  simp only [Nk.v]
  rw [show (10000 : Nat) = 9999 + 1 from rfl, run_equalIn_agg w _ _ _ _ hS hp]
  simp only [Program.fieldsOf, Try.underlying105]
  go_simp
theorem guard_Nk (op : BinOp) (x y : Operand) (xs ys : Array Value) (w : World) : (eqGuard op 105 x y (.agg xs) (.agg ys)).run Try.prog w = .ok () w := run_eqGuard_agg w op _ x y xs ys (by kernel_rfl)
theorem neq_self_Nk (x : Nk) (W : World) : (binOp .neq 105 (.agg #[.bool x.shut, .int .i64 x.sock, .int .i64 x.at_]) (.agg #[.bool x.shut, .int .i64 x.sock, .int .i64 x.at_])).run Try.prog W = .ok (.bool false) W := by
  have h := self_Nk_10000 W x
  simp only [Nk.v] at h
  rw [run_neq_struct, h]
  try simp
theorem eql_self_Nk (x : Nk) (W : World) : (binOp .eql 105 (.agg #[.bool x.shut, .int .i64 x.sock, .int .i64 x.at_]) (.agg #[.bool x.shut, .int .i64 x.sock, .int .i64 x.at_])).run Try.prog W = .ok (.bool true) W := by
  have h := self_Nk_10000 W x
  simp only [Nk.v] at h
  rw [run_eql_struct, h]
  try simp
/-- api.Dial. -/
structure Di where
  by_ : Int
  ad : Ad
  fate : Int
  cut : Bool
  over : Bool
  deriving DecidableEq, Inhabited
def Di.enc (x : Di) : List Value := [.int .i64 x.by_, .int .i8 x.ad.f, .int .u16 x.ad.g0, .int .u16 x.ad.g1, .int .u16 x.ad.g2, .int .u16 x.ad.g3, .int .u16 x.ad.g4, .int .u16 x.ad.g5, .int .u16 x.ad.g6, .int .u16 x.ad.g7, .int .i64 x.ad.p, .int .i8 x.fate, .bool x.cut, .bool x.over]
def Di.v (x : Di) : Value := .agg #[.int .i64 x.by_, .int .i8 x.ad.f, .int .u16 x.ad.g0, .int .u16 x.ad.g1, .int .u16 x.ad.g2, .int .u16 x.ad.g3, .int .u16 x.ad.g4, .int .u16 x.ad.g5, .int .u16 x.ad.g6, .int .u16 x.ad.g7, .int .i64 x.ad.p, .int .i8 x.fate, .bool x.cut, .bool x.over]
def DK : Kind Try.prog Di where
  enc := Di.enc
  k := 14
  T := 88
  S := 29
  z := .agg #[.int .i64 0, .int .i8 0, .int .u16 0, .int .u16 0, .int .u16 0, .int .u16 0, .int .u16 0, .int .u16 0, .int .u16 0, .int .u16 0, .int .i64 0, .int .i8 0, .bool false, .bool false]
  bytes := 48
  hk := fun _ => rfl
  h1 := by
    intro x v hv
    simp only [Di.enc, List.mem_cons, List.not_mem_nil, or_false] at hv
    rcases hv with rfl | rfl | rfl | rfl | rfl | rfl | rfl | rfl | rfl | rfl | rfl | rfl | rfl | rfl <;> rfl
  hu := Try.underlying29
  hi := by kernel_rfl
  hz := rfl
  hk0 := by decide
  hb := by decide
theorem DK.cells {w : World} {b o : Nat} {l : List Di} (h : DK.At w b o l) {j : Nat} {x : Di} (hx : l[j]? = some x) :
    w.cell? ⟨b, o + j * 14, none⟩ = some (.int .i64 x.by_) ∧ w.cell? ⟨b, o + j * 14 + 1, none⟩ = some (.int .i8 x.ad.f) ∧ w.cell? ⟨b, o + j * 14 + 2, none⟩ = some (.int .u16 x.ad.g0) ∧ w.cell? ⟨b, o + j * 14 + 3, none⟩ = some (.int .u16 x.ad.g1) ∧ w.cell? ⟨b, o + j * 14 + 4, none⟩ = some (.int .u16 x.ad.g2) ∧ w.cell? ⟨b, o + j * 14 + 5, none⟩ = some (.int .u16 x.ad.g3) ∧ w.cell? ⟨b, o + j * 14 + 6, none⟩ = some (.int .u16 x.ad.g4) ∧ w.cell? ⟨b, o + j * 14 + 7, none⟩ = some (.int .u16 x.ad.g5) ∧ w.cell? ⟨b, o + j * 14 + 8, none⟩ = some (.int .u16 x.ad.g6) ∧ w.cell? ⟨b, o + j * 14 + 9, none⟩ = some (.int .u16 x.ad.g7) ∧ w.cell? ⟨b, o + j * 14 + 10, none⟩ = some (.int .i64 x.ad.p) ∧ w.cell? ⟨b, o + j * 14 + 11, none⟩ = some (.int .i8 x.fate) ∧ w.cell? ⟨b, o + j * 14 + 12, none⟩ = some (.bool x.cut) ∧ w.cell? ⟨b, o + j * 14 + 13, none⟩ = some (.bool x.over) :=
  ⟨h j x hx 0 _ rfl, h j x hx 1 _ rfl, h j x hx 2 _ rfl, h j x hx 3 _ rfl, h j x hx 4 _ rfl, h j x hx 5 _ rfl, h j x hx 6 _ rfl, h j x hx 7 _ rfl, h j x hx 8 _ rfl, h j x hx 9 _ rfl, h j x hx 10 _ rfl, h j x hx 11 _ rfl, h j x hx 12 _ rfl, h j x hx 13 _ rfl⟩
theorem load_Di {w : World} {b : Nat} {x : Di} {t : TypeId} (h : w.heap[b]? = some (.cells #[.int .i64 x.by_, .int .i8 x.ad.f, .int .u16 x.ad.g0, .int .u16 x.ad.g1, .int .u16 x.ad.g2, .int .u16 x.ad.g3, .int .u16 x.ad.g4, .int .u16 x.ad.g5, .int .u16 x.ad.g6, .int .u16 x.ad.g7, .int .i64 x.ad.p, .int .i8 x.fate, .bool x.cut, .bool x.over] t (0, 0))) :
    (loadVar 88 ⟨b, 0, none⟩).run Try.prog w = .ok (.agg #[.int .i64 x.by_, .int .i8 x.ad.f, .int .u16 x.ad.g0, .int .u16 x.ad.g1, .int .u16 x.ad.g2, .int .u16 x.ad.g3, .int .u16 x.ad.g4, .int .u16 x.ad.g5, .int .u16 x.ad.g6, .int .u16 x.ad.g7, .int .i64 x.ad.p, .int .i8 x.fate, .bool x.cut, .bool x.over]) w := by
  obtain ⟨⟨h0, h1, h2, h3, h4, h5, h6, h7, h8, h9, h10, h11, h12, h13⟩, _⟩ := boxes14 h
  have ag1 := Try.isAgg88
  have sz1 := Try.sizeOf88
  have ag2 := Try.isAgg43
  have sz2 := Try.sizeOf43
  have agA := Try.isAgg41
  have szA := Try.sizeOf41
  clear h
  simp [loadVar, go_sem, *]
set_option maxHeartbeats 1000000 in
theorem self_Di_10000 (w : World) (x : Di) : (Op.equalIn 10000 88 x.v x.v).run Try.prog w = .ok true w := by
  have hS : Try.prog.underlying 88 = some (.struct (Try.prog.fieldsOf 88)) := by kernel_rfl
  have hp : Try.prog.stoodInHeld 88 = false := by kernel_rfl
  have a0 := Try.isAgg3
  have z0 := Try.sizeOf3
  have u0 := Try.underlying3
  have a1 := Try.isAgg43
  have z1 := Try.sizeOf43
  have a2 := Try.isAgg39
  have z2 := Try.sizeOf39
  have u2 := Try.underlying39
  have a3 := Try.isAgg4
  have z3 := Try.sizeOf4
  have u3 := Try.underlying4
  have e0 := fun w => (equalIn_addr 9996 w x.ad x.ad)
  simp only [Ad.v, beq_self_eq_true, Nat.reduceAdd] at e0
  simp only [Di.v]
  rw [show (10000 : Nat) = 9999 + 1 from rfl, run_equalIn_agg w _ _ _ _ hS hp]
  simp only [Program.fieldsOf, Try.underlying88]
  go_simp
theorem guard_Di (op : BinOp) (x y : Operand) (xs ys : Array Value) (w : World) : (eqGuard op 88 x y (.agg xs) (.agg ys)).run Try.prog w = .ok () w := run_eqGuard_agg w op _ x y xs ys (by kernel_rfl)
theorem neq_self_Di (x : Di) (W : World) : (binOp .neq 88 (.agg #[.int .i64 x.by_, .int .i8 x.ad.f, .int .u16 x.ad.g0, .int .u16 x.ad.g1, .int .u16 x.ad.g2, .int .u16 x.ad.g3, .int .u16 x.ad.g4, .int .u16 x.ad.g5, .int .u16 x.ad.g6, .int .u16 x.ad.g7, .int .i64 x.ad.p, .int .i8 x.fate, .bool x.cut, .bool x.over]) (.agg #[.int .i64 x.by_, .int .i8 x.ad.f, .int .u16 x.ad.g0, .int .u16 x.ad.g1, .int .u16 x.ad.g2, .int .u16 x.ad.g3, .int .u16 x.ad.g4, .int .u16 x.ad.g5, .int .u16 x.ad.g6, .int .u16 x.ad.g7, .int .i64 x.ad.p, .int .i8 x.fate, .bool x.cut, .bool x.over])).run Try.prog W = .ok (.bool false) W := by
  have h := self_Di_10000 W x
  simp only [Di.v] at h
  rw [run_neq_struct, h]
  try simp
theorem eql_self_Di (x : Di) (W : World) : (binOp .eql 88 (.agg #[.int .i64 x.by_, .int .i8 x.ad.f, .int .u16 x.ad.g0, .int .u16 x.ad.g1, .int .u16 x.ad.g2, .int .u16 x.ad.g3, .int .u16 x.ad.g4, .int .u16 x.ad.g5, .int .u16 x.ad.g6, .int .u16 x.ad.g7, .int .i64 x.ad.p, .int .i8 x.fate, .bool x.cut, .bool x.over]) (.agg #[.int .i64 x.by_, .int .i8 x.ad.f, .int .u16 x.ad.g0, .int .u16 x.ad.g1, .int .u16 x.ad.g2, .int .u16 x.ad.g3, .int .u16 x.ad.g4, .int .u16 x.ad.g5, .int .u16 x.ad.g6, .int .u16 x.ad.g7, .int .i64 x.ad.p, .int .i8 x.fate, .bool x.cut, .bool x.over])).run Try.prog W = .ok (.bool true) W := by
  have h := self_Di_10000 W x
  simp only [Di.v] at h
  rw [run_eql_struct, h]
  try simp
/-- api.Look. -/
structure Lo where
  by_ : Int
  name : ByteArray
  nth : Int
  over : Bool
  deriving DecidableEq, Inhabited
def Lo.enc (x : Lo) : List Value := [.int .i64 x.by_, .string x.name, .int .i64 x.nth, .bool x.over]
def Lo.v (x : Lo) : Value := .agg #[.int .i64 x.by_, .string x.name, .int .i64 x.nth, .bool x.over]
def LK : Kind Try.prog Lo where
  enc := Lo.enc
  k := 4
  T := 122
  S := 30
  z := .agg #[.int .i64 0, .string { data := #[] }, .int .i64 0, .bool false]
  bytes := 40
  hk := fun _ => rfl
  h1 := by
    intro x v hv
    simp only [Lo.enc, List.mem_cons, List.not_mem_nil, or_false] at hv
    rcases hv with rfl | rfl | rfl | rfl <;> rfl
  hu := Try.underlying30
  hi := by kernel_rfl
  hz := rfl
  hk0 := by decide
  hb := by decide
theorem LK.cells {w : World} {b o : Nat} {l : List Lo} (h : LK.At w b o l) {j : Nat} {x : Lo} (hx : l[j]? = some x) :
    w.cell? ⟨b, o + j * 4, none⟩ = some (.int .i64 x.by_) ∧ w.cell? ⟨b, o + j * 4 + 1, none⟩ = some (.string x.name) ∧ w.cell? ⟨b, o + j * 4 + 2, none⟩ = some (.int .i64 x.nth) ∧ w.cell? ⟨b, o + j * 4 + 3, none⟩ = some (.bool x.over) :=
  ⟨h j x hx 0 _ rfl, h j x hx 1 _ rfl, h j x hx 2 _ rfl, h j x hx 3 _ rfl⟩
theorem boxes4 {w : World} {g : Nat} {x0 x1 x2 x3 : Value} {t : TypeId} (h : w.heap[g]? = some (.cells #[x0, x1, x2, x3] t (0, 0))) :
    (w.cell? ⟨g, 0, none⟩ = some x0 ∧ w.cell? ⟨g, 1, none⟩ = some x1 ∧ w.cell? ⟨g, 2, none⟩ = some x2 ∧ w.cell? ⟨g, 3, none⟩ = some x3) ∧ (w.frozen? ⟨g, 0, none⟩ = false ∧ w.frozen? ⟨g, 1, none⟩ = false ∧ w.frozen? ⟨g, 2, none⟩ = false ∧ w.frozen? ⟨g, 3, none⟩ = false) := by
  simp [World.cell?, World.frozen?, h]
theorem load_Lo {w : World} {b : Nat} {x : Lo} {t : TypeId} (h : w.heap[b]? = some (.cells #[.int .i64 x.by_, .string x.name, .int .i64 x.nth, .bool x.over] t (0, 0))) :
    (loadVar 122 ⟨b, 0, none⟩).run Try.prog w = .ok (.agg #[.int .i64 x.by_, .string x.name, .int .i64 x.nth, .bool x.over]) w := by
  obtain ⟨⟨h0, h1, h2, h3⟩, _⟩ := boxes4 h
  have ag1 := Try.isAgg122
  have sz1 := Try.sizeOf122
  clear h
  simp [loadVar, go_sem, *]
set_option maxHeartbeats 1000000 in
theorem self_Lo_10000 (w : World) (x : Lo) : (Op.equalIn 10000 122 x.v x.v).run Try.prog w = .ok true w := by
  have hS : Try.prog.underlying 122 = some (.struct (Try.prog.fieldsOf 122)) := by kernel_rfl
  have hp : Try.prog.stoodInHeld 122 = false := by kernel_rfl
  have a0 := Try.isAgg3
  have z0 := Try.sizeOf3
  have u0 := Try.underlying3
  have a1 := Try.isAgg9
  have z1 := Try.sizeOf9
  have u1 := Try.underlying9
  have a2 := Try.isAgg4
  have z2 := Try.sizeOf4
  have u2 := Try.underlying4
  simp only [Lo.v]
  rw [show (10000 : Nat) = 9999 + 1 from rfl, run_equalIn_agg w _ _ _ _ hS hp]
  simp only [Program.fieldsOf, Try.underlying122]
  go_simp
theorem guard_Lo (op : BinOp) (x y : Operand) (xs ys : Array Value) (w : World) : (eqGuard op 122 x y (.agg xs) (.agg ys)).run Try.prog w = .ok () w := run_eqGuard_agg w op _ x y xs ys (by kernel_rfl)
theorem neq_self_Lo (x : Lo) (W : World) : (binOp .neq 122 (.agg #[.int .i64 x.by_, .string x.name, .int .i64 x.nth, .bool x.over]) (.agg #[.int .i64 x.by_, .string x.name, .int .i64 x.nth, .bool x.over])).run Try.prog W = .ok (.bool false) W := by
  have h := self_Lo_10000 W x
  simp only [Lo.v] at h
  rw [run_neq_struct, h]
  try simp
theorem eql_self_Lo (x : Lo) (W : World) : (binOp .eql 122 (.agg #[.int .i64 x.by_, .string x.name, .int .i64 x.nth, .bool x.over]) (.agg #[.int .i64 x.by_, .string x.name, .int .i64 x.nth, .bool x.over])).run Try.prog W = .ok (.bool true) W := by
  have h := self_Lo_10000 W x
  simp only [Lo.v] at h
  rw [run_eql_struct, h]
  try simp
/-- api.Letter. -/
structure Lt where
  kind : Int
  fr : Int
  num : Int
  sock : Int
  text : ByteArray
  e : Int
  deriving DecidableEq, Inhabited
def Lt.enc (x : Lt) : List Value := [.int .i8 x.kind, .int .i64 x.fr, .int .i64 x.num, .int .i64 x.sock, .string x.text, .int .i64 x.e]
def Lt.v (x : Lt) : Value := .agg #[.int .i8 x.kind, .int .i64 x.fr, .int .i64 x.num, .int .i64 x.sock, .string x.text, .int .i64 x.e]
theorem boxes6 {w : World} {g : Nat} {x0 x1 x2 x3 x4 x5 : Value} {t : TypeId} (h : w.heap[g]? = some (.cells #[x0, x1, x2, x3, x4, x5] t (0, 0))) :
    (w.cell? ⟨g, 0, none⟩ = some x0 ∧ w.cell? ⟨g, 1, none⟩ = some x1 ∧ w.cell? ⟨g, 2, none⟩ = some x2 ∧ w.cell? ⟨g, 3, none⟩ = some x3 ∧ w.cell? ⟨g, 4, none⟩ = some x4 ∧ w.cell? ⟨g, 5, none⟩ = some x5) ∧ (w.frozen? ⟨g, 0, none⟩ = false ∧ w.frozen? ⟨g, 1, none⟩ = false ∧ w.frozen? ⟨g, 2, none⟩ = false ∧ w.frozen? ⟨g, 3, none⟩ = false ∧ w.frozen? ⟨g, 4, none⟩ = false ∧ w.frozen? ⟨g, 5, none⟩ = false) := by
  simp [World.cell?, World.frozen?, h]
theorem load_Lt {w : World} {b : Nat} {x : Lt} {t : TypeId} (h : w.heap[b]? = some (.cells #[.int .i8 x.kind, .int .i64 x.fr, .int .i64 x.num, .int .i64 x.sock, .string x.text, .int .i64 x.e] t (0, 0))) :
    (loadVar 52 ⟨b, 0, none⟩).run Try.prog w = .ok (.agg #[.int .i8 x.kind, .int .i64 x.fr, .int .i64 x.num, .int .i64 x.sock, .string x.text, .int .i64 x.e]) w := by
  obtain ⟨⟨h0, h1, h2, h3, h4, h5⟩, _⟩ := boxes6 h
  have ag1 := Try.isAgg52
  have sz1 := Try.sizeOf52
  clear h
  simp [loadVar, go_sem, *]
theorem boxes10 {w : World} {g : Nat} {x0 x1 x2 x3 x4 x5 x6 x7 x8 x9 : Value} {t : TypeId} (h : w.heap[g]? = some (.cells #[x0, x1, x2, x3, x4, x5, x6, x7, x8, x9] t (0, 0))) :
    (w.cell? ⟨g, 0, none⟩ = some x0 ∧ w.cell? ⟨g, 1, none⟩ = some x1 ∧ w.cell? ⟨g, 2, none⟩ = some x2 ∧ w.cell? ⟨g, 3, none⟩ = some x3 ∧ w.cell? ⟨g, 4, none⟩ = some x4 ∧ w.cell? ⟨g, 5, none⟩ = some x5 ∧ w.cell? ⟨g, 6, none⟩ = some x6 ∧ w.cell? ⟨g, 7, none⟩ = some x7 ∧ w.cell? ⟨g, 8, none⟩ = some x8 ∧ w.cell? ⟨g, 9, none⟩ = some x9) ∧ (w.frozen? ⟨g, 0, none⟩ = false ∧ w.frozen? ⟨g, 1, none⟩ = false ∧ w.frozen? ⟨g, 2, none⟩ = false ∧ w.frozen? ⟨g, 3, none⟩ = false ∧ w.frozen? ⟨g, 4, none⟩ = false ∧ w.frozen? ⟨g, 5, none⟩ = false ∧ w.frozen? ⟨g, 6, none⟩ = false ∧ w.frozen? ⟨g, 7, none⟩ = false ∧ w.frozen? ⟨g, 8, none⟩ = false ∧ w.frozen? ⟨g, 9, none⟩ = false) := by
  simp [World.cell?, World.frozen?, h]

/-- A world, as plain data; its headers. -/
structure Wo where
  plan : Pl
  clock : Int
  socks : List Sk
  dials : List Di
  looks : List Lo
  dropped : Int
  marks : List Nk
structure Wv where
  p : Pv
  sa : Option Addr
  sc : Nat
  ia : Option Addr
  ic : Nat
  la : Option Addr
  lc : Nat
  ma : Option Addr
  mc : Nat
structure WorldC (w : World) (v : Wv) (A : Wo) : Prop where
  plan : PlanC w v.p A.plan
  socks : SK.RowC w v.sa v.sc A.socks
  dials : DK.RowC w v.ia v.ic A.dials
  looks : LK.RowC w v.la v.lc A.looks
  marks : NK.RowC w v.ma v.mc A.marks
theorem WorldC.below {w w' : World} {v : Wv} {A : Wo} (h : WorldC w v A) (hb : Below w.heap.size w w') : WorldC w' v A :=
  ⟨h.plan.below hb, h.socks.below hb, h.dials.below hb, h.looks.below hb, h.marks.below hb⟩
def Wv.cells (v : Wv) (A : Wo) : Array Value := #[.slice v.p.za A.plan.zones.length v.p.zc, .slice v.p.fa A.plan.fates.length v.p.fc, .int .i64 A.plan.ticks, .slice v.p.da A.plan.drops.length v.p.dc, .int .i64 A.clock, .slice v.sa A.socks.length v.sc, .slice v.ia A.dials.length v.ic, .slice v.la A.looks.length v.lc, .int .i64 A.dropped, .slice v.ma A.marks.length v.mc]
def Wv.val (v : Wv) (A : Wo) : Value := .agg (v.cells A)
end Go.Proofs.Ytciohjgcndgiaaa
