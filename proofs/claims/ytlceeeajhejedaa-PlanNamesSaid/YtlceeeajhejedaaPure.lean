/- Plans as plain data, as headers and rows; '==' of addresses. -/
import Derived.Test.YtlceeeajhejedaaProg
import Derived.Test.YtlceeeajhejedaaKit
import Derived.Test.YtlceeeajhejedaaNest
import Derived.ShutString
import Derived.Laws.StructEq
import Derived.ChangeKeysEq
set_option linter.unusedSimpArgs false
set_option linter.unusedVariables false
namespace Go.Proofs.Ytlceeeajhejedaa
open Go.RowKit Go.Proofs.Ytlceeeajhejedaa.Kind

/-- An address. -/
structure Ad where
  f : Int
  g0 : Int
  g1 : Int
  g2 : Int
  g3 : Int
  g4 : Int
  g5 : Int
  g6 : Int
  g7 : Int
  p : Int
  deriving DecidableEq, Inhabited
def Ad.enc (a : Ad) : List Value := [.int .i8 a.f, .int .u16 a.g0, .int .u16 a.g1, .int .u16 a.g2, .int .u16 a.g3, .int .u16 a.g4, .int .u16 a.g5, .int .u16 a.g6, .int .u16 a.g7, .int .i64 a.p]
/-- A slice's header; a zone's; a row of fates'. -/
structure Hv where
  a : Option Addr
  n : Nat
  c : Nat
  deriving Inhabited
structure Zv where
  name : ByteArray
  h : Hv
  deriving Inhabited
structure Fv where
  ad : Ad
  h : Hv
  deriving Inhabited
/-- A zone, a row of fates, a plan, as plain data. -/
structure Zo where
  name : ByteArray
  ans : List (List Ad)
structure Fo where
  ad : Ad
  l : List Int
structure Pl where
  zones : List Zo
  fates : List Fo
  ticks : Int
  drops : List Int
def AK : Kind Try.prog Ad where
  enc := Ad.enc
  k := 10
  T := 31
  S := 40
  z := .agg #[.int .i8 0, .int .u16 0, .int .u16 0, .int .u16 0, .int .u16 0, .int .u16 0, .int .u16 0, .int .u16 0, .int .u16 0, .int .i64 0]
  bytes := 32
  hk := fun _ => rfl
  h1 := by
    intro x v hv
    simp only [Ad.enc, List.mem_cons, List.not_mem_nil, or_false] at hv
    rcases hv with rfl | rfl | rfl | rfl | rfl | rfl | rfl | rfl | rfl | rfl <;> rfl
  hu := Try.underlying40
  hi := by kernel_rfl
  hz := rfl
  hk0 := by decide
  hb := by decide
def HK : Kind Try.prog Hv where
  enc := fun h => [.slice h.a h.n h.c]
  k := 1
  T := 40
  S := 34
  z := .slice none 0 0
  bytes := 24
  hk := fun _ => rfl
  h1 := by
    intro x v hv
    simp only [List.mem_cons, List.not_mem_nil, or_false] at hv
    rcases hv with rfl
    rfl
  hu := Try.underlying34
  hi := by kernel_rfl
  hz := rfl
  hk0 := by decide
  hb := by decide
def ZK : Kind Try.prog Zv where
  enc := fun z => [.string z.name, .slice z.h.a z.h.n z.h.c]
  k := 2
  T := 36
  S := 22
  z := .agg #[.string { data := #[] }, .slice none 0 0]
  bytes := 40
  hk := fun _ => rfl
  h1 := by
    intro x v hv
    simp only [List.mem_cons, List.not_mem_nil, or_false] at hv
    rcases hv with rfl | rfl <;> rfl
  hu := Try.underlying22
  hi := by kernel_rfl
  hz := rfl
  hk0 := by decide
  hb := by decide
def FK : Kind Try.prog Fv where
  enc := fun f => [.int .i8 f.ad.f, .int .u16 f.ad.g0, .int .u16 f.ad.g1, .int .u16 f.ad.g2, .int .u16 f.ad.g3, .int .u16 f.ad.g4, .int .u16 f.ad.g5, .int .u16 f.ad.g6, .int .u16 f.ad.g7, .int .i64 f.ad.p, .slice f.h.a f.h.n f.h.c]
  k := 11
  T := 39
  S := 23
  z := .agg #[.int .i8 0, .int .u16 0, .int .u16 0, .int .u16 0, .int .u16 0, .int .u16 0, .int .u16 0, .int .u16 0, .int .u16 0, .int .i64 0, .slice none 0 0]
  bytes := 56
  hk := fun _ => rfl
  h1 := by
    intro x v hv
    simp only [List.mem_cons, List.not_mem_nil, or_false] at hv
    rcases hv with rfl | rfl | rfl | rfl | rfl | rfl | rfl | rfl | rfl | rfl | rfl <;> rfl
  hu := Try.underlying23
  hi := by kernel_rfl
  hz := rfl
  hk0 := by decide
  hb := by decide
def IK : Kind Try.prog Int where
  enc := fun n => [.int .i64 n]
  k := 1
  T := 3
  S := 24
  z := .int .i64 0
  bytes := 8
  hk := fun _ => rfl
  h1 := by
    intro x v hv
    simp only [List.mem_cons, List.not_mem_nil, or_false] at hv
    rcases hv with rfl
    rfl
  hu := Try.underlying24
  hi := by kernel_rfl
  hz := rfl
  hk0 := by decide
  hb := by decide
def JK : Kind Try.prog Int where
  enc := fun n => [.int .i8 n]
  k := 1
  T := 27
  S := 37
  z := .int .i8 0
  bytes := 1
  hk := fun _ => rfl
  h1 := by
    intro x v hv
    simp only [List.mem_cons, List.not_mem_nil, or_false] at hv
    rcases hv with rfl
    rfl
  hu := Try.underlying37
  hi := by kernel_rfl
  hz := rfl
  hk0 := by decide
  hb := by decide
def TK : Kind Try.prog ByteArray where
  enc := fun s => [.string s]
  k := 1
  T := 9
  S := 48
  z := .string { data := #[] }
  bytes := 16
  hk := fun _ => rfl
  h1 := by
    intro x v hv
    simp only [List.mem_cons, List.not_mem_nil, or_false] at hv
    rcases hv with rfl
    rfl
  hu := Try.underlying48
  hi := by kernel_rfl
  hz := rfl
  hk0 := by decide
  hb := by decide
theorem IK.one {w : World} {b o : Nat} {l : List Int} (h : IK.At w b o l) {j : Nat} {x : Int} (hx : l[j]? = some x) : w.cell? ⟨b, o + j, none⟩ = some (.int .i64 x) := by
  have h1 := h j x hx 0 _ rfl
  have e : o + j * IK.k + 0 = o + j := by show o + j * 1 + 0 = o + j; omega
  rwa [e] at h1
theorem JK.one {w : World} {b o : Nat} {l : List Int} (h : JK.At w b o l) {j : Nat} {x : Int} (hx : l[j]? = some x) : w.cell? ⟨b, o + j, none⟩ = some (.int .i8 x) := by
  have h1 := h j x hx 0 _ rfl
  have e : o + j * JK.k + 0 = o + j := by show o + j * 1 + 0 = o + j; omega
  rwa [e] at h1
theorem TK.one {w : World} {b o : Nat} {l : List ByteArray} (h : TK.At w b o l) {j : Nat} {x : ByteArray} (hx : l[j]? = some x) : w.cell? ⟨b, o + j, none⟩ = some (.string x) := by
  have h1 := h j x hx 0 _ rfl
  have e : o + j * TK.k + 0 = o + j := by show o + j * 1 + 0 = o + j; omega
  rwa [e] at h1
theorem AK.ten {w : World} {b o : Nat} {l : List Ad} (h : AK.At w b o l) {j : Nat} {x : Ad} (hx : l[j]? = some x) :
    (w.cell? ⟨b, o + j * 10, none⟩ = some (.int .i8 x.f) ∧ w.cell? ⟨b, o + j * 10 + 1, none⟩ = some (.int .u16 x.g0) ∧ w.cell? ⟨b, o + j * 10 + 2, none⟩ = some (.int .u16 x.g1) ∧ w.cell? ⟨b, o + j * 10 + 3, none⟩ = some (.int .u16 x.g2) ∧ w.cell? ⟨b, o + j * 10 + 4, none⟩ = some (.int .u16 x.g3)) ∧
    (w.cell? ⟨b, o + j * 10 + 5, none⟩ = some (.int .u16 x.g4) ∧ w.cell? ⟨b, o + j * 10 + 6, none⟩ = some (.int .u16 x.g5) ∧ w.cell? ⟨b, o + j * 10 + 7, none⟩ = some (.int .u16 x.g6) ∧ w.cell? ⟨b, o + j * 10 + 8, none⟩ = some (.int .u16 x.g7) ∧ w.cell? ⟨b, o + j * 10 + 9, none⟩ = some (.int .i64 x.p)) :=
  ⟨⟨h j x hx 0 _ rfl, h j x hx 1 _ rfl, h j x hx 2 _ rfl, h j x hx 3 _ rfl, h j x hx 4 _ rfl⟩, h j x hx 5 _ rfl, h j x hx 6 _ rfl, h j x hx 7 _ rfl, h j x hx 8 _ rfl, h j x hx 9 _ rfl⟩
theorem HK.one {w : World} {b o : Nat} {l : List Hv} (h : HK.At w b o l) {j : Nat} {x : Hv} (hx : l[j]? = some x) : w.cell? ⟨b, o + j, none⟩ = some (.slice x.a x.n x.c) := by
  have h1 := h j x hx 0 _ rfl
  have e : o + j * HK.k + 0 = o + j := by show o + j * 1 + 0 = o + j; omega
  rwa [e] at h1
theorem ZK.two {w : World} {b o : Nat} {l : List Zv} (h : ZK.At w b o l) {j : Nat} {x : Zv} (hx : l[j]? = some x) : w.cell? ⟨b, o + j * 2, none⟩ = some (.string x.name) ∧ w.cell? ⟨b, o + j * 2 + 1, none⟩ = some (.slice x.h.a x.h.n x.h.c) :=
  ⟨h j x hx 0 _ rfl, h j x hx 1 _ rfl⟩
theorem FK.last {w : World} {b o : Nat} {l : List Fv} (h : FK.At w b o l) {j : Nat} {x : Fv} (hx : l[j]? = some x) : w.cell? ⟨b, o + j * 11 + 10, none⟩ = some (.slice x.h.a x.h.n x.h.c) := h j x hx 10 _ rfl

/-- How a plan lies: its zones, their answers, those of one; its rows of fates. -/
def AnsP (w : World) (h : Hv) (l : List Ad) : Prop := h.n = l.length ∧ AK.RowC w h.a h.c l
def ZoP (w : World) (z : Zv) (b : Zo) : Prop := z.name = b.name ∧ z.h.n = b.ans.length ∧ ∃ hs, HK.NestC AnsP w z.h.a z.h.c hs b.ans
def FoP (w : World) (f : Fv) (b : Fo) : Prop := f.ad = b.ad ∧ f.h.n = b.l.length ∧ JK.RowC w f.h.a f.h.c b.l
theorem ansP_steady : Steady AnsP := fun w w' h b hp hb => ⟨hp.1, hp.2.below hb⟩
theorem zoP_steady : Steady ZoP := fun w w' h b hp hb => by
  obtain ⟨h1, h2, hs, h3⟩ := hp
  exact ⟨h1, h2, hs, h3.below ansP_steady hb⟩
theorem foP_steady : Steady FoP := fun w w' h b hp hb => ⟨hp.1, hp.2.1, hp.2.2.below hb⟩
/-- A plan's slices' headers: zones, fates, drops (the lengths are the rows'). -/
structure Pv where
  za : Option Addr
  zc : Nat
  fa : Option Addr
  fc : Nat
  da : Option Addr
  dc : Nat
structure PlanC (w : World) (v : Pv) (P : Pl) : Prop where
  zones : ∃ hs, ZK.NestC ZoP w v.za v.zc hs P.zones
  fates : ∃ hs, FK.NestC FoP w v.fa v.fc hs P.fates
  drops : IK.RowC w v.da v.dc P.drops
theorem PlanC.below {w w' : World} {v : Pv} {P : Pl} (h : PlanC w v P) (hb : Below w.heap.size w w') : PlanC w' v P := by
  obtain ⟨⟨hs, h1⟩, ⟨fs, h2⟩, h3⟩ := h
  exact ⟨⟨hs, h1.below zoP_steady hb⟩, ⟨fs, h2.below foP_steady hb⟩, h3.below hb⟩
def Pv.val (v : Pv) (P : Pl) : Value := .agg #[.slice v.za P.zones.length v.zc, .slice v.fa P.fates.length v.fc, .int .i64 P.ticks, .slice v.da P.drops.length v.dc]

theorem eqItems_u16 (d : Nat) (w : World) (xs ys : Array Value) : ∀ (is : List Nat) (ks bs : List Int), is.length = ks.length → is.length = bs.length →
    (∀ (j i : Nat) (a : Int), is[j]? = some i → ks[j]? = some a → xs[i]? = some (Value.int .u16 a)) → (∀ (j i : Nat) (b : Int), is[j]? = some i → bs[j]? = some b → ys[i]? = some (Value.int .u16 b)) →
    (Op.eqItems (d + 1) 28 1 xs ys is).run Try.prog w = .ok (ks == bs) w
  | [], [], [], _, _, _, _ => by simp [Op.eqItems]
  | [], _ :: _, _, h, _, _, _ => by simp at h
  | [], _, _ :: _, _, h, _, _ => by simp at h
  | _ :: _, [], _, h, _, _, _ => by simp at h
  | _ :: _, _, [], _, h, _, _ => by simp at h
  | i :: is, a :: ks, b :: bs, h1, h2, h3, h4 => by
    have ha := h3 0 i a rfl rfl
    have hb := h4 0 i b rfl rfl
    have hk : Try.prog.plainKey 28 = true := by kernel_rfl
    simp only [Op.eqItems, Sem.run_bind, Nat.mul_one, run_part_plain w hk ha, run_part_plain w hk hb, Result.andThen_ok, run_equalIn_int w d _ _ _ a b Try.underlying28]
    by_cases hab : a = b
    · subst hab
      have ih := eqItems_u16 d w xs ys is ks bs (by simpa using h1) (by simpa using h2) (fun j i a hi ha => h3 (j + 1) i a (by simpa using hi) (by simpa using ha)) (fun j i b hi hb => h4 (j + 1) i b (by simpa using hi) (by simpa using hb))
      simpa using ih
    · simp [hab]
theorem at8 (g0 g1 g2 g3 g4 g5 g6 g7 : Int) (j i : Nat) (a : Int) (hi : (List.range 8)[j]? = some i) (ha : [g0, g1, g2, g3, g4, g5, g6, g7][j]? = some a) :
    (#[Value.int .u16 g0, .int .u16 g1, .int .u16 g2, .int .u16 g3, .int .u16 g4, .int .u16 g5, .int .u16 g6, .int .u16 g7] : Array Value)[i]? = some (.int .u16 a) := by
  have hij : i = j ∧ j < 8 := by
    have := List.getElem?_eq_some_iff.1 hi
    obtain ⟨h, e⟩ := this
    simp at h e
    omega
  obtain ⟨rfl, hlt⟩ := hij
  match i, hlt with
  | 0, _ | 1, _ | 2, _ | 3, _ | 4, _ | 5, _ | 6, _ | 7, _ => simp at ha ⊢; exact ha
theorem equalIn_groups (d : Nat) (w : World) (g0 g1 g2 g3 g4 g5 g6 g7 k0 k1 k2 k3 k4 k5 k6 k7 : Int) :
    (Op.equalIn (d + 2) 29 (.agg #[.int .u16 g0, .int .u16 g1, .int .u16 g2, .int .u16 g3, .int .u16 g4, .int .u16 g5, .int .u16 g6, .int .u16 g7]) (.agg #[.int .u16 k0, .int .u16 k1, .int .u16 k2, .int .u16 k3, .int .u16 k4, .int .u16 k5, .int .u16 k6, .int .u16 k7])).run Try.prog w = .ok ([g0, g1, g2, g3, g4, g5, g6, g7] == [k0, k1, k2, k3, k4, k5, k6, k7]) w := by
  obtain ⟨i, hi⟩ : ∃ i, Try.prog.info? 28 = some i := info_of_underlying Try.underlying28
  rw [run_equalIn_array w (d + 1) _ _ Try.underlying29 hi, show Try.prog.cellsOf 28 = 1 from by kernel_rfl]
  exact eqItems_u16 d w _ _ (List.range 8) _ _ rfl rfl (at8 _ _ _ _ _ _ _ _) (at8 _ _ _ _ _ _ _ _)

def Ad.v (a : Ad) : Value := .agg #[.int .i8 a.f, .int .u16 a.g0, .int .u16 a.g1, .int .u16 a.g2, .int .u16 a.g3, .int .u16 a.g4, .int .u16 a.g5, .int .u16 a.g6, .int .u16 a.g7, .int .i64 a.p]
theorem equalIn_addr (d : Nat) (w : World) (a b : Ad) : (Op.equalIn (d + 3) 31 a.v b.v).run Try.prog w = .ok (a == b) w := by
  have hS : Try.prog.underlying 31 = some (.struct (Try.prog.fieldsOf 31)) := by kernel_rfl
  have hp : Try.prog.stoodInHeld 31 = false := by kernel_rfl
  have u1 := Try.underlying27
  have u2 := Try.underlying3
  have a1 := Try.isAgg27
  have a2 := Try.isAgg3
  have a3 := Try.isAgg29
  have z1 := Try.sizeOf27
  have z2 := Try.sizeOf3
  have z3 := Try.sizeOf29
  have he := fun d w => equalIn_groups d w a.g0 a.g1 a.g2 a.g3 a.g4 a.g5 a.g6 a.g7 b.g0 b.g1 b.g2 b.g3 b.g4 b.g5 b.g6 b.g7
  obtain ⟨f, g0, g1, g2, g3, g4, g5, g6, g7, p⟩ := a
  obtain ⟨f', k0, k1, k2, k3, k4, k5, k6, k7, p'⟩ := b
  simp only [Ad.v] at *
  rw [show d + 3 = d + 2 + 1 from rfl, run_equalIn_agg w _ _ _ _ hS hp]
  simp only [Program.fieldsOf, Try.underlying31]
  have he' := he d
  have e : ((⟨f, g0, g1, g2, g3, g4, g5, g6, g7, p⟩ : Ad) == ⟨f', k0, k1, k2, k3, k4, k5, k6, k7, p'⟩) = (f == f' && ([g0, g1, g2, g3, g4, g5, g6, g7] == [k0, k1, k2, k3, k4, k5, k6, k7] && p == p')) := by
    rw [Bool.eq_iff_iff]
    simp only [beq_iff_eq, Ad.mk.injEq, Bool.and_eq_true, List.cons.injEq, and_true, and_assoc]
  rw [e]
  generalize ([g0, g1, g2, g3, g4, g5, g6, g7] == [k0, k1, k2, k3, k4, k5, k6, k7]) = B at he'
  go_simp
  by_cases h1 : f = f' <;> by_cases h2 : p = p' <;> cases B <;> simp_all
end Go.Proofs.Ytlceeeajhejedaa
