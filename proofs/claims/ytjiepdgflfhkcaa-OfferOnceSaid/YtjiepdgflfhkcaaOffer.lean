/- Cases, meetings, rows of cases as plain data; what is ready, by the document's words; '==' of meetings. -/
import Derived.Test.YtjiepdgflfhkcaaBoxes
import Derived.Test.YtjiepdgflfhkcaaReady
set_option linter.unusedSimpArgs false
set_option linter.unusedVariables false
namespace Go.Proofs.Ytjiepdgflfhkcaa
open Go.RowKit Go.Proofs.Ytjiepdgflfhkcaa.Kind Go.Proofs.Ytjiepdgflfhkcaa.P7

/-- A case. -/
structure Of where
  kind : Int
  duct : Int
  m : Lt
  t : Int
  deriving DecidableEq, Inhabited
def Of.enc (x : Of) : List Value := [.int .i8 x.kind, .int .i64 x.duct, .int .i8 x.m.kind, .int .i64 x.m.fr, .int .i64 x.m.num, .int .i64 x.m.sock, .string x.m.text, .int .i64 x.m.e, .int .i64 x.t]
def Of.v (x : Of) : Value := .agg #[.int .i8 x.kind, .int .i64 x.duct, .int .i8 x.m.kind, .int .i64 x.m.fr, .int .i64 x.m.num, .int .i64 x.m.sock, .string x.m.text, .int .i64 x.m.e, .int .i64 x.t]
def OK : Kind Try.prog Of where
  enc := Of.enc
  k := 9
  T := 38
  S := 31
  z := .agg #[.int .i8 0, .int .i64 0, .int .i8 0, .int .i64 0, .int .i64 0, .int .i64 0, .string ⟨#[]⟩, .int .i64 0, .int .i64 0]
  bytes := 80
  hk := fun _ => rfl
  h1 := by
    intro x v hv
    simp only [Of.enc, List.mem_cons, List.not_mem_nil, or_false] at hv
    rcases hv with rfl | rfl | rfl | rfl | rfl | rfl | rfl | rfl | rfl <;> rfl
  hu := Try.underlying31
  hi := by kernel_rfl
  hz := rfl
  hk0 := by decide
  hb := by decide
theorem OK.nine {w : World} {b o : Nat} {l : List Of} (h : OK.At w b o l) {j : Nat} {x : Of} (hx : l[j]? = some x) :
    w.cell? ⟨b, o + j * 9, none⟩ = some (.int .i8 x.kind) ∧ w.cell? ⟨b, o + j * 9 + 1, none⟩ = some (.int .i64 x.duct) ∧ w.cell? ⟨b, o + j * 9 + 2, none⟩ = some (.int .i8 x.m.kind) ∧ w.cell? ⟨b, o + j * 9 + 3, none⟩ = some (.int .i64 x.m.fr) ∧ w.cell? ⟨b, o + j * 9 + 4, none⟩ = some (.int .i64 x.m.num) ∧
    w.cell? ⟨b, o + j * 9 + 5, none⟩ = some (.int .i64 x.m.sock) ∧ w.cell? ⟨b, o + j * 9 + 6, none⟩ = some (.string x.m.text) ∧ w.cell? ⟨b, o + j * 9 + 7, none⟩ = some (.int .i64 x.m.e) ∧ w.cell? ⟨b, o + j * 9 + 8, none⟩ = some (.int .i64 x.t) :=
  ⟨h j x hx 0 _ rfl, h j x hx 1 _ rfl, h j x hx 2 _ rfl, h j x hx 3 _ rfl, h j x hx 4 _ rfl, h j x hx 5 _ rfl, h j x hx 6 _ rfl, h j x hx 7 _ rfl, h j x hx 8 _ rfl⟩

def Mt.enc (x : Mt) : List Value := [.int .i64 x.p, .int .i64 x.i, .int .i64 x.q, .int .i64 x.j]
def Mt.v (x : Mt) : Value := .agg #[.int .i64 x.p, .int .i64 x.i, .int .i64 x.q, .int .i64 x.j]
def MK : Kind Try.prog Mt where
  enc := Mt.enc
  k := 4
  T := 30
  S := 27
  z := .agg #[.int .i64 0, .int .i64 0, .int .i64 0, .int .i64 0]
  bytes := 32
  hk := fun _ => rfl
  h1 := by
    intro x v hv
    simp only [Mt.enc, List.mem_cons, List.not_mem_nil, or_false] at hv
    rcases hv with rfl | rfl | rfl | rfl <;> rfl
  hu := Try.underlying27
  hi := by kernel_rfl
  hz := rfl
  hk0 := by decide
  hb := by decide
theorem MK.four {w : World} {b o : Nat} {l : List Mt} (h : MK.At w b o l) {j : Nat} {x : Mt} (hx : l[j]? = some x) :
    w.cell? ⟨b, o + j * 4, none⟩ = some (.int .i64 x.p) ∧ w.cell? ⟨b, o + j * 4 + 1, none⟩ = some (.int .i64 x.i) ∧ w.cell? ⟨b, o + j * 4 + 2, none⟩ = some (.int .i64 x.q) ∧ w.cell? ⟨b, o + j * 4 + 3, none⟩ = some (.int .i64 x.j) :=
  ⟨h j x hx 0 _ rfl, h j x hx 1 _ rfl, h j x hx 2 _ rfl, h j x hx 3 _ rfl⟩

/-- Where a row of cases lies. -/
structure Hv where
  a : Option Addr
  n : Nat
  c : Nat
  deriving Inhabited
def RK : Kind Try.prog Hv where
  enc := fun h => [.slice h.a h.n h.c]
  k := 1
  T := 31
  S := 22
  z := .slice none 0 0
  bytes := 24
  hk := fun _ => rfl
  h1 := by
    intro x v hv
    simp only [List.mem_cons, List.not_mem_nil, or_false] at hv
    subst hv
    rfl
  hu := Try.underlying22
  hi := by kernel_rfl
  hz := rfl
  hk0 := by decide
  hb := by decide
theorem RK.one {w : World} {b o : Nat} {l : List Hv} (h : RK.At w b o l) {j : Nat} {x : Hv} (hx : l[j]? = some x) : w.cell? ⟨b, o + j, none⟩ = some (.slice x.a x.n x.c) := by
  have h1 := h j x hx 0 _ rfl
  have e : o + j * RK.k + 0 = o + j := by show o + j * 1 + 0 = o + j; omega
  rwa [e] at h1
/-- Rows of cases, where they lie. -/
def Over (w : World) (hs : List Hv) (R : List (List Of)) : Prop := hs.length = R.length ∧ ∀ (j : Nat) (h : Hv) (l : List Of), hs[j]? = some h → R[j]? = some l → h.n = l.length ∧ OK.RowC w h.a h.c l
def RowsC (w : World) (a : Option Addr) (c : Nat) (hs : List Hv) (R : List (List Of)) : Prop := RK.RowC w a c hs ∧ Over w hs R
theorem Over.below {w w' : World} {hs : List Hv} {R : List (List Of)} (h : Over w hs R) (hb : Below w.heap.size w w') : Over w' hs R := ⟨h.1, fun j x l h1 h2 => ⟨(h.2 j x l h1 h2).1, (h.2 j x l h1 h2).2.below hb⟩⟩
theorem RowsC.below {w w' : World} {a : Option Addr} {c : Nat} {hs : List Hv} {R : List (List Of)} (h : RowsC w a c hs R) (hb : Below w.heap.size w w') : RowsC w' a c hs R := ⟨h.1.below hb, h.2.below hb⟩
theorem RowsC.at {w : World} {a : Option Addr} {c : Nat} {hs : List Hv} {R : List (List Of)} (h : RowsC w a c hs R) {p : Nat} {row : List Of} (hp : R[p]? = some row) : ∃ (b o : Nat) (x : Hv), a = some ⟨b, o, none⟩ ∧ b < w.heap.size ∧ w.cell? ⟨b, o + p, none⟩ = some (.slice x.a row.length x.c) ∧ OK.RowC w x.a x.c row := by
  have hlt : p < hs.length := by rw [h.2.1]; exact (List.getElem?_eq_some_iff.1 hp).1
  obtain ⟨b, o, h1, h2, h3⟩ := h.1.2.2.2 (by omega)
  have hx : hs[p]? = some hs[p] := List.getElem?_eq_getElem hlt
  obtain ⟨h4, h5⟩ := h.2.2 p hs[p] row hx hp
  have h6 := RK.one h3 hx
  rw [h4] at h6
  exact ⟨b, o, hs[p], h1, h2, h6, h5⟩

/-- The duct of a number. -/
def atP (D : List Dv) (n : Int) : Option Dv := if n < 0 then none else D[n.toNat]?
theorem atP_some {D : List Dv} {n : Int} {d : Dv} (h : atP D n = some d) : ∃ k : Nat, n = k ∧ D[k]? = some d := by
  unfold atP at h
  split at h
  · cases h
  · exact ⟨n.toNat, by omega, h⟩
def roomB (cap : Int) (n : Nat) (cl : Bool) : Int := if cl = true ∨ cap ≤ (n : Int) then 0 else cap - n
def clampP (t : Int) : Int := if t < 0 then 0 else if 1073741824 < t then 1073741824 else t
def aloneP (D : List Dv) (clock : Int) (o : Of) (dial look : Bool) : Bool :=
  if o.kind = 0 then (match atP D o.duct with | some d => decide (0 < roomB d.cap d.n d.closed) | none => false)
  else if o.kind = 1 then (match atP D o.duct with | some d => decide (0 < d.n) || d.closed | none => false)
  else if o.kind = 2 then decide (clampP o.t ≤ clampP clock)
  else if o.kind = 3 then dial
  else if o.kind = 4 then look
  else false
def meetP (D : List Dv) (a b : Of) : Bool := match atP D a.duct with
  | some d => decide (a.kind = 0) && decide (b.kind = 1) && decide (a.duct = b.duct) && decide (d.cap = 0) && !d.closed
  | none => false
def told (l : List Bool) (k : Nat) : Bool := l.getD k false
/-- What is ready. -/
def ready (R : List (List Of)) (D : List Dv) (clock : Int) (dial look : List Bool) : List Mt := allP (fun p _ o => aloneP D clock o (told dial p) (told look p)) (meetP D) R
theorem meetP_true {D : List Dv} {a b : Of} (h : meetP D a b = true) : ∃ d, atP D a.duct = some d ∧ a.kind = 0 ∧ b.kind = 1 ∧ a.duct = b.duct ∧ d.cap = 0 ∧ d.closed = false := by
  unfold meetP at h
  split at h
  · rename_i d hd
    simp only [Bool.and_eq_true, decide_eq_true_eq, Bool.not_eq_true'] at h
    exact ⟨d, hd, h.1.1.1.1, h.1.1.1.2, h.1.1.2, h.1.2, h.2⟩
  · cases h

theorem guard_meet (op : BinOp) (x y : Operand) (xs ys : Array Value) (w : World) : (eqGuard op 30 x y (.agg xs) (.agg ys)).run Try.prog w = .ok () w := run_eqGuard_agg w op _ x y xs ys (by kernel_rfl)
set_option maxHeartbeats 1000000 in
theorem equalIn_meet (w : World) (a b : Mt) : (Op.equalIn 10000 30 (Mt.v a) (Mt.v b)).run Try.prog w = .ok (a == b) w := by
  have hS : Try.prog.underlying 30 = some (.struct (Try.prog.fieldsOf 30)) := by kernel_rfl
  have hp : Try.prog.stoodInHeld 30 = false := by kernel_rfl
  have u2 := Try.underlying3
  have a2 := Try.isAgg3
  have z2 := Try.sizeOf3
  obtain ⟨p, i, q, j⟩ := a
  obtain ⟨p', i', q', j'⟩ := b
  simp only [Mt.v] at *
  rw [show (10000 : Nat) = 9999 + 1 from rfl, run_equalIn_agg w _ _ _ _ hS hp]
  simp only [Program.fieldsOf, Try.underlying30]
  have ee : ((⟨p, i, q, j⟩ : Mt) == ⟨p', i', q', j'⟩) = (p == p' && (i == i' && (q == q' && j == j'))) := by
    rw [Bool.eq_iff_iff]
    simp only [beq_iff_eq, Mt.mk.injEq, Bool.and_eq_true]
  rw [ee]
  go_simp
  clear ee
  by_cases h1 : p = p' <;> by_cases h2 : i = i' <;> by_cases h3 : q = q' <;> by_cases h4 : j = j' <;> simp_all
theorem eql_meet (w : World) (a b : Mt) : (binOp .eql 30 (Mt.v a) (Mt.v b)).run Try.prog w = .ok (.bool (a == b)) w := by
  have h := equalIn_meet w a b
  simp only [Mt.v] at h ⊢
  rw [run_eql_struct, h]
  rfl
theorem neq_meet (w : World) (a b : Mt) : (binOp .neq 30 (Mt.v a) (Mt.v b)).run Try.prog w = .ok (.bool (a != b)) w := by
  have h := equalIn_meet w a b
  simp only [Mt.v] at h ⊢
  rw [run_neq_struct, h]
  rfl
end Go.Proofs.Ytjiepdgflfhkcaa
