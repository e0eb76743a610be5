/- What is asked of the program's calls: the document's words, as contracts. -/
import Derived.Test.YtlceeeajhejedaaBoxes
set_option linter.unusedSimpArgs false
set_option linter.unusedVariables false
namespace Go.Proofs.Ytlceeeajhejedaa
open Go.RowKit Go.Proofs.Ytlceeeajhejedaa.Kind

instance : DecidableEq ByteArray := fun a b => if h : a.data = b.data then isTrue (by cases a; cases b; simp_all) else isFalse (fun e => h (by rw [e]))
/-- The place of what comes n-th of so many (of none: 0). -/
def nthI (n : Int) (many : Nat) : Nat := min n.toNat (many - 1)
def zoneOf (P : Pl) (s : ByteArray) : Option Zo := P.zones.find? (fun z => decide (z.name = s))
def rowOf (P : Pl) (a : Ad) : Option Fo := P.fates.find? (fun f => decide (f.ad = a))
def answerP (P : Pl) (s : ByteArray) (n : Int) : List Ad := match zoneOf P s with | none => [] | some z => (z.ans[nthI n z.ans.length]?).getD []
def answerE (P : Pl) (s : ByteArray) (n : Int) : Int := if (answerP P s n).length = 0 then 110 else 0
def fateP (P : Pl) (a : Ad) (n : Int) : Int := match rowOf P a with | none => 1 | some f => (f.l[nthI n f.l.length]?).getD 1
def goodOne (P : Pl) (a : Ad) : Bool := match rowOf P a with | none => false | some f => decide (0 < f.l.length) && f.l.all (fun x => decide (x = 0))
def goodP (P : Pl) (l : List Ad) : Bool := l.all (goodOne P)
/-- An address whose numbers are of their kinds. -/
def okA (a : Ad) : Prop := (-128 ≤ a.f ∧ a.f ≤ 127) ∧ ((0 ≤ a.g0 ∧ a.g0 ≤ 65535) ∧ (0 ≤ a.g1 ∧ a.g1 ≤ 65535) ∧ (0 ≤ a.g2 ∧ a.g2 ≤ 65535) ∧ (0 ≤ a.g3 ∧ a.g3 ≤ 65535) ∧ (0 ≤ a.g4 ∧ a.g4 ≤ 65535) ∧ (0 ≤ a.g5 ∧ a.g5 ≤ 65535) ∧ (0 ≤ a.g6 ∧ a.g6 ≤ 65535) ∧ (0 ≤ a.g7 ∧ a.g7 ≤ 65535)) ∧ -9223372036854775808 ≤ a.p ∧ a.p ≤ 9223372036854775807
/-- No answer is greater than memory; the rows' addresses are addresses. -/
def Fits (P : Pl) : Prop := (∀ z ∈ P.zones, ∀ l ∈ z.ans, l.length ≤ 4398046511104) ∧ ∀ f ∈ P.fates, okA f.ad


def AnswerSpec : Prop := ∀ (P : Pl) (v : Pv) (s : ByteArray) (n : Int) (w : World) (L : List Ad) (r : Int), Fits P → PlanC w v P → L = answerP P s n → r = answerE P s n →
  Calls Try.prog 8 #[v.val P, .string s, .int .i64 n] w fun e w' => ∃ a c, e = .returned (.tuple #[.slice a L.length c, .int .i64 r]) ∧ AK.RowC w' a c L ∧ Below w.heap.size w w'
def FateSpec : Prop := ∀ (P : Pl) (v : Pv) (a : Ad) (n : Int) (w : World) (r : Int), PlanC w v P → r = fateP P a n →
  Calls Try.prog 10 #[v.val P, a.v, .int .i64 n] w fun e w' => e = .returned (.int .i8 r) ∧ Below w.heap.size w w'
def GoodSpec : Prop := ∀ (P : Pl) (v : Pv) (l : List Ad) (a : Option Addr) (c : Nat) (w : World) (r : Bool), Fits P → (∀ x ∈ l, okA x) → PlanC w v P → AK.RowC w a c l → r = goodP P l →
  Calls Try.prog 11 #[v.val P, .slice a l.length c] w fun e w' => e = .returned (.bool r) ∧ Below w.heap.size w w'
def WakesSpec : Prop := ∀ w : World, Calls Try.prog 7 #[] w fun e w' => e = .returned (.bool true) ∧ Below w.heap.size w w'

/-- What a zone, a row of fates may be (the document's words of names and addresses: given by the round). -/
structure Rules where
  zok : Zo → Bool
  fok : Fo → Bool
def checkB (R : Rules) (P : Pl) : Bool := decide (P.zones.length ≤ 8) && P.zones.all R.zok && decide ((P.zones.map (·.name)).Nodup) && decide (P.fates.length ≤ 32) && P.fates.all R.fok && decide ((P.fates.map (·.ad)).Nodup) && decide (0 ≤ P.ticks ∧ P.ticks ≤ 200) && decide (P.drops.length ≤ 16) && P.drops.all (fun d => decide (0 ≤ d))
/-- What a plan that is not too great is. -/
def Small (P : Pl) : Prop := ∀ z ∈ P.zones, z.name.size ≤ 400 ∧ z.ans.length ≤ 60
def Few (P : Pl) : Prop := Small P ∧ P.zones.length ≤ 40 ∧ P.fates.length ≤ 100
def CheckSpec (R : Rules) : Prop := ∀ (P : Pl) (v : Pv) (w : World) (r : Int), Small P → PlanC w v P → r = (if checkB R P = true then 0 else 90) →
  Calls Try.prog 13 #[v.val P] w fun e w' => e = .returned (.int .i64 r) ∧ Below w.heap.size w w'
/-- The names, rising, each once. -/
structure NamesP (P : Pl) (L : List ByteArray) : Prop where
  rise : ∀ (i : Nat) (x y : ByteArray), L[i]? = some x → L[i + 1]? = some y → Op.bytesLess x.toList y.toList = true
  mem : ∀ s, s ∈ L ↔ ∃ z ∈ P.zones, z.name = s
  once : L.Nodup
def NamesSpec : Prop := ∀ (P : Pl) (v : Pv) (w : World), Few P → PlanC w v P →
  Calls Try.prog 12 #[v.val P] w fun e w' => ∃ L a c, e = .returned (.slice a (List.length L) c) ∧ TK.RowC w' a c L ∧ NamesP P L ∧ Below w.heap.size w w'
theorem names_one {P : Pl} {L : List ByteArray} {z : Zo} (hz : P.zones = [z]) (h : NamesP P L) : L.length = 1 := by
  have h1 : z.name ∈ L := (h.mem _).2 ⟨z, by simp [hz], rfl⟩
  match L, h1, h with
  | [_], _, _ => rfl
  | x :: y :: r, _, h =>
    obtain ⟨a, ha, e1⟩ := (h.mem x).1 (by simp)
    obtain ⟨b, hb, e2⟩ := (h.mem y).1 (by simp)
    rw [hz] at ha hb
    simp at ha hb
    subst ha hb
    have := h.once
    rw [← e1, ← e2] at this
    simp at this

theorem nth_late {n m : Int} {k : Nat} (h1 : (k : Int) ≤ n) (h2 : (k : Int) ≤ m) : nthI n k = nthI m k := by
  unfold nthI
  omega
theorem nth_neg {n : Int} {k : Nat} (h : n ≤ 0) : nthI n k = nthI 0 k := by
  unfold nthI
  omega
theorem answer_late {P : Pl} {s : ByteArray} {n m : Int} (h : ∀ z ∈ P.zones, (z.ans.length : Int) ≤ n ∧ (z.ans.length : Int) ≤ m) : answerP P s n = answerP P s m := by
  unfold answerP
  cases hz : zoneOf P s with
  | none => rfl
  | some z =>
    have := h z (List.mem_of_find?_eq_some hz)
    dsimp only
    rw [nth_late this.1 this.2]
theorem answer_neg {P : Pl} {s : ByteArray} {n : Int} (h : n ≤ 0) : answerP P s n = answerP P s 0 := by
  unfold answerP
  cases hz : zoneOf P s with
  | none => rfl
  | some z =>
    dsimp only
    rw [nth_neg h]
theorem fate_late {P : Pl} {a : Ad} {n m : Int} (h : ∀ f ∈ P.fates, (f.l.length : Int) ≤ n ∧ (f.l.length : Int) ≤ m) : fateP P a n = fateP P a m := by
  unfold fateP
  cases hz : rowOf P a with
  | none => rfl
  | some z =>
    have := h z (List.mem_of_find?_eq_some hz)
    dsimp only
    rw [nth_late this.1 this.2]
theorem fate_neg {P : Pl} {a : Ad} {n : Int} (h : n ≤ 0) : fateP P a n = fateP P a 0 := by
  unfold fateP
  cases hz : rowOf P a with
  | none => rfl
  | some z =>
    dsimp only
    rw [nth_neg h]
theorem fate_good {P : Pl} {a : Ad} (h : goodP P [a] = true) (n : Int) : fateP P a n = 0 := by
  unfold goodP at h
  simp only [List.all_cons, List.all_nil, Bool.and_true] at h
  unfold goodOne at h
  unfold fateP
  cases hz : rowOf P a with
  | none => rw [hz] at h; cases h
  | some f =>
    rw [hz] at h
    simp only [Bool.and_eq_true, decide_eq_true_eq, List.all_eq_true] at h
    dsimp only
    have hlt : nthI n f.l.length < f.l.length := by unfold nthI; omega
    rw [List.getElem?_eq_getElem hlt]
    exact h.2 _ (List.getElem_mem _)

theorem guard_ad (op : BinOp) (x y : Operand) (xs ys : Array Value) (w : World) : (eqGuard op 31 x y (.agg xs) (.agg ys)).run Try.prog w = .ok () w := run_eqGuard_agg w op _ x y xs ys (by kernel_rfl)
theorem neq_self_ad (x : Ad) (W : World) : (binOp .neq 31 (.agg #[.int .i8 x.f, .int .u16 x.g0, .int .u16 x.g1, .int .u16 x.g2, .int .u16 x.g3, .int .u16 x.g4, .int .u16 x.g5, .int .u16 x.g6, .int .u16 x.g7, .int .i64 x.p]) (.agg #[.int .i8 x.f, .int .u16 x.g0, .int .u16 x.g1, .int .u16 x.g2, .int .u16 x.g3, .int .u16 x.g4, .int .u16 x.g5, .int .u16 x.g6, .int .u16 x.g7, .int .i64 x.p])).run Try.prog W = .ok (.bool false) W := by
  have h := equalIn_addr 9997 W x x
  simp only [Go.Proofs.Ytlceeeajhejedaa.Ad.v] at h
  rw [run_neq_struct, h]
  simp
theorem eql_self_ad (x : Ad) (W : World) : (binOp .eql 31 (.agg #[.int .i8 x.f, .int .u16 x.g0, .int .u16 x.g1, .int .u16 x.g2, .int .u16 x.g3, .int .u16 x.g4, .int .u16 x.g5, .int .u16 x.g6, .int .u16 x.g7, .int .i64 x.p]) (.agg #[.int .i8 x.f, .int .u16 x.g0, .int .u16 x.g1, .int .u16 x.g2, .int .u16 x.g3, .int .u16 x.g4, .int .u16 x.g5, .int .u16 x.g6, .int .u16 x.g7, .int .i64 x.p])).run Try.prog W = .ok (.bool true) W := by
  have h := equalIn_addr 9997 W x x
  simp only [Go.Proofs.Ytlceeeajhejedaa.Ad.v] at h
  rw [run_eql_struct, h]
  simp
theorem kept_self {A : Prop} {W0 W : World} (h : A ∧ Below W0.heap.size W0 W) : Below W0.heap.size W0 W := h.2
theorem box10 {w : World} {g : Nat} {x : Ad} {t : TypeId} (h : w.heap[g]? = some (.cells #[.int .i8 x.f, .int .u16 x.g0, .int .u16 x.g1, .int .u16 x.g2, .int .u16 x.g3, .int .u16 x.g4, .int .u16 x.g5, .int .u16 x.g6, .int .u16 x.g7, .int .i64 x.p] t (0, 0))) :
    (w.cell? ⟨g, 0, none⟩ = some (.int .i8 x.f) ∧ w.cell? ⟨g, 1, none⟩ = some (.int .u16 x.g0) ∧ w.cell? ⟨g, 2, none⟩ = some (.int .u16 x.g1) ∧ w.cell? ⟨g, 3, none⟩ = some (.int .u16 x.g2) ∧ w.cell? ⟨g, 4, none⟩ = some (.int .u16 x.g3)) ∧
    (w.cell? ⟨g, 5, none⟩ = some (.int .u16 x.g4) ∧ w.cell? ⟨g, 6, none⟩ = some (.int .u16 x.g5) ∧ w.cell? ⟨g, 7, none⟩ = some (.int .u16 x.g6) ∧ w.cell? ⟨g, 8, none⟩ = some (.int .u16 x.g7) ∧ w.cell? ⟨g, 9, none⟩ = some (.int .i64 x.p)) := by
  simp [World.cell?, h]

theorem load10 {w : World} {b : Nat} {x : Ad} {t : TypeId} (h : w.heap[b]? = some (.cells #[.int .i8 x.f, .int .u16 x.g0, .int .u16 x.g1, .int .u16 x.g2, .int .u16 x.g3, .int .u16 x.g4, .int .u16 x.g5, .int .u16 x.g6, .int .u16 x.g7, .int .i64 x.p] t (0, 0))) :
    (loadVar 31 ⟨b, 0, none⟩).run Try.prog w = .ok (.agg #[.int .i8 x.f, .int .u16 x.g0, .int .u16 x.g1, .int .u16 x.g2, .int .u16 x.g3, .int .u16 x.g4, .int .u16 x.g5, .int .u16 x.g6, .int .u16 x.g7, .int .i64 x.p]) w := by
  obtain ⟨⟨h0, h1, h2, h3, h4⟩, h5, h6, h7, h8, h9⟩ := box10 h
  have a3 := Try.isAgg31
  have z3 := Try.sizeOf31
  have a4 := Try.isAgg29
  have z4 := Try.sizeOf29
  clear h
  simp [loadVar, go_sem, *]
end Go.Proofs.Ytlceeeajhejedaa
