/- Cases that fit, an open duct, a case of a row, the letter, whether one is among many, which is picked. -/
import Derived.Test.YtjiepdgflfhkcaaFew
set_option linter.unusedSimpArgs false
set_option linter.unusedVariables false
namespace Go.Proofs.Ytjiepdgflfhkcaa
open Go.RowKit Go.Proofs.Ytjiepdgflfhkcaa.Kind Go.Proofs.Ytjiepdgflfhkcaa.P7

def fitB (a b : Of) : Bool := decide (a.kind = 0) && decide (b.kind = 1) && decide (a.duct = b.duct)
set_option maxHeartbeats 4000000 in
set_option maxRecDepth 1000000 in
theorem fit_any (a b : Of) (r : Bool) (hr : r = fitB a b) (w : World) :
    Calls Try.prog 21 #[.agg #[.int .i8 a.kind, .int .i64 a.duct, .int .i8 a.m.kind, .int .i64 a.m.fr, .int .i64 a.m.num, .int .i64 a.m.sock, .string a.m.text, .int .i64 a.m.e, .int .i64 a.t], .agg #[.int .i8 b.kind, .int .i64 b.duct, .int .i8 b.m.kind, .int .i64 b.m.fr, .int .i64 b.m.num, .int .i64 b.m.sock, .string b.m.text, .int .i64 b.m.e, .int .i64 b.t]] w fun e w' => e = .returned (.bool r) ∧ Below w.heap.size w w' := by
  have HB := Lib.hid (below2 w (.cells #[.int .i8 a.kind, .int .i64 a.duct, .int .i8 a.m.kind, .int .i64 a.m.fr, .int .i64 a.m.num, .int .i64 a.m.sock, .string a.m.text, .int .i64 a.m.e, .int .i64 a.t] 38) (.cells #[.int .i8 b.kind, .int .i64 b.duct, .int .i8 b.m.kind, .int .i64 b.m.fr, .int .i64 b.m.num, .int .i64 b.m.sock, .string b.m.text, .int .i64 b.m.e, .int .i64 b.t] 38))
  obtain ⟨k, d, m, t⟩ := a
  obtain ⟨k', d', m', t'⟩ := b
  have hr2 : r = (decide (k = 0) && decide (k' = 1) && decide (d = d')) := hr
  clear hr
  by_cases h1 : k = 0
  · subst h1
    by_cases h2 : k' = 1
    · subst h2
      obtain rfl : r = decide (d = d') := by rw [hr2]; simp
      clear hr2
      go_enter Try.func21, Try.ntmps21
      go_wp2_with fail
      go_ret
      refine ⟨ret_bo ?_, HB.out⟩
      by_cases h : d = d' <;> simp [h]
    · obtain rfl : r = false := by rw [hr2]; simp [h2]
      have g2 : (k' == 1) = false := by simp [h2]
      clear hr2
      go_enter Try.func21, Try.ntmps21
      go_wp2_with fail
      go_ret
      exact ⟨rfl, HB.out⟩
  · obtain rfl : r = false := by rw [hr2]; simp [h1]
    have g1 : (k == 0) = false := by simp [h1]
    clear hr2
    go_enter Try.func21, Try.ntmps21
    go_wp2_with fail
    go_ret
    exact ⟨rfl, HB.out⟩

def openB (D : List Dv) (n : Int) : Bool := (atP D n).isSome && (decide ((dvAt D n).cap = 0) && !(dvAt D n).closed)
set_option maxHeartbeats 4000000 in
set_option maxRecDepth 1000000 in
theorem open_any (D : List Dv) (p : Int) (r : Bool) (hr : r = openB D p) (b : Option Addr) (c : Nat) (w : World) (hR : DK.RowC w b c D) :
    Calls Try.prog 28 #[.slice b D.length c, .int .i64 p] w fun e w' => e = .returned (.bool r) ∧ Below w.heap.size w w' := by
  obtain ⟨x, hx⟩ : ∃ x, x = dvAt D p := ⟨_, rfl⟩
  obtain ⟨is, his⟩ : ∃ is, is = (atP D p).isSome := ⟨_, rfl⟩
  have HA := Lib.hid (atd_any D p x is hx his b c w hR)
  have hr2 : r = (is && (decide (x.cap = 0) && !x.closed)) := by rw [hr, hx, his]; rfl
  clear hr hx his hR
  obtain ⟨cap, a, n, cc, cl⟩ := x
  dsimp only at hr2 HA
  cases is with
  | false =>
    obtain rfl : r = false := by rw [hr2]; rfl
    clear hr2
    go_enter Try.func28, Try.ntmps28
    go_wp2_with fail
    with_reducible refine HA.out.mono ?_
    rintro e w1 ⟨rfl, hb⟩
    have HB := Lib.hid (hb.trans ((below1 w1 (.cells #[.int .i64 cap, .slice a n cc, .bool cl] 42)).mono hb.size))
    clear hb HA
    go_wp2_with fail
    go_ret
    exact ⟨rfl, HB.out⟩
  | true =>
    by_cases h1 : cap = 0
    · obtain rfl : r = !cl := by rw [hr2]; simp [h1]
      subst h1
      clear hr2
      go_enter Try.func28, Try.ntmps28
      go_wp2_with fail
      with_reducible refine HA.out.mono ?_
      rintro e w1 ⟨rfl, hb⟩
      have HB := Lib.hid (hb.trans ((below1 w1 (.cells #[.int .i64 0, .slice a n cc, .bool cl] 42)).mono hb.size))
      clear hb HA
      go_wp2_with fail
      go_ret
      exact ⟨rfl, HB.out⟩
    · obtain rfl : r = false := by rw [hr2]; simp [h1]
      have g1 : (cap == 0) = false := by simp [h1]
      clear hr2
      go_enter Try.func28, Try.ntmps28
      go_wp2_with fail
      with_reducible refine HA.out.mono ?_
      rintro e w1 ⟨rfl, hb⟩
      have HB := Lib.hid (hb.trans ((below1 w1 (.cells #[.int .i64 cap, .slice a n cc, .bool cl] 42)).mono hb.size))
      clear hb HA
      go_wp2_with fail
      go_ret
      exact ⟨rfl, HB.out⟩

/-- A case at a place; none's is a zero one. -/
def ofZero : Of := ⟨0, 0, Lt.zero, 0⟩
theorem box9f {w : World} {g : Nat} {x0 x1 x2 x3 x4 x5 x6 x7 x8 : Value} {t : TypeId} (h : w.heap[g]? = some (.cells #[x0, x1, x2, x3, x4, x5, x6, x7, x8] t (0, 0))) :
    w.frozen? ⟨g, 0, none⟩ = false ∧ w.frozen? ⟨g, 1, none⟩ = false ∧ w.frozen? ⟨g, 2, none⟩ = false ∧ w.frozen? ⟨g, 3, none⟩ = false ∧ w.frozen? ⟨g, 4, none⟩ = false ∧ w.frozen? ⟨g, 5, none⟩ = false ∧ w.frozen? ⟨g, 6, none⟩ = false ∧ w.frozen? ⟨g, 7, none⟩ = false ∧ w.frozen? ⟨g, 8, none⟩ = false := by
  simp [World.frozen?, h]
/-- Nine cells written. -/
def set9 (w : World) (b : Nat) (x0 x1 x2 x3 x4 x5 x6 x7 x8 : Value) : World := ((((((((w.setCell ⟨b, 0, none⟩ x0).setCell ⟨b, 1, none⟩ x1).setCell ⟨b, 2, none⟩ x2).setCell ⟨b, 3, none⟩ x3).setCell ⟨b, 4, none⟩ x4).setCell ⟨b, 5, none⟩ x5).setCell ⟨b, 6, none⟩ x6).setCell ⟨b, 7, none⟩ x7).setCell ⟨b, 8, none⟩ x8
theorem set9_at {w : World} {b : Nat} {y0 y1 y2 y3 y4 y5 y6 y7 y8 : Value} {t : TypeId} (h : w.heap[b]? = some (.cells #[y0, y1, y2, y3, y4, y5, y6, y7, y8] t (0, 0))) (x0 x1 x2 x3 x4 x5 x6 x7 x8 : Value) :
    (set9 w b x0 x1 x2 x3 x4 x5 x6 x7 x8).heap[b]? = some (.cells #[x0, x1, x2, x3, x4, x5, x6, x7, x8] t (0, 0)) := by
  have h0 := set_at h 0 x0
  rw [show (#[y0, y1, y2, y3, y4, y5, y6, y7, y8] : Array Value).setIfInBounds 0 x0 = #[x0, y1, y2, y3, y4, y5, y6, y7, y8] from rfl] at h0
  have h1 := set_at h0 1 x1
  rw [show (#[x0, y1, y2, y3, y4, y5, y6, y7, y8] : Array Value).setIfInBounds 1 x1 = #[x0, x1, y2, y3, y4, y5, y6, y7, y8] from rfl] at h1
  have h2 := set_at h1 2 x2
  rw [show (#[x0, x1, y2, y3, y4, y5, y6, y7, y8] : Array Value).setIfInBounds 2 x2 = #[x0, x1, x2, y3, y4, y5, y6, y7, y8] from rfl] at h2
  have h3 := set_at h2 3 x3
  rw [show (#[x0, x1, x2, y3, y4, y5, y6, y7, y8] : Array Value).setIfInBounds 3 x3 = #[x0, x1, x2, x3, y4, y5, y6, y7, y8] from rfl] at h3
  have h4 := set_at h3 4 x4
  rw [show (#[x0, x1, x2, x3, y4, y5, y6, y7, y8] : Array Value).setIfInBounds 4 x4 = #[x0, x1, x2, x3, x4, y5, y6, y7, y8] from rfl] at h4
  have h5 := set_at h4 5 x5
  rw [show (#[x0, x1, x2, x3, x4, y5, y6, y7, y8] : Array Value).setIfInBounds 5 x5 = #[x0, x1, x2, x3, x4, x5, y6, y7, y8] from rfl] at h5
  have h6 := set_at h5 6 x6
  rw [show (#[x0, x1, x2, x3, x4, x5, y6, y7, y8] : Array Value).setIfInBounds 6 x6 = #[x0, x1, x2, x3, x4, x5, x6, y7, y8] from rfl] at h6
  have h7 := set_at h6 7 x7
  rw [show (#[x0, x1, x2, x3, x4, x5, x6, y7, y8] : Array Value).setIfInBounds 7 x7 = #[x0, x1, x2, x3, x4, x5, x6, x7, y8] from rfl] at h7
  have h8 := set_at h7 8 x8
  rw [show (#[x0, x1, x2, x3, x4, x5, x6, x7, y8] : Array Value).setIfInBounds 8 x8 = #[x0, x1, x2, x3, x4, x5, x6, x7, x8] from rfl] at h8
  exact h8
theorem set9_below {w0 w : World} {n b : Nat} (h : Below n w0 w) (hn : n ≤ b) (x0 x1 x2 x3 x4 x5 x6 x7 x8 : Value) : Below n w0 (set9 w b x0 x1 x2 x3 x4 x5 x6 x7 x8) :=
  ((((((((h.setCell (p := ⟨b, 0, none⟩) hn _).setCell (p := ⟨b, 1, none⟩) hn _).setCell (p := ⟨b, 2, none⟩) hn _).setCell (p := ⟨b, 3, none⟩) hn _).setCell (p := ⟨b, 4, none⟩) hn _).setCell (p := ⟨b, 5, none⟩) hn _).setCell (p := ⟨b, 6, none⟩) hn _).setCell (p := ⟨b, 7, none⟩) hn _).setCell (p := ⟨b, 8, none⟩) hn _
theorem caseP_none {p i : Int} {R : List (List Of)} (hp : p < 0 ∨ (R.length : Int) ≤ p) : caseP R p i = none := by
  unfold caseP
  split
  · rfl
  · have : R[p.toNat]? = none := List.getElem?_eq_none (by omega)
    rw [this]
    rfl
theorem caseP_some {k : Nat} {i : Int} {R : List (List Of)} {row : List Of} (hk : R[k]? = some row) : caseP R k i = if i < 0 then none else row[i.toNat]? := by
  unfold caseP
  have : ¬ ((k : Int) < 0) := by omega
  simp only [this, false_or, Int.toNat_natCast, hk]
  rfl

set_option maxHeartbeats 4000000 in
set_option maxRecDepth 1000000 in
theorem case_walk (p i : Int) (n : Nat) (x : Of) (is b1 : Bool) (a ad : Option Addr) (c n' c' : Nat) (w : World)
    (HA : Calls Try.prog 30 #[.slice a n c, .int .i64 p] (w.alloc (.cells #[.int .i8 0, .int .i64 0, .int .i8 0, .int .i64 0, .int .i64 0, .int .i64 0, .string ⟨#[]⟩, .int .i64 0, .int .i64 0] 38)) fun e w' => e = .returned (.tuple #[.slice ad n' c', .bool b1]) ∧ w' = (w.alloc (.cells #[.int .i8 0, .int .i64 0, .int .i8 0, .int .i64 0, .int .i64 0, .int .i64 0, .string ⟨#[]⟩, .int .i64 0, .int .i64 0] 38)))
    (HF : Calls Try.prog 31 #[.slice ad n' c', .int .i64 i] (w.alloc (.cells #[.int .i8 0, .int .i64 0, .int .i8 0, .int .i64 0, .int .i64 0, .int .i64 0, .string ⟨#[]⟩, .int .i64 0, .int .i64 0] 38)) fun e w' => e = .returned (.tuple #[.agg #[.int .i8 x.kind, .int .i64 x.duct, .int .i8 x.m.kind, .int .i64 x.m.fr, .int .i64 x.m.num, .int .i64 x.m.sock, .string x.m.text, .int .i64 x.m.e, .int .i64 x.t], .bool is]) ∧ Below (w.heap.size + 1) (w.alloc (.cells #[.int .i8 0, .int .i64 0, .int .i8 0, .int .i64 0, .int .i64 0, .int .i64 0, .string ⟨#[]⟩, .int .i64 0, .int .i64 0] 38)) w') :
    Calls Try.prog 20 #[.slice a n c, .int .i64 p, .int .i64 i] w fun e w' => e = .returned (.tuple #[.agg #[.int .i8 x.kind, .int .i64 x.duct, .int .i8 x.m.kind, .int .i64 x.m.fr, .int .i64 x.m.num, .int .i64 x.m.sock, .string x.m.text, .int .i64 x.m.e, .int .i64 x.t], .bool is]) ∧ Below w.heap.size w w' := by
  have HB0 := Lib.hid (below1 w (.cells #[.int .i8 0, .int .i64 0, .int .i8 0, .int .i64 0, .int .i64 0, .int .i64 0, .string ⟨#[]⟩, .int .i64 0, .int .i64 0] 38))
  have HL0 := Lib.hid (laid1 w (.cells #[.int .i8 0, .int .i64 0, .int .i8 0, .int .i64 0, .int .i64 0, .int .i64 0, .string ⟨#[]⟩, .int .i64 0, .int .i64 0] 38))
  have HA := Lib.hid HA
  have HF := Lib.hid HF
  go_enter Try.func20, Try.ntmps20
  go_wp2_with fail
  with_reducible refine HA.out.mono ?_
  rintro e w1 ⟨rfl, rfl⟩
  clear HA
  go_wp2_with fail
  with_reducible refine HF.out.mono ?_
  rintro e w1 ⟨rfl, hb⟩
  have hQ := (hb.block w.heap.size (by omega)).trans HL0.out
  have HQ := Lib.hid hQ
  have HB := Lib.hid (HB0.out.trans (hb.mono (by omega)))
  obtain ⟨c0, c1, c2, c3, c4, c5, c6, c7, c8⟩ := box9 hQ
  obtain ⟨f0, f1, f2, f3, f4, f5, f6, f7, f8⟩ := box9f hQ
  clear HF hQ hb HB0 HL0
  go_wp2_with fail
  change bodyPost _ _ _ _ _ (set9 w1 w.heap.size (.int .i8 x.kind) (.int .i64 x.duct) (.int .i8 x.m.kind) (.int .i64 x.m.fr) (.int .i64 x.m.num) (.int .i64 x.m.sock) (.string x.m.text) (.int .i64 x.m.e) (.int .i64 x.t))
  refine bodyPost_ret (res_cell_tmp rfl _ _ _ w.heap.size rfl _ (load9 (set9_at HQ.out _ _ _ _ _ _ _ _ _))) rfl ?_
  exact ⟨rfl, set9_below HB.out (Nat.le_refl _) _ _ _ _ _ _ _ _ _⟩

theorem case_any (p i : Int) (hs : List Hv) (R : List (List Of)) (x : Of) (is : Bool) (hx : x = (caseP R p i).getD ofZero) (his : is = (caseP R p i).isSome) (a : Option Addr) (c : Nat) (w : World) (hR : RowsC w a c hs R) :
    Calls Try.prog 20 #[.slice a hs.length c, .int .i64 p, .int .i64 i] w fun e w' => e = .returned (.tuple #[.agg #[.int .i8 x.kind, .int .i64 x.duct, .int .i8 x.m.kind, .int .i64 x.m.fr, .int .i64 x.m.num, .int .i64 x.m.sock, .string x.m.text, .int .i64 x.m.e, .int .i64 x.t], .bool is]) ∧ Below w.heap.size w w' := by
  have hb := below1 w (.cells #[.int .i8 0, .int .i64 0, .int .i8 0, .int .i64 0, .int .i64 0, .int .i64 0, .string ⟨#[]⟩, .int .i64 0, .int .i64 0] 38)
  have hsz : (w.alloc (.cells #[.int .i8 0, .int .i64 0, .int .i8 0, .int .i64 0, .int .i64 0, .int .i64 0, .string ⟨#[]⟩, .int .i64 0, .int .i64 0] 38)).heap.size = w.heap.size + 1 := by simp
  have hR' := hR.below hb
  have hl := hR.2.1
  by_cases hp : (p < 0 ∨ (hs.length : Int) ≤ p)
  · rw [caseP_none (by rw [← hl]; exact hp)] at hx his
    subst hx his
    refine case_walk p i hs.length _ _ _ a none c 0 0 w (atr_none hs.length p hp a c _) ?_
    rw [← hsz]
    exact ato_none 0 i (by omega) none 0 _
  · obtain ⟨k, rfl⟩ : ∃ k : Nat, p = k := ⟨p.toNat, by omega⟩
    obtain ⟨row, hk⟩ : ∃ row, R[k]? = some row := ⟨_, List.getElem?_eq_getElem (by omega)⟩
    rw [caseP_some hk] at hx his
    obtain ⟨ad, c', hO, HA⟩ := atr_some hs R k row hk a c _ hR'
    refine case_walk k i hs.length x is true a ad c row.length c' w HA ?_
    rw [← hsz]
    by_cases hi : i < 0 ∨ (row.length : Int) ≤ i
    · have hn : (if i < 0 then none else row[i.toNat]?) = none := by
        split
        · rfl
        · exact List.getElem?_eq_none (by omega)
      rw [hn] at hx his
      subst hx his
      exact ato_none row.length i hi ad c' _
    · obtain ⟨j, rfl⟩ : ∃ j : Nat, i = j := ⟨i.toNat, by omega⟩
      obtain ⟨y, hy⟩ : ∃ y, row[j]? = some y := ⟨_, List.getElem?_eq_getElem (by omega)⟩
      have hn : (if (j : Int) < 0 then none else row[(j : Int).toNat]?) = some y := by
        rw [if_neg (by omega), Int.toNat_natCast, hy]
      rw [hn] at hx his
      rw [show x = y from hx, show is = true from his]
      exact ato_some row j y hy ad c' _ hO

theorem letter_of (m : Mt) (R : List (List Of)) (x : Lt) (ok : Bool) (h : letterP m R = (x, ok)) : (caseP R m.p m.i).isSome = true → (caseP R m.q m.j).isSome = true → fitB ((caseP R m.p m.i).getD ofZero) ((caseP R m.q m.j).getD ofZero) = true → x = ((caseP R m.p m.i).getD ofZero).m ∧ ok = true := by
  unfold letterP at h
  cases h1 : caseP R m.p m.i with
  | none => intro h; simp at h
  | some a =>
    cases h2 : caseP R m.q m.j with
    | none => intro _ h; simp at h
    | some b =>
      intro _ _ h3
      rw [h1, h2] at h
      simp only [Option.getD_some, fitB, Bool.and_eq_true, decide_eq_true_eq] at h3
      simp only [h3.1.1, h3.1.2, h3.2, and_self, if_true, Prod.mk.injEq] at h
      exact ⟨h.1.symm, h.2.symm⟩
theorem letter_not (m : Mt) (R : List (List Of)) (x : Lt) (ok : Bool) (h : letterP m R = (x, ok)) : ¬ ((caseP R m.p m.i).isSome = true ∧ (caseP R m.q m.j).isSome = true ∧ fitB ((caseP R m.p m.i).getD ofZero) ((caseP R m.q m.j).getD ofZero) = true) → x = Lt.zero ∧ ok = false := by
  unfold letterP at h
  intro hn
  cases h1 : caseP R m.p m.i with
  | none => rw [h1] at h; simp only [Prod.mk.injEq] at h; exact ⟨h.1.symm, h.2.symm⟩
  | some a =>
    cases h2 : caseP R m.q m.j with
    | none => rw [h1, h2] at h; simp only [Prod.mk.injEq] at h; exact ⟨h.1.symm, h.2.symm⟩
    | some b =>
      rw [h1, h2] at h hn
      have h3 : ¬ (a.kind = 0 ∧ b.kind = 1 ∧ a.duct = b.duct) := fun h4 => hn ⟨rfl, rfl, by simp [fitB, h4.1, h4.2.1, h4.2.2]⟩
      simp only [h3, if_false, Prod.mk.injEq] at h
      exact ⟨h.1.symm, h.2.symm⟩
theorem set6_at {w : World} {b : Nat} {y0 y1 y2 y3 y4 y5 : Value} {t : TypeId} (h : w.heap[b]? = some (.cells #[y0, y1, y2, y3, y4, y5] t (0, 0))) (x0 x1 x2 x3 x4 x5 : Value) :
    ((((((w.setCell ⟨b, 0, none⟩ x0).setCell ⟨b, 1, none⟩ x1).setCell ⟨b, 2, none⟩ x2).setCell ⟨b, 3, none⟩ x3).setCell ⟨b, 4, none⟩ x4).setCell ⟨b, 5, none⟩ x5).heap[b]? = some (.cells #[x0, x1, x2, x3, x4, x5] t (0, 0)) := by
  have h0 := set_at h 0 x0
  rw [show (#[y0, y1, y2, y3, y4, y5] : Array Value).setIfInBounds 0 x0 = #[x0, y1, y2, y3, y4, y5] from rfl] at h0
  have h1 := set_at h0 1 x1
  rw [show (#[x0, y1, y2, y3, y4, y5] : Array Value).setIfInBounds 1 x1 = #[x0, x1, y2, y3, y4, y5] from rfl] at h1
  have h2 := set_at h1 2 x2
  rw [show (#[x0, x1, y2, y3, y4, y5] : Array Value).setIfInBounds 2 x2 = #[x0, x1, x2, y3, y4, y5] from rfl] at h2
  have h3 := set_at h2 3 x3
  rw [show (#[x0, x1, x2, y3, y4, y5] : Array Value).setIfInBounds 3 x3 = #[x0, x1, x2, x3, y4, y5] from rfl] at h3
  have h4 := set_at h3 4 x4
  rw [show (#[x0, x1, x2, x3, y4, y5] : Array Value).setIfInBounds 4 x4 = #[x0, x1, x2, x3, x4, y5] from rfl] at h4
  have h5 := set_at h4 5 x5
  exact h5
def set6 (w : World) (b : Nat) (x0 x1 x2 x3 x4 x5 : Value) : World := (((((w.setCell ⟨b, 0, none⟩ x0).setCell ⟨b, 1, none⟩ x1).setCell ⟨b, 2, none⟩ x2).setCell ⟨b, 3, none⟩ x3).setCell ⟨b, 4, none⟩ x4).setCell ⟨b, 5, none⟩ x5
theorem set6_below {w0 w : World} {n b : Nat} (h : Below n w0 w) (hn : n ≤ b) (x0 x1 x2 x3 x4 x5 : Value) : Below n w0 (set6 w b x0 x1 x2 x3 x4 x5) :=
  (((((h.setCell (p := ⟨b, 0, none⟩) hn _).setCell (p := ⟨b, 1, none⟩) hn _).setCell (p := ⟨b, 2, none⟩) hn _).setCell (p := ⟨b, 3, none⟩) hn _).setCell (p := ⟨b, 4, none⟩) hn _).setCell (p := ⟨b, 5, none⟩) hn _

end Go.Proofs.Ytjiepdgflfhkcaa
