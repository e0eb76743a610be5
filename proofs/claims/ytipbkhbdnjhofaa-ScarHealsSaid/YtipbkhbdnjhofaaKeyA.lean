/- Addresses as keys of a map; which places a map knows. -/
import Derived.Test.YtipbkhbdnjhofaaPick
import Derived.Maps.OwnSet
import Derived.Maps.Range
import Derived.Maps.Views
import Derived.Maps.Ext
import Derived.DeepKeys4
import Derived.ChangeKeys
set_option linter.unusedSimpArgs false
set_option linter.unusedVariables false
namespace Go.Proofs.Ytipbkhbdnjhofaa
open Go.RowKit Go.Maps Go.Proofs.Ytipbkhbdnjhofaa.Kind

def litsA (a : Ad) : List Lit := [.int .i8 a.f, .int .u16 a.g0, .int .u16 a.g1, .int .u16 a.g2, .int .u16 a.g3, .int .u16 a.g4, .int .u16 a.g5, .int .u16 a.g6, .int .u16 a.g7, .int .i64 a.p]
def keyA (a : Ad) : Lit := .string (keyBytes (litsA a))
theorem okA_wf {a : Ad} (h : okA a) : ∀ x ∈ litsA a, x.keyWf := by
  intro x hx
  obtain ⟨h0, ⟨h1, h2, h3, h4, h5, h6, h7, h8⟩, h9⟩ := h
  simp only [litsA, List.mem_cons, List.not_mem_nil, or_false] at hx
  rcases hx with rfl | rfl | rfl | rfl | rfl | rfl | rfl | rfl | rfl | rfl <;> simp [Lit.keyWf, Lit.wf, IntKind.min, IntKind.max, IntKind.signed, IntKind.bits] <;> omega
theorem keyA_inj {a b : Ad} (ha : okA a) (hb : okA b) (h : keyA a = keyA b) : a = b := by
  unfold keyA at h
  injection h with h
  have h2 := keyBytes_inj (by simp [litsA, Alike, Lit.sameKind]) (okA_wf ha) (okA_wf hb) h
  obtain ⟨f, g0, g1, g2, g3, g4, g5, g6, g7, p⟩ := a
  obtain ⟨f', k0, k1, k2, k3, k4, k5, k6, k7, p'⟩ := b
  simp [litsA] at h2
  simp [h2]
theorem lits_int {q : IntKind} {t : TypeId} {n : Int} (d : Nat) (hu : Try.prog.underlying t = some (.int q)) (hw : (Lit.int q n).wf = true) : Try.prog.keyLits (d + 1) t [.int q n] = some [.int q n] := by
  simp [Program.keyLits, hu, hw]
theorem lits_arr {g0 g1 g2 g3 g4 g5 g6 g7 : Int} (d : Nat) (h0 : (Lit.int .u16 g0).wf = true) (h1 : (Lit.int .u16 g1).wf = true) (h2 : (Lit.int .u16 g2).wf = true) (h3 : (Lit.int .u16 g3).wf = true) (h4 : (Lit.int .u16 g4).wf = true) (h5 : (Lit.int .u16 g5).wf = true) (h6 : (Lit.int .u16 g6).wf = true) (h7 : (Lit.int .u16 g7).wf = true) :
    Try.prog.keyLits (d + 2) 29 [.int .u16 g0, .int .u16 g1, .int .u16 g2, .int .u16 g3, .int .u16 g4, .int .u16 g5, .int .u16 g6, .int .u16 g7] = some [.int .u16 g0, .int .u16 g1, .int .u16 g2, .int .u16 g3, .int .u16 g4, .int .u16 g5, .int .u16 g6, .int .u16 g7] := by
  have c1 : Try.prog.cellsOf 28 = 1 := by kernel_rfl
  have c8 : Try.prog.cellsOf 29 = 8 := by kernel_rfl
  have hu := Try.underlying28
  have k0 := lits_int d hu h0
  have k1 := lits_int d hu h1
  have k2 := lits_int d hu h2
  have k3 := lits_int d hu h3
  have k4 := lits_int d hu h4
  have k5 := lits_int d hu h5
  have k6 := lits_int d hu h6
  have k7 := lits_int d hu h7
  unfold Program.keyLits
  rw [Try.underlying29]
  simp [c1, c8, List.range, List.range.loop, k0, k1, k2, k3, k4, k5, k6, k7]
theorem lits_ad {a : Ad} (h : okA a) (d : Nat) : Try.prog.keyLits (d + 3) 31 a.enc = some (litsA a) := by
  have hw := okA_wf h
  obtain ⟨f, g0, g1, g2, g3, g4, g5, g6, g7, p⟩ := a
  simp only [litsA, List.mem_cons, List.not_mem_nil, or_false, forall_eq_or_imp, forall_eq, Lit.keyWf] at hw
  obtain ⟨w0, w1, w2, w3, w4, w5, w6, w7, w8, w9⟩ := hw
  have c1 : Try.prog.cellsOf 27 = 1 := by kernel_rfl
  have c8 : Try.prog.cellsOf 29 = 8 := by kernel_rfl
  have c2 : Try.prog.cellsOf 3 = 1 := by kernel_rfl
  have ca : Try.prog.cellsOf 31 = 10 := by kernel_rfl
  have k0 := lits_int (d + 1) Try.underlying27 w0
  have k1 := lits_arr d w1 w2 w3 w4 w5 w6 w7 w8
  have k2 := lits_int (d + 1) Try.underlying3 w9
  unfold Program.keyLits
  rw [Try.underlying31]
  simp [Ad.enc, litsA, c1, c8, c2, ca, k0, k1, k2]
theorem key_ad {a : Ad} (h : okA a) : keyOf Try.prog 31 (.agg #[.int .i8 a.f, .int .u16 a.g0, .int .u16 a.g1, .int .u16 a.g2, .int .u16 a.g3, .int .u16 a.g4, .int .u16 a.g5, .int .u16 a.g6, .int .u16 a.g7, .int .i64 a.p]) = some (keyA a) := by
  have hk : Try.prog.keyType 31 = true := by kernel_rfl
  have ca : Try.prog.cellsOf 31 = 10 := by kernel_rfl
  have hs : 2 ≤ Try.prog.types.size := of_decide_eq_true (by kernel_rfl)
  obtain ⟨d, hd⟩ : ∃ d, Try.prog.types.size + 1 = d + 3 := ⟨Try.prog.types.size - 2, by omega⟩
  have hl := lits_ad h d
  rw [← hd] at hl
  simp only [Ad.enc] at hl
  have hfm : (Value.agg #[.int .i8 a.f, .int .u16 a.g0, .int .u16 a.g1, .int .u16 a.g2, .int .u16 a.g3, .int .u16 a.g4, .int .u16 a.g5, .int .u16 a.g6, .int .u16 a.g7, .int .i64 a.p]).formed Try.prog 31 = true := by
    unfold Value.formed
    rw [Try.underlying31, ca]
    rfl
  unfold keyOf
  rw [Try.underlying31]
  dsimp only
  rw [if_pos (by rw [hk, hfm]; rfl)]
  show Option.map _ (Try.prog.keyLits (Try.prog.types.size + 1) 31 [.int .i8 a.f, .int .u16 a.g0, .int .u16 a.g1, .int .u16 a.g2, .int .u16 a.g3, .int .u16 a.g4, .int .u16 a.g5, .int .u16 a.g6, .int .u16 a.g7, .int .i64 a.p]) = _
  rw [hl]
  rfl
theorem law_ad : Keyed Try.prog 31 := Keyed.of_law (Go.deep_law_laid (m := Try.prog.types.size) (by kernel_rfl) (of_decide_eq_true (by kernel_rfl)) (of_decide_eq_true (by kernel_rfl)) (by kernel_rfl) (by kernel_rfl))
theorem run_make_hint (t k e : TypeId) (kd : IntKind) (n : Int) (ht : Try.prog.underlying t = some (.map k e)) (w : World) :
    (Instr.makeMap t (some (.int kd n))).run Try.prog w = .ok (.map (some w.heap.size)) (w.alloc (.map #[] 0)) := by
  simp [Instr.makeMap, run_underlying ht]; rfl
theorem zero_i64 (w : World) : (zeroValue 3).run Try.prog w = .ok (.int .i64 0) w := by kernel_rfl
/-- How a place lies in the map. -/
def rawI (v : Value) : Option (DataW Unit × List MemPlace) := match v with
  | .int .i64 n => some (.lit (.int .i64 n), [])
  | _ => none
theorem rawI_inv {v : Value} {z : DataW Unit × List MemPlace} (h : rawI v = some z) : ∃ n, v = .int .i64 n ∧ z = (.lit (.int .i64 n), []) := by
  unfold rawI at h
  split at h
  · rename_i n
    cases h
    exact ⟨n, rfl, rfl⟩
  · cases h
theorem map_below {H : Type} {Pr : Program} {k : TypeId} {R : Value → Option (DataW H × List MemPlace)} {b n : Nat} {D : DataW H} {w w' : World} (h : w.ownsMap Pr k R b n D) (hb : Below w.heap.size w w') : w'.ownsMap Pr k R b n D := by
  have hlt := h.lt
  obtain ⟨es, clock, h1, h2⟩ := h
  exact ⟨es, clock, (hb.block b hlt).trans h1, h2⟩
theorem map_below2 {H : Type} {Pr : Program} {k : TypeId} {R : Value → Option (DataW H × List MemPlace)} {b n N : Nat} {D : DataW H} {w w' : World} (h : w.ownsMap Pr k R b n D) (hb : Below N w w') (hN : b < N) : w'.ownsMap Pr k R b n D := by
  obtain ⟨es, clock, h1, h2⟩ := h
  exact ⟨es, clock, (hb.block b hN).trans h1, h2⟩
/-- The block is a map of addresses' places. -/
def OwnI (w : World) (b n : Nat) (D : DataW Unit) : Prop := w.ownsMap Try.prog 31 rawI b n D
/-- What the map knows behind the first k. -/
def PlaceTo (ds : List Ad) (D : DataW Unit) (k : Nat) : Prop := (∀ x : Ad, okA x → match lastP ds k x with
  | none => Maps.has D (keyA x) = false
  | some j => Maps.has D (keyA x) = true ∧ ∀ z, D.atKey (keyA x) z = .lit (.int .i64 (j : Int))) ∧ ∀ kl : Lit, Maps.has D kl = true → ∃ x, okA x ∧ kl = keyA x
theorem placeTo_zero (ds : List Ad) : PlaceTo ds (.map []) 0 := ⟨fun x _ => by simp [lastP, Maps.has], fun kl h => by simp [Maps.has] at h⟩
theorem placeTo_step {ds : List Ad} {D : DataW Unit} {k : Nat} {a : Ad} (h : PlaceTo ds D k) (hD : Maps.IsMap D) (ha : ds[k]? = some a) (ho : okA a) : PlaceTo ds (D.put (keyA a) (.lit (.int .i64 (k : Int)))) (k + 1) := by
  have hkl : WideAt.IsKeyLit (keyA a) := by simp [keyA, WideAt.IsKeyLit]
  refine ⟨fun x hx => ?_, fun kl hk => ?_⟩
  · by_cases e : a = x
    · subst e
      rw [lastP_yes ha]
      exact ⟨has_put_same hD hkl _, fun z => atKey_put_same hD hkl _ z⟩
    · have h1 := h.1 x hx
      have hne : keyA x ≠ keyA a := fun e2 => e (keyA_inj hx ho e2).symm
      rw [lastP_no ha e]
      cases hr : lastP ds k x with
      | some g =>
        rw [hr] at h1
        exact ⟨by rw [has_put_other hne]; exact h1.1, fun z => by rw [atKey_put_other hne]; exact h1.2 z⟩
      | none =>
        rw [hr] at h1
        dsimp only at h1 ⊢
        rw [has_put_other hne]
        exact h1
  · by_cases e : kl = keyA a
    · exact ⟨a, ho, e⟩
    · rw [has_put_other e] at hk
      exact h.2 kl hk
theorem place_has {ds : List Ad} {D : DataW Unit} (h : PlaceTo ds D ds.length) {x : Ad} (hx : okA x) : Maps.has D (keyA x) = decide (x ∈ ds) := by
  have h1 := h.1 x hx
  rw [← lastP_mem]
  cases hr : lastP ds ds.length x with
  | some g => rw [hr] at h1; exact h1.1
  | none => rw [hr] at h1; exact h1
/-- What is left when those of m are struck. -/
def LeftTo (ds : List Ad) (m : List Sc) (D : DataW Unit) (k : Nat) : Prop := (∀ x : Ad, okA x → Maps.has D (keyA x) = (decide (x ∈ ds) && !(m.take k).any (fun y => decide (y.ad = x)))) ∧ ∀ kl : Lit, Maps.has D kl = true → ∃ x, okA x ∧ kl = keyA x
theorem leftTo_zero {ds : List Ad} {m : List Sc} {D : DataW Unit} (h : PlaceTo ds D ds.length) : LeftTo ds m D 0 := ⟨fun x hx => by rw [place_has h hx]; simp, h.2⟩
theorem leftTo_step {ds : List Ad} {m : List Sc} {D : DataW Unit} {k : Nat} {y : Sc} (h : LeftTo ds m D k) (hy : m[k]? = some y) (ho : okA y.ad) : LeftTo ds m (D.del (keyA y.ad)) (k + 1) := by
  have e : m.take (k + 1) = m.take k ++ [y] := by rw [List.take_add_one, hy]; rfl
  refine ⟨fun x hx => ?_, fun kl hk => ?_⟩
  · rw [e, List.any_append]
    by_cases e2 : y.ad = x
    · subst e2
      rw [has_del_same]; simp
    · have hne : keyA x ≠ keyA y.ad := fun e3 => e2 (keyA_inj hx ho e3).symm
      rw [has_del_other hne, h.1 x hx]
      simp [e2]
  · by_cases e2 : kl = keyA y.ad
    · rw [e2, has_del_same] at hk; cases hk
    · rw [has_del_other e2] at hk
      exact h.2 kl hk
theorem size_none {D : DataW Unit} (hc : Maps.Canon D) : Maps.size D = 0 ↔ ∀ kl, Maps.has D kl = false := by
  obtain ⟨es, rfl, _, hk⟩ := hc
  constructor
  · intro h kl
    obtain rfl : es = [] := List.length_eq_zero_iff.1 h
    rfl
  · intro h
    cases es with
    | nil => rfl
    | cons p es =>
      have := h p.1
      rw [has_eq, List.any_cons, WideAt.sameKey_self (hk p (by simp))] at this
      simp at this
theorem left_end {ds : List Ad} {m : List Sc} {D : DataW Unit} (hd : OkL ds) (hc : Maps.Canon D) (h : LeftTo ds m D m.length) : Maps.size D = 0 ↔ ∀ a ∈ ds, ∃ y ∈ m, y.ad = a := by
  rw [size_none hc]
  constructor
  · intro h1 a ha
    have h2 := h.1 a (hd a ha)
    rw [h1 (keyA a), List.take_length] at h2
    simp only [ha, decide_true, Bool.true_and] at h2
    have h3 : m.any (fun y => decide (y.ad = a)) = true := by
      cases hq : m.any (fun y => decide (y.ad = a)) with
      | true => rfl
      | false => rw [hq] at h2; cases h2
    obtain ⟨y, hy, e⟩ := List.any_eq_true.1 h3
    exact ⟨y, hy, by simpa using e⟩
  · intro h1 kl
    cases hk : Maps.has D kl with
    | false => rfl
    | true =>
      obtain ⟨x, hx, rfl⟩ := h.2 kl hk
      have h2 := h.1 x hx
      rw [hk, List.take_length] at h2
      symm at h2
      rw [Bool.and_eq_true] at h2
      obtain ⟨h3, h4⟩ := h2
      obtain ⟨y, hy, e⟩ := h1 x (by simpa using h3)
      have : m.any (fun y => decide (y.ad = x)) = true := List.any_eq_true.2 ⟨y, hy, by simpa using e⟩
      rw [this] at h4
      cases h4
theorem wpList_look_place (w : World) {ops : Array Oper} {rest : List Oper} {o : Oper} {a : Act} {Q : Exit → Act → World → Prop} (hg : o.guard = none) (m x : Operand) (t : TypeId) (hop : o.op = Op.lookup t m x true)
    (k e : TypeId) (K : Keyed Try.prog k) (ht : Try.prog.underlying t = some (.map k e)) (hz : (zeroValue e).run Try.prog w = .ok (.int .i64 0) w) (b n : Nat) (D : DataW Unit)
    (hm : a.eval m = .map (some b)) (hown : w.ownsMap Try.prog k rawI b n D) (key : Value) (kl : Lit) (hx : a.eval x = key) (hkey : keyOf Try.prog k key = some kl)
    (hK : ∀ c : Int, D.atKey kl (.lit (.int .i64 0)) = .lit (.int .i64 c) → wpList Try.prog ops Q rest (a.put o.dst (.tuple #[.int .i64 c, .bool (Maps.has D kl)])) w) :
    wpList Try.prog ops Q (o :: rest) a w :=
  wpList_lookup_own_ok w hg m x t hop k e K ht rawI hz (.lit (.int .i64 0)) [] rfl b n D hm hown key kl hx hkey (fun v ps hv => by
    obtain ⟨c, rfl, hc⟩ := rawI_inv hv
    exact hK c (congrArg Prod.fst hc))
theorem wpList_look_bare (w : World) {ops : Array Oper} {rest : List Oper} {o : Oper} {a : Act} {Q : Exit → Act → World → Prop} (hg : o.guard = none) (m x : Operand) (t : TypeId) (hop : o.op = Op.lookup t m x false)
    (k e : TypeId) (K : Keyed Try.prog k) (ht : Try.prog.underlying t = some (.map k e)) (hz : (zeroValue e).run Try.prog w = .ok (.int .i64 0) w) (b n : Nat) (D : DataW Unit)
    (hm : a.eval m = .map (some b)) (hown : w.ownsMap Try.prog k rawI b n D) (key : Value) (kl : Lit) (hx : a.eval x = key) (hkey : keyOf Try.prog k key = some kl)
    (hK : ∀ c : Int, D.atKey kl (.lit (.int .i64 0)) = .lit (.int .i64 c) → wpList Try.prog ops Q rest (a.put o.dst (.int .i64 c)) w) :
    wpList Try.prog ops Q (o :: rest) a w := by
  refine wpList_plain hg fun K' hK' => ?_
  obtain ⟨v, ps, hrun, hat⟩ := hown.lookup K ht hz (zd := .lit (.int .i64 0)) (zp := []) rfl hkey
  obtain ⟨c, rfl, hc⟩ := rawI_inv hat
  unfold Oper.wp
  simp [execOp, hop, hm, hx, hrun, Result.andThen]
  exact hK' _ _ (hK c (congrArg Prod.fst hc))
end Go.Proofs.Ytipbkhbdnjhofaa
