/- Who is good: addresses as keys of a map. -/
import Derived.Test.YtlceeeajhejedaaFind
import Derived.Maps.OwnSet
import Derived.Maps.Range
import Derived.Maps.Views
import Derived.DeepKeys4
import Derived.ChangeKeys
set_option linter.unusedSimpArgs false
set_option linter.unusedVariables false
namespace Go.Proofs.Ytlceeeajhejedaa
open Go.RowKit Go.Maps Go.Proofs.Ytlceeeajhejedaa.Kind

def litsA (a : Ad) : List Lit := [.int .i8 a.f, .int .u16 a.g0, .int .u16 a.g1, .int .u16 a.g2, .int .u16 a.g3, .int .u16 a.g4, .int .u16 a.g5, .int .u16 a.g6, .int .u16 a.g7, .int .i64 a.p]
def keyA (a : Ad) : Lit := .string (keyBytes (litsA a))
theorem okA_wf {a : Ad} (h : okA a) : ∀ x ∈ litsA a, x.keyWf := by
  intro x hx
  obtain ⟨h0, ⟨h1, h2, h3, h4, h5, h6, h7, h8⟩, h9⟩ := h
  simp only [litsA, List.mem_cons, List.not_mem_nil, or_false] at hx
  rcases hx with rfl | rfl | rfl | rfl | rfl | rfl | rfl | rfl | rfl | rfl <;> simp [Lit.keyWf, Lit.wf, IntKind.min, IntKind.max, IntKind.signed, IntKind.bits] <;> omega
theorem keyA_inj {a b : Ad} (ha : okA a) (hb : okA b) (h : keyA a = keyA b) : a = b := by
  unfold keyA at h
  injection h with h
  have h2 := keyBytes_inj (by simp [litsA, Alike, Lit.sameKind]) (okA_wf ha) (okA_wf hb) h
  obtain ⟨f, g0, g1, g2, g3, g4, g5, g6, g7, p⟩ := a
  obtain ⟨f', k0, k1, k2, k3, k4, k5, k6, k7, p'⟩ := b
  simp [litsA] at h2
  simp [h2]
theorem lits_int {q : IntKind} {t : TypeId} {n : Int} (d : Nat) (hu : Try.prog.underlying t = some (.int q)) (hw : (Lit.int q n).wf = true) : Try.prog.keyLits (d + 1) t [.int q n] = some [.int q n] := by
  simp [Program.keyLits, hu, hw]
theorem lits_arr {g0 g1 g2 g3 g4 g5 g6 g7 : Int} (d : Nat) (h0 : (Lit.int .u16 g0).wf = true) (h1 : (Lit.int .u16 g1).wf = true) (h2 : (Lit.int .u16 g2).wf = true) (h3 : (Lit.int .u16 g3).wf = true) (h4 : (Lit.int .u16 g4).wf = true) (h5 : (Lit.int .u16 g5).wf = true) (h6 : (Lit.int .u16 g6).wf = true) (h7 : (Lit.int .u16 g7).wf = true) :
    Try.prog.keyLits (d + 2) 29 [.int .u16 g0, .int .u16 g1, .int .u16 g2, .int .u16 g3, .int .u16 g4, .int .u16 g5, .int .u16 g6, .int .u16 g7] = some [.int .u16 g0, .int .u16 g1, .int .u16 g2, .int .u16 g3, .int .u16 g4, .int .u16 g5, .int .u16 g6, .int .u16 g7] := by
  have c1 : Try.prog.cellsOf 28 = 1 := by kernel_rfl
  have c8 : Try.prog.cellsOf 29 = 8 := by kernel_rfl
  have hu := Try.underlying28
  have k0 := lits_int d hu h0
  have k1 := lits_int d hu h1
  have k2 := lits_int d hu h2
  have k3 := lits_int d hu h3
  have k4 := lits_int d hu h4
  have k5 := lits_int d hu h5
  have k6 := lits_int d hu h6
  have k7 := lits_int d hu h7
  unfold Program.keyLits
  rw [Try.underlying29]
  simp [c1, c8, List.range, List.range.loop, k0, k1, k2, k3, k4, k5, k6, k7]
theorem lits_ad {a : Ad} (h : okA a) (d : Nat) : Try.prog.keyLits (d + 3) 31 a.enc = some (litsA a) := by
  have hw := okA_wf h
  obtain ⟨f, g0, g1, g2, g3, g4, g5, g6, g7, p⟩ := a
  simp only [litsA, List.mem_cons, List.not_mem_nil, or_false, forall_eq_or_imp, forall_eq, Lit.keyWf] at hw
  obtain ⟨w0, w1, w2, w3, w4, w5, w6, w7, w8, w9⟩ := hw
  have c1 : Try.prog.cellsOf 27 = 1 := by kernel_rfl
  have c8 : Try.prog.cellsOf 29 = 8 := by kernel_rfl
  have c2 : Try.prog.cellsOf 3 = 1 := by kernel_rfl
  have ca : Try.prog.cellsOf 31 = 10 := by kernel_rfl
  have k0 := lits_int (d + 1) Try.underlying27 w0
  have k1 := lits_arr d w1 w2 w3 w4 w5 w6 w7 w8
  have k2 := lits_int (d + 1) Try.underlying3 w9
  unfold Program.keyLits
  rw [Try.underlying31]
  simp [Ad.enc, litsA, c1, c8, c2, ca, k0, k1, k2]
theorem key_ad {a : Ad} (h : okA a) : keyOf Try.prog 31 (.agg #[.int .i8 a.f, .int .u16 a.g0, .int .u16 a.g1, .int .u16 a.g2, .int .u16 a.g3, .int .u16 a.g4, .int .u16 a.g5, .int .u16 a.g6, .int .u16 a.g7, .int .i64 a.p]) = some (keyA a) := by
  have hk : Try.prog.keyType 31 = true := by kernel_rfl
  have ca : Try.prog.cellsOf 31 = 10 := by kernel_rfl
  have hs : 2 ≤ Try.prog.types.size := of_decide_eq_true (by kernel_rfl)
  obtain ⟨d, hd⟩ : ∃ d, Try.prog.types.size + 1 = d + 3 := ⟨Try.prog.types.size - 2, by omega⟩
  have hl := lits_ad h d
  rw [← hd] at hl
  simp only [Ad.enc] at hl
  have hfm : (Value.agg #[.int .i8 a.f, .int .u16 a.g0, .int .u16 a.g1, .int .u16 a.g2, .int .u16 a.g3, .int .u16 a.g4, .int .u16 a.g5, .int .u16 a.g6, .int .u16 a.g7, .int .i64 a.p]).formed Try.prog 31 = true := by
    unfold Value.formed
    rw [Try.underlying31, ca]
    rfl
  unfold keyOf
  rw [Try.underlying31]
  dsimp only
  rw [if_pos (by rw [hk, hfm]; rfl)]
  show Option.map _ (Try.prog.keyLits (Try.prog.types.size + 1) 31 [.int .i8 a.f, .int .u16 a.g0, .int .u16 a.g1, .int .u16 a.g2, .int .u16 a.g3, .int .u16 a.g4, .int .u16 a.g5, .int .u16 a.g6, .int .u16 a.g7, .int .i64 a.p]) = _
  rw [hl]
  rfl
theorem law_ad : Keyed Try.prog 31 := Keyed.of_law (Go.deep_law_laid (m := Try.prog.types.size) (by kernel_rfl) (of_decide_eq_true (by kernel_rfl)) (of_decide_eq_true (by kernel_rfl)) (by kernel_rfl) (by kernel_rfl))

/-- What a row of fates is worth. -/
def worstP (l : List Int) : Int := if l.length = 0 then 1 else (l.find? (fun x => decide (x ≠ 0))).getD 0
theorem worst_good (l : List Int) : decide (worstP l = 0) = (decide (0 < l.length) && l.all (fun x => decide (x = 0))) := by
  unfold worstP
  by_cases h : l.length = 0
  · rw [if_pos h]
    simp [h]
  · rw [if_neg h]
    rw [decide_eq_true (show 0 < l.length by omega), Bool.true_and]
    cases hf : l.find? (fun x => decide (x ≠ 0)) with
    | none =>
      have : l.all (fun x => decide (x = 0)) = true := by
        rw [List.all_eq_true]
        intro x hx
        have := List.find?_eq_none.1 hf x hx
        simpa using this
      rw [this]
      rfl
    | some y =>
      have hy := List.find?_some hf
      have hm := List.mem_of_find?_eq_some hf
      have hne : y ≠ 0 := by simpa using hy
      have : l.all (fun x => decide (x = 0)) = false := by
        rw [List.all_eq_false]
        exact ⟨y, hm, by simpa using hne⟩
      rw [this]
      simp [hne]
def rowTo (P : Pl) (k : Nat) (x : Ad) : Option Fo := (P.fates.take k).find? (fun f => decide (f.ad = x))
theorem rowTo_all (P : Pl) (x : Ad) : rowTo P P.fates.length x = rowOf P x := by unfold rowTo rowOf; rw [List.take_of_length_le (Nat.le_refl _)]
/-- What the map knows behind the first k rows. -/
def WorstTo (P : Pl) (D : DataW Unit) (k : Nat) : Prop := ∀ x : Ad, okA x → match rowTo P k x with
  | none => Maps.has D (keyA x) = false
  | some f => Maps.has D (keyA x) = true ∧ ∀ z, D.atKey (keyA x) z = .lit (.int .i8 (worstP f.l))
theorem worstTo_zero (P : Pl) : WorstTo P (.map []) 0 := fun x _ => by simp [rowTo, Maps.has]
theorem rowTo_step {P : Pl} {k : Nat} {f : Fo} (hf : P.fates[k]? = some f) (x : Ad) : rowTo P (k + 1) x = (rowTo P k x).or (if f.ad = x then some f else none) := by
  unfold rowTo
  rw [List.take_add_one, hf]
  rw [List.find?_append]
  congr 1
  by_cases h : f.ad = x <;> simp [h]
theorem worstTo_old {P : Pl} {D : DataW Unit} {k : Nat} {f : Fo} (h : WorstTo P D k) (hf : P.fates[k]? = some f) (ho : okA f.ad) (hh : Maps.has D (keyA f.ad) = true) : WorstTo P D (k + 1) := fun x hx => by
  have h1 := h x hx
  rw [rowTo_step hf]
  cases hr : rowTo P k x with
  | some g => rw [hr] at h1; exact h1
  | none =>
    rw [hr] at h1
    by_cases e : f.ad = x
    · subst e
      dsimp only at h1
      rw [hh] at h1
      cases h1
    · rw [if_neg e]
      exact h1
theorem worstTo_new {P : Pl} {D : DataW Unit} {k : Nat} {f : Fo} (h : WorstTo P D k) (hD : Maps.IsMap D) (hf : P.fates[k]? = some f) (ho : okA f.ad) (hh : Maps.has D (keyA f.ad) = false) : WorstTo P (D.put (keyA f.ad) (.lit (.int .i8 (worstP f.l)))) (k + 1) := fun x hx => by
  have hkl : WideAt.IsKeyLit (keyA f.ad) := by simp [keyA, WideAt.IsKeyLit]
  have h1 := h x hx
  rw [rowTo_step hf]
  by_cases e : f.ad = x
  · subst e
    have hn : rowTo P k f.ad = none := by
      cases hr : rowTo P k f.ad with
      | none => rfl
      | some g =>
        rw [hr] at h1
        rw [h1.1] at hh
        cases hh
    rw [hn, if_pos rfl]
    exact ⟨has_put_same hD hkl _, fun z => atKey_put_same hD hkl _ z⟩
  · have hne : keyA x ≠ keyA f.ad := fun e2 => e (keyA_inj hx ho e2).symm
    rw [if_neg e, Option.or_none]
    cases hr : rowTo P k x with
    | some g =>
      rw [hr] at h1
      exact ⟨by rw [has_put_other hne]; exact h1.1, fun z => by rw [atKey_put_other hne]; exact h1.2 z⟩
    | none =>
      rw [hr] at h1
      dsimp only at h1 ⊢
      rw [has_put_other hne]
      exact h1
/-- How a fate lies in the map. -/
def rawF (v : Value) : Option (DataW Unit × List MemPlace) := match v with
  | .int .i8 n => some (.lit (.int .i8 n), [])
  | _ => none
theorem rawF_inv {v : Value} {z : DataW Unit × List MemPlace} (h : rawF v = some z) : ∃ n, v = .int .i8 n ∧ z = (.lit (.int .i8 n), []) := by
  unfold rawF at h
  split at h
  · rename_i n
    cases h
    exact ⟨n, rfl, rfl⟩
  · cases h
theorem wpList_look_fate (w : World) {ops : Array Oper} {rest : List Oper} {o : Oper} {a : Act} {Q : Exit → Act → World → Prop} (hg : o.guard = none) (m x : Operand) (t : TypeId) (hop : o.op = Op.lookup t m x true)
    (k e : TypeId) (K : Keyed Try.prog k) (ht : Try.prog.underlying t = some (.map k e)) (hz : (zeroValue e).run Try.prog w = .ok (.int .i8 0) w) (b n : Nat) (D : DataW Unit)
    (hm : a.eval m = .map (some b)) (hown : w.ownsMap Try.prog k rawF b n D) (key : Value) (kl : Lit) (hx : a.eval x = key) (hkey : keyOf Try.prog k key = some kl)
    (hK : ∀ c : Int, D.atKey kl (.lit (.int .i8 0)) = .lit (.int .i8 c) → wpList Try.prog ops Q rest (a.put o.dst (.tuple #[.int .i8 c, .bool (Maps.has D kl)])) w) :
    wpList Try.prog ops Q (o :: rest) a w :=
  wpList_lookup_own_ok w hg m x t hop k e K ht rawF hz (.lit (.int .i8 0)) [] rfl b n D hm hown key kl hx hkey (fun v ps hv => by
    obtain ⟨c, rfl, hc⟩ := rawF_inv hv
    exact hK c (congrArg Prod.fst hc))
end Go.Proofs.Ytlceeeajhejedaa
