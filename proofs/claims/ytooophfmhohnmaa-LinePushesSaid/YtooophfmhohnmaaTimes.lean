/- How often each number stands in a row: a map that the call makes. -/
import Derived.Test.YtooophfmhohnmaaRow
import Derived.Maps.Own
import Derived.Maps.OwnOps
import Derived.Maps.OwnSet
import Derived.Maps.Views
set_option linter.unusedSimpArgs false
set_option linter.unusedVariables false
namespace Go.Proofs.Ytooophfmhohnmaa
open Go.RowKit Go.Maps

def I64 (n : Int) : Prop := -9223372036854775808 ≤ n ∧ n ≤ 9223372036854775807
theorem wf64 {n : Int} (h : (Lit.int .i64 n).wf = true) : I64 n := by
  unfold I64
  simpa [Lit.wf, IntKind.min, IntKind.max, IntKind.signed, IntKind.bits] using h
theorem wf_of {n : Int} (h : I64 n) : (Lit.int .i64 n).wf = true := by
  unfold I64 at h
  simpa [Lit.wf, IntKind.min, IntKind.max, IntKind.signed, IntKind.bits] using h
theorem lawK : Keyed Try.prog 3 := int_keyed Try.underlying3
theorem zeroI (w : World) : (zeroValue 3).run Try.prog w = .ok (.int .i64 0) w := by kernel_rfl
theorem key_of {x : Int} (h : I64 x) : keyOf Try.prog 3 (.int .i64 x) = some (.int .i64 x) := keyOf_int_mk Try.underlying3 (wf_of h)
/-- A map that tells how often each number stands in a row. -/
def MapC (w : World) (b n : Nat) (m : List Int) : Prop :=
  ∃ D : DataW Unit, w.ownsMap Try.prog 3 (plainElem Try.prog 3) b n D ∧ IsMap D ∧ ∀ x : Int, D.atKey (.int .i64 x) (.lit (.int .i64 0)) = .lit (.int .i64 ((m.count x : Nat) : Int))
theorem MapC.below {w w' : World} {b n B : Nat} {m : List Int} (h : MapC w b n m) (hb : Below B w w') (hB : b < B) : MapC w' b n m := by
  obtain ⟨D, ⟨es, clock, h1, h2⟩, h3⟩ := h
  exact ⟨D, ⟨es, clock, by rw [hb.block b hB]; exact h1, h2⟩, h3⟩
theorem mapC_made (w : World) : MapC (w.alloc (.map #[] 0)) w.heap.size 0 [] :=
  ⟨.map [], World.ownsMap_made _ _ _ _, isMap_empty, fun x => by simp [DataW.atKey]⟩
theorem mapC_put {w : World} {b n : Nat} {D : DataW Unit} {x : Int} {v : Int} {m m' : List Int} (h : w.ownsMap Try.prog 3 (plainElem Try.prog 3) b n (D.put (.int .i64 x) (.lit (.int .i64 v)))) (hD : IsMap D)
    (hc : ∀ x : Int, D.atKey (.int .i64 x) (.lit (.int .i64 0)) = .lit (.int .i64 ((m.count x : Nat) : Int))) (hv : v = ((m'.count x : Nat) : Int)) (ho : ∀ y, y ≠ x → m'.count y = m.count y) : MapC w b n m' := by
  refine ⟨_, h, hD.put _ _, fun y => ?_⟩
  by_cases hy : y = x
  · subst hy
    rw [atKey_put_same hD (by trivial), hv]
  · rw [atKey_put_other (by intro e; injection e with _ e; exact hy e), hc y, ho y hy]
theorem at_is {D : DataW Unit} {x c q : Int} (h1 : D.atKey (.int .i64 x) (.lit (.int .i64 0)) = .lit (.int .i64 c)) (h2 : D.atKey (.int .i64 x) (.lit (.int .i64 0)) = .lit (.int .i64 q)) : c = q := by
  rw [h1] at h2
  injection h2 with h2
  injection h2 with _ h2

set_option maxHeartbeats 4000000 in
set_option maxRecDepth 1000000 in
theorem times_any (l : List Int) (a : Option Addr) (c : Nat) (w : World) (hl : l.length ≤ 100000) (hI : ∀ x ∈ l, I64 x) (hA : RowC w a c l) :
    Calls Try.prog 25 #[.slice a l.length c] w fun e w' => e = .returned (.map (some w.heap.size)) ∧ MapC w' w.heap.size l.length l ∧ Below w.heap.size w w' ∧ w.heap.size < w'.heap.size := by
  have HA := Lib.hid hA.2.2.2
  have HI := Lib.hid hI
  have hmm := @run_makeMap Try.prog
  clear hA hI
  go_enter Try.func25, Try.ntmps25
  go_wp2_with fail
  go_loopw [5, 9] (fun u5 u9 wr => ∃ k : Nat, u9 = .int .i64 k ∧ k ≤ l.length ∧ MapC wr w.heap.size k (l.take k) ∧ Below w.heap.size w wr) (fun _ u9 _ => l.length - (intOf u9).toNat)
  case atStart => exact ⟨0, rfl, by omega, mapC_made _, (Below.refl _ _).alloc (Nat.le_refl _) _⟩
  case round =>
    obtain ⟨k, rfl, hk, hM, hbw⟩ := hrel
    by_cases hlt : k < l.length
    · obtain ⟨b, o, rfl, hb, hat⟩ := (HA.out.below hbw) (by omega)
      obtain ⟨x, hx⟩ : ∃ x, l[k]? = some x := ⟨_, List.getElem?_eq_getElem hlt⟩
      have hc := hat k x hx
      have HX := Lib.hid (P.take_at l k x hx)
      have HK := Lib.hid (key_of (HI.out x (List.mem_of_getElem? hx)))
      obtain ⟨D, hown, hD, hcnt⟩ := hM
      obtain ⟨q, hq⟩ : ∃ q : Nat, (l.take k).count x = q := ⟨_, rfl⟩
      have hqk : q ≤ 100000 := by have := List.count_le_length (a := x) (l := l.take k); rw [List.length_take] at this; omega
      have HC := Lib.hid (hcnt x)
      rw [hq] at HC
      have HQ := Lib.hid hq
      have HO := Lib.hid hown
      have HD := Lib.hid hD
      have HCN := Lib.hid hcnt
      clear hat hx hown hD hcnt hq
      go_wp2_with (first
        | (at_lookup; refine wpList_lookup_own_int _ rfl _ _ 37 rfl 3 3 .i64 lawK Try.underlying37 Try.underlying3 (zeroI _) w.heap.size k _ rfl HO.out _ _ rfl HK.out ?_; intro cc hat hwc; obtain rfl := at_is hat HC.out; clear hat hwc)
        | (at_mapUpdate; refine wpList_mapUpdate_own _ rfl _ _ _ 37 rfl 3 3 lawK Try.underlying37 _ w.heap.size k _ rfl HO.out (by unfold maxLen; omega) _ _ _ rfl rfl HK.out _ [] (plainElem_int Try.underlying3 (wf_of (by unfold I64; omega))) ?_; intro w1 hown1 hgrow1))
      go_roundw
      case rel =>
        refine ⟨k + 1, by go_num, by omega, mapC_put hown1 HD.out HCN.out ?_ ?_, hbw.grown hgrow1 hbw.size (fun j hj => by cases hj; exact Nat.le_refl _)⟩
        · rw [HX.out, List.count_append, HQ.out]; simp
        · intro y hy
          rw [HX.out, List.count_append, List.count_cons_of_ne (by simpa using fun e => hy e.symm)]; simp
      case measure => simp [intOf]; omega
    · obtain rfl : k = l.length := by omega
      rw [List.take_length] at hM
      have HM := Lib.hid hM
      have hlt := hM.choose_spec.1.lt
      clear hM
      go_wp2_with fail
      go_ret
      exact ⟨rfl, HM.out, hbw, hlt⟩
end Go.Proofs.Ytooophfmhohnmaa
