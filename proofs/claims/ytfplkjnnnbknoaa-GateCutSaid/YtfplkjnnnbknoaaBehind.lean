/- A gate's duct behind what is done at it, or nothing behind an error. -/
import Derived.Test.YtfplkjnnnbknoaaAt
set_option linter.unusedSimpArgs false
set_option linter.unusedVariables false
namespace Go.Proofs.Ytfplkjnnnbknoaa
open Go.RowKit Go.Proofs.Ytfplkjnnnbknoaa.Kind

/-- A row of the call's own that has nothing to do with block b. -/
def Clear (w : World) (base b : Nat) (a : Option Addr) (c : Nat) (l : List Lt) : Prop := LK.Loose w base a c l ∧ ∀ ad, a = some ad → ad.block ≠ b
theorem Clear.mk {w : World} {base b : Nat} {a : Option Addr} {n c : Nat} {l : List Lt} (h : LK.Own w base (.slice a n c) l) (hb : (Value.slice a n c).ownBlock ≠ some b) : Clear w base b a c l := ⟨h.loose, fun ad e => by subst e; simpa [Value.ownBlock] using hb⟩
theorem set3_clear {w : World} {base b : Nat} {a : Option Addr} {c : Nat} {l : List Lt} (h : Clear w base b a c l) (x y z : Value) : LK.Loose (set3 w b x y z) base a c l :=
  loose_same h.1 (by rw [set3_size]; exact Nat.le_refl _) (fun ad e => set3_other _ _ _ _ _ _ (h.2 ad e))
theorem loose_mono {w : World} {base b2 : Nat} {a : Option Addr} {c : Nat} {l : List Lt} (h : LK.Loose w base a c l) (hb : b2 ≤ base) : LK.Loose w b2 a c l :=
  ⟨h.1, h.2.1, h.2.2.1, fun hc => by
    obtain ⟨g, o, h1, h2, h3⟩ := h.2.2.2 hc
    exact ⟨g, o, h1, Nat.le_trans hb h2, h3⟩⟩
theorem enter_fn {N : Nat} {fn : Func} {c : Code} (hf : Try.prog.funcs[N]? = some fn) (hname : (fn.name == "runtime.NumGoroutine") = false) (hb : fn.body = some c) (args : Array Value) (w : World) : (callFunc N args).run Try.prog w = .ok (.enter N args) w := by
  have h1 : fn.name ≠ "runtime.NumGoroutine" := by simpa using hname
  simp [callFunc, hf, h1, hb]

set_option maxHeartbeats 4000000 in
set_option maxRecDepth 1000000 in
theorem behind_ok (N : Nat) (caps : Array Value) (g : Nat) (w : World) (hE : ∀ (args : Array Value) (w : World), (callFunc N args).run Try.prog w = .ok (.enter N args) w)
    (cap : Int) (cl : Bool) (L : List Lt) (base lo : Nat) (hlo : lo ≤ w.heap.size) (hg : g < w.heap.size)
    (hC : Calls Try.prog N caps (w.alloc (.cells #[.int .i64 0, .slice none 0 0, .bool false] 24)) fun e W' => ∃ a c, e = .returned (.int .i64 0) ∧ W'.heap[g]? = some (.cells #[.int .i64 cap, .slice a L.length c, .bool cl] 47 (0, 0)) ∧ Clear W' base w.heap.size a c L ∧ W'.heap[w.heap.size]? = some (.cells #[.int .i64 0, .slice none 0 0, .bool false] 24 (0, 0)) ∧ Below lo w W') :
    Calls Try.prog 28 #[.pointer (some ⟨g, 0, none⟩), .func (.func N) #[] caps] w fun e w' => ∃ a c, e = .returned (.tuple #[.agg #[.int .i64 cap, .slice a L.length c, .bool cl], .int .i64 0]) ∧ LK.Loose w' base a c L ∧ Below lo w w' := by
  have HC := Lib.hid hC
  have HE := Lib.hid hE
  clear hC hE
  go_enter Try.func28, Try.ntmps28
  go_wp2_with fail
  rw [HE.out, Oper.upon_enter]
  with_reducible refine HC.out.mono ?_
  rintro e w1 ⟨a, c, rfl, hg1, hcl, hq, hb⟩
  obtain ⟨⟨p0, p1, p2⟩, p3, p4, p5⟩ := box3 hg1
  obtain ⟨⟨q0, q1, q2⟩, q3, q4, q5⟩ := box3 hq
  have HK := Lib.hid hcl
  have HQ := Lib.hid hq
  have HB := Lib.hid hb
  clear hg1 hcl hq hb HC
  go_wp2_with fail
  change bodyPost _ _ _ _ _ (set3 w1 w.heap.size (.int .i64 cap) (.slice a L.length c) (.bool cl))
  refine bodyPost_ret (res_cell_tmp rfl _ _ _ w.heap.size rfl _ (load3 (set3_at HQ.out _ _ _))) rfl ?_
  exact ⟨a, c, rfl, set3_clear HK.out _ _ _, set3_below HB.out hlo _ _ _⟩

set_option maxHeartbeats 4000000 in
set_option maxRecDepth 1000000 in
theorem behind_bad (N : Nat) (caps : Array Value) (g : Nat) (w : World) (hE : ∀ (args : Array Value) (w : World), (callFunc N args).run Try.prog w = .ok (.enter N args) w)
    (er : Int) (her : er ≠ 0) (lo : Nat) (hlo : lo ≤ w.heap.size)
    (hC : Calls Try.prog N caps (w.alloc (.cells #[.int .i64 0, .slice none 0 0, .bool false] 24)) fun e W' => e = .returned (.int .i64 er) ∧ W'.heap[w.heap.size]? = some (.cells #[.int .i64 0, .slice none 0 0, .bool false] 24 (0, 0)) ∧ Below lo w W') :
    Calls Try.prog 28 #[.pointer (some ⟨g, 0, none⟩), .func (.func N) #[] caps] w fun e w' => e = .returned (.tuple #[.agg #[.int .i64 0, .slice none 0 0, .bool false], .int .i64 er]) ∧ Below lo w w' := by
  have HC := Lib.hid hC
  have HE := Lib.hid hE
  clear hC hE
  have hne : decide (er = 0) = false := by simpa using her
  go_enter Try.func28, Try.ntmps28
  go_wp2_with fail
  rw [HE.out, Oper.upon_enter]
  with_reducible refine HC.out.mono ?_
  rintro e w1 ⟨rfl, hq, hb⟩
  obtain ⟨⟨q0, q1, q2⟩, q3, q4, q5⟩ := box3 hq
  have HQ := Lib.hid hq
  have HB := Lib.hid hb
  clear hq hb HC
  go_wp2_with fail
  change bodyPost _ _ _ _ _ (set3 w1 w.heap.size (.int .i64 0) (.slice none 0 0) (.bool false))
  refine bodyPost_ret (res_cell_tmp rfl _ _ _ w.heap.size rfl _ (load3 (set3_at HQ.out _ _ _))) rfl ?_
  exact ⟨rfl, set3_below HB.out hlo _ _ _⟩
end Go.Proofs.Ytfplkjnnnbknoaa
