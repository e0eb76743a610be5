/- A deed is done to a duct that may be. -/
import Derived.Test.YtomiajgedcpjiaaPut1
set_option linter.unusedSimpArgs false
set_option linter.unusedVariables false
namespace Go.Proofs.Ytomiajgedcpjiaa
open Go.RowKit Go.Proofs.Ytomiajgedcpjiaa.Kind

theorem set3_far {α : Type} {K : Kind Try.prog α} {w : World} {base b : Nat} {a : Option Addr} {c : Nat} {l : List α} (h : K.FarC w base a c l) (hb : b < base) (x y z : Value) : K.FarC (set3 w b x y z) base a c l := ((h.set (p := ⟨b, 0, none⟩) hb _).set (p := ⟨b, 1, none⟩) hb _).set (p := ⟨b, 2, none⟩) hb _

set_option maxHeartbeats 4000000 in
set_option maxRecDepth 1000000 in
theorem do_may (N : Nat) (caps : Array Value) (cap : Int) (cl : Bool) (l : List Lt) (a : Option Addr) (c : Nat) (w : World) (hE : ∀ (args : Array Value) (w : World), (callFunc N args).run Try.prog w = .ok (.enter N args) w) (hm : mayB cap l.length = true) (hl : l.length ≤ 100000) (hA : LK.RowC w a c l)
    (er : Int) (cl2 : Bool) (L : List Lt) (Rl : World → World → Prop)
    (hC : ∀ (W : World) (g : Nat) (a1 : Option Addr) (c1 : Nat), w.heap.size + 2 ≤ g → g < W.heap.size → Below w.heap.size w W → W.heap[g]? = some (.cells #[.int .i64 cap, .slice a1 l.length c1, .bool cl] 26 (0, 0)) → LK.Own W (w.heap.size + 2) (.slice a1 l.length c1) l →
      Calls Try.prog N (#[.pointer (some ⟨g, 0, none⟩)] ++ caps) W fun e W' => ∃ a2 c2, e = .returned (.int .i64 er) ∧ W'.heap[g]? = some (.cells #[.int .i64 cap, .slice a2 L.length c2, .bool cl2] 26 (0, 0)) ∧ LK.FarC W' (w.heap.size + 2) a2 c2 L ∧ W'.heap[w.heap.size + 1]? = W.heap[w.heap.size + 1]? ∧ Rl W W') :
    Calls Try.prog 27 #[.agg #[.int .i64 cap, .slice a l.length c, .bool cl], .func (.func N) #[] caps] w fun e w' => ∃ a' c' W1 W2, e = .returned (.tuple #[.agg #[.int .i64 cap, .slice a' L.length c', .bool cl2], .int .i64 er]) ∧ LK.FarC w' (w.heap.size + 2) a' c' L ∧ Below w.heap.size w W1 ∧ Rl W1 W2 ∧ w' = set3 W2 (w.heap.size + 1) (.int .i64 cap) (.slice a' L.length c') (.bool cl2) := by
  have HA := Lib.hid hA
  have HC := Lib.hid hC
  have HM := Lib.hid hm
  have HE := Lib.hid hE
  clear hA hC hm hE
  go_enter Try.func27, Try.ntmps27
  go_wp2_with fail
  with_reducible refine (apart_any cap l cl a c _ hl (HA.out.below (((Below.refl _ w).alloc (Nat.le_refl _) _).alloc (by simp) _))).mono ?_
  rintro e w1 ⟨a1, c1, rfl, hO, hB⟩
  have HO := Lib.hid (hO.mono (b2 := w.heap.size + 2) (by simp; try omega))
  have HB := Lib.hid ((((Below.refl w.heap.size w).alloc (Nat.le_refl _) _).alloc (by simp) _).trans (hB.mono (by simp; try omega)))
  have HQ := Lib.hid ((hB.block (w.heap.size + 1) (by simp)).trans (laid2 w _ _).2)
  have hsz : w.heap.size + 2 ≤ w1.heap.size := by have := hB.size; simpa using this
  clear hO hB
  go_wp2_with fail
  have HMa := Lib.hid (may_one cap a1 l.length c1 cl 26 (w1.heap.size + 1) ((w1.alloc (.cells #[.int .i64 cap, .slice a1 l.length c1, .bool cl] 26)).alloc (.cells #[.int .i64 cap, .slice a1 l.length c1, .bool cl] 26)) (laid2 w1 _ _).2)
  rw [HM.out] at HMa
  with_reducible refine HMa.out.mono ?_
  rintro e w2 ⟨rfl, hB⟩
  have hG := (hB.block w1.heap.size (by simp; try omega)).trans (laid2 w1 _ _).1
  have HB12 := Lib.hid ((((Below.refl w1.heap.size w1).alloc (Nat.le_refl _) (.cells #[.int .i64 cap, .slice a1 l.length c1, .bool cl] 26)).alloc (by simp) (.cells #[.int .i64 cap, .slice a1 l.length c1, .bool cl] 26)).trans (hB.mono (by simp; try omega)))
  have hsz2 : w1.heap.size + 2 ≤ w2.heap.size := by have := hB.size; simpa using this
  have HCc := Lib.hid (HC.out w2 w1.heap.size a1 c1 hsz (by omega) (HB.out.trans (HB12.out.mono (by omega))) hG (HO.out.below HB12.out (Nat.le_refl _)))
  have HQ2 := Lib.hid ((HB12.out.block _ (by omega)).trans HQ.out)
  obtain ⟨⟨p0, p1, p2⟩, p3, p4, p5⟩ := box3 hG
  have HB2 := Lib.hid (HB.out.trans (HB12.out.mono (by omega)))
  clear hG hB HMa HC
  go_wp2_with fail
  rw [HE.out, Oper.upon_enter]
  with_reducible refine HCc.out.mono ?_
  rintro e w3 ⟨a2, c2, rfl, hg3, hf3, hq3, hr3⟩
  obtain ⟨⟨p0, p1, p2⟩, p3, p4, p5⟩ := box3 hg3
  have hq3 := hq3.trans HQ2.out
  obtain ⟨⟨q0, q1, q2⟩, q3, q4, q5⟩ := box3 hq3
  have HQ3 := Lib.hid hq3
  have HF3 := Lib.hid hf3
  have HR3 := Lib.hid hr3
  clear hg3 hf3 hq3 hr3 HCc
  go_wp2_with fail
  change bodyPost _ _ _ _ _ (set3 w3 (w.heap.size + 1) (.int .i64 cap) (.slice a2 L.length c2) (.bool cl2))
  refine bodyPost_ret (res_cell_tmp rfl _ _ _ (w.heap.size + 1) rfl _ (load3 (set3_at HQ3.out _ _ _))) rfl ?_
  exact ⟨a2, c2, w2, w3, rfl, set3_far HF3.out (by omega) _ _ _, HB2.out, HR3.out, rfl⟩

theorem enter_fn {N : Nat} {fn : Func} {c : Code} (hf : Try.prog.funcs[N]? = some fn) (hname : (fn.name == "runtime.NumGoroutine") = false) (hb : fn.body = some c) (args : Array Value) (w : World) : (callFunc N args).run Try.prog w = .ok (.enter N args) w := by
  have h1 : fn.name ≠ "runtime.NumGoroutine" := by simpa using hname
  simp [callFunc, hf, h1, hb]
end Go.Proofs.Ytomiajgedcpjiaa
