/- A plan of one address that hangs. -/
import Derived.Test.YtciohjgcndgiaaaSpecs
set_option linter.unusedSimpArgs false
set_option linter.unusedVariables false
namespace Go.Proofs.Ytciohjgcndgiaaa
open Go.RowKit Go.Proofs.Ytciohjgcndgiaaa.Kind

def adO : Ad := ⟨4, 0, 0, 0, 0, 0, 0, 0, 0, 80⟩
def planO : Pl := ⟨[], [⟨adO, [2]⟩], 3, []⟩
theorem res_cell_cell {fn : Func} {p q : Tmp} {ty tz : TypeId} (h : fn.results = #[.cell p ty, .cell q tz]) (tmps : Array Value) (Pr : Program) (w : World) (b d : Nat) (hp : tmps.getD p undef = .pointer (some ⟨b, 0, none⟩)) (hq : tmps.getD q undef = .pointer (some ⟨d, 0, none⟩)) (v x : Value) (hl : (loadVar ty ⟨b, 0, none⟩).run Pr w = .ok v w) (hx : (loadVar tz ⟨d, 0, none⟩).run Pr w = .ok x w) :
    (results fn tmps).run Pr w = .ok (.tuple #[v, x]) w := by
  simp only [results, h]
  simp [Sem.run_bind, Result.andThen]
  simp at hp hq
  rw [hp, hq, show (asAddr (.pointer (some ⟨b, 0, none⟩))).run Pr w = .ok ⟨b, 0, none⟩ w from rfl]
  simp only [Result.andThen_ok, hl]
  rw [show (asAddr (.pointer (some ⟨d, 0, none⟩))).run Pr w = .ok ⟨d, 0, none⟩ w from rfl]
  simp only [Result.andThen_ok, hx]
theorem load4P {w : World} {b : Nat} {za fa da : Option Addr} {zn zc fn fc dn dc : Nat} {tk : Int} {t : TypeId} (h : w.heap[b]? = some (.cells #[.slice za zn zc, .slice fa fn fc, .int .i64 tk, .slice da dn dc] t (0, 0))) :
    (loadVar 26 ⟨b, 0, none⟩).run Try.prog w = .ok (.agg #[.slice za zn zc, .slice fa fn fc, .int .i64 tk, .slice da dn dc]) w := by
  obtain ⟨⟨h0, h1, h2, h3⟩, _⟩ := box4 h
  have ag1 := Try.isAgg26
  have sz1 := Try.sizeOf26
  clear h
  simp [loadVar, go_sem, *]
theorem plan_one (w : World) : PlanC ((w.alloc (.cells #[.int .i8 2] 39)).alloc (.cells #[.int .i8 4, .int .u16 0, .int .u16 0, .int .u16 0, .int .u16 0, .int .u16 0, .int .u16 0, .int .u16 0, .int .u16 0, .int .i64 80, .slice (some ⟨w.heap.size, 0, none⟩) 1 1] 74)) ⟨none, 0, some ⟨w.heap.size + 1, 0, none⟩, 1, none, 0⟩ planO := by
  have r1 : JK.RowC (w.alloc (.cells #[.int .i8 2] 39)) (some ⟨w.heap.size, 0, none⟩) 1 [2] := rowC_at (K := JK) w 39 [2] _ w.heap.size 1 rfl rfl rfl (by simp)
  generalize hW1 : w.alloc (.cells #[.int .i8 2] 39) = W1 at *
  have hs1 : W1.heap.size = w.heap.size + 1 := by rw [← hW1]; simp
  rw [← hs1]
  have r2 : FK.RowC (W1.alloc (.cells #[.int .i8 4, .int .u16 0, .int .u16 0, .int .u16 0, .int .u16 0, .int .u16 0, .int .u16 0, .int .u16 0, .int .u16 0, .int .i64 80, .slice (some ⟨w.heap.size, 0, none⟩) 1 1] 74)) (some ⟨W1.heap.size, 0, none⟩) 1 [⟨adO, ⟨some ⟨w.heap.size, 0, none⟩, 1, 1⟩⟩] := rowC_at (K := FK) W1 74 [⟨adO, ⟨some ⟨w.heap.size, 0, none⟩, 1, 1⟩⟩] _ W1.heap.size 1 rfl rfl rfl (by simp)
  refine ⟨⟨[], nest_nil (fun w => row_none w) _⟩, ⟨_, rfl, r2, fun j h b h1 h2 => ?_⟩, row_none _⟩
  match j with
  | 0 => simp [planO] at h1 h2; subst h1 h2; exact ⟨rfl, rfl, r1.below (below1 W1 _)⟩
  | _ + 1 => simp at h1
set_option maxHeartbeats 8000000 in
set_option maxRecDepth 1000000 in
theorem one_any (w : World) :
    Calls Try.prog 23 #[] w fun e w' => ∃ v, e = .returned (.tuple #[Pv.val v planO, adO.v]) ∧ PlanC w' v planO ∧ Below w.heap.size w w' := by
  go_enter Try.func23, Try.ntmps23
  go_wp2_with fail
  go_region
  go_wp2_with fail
  have hL := laid3 w (.cells #[.slice none 0 0, .slice (some ⟨w.heap.size + 1 + 1 + 1 + 1, 0, none⟩) 1 1, .int .i64 3, .slice none 0 0] 26) (.cells #[.int .i8 4, .int .u16 0, .int .u16 0, .int .u16 0, .int .u16 0, .int .u16 0, .int .u16 0, .int .u16 0, .int .u16 0, .int .i64 80] 43) (.cells #[.int .i8 4, .int .u16 0, .int .u16 0, .int .u16 0, .int .u16 0, .int .u16 0, .int .u16 0, .int .u16 0, .int .u16 0, .int .i64 80] 43)
  have hb := below3 w (.cells #[.slice none 0 0, .slice (some ⟨w.heap.size + 1 + 1 + 1 + 1, 0, none⟩) 1 1, .int .i64 3, .slice none 0 0] 26) (.cells #[.int .i8 4, .int .u16 0, .int .u16 0, .int .u16 0, .int .u16 0, .int .u16 0, .int .u16 0, .int .u16 0, .int .u16 0, .int .i64 80] 43) (.cells #[.int .i8 4, .int .u16 0, .int .u16 0, .int .u16 0, .int .u16 0, .int .u16 0, .int .u16 0, .int .u16 0, .int .u16 0, .int .i64 80] 43)
  obtain ⟨W, hW⟩ : ∃ W, W = ((w.alloc (.cells #[.slice none 0 0, .slice (some ⟨w.heap.size + 1 + 1 + 1 + 1, 0, none⟩) 1 1, .int .i64 3, .slice none 0 0] 26)).alloc (.cells #[.int .i8 4, .int .u16 0, .int .u16 0, .int .u16 0, .int .u16 0, .int .u16 0, .int .u16 0, .int .u16 0, .int .u16 0, .int .i64 80] 43)).alloc (.cells #[.int .i8 4, .int .u16 0, .int .u16 0, .int .u16 0, .int .u16 0, .int .u16 0, .int .u16 0, .int .u16 0, .int .u16 0, .int .i64 80] 43) := ⟨_, rfl⟩
  have hs : W.heap.size = w.heap.size + 1 + 1 + 1 := by rw [hW]; simp
  rw [← hW] at hL hb ⊢
  rw [← hs] at hL ⊢
  clear hW
  have hb2 := below2 W (.cells #[.int .i8 2] 39) (.cells #[.int .i8 4, .int .u16 0, .int .u16 0, .int .u16 0, .int .u16 0, .int .u16 0, .int .u16 0, .int .u16 0, .int .u16 0, .int .i64 80, .slice (some ⟨W.heap.size, 0, none⟩) 1 1] 74)
  have hp := plan_one W
  refine bodyPost_ret (res_cell_cell rfl _ _ _ w.heap.size (w.heap.size + 1) rfl rfl _ _ (load4P ((hb2.block _ (lt_of_block hL.1)).trans hL.1)) (load10 (x := adO) ((hb2.block _ (lt_of_block hL.2.1)).trans hL.2.1))) rfl ?_
  exact ⟨⟨none, 0, some ⟨W.heap.size + 1, 0, none⟩, 1, none, 0⟩, rfl, hp.below (Below.refl _ _).drew, (hb.trans (hb2.mono hb.size)).drew⟩
end Go.Proofs.Ytciohjgcndgiaaa
