/- Whether a case is ready by itself. -/
import Derived.Test.YtjiepdgflfhkcaaAlone
set_option linter.unusedSimpArgs false
set_option linter.unusedVariables false
namespace Go.Proofs.Ytjiepdgflfhkcaa
open Go.RowKit Go.Proofs.Ytjiepdgflfhkcaa.Kind Go.Proofs.Ytjiepdgflfhkcaa.P7

set_option maxHeartbeats 4000000 in
set_option maxRecDepth 1000000 in
theorem alone_out (o : Of) (n d : Nat) (clock : Int) (dial look : Bool) (b : Option Addr) (w : World) (h : o.kind < 0 ∨ 4 < o.kind) :
    Calls Try.prog 14 #[.agg #[.int .i8 o.kind, .int .i64 o.duct, .int .i8 o.m.kind, .int .i64 o.m.fr, .int .i64 o.m.num, .int .i64 o.m.sock, .string o.m.text, .int .i64 o.m.e, .int .i64 o.t], .slice b n d, .int .i64 clock, .bool dial, .bool look] w fun e w' => e = .returned (.bool false) ∧ Below w.heap.size w w' := by
  have HB0 := Lib.hid (below1 w (.cells #[.int .i8 o.kind, .int .i64 o.duct, .int .i8 o.m.kind, .int .i64 o.m.fr, .int .i64 o.m.num, .int .i64 o.m.sock, .string o.m.text, .int .i64 o.m.e, .int .i64 o.t] 38))
  rcases h with h | h
  · go_enter Try.func14, Try.ntmps14
    go_wp2_with fail
    go_ret
    exact ⟨rfl, HB0.out⟩
  · have h1 : ¬ o.kind < 0 := by omega
    have h2 : 5 ≤ o.kind := by omega
    go_enter Try.func14, Try.ntmps14
    go_wp2_with fail
    go_ret
    exact ⟨rfl, HB0.out⟩

theorem atP_mem {D : List Dv} {n : Int} {d : Dv} (h : atP D n = some d) : d ∈ D := by
  obtain ⟨k, _, hk⟩ := atP_some h
  exact List.mem_of_getElem? hk
theorem alone_spec : AloneSpec := by
  intro o D clock dial look b d w hD hn hR
  have hx : (dvAt D o.duct).n ≤ 9223372036854775807 ∧ (dvAt D o.duct).cap ≤ 9223372036854775807 := by
    unfold dvAt
    cases h : atP D o.duct with
    | none => simp
    | some x => have := hn x (atP_mem h); simp; omega
  by_cases hk : o.kind < 0 ∨ 4 < o.kind
  · have : aloneP D clock o dial look = false := by
      unfold aloneP
      rw [if_neg (by omega), if_neg (by omega), if_neg (by omega), if_neg (by omega), if_neg (by omega)]
    rw [this]
    exact alone_out o _ d clock dial look b w hk
  · refine alone_in o D clock dial look b d w (dvAt D o.duct) _ _ _ _ rfl rfl rfl rfl rfl hx.1 hx.2 hR _ (Lib.hid ?_)
    have h5 : o.kind = 0 ∨ o.kind = 1 ∨ o.kind = 2 ∨ o.kind = 3 ∨ o.kind = 4 := by omega
    unfold aloneP dvAt
    rcases h5 with h | h | h | h | h
    · refine .inl ⟨h, ?_⟩
      rw [if_pos h]
      cases atP D o.duct with
      | none => simp [roomB]
      | some x => rfl
    · refine .inr (.inl ⟨h, ?_⟩)
      rw [if_neg (by omega), if_pos h]
      cases atP D o.duct with
      | none => simp
      | some x => rfl
    · refine .inr (.inr (.inl ⟨h, ?_⟩))
      rw [if_neg (by omega), if_neg (by omega), if_pos h]
    · refine .inr (.inr (.inr (.inl ⟨h, ?_⟩)))
      rw [if_neg (by omega), if_neg (by omega), if_neg (by omega), if_pos h]
    · refine .inr (.inr (.inr (.inr ⟨h, ?_⟩)))
      rw [if_neg (by omega), if_neg (by omega), if_neg (by omega), if_neg (by omega), if_pos h]
end Go.Proofs.Ytjiepdgflfhkcaa
