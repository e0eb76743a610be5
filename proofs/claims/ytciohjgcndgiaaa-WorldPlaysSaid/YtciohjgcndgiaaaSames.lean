/- Rows with the same elements are the same by the document's own answer. -/
import Derived.Test.YtciohjgcndgiaaaGreat
import Derived.Laws.BytesArg
set_option linter.unusedSimpArgs false
set_option linter.unusedVariables false
namespace Go.Proofs.Ytciohjgcndgiaaa
open Go.RowKit Go.Proofs.Ytciohjgcndgiaaa.Kind

set_option maxHeartbeats 4000000 in
set_option maxRecDepth 1000000 in
theorem same_socks (l : List Sk) (a b : Option Addr) (c d : Nat) (w : World) (hA : SK.RowC w a c l) (hB : SK.RowC w b d l) :
    Calls Try.prog 36 #[.slice a l.length c, .slice b l.length d] w fun e w' => e = .returned (.bool true) ∧ Below w.heap.size w w' := by
  have HA := Lib.hid hA
  have HB := Lib.hid hB
  have hmx : l.length ≤ 9223372036854775807 := by have h1 := hA.1; have h2 := hA.2.1; unfold maxLen at h2; omega
  clear hA hB
  go_enter Try.func36, Try.ntmps36
  go_wp2_with fail
  go_loopw [5] (fun i wr => ∃ k q : Nat, k ≤ l.length ∧ i = .int .i64 k ∧ wr = w.drewN q) (fun i _ => l.length - (intOf i).toNat)
  case atStart => exact ⟨0, 0, by omega, rfl, rfl⟩
  case round =>
    obtain ⟨k, q, hk, rfl, rfl⟩ := hrel
    by_cases hlt : k < l.length
    · obtain ⟨b1, o1, rfl, hb1, hat1⟩ := HA.out.2.2.2 (by omega)
      obtain ⟨b2, o2, rfl, hb2, hat2⟩ := HB.out.2.2.2 (by omega)
      obtain ⟨x, hx⟩ : ∃ x, l[k]? = some x := ⟨_, List.getElem?_eq_getElem hlt⟩
      obtain ⟨c0, c1, c2, c3, c4, c5, c6, c7, c8, c9, c10, c11, c12, c13⟩ := SK.cells hat1 hx
      obtain ⟨d0, d1, d2, d3, d4, d5, d6, d7, d8, d9, d10, d11, d12, d13⟩ := SK.cells hat2 hx
      have hnq := neq_self_Sk x
      have hgd := guard_Sk
      clear hx hat1 hat2
      go_wp2_with fail
      go_quiet (fail)
      go_wp2_with fail
      go_roundw
      case rel => exact ⟨k + 1, _, by omega, by go_num, rfl⟩
      case measure => simp [intOf]; omega
    · obtain rfl : k = l.length := by omega
      go_wp2_with fail
      go_ret
      exact ⟨rfl, below_drewN (Below.refl _ _) q⟩

set_option maxHeartbeats 4000000 in
set_option maxRecDepth 1000000 in
theorem same_marks (l : List Nk) (a b : Option Addr) (c d : Nat) (w : World) (hA : NK.RowC w a c l) (hB : NK.RowC w b d l) :
    Calls Try.prog 37 #[.slice a l.length c, .slice b l.length d] w fun e w' => e = .returned (.bool true) ∧ Below w.heap.size w w' := by
  have HA := Lib.hid hA
  have HB := Lib.hid hB
  have hmx : l.length ≤ 9223372036854775807 := by have h1 := hA.1; have h2 := hA.2.1; unfold maxLen at h2; omega
  clear hA hB
  go_enter Try.func37, Try.ntmps37
  go_wp2_with fail
  go_loopw [5] (fun i wr => ∃ k q : Nat, k ≤ l.length ∧ i = .int .i64 k ∧ wr = w.drewN q) (fun i _ => l.length - (intOf i).toNat)
  case atStart => exact ⟨0, 0, by omega, rfl, rfl⟩
  case round =>
    obtain ⟨k, q, hk, rfl, rfl⟩ := hrel
    by_cases hlt : k < l.length
    · obtain ⟨b1, o1, rfl, hb1, hat1⟩ := HA.out.2.2.2 (by omega)
      obtain ⟨b2, o2, rfl, hb2, hat2⟩ := HB.out.2.2.2 (by omega)
      obtain ⟨x, hx⟩ : ∃ x, l[k]? = some x := ⟨_, List.getElem?_eq_getElem hlt⟩
      obtain ⟨c0, c1, c2⟩ := NK.cells hat1 hx
      obtain ⟨d0, d1, d2⟩ := NK.cells hat2 hx
      have hnq := neq_self_Nk x
      have hgd := guard_Nk
      clear hx hat1 hat2
      go_wp2_with fail
      go_quiet (fail)
      go_wp2_with fail
      go_roundw
      case rel => exact ⟨k + 1, _, by omega, by go_num, rfl⟩
      case measure => simp [intOf]; omega
    · obtain rfl : k = l.length := by omega
      go_wp2_with fail
      go_ret
      exact ⟨rfl, below_drewN (Below.refl _ _) q⟩

set_option maxHeartbeats 4000000 in
set_option maxRecDepth 1000000 in
theorem same_dials (l : List Di) (a b : Option Addr) (c d : Nat) (w : World) (hA : DK.RowC w a c l) (hB : DK.RowC w b d l) :
    Calls Try.prog 38 #[.slice a l.length c, .slice b l.length d] w fun e w' => e = .returned (.bool true) ∧ Below w.heap.size w w' := by
  have HA := Lib.hid hA
  have HB := Lib.hid hB
  have hmx : l.length ≤ 9223372036854775807 := by have h1 := hA.1; have h2 := hA.2.1; unfold maxLen at h2; omega
  clear hA hB
  go_enter Try.func38, Try.ntmps38
  go_wp2_with fail
  go_loopw [5] (fun i wr => ∃ k q : Nat, k ≤ l.length ∧ i = .int .i64 k ∧ wr = w.drewN q) (fun i _ => l.length - (intOf i).toNat)
  case atStart => exact ⟨0, 0, by omega, rfl, rfl⟩
  case round =>
    obtain ⟨k, q, hk, rfl, rfl⟩ := hrel
    by_cases hlt : k < l.length
    · obtain ⟨b1, o1, rfl, hb1, hat1⟩ := HA.out.2.2.2 (by omega)
      obtain ⟨b2, o2, rfl, hb2, hat2⟩ := HB.out.2.2.2 (by omega)
      obtain ⟨x, hx⟩ : ∃ x, l[k]? = some x := ⟨_, List.getElem?_eq_getElem hlt⟩
      obtain ⟨c0, c1, c2, c3, c4, c5, c6, c7, c8, c9, c10, c11, c12, c13⟩ := DK.cells hat1 hx
      obtain ⟨d0, d1, d2, d3, d4, d5, d6, d7, d8, d9, d10, d11, d12, d13⟩ := DK.cells hat2 hx
      have hnq := neq_self_Di x
      have hgd := guard_Di
      clear hx hat1 hat2
      go_wp2_with fail
      go_quiet (fail)
      go_wp2_with fail
      go_roundw
      case rel => exact ⟨k + 1, _, by omega, by go_num, rfl⟩
      case measure => simp [intOf]; omega
    · obtain rfl : k = l.length := by omega
      go_wp2_with fail
      go_ret
      exact ⟨rfl, below_drewN (Below.refl _ _) q⟩

set_option maxHeartbeats 4000000 in
set_option maxRecDepth 1000000 in
theorem same_looks (l : List Lo) (a b : Option Addr) (c d : Nat) (w : World) (hA : LK.RowC w a c l) (hB : LK.RowC w b d l) :
    Calls Try.prog 39 #[.slice a l.length c, .slice b l.length d] w fun e w' => e = .returned (.bool true) ∧ Below w.heap.size w w' := by
  have HA := Lib.hid hA
  have HB := Lib.hid hB
  have hmx : l.length ≤ 9223372036854775807 := by have h1 := hA.1; have h2 := hA.2.1; unfold maxLen at h2; omega
  clear hA hB
  go_enter Try.func39, Try.ntmps39
  go_wp2_with fail
  go_loopw [5] (fun i wr => ∃ k q : Nat, k ≤ l.length ∧ i = .int .i64 k ∧ wr = w.drewN q) (fun i _ => l.length - (intOf i).toNat)
  case atStart => exact ⟨0, 0, by omega, rfl, rfl⟩
  case round =>
    obtain ⟨k, q, hk, rfl, rfl⟩ := hrel
    by_cases hlt : k < l.length
    · obtain ⟨b1, o1, rfl, hb1, hat1⟩ := HA.out.2.2.2 (by omega)
      obtain ⟨b2, o2, rfl, hb2, hat2⟩ := HB.out.2.2.2 (by omega)
      obtain ⟨x, hx⟩ : ∃ x, l[k]? = some x := ⟨_, List.getElem?_eq_getElem hlt⟩
      obtain ⟨c0, c1, c2, c3⟩ := LK.cells hat1 hx
      obtain ⟨d0, d1, d2, d3⟩ := LK.cells hat2 hx
      have hnq := neq_self_Lo x
      have hgd := guard_Lo
      clear hx hat1 hat2
      go_wp2_with fail
      go_quiet (fail)
      go_wp2_with fail
      go_roundw
      case rel => exact ⟨k + 1, _, by omega, by go_num, rfl⟩
      case measure => simp [intOf]; omega
    · obtain rfl : k = l.length := by omega
      go_wp2_with fail
      go_ret
      exact ⟨rfl, below_drewN (Below.refl _ _) q⟩

set_option maxHeartbeats 4000000 in
set_option maxRecDepth 1000000 in
theorem same_ads (l : List Ad) (a b : Option Addr) (c d : Nat) (w : World) (hA : AK.RowC w a c l) (hB : AK.RowC w b d l) :
    Calls Try.prog 78 #[.slice a l.length c, .slice b l.length d] w fun e w' => e = .returned (.bool true) ∧ Below w.heap.size w w' := by
  have HA := Lib.hid hA
  have HB := Lib.hid hB
  have hmx : l.length ≤ 9223372036854775807 := by have h1 := hA.1; have h2 := hA.2.1; unfold maxLen at h2; omega
  clear hA hB
  go_enter Try.func78, Try.ntmps78
  go_wp2_with fail
  go_loopw [5] (fun i wr => ∃ k q : Nat, k ≤ l.length ∧ i = .int .i64 k ∧ wr = w.drewN q) (fun i _ => l.length - (intOf i).toNat)
  case atStart => exact ⟨0, 0, by omega, rfl, rfl⟩
  case round =>
    obtain ⟨k, q, hk, rfl, rfl⟩ := hrel
    by_cases hlt : k < l.length
    · obtain ⟨b1, o1, rfl, hb1, hat1⟩ := HA.out.2.2.2 (by omega)
      obtain ⟨b2, o2, rfl, hb2, hat2⟩ := HB.out.2.2.2 (by omega)
      obtain ⟨x, hx⟩ : ∃ x, l[k]? = some x := ⟨_, List.getElem?_eq_getElem hlt⟩
      obtain ⟨⟨c0, c1, c2, c3, c4⟩, c5, c6, c7, c8, c9⟩ := AK.ten hat1 hx
      obtain ⟨⟨d0, d1, d2, d3, d4⟩, d5, d6, d7, d8, d9⟩ := AK.ten hat2 hx
      have hnq := neq_self_ad x
      have hgd := guard_ad
      clear hx hat1 hat2
      go_wp2_with fail
      go_quiet (fail)
      go_wp2_with fail
      go_roundw
      case rel => exact ⟨k + 1, _, by omega, by go_num, rfl⟩
      case measure => simp [intOf]; omega
    · obtain rfl : k = l.length := by omega
      go_wp2_with fail
      go_ret
      exact ⟨rfl, below_drewN (Below.refl _ _) q⟩

set_option maxHeartbeats 4000000 in
set_option maxRecDepth 1000000 in
theorem same_ints (l : List Int) (a b : Option Addr) (c d : Nat) (w : World) (hA : IK.RowC w a c l) (hB : IK.RowC w b d l) :
    Calls Try.prog 69 #[.slice a l.length c, .slice b l.length d] w fun e w' => e = .returned (.bool true) ∧ Below w.heap.size w w' := by
  have HA := Lib.hid hA
  have HB := Lib.hid hB
  have hmx : l.length ≤ 9223372036854775807 := by have h1 := hA.1; have h2 := hA.2.1; unfold maxLen at h2; omega
  clear hA hB
  go_enter Try.func69, Try.ntmps69
  go_wp2_with fail
  go_loopw [5] (fun i wr => ∃ k q : Nat, k ≤ l.length ∧ i = .int .i64 k ∧ wr = w.drewN q) (fun i _ => l.length - (intOf i).toNat)
  case atStart => exact ⟨0, 0, by omega, rfl, rfl⟩
  case round =>
    obtain ⟨k, q, hk, rfl, rfl⟩ := hrel
    by_cases hlt : k < l.length
    · obtain ⟨b1, o1, rfl, hb1, hat1⟩ := HA.out.2.2.2 (by omega)
      obtain ⟨b2, o2, rfl, hb2, hat2⟩ := HB.out.2.2.2 (by omega)
      obtain ⟨x, hx⟩ : ∃ x, l[k]? = some x := ⟨_, List.getElem?_eq_getElem hlt⟩
      have c0 := IK.one hat1 hx
      have d0 := IK.one hat2 hx
      clear hx hat1 hat2
      go_wp2_with fail
      go_quiet (fail)
      go_wp2_with fail
      go_roundw
      case rel => exact ⟨k + 1, _, by omega, by go_num, rfl⟩
      case measure => simp [intOf]; omega
    · obtain rfl : k = l.length := by omega
      go_wp2_with fail
      go_ret
      exact ⟨rfl, below_drewN (Below.refl _ _) q⟩

end Go.Proofs.Ytciohjgcndgiaaa

set_option linter.unusedSimpArgs false
set_option linter.unusedVariables false
namespace Go.Proofs.Ytciohjgcndgiaaa
open Go.RowKit Go.Proofs.Ytciohjgcndgiaaa.Kind

def BK : Kind Try.prog Int where
  enc := fun n => [.int .u8 n]
  k := 1
  T := 5
  S := 145
  z := .int .u8 0
  bytes := 1
  hk := fun _ => rfl
  h1 := by
    intro x v hv
    simp only [List.mem_cons, List.not_mem_nil, or_false] at hv
    rcases hv with rfl
    rfl
  hu := Try.underlying145
  hi := by kernel_rfl
  hz := rfl
  hk0 := by decide
  hb := by decide
theorem BK.one {w : World} {b o : Nat} {l : List Int} (h : BK.At w b o l) {j : Nat} {x : Int} (hx : l[j]? = some x) : w.cell? ⟨b, o + j, none⟩ = some (.int .u8 x) := by
  have h1 := h j x hx 0 _ rfl
  have e : o + j * BK.k + 0 = o + j := by show o + j * 1 + 0 = o + j; omega
  rwa [e] at h1
/-- A row of bytes as a text. -/
def textB (l : List Int) : ByteArray := strOfNums l
theorem conv_row {w : World} {a : Option Addr} {c : Nat} {l : List Int} (h : BK.RowC w a c l) : (convert 145 9 (.slice a l.length c)).run Try.prog w = .ok (.string (textB l)) w := by
  by_cases h0 : 0 < l.length
  · obtain ⟨b, o, rfl, hb, hat⟩ := h.2.2.2 h0
    exact run_convert_bytes_arg w _ _ Try.underlying145 Try.underlying5 b o l.length c l rfl (fun i hi => by rw [BK.one hat (List.getElem?_eq_getElem hi)]; simp [List.getD, List.getElem?_eq_getElem hi]) _ Try.underlying9
  · have e : l = [] := List.eq_nil_of_length_eq_zero (by omega)
    subst e
    cases a with
    | none => exact run_convert_bytes_nil w _ _ Try.underlying145 Try.underlying5 _ _ _ Try.underlying9
    | some ad =>
      obtain ⟨b, o, s⟩ := ad
      rw [run_convert_bytes_string w _ _ _ _ _ c Try.underlying145 Try.underlying5 Try.underlying9, run_bytesToString w ⟨b, o, s⟩ ([] : List Int).length c [] (by simp [loadCells, loadCellsFrom, Sem.run_pure])]
      rfl
def u8s (l : List Int) : List Int := l.map (fun x => x % 256)
theorem u8s_succ {l : List Int} {k : Nat} {x : Int} (h : l[k]? = some x) : u8s (l.take (k + 1)) = u8s (l.take k) ++ [x % 256] := by
  unfold u8s
  rw [List.take_add_one, h]
  simp
set_option maxHeartbeats 4000000 in
set_option maxRecDepth 1000000 in
theorem text_any (l : List Int) (a : Option Addr) (c : Nat) (w : World) (hl : l.length ≤ 140737488351232) (hA : JK.RowC w a c l) :
    Calls Try.prog 79 #[.slice a l.length c] w fun e w' => ∃ b d, e = .returned (.slice b l.length d) ∧ BK.RowC w' b d (u8s l) ∧ Below w.heap.size w w' := by
  have HA := Lib.hid hA
  clear hA
  go_enter Try.func79, Try.ntmps79
  go_wp2_with fail
  go_loopw [3, 4] (fun u3 u4 wr => ∃ (k : Nat) (v : Option Addr) (cv : Nat), u3 = .slice v k cv ∧ u4 = .int .i64 k ∧ k ≤ l.length ∧ Hid (BK.Dst wr w.heap.size (.slice v k cv) (u8s (l.take k))) ∧ Hid (BK.RowC wr v cv (u8s (l.take k))) ∧ Hid (Below w.heap.size w wr)) (fun _ u _ => l.length - (intOf u).toNat)
  case atStart => exact ⟨0, none, 0, rfl, rfl, by omega, Lib.hid (dst_bare _ _ _), Lib.hid (row_none _), Lib.hid (Below.refl _ _)⟩
  case round =>
    obtain ⟨k, v, cv, rfl, rfl, hk, HD, HV, HB⟩ := hrel
    by_cases hlt : k < l.length
    · have hki : (k : Int) < (l.length : Int) := by omega
      obtain ⟨g, o, rfl, hg, hat⟩ := (HA.out.below HB.out).2.2.2 (by omega)
      obtain ⟨x, hx⟩ : ∃ x, l[k]? = some x := ⟨_, List.getElem?_eq_getElem hlt⟩
      have c0 := JK.one hat hx
      have HX := Lib.hid (u8s_succ hx)
      have hlk : (u8s (l.take k)).length = k := by simp [u8s]; omega
      have hl3 : (u8s (l.take (k + 1))).length = k + 1 := by simp [u8s]; omega
      clear hat hx hg
      go_wp2_with go_loud (at_builtin; refine BK.wpList_append_rows_b rfl _ _ rfl w.heap.size (.slice v k cv) rfl (u8s (l.take k)) (HD.out.below (below1 wr _) (Nat.le_refl _)) (some ⟨wr.heap.size, 0, none⟩) 1 1 rfl [x % 256] rfl (rowC_at (K := BK) wr 5 [x % 256] #[.int .u8 (x % 256)] wr.heap.size 1 rfl rfl rfl (by simp)) (by show ((u8s (l.take k)).length + 1) * 1 ≤ _; omega) (by simp; unfold maxLen; omega) (by have := HB.out.size; simp; omega) ?_; intro a2 c2 w2 hD2 hM2 hB2; rw [← HX.out] at hD2 hM2; rw [show (u8s (l.take k) ++ [x % 256]).length = k + 1 by simp [hlk]]; rw [hl3] at hD2; have HM2 := Lib.hid hM2.row; have HD2 := Lib.hid hD2; have HB2 := Lib.hid ((HB.out.alloc HB.out.size _).trans hB2); clear hD2 hM2 hB2)
      go_roundw
      case rel => exact ⟨k + 1, a2, c2, rfl, by go_num, by omega, HD2, HM2, HB2⟩
      case measure => simp [intOf]; omega
    · obtain rfl : k = l.length := by omega
      rw [List.take_length] at HV
      go_wp2_with fail
      go_ret
      exact ⟨v, cv, rfl, HV.out, HB.out⟩
end Go.Proofs.Ytciohjgcndgiaaa

set_option linter.unusedSimpArgs false
set_option linter.unusedVariables false
namespace Go.Proofs.Ytciohjgcndgiaaa
open Go.RowKit Go.Proofs.Ytciohjgcndgiaaa.Kind

theorem step_convert {Pr : Program} {w : World} {ops : Array Oper} {o : Oper} {act : Act} {K' : Act → World → Prop} {Q : Exit → Act → World → Prop} {E : Prop} (src dst : TypeId) (x : Operand)
    (ho : o.op = .convert src dst x) (v u : Value) (hx : act.eval x = v) (hrun : (convert src dst v).run Pr w = .ok u w) (hw : Region.wanted o (yielded ops act.tmps) = true)
    (h : K' (act.put o.dst u) w) : if Region.wanted o (yielded ops act.tmps) = true then Oper.wp Pr o act w K' Q else E := by
  rw [if_pos hw]
  unfold Oper.wp
  simp [execOp, ho, hx, hrun, Result.andThen]
  exact h
theorem conv_now {w : World} {a : Option Addr} {n c : Nat} {l : List Int} (h : BK.RowC w a c (u8s l)) (hn : n = l.length) : (convert 145 9 (.slice a n c)).run Try.prog w = .ok (.string (textB (u8s l))) w := by
  have := conv_row h
  rwa [show (u8s l).length = n by simp [u8s, hn]] at this
end Go.Proofs.Ytciohjgcndgiaaa

