/- The document's own: Token, Cut, Gate, Enter, Leave, Free; the same ducts. -/
import Derived.Test.YtfplkjnnnbknoaaWakes
set_option linter.unusedSimpArgs false
set_option linter.unusedVariables false
namespace Go.Proofs.Ytfplkjnnnbknoaa
open Go.RowKit Go.Proofs.Ytfplkjnnnbknoaa.Kind

theorem far_none {α : Type} {K : Kind Try.prog α} (w : World) (n : Nat) : K.FarC w n none 0 [] := ⟨row_none _, fun h => by simp at h⟩
theorem set3_far {α : Type} {K : Kind Try.prog α} {w : World} {base b : Nat} {a : Option Addr} {c : Nat} {l : List α} (h : K.FarC w base a c l) (hb : b < base) (x y z : Value) : K.FarC (set3 w b x y z) base a c l := ((h.set (p := ⟨b, 0, none⟩) hb _).set (p := ⟨b, 1, none⟩) hb _).set (p := ⟨b, 2, none⟩) hb _

set_option maxHeartbeats 4000000 in
set_option maxRecDepth 1000000 in
theorem rcut_any (cap : Int) (cl : Bool) (l : List Lt) (er cap2 : Int) (L : List Lt) (cl2 : Bool) (hR : CutR cap l cl er cap2 L cl2) (a : Option Addr) (c : Nat) (w : World) (hA : LK.RowC w a c l) :
    Calls Try.prog 11 #[.agg #[.int .i64 cap, .slice a l.length c, .bool cl]] w fun e w' => ∃ a' c', e = .returned (.tuple #[.agg #[.int .i64 cap2, .slice a' L.length c', .bool cl2], .int .i64 er]) ∧ LK.RowC w' a' c' L ∧ Below w.heap.size w w' := by
  have HB0 := Lib.hid (below2 w (.cells #[.int .i64 cap, .slice a l.length c, .bool cl] 24) (.cells #[.int .i64 0, .slice none 0 0, .bool false] 24))
  have HQ0 := Lib.hid (laid2 w (.cells #[.int .i64 cap, .slice a l.length c, .bool cl] 24) (.cells #[.int .i64 0, .slice none 0 0, .bool false] 24)).2
  have HA := Lib.hid hA
  clear hA
  rcases hR with ⟨rfl, rfl, rfl, rfl, rfl⟩ | ⟨rfl, rfl, rfl, rfl, rfl⟩
  · go_enter Try.func11, Try.ntmps11
    go_wp2_with fail
    refine bodyPost_ret (res_cell_tmp rfl _ _ _ (w.heap.size + 1) rfl _ (load3 HQ0.out)) rfl ?_
    exact ⟨none, 0, rfl, row_none _, HB0.out⟩
  · have HB1 := Lib.hid (below2 w (.cells #[.int .i64 cap2, .slice a L.length c, .bool true] 24) (.cells #[.int .i64 cap2, .slice a L.length c, .bool true] 24))
    have HQ1 := Lib.hid (laid2 w (.cells #[.int .i64 cap2, .slice a L.length c, .bool true] 24) (.cells #[.int .i64 cap2, .slice a L.length c, .bool true] 24)).2
    go_enter Try.func11, Try.ntmps11
    go_wp2_with fail
    refine bodyPost_ret (res_cell_tmp rfl _ _ _ (w.heap.size + 1) rfl _ (load3 HQ1.out)) rfl ?_
    exact ⟨a, c, rfl, HA.out.below HB1.out, HB1.out⟩

set_option maxHeartbeats 4000000 in
set_option maxRecDepth 1000000 in
theorem renter_any (cap : Int) (cl : Bool) (l : List Lt) (er cap2 : Int) (L : List Lt) (cl2 : Bool) (hR : EnterR cap l cl er cap2 L cl2) (hl : l.length ≤ 100000) (a : Option Addr) (c : Nat) (w : World) (hA : LK.RowC w a c l) :
    Calls Try.prog 16 #[.agg #[.int .i64 cap, .slice a l.length c, .bool cl]] w fun e w' => ∃ a' c', e = .returned (.tuple #[.agg #[.int .i64 cap2, .slice a' L.length c', .bool cl2], .int .i64 er]) ∧ LK.FarC w' w.heap.size a' c' L ∧ Below w.heap.size w w' := by
  have HB0 := Lib.hid (below2 w (.cells #[.int .i64 cap, .slice a l.length c, .bool cl] 24) (.cells #[.int .i64 0, .slice none 0 0, .bool false] 24))
  have HQ0 := Lib.hid (laid2 w (.cells #[.int .i64 cap, .slice a l.length c, .bool cl] 24) (.cells #[.int .i64 0, .slice none 0 0, .bool false] 24))
  have HA := Lib.hid hA
  clear hA
  rcases hR with ⟨rfl, rfl, rfl, rfl, rfl⟩ | ⟨rfl, hn, rfl, rfl, rfl, rfl⟩ | ⟨rfl, hn, rfl, rfl, hL, rfl⟩
  · go_enter Try.func16, Try.ntmps16
    go_wp2_with fail
    refine bodyPost_ret (res_cell_tmp rfl _ _ _ (w.heap.size + 1) rfl _ (load3 HQ0.out.2)) rfl ?_
    exact ⟨none, 0, rfl, far_none _ _, HB0.out⟩
  · go_enter Try.func16, Try.ntmps16
    go_wp2_with fail
    refine bodyPost_ret (res_cell_tmp rfl _ _ _ (w.heap.size + 1) rfl _ (load3 HQ0.out.2)) rfl ?_
    exact ⟨none, 0, rfl, far_none _ _, HB0.out⟩
  · have HL := Lib.hid hL
    have hn2 : ¬ cap2 ≤ (l.length : Int) := by omega
    clear hL
    go_enter Try.func16, Try.ntmps16
    go_wp2_with (first | (at_builtin; refine LK.wpList_append_owned rfl _ _ rfl (w.heap.size + 2) (.slice none 0 0) rfl [] (own_nil _ _) a l.length c rfl l rfl (HA.out.below HB0.out) (by simp; omega) (by simp) l rfl ?_; intro a1 c1 w1 hO hG; have HS1 := Lib.hid hG.size; have HO := Lib.hid hO; have HQ1 := Lib.hid ((hG.block w.heap.size (by simp; try omega) (by simp [Value.ownBlock])).trans HQ0.out.1); have HP1 := Lib.hid ((hG.block (w.heap.size + 1) (by simp) (by simp [Value.ownBlock])).trans HQ0.out.2); have HB1 := Lib.hid (HB0.out.grown hG (by simp; try omega) (fun j hj => by cases hj)); clear hO hG) | (at_builtin; refine LK.wpList_append_owned rfl _ _ rfl (w.heap.size + 2) (.slice a1 l.length c1) rfl l (HO.out.below (below1 w1 _) (Nat.le_refl _)) (some ⟨w1.heap.size, 0, none⟩) 1 1 rfl [Lt.zero] rfl (rowC_at (K := LK) w1 42 [Lt.zero] #[.int .i8 0, .int .i64 0, .int .i64 0, .int .i64 0, .string ⟨#[]⟩, .int .i64 0] w1.heap.size 1 rfl rfl rfl (by simp)) (by simp; omega) (by have := HS1.out; simp at this ⊢; omega) L HL.out ?_; intro a2 c2 w2 hO hG; have hlt := HO.out.ne HQ1.out (by decide); have hlt2 := HO.out.ne HP1.out (by decide); have hq := (hG.block w.heap.size (by have := HS1.out; simp at this ⊢; omega) (fun e => hlt e.symm)).trans ((Below.heap_alloc _ _ _ (by have := HS1.out; simp at this; omega)).trans HQ1.out); have hp := (hG.block (w.heap.size + 1) (by have := HS1.out; simp at this ⊢; omega) (fun e => hlt2 e.symm)).trans ((Below.heap_alloc _ _ _ (by have := HS1.out; simp at this; omega)).trans HP1.out); have HQ2 := Lib.hid hq; have HP2 := Lib.hid hp; have HO2 := Lib.hid hO; have HB2 := Lib.hid ((HB1.out.alloc HB1.out.size _).grown hG (by have := HS1.out; simp at this ⊢; omega) (fun j hj => by have := ((HO.out.lt j hj).1); omega)); obtain ⟨⟨p0, p1, p2⟩, p3, p4, p5⟩ := box3 hq; obtain ⟨⟨q0, q1, q2⟩, q3, q4, q5⟩ := box3 hp; clear hO hG hq hp hlt hlt2))
    change bodyPost _ _ _ _ _ (set3 (w2.setCell ⟨w.heap.size, 1, none⟩ (.slice a2 L.length c2)) (w.heap.size + 1) (.int .i64 cap2) (.slice a2 L.length c2) (.bool false))
    refine bodyPost_ret (res_cell_tmp rfl _ _ _ (w.heap.size + 1) rfl _ (load3 (set3_at ((Below.heap_setCell _ _ _ _ (by simp)).trans HP2.out) _ _ _))) rfl ?_
    exact ⟨a2, c2, rfl, (set3_own (HO2.out.set (p := ⟨w.heap.size, 1, none⟩) (by simp) _) (by omega) _ _ _).far.mono (by omega), set3_below (HB2.out.setCell (p := ⟨w.heap.size, 1, none⟩) (by simp) _) (by omega) _ _ _⟩

set_option maxHeartbeats 4000000 in
set_option maxRecDepth 1000000 in
theorem rleave_any (cap : Int) (cl : Bool) (l : List Lt) (er cap2 : Int) (L : List Lt) (cl2 : Bool) (hR : LeaveR cap l cl er cap2 L cl2) (hl : l.length ≤ 100000) (a : Option Addr) (c : Nat) (w : World) (hA : LK.RowC w a c l) :
    Calls Try.prog 18 #[.agg #[.int .i64 cap, .slice a l.length c, .bool cl]] w fun e w' => ∃ a' c', e = .returned (.tuple #[.agg #[.int .i64 cap2, .slice a' L.length c', .bool cl2], .int .i64 er]) ∧ LK.FarC w' w.heap.size a' c' L ∧ Below w.heap.size w w' := by
  have HB0 := Lib.hid (below2 w (.cells #[.int .i64 cap, .slice a l.length c, .bool cl] 24) (.cells #[.int .i64 0, .slice none 0 0, .bool false] 24))
  have HQ0 := Lib.hid (laid2 w (.cells #[.int .i64 cap, .slice a l.length c, .bool cl] 24) (.cells #[.int .i64 0, .slice none 0 0, .bool false] 24))
  have HA := Lib.hid hA
  clear hA
  rcases hR with ⟨rfl, rfl, rfl, rfl, rfl⟩ | ⟨hn, rfl, rfl, hL, rfl⟩
  · rw [List.length_nil] at *
    go_enter Try.func18, Try.ntmps18
    go_wp2_with fail
    refine bodyPost_ret (res_cell_tmp rfl _ _ _ (w.heap.size + 1) rfl _ (load3 HQ0.out.2)) rfl ?_
    exact ⟨none, 0, rfl, far_none _ _, HB0.out⟩
  · have hpos : 0 < l.length := by cases l with
      | nil => exact absurd rfl hn
      | cons m l => simp
    obtain ⟨k, hk⟩ : ∃ k, l.length = k + 1 := ⟨l.length - 1, by omega⟩
    have hLk : L.length = k := by rw [hL]; simp; omega
    obtain ⟨b, o, rfl, hb, hat⟩ := HA.out.2.2.2 hpos
    have hcc := HA.out.1
    have hc2 := HA.out.2.1
    unfold maxLen at hc2
    have HR1 := Lib.hid ((HA.out.drop 1 (by omega) (a' := if c = 1 then some ⟨b, o, none⟩ else some ⟨b, o + 6, none⟩) (by simp [add_at']; rfl)).below HB0.out)
    rw [← hL] at HR1
    have hk1 : (1 : Int) ≤ (k : Int) + 1 := by omega
    have hk2 : (k : Int) + 1 ≤ (c : Int) := by omega
    have hk3 : k + 1 ≤ c := by omega
    have hl2 : L.length ≤ 100000 := by omega
    rw [hk] at *
    have HLk := Lib.hid hLk
    clear hn hL hLk hat hpos HA
    go_enter Try.func18, Try.ntmps18
    go_wp2_with (at_builtin; refine LK.wpList_append_owned rfl _ _ rfl (w.heap.size + 2) (.slice none 0 0) rfl [] (own_nil _ _) (if c = 1 then some ⟨b, o, none⟩ else some ⟨b, o + 6, none⟩) k (c - 1) (by rfl) L HLk.out.symm HR1.out (by simp; omega) (by simp) L rfl ?_; intro a1 c1 w1 hO hG; have HS1 := Lib.hid hG.size; have HO := Lib.hid hO; have hq := (hG.block w.heap.size (by simp; try omega) (by simp [Value.ownBlock])).trans HQ0.out.1; have hp := (hG.block (w.heap.size + 1) (by simp) (by simp [Value.ownBlock])).trans HQ0.out.2; have HB1 := Lib.hid (HB0.out.grown hG (by simp; try omega) (fun j hj => by cases hj)); have HQ2 := Lib.hid hq; have HP2 := Lib.hid hp; obtain ⟨⟨p0, p1, p2⟩, p3, p4, p5⟩ := box3 hq; obtain ⟨⟨q0, q1, q2⟩, q3, q4, q5⟩ := box3 hp; clear hO hG hq hp)
    all_goals
      change bodyPost _ _ _ _ _ (set3 (w1.setCell ⟨w.heap.size, 1, none⟩ (.slice a1 L.length c1)) (w.heap.size + 1) (.int .i64 cap2) (.slice a1 L.length c1) (.bool cl2))
      refine bodyPost_ret (res_cell_tmp rfl _ _ _ (w.heap.size + 1) rfl _ (load3 (set3_at ((Below.heap_setCell _ _ _ _ (by simp)).trans HP2.out) _ _ _))) rfl ?_
      exact ⟨a1, c1, rfl, (set3_own (HO.out.set (p := ⟨w.heap.size, 1, none⟩) (by simp) _) (by omega) _ _ _).far.mono (by omega), set3_below (HB1.out.setCell (p := ⟨w.heap.size, 1, none⟩) (by simp) _) (by omega) _ _ _⟩

set_option maxHeartbeats 4000000 in
set_option maxRecDepth 1000000 in
theorem rgate_any (n er cap : Int) (hR : GateR n er cap) (w : World) :
    Calls Try.prog 14 #[.int .i64 n] w fun e w' => e = .returned (.tuple #[.agg #[.int .i64 cap, .slice none 0 0, .bool false], .int .i64 er]) ∧ Below w.heap.size w w' := by
  have HB0 := Lib.hid (below1 w (.cells #[.int .i64 cap, .slice none 0 0, .bool false] 24))
  have HQ0 := Lib.hid (laid1 w (.cells #[.int .i64 cap, .slice none 0 0, .bool false] 24))
  rcases hR with ⟨h1, rfl, rfl⟩ | ⟨h1, rfl, rfl⟩ | ⟨h1, h2, rfl, rfl⟩
  · go_enter Try.func14, Try.ntmps14
    go_wp2_with fail
    refine bodyPost_ret (res_cell_tmp rfl _ _ _ w.heap.size rfl _ (load3 HQ0.out)) rfl ?_
    exact ⟨rfl, HB0.out⟩
  · have h3 : ¬ n < 1 := by omega
    go_enter Try.func14, Try.ntmps14
    go_wp2_with fail
    refine bodyPost_ret (res_cell_tmp rfl _ _ _ w.heap.size rfl _ (load3 HQ0.out)) rfl ?_
    exact ⟨rfl, HB0.out⟩
  · have h3 : ¬ cap < 1 := by omega
    have h4 : ¬ 64 < cap := by omega
    go_enter Try.func14, Try.ntmps14
    go_wp2_with fail
    refine bodyPost_ret (res_cell_tmp rfl _ _ _ w.heap.size rfl _ (load3 HQ0.out)) rfl ?_
    exact ⟨rfl, HB0.out⟩

set_option maxHeartbeats 4000000 in
set_option maxRecDepth 1000000 in
theorem rtoken_any (w : World) :
    Calls Try.prog 26 #[] w fun e w' => e = .returned (.agg #[.int .i64 0, .slice none 0 0, .bool false]) ∧ Below w.heap.size w w' := by
  have HB0 := Lib.hid (below1 w (.cells #[.int .i64 0, .slice none 0 0, .bool false] 24))
  have HQ0 := Lib.hid (laid1 w (.cells #[.int .i64 0, .slice none 0 0, .bool false] 24))
  go_enter Try.func26, Try.ntmps26
  go_wp2_with fail
  refine bodyPost_ret (res_cell rfl _ _ _ w.heap.size rfl _ (load3 HQ0.out)) rfl ?_
  exact ⟨rfl, HB0.out⟩

set_option maxHeartbeats 4000000 in
set_option maxRecDepth 1000000 in
theorem rfree_any (cap : Int) (a : Option Addr) (n c : Nat) (cl : Bool) (w : World) (hc : cap ≤ 9223372036854775807) (hc2 : -1099511627776 ≤ cap) (hn : n ≤ 1000000) :
    Calls Try.prog 24 #[.agg #[.int .i64 cap, .slice a n c, .bool cl]] w fun e w' => e = .returned (.int .i64 (roomB cap n cl)) ∧ Below w.heap.size w w' := by
  have HB0 := Lib.hid (below1 w (.cells #[.int .i64 cap, .slice a n c, .bool cl] 24))
  cases cl
  · have hw : IntKind.i64.wrap (cap - (n : Int)) = cap - n := by rw [IntKind.wrap_i64]; omega
    by_cases h : cap ≤ (n : Int)
    · have HR := Lib.hid (roomB_zero h)
      have hm : max 0 (cap - (n : Int)) = 0 := by omega
      go_enter Try.func24, Try.ntmps24
      go_wp2_with fail
      go_ret
      exact ⟨by rw [HR.out]; rfl, HB0.out⟩
    · have HR := Lib.hid (roomB_pos (show (n : Int) < cap by omega))
      have hm : max 0 (cap - (n : Int)) = cap - n := by omega
      go_enter Try.func24, Try.ntmps24
      go_wp2_with fail
      go_ret
      exact ⟨by rw [HR.out]; rfl, HB0.out⟩
  · have HR := Lib.hid (show roomB cap n true = 0 by simp [roomB])
    go_enter Try.func24, Try.ntmps24
    go_wp2_with fail
    go_ret
    exact ⟨by rw [HR.out]; rfl, HB0.out⟩

theorem neq_self (x : Lt) (W : World) : (binOp .neq 42 (.agg #[.int .i8 x.kind, .int .i64 x.fr, .int .i64 x.num, .int .i64 x.sock, .string x.text, .int .i64 x.e]) (.agg #[.int .i8 x.kind, .int .i64 x.fr, .int .i64 x.num, .int .i64 x.sock, .string x.text, .int .i64 x.e])).run Try.prog W = .ok (.bool false) W := by
  have h := neq_letter W x x
  simp only [Lt.v] at h
  rw [h]
  simp

set_option maxHeartbeats 4000000 in
set_option maxRecDepth 1000000 in
/-- The document's look at two ducts, where they are alike. -/
theorem rsame_eq (cap : Int) (cl : Bool) (l : List Lt) (a b : Option Addr) (c d : Nat) (w : World) (hl : l.length ≤ 100000) (hA : LK.RowC w a c l) (hB : LK.RowC w b d l) :
    Calls Try.prog 12 #[.agg #[.int .i64 cap, .slice a l.length c, .bool cl], .agg #[.int .i64 cap, .slice b l.length d, .bool cl]] w fun e w' => e = .returned (.bool true) ∧ Below w.heap.size w w' := by
  have hb2 := ((Below.refl w.heap.size w).alloc (Nat.le_refl _) (.cells #[.int .i64 cap, .slice a l.length c, .bool cl] 24)).alloc (by simp) (.cells #[.int .i64 cap, .slice b l.length d, .bool cl] 24)
  have HA := Lib.hid (hA.below hb2)
  have HB := Lib.hid (hB.below hb2)
  have HW := Lib.hid hb2
  clear hA hB hb2
  cases cl
  all_goals
    go_enter Try.func12, Try.ntmps12
    go_wp2_with fail
    go_loopw [5] (fun i wr => ∃ k q : Nat, k ≤ l.length ∧ i = .int .i64 k ∧ wr = ((w.alloc (.cells #[.int .i64 cap, .slice a l.length c, .bool _] 24)).alloc (.cells #[.int .i64 cap, .slice b l.length d, .bool _] 24)).drewN q) (fun i _ => l.length - (intOf i).toNat)
    case atStart => exact ⟨0, 0, by omega, rfl, rfl⟩
    case round =>
      obtain ⟨k, q, hk, rfl, rfl⟩ := hrel
      by_cases hlt : k < l.length
      · obtain ⟨b1, o1, rfl, hb1, hat1⟩ := HA.out.2.2.2 (by omega)
        obtain ⟨b2, o2, rfl, hb2, hat2⟩ := HB.out.2.2.2 (by omega)
        obtain ⟨x, hx⟩ : ∃ x, l[k]? = some x := ⟨_, List.getElem?_eq_getElem hlt⟩
        obtain ⟨c0, c1, c2, c3, c4, c5⟩ := LK.six hat1 hx
        obtain ⟨d0, d1, d2, d3, d4, d5⟩ := LK.six hat2 hx
        have hnq := neq_self x
        have hgd := guard_letter
        clear hx hat1 hat2
        go_wp2_with fail
        go_quiet (fail)
        go_wp2_with fail
        go_roundw
        case rel => exact ⟨k + 1, _, by omega, by go_num, rfl⟩
        case measure => simp [intOf]; omega
      · obtain rfl : k = l.length := by omega
        go_wp2_with fail
        go_ret
        exact ⟨rfl, below_drewN HW.out q⟩
end Go.Proofs.Ytfplkjnnnbknoaa
