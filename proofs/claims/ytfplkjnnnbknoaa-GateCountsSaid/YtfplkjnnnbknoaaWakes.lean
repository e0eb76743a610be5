/- What the document says of a gate of 2. -/
import Derived.Test.YtfplkjnnnbknoaaNew
set_option linter.unusedSimpArgs false
set_option linter.unusedVariables false
namespace Go.Proofs.Ytfplkjnnnbknoaa
open Go.RowKit Go.Proofs.Ytfplkjnnnbknoaa.Kind

/-- What is kept in a region: alloc, a call. -/
theorem kept_alloc {A : Prop} {W0 W : World} (h : A ∧ Below W0.heap.size W0 W) (X : Obj) : Below W0.heap.size W0 (W.alloc X) := h.2.alloc h.2.size X
theorem kept_call {A : Prop} {W0 W w1 : World} (h : A ∧ Below W0.heap.size W0 W) (hb : Below W.heap.size W w1) : Below W0.heap.size W0 w1 := h.2.trans (hb.mono h.2.size)
/-- A row of one duct, of two ducts, in a block. -/
theorem drow1 {w : World} {g : Nat} {cap : Int} {a : Option Addr} {n c : Nat} {cl : Bool} {t : TypeId} (h : w.heap[g]? = some (.cells #[.int .i64 cap, .slice a n c, .bool cl] t (0, 0))) : DK.RowC w (some ⟨g, 0, none⟩) 1 [⟨cap, a, n, c, cl⟩] := by
  refine ⟨by simp, by unfold maxLen; omega, (fun e => by cases e), fun _ => ⟨g, 0, rfl, lt_of_block h, ?_⟩⟩
  intro j y hy i v hv
  have hj : j = 0 := by have := (List.getElem?_eq_some_iff.1 hy).1; simp at this; omega
  subst hj
  simp at hy
  subst hy
  have hi : i < 3 := by have := (List.getElem?_eq_some_iff.1 hv).1; simpa [DK, Dv.enc] using this
  obtain ⟨⟨c0, c1, c2⟩, _⟩ := box3 h
  match i, hi with
  | 0, _ | 1, _ | 2, _ => simp [DK, Dv.enc] at hv; subst hv; assumption
theorem inside1 (cap : Int) (a : Option Addr) (n c : Nat) (cl : Bool) (t : TypeId) (hn : n ≤ 1000000) (g : Nat) (w : World) (h : w.heap[g]? = some (.cells #[.int .i64 cap, .slice a n c, .bool cl] t (0, 0))) :
    Calls Try.prog 21 #[.slice (some ⟨g, 0, none⟩) 1 1] w fun e w' => e = .returned (.int .i64 n) ∧ Below w.heap.size w w' := by
  have h1 := inside_any [⟨cap, a, n, c, cl⟩] (some ⟨g, 0, none⟩) 1 w (drow1 h) (by simpa [sumN] using hn)
  simpa [sumN] using h1
theorem iscut1 (cap : Int) (a : Option Addr) (n c : Nat) (cl : Bool) (t : TypeId) (g : Nat) (w : World) (h : w.heap[g]? = some (.cells #[.int .i64 cap, .slice a n c, .bool cl] t (0, 0))) :
    Calls Try.prog 19 #[.slice (some ⟨g, 0, none⟩) 1 1] w fun e w' => e = .returned (.bool cl) ∧ Below w.heap.size w w' := by
  have h1 := iscut_any [⟨cap, a, n, c, cl⟩] (some ⟨g, 0, none⟩) 1 w (drow1 h)
  simpa [cutB] using h1
theorem iscut2 (cap cap2 : Int) (a a2 : Option Addr) (n n2 c c2 : Nat) (cl cl2 : Bool) (w : World) :
    Calls Try.prog 19 #[.slice (some ⟨w.heap.size, 0, none⟩) 2 2] (w.alloc (.cells #[.int .i64 cap, .slice a n c, .bool cl, .int .i64 cap2, .slice a2 n2 c2, .bool cl2] 24)) fun e w' => e = .returned (.bool (cl && cl2)) ∧ Below (w.alloc (.cells #[.int .i64 cap, .slice a n c, .bool cl, .int .i64 cap2, .slice a2 n2 c2, .bool cl2] 24)).heap.size (w.alloc (.cells #[.int .i64 cap, .slice a n c, .bool cl, .int .i64 cap2, .slice a2 n2 c2, .bool cl2] 24)) w' := by
  have h1 := iscut_any [⟨cap, a, n, c, cl⟩, ⟨cap2, a2, n2, c2, cl2⟩] (some ⟨w.heap.size, 0, none⟩) 2 _ (rowC_at (K := DK) w 24 [⟨cap, a, n, c, cl⟩, ⟨cap2, a2, n2, c2, cl2⟩] #[.int .i64 cap, .slice a n c, .bool cl, .int .i64 cap2, .slice a2 n2 c2, .bool cl2] w.heap.size 2 rfl rfl rfl (by simp))
  simpa [cutB] using h1
/-- A duct that is a variable has been stored into. -/
theorem var_set {W w2 : World} {B : Nat} {cap0 cap : Int} {a0 a : Option Addr} {n0 c0 c : Nat} {cl0 cl : Bool} {L : List Lt} {n : Nat} {w0 : World} (hq : W.heap[B]? = some (.cells #[.int .i64 cap0, .slice a0 n0 c0, .bool cl0] 24 (0, 0))) (hL : LK.Loose w2 W.heap.size a c L) (hB : Below W.heap.size W w2) (hb : Below n w0 W) (hn : n ≤ B) :
    (set3 w2 B (.int .i64 cap) (.slice a L.length c) (.bool cl)).heap[B]? = some (.cells #[.int .i64 cap, .slice a L.length c, .bool cl] 24 (0, 0)) ∧ LK.RowC (set3 w2 B (.int .i64 cap) (.slice a L.length c) (.bool cl)) a c L ∧ Below n w0 (set3 w2 B (.int .i64 cap) (.slice a L.length c) (.bool cl)) :=
  have hlt := lt_of_block hq
  ⟨set3_at ((hB.block B hlt).trans hq) _ _ _, (set3_loose hL hlt _ _ _).row, set3_below (hb.trans (hB.mono (by omega))) hn _ _ _⟩

set_option maxHeartbeats 8000000 in
set_option maxRecDepth 1000000 in
theorem wakes_any (w : World) : Calls Try.prog 9 #[] w fun e w' => e = .returned (.bool true) ∧ Below w.heap.size w w' := by
  have HG := Lib.hid (gate_any 2 0 2 (.inr (.inr ⟨by omega, by omega, rfl, rfl⟩)) w)
  go_enter Try.func9, Try.ntmps9
  go_wp2_with fail
  with_reducible refine HG.out.mono ?_
  rintro e w1 ⟨a1, c1, rfl, hL, hB⟩
  clear HG
  have hs1 := hB.size
  have hb1 := below1 w1 (.cells #[.int .i64 2, .slice a1 0 c1, .bool false] 24)
  have HB1 := Lib.hid (hB.trans (hb1.mono hs1))
  have HQ1 := Lib.hid (laid1 w1 (.cells #[.int .i64 2, .slice a1 0 c1, .bool false] 24))
  have HR1 := Lib.hid (hL.below hb1).row
  clear hL hB hb1
  go_wp2_with fail
  generalize w1.alloc (.cells #[.int .i64 2, .slice a1 0 c1, .bool false] 24) = W1 at *
  obtain ⟨⟨p0, p1, p2⟩, p3, p4, p5⟩ := box3 HQ1.out
  have HC1 := Lib.hid (enter_any 2 false [] 0 2 [Lt.zero] false (.inr (.inr ⟨rfl, by simp, rfl, rfl, rfl, rfl⟩)) (by simp) (by omega) a1 c1 W1 HR1.out)
  simp only [List.length_cons, List.length_nil, Nat.zero_add, Nat.reduceAdd] at HC1
  with_reducible refine HC1.out.mono ?_
  rintro e w2 ⟨a2, c2, rfl, hL, hB⟩
  have hq := (hB.block w1.heap.size (lt_of_block HQ1.out)).trans HQ1.out
  obtain ⟨⟨q0, q1, q2⟩, q3, q4, q5⟩ := box3 hq
  have HV := Lib.hid (var_set (cap := 2) (cl := false) HQ1.out hL hB HB1.out hs1)
  simp only [List.length_cons, List.length_nil, Nat.zero_add, Nat.reduceAdd] at HV
  have HQ2 := Lib.hid HV.out.1
  have HR2 := Lib.hid HV.out.2.1
  have HB2 := Lib.hid HV.out.2.2
  clear HV hL hB hq HC1 p0 p1 p2 p3 p4 p5
  generalize hW2 : set3 w2 w1.heap.size (.int .i64 2) (.slice a2 1 c2) (.bool false) = W2 at *
  unfold set3 at hW2
  obtain ⟨⟨p0, p1, p2⟩, p3, p4, p5⟩ := box3 HQ2.out
  have HC2 := Lib.hid (enter_any 2 false [Lt.zero] 0 2 [Lt.zero, Lt.zero] false (.inr (.inr ⟨rfl, by simp, rfl, rfl, rfl, rfl⟩)) (by simp) (by omega) a2 c2 W2 HR2.out)
  simp only [List.length_cons, List.length_nil, Nat.zero_add, Nat.reduceAdd] at HC2
  go_wp2_with fail
  with_reducible refine HC2.out.mono ?_
  rintro e w3 ⟨a3, c3, rfl, hL, hB⟩
  have hq := (hB.block w1.heap.size (lt_of_block HQ2.out)).trans HQ2.out
  obtain ⟨⟨q0, q1, q2⟩, q3, q4, q5⟩ := box3 hq
  have HV := Lib.hid (var_set (cap := 2) (cl := false) HQ2.out hL hB HB2.out hs1)
  simp only [List.length_cons, List.length_nil, Nat.zero_add, Nat.reduceAdd] at HV
  have HQ3 := Lib.hid HV.out.1
  have HR3 := Lib.hid HV.out.2.1
  have HB3 := Lib.hid HV.out.2.2
  clear HV hL hB hq HC2 p0 p1 p2 p3 p4 p5
  generalize hW3 : set3 w3 w1.heap.size (.int .i64 2) (.slice a3 2 c3) (.bool false) = W3 at *
  unfold set3 at hW3
  obtain ⟨⟨p0, p1, p2⟩, p3, p4, p5⟩ := box3 HQ3.out
  -- the third one
  have HC3 := Lib.hid (enter_any 2 false [Lt.zero, Lt.zero] 50 0 [] false (.inr (.inl ⟨rfl, by simp, rfl, rfl, rfl, rfl⟩)) (by simp) (by omega) a3 c3 W3 HR3.out)
  simp only [List.length_cons, List.length_nil, Nat.zero_add, Nat.reduceAdd] at HC3
  go_wp2_with fail
  with_reducible refine HC3.out.mono ?_
  rintro e w4 ⟨a4, c4, rfl, hL, hB⟩
  have hb4 := below1 w4 (.cells #[.int .i64 0, .slice a4 0 c4, .bool false] 24)
  have hb4 := hB.trans (hb4.mono hB.size)
  have HQ4 := Lib.hid ((hb4.block _ (lt_of_block HQ3.out)).trans HQ3.out)
  have HR4 := Lib.hid (HR3.out.below hb4)
  have HB4 := Lib.hid (HB3.out.trans (hb4.mono HB3.out.size))
  clear hL hB hb4 HC3 p0 p1 p2 p3 p4 p5
  obtain ⟨⟨p0, p1, p2⟩, p3, p4, p5⟩ := box3 HQ4.out
  go_wp2_with fail
  have hsz4 : (w4.alloc (.cells #[.int .i64 0, .slice a4 0 c4, .bool false] 24)).heap.size = w4.heap.size + 1 := by simp
  generalize w4.alloc (.cells #[.int .i64 0, .slice a4 0 c4, .bool false] 24) = W4 at *
  have hbr := below1 W4 (.cells #[.int .i64 2, .slice a3 2 c3, .bool false] 24)
  have HI := Lib.hid (inside1 2 a3 2 c3 false 24 (by omega) (w4.heap.size + 1) _ (by have h := laid1 W4 (.cells #[.int .i64 2, .slice a3 2 c3, .bool false] 24); rw [hsz4] at h; exact h))
  with_reducible refine HI.out.mono ?_
  rintro e w5 ⟨rfl, hB⟩
  have hb5 := hbr.trans (hB.mono hbr.size)
  have hq := (hb5.block _ (lt_of_block HQ4.out)).trans HQ4.out
  have HR5 := Lib.hid (HR4.out.below hb5)
  have HB5 := Lib.hid (HB4.out.trans (hb5.mono HB4.out.size))
  have HQ5 := Lib.hid hq
  clear hB hbr hb5 HI p0 p1 p2 p3 p4 p5 hq
  obtain ⟨⟨p0, p1, p2⟩, p3, p4, p5⟩ := box3 HQ5.out
  have HF := Lib.hid (free_any 2 a3 2 c3 false w5 (by omega))
  go_wp2_with fail
  with_reducible refine HF.out.mono ?_
  rintro e w6 ⟨rfl, hB⟩
  have hq := (hB.block _ (lt_of_block HQ5.out)).trans HQ5.out
  have HR6 := Lib.hid (HR5.out.below hB)
  have HB6 := Lib.hid (HB5.out.trans (hB.mono HB5.out.size))
  have HQ6 := Lib.hid hq
  clear hB HF p0 p1 p2 p3 p4 p5 hq
  obtain ⟨⟨p0, p1, p2⟩, p3, p4, p5⟩ := box3 HQ6.out
  have hroom : roomB 2 2 false = 0 := by decide
  -- Leave
  have HC6 := Lib.hid (leave_any 2 false [Lt.zero, Lt.zero] 0 2 [Lt.zero] false (.inr ⟨by simp, rfl, rfl, rfl, rfl⟩) (by simp) (by omega) a3 c3 w6 HR6.out)
  simp only [List.length_cons, List.length_nil, Nat.zero_add, Nat.reduceAdd] at HC6
  go_wp2_with fail
  with_reducible refine HC6.out.mono ?_
  rintro e w7 ⟨a7, c7, rfl, hL, hB⟩
  have hq := (hB.block w1.heap.size (lt_of_block HQ6.out)).trans HQ6.out
  obtain ⟨⟨q0, q1, q2⟩, q3, q4, q5⟩ := box3 hq
  have HV := Lib.hid (var_set (cap := 2) (cl := false) HQ6.out hL hB HB6.out hs1)
  simp only [List.length_cons, List.length_nil, Nat.zero_add, Nat.reduceAdd] at HV
  have HQ7 := Lib.hid HV.out.1
  have HR7 := Lib.hid HV.out.2.1
  have HB7 := Lib.hid HV.out.2.2
  clear HV hL hB hq HC6 p0 p1 p2 p3 p4 p5
  generalize hW7 : set3 w7 w1.heap.size (.int .i64 2) (.slice a7 1 c7) (.bool false) = W7 at *
  unfold set3 at hW7
  obtain ⟨⟨p0, p1, p2⟩, p3, p4, p5⟩ := box3 HQ7.out
  have HT := Lib.hid (fun w => token_any w)
  go_wp2_with fail
  with_reducible refine (HT.out _).mono ?_
  rintro e w8 ⟨a8, c8, rfl, hL, hB⟩
  have hq := (hB.block w1.heap.size (lt_of_block HQ7.out)).trans HQ7.out
  have HQ8 := Lib.hid hq
  have HB8 := Lib.hid (HB7.out.trans (hB.mono HB7.out.size))
  have HC8 := Lib.hid (cut_any 0 false [] 0 0 [] true (.inr ⟨rfl, rfl, rfl, rfl, rfl⟩) (by simp) (by omega) a8 c8 w8 hL.row)
  simp only [List.length_nil] at HC8
  clear hL hB p0 p1 p2 p3 p4 p5 hq
  obtain ⟨⟨p0, p1, p2⟩, p3, p4, p5⟩ := box3 HQ8.out
  go_wp2_with fail
  with_reducible refine HC8.out.mono ?_
  rintro e w9 ⟨a9, c9, rfl, hL, hB⟩
  have hb9 := below1 w9 (.cells #[.int .i64 0, .slice a9 0 c9, .bool true] 24)
  have hT := laid1 w9 (.cells #[.int .i64 0, .slice a9 0 c9, .bool true] 24)
  have hb9 := hB.trans (hb9.mono hB.size)
  have HQ9 := Lib.hid ((hb9.block _ (lt_of_block HQ8.out)).trans HQ8.out)
  have HT9 := Lib.hid hT
  have HB9 := Lib.hid (HB8.out.trans (hb9.mono HB8.out.size))
  clear hL hB hb9 HC8 p0 p1 p2 p3 p4 p5 hT
  obtain ⟨⟨p0, p1, p2⟩, p3, p4, p5⟩ := box3 HQ9.out
  obtain ⟨⟨t0, t1, t2⟩, t3, t4, t5⟩ := box3 HT9.out
  have hroom1 : roomB 2 1 false = 1 := by decide
  go_upto_region 9 with fail
  generalize w9.alloc (.cells #[.int .i64 0, .slice a9 0 c9, .bool true] 24) = W9 at *
  have HSB := Lib.hid (show ∀ W', Below W9.heap.size W9 W' → ((W'.cell? ⟨w1.heap.size, 0, none⟩ = some (.int .i64 2) ∧ W'.cell? ⟨w1.heap.size, 1, none⟩ = some (.slice a7 1 c7) ∧ W'.cell? ⟨w1.heap.size, 2, none⟩ = some (.bool false)) ∧ (W'.cell? ⟨w9.heap.size, 0, none⟩ = some (.int .i64 0) ∧ W'.cell? ⟨w9.heap.size, 1, none⟩ = some (.slice a9 0 c9) ∧ W'.cell? ⟨w9.heap.size, 2, none⟩ = some (.bool true))) ∧ Below W9.heap.size W9 W' from fun W' h => ⟨⟨(box3 ((h.block _ (lt_of_block HQ9.out)).trans HQ9.out)).1, (box3 ((h.block _ (lt_of_block HT9.out)).trans HT9.out)).1⟩, h⟩)
  have HI := Lib.hid (fun W => inside1 2 a7 1 c7 false 24 (by omega) W.heap.size _ (laid1 W (.cells #[.int .i64 2, .slice a7 1 c7, .bool false] 24)))
  have HId := Lib.hid (inside1 2 a7 1 c7 false 24 (by omega) W9.heap.size (W9.alloc (.cells #[.int .i64 2, .slice a7 1 c7, .bool false] 24)).drew (laid1 W9 (.cells #[.int .i64 2, .slice a7 1 c7, .bool false] 24)))
  have HF := Lib.hid (fun W => free_any 2 a7 1 c7 false W (by omega))
  rw [hroom1] at HF
  have HK := Lib.hid (fun W => iscut1 0 a9 0 c9 true 24 W.heap.size _ (laid1 W (.cells #[.int .i64 0, .slice a9 0 c9, .bool true] 24)))
  have HK2 := Lib.hid (fun a c W => iscut2 0 0 a9 a 0 0 c9 c true false W)
  go_region_held3 (fun W' => ((W'.cell? ⟨w1.heap.size, 0, none⟩ = some (.int .i64 2) ∧ W'.cell? ⟨w1.heap.size, 1, none⟩ = some (.slice a7 1 c7) ∧ W'.cell? ⟨w1.heap.size, 2, none⟩ = some (.bool false)) ∧ (W'.cell? ⟨w9.heap.size, 0, none⟩ = some (.int .i64 0) ∧ W'.cell? ⟨w9.heap.size, 1, none⟩ = some (.slice a9 0 c9) ∧ W'.cell? ⟨w9.heap.size, 2, none⟩ = some (.bool true))) ∧ Below W9.heap.size W9 W')
    (first | exact HSB.out _ (kept_alloc (by assumption) _) | exact HSB.out _ (kept_call (by assumption) hbC) | exact HSB.out _ (Below.refl _ _).drew)
    (first
      | (go_at_call 21; first | (with_reducible refine (HI.out _).mono ?_) | (with_reducible refine HId.out.mono ?_)
         rintro e wC ⟨rfl, hbC⟩)
      | (go_at_call 23; with_reducible refine (HF.out _).mono ?_; rintro e wC ⟨rfl, hbC⟩)
      | (go_at_call 25; with_reducible refine (HT.out _).mono ?_; rintro e wC ⟨aC, cC, rfl, hLC, hbC⟩)
      | (go_at_call 19; first | (with_reducible refine (HK.out _).mono ?_) | (with_reducible refine (HK2.out _ _ _).mono ?_)
         rintro e wC ⟨rfl, hbC⟩))
  all_goals
    have hfin := HB9.out.trans ((kept_call (by assumption) (Below.refl _ wC) : Below W9.heap.size W9 wC).mono HB9.out.size)
    go_wp2_with fail
    go_ret
    exact ⟨rfl, hfin⟩
end Go.Proofs.Ytfplkjnnnbknoaa
