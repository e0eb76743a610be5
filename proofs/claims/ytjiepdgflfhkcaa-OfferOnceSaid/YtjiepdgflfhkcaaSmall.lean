/- The statements' own: which meeting stands ahead; is something ready; the same meetings; rows too great. -/
import Derived.Test.YtjiepdgflfhkcaaOffer
set_option linter.unusedSimpArgs false
set_option linter.unusedVariables false
namespace Go.Proofs.Ytjiepdgflfhkcaa
open Go.RowKit Go.Proofs.Ytjiepdgflfhkcaa.Kind Go.Proofs.Ytjiepdgflfhkcaa.P7

/-- The three cells of a duct in a row. -/
theorem DK.three {w : World} {b o : Nat} {l : List Dv} (h : DK.At w b o l) {j : Nat} {x : Dv} (hx : l[j]? = some x) :
    w.cell? ⟨b, o + j * 3, none⟩ = some (.int .i64 x.cap) ∧ w.cell? ⟨b, o + j * 3 + 1, none⟩ = some (.slice x.a x.n x.c) ∧ w.cell? ⟨b, o + j * 3 + 2, none⟩ = some (.bool x.closed) :=
  ⟨h j x hx 0 _ rfl, h j x hx 1 _ rfl, h j x hx 2 _ rfl⟩
instance (a b : Mt) : Decidable (lessP a b) := by unfold lessP; infer_instance

set_option maxHeartbeats 4000000 in
set_option maxRecDepth 1000000 in
theorem less_any (a b : Mt) (w : World) :
    Calls Try.prog 9 #[.agg #[.int .i64 a.p, .int .i64 a.i, .int .i64 a.q, .int .i64 a.j], .agg #[.int .i64 b.p, .int .i64 b.i, .int .i64 b.q, .int .i64 b.j]] w fun e w' => e = .returned (.bool (decide (lessP a b))) ∧ Below w.heap.size w w' := by
  obtain ⟨p, i, q, j⟩ := a
  obtain ⟨p', i', q', j'⟩ := b
  have HB := Lib.hid (below2 w (.cells #[.int .i64 p, .int .i64 i, .int .i64 q, .int .i64 j] 30) (.cells #[.int .i64 p', .int .i64 i', .int .i64 q', .int .i64 j'] 30))
  by_cases h1 : p = p'
  · by_cases h2 : i = i'
    · by_cases h3 : q = q'
      · have HR := Lib.hid (show decide (lessP ⟨p, i, q, j⟩ ⟨p', i', q', j'⟩) = decide (j < j') by unfold lessP; simp [h1, h2, h3])
        have g1 : (p == p') = true := by simp [h1]
        have g2 : (i == i') = true := by simp [h2]
        have g3 : (q == q') = true := by simp [h3]
        subst h1 h2 h3
        go_enter Try.func9, Try.ntmps9
        go_wp2_with fail
        go_ret
        exact ⟨by rw [HR.out]; rfl, HB.out⟩
      · have HR := Lib.hid (show decide (lessP ⟨p, i, q, j⟩ ⟨p', i', q', j'⟩) = decide (q < q') by unfold lessP; simp [h1, h2, h3])
        subst h1 h2
        go_enter Try.func9, Try.ntmps9
        go_wp2_with fail
        go_ret
        exact ⟨by rw [HR.out]; rfl, HB.out⟩
    · have HR := Lib.hid (show decide (lessP ⟨p, i, q, j⟩ ⟨p', i', q', j'⟩) = decide (i < i') by unfold lessP; simp [h1, h2])
      subst h1
      go_enter Try.func9, Try.ntmps9
      go_wp2_with fail
      go_ret
      exact ⟨by rw [HR.out]; rfl, HB.out⟩
  · have HR := Lib.hid (show decide (lessP ⟨p, i, q, j⟩ ⟨p', i', q', j'⟩) = decide (p < p') by unfold lessP; simp [h1])
    go_enter Try.func9, Try.ntmps9
    go_wp2_with fail
    go_ret
    exact ⟨by rw [HR.out]; rfl, HB.out⟩

set_option maxHeartbeats 4000000 in
set_option maxRecDepth 1000000 in
theorem rready_any (cap : Int) (a : Option Addr) (n c : Nat) (cl : Bool) (w : World) :
    Calls Try.prog 10 #[.agg #[.int .i64 cap, .slice a n c, .bool cl]] w fun e w' => e = .returned (.bool (decide (0 < n) || cl)) ∧ Below w.heap.size w w' := by
  have HB := Lib.hid (below1 w (.cells #[.int .i64 cap, .slice a n c, .bool cl] 42))
  rcases (show n = 0 ∨ 0 < n by omega) with rfl | hn
  all_goals
    go_enter Try.func10, Try.ntmps10
    go_wp2_with fail
    go_ret
    exact ⟨by simp [*], HB.out⟩

theorem neq_self_meet (x : Mt) (W : World) : (binOp .neq 30 (.agg #[.int .i64 x.p, .int .i64 x.i, .int .i64 x.q, .int .i64 x.j]) (.agg #[.int .i64 x.p, .int .i64 x.i, .int .i64 x.q, .int .i64 x.j])).run Try.prog W = .ok (.bool false) W := by
  have h := neq_meet W x x
  simp only [Mt.v] at h
  rw [h]
  simp

set_option maxHeartbeats 4000000 in
set_option maxRecDepth 1000000 in
theorem msame_eq (l : List Mt) (a b : Option Addr) (c d : Nat) (w : World) (hl : l.length ≤ 100000) (hA : MK.RowC w a c l) (hB : MK.RowC w b d l) :
    Calls Try.prog 13 #[.slice a l.length c, .slice b l.length d] w fun e w' => e = .returned (.bool true) ∧ Below w.heap.size w w' := by
  have HA := Lib.hid hA
  have HB := Lib.hid hB
  clear hA hB
  go_enter Try.func13, Try.ntmps13
  go_wp2_with fail
  go_loopw [5] (fun i wr => ∃ k q : Nat, k ≤ l.length ∧ i = .int .i64 k ∧ wr = w.drewN q) (fun i _ => l.length - (intOf i).toNat)
  case atStart => exact ⟨0, 0, by omega, rfl, rfl⟩
  case round =>
    obtain ⟨k, q, hk, rfl, rfl⟩ := hrel
    by_cases hlt : k < l.length
    · obtain ⟨b1, o1, rfl, hb1, hat1⟩ := HA.out.2.2.2 (by omega)
      obtain ⟨b2, o2, rfl, hb2, hat2⟩ := HB.out.2.2.2 (by omega)
      obtain ⟨x, hx⟩ : ∃ x, l[k]? = some x := ⟨_, List.getElem?_eq_getElem hlt⟩
      obtain ⟨c0, c1, c2, c3⟩ := MK.four hat1 hx
      obtain ⟨d0, d1, d2, d3⟩ := MK.four hat2 hx
      have hnq := neq_self_meet x
      have hgd := guard_meet
      clear hx hat1 hat2
      go_wp2_with fail
      go_quiet (fail)
      go_wp2_with fail
      go_roundw
      case rel => exact ⟨k + 1, _, by omega, by go_num, rfl⟩
      case measure => simp [intOf]; omega
    · obtain rfl : k = l.length := by omega
      go_wp2_with fail
      go_ret
      exact ⟨rfl, below_drewN (Below.refl _ _) q⟩

def sumH (l : List Hv) : Nat := (l.map (fun h => min h.n 1000)).sum
theorem sumH_cons (x : Hv) (l : List Hv) : sumH (x :: l) = min x.n 1000 + sumH l := by simp [sumH]
theorem sumH_le (l : List Hv) : sumH l ≤ 1000 * l.length := by
  induction l with
  | nil => simp [sumH]
  | cons x l ih => rw [sumH_cons, List.length_cons]; omega
def greatO (hs : List Hv) (D : List Dv) : Bool := (D.take 201).any (fun d => decide (100 < d.n)) || (decide (30 < hs.length) || (decide (100 < sumH (hs.take 31)) || decide (200 < D.length)))

set_option maxHeartbeats 8000000 in
set_option maxRecDepth 1000000 in
theorem greato_any (hs : List Hv) (D : List Dv) (a b : Option Addr) (c d : Nat) (w : World) (hA : RK.RowC w a c hs) (hB : DK.RowC w b d D) :
    Calls Try.prog 6 #[.slice a hs.length c, .slice b D.length d] w fun e w' => e = .returned (.bool (greatO hs D)) ∧ Below w.heap.size w w' := by
  have hl1 := hA.1
  have hl2 := hA.2.1
  have hm1 := hB.1
  have hm2 := hB.2.1
  unfold maxLen at hl2 hm2
  have HA := Lib.hid hA
  have HB := Lib.hid hB
  clear hA hB
  go_enter Try.func6, Try.ntmps6
  go_wp2_with fail
  go_loopw [5, 6] (fun u5 u6 wr => ∃ k s : Nat, u6 = .int .i64 k ∧ k ≤ hs.length ∧ k ≤ 31 ∧ u5 = .int .i64 s ∧ w = wr ∧ Hid (s + sumH ((hs.take 31).drop k) = sumH (hs.take 31))) (fun _ u _ => hs.length - (intOf u).toNat)
  case atStart => exact ⟨0, 0, rfl, by omega, by omega, rfl, rfl, Lib.hid (by simp)⟩
  case round =>
    obtain ⟨k, s, rfl, hk, hk2, rfl, rfl, hF⟩ := hrel
    have HF := Lib.hid hF.out
    clear hF
    have hs31 : s ≤ 31000 := by
      have h1 := HF.out
      have h2 := sumH_le (hs.take 31)
      have h3 : (hs.take 31).length ≤ 31 := by simp; omega
      have h4 : 1000 * (hs.take 31).length ≤ 31000 := by omega
      omega
    by_cases hlt : k < hs.length ∧ k ≤ 30
    · obtain ⟨hlt, hlt2⟩ := hlt
      obtain ⟨b1, o1, rfl, hb1, hat⟩ := HA.out.2.2.2 (by omega)
      obtain ⟨⟨xa, xn, xc⟩, hx⟩ : ∃ x, hs[k]? = some x := ⟨_, List.getElem?_eq_getElem hlt⟩
      have z0 := RK.one hat hx
      have hX := drop_at (hs.take 31) k _ (by rw [List.getElem?_take, if_pos (by omega), hx])
      have hF := HF.out
      rw [hX, sumH_cons] at hF
      obtain ⟨mn, hmn⟩ : ∃ mn : Nat, mn = min xn 1000 := ⟨_, rfl⟩
      have HR := Lib.hid (show s + mn + sumH ((hs.take 31).drop (k + 1)) = sumH (hs.take 31) by rw [← hF, hmn]; simp; omega)
      have hlb : (k : Int) < (hs.length : Int) := by omega
      have hlb2 : (k : Int) ≤ 30 := by omega
      have hwr : IntKind.i64.wrap ((s : Int) + (mn : Int)) = ((s + mn : Nat) : Int) := by rw [IntKind.wrap_i64]; omega
      clear hat hx hX hF
      rcases (show ((xn : Int) ≤ 1000 ∧ ¬ (1000 : Int) < xn ∧ mn = xn) ∨ (¬ (xn : Int) ≤ 1000 ∧ (1000 : Int) < xn ∧ mn = 1000) by omega) with ⟨h5, h6, h7⟩ | ⟨h5, h6, h7⟩
      all_goals
        rw [h7] at HR hwr
        clear h7 hmn
        go_wp2_with fail
        go_roundw
        case rel => exact ⟨k + 1, _, by go_num, by omega, by omega, by first | rfl | trivial | go_num, by trivial, HR⟩
        case measure => simp [intOf]; omega
    · have HR := Lib.hid (show s = sumH (hs.take 31) by
        have h1 := HF.out
        rw [List.drop_eq_nil_of_le (by simp; omega)] at h1
        simpa [sumH] using h1)
      have hk3 : k = hs.length ∨ (k = 31 ∧ (k : Int) < hs.length) := by omega
      clear HF hlt
      rcases hk3 with rfl | ⟨rfl, hk4⟩
      all_goals
        go_wp2_with fail
        go_loopw [4, 7] (fun u4 u7 wr => ∃ k : Nat, u7 = .int .i64 k ∧ k ≤ D.length ∧ k ≤ 201 ∧ u4 = .bool false ∧ w = wr ∧ Hid (((D.take 201).drop k).any (fun d => decide (100 < d.n)) = (D.take 201).any (fun d => decide (100 < d.n)))) (fun _ u _ => D.length - (intOf u).toNat)
        case atStart => exact ⟨0, rfl, by omega, by omega, rfl, rfl, Lib.hid rfl⟩
        case round =>
          obtain ⟨j, rfl, hj, hj2, rfl, rfl, hG⟩ := hrel
          have HG := Lib.hid hG.out
          clear hG
          by_cases hlt2 : j < D.length ∧ j ≤ 200
          · obtain ⟨hlt2, hlt3⟩ := hlt2
            obtain ⟨b2, o2, rfl, hb2, hat2⟩ := HB.out.2.2.2 (by omega)
            obtain ⟨⟨dc, da, dn, dcc, dcl⟩, hx2⟩ : ∃ x, D[j]? = some x := ⟨_, List.getElem?_eq_getElem hlt2⟩
            obtain ⟨z0, z1, z2⟩ := DK.three hat2 hx2
            have HX := Lib.hid (drop_at (D.take 201) j _ (by rw [List.getElem?_take, if_pos (by omega), hx2]))
            have hlc : (j : Int) < (D.length : Int) := by omega
            have hlc2 : (j : Int) ≤ 200 := by omega
            clear hat2 hx2
            by_cases hg : 100 < dn
            · have HR2 := Lib.hid (show (D.take 201).any (fun d => decide (100 < d.n)) = true by rw [← HG.out, HX.out, List.any_cons]; simp [hg])
              have hgi : (100 : Int) < (dn : Int) := by omega
              go_wp2_with fail
              go_ret
              exact ⟨by unfold greatO; rw [HR2.out]; rfl, Below.refl _ _⟩
            · have hgi : ¬ (100 : Int) < (dn : Int) := by omega
              have HR2 := Lib.hid (show ((D.take 201).drop (j + 1)).any (fun d => decide (100 < d.n)) = (D.take 201).any (fun d => decide (100 < d.n)) by rw [← HG.out, HX.out, List.any_cons]; simp [hg])
              go_wp2_with fail
              go_roundw
              case rel => exact ⟨j + 1, by go_num, by omega, by omega, by trivial, by trivial, HR2⟩
              case measure => simp [intOf]; omega
          · have HR2 := Lib.hid (show (D.take 201).any (fun d => decide (100 < d.n)) = false by rw [← HG.out, List.drop_eq_nil_of_le (by simp; omega)]; rfl)
            have hj3 : (j = D.length ∧ ¬ (200 : Int) < D.length) ∨ (j = D.length ∧ (200 : Int) < D.length) ∨ (j = 201 ∧ (j : Int) < D.length ∧ (200 : Int) < D.length) := by omega
            have HE := Lib.hid (show greatO hs D = (decide (30 < hs.length) || (decide (100 < s) || decide (200 < D.length))) by unfold greatO; rw [HR2.out, HR.out]; rfl)
            clear HG HR2 hlt2
            have hj4 : (j = D.length) ∨ (j = 201 ∧ (j : Int) < D.length) := by omega
            clear hj3
            by_cases h30 : (30 : Int) < (hs.length : Int)
            · have g30 : decide (30 < hs.length) = true := by simp; omega
              rcases hj4 with rfl | ⟨rfl, hj5⟩
              all_goals
                go_wp2_with fail
                all_goals (go_ret; exact ⟨by rw [HE.out, g30]; rfl, Below.refl _ _⟩)
            · have g30 : decide (30 < hs.length) = false := by simp; omega
              by_cases h100 : (100 : Int) < (s : Int)
              · have g100 : decide (100 < s) = true := by simp; omega
                rcases hj4 with rfl | ⟨rfl, hj5⟩
                all_goals
                  go_wp2_with fail
                  all_goals (go_ret; exact ⟨by rw [HE.out, g30, g100]; rfl, Below.refl _ _⟩)
              · have g100 : decide (100 < s) = false := by simp; omega
                have g200 : decide (200 < D.length) = decide ((200 : Int) < (D.length : Int)) := by rw [decide_eq_decide]; omega
                rcases hj4 with rfl | ⟨rfl, hj5⟩
                all_goals
                  go_wp2_with fail
                  all_goals (go_ret; exact ⟨by rw [HE.out, g30, g100, g200]; rfl, Below.refl _ _⟩)

theorem sumH_row (hs : List Hv) (R : List (List Of)) (hl : hs.length = R.length) (h : ∀ (j : Nat) (x : Hv) (l : List Of), hs[j]? = some x → R[j]? = some l → x.n = l.length) : sumH hs = (R.map (fun l => min l.length 1000)).sum := by
  unfold sumH
  congr 1
  apply List.ext_getElem
  · simp [hl]
  · intro i h1 h2
    simp at h1 h2
    simp [h i _ _ (List.getElem?_eq_getElem h1) (List.getElem?_eq_getElem h2)]
/-- What is not too great. -/
theorem greatO_false {w : World} {hs : List Hv} {R : List (List Of)} {D : List Dv} (hO : Over w hs R) (h : greatO hs D = false) : R.length ≤ 30 ∧ D.length ≤ 200 ∧ (∀ d ∈ D, d.n ≤ 100) ∧ (R.map (fun l => l.length)).sum ≤ 100 := by
  simp only [greatO, Bool.or_eq_false_iff, List.any_eq_false, decide_eq_false_iff_not, Bool.not_eq_true] at h
  obtain ⟨h1, h2, h3, h4⟩ := h
  have hl := hO.1
  refine ⟨by omega, by omega, fun d hd => ?_, ?_⟩
  · have := h1 d (by rw [List.take_of_length_le (by omega)]; exact hd)
    omega
  · rw [List.take_of_length_le (by omega), sumH_row hs R hl (fun j x l e1 e2 => (hO.2 j x l e1 e2).1)] at h3
    have h5 : (R.map (fun l => min l.length 1000)).sum ≤ 100 := by omega
    clear h1 h2 h3 h4 hO hl
    have h6 : ∀ Q : List (List Of), (Q.map (fun l => min l.length 1000)).sum ≤ 100 → (Q.map (fun l => l.length)).sum ≤ (Q.map (fun l => min l.length 1000)).sum := by
      intro Q
      induction Q with
      | nil => simp
      | cons l Q ih =>
        intro h
        simp only [List.map_cons, List.sum_cons] at h ⊢
        have := ih (by omega)
        omega
    have := h6 R h5
    omega
end Go.Proofs.Ytjiepdgflfhkcaa
