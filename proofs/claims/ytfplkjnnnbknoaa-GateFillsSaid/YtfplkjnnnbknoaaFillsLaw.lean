/- GateFills walked. -/
import Derived.Test.YtfplkjnnnbknoaaTellsLaw
import Derived.Deep.DeepCutAuto
set_option linter.unusedSimpArgs false
set_option linter.unusedVariables false
namespace Go.Proofs.Ytfplkjnnnbknoaa
open Go.RowKit Go.Proofs.Ytfplkjnnnbknoaa.Kind

theorem laidA (W : World) (X : Obj) : (W.alloc X).drew.heap[W.heap.size]? = some X := laid1 W X
theorem laidB1 (W : World) (X Y : Obj) : ((W.alloc X).alloc Y).drew.heap[W.heap.size]? = some X := (laid2 W X Y).1
theorem laidB2 (W : World) (X Y : Obj) : ((W.alloc X).alloc Y).drew.heap[W.heap.size + 1]? = some Y := (laid2 W X Y).2

set_option maxHeartbeats 16000000 in
set_option maxRecDepth 1000000 in
theorem gatefills_great (cap : Int) (cl : Bool) (n : Nat) (a : Option Addr) (c : Nat) (w : World) (hg : 100 < cap ∨ cap < -100 ∨ 100 < n ∨ cl = true) :
    Calls Try.prog 7 #[.agg #[.int .i64 cap, .slice a n c, .bool cl]] w fun e w' => e = .returned (.bool true) ∧ Below w.heap.size w w' := by
  have HWk := Lib.hid (fun w => wakes_any w)
  have HB0 := Lib.hid (below1 w (.cells #[.int .i64 cap, .slice a n c, .bool cl] 24))
  rcases (show 100 < cap ∨ (¬ 100 < cap ∧ cap < -100) ∨ (¬ 100 < cap ∧ ¬ cap < -100 ∧ (100 : Int) < n) ∨ (¬ 100 < cap ∧ ¬ cap < -100 ∧ ¬ (100 : Int) < n ∧ cl = true) by
    rcases hg with h | h | h | h
    · exact .inl h
    · exact .inr (.inl ⟨by omega, h⟩)
    · by_cases h1 : 100 < cap
      · exact .inl h1
      · by_cases h2 : cap < -100
        · exact .inr (.inl ⟨h1, h2⟩)
        · exact .inr (.inr (.inl ⟨h1, h2, by omega⟩))
    · by_cases h1 : 100 < cap
      · exact .inl h1
      · by_cases h2 : cap < -100
        · exact .inr (.inl ⟨h1, h2⟩)
        · by_cases h3 : (100 : Int) < n
          · exact .inr (.inr (.inl ⟨h1, h2, h3⟩))
          · exact .inr (.inr (.inr ⟨h1, h2, h3, h⟩))) with h1 | ⟨h1, h2⟩ | ⟨h1, h2, h3⟩ | ⟨h1, h2, h3, h4⟩
  case' inr.inr.inr => subst h4
  all_goals
    clear hg
    go_enter Try.func7, Try.ntmps7
    go_wp2_with fail
    with_reducible refine (HWk.out _).mono ?_
    rintro e w2 ⟨rfl, hB⟩
    have HB2 := Lib.hid (HB0.out.trans (hB.mono HB0.out.size))
    clear hB
    go_wp2_with fail
    go_ret
    exact ⟨rfl, HB2.out⟩

set_option maxHeartbeats 16000000 in
set_option maxRecDepth 1000000 in
theorem gatefills_walk (cap : Int) (l : List Lt) (a : Option Addr) (c : Nat) (w : World) (h1 : ¬ 100 < cap) (h2 : ¬ cap < -100) (h3 : ¬ (100 : Int) < l.length) (R : Nat) (hR : roomB cap l.length false = R) (hA : LK.RowC w a c l) :
    Calls Try.prog 7 #[.agg #[.int .i64 cap, .slice a l.length c, .bool false]] w fun e w' => e = .returned (.bool true) ∧ Below w.heap.size w w' := by
  have HWk := Lib.hid (fun w => wakes_any w)
  have hR1 : R ≤ 100 ∧ cap ≤ (l.length : Int) + R ∧ ∀ k : Nat, k < R → (l.length : Int) + k < cap := by
    simp only [roomB, Bool.false_eq_true, false_or] at hR
    split at hR <;> exact ⟨by omega, by omega, fun k hk => by omega⟩
  obtain ⟨hR100, hRc, hRk⟩ := hR1
  have hR100i : ¬ (100 : Int) < R := by omega
  have HRk := Lib.hid hRk
  have HA := Lib.hid hA
  have hb0 := below1 w (.cells #[.int .i64 cap, .slice a l.length c, .bool false] 24)
  have HB0 := Lib.hid hb0
  have HD0 := Lib.hid (laid1 w (.cells #[.int .i64 cap, .slice a l.length c, .bool false] 24))
  have HR0 := Lib.hid (hA.below hb0)
  clear hA hb0 hRk
  have hcap : cap ≤ 9223372036854775807 := by omega
  obtain ⟨⟨d0, d1, d2⟩, d3, d4, d5⟩ := box3 HD0.out
  have HFr := Lib.hid (fun W => free_any cap a l.length c false W hcap)
  rw [hR] at HFr
  have HI := Lib.hid (fun g W h => inside1 cap a l.length c false 24 (by omega) g W h)
  go_enter Try.func7, Try.ntmps7
  go_upto_region 3 with fail
  generalize w.alloc (.cells #[.int .i64 cap, .slice a l.length c, .bool false] 24) = W0 at *
  have HSB := Lib.hid (show ∀ W', Below W0.heap.size W0 W' → (W'.cell? ⟨w.heap.size, 0, none⟩ = some (.int .i64 cap) ∧ W'.cell? ⟨w.heap.size, 1, none⟩ = some (.slice a l.length c) ∧ W'.cell? ⟨w.heap.size, 2, none⟩ = some (.bool false)) ∧ Below W0.heap.size W0 W' from fun W' h => ⟨(box3 ((h.block _ (lt_of_block HD0.out)).trans HD0.out)).1, h⟩)
  go_cut [3, 4] (fun s3 s4 wx => s3 = .int .i64 R ∧ s4 = .int .i64 l.length ∧ Hid (Below W0.heap.size W0 wx))
  case first =>
   go_region_held3 (fun W' => (W'.cell? ⟨w.heap.size, 0, none⟩ = some (.int .i64 cap) ∧ W'.cell? ⟨w.heap.size, 1, none⟩ = some (.slice a l.length c) ∧ W'.cell? ⟨w.heap.size, 2, none⟩ = some (.bool false)) ∧ Below W0.heap.size W0 W')
     (first | assumption | exact HSB.out _ (kept_alloc (by assumption) _) | exact HSB.out _ (kept_call (by assumption) hbC) | exact HSB.out _ (Below.refl _ _).drew)
    (first
      | (go_at_call 23; with_reducible refine (HFr.out _).mono ?_; rintro e wC ⟨rfl, hbC⟩)
      | (go_at_call 21; with_reducible refine (HI.out _ _ (by first | exact laid1 _ _ | exact (hbC.block _ (by simp)).trans (laid1 _ _))).mono ?_; rintro e wC ⟨rfl, hbC⟩))
   all_goals
    have hfin := Lib.hid (kept_call (by assumption) (Below.refl _ wC) : Below W0.heap.size W0 wC)
    go_wp2_with fail
    go_meet
    exact ⟨rfl, rfl, hfin⟩
  case rest =>
    obtain ⟨rfl, rfl, hbW⟩ := hcut
    have HD1 := Lib.hid ((hbW.out.block _ (lt_of_block HD0.out)).trans HD0.out)
    have HR1 := Lib.hid (HR0.out.below hbW.out)
    have HB1 := Lib.hid (HB0.out.trans (hbW.out.mono HB0.out.size))
    have hRn : ¬ (R : Int) < 0 := by omega
    clear hbW HSB HFr HI HB0 HD0 HR0 d0 d1 d2 d3 d4 d5
    obtain ⟨⟨d0, d1, d2⟩, _⟩ := box3 HD1.out
    go_wp2_with fail
    clear d0 d1 d2
    go_loopw [2, 5] (fun u2 u5 wr => ∃ (k : Nat) (J : List Lt) (a5 : Option Addr) (c5 : Nat), u5 = .int .i64 k ∧ u2 = .bool false ∧ k ≤ R ∧ J.length = l.length + k ∧ Hid (wr.heap[w.heap.size]? = some (.cells #[.int .i64 cap, .slice a5 J.length c5, .bool false] 24 (0, 0))) ∧ Hid (LK.RowC wr a5 c5 J) ∧ Hid (Below w.heap.size w wr)) (fun _ u _ => R - (intOf u).toNat)
    case atStart => exact ⟨0, l, a, c, rfl, rfl, by omega, by omega, HD1, HR1, HB1⟩
    case round =>
      obtain ⟨k, J, a5, c5, rfl, rfl, hk, hJ, hD, hR5, hb⟩ := hrel
      have HD := Lib.hid hD.out
      have HR5 := Lib.hid hR5.out
      have HB := Lib.hid hb.out
      have hbs := hb.out.size
      clear hD hR5 hb HD1 HR1 HB1
      obtain ⟨⟨d0, d1, d2⟩, _⟩ := box3 HD.out
      have hJ200 : J.length ≤ 200 := by omega
      by_cases hlt : k < R
      · have hlb : (k : Int) < (R : Int) := by omega
        have hroom : (J.length : Int) < cap := by have := HRk.out k hlt; omega
        obtain ⟨L, hL⟩ : ∃ L, L = J ++ [Lt.zero] := ⟨_, rfl⟩
        have hLl : L.length = J.length + 1 := by rw [hL]; simp
        have HC := Lib.hid (enter_any cap false J 0 cap L false (.inr (.inr ⟨rfl, hroom, rfl, rfl, hL, rfl⟩)) (by omega) hcap a5 c5 wr HR5.out)
        obtain ⟨m, hm⟩ : ∃ m, J.length = m := ⟨_, rfl⟩
        have HLl := Lib.hid hLl
        rw [hLl, hm] at HC
        rw [hm] at HD d1 hJ200 HLl hroom
        have hwr : IntKind.i64.wrap ((m : Int) + 1) = (m : Int) + 1 := by rw [IntKind.wrap_i64]; omega
        clear hLl hL
        go_wp2_with fail
        with_reducible refine HC.out.mono ?_
        rintro e w7 ⟨a7, c7, rfl, hL7, hB⟩
        have hb7 := hB.alloc hB.size (.cells #[.int .i64 cap, .slice a7 (m + 1) c7, .bool false] 24)
        have HD7 := Lib.hid ((hb7.block _ (lt_of_block HD.out)).trans HD.out)
        have HB7 := Lib.hid (HB.out.trans (hb7.mono hbs))
        have HO7 := Lib.hid (laid1 w7 (.cells #[.int .i64 cap, .slice a7 (m + 1) c7, .bool false] 24))
        have HL7 := Lib.hid (hL7.below (below1 w7 (.cells #[.int .i64 cap, .slice a7 (m + 1) c7, .bool false] 24)))
        have hAw := lt_of_block HD.out
        clear hL7 hB hb7 HC d0 d1 d2
        obtain ⟨⟨d0, d1, d2⟩, _⟩ := box3 HD7.out
        obtain ⟨⟨o0, o1, o2⟩, _⟩ := box3 HO7.out
        go_upto_region 10 with fail
        generalize w7.alloc (.cells #[.int .i64 cap, .slice a7 (m + 1) c7, .bool false] 24) = W7 at *
        generalize w7.heap.size = O at *
        have HSB := Lib.hid (show ∀ W', Below W7.heap.size W7 W' → ((W'.cell? ⟨w.heap.size, 0, none⟩ = some (.int .i64 cap) ∧ W'.cell? ⟨w.heap.size, 1, none⟩ = some (.slice a5 m c5) ∧ W'.cell? ⟨w.heap.size, 2, none⟩ = some (.bool false)) ∧ (W'.cell? ⟨O, 0, none⟩ = some (.int .i64 cap) ∧ W'.cell? ⟨O, 1, none⟩ = some (.slice a7 (m + 1) c7) ∧ W'.cell? ⟨O, 2, none⟩ = some (.bool false))) ∧ Below W7.heap.size W7 W' from fun W' h => ⟨⟨(box3 ((h.block _ (lt_of_block HD7.out)).trans HD7.out)).1, (box3 ((h.block _ (lt_of_block HO7.out)).trans HO7.out)).1⟩, h⟩)
        have HId := Lib.hid (fun g W h => inside1 cap a5 m c5 false 24 (by omega) g W h)
        have HIo := Lib.hid (fun g W h => inside1 cap a7 (m + 1) c7 false 24 (by omega) g W h)
        go_cut [64, 67, 71, 73] (fun _ _ _ s73 wx => s73 = .bool false ∧ Hid (Below W7.heap.size W7 wx))
        case first =>
          go_region_held3 (fun W' => ((W'.cell? ⟨w.heap.size, 0, none⟩ = some (.int .i64 cap) ∧ W'.cell? ⟨w.heap.size, 1, none⟩ = some (.slice a5 m c5) ∧ W'.cell? ⟨w.heap.size, 2, none⟩ = some (.bool false)) ∧ (W'.cell? ⟨O, 0, none⟩ = some (.int .i64 cap) ∧ W'.cell? ⟨O, 1, none⟩ = some (.slice a7 (m + 1) c7) ∧ W'.cell? ⟨O, 2, none⟩ = some (.bool false))) ∧ Below W7.heap.size W7 W')
            (first | assumption | exact HSB.out _ (kept_alloc (by assumption) _) | exact HSB.out _ (kept_call (by assumption) hbC) | exact HSB.out _ (Below.refl _ _).drew)
            (first
              | (go_at_call 21; first | (with_reducible refine (HIo.out _ _ ?_).mono ?_; focus (first | exact laid1 _ _ | exact laidA _ _ | exact laidB1 _ _ _ | exact laidB2 _ _ _ | exact (hbC.block _ (by simp; try omega)).trans (laidB1 _ _ _) | exact (hbC.block _ (by simp; try omega)).trans (laidB2 _ _ _))) | (with_reducible refine (HId.out _ _ ?_).mono ?_; focus (first | exact laid1 _ _ | exact laidA _ _ | exact laidB1 _ _ _ | exact laidB2 _ _ _ | exact (hbC.block _ (by simp; try omega)).trans (laidB1 _ _ _) | exact (hbC.block _ (by simp; try omega)).trans (laidB2 _ _ _))) | (trace_state; fail)
                 rintro e wC ⟨rfl, hbC⟩))
          all_goals
            have hfin := Lib.hid (kept_call (by assumption) (Below.refl _ wC) : Below W7.heap.size W7 wC)
            go_wp2_with fail
            go_meet
            exact ⟨rfl, hfin⟩
        case rest =>
          obtain ⟨rfl, hbW⟩ := hcut
          have HX8 := Lib.hid ((hbW.out.block _ (lt_of_block HD7.out)).trans HD7.out)
          have HO8 := Lib.hid ((hbW.out.block _ (lt_of_block HO7.out)).trans HO7.out)
          have HB8 := Lib.hid (set3_below (b := w.heap.size) (HB7.out.trans (hbW.out.mono HB7.out.size)) (Nat.le_refl _) (.int .i64 cap) (.slice a7 (m + 1) c7) (.bool false))
          have HR8 := Lib.hid (set3_loose (HL7.out.below hbW.out) hAw (.int .i64 cap) (.slice a7 (m + 1) c7) (.bool false)).row
          have HA8 := Lib.hid (set3_at HX8.out (.int .i64 cap) (.slice a7 (m + 1) c7) (.bool false))
          clear hbW HSB HId HIo HB7 HD7 HO7 HL7 HD d0 d1 d2 o0 o1 o2
          obtain ⟨⟨d0, d1, d2⟩, d3, d4, d5⟩ := box3 HX8.out
          obtain ⟨⟨o0, o1, o2⟩, _⟩ := box3 HO8.out
          go_wp2_with fail
          go_roundw
          case rel => exact ⟨k + 1, L, a7, c7, by go_num, by trivial, by omega, by rw [HLl.out]; omega, by rw [HLl.out]; exact HA8, HR8, HB8⟩
          case measure => simp [intOf]; omega
      · obtain rfl : k = R := by omega
        obtain ⟨m, hm⟩ : ∃ m, J.length = m := ⟨_, rfl⟩
        have HC := Lib.hid (enter_any cap false J 50 0 [] false (.inr (.inl ⟨rfl, by omega, rfl, rfl, rfl, rfl⟩)) (by omega) hcap a5 c5 wr HR5.out)
        have hroom0 : roomB cap m false = 0 := roomB_zero (by omega)
        have HFr := Lib.hid (fun W => free_any cap a5 m c5 false W hcap)
        rw [hroom0] at HFr
        rw [List.length_nil, hm] at HC
        rw [hm] at HD d1 hJ200
        go_wp2_with fail
        with_reducible refine HC.out.mono ?_
        rintro e w7 ⟨a7, c7, rfl, hL7, hB⟩
        have hb7 := hB.alloc hB.size (.cells #[.int .i64 0, .slice a7 0 c7, .bool false] 24)
        have HD7 := Lib.hid ((hb7.block _ (lt_of_block HD.out)).trans HD.out)
        have HB7 := Lib.hid (HB.out.trans (hb7.mono hbs))
        have HR7 := Lib.hid (HR5.out.below hb7)
        clear hL7 hB hb7 HC d0 d1 d2
        obtain ⟨⟨d0, d1, d2⟩, _⟩ := box3 HD7.out
        go_wp2_with fail
        generalize w7.alloc (.cells #[.int .i64 0, .slice a7 0 c7, .bool false] 24) = W7 at *
        with_reducible refine (HFr.out _).mono ?_
        rintro e w8 ⟨rfl, hB⟩
        have HD8 := Lib.hid ((hB.block _ (lt_of_block HD7.out)).trans HD7.out)
        have HB8 := Lib.hid (HB7.out.trans (hB.mono HB7.out.size))
        have HR8 := Lib.hid (HR7.out.below hB)
        have hRw : IntKind.i64.wrap ((k : Int) + (l.length : Int)) = ((k + l.length : Nat) : Int) := by rw [IntKind.wrap_i64]; omega
        have hRkk : IntKind.i64.wrap (k : Int) = (k : Int) := by rw [IntKind.wrap_i64]; omega
        clear hB d0 d1 d2 HD7 HB7 HR7 HFr HD HR5 HB
        go_wp2_with fail
        go_loopw [2, 10] (fun u2 u10 wr => ∃ (j : Nat) (J : List Lt) (a5 : Option Addr) (c5 : Nat), u10 = .int .i64 j ∧ u2 = .bool false ∧ j + J.length = k + l.length ∧ Hid (wr.heap[w.heap.size]? = some (.cells #[.int .i64 cap, .slice a5 J.length c5, .bool false] 24 (0, 0))) ∧ Hid (LK.RowC wr a5 c5 J) ∧ Hid (Below w.heap.size w wr)) (fun _ u _ => k + l.length - (intOf u).toNat)
        case atStart => exact ⟨0, J, a5, c5, rfl, rfl, by omega, by rw [hm]; exact HD8, HR8, HB8⟩
        case round =>
          obtain ⟨j, J', a9, c9, rfl, rfl, hj, hD, hR9, hb⟩ := hrel
          have HD := Lib.hid hD.out
          have HR9 := Lib.hid hR9.out
          have HB := Lib.hid hb.out
          have hbs := hb.out.size
          clear hD hR9 hb HD8 HR8 HB8
          obtain ⟨⟨d0, d1, d2⟩, _⟩ := box3 HD.out
          cases J' with
          | cons x L =>
            have hk1 : j + 1 + L.length = k + l.length := by rw [← hj]; simp; omega
            have hlb : (j : Int) < ((k + l.length : Nat) : Int) := by omega
            have HC := Lib.hid (leave_any cap false (x :: L) 0 cap L false (.inr ⟨by simp, rfl, rfl, rfl, rfl⟩) (by omega) hcap a9 c9 wr HR9.out)
            rw [List.length_cons] at HC
            go_wp2_with fail
            with_reducible refine HC.out.mono ?_
            rintro e v7 ⟨a7, c7, rfl, hL7, hB⟩
            have hb7 := hB.alloc hB.size (.cells #[.int .i64 cap, .slice a7 L.length c7, .bool false] 24)
            have HX8 := Lib.hid ((hb7.block _ (lt_of_block HD.out)).trans HD.out)
            have HO8 := Lib.hid (laid1 v7 (.cells #[.int .i64 cap, .slice a7 L.length c7, .bool false] 24))
            have HB8 := Lib.hid (set3_below (b := w.heap.size) (HB.out.trans (hb7.mono hbs)) (Nat.le_refl _) (.int .i64 cap) (.slice a7 L.length c7) (.bool false))
            have HR8 := Lib.hid (set3_loose (hL7.below (below1 v7 (.cells #[.int .i64 cap, .slice a7 L.length c7, .bool false] 24))) (lt_of_block HD.out) (.int .i64 cap) (.slice a7 L.length c7) (.bool false)).row
            have HA8 := Lib.hid (set3_at HX8.out (.int .i64 cap) (.slice a7 L.length c7) (.bool false))
            clear hL7 hB hb7 HC d0 d1 d2
            obtain ⟨⟨d0, d1, d2⟩, d3, d4, d5⟩ := box3 HX8.out
            obtain ⟨⟨o0, o1, o2⟩, _⟩ := box3 HO8.out
            go_wp2_with fail
            go_roundw
            case rel => exact ⟨j + 1, L, a7, c7, by go_num, by trivial, hk1, HA8, HR8, HB8⟩
            case measure => simp [intOf]; omega
          | nil =>
            obtain rfl : j = k + l.length := by simpa using hj
            have HC := Lib.hid (leave_any cap false [] 51 0 [] false (.inl ⟨rfl, rfl, rfl, rfl, rfl⟩) (by simp) hcap a9 c9 wr HR9.out)
            have hz : ∃ z, roomB cap 0 false = z ∧ ((0 < cap ∧ z = cap) ∨ (¬ 0 < cap ∧ z = 0)) := ⟨_, rfl, by simp only [roomB, Bool.false_eq_true, false_or]; split <;> omega⟩
            obtain ⟨z, hRz, hz⟩ := hz
            rcases hz with ⟨hc0, hz⟩ | ⟨hc0, hz⟩
            all_goals
              rw [hz] at hRz
              clear hz
              have HFr := Lib.hid (fun W => free_any cap a9 0 c9 false W hcap)
              rw [hRz] at HFr
              rw [List.length_nil] at HC HD d1
              go_wp2_with fail
              with_reducible refine HC.out.mono ?_
              rintro e v7 ⟨a7, c7, rfl, hL7, hB⟩
              have hb7 := hB.alloc hB.size (.cells #[.int .i64 0, .slice a7 0 c7, .bool false] 24)
              have HD7 := Lib.hid ((hb7.block _ (lt_of_block HD.out)).trans HD.out)
              have HB7 := Lib.hid (HB.out.trans (hb7.mono hbs))
              clear hL7 hB hb7 HC d0 d1 d2
              obtain ⟨⟨d0, d1, d2⟩, _⟩ := box3 HD7.out
              go_upto_region 24 with fail
              generalize v7.alloc (.cells #[.int .i64 0, .slice a7 0 c7, .bool false] 24) = W7 at *
              have HSB := Lib.hid (show ∀ W', Below W7.heap.size W7 W' → (W'.cell? ⟨w.heap.size, 0, none⟩ = some (.int .i64 cap) ∧ W'.cell? ⟨w.heap.size, 1, none⟩ = some (.slice a9 0 c9) ∧ W'.cell? ⟨w.heap.size, 2, none⟩ = some (.bool false)) ∧ Below W7.heap.size W7 W' from fun W' h => ⟨(box3 ((h.block _ (lt_of_block HD7.out)).trans HD7.out)).1, h⟩)
              have HI := Lib.hid (fun g W h => inside1 cap a9 0 c9 false 24 (by omega) g W h)
              go_region_held3 (fun W' => (W'.cell? ⟨w.heap.size, 0, none⟩ = some (.int .i64 cap) ∧ W'.cell? ⟨w.heap.size, 1, none⟩ = some (.slice a9 0 c9) ∧ W'.cell? ⟨w.heap.size, 2, none⟩ = some (.bool false)) ∧ Below W7.heap.size W7 W')
                (first | assumption | exact HSB.out _ (kept_alloc (by assumption) _) | exact HSB.out _ (kept_call (by assumption) hbC) | exact HSB.out _ (Below.refl _ _).drew)
                (first
                  | (go_at_call 21; first | (with_reducible refine (HI.out _ _ ?_).mono ?_; focus (first | exact laid1 _ _ | exact laidA _ _))
                     rintro e wC ⟨rfl, hbC⟩)
                  | (go_at_call 23; with_reducible refine (HFr.out _).mono ?_; rintro e wC ⟨rfl, hbC⟩)
                  | (go_at_call 9; with_reducible refine (HWk.out _).mono ?_; rintro e wC ⟨rfl, hbC⟩))
              all_goals
                have hfin := HB7.out.trans ((kept_call (by assumption) (Below.refl _ wC) : Below W7.heap.size W7 wC).mono HB7.out.size)
                go_wp2_with fail
                go_ret
                exact ⟨rfl, hfin⟩

theorem gatefills_all (cap : Int) (cl : Bool) (l : List Lt) (a : Option Addr) (c : Nat) (w : World) (hA : LK.RowC w a c l) :
    Calls Try.prog 7 #[.agg #[.int .i64 cap, .slice a l.length c, .bool cl]] w fun e w' => e = .returned (.bool true) ∧ Below w.heap.size w w' := by
  by_cases h : 100 < cap ∨ cap < -100 ∨ 100 < l.length ∨ cl = true
  · exact gatefills_great cap cl l.length a c w h
  · obtain rfl : cl = false := by cases cl <;> simp_all
    exact gatefills_walk cap l a c w (by omega) (by omega) (by omega) (roomB cap l.length false).toNat (by
      simp only [roomB, Bool.false_eq_true, false_or]
      split <;> omega) hA
end Go.Proofs.Ytfplkjnnnbknoaa
