/- Names: the program's own look. -/
import Derived.Test.YtpeohgmceadmeaaDoorValid
import Derived.Deep.LoopGhost
namespace Go.Proofs.YtpeohgmceadmeaaDoor
open Go.RowKit

theorem decode_at (s : ByteArray) (pos : Nat) (h : pos < s.size) (r n : Nat) (ho : P.one (s.data.toList.drop pos) = (r, n)) :
    Utf8.decode s pos = if n = 0 then (65533, 1) else (r, n) := by
  rw [P.decode_eq s pos h, ho]; rfl

theorem all_false (ss : List ByteArray) (k : Nat) (h : k < ss.length) (hn : P.name ss[k].data.toList = false) : (ss.all fun s => P.name s.data.toList) = false := by
  rw [List.all_eq_false]
  exact ⟨ss[k], List.getElem_mem h, by simp [hn]⟩
theorem all_true (ss : List ByteArray) (hn : ∀ (j : Nat) (h : j < ss.length), P.name ss[j].data.toList = true) : (ss.all fun s => P.name s.data.toList) = true := by
  rw [List.all_eq_true]
  intro s hs
  obtain ⟨j, hj, rfl⟩ := List.getElem_of_mem hs
  exact hn j hj
theorem name_long (s : ByteArray) (h : 64 < s.size) : P.name s.data.toList = false := by
  have : ¬ s.data.toList.length ≤ 64 := by simpa using h
  rw [P.name, decide_eq_false this]; rfl
theorem nat_eq_false (a b : Nat) (h : a < b) : ((a : Int) == (b : Int)) = false := by
  rw [beq_eq_false_iff_ne]; omega

set_option maxHeartbeats 1600000 in
set_option maxRecDepth 100000 in
theorem valid_any (ss : List ByteArray) (bk : Nat) (w : World) (hl : ss.length ≤ 2) (hss : ∀ s ∈ ss, s.size ≤ 4000) (hbk : bk < w.heap.size)
    (hc : ∀ (k : Nat) (h : k < ss.length), w.cell? ⟨bk, k, none⟩ = some (.string ss[k])) :
    Calls Tryd.prog 19 #[.slice (some ⟨bk, 0, none⟩) ss.length ss.length] w fun e w' =>
      e = .returned (.bool (ss.all fun s => P.name s.data.toList)) ∧ Below w.heap.size w w' := by
  have HC := Lib.hid hc
  have HSS := Lib.hid hss
  clear hc hss
  go_enter Tryd.func19, Tryd.ntmps19
  go_wp2
  go_step3
  go_wp2
  go_step3
  go_wp2
  go_loopg [3, 11] ss.length (fun g good ix wr => ∃ k, k + g = ss.length ∧ ix = .int .i64 k ∧ good = .int .i64 k ∧ Hid (∀ (j : Nat) (h : j < ss.length), j < k → P.name ss[j].data.toList = true) ∧ Below w.heap.size w wr)
  case atStart => exact ⟨0, by omega, rfl, rfl, Lib.hid (fun j h h' => absurd h' (by omega)), Below.refl _ _⟩
  case round =>
    obtain ⟨k, hkg, rfl, rfl, hn, hb⟩ := hrel
    by_cases hk : k < ss.length
    · have hck : wr.cell? ⟨bk, k, none⟩ = some (.string ss[k]) := by
        rw [hb.cell (p := ⟨bk, k, none⟩) hbk]; exact HC.out k hk
      have hsz := HSS.out ss[k] (List.getElem_mem hk)
      have HF := Lib.hid (fun h => all_false ss k hk h)
      have HN := Lib.hid (fun (h : P.name ss[k].data.toList = true) => (show ∀ (j : Nat) (h : j < ss.length), j < k + 1 → P.name ss[j].data.toList = true from fun j h1 h2 => by
        by_cases hj : j = k
        · subst hj; exact h
        · exact hn.out j h1 (by omega)))
      have HKF := nat_eq_false k ss.length hk
      generalize ss[k] = s at hck hsz HF HN
      by_cases h64 : 64 < s.size
      · go_wp2
        try rw [Exit.noGoto_ret]
        go_ret
        exact ⟨by rw [HF.out (name_long s h64)]; rfl, hb⟩
      · have HNE := Lib.hid (name_eq s (by omega))
        have hbs := hb.size
        obtain ⟨wo, rfl⟩ : ∃ wo : World, wo = wr := ⟨_, rfl⟩
        go_wp2
        go_loopg [6] s.size (fun g b wi => ∃ pos b' : Nat, pos + g = s.size ∧ b = .int .i32 b' ∧ wi = wo.iter s pos ∧ Hid (P.validR 46 (P.runesOf s.data.toList) = P.validR b' (P.runesOf (s.data.toList.drop pos))))
        case atStart => exact ⟨0, 46, by omega, rfl, rfl, Lib.hid rfl⟩
        case round =>
          obtain ⟨pos, b, hpg, rfl, rfl, hv⟩ := hrel
          have hbi : Below w.heap.size w (wo.iter s pos) := hb.alloc hbs _
          by_cases hp : pos < s.size
          · obtain ⟨r, n, ho⟩ : ∃ r n, P.one (s.data.toList.drop pos) = (r, n) := ⟨_, _, rfl⟩
            obtain ⟨hr1, hr2, hr3⟩ := one_room s pos r n hp ho
            have HS := Lib.hid (valid_step s pos r n b hp ho hv.out)
            have hnx := fun ty => run_next_any (P := Tryd.prog) wo s pos ty hp
            rw [decode_at s pos hp r n ho] at hnx
            clear hv ho
            by_cases hn0 : n = 0
            · rw [if_pos hn0] at hnx
              have hf := (P.fol_bad b).2
              have hf' : P.fol (↑b) ((65533, 1) : Nat × Nat).1 = false := hf
              go_wp2_with (go_at_call 29; refine (follows_any _ _ _).mono ?_; rintro e w' ⟨rfl, rfl⟩)
              try rw [Exit.noGoto_ret]
              go_ret
              exact ⟨by rw [HF.out (by rw [HNE.out]; exact HS.out.1 (Or.inl hn0))]; rfl, hb.alloc hbs _⟩
            · rw [if_neg hn0] at hnx
              by_cases hf : P.fol b r = true
              · go_wp2_with (go_at_call 29; refine (follows_any _ _ _).mono ?_; rintro e w' ⟨rfl, rfl⟩)
                go_roundg (s.size - (pos + n))
                case rel => exact ⟨pos + n, r, by omega, rfl, rfl, Lib.hid (HS.out.2 hn0 hf)⟩
                case measure => omega
              · have hf : P.fol b r = false := by simpa using hf
                go_wp2_with (go_at_call 29; refine (follows_any _ _ _).mono ?_; rintro e w' ⟨rfl, rfl⟩)
                try rw [Exit.noGoto_ret]
                go_ret
                exact ⟨by rw [HF.out (by rw [HNE.out]; exact HS.out.1 (Or.inr hf))]; rfl, hb.alloc hbs _⟩
          · have hnx := fun ty => run_next_end (P := Tryd.prog) wo s pos ty hp
            rw [validR_end s pos b (by omega)] at hv
            by_cases hf : P.fol b 46 = true
            · go_wp2_with (go_at_call 29; refine (follows_any _ _ _).mono ?_; rintro e w' ⟨rfl, rfl⟩)
              go_roundg (ss.length - (k + 1))
              case rel => exact ⟨k + 1, by omega, by go_num, by go_num, Lib.hid (HN.out (by rw [HNE.out, hv.out, hf])), hbi⟩
              case measure => omega
            · have hf : P.fol b 46 = false := by simpa using hf
              go_wp2_with (go_at_call 29; refine (follows_any _ _ _).mono ?_; rintro e w' ⟨rfl, rfl⟩)
              try rw [Exit.noGoto_ret]
              go_ret
              exact ⟨by rw [HF.out (by rw [HNE.out, hv.out, hf])]; rfl, hbi⟩
    · obtain rfl : k = ss.length := by omega
      go_wp2
      try rw [Exit.noGoto_ret]
      go_ret
      exact ⟨by rw [all_true ss (fun j h => hn.out j h h)]; simp, hb⟩
end Go.Proofs.YtpeohgmceadmeaaDoor
