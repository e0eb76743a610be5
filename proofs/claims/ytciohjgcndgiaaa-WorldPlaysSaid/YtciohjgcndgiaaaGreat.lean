/- Whether a plan is too great: some answer or other. -/
import Derived.Test.YtciohjgcndgiaaaSpecs
set_option linter.unusedSimpArgs false
set_option linter.unusedVariables false
namespace Go.Proofs.Ytciohjgcndgiaaa
open Go.RowKit Go.Proofs.Ytciohjgcndgiaaa.Kind

def AnyI (v : Value) : Prop := ∃ z, v = .int .i64 z
def SomeG (P : Pl) (e : Ending) : Prop := ∃ r, e = .returned (.bool r) ∧ (r = false → Few P)
def SmallTo (P : Pl) (k : Nat) : Prop := ∀ (j : Nat) (z : Zo), j < k → P.zones[j]? = some z → z.name.size ≤ 400 ∧ z.ans.length ≤ 60
theorem smallTo_step {P : Pl} {k : Nat} {b : Zo} (h : SmallTo P k) (hb : P.zones[k]? = some b) (h1 : b.name.size ≤ 400) (h2 : b.ans.length ≤ 60) : SmallTo P (k + 1) := fun j z hj hz => by
  rcases (show j < k ∨ j = k by omega) with h' | rfl
  · exact h j z h' hz
  · rw [hb] at hz; cases hz; exact ⟨h1, h2⟩
theorem smallTo_all {P : Pl} (h : SmallTo P P.zones.length) : Small P := fun z hz => by
  obtain ⟨j, hj, e⟩ := List.getElem_of_mem hz
  exact h j z hj (by rw [List.getElem?_eq_getElem hj, e])
theorem great_yes (P : Pl) : SomeG P (.returned (.bool true)) := ⟨true, rfl, fun h => nomatch h⟩
theorem great_no {P : Pl} (h : Few P) : SomeG P (.returned (.bool false)) := ⟨false, rfl, fun _ => h⟩
set_option maxHeartbeats 8000000 in
set_option maxRecDepth 1000000 in
theorem great_any (v : Pv) (P : Pl) (w : World) (hP : PlanC w v P) :
    Calls Try.prog 6 #[v.val P] w fun e w' => SomeG P e ∧ Below w.heap.size w w' := by
  have HP := Lib.hid hP
  clear hP
  obtain ⟨za, zc, fa, fc, da, dc⟩ := v
  simp only [Pv.val]
  go_enter Try.func6, Try.ntmps6
  go_upto_region 1 with fail
  have hb := below1 w (.cells #[.slice za P.zones.length zc, .slice fa P.fates.length fc, .int .i64 P.ticks, .slice da P.drops.length dc] 26)
  have HBX := Lib.hid (laid1 w (.cells #[.slice za P.zones.length zc, .slice fa P.fates.length fc, .int .i64 P.ticks, .slice da P.drops.length dc] 26))
  have HB := Lib.hid hb
  have HP1 := Lib.hid (HP.out.below hb)
  obtain ⟨w1, hw1⟩ : ∃ w1, w1 = w.alloc (.cells #[.slice za P.zones.length zc, .slice fa P.fates.length fc, .int .i64 P.ticks, .slice da P.drops.length dc] 26) := ⟨_, rfl⟩
  rw [← hw1] at HBX HB HP1 ⊢
  clear hb hw1 HP
  obtain ⟨⟨x0, x1, x2, x3⟩, _⟩ := box4 HBX.out
  generalize hgs : w.heap.size = GS at *
  go_wp2_with fail
  go_loopw [3, 4] (fun u3 u4 wr => ∃ (k : Nat), AnyI u3 ∧ u4 = .int .i64 k ∧ k ≤ P.zones.length ∧ k ≤ 41 ∧ Hid (SmallTo P k) ∧ w1 = wr) (fun _ u _ => 42 - (intOf u).toNat)
  case atStart => exact ⟨0, ⟨_, rfl⟩, rfl, by omega, by omega, Lib.hid (fun j z hj => by omega), by first | rfl | trivial⟩
  case round =>
    obtain ⟨k, ⟨z, rfl⟩, rfl, hk, hk41, hst, rfl⟩ := hrel
    have HST := Lib.hid hst.out
    clear hst
    by_cases hlt : k < P.zones.length
    · have hki : (k : Int) < (P.zones.length : Int) := by omega
      by_cases h40 : k ≤ 40
      · have hk40 : (k : Int) ≤ 40 := by omega
        have hd1 : decide ((k : Int) < (P.zones.length : Int)) = true := by simp [hki]
        obtain ⟨hs, hz⟩ := HP1.out.zones
        obtain ⟨b, hb⟩ : ∃ b, P.zones[k]? = some b := ⟨_, List.getElem?_eq_getElem hlt⟩
        obtain ⟨x, g, o, hx, e, hg, hat, hPz⟩ := hz.get hb
        dsimp only at e
        subst e
        obtain ⟨y0, y1⟩ := ZK.two hat hx
        obtain ⟨hn, hln, gs, hga⟩ := hPz
        have HGA := Lib.hid hga
        have HLN := Lib.hid hln
        have HNM := Lib.hid hn
        have HBB := Lib.hid hb
        obtain ⟨xn, xa, xl, xc⟩ := x
        dsimp only at y0 y1 HGA HLN HNM hn
        clear hz hb hx hat hga hln hn hg
        by_cases h60 : 60 < xl
        · have h60i : (60 : Int) < (xl : Int) := by omega
          have hd2 : decide ((60 : Int) < (xl : Int)) = true := by simp [h60i]
          go_wp2_with fail
          go_ret
          first | exact ⟨great_yes P, HB.out⟩ | exact ⟨great_yes P, hgs ▸ HB.out⟩ | exact ⟨great_no HFW.out, HB.out⟩ | exact ⟨great_no HFW.out, hgs ▸ HB.out⟩
        · have h60i : ¬ (60 : Int) < (xl : Int) := by omega
          have hd2 : decide ((60 : Int) < (xl : Int)) = false := by simp [h60i]
          by_cases h400 : 400 < xn.size
          · have h400i : (400 : Int) < (xn.size : Int) := by omega
            go_wp2_with fail
            go_ret
            first | exact ⟨great_yes P, HB.out⟩ | exact ⟨great_yes P, hgs ▸ HB.out⟩ | exact ⟨great_no HFW.out, HB.out⟩ | exact ⟨great_no HFW.out, hgs ▸ HB.out⟩
          · have h400i : ¬ (400 : Int) < (xn.size : Int) := by omega
            go_wp2_with fail
            go_loopw [3, 5] (fun u3 u5 wr => ∃ (j : Nat), AnyI u3 ∧ u5 = .int .i64 j ∧ j ≤ xl ∧ w1 = wr) (fun _ u _ => xl - (intOf u).toNat)
            case atStart => exact ⟨0, ⟨_, rfl⟩, rfl, by omega, by first | rfl | trivial⟩
            case round =>
              obtain ⟨j, ⟨z2, rfl⟩, rfl, hj, rfl⟩ := hrel
              by_cases hjl : j < xl
              · have hji : (j : Int) < (xl : Int) := by omega
                obtain ⟨l, hl⟩ : ∃ l, b.ans[j]? = some l := ⟨_, List.getElem?_eq_getElem (by have := HLN.out; omega)⟩
                obtain ⟨h2, g2, o2, hx2, e2, hg2, hat2, hP2⟩ := HGA.out.get hl
                subst e2
                have y2 := HK.one hat2 hx2
                obtain ⟨ha2, hn2, hc2⟩ := h2
                dsimp only at y2
                clear hx2 hat2 hP2 hl hg2
                go_wp2_with fail
                go_roundw
                case rel => exact ⟨j + 1, ⟨_, rfl⟩, by go_num, by omega, by first | rfl | trivial⟩
                case measure => simp [intOf]; omega
              · obtain rfl : j = xl := by omega
                go_wp2_with fail
                go_roundw
                case rel => exact ⟨k + 1, ⟨_, rfl⟩, by go_num, by omega, by omega, Lib.hid (smallTo_step HST.out HBB.out (by rw [← HNM.out]; omega) (by rw [← HLN.out]; omega)), by first | rfl | trivial⟩
                case measure => simp [intOf]; omega
      · have hk40 : ¬ (k : Int) ≤ 40 := by omega
        have hd1 : decide ((k : Int) < (P.zones.length : Int)) = true := by simp [hki]
        -- the fates' rows
        go_wp2_with fail
        go_loopw [3, 6] (fun u3 u6 wr => ∃ (k : Nat), AnyI u3 ∧ u6 = .int .i64 k ∧ k ≤ P.fates.length ∧ k ≤ 101 ∧ w1 = wr) (fun _ u _ => 102 - (intOf u).toNat)
        case atStart => exact ⟨0, ⟨_, rfl⟩, rfl, by omega, by omega, by first | rfl | trivial⟩
        case round =>
          obtain ⟨m, ⟨z3, rfl⟩, rfl, hm, hm101, rfl⟩ := hrel
          rcases (show (m < P.fates.length ∧ m ≤ 100) ∨ (m < P.fates.length ∧ 100 < m) ∨ m = P.fates.length by omega) with ⟨hml, hmh⟩ | ⟨hml, hmh⟩ | rfl
          · have hmi : (m : Int) < (P.fates.length : Int) := by omega
            have hm100 : (m : Int) ≤ 100 := by omega
            have hd3 : decide ((m : Int) < (P.fates.length : Int)) = true := by simp [hmi]
            obtain ⟨fs, hf⟩ := HP1.out.fates
            obtain ⟨b3, hb3⟩ : ∃ b, P.fates[m]? = some b := ⟨_, List.getElem?_eq_getElem hml⟩
            obtain ⟨x3', g3, o3, hx3, e3, hg3, hat3, hP3⟩ := hf.get hb3
            dsimp only at e3
            subst e3
            have y3 := FK.last hat3 hx3
            obtain ⟨xad, xa3, xl3, xc3⟩ := x3'
            dsimp only at y3
            clear hf hb3 hx3 hat3 hP3 hg3
            go_wp2_with fail
            go_roundw
            case rel => exact ⟨m + 1, ⟨_, rfl⟩, by go_num, by omega, by omega, by first | rfl | trivial⟩
            case measure => simp [intOf]; omega
          · have hmi : (m : Int) < (P.fates.length : Int) := by omega
            have hm100 : ¬ (m : Int) ≤ 100 := by omega
            have hd3 : decide ((m : Int) < (P.fates.length : Int)) = true := by simp [hmi]
            have h100 : (100 : Int) < (P.fates.length : Int) := by omega
            have hd5 : decide ((100 : Int) < (P.fates.length : Int)) = true := by simp [h100]
            have hz40 : (40 : Int) < (P.zones.length : Int) := by omega
            go_wp2_with fail
            go_ret
            first | exact ⟨great_yes P, HB.out⟩ | exact ⟨great_yes P, hgs ▸ HB.out⟩ | exact ⟨great_no HFW.out, HB.out⟩ | exact ⟨great_no HFW.out, hgs ▸ HB.out⟩
          · have hmi : ¬ (P.fates.length : Int) < (P.fates.length : Int) := by omega
            have hd3 : decide ((P.fates.length : Int) < (P.fates.length : Int)) = false := by simp
            have hz40 : (40 : Int) < (P.zones.length : Int) := by omega
            have hd4 : decide ((40 : Int) < (P.zones.length : Int)) = true := by simp [hz40]
            go_wp2_with fail
            go_ret
            first | exact ⟨great_yes P, HB.out⟩ | exact ⟨great_yes P, hgs ▸ HB.out⟩ | exact ⟨great_no HFW.out, HB.out⟩ | exact ⟨great_no HFW.out, hgs ▸ HB.out⟩
    · have hki : ¬ (k : Int) < (P.zones.length : Int) := by omega
      have hd1 : decide ((k : Int) < (P.zones.length : Int)) = false := by simp [hki]
      have HSM := Lib.hid (smallTo_all (show SmallTo P P.zones.length from (show k = P.zones.length by omega) ▸ HST.out))
      clear HST
      -- the fates' rows
      go_wp2_with fail
      go_loopw [3, 6] (fun u3 u6 wr => ∃ (k : Nat), AnyI u3 ∧ u6 = .int .i64 k ∧ k ≤ P.fates.length ∧ k ≤ 101 ∧ w1 = wr) (fun _ u _ => 102 - (intOf u).toNat)
      case atStart => exact ⟨0, ⟨_, rfl⟩, rfl, by omega, by omega, by first | rfl | trivial⟩
      case round =>
        obtain ⟨m, ⟨z3, rfl⟩, rfl, hm, hm101, rfl⟩ := hrel
        rcases (show (m < P.fates.length ∧ m ≤ 100) ∨ (m < P.fates.length ∧ 100 < m) ∨ m = P.fates.length by omega) with ⟨hml, hmh⟩ | ⟨hml, hmh⟩ | rfl
        · have hmi : (m : Int) < (P.fates.length : Int) := by omega
          have hm100 : (m : Int) ≤ 100 := by omega
          have hd3 : decide ((m : Int) < (P.fates.length : Int)) = true := by simp [hmi]
          obtain ⟨fs, hf⟩ := HP1.out.fates
          obtain ⟨b3, hb3⟩ : ∃ b, P.fates[m]? = some b := ⟨_, List.getElem?_eq_getElem hml⟩
          obtain ⟨x3', g3, o3, hx3, e3, hg3, hat3, hP3⟩ := hf.get hb3
          dsimp only at e3
          subst e3
          have y3 := FK.last hat3 hx3
          obtain ⟨xad, xa3, xl3, xc3⟩ := x3'
          dsimp only at y3
          clear hf hb3 hx3 hat3 hP3 hg3
          go_wp2_with fail
          go_roundw
          case rel => exact ⟨m + 1, ⟨_, rfl⟩, by go_num, by omega, by omega, by first | rfl | trivial⟩
          case measure => simp [intOf]; omega
        · have hmi : (m : Int) < (P.fates.length : Int) := by omega
          have hm100 : ¬ (m : Int) ≤ 100 := by omega
          have hd3 : decide ((m : Int) < (P.fates.length : Int)) = true := by simp [hmi]
          have h100 : (100 : Int) < (P.fates.length : Int) := by omega
          have hd5 : decide ((100 : Int) < (P.fates.length : Int)) = true := by simp [h100]
          by_cases hz40 : (40 : Int) < (P.zones.length : Int)
          · go_wp2_with fail
            go_ret
            first | exact ⟨great_yes P, HB.out⟩ | exact ⟨great_yes P, hgs ▸ HB.out⟩ | exact ⟨great_no HFW.out, HB.out⟩ | exact ⟨great_no HFW.out, hgs ▸ HB.out⟩
          · have hd4 : decide ((40 : Int) < (P.zones.length : Int)) = false := by simp [hz40]
            go_wp2_with fail
            go_ret
            first | exact ⟨great_yes P, HB.out⟩ | exact ⟨great_yes P, hgs ▸ HB.out⟩ | exact ⟨great_no HFW.out, HB.out⟩ | exact ⟨great_no HFW.out, hgs ▸ HB.out⟩
        · have hmi : ¬ (P.fates.length : Int) < (P.fates.length : Int) := by omega
          have hd3 : decide ((P.fates.length : Int) < (P.fates.length : Int)) = false := by simp
          by_cases hz40 : (40 : Int) < (P.zones.length : Int)
          · have hd4 : decide ((40 : Int) < (P.zones.length : Int)) = true := by simp [hz40]
            go_wp2_with fail
            go_ret
            first | exact ⟨great_yes P, HB.out⟩ | exact ⟨great_yes P, hgs ▸ HB.out⟩ | exact ⟨great_no HFW.out, HB.out⟩ | exact ⟨great_no HFW.out, hgs ▸ HB.out⟩
          · have hd4 : decide ((40 : Int) < (P.zones.length : Int)) = false := by simp [hz40]
            by_cases hf100 : (100 : Int) < (P.fates.length : Int)
            · have hd5 : decide ((100 : Int) < (P.fates.length : Int)) = true := by simp [hf100]
              go_wp2_with fail
              go_ret
              first | exact ⟨great_yes P, HB.out⟩ | exact ⟨great_yes P, hgs ▸ HB.out⟩ | exact ⟨great_no HFW.out, HB.out⟩ | exact ⟨great_no HFW.out, hgs ▸ HB.out⟩
            · have hd5 : decide ((100 : Int) < (P.fates.length : Int)) = false := by simp [hf100]
              have HFW := Lib.hid (show Few P from ⟨HSM.out, by omega, by omega⟩)
              by_cases hz3 : (3000 : Int) < z3
              · go_wp2_with fail
                go_ret
                first | exact ⟨great_yes P, HB.out⟩ | exact ⟨great_yes P, hgs ▸ HB.out⟩ | exact ⟨great_no HFW.out, HB.out⟩ | exact ⟨great_no HFW.out, hgs ▸ HB.out⟩
              · go_wp2_with fail
                go_ret
                first | exact ⟨great_yes P, HB.out⟩ | exact ⟨great_yes P, hgs ▸ HB.out⟩ | exact ⟨great_no HFW.out, HB.out⟩ | exact ⟨great_no HFW.out, hgs ▸ HB.out⟩
end Go.Proofs.Ytciohjgcndgiaaa
