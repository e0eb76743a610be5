/- The names of a plan. -/
import Derived.Test.YtlceeeajhejedaaStaysLaw
set_option linter.unusedSimpArgs false
set_option linter.unusedVariables false
namespace Go.Proofs.Ytlceeeajhejedaa
open Go.RowKit Go.Proofs.Ytlceeeajhejedaa.Kind

/-- Is it the name of one of the first k zones? -/
def nameIn (P : Pl) (s : ByteArray) (k : Nat) : Bool := (P.zones.take k).any (fun z => decide (z.name = s))
def textIn (L : List ByteArray) (s : ByteArray) (k : Nat) : Bool := (L.take k).any (fun x => decide (x = s))
theorem nameIn_succ {P : Pl} {s : ByteArray} {k : Nat} {z : Zo} (h : P.zones[k]? = some z) : nameIn P s (k + 1) = (nameIn P s k || decide (z.name = s)) := by
  unfold nameIn
  rw [List.take_add_one, h]
  simp
theorem textIn_succ {L : List ByteArray} {s : ByteArray} {k : Nat} {x : ByteArray} (h : L[k]? = some x) : textIn L s (k + 1) = (textIn L s k || decide (x = s)) := by
  unfold textIn
  rw [List.take_add_one, h]
  simp
theorem nameIn_all {P : Pl} {s : ByteArray} (h : ∃ z ∈ P.zones, z.name = s) : nameIn P s P.zones.length = true := by
  unfold nameIn
  rw [List.take_length, List.any_eq_true]
  obtain ⟨z, hz, e⟩ := h
  exact ⟨z, hz, by simp [e]⟩
theorem textIn_all {L : List ByteArray} {s : ByteArray} (h : s ∈ L) : textIn L s L.length = true := by
  unfold textIn
  rw [List.take_length, List.any_eq_true]
  exact ⟨s, h, by simp⟩
theorem names_many {P : Pl} {L : List ByteArray} (h : NamesP P L) (hd : (P.zones.map (·.name)).Nodup) : L.length = P.zones.length := by
  have h1 := ((List.perm_ext_iff_of_nodup h.once hd).2 (fun a => by rw [h.mem]; simp)).length_eq
  simpa using h1
theorem check_names {R : Rules} {P : Pl} (h : checkB R P = true) : (P.zones.map (·.name)).Nodup ∧ ∀ z ∈ P.zones, R.zok z = true := by
  unfold checkB at h
  simp only [Bool.and_eq_true, decide_eq_true_eq, List.all_eq_true] at h
  exact ⟨h.1.1.1.1.1.1.2, h.1.1.1.1.1.1.1.2⟩
theorem find_first {Z : List Zo} {k : Nat} {z : Zo} (hd : (Z.map (·.name)).Nodup) (h : Z[k]? = some z) : Z.find? (fun y => decide (y.name = z.name)) = some z := by
  induction Z generalizing k with
  | nil => simp at h
  | cons y Z ih =>
    simp only [List.map_cons, List.nodup_cons] at hd
    rw [List.find?_cons]
    cases k with
    | zero => simp at h; subst h; simp
    | succ k =>
      have hk : Z[k]? = some z := by simpa using h
      have hne : y.name ≠ z.name := fun e => hd.1 (by rw [e]; exact List.mem_map_of_mem (List.mem_of_getElem? hk))
      simp only [hne, decide_false]
      exact ih hd.2 hk
theorem answer_at {P : Pl} {k n : Nat} {z : Zo} {l : List Ad} (hd : (P.zones.map (·.name)).Nodup) (h : P.zones[k]? = some z) (hl : z.ans[n]? = some l) : answerP P z.name n = l := by
  unfold answerP zoneOf
  rw [find_first hd h]
  dsimp only
  have hn := (List.getElem?_eq_some_iff.1 hl).1
  rw [show nthI (n : Int) z.ans.length = n by unfold nthI; omega, hl]
  rfl

theorem eq_text (a b : ByteArray) : (a.toList == b.toList) = decide (a = b) := by
  by_cases h : a = b
  · subst h; simp
  · have hne : a.toList ≠ b.toList := fun e => by
      rw [ByteArray.toList_eq, ByteArray.toList_eq] at e
      exact h (ByteArray.ext (Array.toList_inj.1 e))
    simp [h, hne]
set_option maxHeartbeats 16000000 in
set_option maxRecDepth 1000000 in
theorem plannames_walk (R : Rules) (HAn : AnswerSpec) (HCk : CheckSpec R) (HNm : NamesSpec) (HWk : WakesSpec) (P : Pl) (v : Pv) (w : World) (hF : Fits P) (hP : PlanC w v P) :
    Calls Try.prog 4 #[v.val P] w fun e w' => e = .returned (.bool true) ∧ Below w.heap.size w w' := by
  have HWk := Lib.hid (fun w => HWk w)
  have HGt := Lib.hid (fun w h => great_any v P w h)
  have HNm := Lib.hid (fun hf w h => HNm P v w hf h)
  have HAn := Lib.hid (fun s n w L r h1 h2 h3 => HAn P v s n w L r hF h1 h2 h3)
  obtain ⟨rc, hrc⟩ : ∃ r : Int, r = (if checkB R P = true then 0 else 90) := ⟨_, rfl⟩
  have HCk := Lib.hid (fun w hs h => HCk P v w rc hs h hrc)
  obtain ⟨za, zc, fa, fc, da, dc⟩ := v
  simp only [Pv.val] at HGt HNm HAn HCk ⊢
  have HP := Lib.hid hP
  have HRC := Lib.hid hrc
  clear hP hF hrc
  go_enter Try.func4, Try.ntmps4
  go_upto_region 1 with fail
  have hb1 := below1 w (.cells #[.slice za P.zones.length zc, .slice fa P.fates.length fc, .int .i64 P.ticks, .slice da P.drops.length dc] 26)
  have HX := Lib.hid (laid1 w (.cells #[.slice za P.zones.length zc, .slice fa P.fates.length fc, .int .i64 P.ticks, .slice da P.drops.length dc] 26))
  have HB := Lib.hid hb1
  have HP1 := Lib.hid (HP.out.below hb1)
  obtain ⟨w1, hw1⟩ : ∃ w1, w1 = w.alloc (.cells #[.slice za P.zones.length zc, .slice fa P.fates.length fc, .int .i64 P.ticks, .slice da P.drops.length dc] 26) := ⟨_, rfl⟩
  rw [← hw1] at HX HB HP1 ⊢
  clear hb1 hw1 HP
  have hGA : w.heap.size < w1.heap.size := lt_of_block HX.out
  have hHW : ∀ W : World, Below w1.heap.size w1 W → ((W.cell? ⟨w.heap.size, 0, none⟩ = some (.slice za P.zones.length zc) ∧ W.cell? ⟨w.heap.size, 1, none⟩ = some (.slice fa P.fates.length fc) ∧ W.cell? ⟨w.heap.size, 2, none⟩ = some (.int .i64 P.ticks) ∧ W.cell? ⟨w.heap.size, 3, none⟩ = some (.slice da P.drops.length dc)) ∧ PlanC W ⟨za, zc, fa, fc, da, dc⟩ P) := fun W h =>
    ⟨(box4 ((h.block _ hGA).trans HX.out)).1, HP1.out.below h⟩
  have HW := Lib.hid hHW
  clear hHW HX
  obtain ⟨⟨x0, x1, x2, x3⟩, _⟩ := HW.out w1 (Below.refl _ _)
  go_wp2_with fail
  with_reducible refine (HGt.out _ HP1.out).mono ?_
  rintro e w2 ⟨⟨r, rfl, hfew⟩, hb⟩
  have HFEW := Lib.hid hfew
  clear hfew
  have HB2 := Lib.hid hb
  clear x0 x1 x2 x3 hb HGt HP1
  obtain ⟨⟨x0, x1, x2, x3⟩, hp2⟩ := HW.out w2 HB2.out
  have HP2 := Lib.hid hp2
  have hZl : P.zones.length ≤ 9223372036854775807 := by obtain ⟨⟨hs, h1⟩, _⟩ := hp2; have h2 := h1.1; have h3 := h1.2.1.1; have h4 := h1.2.1.2.1; dsimp only at h3 h4; unfold maxLen at h4; omega
  clear hp2
  cases r with
  | true =>
    go_wp2_with fail
    with_reducible refine (HWk.out _).mono ?_
    rintro e w3 ⟨rfl, hb⟩
    have HBf := Lib.hid (HB.out.trans ((HB2.out.trans (hb.mono HB2.out.size)).mono HB.out.size))
    clear hb
    go_wp2_with fail
    go_ret
    exact ⟨rfl, HBf.out⟩
  | false =>
    have HSM := Lib.hid (HFEW.out rfl).1
    have HNm := Lib.hid (HNm.out (HFEW.out rfl))
    clear HFEW
    go_wp2_with fail
    with_reducible refine (HNm.out _ HP2.out).mono ?_
    rintro e w3 ⟨L, al, cl, rfl, hR, hnm, hb⟩
    have HR := Lib.hid hR
    have HN := Lib.hid hnm
    have hLl : L.length ≤ 9223372036854775807 := by have h1 := hR.1; have h2 := hR.2.1; unfold maxLen at h2; omega
    have HB3 := Lib.hid (HB2.out.trans (hb.mono HB2.out.size))
    clear x0 x1 x2 x3 hb hR hnm HP2 HB2 HNm
    obtain ⟨⟨x0, x1, x2, x3⟩, hp⟩ := HW.out w3 HB3.out
    have HP3 := Lib.hid hp
    clear hp
    go_wp2_with fail
    go_loopw [4] (fun u4 wr => ∃ i q : Nat, u4 = .int .i64 i ∧ i ≤ L.length ∧ wr = w3.drewN q) (fun u _ => L.length - (intOf u).toNat)
    case atStart => exact ⟨0, 0, rfl, by omega, rfl⟩
    case round =>
      obtain ⟨i, q, rfl, hi, rfl⟩ := hrel
      by_cases hlt : i < L.length
      · have hii : (i : Int) < (L.length : Int) := by omega
        have hiw : IntKind.i64.wrap ((i : Int) + 1) = (i : Int) + 1 := by rw [IntKind.wrap_i64]; omega
        obtain ⟨s, hs⟩ : ∃ s, L[i]? = some s := ⟨_, List.getElem?_eq_getElem hlt⟩
        obtain ⟨gt, ot, rfl, hgt, hatt⟩ := HR.out.2.2.2 (by omega)
        have t0 := TK.one hatt hs
        have HS := Lib.hid hs
        have HT := Lib.hid hatt
        have hin := nameIn_all ((HN.out.mem s).1 (List.mem_of_getElem? hs))
        have HIN := Lib.hid hin
        clear hs hatt hgt hin
        go_wp2_with fail
        go_loopw [5, 6] (fun u5 u6 wr => ∃ k q : Nat, ∃ b : Bool, u5 = .bool b ∧ u6 = .int .i64 k ∧ k ≤ P.zones.length ∧ b = nameIn P s k ∧ wr = w3.drewN q) (fun _ u _ => P.zones.length - (intOf u).toNat)
        case atStart => exact ⟨0, q, false, rfl, rfl, by omega, rfl, rfl⟩
        case round =>
          obtain ⟨k, q2, b, rfl, rfl, hk, hb, rfl⟩ := hrel
          have HBk := Lib.hid hb
          clear hb
          by_cases hkl : k < P.zones.length
          · have hki : (k : Int) < (P.zones.length : Int) := by omega
            have hkw : IntKind.i64.wrap ((k : Int) + 1) = (k : Int) + 1 := by rw [IntKind.wrap_i64]; omega
            obtain ⟨hs, hz⟩ := HP3.out.zones
            obtain ⟨z, hzk⟩ : ∃ b, P.zones[k]? = some b := ⟨_, List.getElem?_eq_getElem hkl⟩
            obtain ⟨x, g, o, hx, e, hg, hat, hPz⟩ := hz.get hzk
            dsimp only at e
            subst e
            have z0 := (ZK.two hat hx).1
            obtain ⟨hzn, _⟩ := hPz
            obtain ⟨xn, xh⟩ := x
            dsimp only at z0 hzn
            have HE := Lib.hid (show nameIn P s (k + 1) = (b || decide (xn = s)) by rw [nameIn_succ hzk, ← HBk.out, hzn])
            clear hz hzk hx hat hg hzn
            cases b with
            | true =>
              go_wp2_with fail
              go_quiet (fail)
              go_wp2_with fail
              go_roundw
              case rel => exact ⟨k + 1, _, true, rfl, by go_num, by omega, by rw [HE.out]; rfl, rfl⟩
              case measure => simp [intOf]; omega
            | false =>
              by_cases hxs : xn = s
              · have heq : (xn.toList == s.toList) = true := by rw [eq_text]; simp [hxs]
                go_wp2_with fail
                go_quiet (fail)
                go_wp2_with fail
                go_roundw
                case rel => exact ⟨k + 1, _, true, by first | rfl | simp [heq], by go_num, by omega, by rw [HE.out]; simp [hxs], rfl⟩
                case measure => simp [intOf]; omega
              · have heq : (xn.toList == s.toList) = false := by rw [eq_text]; simp [hxs]
                go_wp2_with fail
                go_quiet (fail)
                go_wp2_with fail
                go_roundw
                case rel => exact ⟨k + 1, _, false, by first | rfl | simp [heq], by go_num, by omega, by rw [HE.out]; simp [hxs], rfl⟩
                case measure => simp [intOf]; omega
          · obtain rfl : k = P.zones.length := by omega
            obtain rfl : b = true := by rw [HBk.out]; exact HIN.out
            by_cases hi0 : i = 0
            · subst hi0
              go_wp2_with fail
              go_quiet (fail)
              go_wp2_with fail
              go_roundw
              case rel => exact ⟨1, _, by first | rfl | go_num, by omega, rfl⟩
              case measure => simp [intOf]; omega
            · obtain ⟨j, rfl⟩ : ∃ j, i = j + 1 := ⟨i - 1, by omega⟩
              obtain ⟨s0, hs0⟩ : ∃ s, L[j]? = some s := ⟨_, List.getElem?_eq_getElem (by omega)⟩
              have t1 := TK.one HT.out hs0
              have hrise := HN.out.rise j s0 s hs0 HS.out
              have hj0 : decide ((0 : Int) < ((j + 1 : Nat) : Int)) = true := by simp <;> omega
              have hjw : IntKind.i64.wrap (((j + 1 : Nat) : Int) - 1) = (j : Int) := by rw [IntKind.wrap_i64]; omega
              have hjl : (j : Int) < (L.length : Int) := by omega
              clear hs0
              go_wp2_with fail
              go_quiet (fail)
              go_wp2_with fail
              go_roundw
              case rel => exact ⟨j + 2, _, by first | rfl | go_num, by omega, rfl⟩
              case measure => simp [intOf]; omega
      · obtain rfl : i = L.length := by omega
        go_wp2_with fail
        go_loopw [7] (fun u7 wr => ∃ k q : Nat, u7 = .int .i64 k ∧ k ≤ P.zones.length ∧ wr = w3.drewN q) (fun u _ => P.zones.length - (intOf u).toNat)
        case atStart => exact ⟨0, q, rfl, by omega, rfl⟩
        case round =>
          obtain ⟨k, q2, rfl, hk, rfl⟩ := hrel
          by_cases hkl : k < P.zones.length
          · have hki : (k : Int) < (P.zones.length : Int) := by omega
            have hkw : IntKind.i64.wrap ((k : Int) + 1) = (k : Int) + 1 := by rw [IntKind.wrap_i64]; omega
            obtain ⟨hs, hz⟩ := HP3.out.zones
            obtain ⟨z, hzk⟩ : ∃ b, P.zones[k]? = some b := ⟨_, List.getElem?_eq_getElem hkl⟩
            obtain ⟨x, g, o, hx, e, hg, hat, hPz⟩ := hz.get hzk
            dsimp only at e
            subst e
            have z0 := (ZK.two hat hx).1
            obtain ⟨hzn, _⟩ := hPz
            obtain ⟨xn, xh⟩ := x
            dsimp only at z0 hzn
            have HIN := Lib.hid (textIn_all ((HN.out.mem xn).2 ⟨z, List.mem_of_getElem? hzk, hzn.symm⟩))
            clear hz hzk hx hat hg hzn
            go_wp2_with fail
            go_loopw [8, 9] (fun u8 u9 wr => ∃ i q : Nat, ∃ b : Bool, u8 = .bool b ∧ u9 = .int .i64 i ∧ i ≤ L.length ∧ b = textIn L xn i ∧ wr = w3.drewN q) (fun _ u _ => L.length - (intOf u).toNat)
            case atStart => exact ⟨0, q2, false, rfl, rfl, by omega, rfl, rfl⟩
            case round =>
              obtain ⟨i, q3, b, rfl, rfl, hi, hb, rfl⟩ := hrel
              have HBk := Lib.hid hb
              clear hb
              by_cases hil : i < L.length
              · have hii : (i : Int) < (L.length : Int) := by omega
                have hiw : IntKind.i64.wrap ((i : Int) + 1) = (i : Int) + 1 := by rw [IntKind.wrap_i64]; omega
                obtain ⟨s, hsi⟩ : ∃ s, L[i]? = some s := ⟨_, List.getElem?_eq_getElem hil⟩
                obtain ⟨gt, ot, rfl, hgt, hatt⟩ := HR.out.2.2.2 (by omega)
                have t0 := TK.one hatt hsi
                have HE := Lib.hid (show textIn L xn (i + 1) = (b || decide (s = xn)) by rw [textIn_succ hsi, ← HBk.out])
                clear hsi hatt hgt
                cases b with
                | true =>
                  go_wp2_with fail
                  go_quiet (fail)
                  go_wp2_with fail
                  go_roundw
                  case rel => exact ⟨i + 1, _, true, rfl, by go_num, by omega, by rw [HE.out]; rfl, rfl⟩
                  case measure => simp [intOf]; omega
                | false =>
                  by_cases hxs : s = xn
                  · have heq : (s.toList == xn.toList) = true := by rw [eq_text]; simp [hxs]
                    go_wp2_with fail
                    go_quiet (fail)
                    go_wp2_with fail
                    go_roundw
                    case rel => exact ⟨i + 1, _, true, by first | rfl | simp [heq], by go_num, by omega, by rw [HE.out]; simp [hxs], rfl⟩
                    case measure => simp [intOf]; omega
                  · have heq : (s.toList == xn.toList) = false := by rw [eq_text]; simp [hxs]
                    go_wp2_with fail
                    go_quiet (fail)
                    go_wp2_with fail
                    go_roundw
                    case rel => exact ⟨i + 1, _, false, by first | rfl | simp [heq], by go_num, by omega, by rw [HE.out]; simp [hxs], rfl⟩
                    case measure => simp [intOf]; omega
              · obtain rfl : i = L.length := by omega
                obtain rfl : b = true := by rw [HBk.out]; exact HIN.out
                go_wp2_with fail
                go_roundw
                case rel => exact ⟨k + 1, _, by first | rfl | go_num, by omega, rfl⟩
                case measure => simp [intOf]; omega
          · obtain rfl : k = P.zones.length := by omega
            have HBq := Lib.hid (below_drewN (Below.refl w3.heap.size w3) q2)
            have HCx := Lib.hid (HCk.out _ HSM.out (HP3.out.below HBq.out))
            go_wp2_with fail
            with_reducible refine HCx.out.mono ?_
            rintro e w4 ⟨rfl, hb⟩
            have HB2 := Lib.hid ((HB3.out.trans (HBq.out.mono HB3.out.size)).trans (hb.mono (HB3.out.trans (HBq.out.mono HB3.out.size)).size))
            clear hb HCx HBq HB3 x0 x1 x2 x3 HCk
            by_cases hck : checkB R P = true
            · obtain rfl : rc = 0 := by rw [HRC.out, if_pos hck]
              obtain ⟨hnd, _⟩ := check_names hck
              have hLZ := names_many HN.out hnd
              have HND := Lib.hid hnd
              clear hnd hck HRC HR HN HP3
              obtain ⟨⟨x0, x1, x2, x3⟩, _⟩ := HW.out w4 HB2.out
              go_wp2_with fail
              go_loopw [10] (fun u10 wr => ∃ k : Nat, u10 = .int .i64 k ∧ k ≤ P.zones.length ∧ Hid (Below w1.heap.size w1 wr)) (fun u _ => P.zones.length - (intOf u).toNat)
              case atStart => exact ⟨0, rfl, by omega, HB2⟩
              case round =>
                obtain ⟨k, rfl, hk, hB⟩ := hrel
                have HBr := Lib.hid hB.out
                clear hB HB2 x0 x1 x2 x3
                obtain ⟨⟨x0, x1, x2, x3⟩, hp⟩ := HW.out wr HBr.out
                have HPr := Lib.hid hp
                clear hp
                by_cases hkl : k < P.zones.length
                · have hki : (k : Int) < (P.zones.length : Int) := by omega
                  have hkw : IntKind.i64.wrap ((k : Int) + 1) = (k : Int) + 1 := by rw [IntKind.wrap_i64]; omega
                  obtain ⟨z, hzk⟩ : ∃ b, P.zones[k]? = some b := ⟨_, List.getElem?_eq_getElem hkl⟩
                  have HZK := Lib.hid hzk
                  clear hzk
                  go_wp2_with fail
                  clear x0 x1 x2 x3
                  go_loopw [11] (fun u11 wr => ∃ n : Nat, u11 = .int .i64 n ∧ n ≤ z.ans.length ∧ Hid (Below w1.heap.size w1 wr)) (fun u _ => z.ans.length - (intOf u).toNat)
                  case atStart => exact ⟨0, rfl, by omega, HBr⟩
                  case round =>
                    rename World => wq
                    obtain ⟨n, rfl, hn, hB⟩ := hrel
                    have HBi := Lib.hid hB.out
                    clear hB HBr HPr
                    obtain ⟨⟨x0, x1, x2, x3⟩, hp⟩ := HW.out wq HBi.out
                    obtain ⟨hs, hz⟩ := hp.zones
                    obtain ⟨x, g, o, hx, e, hg, hat, hPz⟩ := hz.get HZK.out
                    dsimp only at e
                    subst e
                    obtain ⟨z0, z1⟩ := ZK.two hat hx
                    obtain ⟨hzn, hzl, gs, hga⟩ := hPz
                    obtain ⟨xn, xa, xl, xc⟩ := x
                    dsimp only at z0 z1 hzn hzl hga
                    subst hzn hzl
                    by_cases hnl : n < z.ans.length
                    · have hni : (n : Int) < (z.ans.length : Int) := by omega
                      obtain ⟨l, hl⟩ : ∃ l, z.ans[n]? = some l := ⟨_, List.getElem?_eq_getElem hnl⟩
                      obtain ⟨h2, g2, o2, hx2, e2, hg2, hat2, hP2⟩ := hga.get hl
                      have hxl : z.ans.length ≤ 9223372036854775807 := by have h1 := hga.1; have h3 := hga.2.1.1; have h4 := hga.2.1.2.1; unfold maxLen at h4; omega
                      subst e2
                      have y2 := HK.one hat2 hx2
                      obtain ⟨ha2, hn2, hc2⟩ := h2
                      obtain ⟨hnn, hRw⟩ := hP2
                      dsimp only at y2 hnn hRw
                      subst hnn
                      have hnw : IntKind.i64.wrap ((n : Int) + 1) = (n : Int) + 1 := by rw [IntKind.wrap_i64]; omega
                      have hans : answerP P z.name n = l := by exact answer_at HND.out HZK.out hl
                      obtain ⟨r1, hr1⟩ : ∃ r, r = answerE P z.name n := ⟨_, rfl⟩
                      have HR1 := Lib.hid (show r1 = if l.length = 0 then 110 else 0 by rw [hr1, ← hans]; rfl)
                      have HAx := Lib.hid (fun W' (h : Below wq.heap.size wq W') => HAn.out z.name n W' l r1 (HW.out W' (HBi.out.trans (h.mono HBi.out.size))).2 hans.symm hr1)
                      have HXC := Lib.hid z0
                      have HSB := Lib.hid (show ∀ W' : World, Below wq.heap.size wq W' → (((W'.cell? ⟨w.heap.size, 0, none⟩ = some (.slice (some ⟨g, o, none⟩) P.zones.length zc) ∧ W'.cell? ⟨w.heap.size, 1, none⟩ = some (.slice fa P.fates.length fc) ∧ W'.cell? ⟨w.heap.size, 2, none⟩ = some (.int .i64 P.ticks) ∧ W'.cell? ⟨w.heap.size, 3, none⟩ = some (.slice da P.drops.length dc)) ∧ W'.cell? ⟨g, o + k * 2, none⟩ = some (.string z.name)) ∧ Below wq.heap.size wq W') from fun W' h => ⟨⟨(HW.out W' (HBi.out.trans (h.mono HBi.out.size))).1, (h.cell (p := ⟨g, o + k * 2, none⟩) hg).trans HXC.out⟩, h⟩)
                      have HRw := Lib.hid hRw
                      have HZ1 := Lib.hid z1
                      have HY2 := Lib.hid y2
                      clear hz hp hx hat hga hx2 hat2 hl hRw hr1 hans
                      go_upto_region 32 with fail
                      clear x0 x1 x2 x3 z0 z1 y2
                      go_region_held3 (fun W' => (((W'.cell? ⟨w.heap.size, 0, none⟩ = some (.slice (some ⟨g, o, none⟩) P.zones.length zc) ∧ W'.cell? ⟨w.heap.size, 1, none⟩ = some (.slice fa P.fates.length fc) ∧ W'.cell? ⟨w.heap.size, 2, none⟩ = some (.int .i64 P.ticks) ∧ W'.cell? ⟨w.heap.size, 3, none⟩ = some (.slice da P.drops.length dc)) ∧ W'.cell? ⟨g, o + k * 2, none⟩ = some (.string z.name)) ∧ Below wq.heap.size wq W'))
                        (first | assumption | exact HSB.out _ (kept_alloc (by assumption) _) | exact HSB.out _ (kept_call (by assumption) hbC) | exact HSB.out _ (Below.refl _ _).drew)
                        (first
                          | (go_at_call 8; (with_reducible refine (HAx.out _ (kept_self (by assumption))).mono ?_); rintro e wC ⟨ax, cx, rfl, hRx, hbC⟩))
                      have HBC : Hid (Below wq.heap.size wq wC) := Lib.hid (by first | exact kept_self (by assumption) | exact kept_call (by assumption) hbC | exact kept_call (by assumption) (Below.refl _ wC))
                      have HBn := Lib.hid (HBi.out.trans (HBC.out.mono HBi.out.size))
                      obtain ⟨⟨x0, x1, x2, x3⟩, _⟩ := HW.out wC HBn.out
                      have z1 := (HBC.out.cell (p := ⟨g, o + k * 2 + 1, none⟩) hg).trans HZ1.out
                      have y2 := (HBC.out.cell (p := ⟨g2, o2 + n, none⟩) hg2).trans HY2.out
                      have HSm := Lib.hid (same_eq l ax ha2 cx hc2 wC hRx (HRw.out.below HBC.out))
                      clear HSB HAx hRx HBC hbC HBi
                      by_cases hl0 : l.length = 0
                      · have hlz : ¬ (0 : Int) < (l.length : Int) := by omega
                        have hlz2 : decide ((0 : Int) < (l.length : Int)) = false := decide_eq_false hlz
                        obtain rfl : r1 = 110 := by rw [HR1.out, if_pos hl0]
                        obtain rfl : l = [] := List.length_eq_zero_iff.1 hl0
                        simp only [List.length_nil] at HSm
                        clear hl0
                        go_wp2_with fail
                        with_reducible refine HSm.out.mono ?_
                        rintro e wD ⟨rfl, hb⟩
                        have HBo := Lib.hid (HBn.out.trans (hb.mono HBn.out.size))
                        clear hb x0 x1 x2 x3 z1 y2
                        go_wp2_with fail
                        go_roundw
                        case rel => exact ⟨n + 1, by first | rfl | go_num, by omega, HBo⟩
                        case measure => simp [intOf]; omega
                      · have hlz : (0 : Int) < (l.length : Int) := by omega
                        have hlz2 : decide ((0 : Int) < (l.length : Int)) = true := decide_eq_true hlz
                        have hlz3 : decide (0 < l.length) = true := decide_eq_true (by omega)
                        have hlz4 : (!decide (0 < l.length)) = false := by rw [hlz3]; rfl
                        obtain rfl : r1 = 0 := by rw [HR1.out, if_neg hl0]
                        go_wp2_with fail
                        with_reducible refine HSm.out.mono ?_
                        rintro e wD ⟨rfl, hb⟩
                        have HBo := Lib.hid (HBn.out.trans (hb.mono HBn.out.size))
                        clear hb x0 x1 x2 x3 z1 y2
                        go_wp2_with fail
                        go_roundw
                        case rel => exact ⟨n + 1, by first | rfl | go_num, by omega, HBo⟩
                        case measure => simp [intOf]; omega
                    · have hni : ¬ (n : Int) < (z.ans.length : Int) := by omega
                      clear hz hp hx hat hga
                      go_wp2_with fail
                      go_roundw
                      case rel => exact ⟨k + 1, by first | rfl | go_num, by omega, HBi⟩
                      case measure => simp [intOf]; omega
                · obtain rfl : k = P.zones.length := by omega
                  have hLZi : (L.length : Int) = (P.zones.length : Int) := by omega
                  go_wp2_with fail
                  with_reducible refine (HWk.out _).mono ?_
                  rintro e wE ⟨rfl, hb⟩
                  have HBf := Lib.hid (HB.out.trans ((HBr.out.trans (hb.mono HBr.out.size)).mono HB.out.size))
                  clear hb
                  go_wp2_with fail
                  go_ret
                  exact ⟨rfl, HBf.out⟩
            · obtain rfl : rc = 90 := by rw [HRC.out, if_neg hck]
              go_wp2_with fail
              with_reducible refine (HWk.out _).mono ?_
              rintro e w5 ⟨rfl, hb⟩
              have HBf := Lib.hid (HB.out.trans ((HB2.out.trans (hb.mono HB2.out.size)).mono HB.out.size))
              clear hb
              go_wp2_with fail
              go_ret
              exact ⟨rfl, HBf.out⟩
end Go.Proofs.Ytlceeeajhejedaa
