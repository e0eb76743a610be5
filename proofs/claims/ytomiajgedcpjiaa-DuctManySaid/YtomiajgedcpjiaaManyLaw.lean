/- DuctMany: the walk. -/
import Derived.Test.YtomiajgedcpjiaaManyG
import Derived.Deep.RegionLaw
set_option linter.unusedSimpArgs false
set_option linter.unusedVariables false
namespace Go.Proofs.Ytomiajgedcpjiaa
open Go.RowKit Go.Proofs.Ytomiajgedcpjiaa.Kind

/-- Where the loop stands: k letters were tried, F is what was answered, J is in the duct. -/
def Tried (z : Int) (cl : Bool) (l k : List Lt) (er : Int) (i : Nat) (F : Int) (J : List Lt) : Prop :=
  (F = 0 ∧ J = l ++ k.take i ∧ mayB z J.length = true ∧ (0 < i → cl = false)) ∨ (F = er ∧ er ≠ 0 ∧ 0 < i)
theorem tried_step {z : Int} {cl : Bool} {l k L J : List Lt} {er : Int} {i : Nat} {x : Lt} (hm : mayB z l.length = true) (hR : PutR z cl l k er L) (hT : Tried z cl l k er i 0 J) (hx : k[i]? = some x) (h0 : J = l ++ k.take i) (hmJ : mayB z J.length = true) :
    ∃ e1 J1, PutR z cl J [x] e1 J1 ∧ Tried z cl l k er (i + 1) e1 J1 := by
  have hi : i < k.length := (List.getElem?_eq_some_iff.1 hx).1
  have hJn : J.length = l.length + i := by rw [h0]; simp; omega
  cases cl with
  | true =>
    refine ⟨52, J, .inl ⟨rfl, rfl, rfl⟩, .inr ⟨?_, ?_, by omega⟩⟩
    · rcases hR with ⟨_, h, _⟩ | ⟨h, _⟩ | ⟨h, _⟩
      · exact h.symm
      · cases h
      · cases h
    · rcases hR with ⟨_, h, _⟩ | ⟨h, _⟩ | ⟨h, _⟩
      · omega
      · cases h
      · cases h
  | false =>
    simp [mayB] at hm hmJ
    by_cases hf : (J.length : Int) + 1 ≤ z
    · refine ⟨0, J ++ [x], .inr (.inr ⟨rfl, by unfold roomB; simp; split <;> omega, rfl, rfl⟩), .inl ⟨rfl, ?_, by simp [mayB]; omega, fun _ => rfl⟩⟩
      rw [h0, List.append_assoc, List.take_add_one, hx]
      rfl
    · refine ⟨50, J, .inr (.inl ⟨rfl, by unfold roomB; simp; split <;> omega, rfl, rfl⟩), .inr ⟨?_, ?_, by omega⟩⟩
      · rcases hR with ⟨h, _⟩ | ⟨_, h, h2, _⟩ | ⟨_, h, _⟩
        · cases h
        · exact h2.symm
        · exfalso; unfold roomB at h; simp at h; split at h <;> omega
      · rcases hR with ⟨h, _⟩ | ⟨_, h, h2, _⟩ | ⟨_, h, _⟩
        · cases h
        · omega
        · exfalso; unfold roomB at h; simp at h; split at h <;> omega

set_option maxHeartbeats 16000000 in
set_option maxRecDepth 1000000 in
theorem ductmany_small (z : Int) (cl : Bool) (l k : List Lt) (a b : Option Addr) (c d : Nat) (w : World) (hA : LK.RowC w a c l) (hK : LK.RowC w b d k) (hg : (greatB l || greatB k) = false) (hk : k.length ≤ 60) (hm : mayB z l.length = true)
    (er : Int) (L : List Lt) (hR : PutR z cl l k er L) :
    Calls Try.prog 5 #[.agg #[.int .i64 z, .slice a l.length c, .bool cl], .slice b k.length d] w fun e w' => e = .returned (.bool true) ∧ Below w.heap.size w w' := by
  have hz := mayB_le hm
  have hb := (Below.refl w.heap.size w).alloc (Nat.le_refl _) (.cells #[.int .i64 z, .slice a l.length c, .bool cl] 26)
  have HG := Lib.hid (great_any z cl l k a b c d _ (hA.below hb) (hK.below hb))
  rw [hg] at HG
  have HA := Lib.hid hA
  have HK := Lib.hid hK
  have HM := Lib.hid hm
  have HR := Lib.hid hR
  have HB := Lib.hid hb
  have HQ := Lib.hid (laid1 w (.cells #[.int .i64 z, .slice a l.length c, .bool cl] 26))
  have h3 : ¬ (60 : Int) < (k.length : Int) := by omega
  clear hA hK hb hm hR hg
  go_enter Try.func5, Try.ntmps5
  go_wp2_with fail
  with_reducible refine HG.out.mono ?_
  rintro e w1 ⟨rfl, hB⟩
  have HB1 := Lib.hid (HB.out.trans (hB.mono (by simp)))
  have hs1 := HB1.out.size
  have hq := (hB.block w.heap.size (by simp)).trans HQ.out
  have HQ1 := Lib.hid hq
  have hlt1 := lt_of_block hq
  obtain ⟨⟨p0, p1, p2⟩, _⟩ := box3 hq
  have HMa := Lib.hid (rmay_one z a l.length c cl 26 w1.heap.size _ (laid1 w1 (.cells #[.int .i64 z, .slice a l.length c, .bool cl] 26)))
  rw [HM.out] at HMa
  clear hB hq HG
  go_wp2_with fail
  with_reducible refine HMa.out.mono ?_
  rintro e w2 ⟨rfl, hB⟩
  have hbb := ((Below.refl w1.heap.size w1).alloc (Nat.le_refl _) (.cells #[.int .i64 z, .slice a l.length c, .bool cl] 26)).trans (hB.mono (by simp))
  have HB2 := Lib.hid (HB1.out.trans (hbb.mono hs1))
  have hs2 := HB2.out.size
  have hq := (hbb.block w.heap.size hlt1).trans HQ1.out
  have HQ2 := Lib.hid hq
  have hlt2 := lt_of_block hq
  obtain ⟨⟨q0, q1, q2⟩, _⟩ := box3 hq
  have HP := Lib.hid (put_any z cl l k er L HR.out HM.out (by omega) a b c d w2 (HA.out.below HB2.out) (HK.out.below HB2.out))
  clear hB hbb hq HMa
  go_wp2_with fail
  with_reducible refine HP.out.mono ?_
  rintro e w3 ⟨a3, c3, rfl, hF, hB⟩
  have hs3 := hB.size
  have hb5 := hB.alloc hs3 (.cells #[.int .i64 z, .slice a3 L.length c3, .bool cl] 26)
  have hq := (hb5.block w.heap.size hlt2).trans HQ2.out
  have ha := laid1 w3 (.cells #[.int .i64 z, .slice a3 L.length c3, .bool cl] 26)
  have hF5 := hF.row.below ((Below.refl _ w3).alloc (Nat.le_refl _) (.cells #[.int .i64 z, .slice a3 L.length c3, .bool cl] 26))
  have HB5 := Lib.hid (HB2.out.trans (hb5.mono hs2))
  have HQ5 := Lib.hid hq
  have HA5 := Lib.hid ha
  have HF5 := Lib.hid hF5
  have hs5 : w3.heap.size + 1 = (w3.alloc (.cells #[.int .i64 z, .slice a3 L.length c3, .bool cl] 26)).heap.size := by simp
  clear hF hB hq hb5 ha hF5 HP
  generalize hW : w3.alloc (.cells #[.int .i64 z, .slice a3 L.length c3, .bool cl] 26) = w5 at *
  obtain ⟨⟨r0, r1, r2⟩, _⟩ := box3 HQ5.out
  go_wp2_with fail
  go_loopw [8, 9] (fun u8 u9 wr => ∃ (i c2 : Nat) (a2 : Option Addr) (F : Int) (J : List Lt), u9 = .int .i64 i ∧ i ≤ k.length ∧ u8 = .int .i64 F ∧ Hid (Tried z cl l k er i F J) ∧ Hid (wr.heap[w5.heap.size]? = some (.cells #[.int .i64 z, .slice a2 J.length c2, .bool cl] 26 (0, 0))) ∧ Hid (LK.RowC wr a2 c2 J) ∧ Below w5.heap.size w5 wr) (fun _ u _ => k.length - (intOf u).toNat)
  case atStart => exact ⟨0, c, a, 0, l, rfl, by omega, rfl, Lib.hid (.inl ⟨rfl, by simp, HM.out, by omega⟩), Lib.hid (laid1 w5 _), Lib.hid (HA.out.below (HB5.out.trans (((Below.refl _ _).alloc (Nat.le_refl _) _).mono HB5.out.size))), (Below.refl _ _).alloc (Nat.le_refl _) _⟩
  case round =>
    obtain ⟨i, c2, a2, F, J, rfl, hi, rfl, hT, hQ7, hR7, hbw⟩ := hrel
    have HT := Lib.hid hT.out
    have HQ7 := Lib.hid hQ7.out
    have HR7 := Lib.hid hR7.out
    have HBW := Lib.hid hbw
    have hbs := hbw.size
    have hB7 : w5.heap.size < wr.heap.size := lt_of_block HQ7.out
    have HWr := Lib.hid (HB5.out.trans (hbw.mono HB5.out.size))
    clear hT hQ7 hR7 hbw
    by_cases hlt : i < k.length ∧ F = 0
    · obtain ⟨hlt, rfl⟩ := hlt
      obtain ⟨x, hx⟩ : ∃ x, k[i]? = some x := ⟨_, List.getElem?_eq_getElem hlt⟩
      obtain ⟨hJ, hmJ⟩ : J = l ++ k.take i ∧ mayB z J.length = true := by
        rcases HT.out with ⟨_, h1, h2, _⟩ | ⟨h1, h2, _⟩
        · exact ⟨h1, h2⟩
        · exact absurd h1.symm h2
      obtain ⟨e1, J1, hP1, hT1⟩ := tried_step HM.out HR.out HT.out hx hJ hmJ
      obtain ⟨bb, o, rfl, hb, hat⟩ := (HK.out.below HWr.out).2.2.2 (by omega)
      obtain ⟨z0, z1, z2, z3, z4, z5⟩ := LK.six hat hx
      obtain ⟨⟨s0, s1, s2⟩, s3, s4, s5⟩ := box3 HQ7.out
      have HT1 := Lib.hid hT1
      have hlb : (i : Int) < (k.length : Int) := by omega
      have hi0 : (0 : Int) ≤ (i : Int) := by omega
      have hb1 : Below wr.heap.size wr (wr.alloc (.cells #[.int .i8 x.kind, .int .i64 x.fr, .int .i64 x.num, .int .i64 x.sock, .string x.text, .int .i64 x.e] 32)).drew := ((Below.refl _ _).alloc (Nat.le_refl _) _).drew
      have HP := Lib.hid (put_any z cl J [x] e1 J1 hP1 hmJ (by simp) a2 (some ⟨wr.heap.size, 0, none⟩) c2 1 (wr.alloc (.cells #[.int .i8 x.kind, .int .i64 x.fr, .int .i64 x.num, .int .i64 x.sock, .string x.text, .int .i64 x.e] 32)).drew (HR7.out.below hb1) (row_in (g := wr.heap.size) (x := x) (t := 32) (laid1 wr _)))
      rw [List.length_singleton] at HP
      have HW1 := Lib.hid ((hb1.block w5.heap.size hB7).trans HQ7.out)
      clear hx hat hJ hP1 hT1 hb1 hmJ
      go_upto_region 8 with fail
      go_region_law (first
        | (go_simp; go_at_call 9; with_reducible refine HP.out.mono ?_; rintro e w2 ⟨a4, c4, rfl, hF, hB⟩
           have hq := (hB.block w5.heap.size (show w5.heap.size < (wr.alloc _).heap.size by simp; omega)).trans HW1.out
           have HQ2 := Lib.hid hq
           obtain ⟨⟨s0, s1, s2⟩, s3, s4, s5⟩ := box3 hq
           have h7 : w5.heap.size < (wr.alloc (.cells #[.int .i8 x.kind, .int .i64 x.fr, .int .i64 x.num, .int .i64 x.sock, .string x.text, .int .i64 x.e] 32)).drew.heap.size := by show w5.heap.size < (wr.alloc _).heap.size; simp; omega
           have h8 : Below w5.heap.size w5 (wr.alloc (.cells #[.int .i8 x.kind, .int .i64 x.fr, .int .i64 x.num, .int .i64 x.sock, .string x.text, .int .i64 x.e] 32)).drew := (HBW.out.alloc hbs _).drew
           have R1 := Lib.hid (set3_at hq (.int .i64 z) (.slice a4 J1.length c4) (.bool cl))
           have R2 := Lib.hid (set3_far hF h7 (.int .i64 z) (.slice a4 J1.length c4) (.bool cl)).row
           have R3 := Lib.hid (set3_below (h8.trans (hB.mono (Nat.le_of_lt h7))) (Nat.le_refl _) (.int .i64 z) (.slice a4 J1.length c4) (.bool cl))
           unfold set3 at R1 R2 R3
           clear hq hF hB h7 h8))
      all_goals
        go_wp2_with fail
        go_roundw
        case rel => exact ⟨i + 1, c4, a4, e1, J1, by go_num, by omega, rfl, HT1, R1, R2, R3.out⟩
        case measure => simp [intOf]; omega
    · have hend : (i = k.length) ∨ (i < k.length ∧ F = er ∧ er ≠ 0) := by
        by_cases h1 : i < k.length
        · have h2 : F ≠ 0 := fun h => hlt ⟨h1, h⟩
          rcases HT.out with ⟨h, _⟩ | ⟨h3, h4, _⟩
          · exact absurd h h2
          · exact .inr ⟨h1, h3, h4⟩
        · exact .inl (by omega)
      have hq2 := (HBW.out.block w.heap.size (by have := HB5.out.size; have := lt_of_block HQ5.out; omega)).trans HQ5.out
      have hq5 := (HBW.out.block w3.heap.size (by omega)).trans HA5.out
      have HRd := Lib.hid (HA.out.below HWr.out)
      have HRa := Lib.hid (HF5.out.below HBW.out)
      obtain ⟨⟨d0, d1, d2⟩, _⟩ := box3 hq2
      obtain ⟨⟨e0, e1, e2⟩, _⟩ := box3 hq5
      obtain ⟨⟨g0, g1, g2⟩, _⟩ := box3 HQ7.out
      have hlw : w.heap.size < wr.heap.size := lt_of_block hq2
      have hl3 : w3.heap.size < wr.heap.size := lt_of_block hq5
      clear hq2 hq5 hlt
      by_cases hk0 : k.length = 0
      · -- no letters
        obtain rfl : i = k.length := by omega
        obtain rfl : k = [] := List.length_eq_zero_iff.1 hk0
        obtain ⟨hL, her⟩ : L = l ∧ er = if cl then 52 else 0 := by
          rcases HR.out with ⟨h, h1, h2⟩ | ⟨h, h1, h2, h3⟩ | ⟨h, h1, h2, h3⟩
          · exact ⟨h2, by rw [h]; exact h1⟩
          · exfalso; rw [h] at h1; unfold roomB at h1; simp at h1; split at h1 <;> omega
          · exact ⟨by rw [h3]; simp, by rw [h]; exact h2⟩
        subst hL
        have HSm := Lib.hid (rsame_eq z cl L a3 a c3 c wr (by omega) HRa.out HRd.out)
        clear hend hk0
        rw [List.length_nil] at *
        cases cl
        all_goals
          simp only [if_true, Bool.false_eq_true, if_false] at her
          subst her
          go_wp2_with fail
          with_reducible refine HSm.out.mono ?_
          rintro e w7 ⟨rfl, hB⟩
          have HB7 := Lib.hid (HWr.out.trans (hB.mono HWr.out.size))
          clear hB
          go_wp2_with fail
          with_reducible refine (wakes_any w7).mono ?_
          rintro e w8 ⟨rfl, hB⟩
          have HB8 := Lib.hid (HB7.out.trans (hB.mono HB7.out.size))
          clear hB
          go_wp2_with fail
          go_ret
          exact ⟨rfl, HB8.out⟩
      · by_cases he0 : er = 0
        · -- all were put
          subst he0
          obtain rfl : i = k.length := by rcases hend with h | ⟨_, _, h⟩; exact h; exact absurd rfl h
          obtain ⟨hcl, hLk, hfit⟩ : cl = false ∧ L = l ++ k ∧ (l.length : Int) + k.length ≤ z := by
            rcases HR.out with ⟨_, h, _⟩ | ⟨_, _, h, _⟩ | ⟨h, h1, _, h3⟩
            · cases h
            · cases h
            · refine ⟨h, h3, ?_⟩
              rw [h] at h1
              unfold roomB at h1
              simp at h1
              split at h1 <;> omega
          obtain ⟨rfl, hJL⟩ : F = 0 ∧ J = L := by
            rcases HT.out with ⟨h, h1, _⟩ | ⟨_, h, _⟩
            · exact ⟨h, by rw [h1, hLk, List.take_length]⟩
            · exact absurd rfl h
          subst hcl
          subst hJL
          have hn : J.length = l.length + k.length := by rw [hLk]; simp
          have hr1 : roomB z J.length false = z - (l.length : Int) - (k.length : Int) := by unfold roomB; rw [hn]; simp; split <;> omega
          have hr2 : roomB z l.length false = z - (l.length : Int) := by unfold roomB; rw [if_neg (by simp; omega)]
          have HSm := Lib.hid (rsame_eq z false J a3 a2 c3 c2 wr.drew (by omega) HRa.out HR7.out)
          have HRm1 := Lib.hid (fun W => room_any z a3 J.length c3 false W (by omega))
          have HRm2 := Lib.hid (fun W => room_any z a l.length c false W (by omega))
          rw [hr1] at HRm1
          rw [hr2] at HRm2
          have HWk := Lib.hid wakes_any
          have hkb : ((k.length : Int) == 0) = false := by rw [beq_eq_false_iff_ne]; omega
          have hw1 : IntKind.i64.wrap (z - (l.length : Int) - (k.length : Int)) = z - (l.length : Int) - (k.length : Int) := by rw [IntKind.wrap_i64]; omega
          have hse : (z - (l.length : Int) - (k.length : Int) == z - (l.length : Int) - (k.length : Int)) = true := by simp
          have C0 := Lib.hid (show wr.drew.cell? ⟨w.heap.size, 0, none⟩ = some (.int .i64 z) from d0)
          have C1 := Lib.hid (show wr.drew.cell? ⟨w.heap.size, 1, none⟩ = some (.slice a l.length c) from d1)
          have C2 := Lib.hid (show wr.drew.cell? ⟨w.heap.size, 2, none⟩ = some (.bool false) from d2)
          have C3 := Lib.hid (show wr.drew.cell? ⟨w3.heap.size, 0, none⟩ = some (.int .i64 z) from e0)
          have C4 := Lib.hid (show wr.drew.cell? ⟨w3.heap.size, 1, none⟩ = some (.slice a3 J.length c3) from e1)
          have C5 := Lib.hid (show wr.drew.cell? ⟨w3.heap.size, 2, none⟩ = some (.bool false) from e2)
          have C6 := Lib.hid (show wr.drew.cell? ⟨w5.heap.size, 0, none⟩ = some (.int .i64 z) from g0)
          have C7 := Lib.hid (show wr.drew.cell? ⟨w5.heap.size, 1, none⟩ = some (.slice a2 J.length c2) from g1)
          have C8 := Lib.hid (show wr.drew.cell? ⟨w5.heap.size, 2, none⟩ = some (.bool false) from g2)
          have T0 := Lib.hid (show w.heap.size < wr.drew.heap.size from hlw)
          have T3 := Lib.hid (show w3.heap.size < wr.drew.heap.size from hl3)
          have T5 := Lib.hid (show w5.heap.size < wr.drew.heap.size from hB7)
          clear hend hk0 hLk hfit hr1 hr2 hn
          go_wp2_with fail
          go_region_held3 (fun w' => w'.cell? ⟨w.heap.size, 0, none⟩ = some (.int .i64 z) ∧ w'.cell? ⟨w.heap.size, 1, none⟩ = some (.slice a l.length c) ∧ w'.cell? ⟨w.heap.size, 2, none⟩ = some (.bool false) ∧ w'.cell? ⟨w3.heap.size, 0, none⟩ = some (.int .i64 z) ∧ w'.cell? ⟨w3.heap.size, 1, none⟩ = some (.slice a3 J.length c3) ∧ w'.cell? ⟨w3.heap.size, 2, none⟩ = some (.bool false) ∧ w'.cell? ⟨w5.heap.size, 0, none⟩ = some (.int .i64 z) ∧ w'.cell? ⟨w5.heap.size, 1, none⟩ = some (.slice a2 J.length c2) ∧ w'.cell? ⟨w5.heap.size, 2, none⟩ = some (.bool false)) (go_keep) (first
            | (go_at_call 23; with_reducible refine HSm.out.mono ?_; rintro e w6 ⟨rfl, hB⟩; have f0 := (hB.cell (p := ⟨w.heap.size, 0, none⟩) T0.out).trans C0.out; have f1 := (hB.cell (p := ⟨w.heap.size, 1, none⟩) T0.out).trans C1.out; have f2 := (hB.cell (p := ⟨w.heap.size, 2, none⟩) T0.out).trans C2.out; have f3 := (hB.cell (p := ⟨w3.heap.size, 0, none⟩) T3.out).trans C3.out; have f4 := (hB.cell (p := ⟨w3.heap.size, 1, none⟩) T3.out).trans C4.out; have f5 := (hB.cell (p := ⟨w3.heap.size, 2, none⟩) T3.out).trans C5.out; have f6 := (hB.cell (p := ⟨w5.heap.size, 0, none⟩) T5.out).trans C6.out; have f7 := (hB.cell (p := ⟨w5.heap.size, 1, none⟩) T5.out).trans C7.out; have f8 := (hB.cell (p := ⟨w5.heap.size, 2, none⟩) T5.out).trans C8.out; have E0 := Lib.hid f0; have E1 := Lib.hid f1; have E2 := Lib.hid f2; have E3 := Lib.hid f3; have E4 := Lib.hid f4; have E5 := Lib.hid f5; have E6 := Lib.hid f6; have E7 := Lib.hid f7; have E8 := Lib.hid f8; have HB6 := Lib.hid hB; clear hB)
            | (go_at_call 24; first | (with_reducible refine (HRm1.out _).mono ?_) | (with_reducible refine (HRm2.out _).mono ?_)
               rintro e w7 ⟨rfl, rfl⟩)
            | (go_at_call 7; with_reducible refine (HWk.out _).mono ?_; rintro e w9 ⟨rfl, hB⟩; have hb7 := (((Below.refl w6.heap.size w6).alloc (Nat.le_refl _) _).alloc (by simp) _).trans (hB.mono (by simp; try omega)); have g0 := (hb7.cell (p := ⟨w.heap.size, 0, none⟩) (Nat.lt_of_lt_of_le T0.out HB6.out.size)).trans E0.out; have g1 := (hb7.cell (p := ⟨w.heap.size, 1, none⟩) (Nat.lt_of_lt_of_le T0.out HB6.out.size)).trans E1.out; have g2 := (hb7.cell (p := ⟨w.heap.size, 2, none⟩) (Nat.lt_of_lt_of_le T0.out HB6.out.size)).trans E2.out; have g3 := (hb7.cell (p := ⟨w3.heap.size, 0, none⟩) (Nat.lt_of_lt_of_le T3.out HB6.out.size)).trans E3.out; have g4 := (hb7.cell (p := ⟨w3.heap.size, 1, none⟩) (Nat.lt_of_lt_of_le T3.out HB6.out.size)).trans E4.out; have g5 := (hb7.cell (p := ⟨w3.heap.size, 2, none⟩) (Nat.lt_of_lt_of_le T3.out HB6.out.size)).trans E5.out; have g6 := (hb7.cell (p := ⟨w5.heap.size, 0, none⟩) (Nat.lt_of_lt_of_le T5.out HB6.out.size)).trans E6.out; have g7 := (hb7.cell (p := ⟨w5.heap.size, 1, none⟩) (Nat.lt_of_lt_of_le T5.out HB6.out.size)).trans E7.out; have g8 := (hb7.cell (p := ⟨w5.heap.size, 2, none⟩) (Nat.lt_of_lt_of_le T5.out HB6.out.size)).trans E8.out; have HB9 := Lib.hid hb7; clear hB hb7))
          all_goals
            go_wp2_with fail
            go_ret
            exact ⟨rfl, (HWr.out.drew.trans (HB6.out.mono HWr.out.size)).trans (HB9.out.mono (Nat.le_trans HWr.out.size HB6.out.size))⟩
        · -- not all
          have hLl : L = l := by
            rcases HR.out with ⟨_, _, h⟩ | ⟨_, _, _, h⟩ | ⟨_, _, h, _⟩
            · exact h
            · exact h
            · exact absurd h he0
          obtain rfl : F = er := by
            rcases hend with h | ⟨_, h, _⟩
            · rcases HT.out with ⟨h1, h2, h3, h4⟩ | ⟨h1, _⟩
              · exfalso
                have hcl := h4 (by omega)
                rw [h2, h, List.take_length] at h3
                simp [mayB] at h3
                rcases HR.out with ⟨h5, _⟩ | ⟨_, h5, _⟩ | ⟨_, _, h5, _⟩
                · rw [hcl] at h5; cases h5
                · rw [hcl] at h5; unfold roomB at h5; simp at h5; split at h5 <;> omega
                · exact he0 h5
              · exact h1
            · exact h
          subst hLl
          have HSm := Lib.hid (rsame_eq z cl L a3 a c3 c wr (by omega) HRa.out HRd.out)
          have hkb : ((k.length : Int) == 0) = false := by rw [beq_eq_false_iff_ne]; omega
          have heb : (F == 0) = false := by rw [beq_eq_false_iff_ne]; exact he0
          rcases hend with rfl | ⟨hik, _, _⟩
          all_goals
            try have hik2 : (i : Int) < (k.length : Int) := by omega
            clear hk0 he0
            go_wp2_with fail
            with_reducible refine HSm.out.mono ?_
            rintro e w7 ⟨rfl, hB⟩
            have HB7 := Lib.hid (HWr.out.trans (hB.mono HWr.out.size))
            clear hB
            go_wp2_with fail
            with_reducible refine (wakes_any w7).mono ?_
            rintro e w8 ⟨rfl, hB⟩
            have HB8 := Lib.hid (HB7.out.trans (hB.mono HB7.out.size))
            clear hB
            go_wp2_with fail
            go_ret
            exact ⟨rfl, HB8.out⟩

theorem putR_ex (z : Int) (cl : Bool) (l k : List Lt) : ∃ er L, PutR z cl l k er L := by
  cases cl
  · by_cases h : (k.length : Int) ≤ roomB z l.length false
    · exact ⟨0, l ++ k, .inr (.inr ⟨rfl, h, rfl, rfl⟩)⟩
    · exact ⟨50, l, .inr (.inl ⟨rfl, by omega, rfl, rfl⟩)⟩
  · exact ⟨52, l, .inl ⟨rfl, rfl, rfl⟩⟩
theorem ductmany_walk (z : Int) (cl : Bool) (l k : List Lt) (a b : Option Addr) (c d : Nat) (w : World) (hA : LK.RowC w a c l) (hK : LK.RowC w b d k) :
    Calls Try.prog 5 #[.agg #[.int .i64 z, .slice a l.length c, .bool cl], .slice b k.length d] w fun e w' => e = .returned (.bool true) ∧ Below w.heap.size w w' := by
  by_cases hg : (greatB l || greatB k) = true
  · exact ductmany_great z cl l k a b c d w hA hK (.inl hg)
  · have hg : (greatB l || greatB k) = false := by simpa using hg
    by_cases hk : k.length ≤ 60
    · by_cases hm : mayB z l.length = true
      · obtain ⟨er, L, hR⟩ := putR_ex z cl l k
        exact ductmany_small z cl l k a b c d w hA hK hg hk hm er L hR
      · exact ductmany_great z cl l k a b c d w hA hK (.inr (.inr ⟨hg, hk, by simpa using hm⟩))
    · exact ductmany_great z cl l k a b c d w hA hK (.inr (.inl ⟨hg, by omega⟩))
end Go.Proofs.Ytomiajgedcpjiaa
