/- Texts of addresses of family 6; of both; Text. -/
import Derived.Test.YtbejnnkdgcelmaaGreatDoorTellB
import Derived.Deep.RegionWith
set_option linter.unusedSimpArgs false
set_option linter.unusedVariables false
namespace Go.Proofs.YtbejnnkdgcelmaaGreatDoor
open Go.RowKit

theorem gsAt_new (x0 x1 x2 x3 x4 x5 x6 x7 : Nat) (w : World) :
    GsAt (w.alloc (Obj.cells #[.int .u16 (x0 : Int), .int .u16 (x1 : Int), .int .u16 (x2 : Int), .int .u16 (x3 : Int), .int .u16 (x4 : Int), .int .u16 (x5 : Int), .int .u16 (x6 : Int), .int .u16 (x7 : Int)] 24)) w.heap.size 0 [x0, x1, x2, x3, x4, x5, x6, x7] := by
  intro j g hg
  have hj : j < 8 := by have := (List.getElem?_eq_some_iff.1 hg).1; simpa using this
  rw [World.cell?_alloc_new, Nat.zero_add]
  rcases (show j = 0 ∨ j = 1 ∨ j = 2 ∨ j = 3 ∨ j = 4 ∨ j = 5 ∨ j = 6 ∨ j = 7 by omega) with rfl | rfl | rfl | rfl | rfl | rfl | rfl | rfl <;> (simp at hg ⊢; omega)

theorem str_app (a b : List UInt8) : (⟨a.toArray⟩ : ByteArray) ++ ⟨b.toArray⟩ = ⟨(a ++ b).toArray⟩ := by
  apply ByteArray.ext
  apply Array.ext'
  simp
theorem size_of_list (l : List UInt8) : (⟨l.toArray⟩ : ByteArray).size = l.length := by simp [ByteArray.size]

set_option maxHeartbeats 8000000 in
set_option maxRecDepth 1000000 in
theorem tellSix_any (x0 x1 x2 x3 x4 x5 x6 x7 : Nat) (w : World) (hle : ∀ g ∈ [x0, x1, x2, x3, x4, x5, x6, x7], g ≤ 65535) (hE : Env w) :
    Calls Tryz.prog 41 #[.agg #[.int .u16 x0, .int .u16 x1, .int .u16 x2, .int .u16 x3, .int .u16 x4, .int .u16 x5, .int .u16 x6, .int .u16 x7]] w fun e w' =>
      e = .returned (.string ⟨(P.tell6 [x0, x1, x2, x3, x4, x5, x6, x7]).toArray⟩) ∧ Below w.heap.size w w' := by
  have hGS := gsAt_new x0 x1 x2 x3 x4 x5 x6 x7 w
  have hB0 : Below w.heap.size w (w.alloc (Obj.cells #[.int .u16 (x0 : Int), .int .u16 (x1 : Int), .int .u16 (x2 : Int), .int .u16 (x3 : Int), .int .u16 (x4 : Int), .int .u16 (x5 : Int), .int .u16 (x6 : Int), .int .u16 (x7 : Int)] 24)) := (Below.refl _ w).alloc (Nat.le_refl _) _
  have HL := Lib.hid (show [x0, x1, x2, x3, x4, x5, x6, x7].length = 8 from rfl)
  have HLR := Lib.hid (longest_any x0 x1 x2 x3 x4 x5 x6 x7)
  obtain ⟨L, hL⟩ : ∃ L, [x0, x1, x2, x3, x4, x5, x6, x7] = L := ⟨_, rfl⟩
  rw [hL] at hGS HL HLR hle ⊢
  have HQ := Lib.hid hL
  clear hL
  obtain ⟨hr1, hr2⟩ := P.runP_le L
  rw [HL.out] at hr2
  have HGS := Lib.hid hGS
  have HB0 := Lib.hid hB0
  have HLE := Lib.hid hle
  have HE := Lib.hid hE
  have HT := Lib.hid (show P.tell6 L = (if (P.runP L).1 = (P.runP L).2 then P.tellG L else P.tellG (L.take (P.runP L).1) ++ (58 :: 58 :: P.tellG (L.drop (P.runP L).2))) from rfl)
  obtain ⟨f, hf⟩ : ∃ f, (P.runP L).1 = f := ⟨_, rfl⟩
  obtain ⟨t, ht⟩ : ∃ t, (P.runP L).2 = t := ⟨_, rfl⟩
  rw [hf, ht] at HT hr1
  rw [hf, ht] at HLR
  rw [ht] at hr2
  clear hGS hB0 hle hE hf ht
  go_enter Tryz.func41, Tryz.ntmps41
  go_wp2_with fail
  generalize hW : w.alloc (Obj.cells #[.int .u16 (x0 : Int), .int .u16 (x1 : Int), .int .u16 (x2 : Int), .int .u16 (x3 : Int), .int .u16 (x4 : Int), .int .u16 (x5 : Int), .int .u16 (x6 : Int), .int .u16 (x7 : Int)] 24) = W1 at *
  have hWs : W1.heap.size = w.heap.size + 1 := by rw [← hW]; simp
  have HW := Lib.hid hW
  clear hW
  have HC := HLR.out W1
  with_reducible refine HC.mono ?_
  clear HC
  rintro e w1 ⟨rfl, hb1⟩
  have hbs1 := hb1.size
  by_cases hft : f = t
  · subst hft
    have HS := Lib.hid (show P.tell6 L = P.tellG L by rw [HT.out, if_pos rfl])
    have HC := tellGroups_any L w.heap.size 0 8 w1 (by rw [HL.out]; omega) HLE.out (by omega) (HGS.out.below hb1 (by omega)) (HE.out.below (HB0.out.trans (hb1.mono (by omega))))
    rw [HL.out] at HC
    have HC2 := Lib.hid HC
    clear HC
    have HF := Lib.hid (show (⟨(P.tell6 L).toArray⟩ : ByteArray) = ⟨(P.tellG L).toArray⟩ by rw [HS.out])
    generalize (⟨(P.tellG L).toArray⟩ : ByteArray) = S at *
    go_wp2_with fail
    with_reducible refine HC2.out.mono ?_
    rintro e w2 ⟨rfl, hb2⟩
    go_wp2_with fail
    go_ret
    exact ⟨by rw [HF.out]; rfl, HB0.out.trans ((hb1.trans (hb2.mono hbs1)).mono (by omega))⟩
  · have hb : ((f : Int) == (t : Int)) = false := by rw [beq_eq_false_iff_ne]; omega
    have hsl1 : ∀ W, (Instr.sliceAt 24 (.pointer (some ⟨w.heap.size, 0, none⟩)) none (some (.int .i64 (f : Int))) none).run Tryz.prog W = .ok (.slice (some ⟨w.heap.size, 0, none⟩) f 8) W := fun W => by
      rw [run_sliceAt_array_h W 24 ⟨w.heap.size, 0, none⟩ (by kernel_rfl) .i64 (f : Int) (by omega) (by rw [show Tryz.prog.arrayLen 24 = 8 from by kernel_rfl]; omega)]
      rw [show Tryz.prog.arrayLen 24 = 8 from by kernel_rfl, show Tryz.prog.elem 24 = 23 from by kernel_rfl]
      go_simp
    obtain ⟨o2, hsl2, hGS2⟩ : ∃ o2, (∀ W, (Instr.sliceAt 24 (.pointer (some ⟨w.heap.size, 0, none⟩)) (some (.int .i64 (t : Int))) none none).run Tryz.prog W = .ok (.slice (some ⟨w.heap.size, o2, none⟩) (8 - t) (8 - t)) W) ∧ GsAt W1 w.heap.size o2 (L.drop t) := by
      by_cases h8 : t = 8
      · subst h8
        refine ⟨0, fun W => ?_, ?_⟩
        · rw [run_sliceAt_array_l W 24 ⟨w.heap.size, 0, none⟩ (by kernel_rfl) .i64 ((8 : Nat) : Int) (by omega) (by rw [show Tryz.prog.arrayLen 24 = 8 from by kernel_rfl]; omega)]
          rw [show Tryz.prog.arrayLen 24 = 8 from by kernel_rfl, show Tryz.prog.elem 24 = 23 from by kernel_rfl]
          go_simp
        · rw [List.drop_eq_nil_of_le (by rw [HL.out]; omega)]
          intro j g hg; simp at hg
      · refine ⟨t, fun W => ?_, by have := HGS.out.drop t; rwa [Nat.zero_add] at this⟩
        rw [run_sliceAt_array_l W 24 ⟨w.heap.size, 0, none⟩ (by kernel_rfl) .i64 (t : Int) (by omega) (by rw [show Tryz.prog.arrayLen 24 = 8 from by kernel_rfl]; omega)]
        rw [show Tryz.prog.arrayLen 24 = 8 from by kernel_rfl, show Tryz.prog.elem 24 = 23 from by kernel_rfl]
        go_simp
        omega
    have HS := Lib.hid (show P.tell6 L = P.tellG (L.take f) ++ (58 :: 58 :: P.tellG (L.drop t)) by rw [HT.out, if_neg hft])
    have hs1 := P.tellG_len (L.take f)
    have hs2 := P.tellG_len (L.drop t)
    rw [List.length_take, HL.out] at hs1
    rw [List.length_drop, HL.out] at hs2
    have hl1 : (L.take f).length = f := by rw [List.length_take, HL.out]; omega
    have hl2 : (L.drop t).length = 8 - t := by rw [List.length_drop, HL.out]
    have c1 : ∀ W, Below W1.heap.size W1 W → Calls Tryz.prog 58 #[.slice (some ⟨w.heap.size, 0, none⟩) f 8] W fun e w' => e = .returned (.string ⟨(P.tellG (L.take f)).toArray⟩) ∧ Below W.heap.size W w' := by
      intro W hW
      have := tellGroups_any (L.take f) w.heap.size 0 8 W (by omega) (fun g hg => HLE.out g (List.mem_of_mem_take hg)) (by have := hW.size; omega) ((HGS.out.take f).below hW (by omega)) (HE.out.below (HB0.out.trans (hW.mono (by omega))))
      rwa [hl1] at this
    have c2 : ∀ W, Below W1.heap.size W1 W → Calls Tryz.prog 58 #[.slice (some ⟨w.heap.size, o2, none⟩) (8 - t) (8 - t)] W fun e w' => e = .returned (.string ⟨(P.tellG (L.drop t)).toArray⟩) ∧ Below W.heap.size W w' := by
      intro W hW
      have := tellGroups_any (L.drop t) w.heap.size o2 (8 - t) W (by omega) (fun g hg => HLE.out g (List.mem_of_mem_drop hg)) (by have := hW.size; omega) (hGS2.below hW (by omega)) (HE.out.below (HB0.out.trans (hW.mono (by omega))))
      rwa [hl2] at this
    have C1 := Lib.hid c1
    have C2 := Lib.hid c2
    have hz1 : (⟨(P.tellG (L.take f)).toArray⟩ : ByteArray).size ≤ 100 := by rw [size_of_list]; omega
    have hz2 : (⟨(P.tellG (L.drop t)).toArray⟩ : ByteArray).size ≤ 100 := by rw [size_of_list]; omega
    have HF := Lib.hid (show (⟨(P.tell6 L).toArray⟩ : ByteArray) = ⟨(P.tellG (L.take f)).toArray⟩ ++ ⟨#[58, 58]⟩ ++ ⟨(P.tellG (L.drop t)).toArray⟩ by
      rw [HS.out, show (⟨#[58, 58]⟩ : ByteArray) = ⟨([58, 58] : List UInt8).toArray⟩ from rfl, str_app, str_app]; simp)
    clear c1 c2 hs1 hs2 hl1 hl2 hGS2 hft
    generalize (⟨(P.tellG (L.take f)).toArray⟩ : ByteArray) = S1 at *
    generalize (⟨(P.tellG (L.drop t)).toArray⟩ : ByteArray) = S2 at *
    go_wp2_with fail
    have hbd := hb1.drew
    have hbds := hbd.size
    have C1' := C1.out w1.drew hbd
    clear C1
    go_region_with (first
      | (go_at_call 58; with_reducible refine C1'.mono ?_; rintro e w2 ⟨rfl, hb2⟩; have hb3 := hbd.trans (hb2.mono hbds); have hbs3 := hb3.size)
      | (go_at_call 58; have C2' := C2.out w2 hb3; with_reducible refine C2'.mono ?_; rintro e w4 ⟨rfl, hb4⟩; have hb5 := hb3.trans (hb4.mono hbs3)))
    all_goals
      go_wp2_with fail
      go_ret
      exact ⟨by rw [HF.out]; rfl, HB0.out.trans (hb5.mono (by omega))⟩

/-- The groups of an address that may be, as plain numbers. -/
theorem Ad.nats (a : Ad) (h : a.Ok) : ∃ x0 x1 x2 x3 x4 x5 x6 x7 : Nat, a.g0 = x0 ∧ a.g1 = x1 ∧ a.g2 = x2 ∧ a.g3 = x3 ∧ a.g4 = x4 ∧ a.g5 = x5 ∧ a.g6 = x6 ∧ a.g7 = x7 ∧ a.ns = [x0, x1, x2, x3, x4, x5, x6, x7] ∧ ∀ g ∈ a.ns, g ≤ 65535 := by
  obtain ⟨_, ⟨h0, h1, h2, h3, h4, h5, h6, h7⟩, _⟩ := h
  refine ⟨a.g0.toNat, a.g1.toNat, a.g2.toNat, a.g3.toNat, a.g4.toNat, a.g5.toNat, a.g6.toNat, a.g7.toNat, by omega, by omega, by omega, by omega, by omega, by omega, by omega, by omega, rfl, ?_⟩
  intro g hg
  simp only [Ad.ns, Ad.gs, List.map_cons, List.map_nil, List.mem_cons, List.not_mem_nil, or_false] at hg
  omega

set_option maxHeartbeats 4000000 in
set_option maxRecDepth 1000000 in
theorem tellHost_any (a : Ad) (w : World) (ha : a.Ok) (hf : a.f = 4 ∨ a.f = 6) (hE : Env w) :
    Calls Tryz.prog 21 #[a.v] w fun e w' => e = .returned (.string ⟨(P.hostP a.f a.ns).toArray⟩) ∧ Below w.heap.size w w' := by
  obtain ⟨x0, x1, x2, x3, x4, x5, x6, x7, e0, e1, e2, e3, e4, e5, e6, e7, hns, hle⟩ := a.nats ha
  rw [hns] at hle ⊢
  have l0 := hle x0 (by simp)
  have l1 := hle x1 (by simp)
  have h4 := fun W (hb : Below w.heap.size w W) => tellFour_any a x0 x1 W e0 e1 l0 l1 (hE.below hb)
  have h6 := fun W (hb : Below w.heap.size w W) => tellSix_any x0 x1 x2 x3 x4 x5 x6 x7 W hle (hE.below hb)
  have hz6 := P.tell6_len [x0, x1, x2, x3, x4, x5, x6, x7] rfl
  obtain ⟨f, g0, g1, g2, g3, g4, g5, g6, g7, p⟩ := a
  simp only at e0 e1 e2 e3 e4 e5 e6 e7 hf
  subst e0 e1 e2 e3 e4 e5 e6 e7
  simp only [Ad.v, Ad.enc, Ad.gv] at h4 ⊢
  have H4 := Lib.hid h4
  have H6 := Lib.hid h6
  clear h4 h6 ha hE
  have hbw : Below w.heap.size w (w.alloc (Obj.cells #[.int .i8 f, .int .u16 (x0 : Int), .int .u16 (x1 : Int), .int .u16 (x2 : Int), .int .u16 (x3 : Int), .int .u16 (x4 : Int), .int .u16 (x5 : Int), .int .u16 (x6 : Int), .int .u16 (x7 : Int), .int .i64 p] 26)) := (Below.refl _ w).alloc (Nat.le_refl _) _
  rcases hf with rfl | rfl
  · have HF := Lib.hid (show (⟨(P.hostP 4 [x0, x1, x2, x3, x4, x5, x6, x7]).toArray⟩ : ByteArray) = ⟨(P.tell4 x0 x1).toArray⟩ from rfl)
    have HC := Lib.hid (H4.out _ hbw)
    generalize (⟨(P.tell4 x0 x1).toArray⟩ : ByteArray) = S at *
    go_enter Tryz.func21, Tryz.ntmps21
    go_wp2_with fail
    with_reducible refine HC.out.mono ?_
    rintro e w1 ⟨rfl, hb1⟩
    go_wp2_with fail
    go_ret
    exact ⟨by rw [HF.out]; rfl, hbw.trans (hb1.mono hbw.size)⟩
  · have HF := Lib.hid (show (⟨(P.hostP 6 [x0, x1, x2, x3, x4, x5, x6, x7]).toArray⟩ : ByteArray) = ⟨#[91]⟩ ++ ⟨(P.tell6 [x0, x1, x2, x3, x4, x5, x6, x7]).toArray⟩ ++ ⟨#[93]⟩ by
      rw [show (⟨#[91]⟩ : ByteArray) = ⟨([91] : List UInt8).toArray⟩ from rfl, show (⟨#[93]⟩ : ByteArray) = ⟨([93] : List UInt8).toArray⟩ from rfl, str_app, str_app]
      simp [P.hostP])
    have HC := Lib.hid (H6.out _ hbw)
    have hz : (⟨(P.tell6 [x0, x1, x2, x3, x4, x5, x6, x7]).toArray⟩ : ByteArray).size ≤ 82 := by rw [size_of_list]; exact hz6
    clear hz6
    generalize (⟨(P.tell6 [x0, x1, x2, x3, x4, x5, x6, x7]).toArray⟩ : ByteArray) = S at *
    go_enter Tryz.func21, Tryz.ntmps21
    go_wp2_with fail
    with_reducible refine HC.out.mono ?_
    rintro e w1 ⟨rfl, hb1⟩
    go_wp2_with fail
    go_ret
    exact ⟨by rw [HF.out]; rfl, hbw.trans (hb1.mono hbw.size)⟩
end Go.Proofs.YtbejnnkdgcelmaaGreatDoor
