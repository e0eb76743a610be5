/- The landed package scar: Note, Has, Worst, Same. -/
import Derived.Test.YtipbkhbdnjhofaaLandB
set_option linter.unusedSimpArgs false
set_option linter.unusedVariables false
namespace Go.Proofs.Ytipbkhbdnjhofaa
open R3 Go.RowKit Go.Maps Go.Proofs.Ytipbkhbdnjhofaa.Kind

theorem own_beside {α β : Type} {Pr : Program} {K : Kind Pr α} {K2 : Kind Pr β} {w w' : World} {base base2 : Nat} {v v2 : Value} {l : List α} {l2 : List β} (h : K.Own w base v l) (h2 : K2.Own w base2 v2 l2) (ht : K2.T ≠ K.T) (hg : w.grownBy w' v2.ownBlock) : K.Own w' base v l := by
  refine World.ownsRow.kept h hg ?_
  cases e2 : v2.ownBlock with
  | none =>
    cases e1 : v.ownBlock with
    | none => exact .inl rfl
    | some g => exact .inr (by simp)
  | some g =>
    rcases h2.2 with ⟨rfl, _⟩ | ⟨g', cap, cur, rfl, _, hg', _⟩
    · simp [Value.ownBlock] at e2
    · have e3 : g' = g := by simpa [Value.ownBlock] using e2
      subst e3
      exact .inr (h.ne hg' ht)
theorem own_grown {α : Type} {Pr : Program} {K : Kind Pr α} {W0 w w' : World} {base : Nat} {v : Value} {l : List α} (h : K.Own w base v l) (hb : Below base W0 w) (hg : w.grownBy w' v.ownBlock) (hs : base ≤ w.heap.size) : Below base W0 w' :=
  hb.grown hg hs (fun g hg => (World.ownsRow.lt h g hg).1)
set_option maxHeartbeats 8000000 in
set_option maxRecDepth 1000000 in
theorem note_own (l : List Sc) (n : Int) (ds : List Ad) (s v : Option Addr) (c d : Nat) (L : List Sc) (w : World) (hL : L = noteS l (P.clamp n) ds) (hl : l.length ≤ 500) (hd : ds.length ≤ 400) (hol : OkS l) (hod : OkL ds) (hR : SK.RowC w s c l) (hD : AK.RowC w v d ds) :
    Calls Try.prog 9 #[.slice s l.length c, .int .i64 n, .slice v ds.length d] w fun e w' => ∃ a1 c1, e = .returned (.slice a1 L.length c1) ∧ SK.RowC w' a1 c1 L ∧ Below w.heap.size w w' := by
  obtain ⟨H, hH⟩ : ∃ H, H = healS l ds := ⟨_, rfl⟩
  obtain ⟨O, hO⟩ : ∃ O, O = onceL ds := ⟨_, rfl⟩
  have hLF : L = lastS (H ++ O.map (fun a => (⟨a, P.clamp n⟩ : Sc))) := by rw [hL, hH, hO]; unfold noteS; rw [note_fold]
  have hHl : H.length ≤ 500 := by have := heal_len ds l; rw [hH]; omega
  have hOl : O.length ≤ 400 := by have := onceL_len ds; rw [hO]; omega
  have HHe := Lib.hid (heal_own l ds s v c d H w hH (by omega) (by omega) hol hod hR hD)
  have HOn := Lib.hid (fun (W : World) (h : Below w.heap.size w W) => once_own ds v d O W hO (by omega) hod (hD.below h))
  have HLF := Lib.hid hLF
  have HCl := Lib.hid (fun (W : World) => clamp_any n W)
  clear hL hl hd hol hod hR hD hH hO hLF
  go_enter Try.func9, Try.ntmps9
  go_wp2_with fail
  (with_reducible refine HHe.out.mono ?_)
  rintro e w1 ⟨a1, c1, rfl, h1, h2⟩
  have H1 := Lib.hid h1
  have HB1 := Lib.hid h2
  have hs1 := h2.size
  clear h1 h2 HHe
  go_wp2_with fail
  (with_reducible refine (HOn.out w1 HB1.out).mono ?_)
  rintro e w2 ⟨a2, c2, rfl, h1, h2⟩
  have HQ2 := Lib.hid (h1.mono hs1)
  have HH2 := Lib.hid (H1.out.below h2 (Nat.le_refl _))
  have HB2 := Lib.hid (HB1.out.trans (h2.mono hs1))
  have hmx : (O.length : Int) ≤ 400 := by omega
  clear h1 h2 HOn H1 HB1 hs1
  go_wp2_with fail
  go_loopw [7, 16] (fun o i wr => ∃ (k m c1 : Nat) (a1 : Option Addr), o = .slice a1 m c1 ∧ i = .int .i64 k ∧ k ≤ O.length ∧ m ≤ 900 ∧ Hid (m = (H ++ (O.take k).map (fun a => (⟨a, P.clamp n⟩ : Sc))).length) ∧ Hid (SK.Own wr w.heap.size (.slice a1 m c1) (H ++ (O.take k).map (fun a => (⟨a, P.clamp n⟩ : Sc)))) ∧ Hid (AK.Own wr w.heap.size (.slice a2 O.length c2) O) ∧ Hid (Below w.heap.size w wr)) (fun _ i _ => O.length - (intOf i).toNat)
  case atStart => exact ⟨0, H.length, c1, a1, rfl, rfl, by omega, by omega, Lib.hid (by simp), Lib.hid (by simpa using HH2.out), HQ2, HB2⟩
  case round =>
    obtain ⟨k, m, c1, a1, rfl, rfl, hk, hm1, hm, hO, hQ, hB⟩ := hrel
    have HM := Lib.hid hm.out
    have HO := Lib.hid hO.out
    have HQ := Lib.hid hQ.out
    have HB := Lib.hid hB.out
    clear hm hO hQ hB
    by_cases hlt : k < O.length
    · obtain ⟨b, o, rfl, hb, hat⟩ := HQ.out.row.2.2.2 (by omega)
      obtain ⟨x, hx⟩ : ∃ x, O[k]? = some x := ⟨_, List.getElem?_eq_getElem hlt⟩
      obtain ⟨M, hM⟩ : ∃ M, M = H ++ (O.take k).map (fun a => (⟨a, P.clamp n⟩ : Sc)) := ⟨_, rfl⟩
      obtain ⟨M2, hM2⟩ : ∃ M2, M2 = H ++ (O.take (k + 1)).map (fun a => (⟨a, P.clamp n⟩ : Sc)) := ⟨_, rfl⟩
      have hMM : M2 = M ++ [(⟨x, P.clamp n⟩ : Sc)] := by rw [hM2, hM, List.take_add_one, hx, List.map_append, List.append_assoc]; rfl
      rw [← hM] at HM HO
      have hml : M.length ≤ 900 := by rw [← HM.out]; exact hm1
      have hml2 : M2.length ≤ 900 := by rw [hM2, List.length_append, List.length_map, List.length_take]; omega
      obtain ⟨⟨y0, y1, y2, y3, y4⟩, y5, y6, y7, y8, y9⟩ := AK.ten hat hx
      have HMM := Lib.hid hMM
      have HM2 := Lib.hid hM2
      obtain rfl := HM.out
      obtain ⟨wb, hwb⟩ : ∃ wb, wb = wr.alloc (.cells #[.int .i8 x.f, .int .u16 x.g0, .int .u16 x.g1, .int .u16 x.g2, .int .u16 x.g3, .int .u16 x.g4, .int .u16 x.g5, .int .u16 x.g6, .int .u16 x.g7, .int .i64 x.p] 31) := ⟨_, rfl⟩
      have hbb : Below wr.heap.size wr wb := by rw [hwb]; exact below1 wr _
      have HLb := Lib.hid (show wb.heap[wr.heap.size]? = some (.cells #[.int .i8 x.f, .int .u16 x.g0, .int .u16 x.g1, .int .u16 x.g2, .int .u16 x.g3, .int .u16 x.g4, .int .u16 x.g5, .int .u16 x.g6, .int .u16 x.g7, .int .i64 x.p] 31) by rw [hwb]; exact laid1 wr _)
      have HO5 := Lib.hid (show SK.Own (wb.alloc (.cells #[.int .i8 x.f, .int .u16 x.g0, .int .u16 x.g1, .int .u16 x.g2, .int .u16 x.g3, .int .u16 x.g4, .int .u16 x.g5, .int .u16 x.g6, .int .u16 x.g7, .int .i64 x.p, .int .i64 (P.clamp n)] 33)).drew w.heap.size (.slice a1 M.length c1) M from ((HO.out.below hbb (Nat.le_refl _)).below (below1 wb _).drew (Nat.le_refl _)))
      have HQ5 := Lib.hid (show AK.Own (wb.alloc (.cells #[.int .i8 x.f, .int .u16 x.g0, .int .u16 x.g1, .int .u16 x.g2, .int .u16 x.g3, .int .u16 x.g4, .int .u16 x.g5, .int .u16 x.g6, .int .u16 x.g7, .int .i64 x.p, .int .i64 (P.clamp n)] 33)).drew w.heap.size (.slice (some ⟨b, o, none⟩) O.length c2) O from ((HQ.out.below hbb (Nat.le_refl _)).below (below1 wb _).drew (Nat.le_refl _)))
      have HBb := Lib.hid (HB.out.trans (hbb.mono HB.out.size))
      have HB5 := Lib.hid (show Below w.heap.size w (wb.alloc (.cells #[.int .i8 x.f, .int .u16 x.g0, .int .u16 x.g1, .int .u16 x.g2, .int .u16 x.g3, .int .u16 x.g4, .int .u16 x.g5, .int .u16 x.g6, .int .u16 x.g7, .int .i64 x.p, .int .i64 (P.clamp n)] 33)).drew from (HBb.out.trans ((below1 wb _).mono HBb.out.size)).drew)
      have HR5 := Lib.hid (show SK.RowC (wb.alloc (.cells #[.int .i8 x.f, .int .u16 x.g0, .int .u16 x.g1, .int .u16 x.g2, .int .u16 x.g3, .int .u16 x.g4, .int .u16 x.g5, .int .u16 x.g6, .int .u16 x.g7, .int .i64 x.p, .int .i64 (P.clamp n)] 33)).drew (some ⟨wb.heap.size, 0, none⟩) 1 [(⟨x, P.clamp n⟩ : Sc)] from rowC_at (K := SK) wb 33 [(⟨x, P.clamp n⟩ : Sc)] _ _ 1 rfl rfl rfl (by simp))
      clear hat hx hM hM2 hMM HO HQ hbb
      go_upto_region 5 with fail
      rw [← hwb]
      clear hwb
      obtain ⟨⟨z0, z1, z2, z3, z4, z5, z6, z7, z8, z9⟩, _⟩ := boxes10 HLb.out
      obtain ⟨⟨u0, u1, u2, u3, u4, u5, u6, u7, u8, u9⟩, _⟩ := boxes10 (show wb.drew.heap[wr.heap.size]? = _ from HLb.out)
      clear y0 y1 y2 y3 y4 y5 y6 y7 y8 y9
      go_region_law (first
        | (refine SK.step_append_owned rfl _ _ rfl w.heap.size (.slice a1 M.length c1) rfl M HO5.out (some ⟨wb.heap.size, 0, none⟩) 1 1 rfl [(⟨x, P.clamp n⟩ : Sc)] rfl HR5.out (by simp <;> omega) HB5.out.size M2 HMM.out ?_; intro a9 c9 w9 hO9 hG9; have HO9 := Lib.hid hO9; have HQ9 := Lib.hid (own_beside HQ5.out HO5.out (by decide) hG9); have HB9 := Lib.hid (own_grown HO5.out HB5.out hG9 HB5.out.size); clear hO9 hG9)
        | (go_simp; go_at_call 18; (with_reducible refine (HCl.out _).mono ?_); rintro e wC ⟨rfl, hwC⟩; subst wC))
      all_goals
        go_wp2_with fail
        go_roundw
        case rel => exact ⟨k + 1, M2.length, c9, a9, rfl, by go_num, by omega, hml2, Lib.hid (by rw [HM2.out]), Lib.hid (by rw [← HM2.out]; exact HO9.out), HQ9, HB9⟩
        case measure => simp [intOf]; omega
    · obtain rfl : k = O.length := by omega
      have hm := HM.out
      have hO := HO.out.row
      rw [List.take_length] at hm hO
      obtain ⟨F, hF⟩ : ∃ F, F = H ++ O.map (fun a => (⟨a, P.clamp n⟩ : Sc)) := ⟨_, rfl⟩
      rw [← hF] at hm hO
      have hLF : L = lastS F := by rw [HLF.out, hF]
      rcases Nat.lt_trichotomy m 32 with h32 | h32 | h32
      · have HX := Lib.hid (show L = F by rw [hLF]; exact last_id (by omega))
        have HO2 := Lib.hid hO
        have HM2 := Lib.hid hm
        have hw : IntKind.i64.wrap ((m : Int) - 32) = (m : Int) - 32 := by rw [IntKind.wrap_i64]; omega
        have hz1 : (m : Int) - 32 ≤ 0 := by omega
        have hz2 : ¬ (0 : Int) ≤ (m : Int) - 32 := by omega
        have hz3 : (m : Int) - 32 < 0 := by omega
        have hc1 : (m : Int) ≤ (c1 : Int) := by have := hO.1; omega
        clear hm hO hF hLF HO HM HLF
        go_wp2_with fail
        all_goals
          go_ret
          exact ⟨a1, _, by rw [HX.out, ← HM2.out]; rfl, by rw [HX.out]; exact HO2.out, HB.out⟩
      · subst h32
        have HX := Lib.hid (show L = F by rw [hLF]; exact last_id (by omega))
        have HO2 := Lib.hid hO
        have HM2 := Lib.hid hm
        have hc1 : (32 : Int) ≤ (c1 : Int) := by have := hO.1; omega
        clear hO hF hLF HO HM HLF hm
        go_wp2_with fail
        all_goals
          go_ret
          exact ⟨a1, _, by rw [HX.out, ← HM2.out]; rfl, by rw [HX.out]; exact HO2.out, HB.out⟩
      · obtain ⟨G, hG⟩ : ∃ G : Nat, (m : Int) - 32 = G := ⟨m - 32, by omega⟩
        obtain ⟨b1, o1, rfl, hb1, hat1⟩ := hO.2.2.2 (by omega)
        have hc1 := hO.1
        have hc2 := hO.2.1
        have hw : IntKind.i64.wrap ((m : Int) - 32) = (G : Int) := by rw [IntKind.wrap_i64]; omega
        have hmd1 : (G : Int) ≤ (c1 : Int) := by omega
        have hmd2 : (G : Int) ≤ (m : Int) := by omega
        have hmd3 : (m : Int) ≤ (c1 : Int) := by omega
        have hmd4 : (0 : Int) ≤ (G : Int) := by omega
        have hmd5 : ¬ (G : Int) ≤ 0 := by omega
        have hmd6 : ¬ (G : Int) < 0 := by omega
        have hmd7 : ¬ G = 0 := by omega
        obtain ⟨p2, hp2⟩ : ∃ p2, (if c1 = G then some (⟨b1, o1, none⟩ : Addr) else some ⟨b1, o1 + G * 11, none⟩) = p2 := ⟨_, rfl⟩
        have HDr := Lib.hid (hO.drop (a' := p2) G (by omega) (by rw [← hp2]; simp [add_at', SK]))
        have HX := Lib.hid (show L = F.drop G by rw [hLF]; unfold lastS; congr 1; omega)
        have hlen : (F.drop G).length = m - G := by rw [List.length_drop]; omega
        have HLn := Lib.hid hlen
        clear hm hO hF hLF HO HM HLF hat1 hG hlen
        go_wp2_with fail
        all_goals
          go_ret
          exact ⟨p2, c1 - G, by rw [HX.out, HLn.out]; rfl, by rw [HX.out]; exact HDr.out, HB.out⟩
theorem note_spec : NoteSpec := fun l n ds s v c d L w ⟨hL, hol, hod⟩ hl hd hR hD => note_own l n ds s v c d L w hL hl hd hol hod hR hD
end Go.Proofs.Ytipbkhbdnjhofaa
