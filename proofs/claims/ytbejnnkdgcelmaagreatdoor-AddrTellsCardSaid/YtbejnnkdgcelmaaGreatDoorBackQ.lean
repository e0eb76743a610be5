/- PLAIN LEAN for layer 2: an address's text reads as the address. -/
import Derived.Test.YtbejnnkdgcelmaaGreatDoorBackP
set_option linter.unusedSimpArgs false
set_option linter.unusedVariables false
namespace Go.Proofs.YtbejnnkdgcelmaaGreatDoor.P

theorem fourP_tell4 (x y : Nat) (hx : x ≤ 65535) (hy : y ≤ 65535) : fourP (tell4 x y) = some (x, y) := by
  have hs : Lib.splitN (tell4 x y) [46] 5 = bytes4 x y := splitN_join 46 (bytes4 x y) 5 (by simp [bytes4]) (fun t ht => by
    simp only [bytes4, List.mem_cons, List.not_mem_nil, or_false] at ht
    rcases ht with rfl | rfl | rfl | rfl <;> exact dec_free _ 46 (by decide)) (by simp [bytes4])
  unfold fourP
  rw [hs, if_pos (show (bytes4 x y).length = 4 from rfl)]
  unfold bytes4
  rw [fourF_low _ _ _ _ _ _ (numP_dec 255 (x / 256) (by omega)) (by omega), fourF_low _ _ _ _ _ _ (numP_dec 255 (x % 256) (by omega)) (by omega),
    fourF_high _ _ _ _ _ _ (numP_dec 255 (y / 256) (by omega)) (by omega), fourF_high _ _ _ _ _ _ (numP_dec 255 (y % 256) (by omega)) (by omega)]
  simp only [fourF, Option.some.injEq, Prod.mk.injEq]
  omega
theorem hostR_four (x y : Nat) (hx : x ≤ 65535) (hy : y ≤ 65535) : hostR (tell4 x y) = (4, some [x, y, 0, 0, 0, 0, 0, 0]) := by
  have hp : Lib.hasPrefix (tell4 x y) [91] = false := by
    obtain ⟨b, l, hb⟩ : ∃ b l, Lib.decDigits (x / 256) = b :: l := by
      cases h : Lib.decDigits (x / 256) with
      | nil =>
        have := numP_dec 255 (x / 256) (by omega)
        rw [h] at this; simp [numP] at this
      | cons b l => exact ⟨b, l, rfl⟩
    have hd := dec_dig (x / 256) b (by rw [hb]; simp)
    have he : tell4 x y = b :: (l ++ Lib.joinTail [46] [Lib.decDigits (x % 256), Lib.decDigits (y / 256), Lib.decDigits (y % 256)]) := by
      unfold tell4 bytes4
      rw [Lib.join_cons, hb]; rfl
    rw [he]
    have hne : ((91 : UInt8) == b) = false := by
      rw [beq_eq_false_iff_ne]
      intro e
      subst e
      simp at hd
    simp [Lib.hasPrefix, List.isPrefixOf, hne]
  unfold hostR
  rw [hp, if_neg (by simp), fourP_tell4 x y hx hy]
  rfl

/-- Between a run's ends there are noughts alone. -/
theorem runF_zero (gs : List Nat) : ∀ (l : List Nat) (i b f t : Nat), gs.drop i = l → (∀ j, b ≤ j → j < i → gs[j]? = some 0) → (∀ j, f ≤ j → j < t → gs[j]? = some 0) → ∀ j, (runF l i b f t).1 ≤ j → j < (runF l i b f t).2 → gs[j]? = some 0
  | [], i, b, f, t, _, _, hf => hf
  | g :: l, i, b, f, t, hd, hb, hf => by
    have hg : gs[i]? = some g := by
      have := congrArg (fun q => q[0]?) hd
      simpa [List.getElem?_drop] using this
    have hd2 : gs.drop (i + 1) = l := by
      have := congrArg (List.drop 1) hd
      simpa [List.drop_drop] using this
    unfold runF
    split
    · rename_i h0
      subst h0
      have hb2 : ∀ j, b ≤ j → j < i + 1 → gs[j]? = some 0 := by
        intro j h1 h2
        by_cases h : j = i
        · subst h; exact hg
        · exact hb j h1 (by omega)
      split
      · exact runF_zero gs l (i + 1) b b (i + 1) hd2 hb2 hb2
      · exact runF_zero gs l (i + 1) b f t hd2 hb2 hf
    · exact runF_zero gs l (i + 1) (i + 1) f t hd2 (fun j h1 h2 => by omega) hf
theorem run_mid (gs : List Nat) : gs = gs.take (runP gs).1 ++ (List.replicate ((runP gs).2 - (runP gs).1) 0 ++ gs.drop (runP gs).2) := by
  have hz := runF_zero gs gs 0 0 0 0 (by simp) (fun j h1 h2 => by omega) (fun j h1 h2 => by omega)
  obtain ⟨h1, h2⟩ := runP_le gs
  have hz2 : ∀ j, (runP gs).1 ≤ j → j < (runP gs).2 → gs[j]? = some 0 := hz
  generalize (runP gs).1 = f at *
  generalize (runP gs).2 = t at *
  have hm : (gs.drop f).take (t - f) = List.replicate (t - f) 0 := by
    rw [List.eq_replicate_iff]
    refine ⟨by simp; omega, fun x hx => ?_⟩
    obtain ⟨j, hj, rfl⟩ := List.getElem_of_mem hx
    have hj2 : j < t - f := by simp at hj; omega
    have := hz2 (f + j) (by omega) (by omega)
    rw [List.getElem_take, List.getElem_drop]
    exact (List.getElem?_eq_some_iff.1 this).2
  rw [← hm]
  have e : gs.drop t = (gs.drop f).drop (t - f) := by rw [List.drop_drop]; congr 1; omega
  rw [e, List.take_append_drop, List.take_append_drop]
theorem sixP_tell6 (gs : List Nat) (h8 : gs.length = 8) (hle : ∀ g ∈ gs, g ≤ 65535) : sixP (tell6 gs) = some gs := by
  have hr : ∀ g ∈ gs, grpP (hexD g) = some g := fun g hg => grpP_hexD g (hle g hg)
  have ht : ∀ g ∈ gs, hexD g ≠ [] ∧ (58 : UInt8) ∉ hexD g := fun g _ => hexD_ok g
  unfold tell6
  split
  · exact sixP_eight hexD gs h8 hr ht
  · rename_i hne
    obtain ⟨h1, h2⟩ := runP_le gs
    have hm := run_mid gs
    generalize (runP gs).1 = f at *
    generalize (runP gs).2 = t at *
    unfold sixP
    rw [show tellG (gs.take f) = Lib.join ((gs.take f).map hexD) [58] from rfl, cut_at _ _ (fun x hx => by rw [List.mem_map] at hx; obtain ⟨g, hg, rfl⟩ := hx; exact ht g (List.mem_of_mem_take hg))]
    rw [grpsP_join hexD (gs.take f) (by simp; omega) (fun g hg => hr g (List.mem_of_mem_take hg)) (fun g hg => ht g (List.mem_of_mem_take hg))]
    rw [show tellG (gs.drop t) = Lib.join ((gs.drop t).map hexD) [58] from rfl, grpsP_join hexD (gs.drop t) (by simp; omega) (fun g hg => hr g (List.mem_of_mem_drop hg)) (fun g hg => ht g (List.mem_of_mem_drop hg))]
    show sixG (gs.take f) (gs.drop t) true = some gs
    have hl1 : (gs.take f).length = f := by simp; omega
    have hl2 : (gs.drop t).length = 8 - t := by simp; omega
    unfold sixG
    rw [if_neg (by rw [hl1, hl2]; simp; omega), hl1, hl2, show 8 - f - (8 - t) = t - f from by omega, ← hm]

theorem adMk_ns (a : Ad) (x0 x1 x2 x3 x4 x5 x6 x7 : Nat) (h0 : a.g0 = x0) (h1 : a.g1 = x1) (h2 : a.g2 = x2) (h3 : a.g3 = x3) (h4 : a.g4 = x4) (h5 : a.g5 = x5) (h6 : a.g6 = x6) (h7 : a.g7 = x7) (p : Nat) (hp : a.p = p) :
    adMk a.f [x0, x1, x2, x3, x4, x5, x6, x7] p = a := by
  obtain ⟨f, g0, g1, g2, g3, g4, g5, g6, g7, q⟩ := a
  simp only at *
  subst h0 h1 h2 h3 h4 h5 h6 h7 hp
  rfl
/-- WHAT IS TOLD OF AN ADDRESS READS AS IT. -/
theorem parse_text (a : Ad) (h : mayP a = true) (ha : a.Ok) : parseP ⟨(textP a).toArray⟩ = some a := by
  obtain ⟨hfam, hp1, hp2⟩ := mayP_fam a h
  obtain ⟨x0, x1, x2, x3, x4, x5, x6, x7, e0, e1, e2, e3, e4, e5, e6, e7, hns, hle⟩ := a.nats ha
  obtain ⟨p, hp⟩ : ∃ p : Nat, a.p = p := ⟨a.p.toNat, by omega⟩
  have hpt : a.p.toNat = p := by omega
  unfold textP
  rw [hpt, hns]
  rw [hns] at hle
  rcases hfam with h4 | h6
  · have hz : a.g2 = 0 ∧ a.g3 = 0 ∧ a.g4 = 0 ∧ a.g5 = 0 ∧ a.g6 = 0 ∧ a.g7 = 0 := by
      simp only [mayP, mayG, h4, Bool.and_eq_true, beq_iff_eq, if_true, decide_eq_true_eq] at h
      obtain ⟨⟨⟨⟨⟨⟨⟨h2, h3⟩, h4⟩, h5⟩, h6⟩, h7⟩, _⟩, _⟩ := h
      exact ⟨h2, h3, h4, h5, h6, h7⟩
    have hR : hostR (hostP a.f [x0, x1, x2, x3, x4, x5, x6, x7]) = (4, some [x0, x1, 0, 0, 0, 0, 0, 0]) := by
      unfold hostP
      rw [if_pos h4]
      exact hostR_four x0 x1 (hle x0 (by simp)) (hle x1 (by simp))
    have hm : adMk 4 [x0, x1, 0, 0, 0, 0, 0, 0] p = a := by
      have := adMk_ns a x0 x1 0 0 0 0 0 0 e0 e1 hz.1 hz.2.1 hz.2.2.1 hz.2.2.2.1 hz.2.2.2.2.1 hz.2.2.2.2.2 p hp
      rwa [h4] at this
    have := parseP_of (hostP a.f [x0, x1, x2, x3, x4, x5, x6, x7]) p [x0, x1, 0, 0, 0, 0, 0, 0] (by omega) (by omega) (by rw [hR]) (by rw [hR, hm]; exact h)
    rw [this, hR, hm]
  · have hR : hostR (hostP a.f [x0, x1, x2, x3, x4, x5, x6, x7]) = (6, some [x0, x1, x2, x3, x4, x5, x6, x7]) := by
      unfold hostP
      rw [if_neg (by omega), hostR_six, sixP_tell6 _ rfl hle]
    have hm : adMk 6 [x0, x1, x2, x3, x4, x5, x6, x7] p = a := by
      have := adMk_ns a x0 x1 x2 x3 x4 x5 x6 x7 e0 e1 e2 e3 e4 e5 e6 e7 p hp
      rwa [h6] at this
    have := parseP_of (hostP a.f [x0, x1, x2, x3, x4, x5, x6, x7]) p [x0, x1, x2, x3, x4, x5, x6, x7] (by omega) (by omega) (by rw [hR]) (by rw [hR, hm]; exact h)
    rw [this, hR, hm]
theorem parse_may (s : ByteArray) (a : Ad) (h : parseP s = some a) : mayP a = true ∧ a.Ok := by
  unfold parseP at h
  split at h
  · cases h
  · obtain ⟨hok, hfam⟩ := hostR_ok (s.data.toList.take (Lib.lastIndexByte s 58).toNat)
    cases h1 : (hostR (s.data.toList.take (Lib.lastIndexByte s 58).toNat)).2 with
    | none => rw [h1] at h; cases h
    | some gs =>
      cases h2 : numP 65535 (s.data.toList.drop ((Lib.lastIndexByte s 58).toNat + 1)) with
      | none => rw [h1, h2] at h; cases h
      | some p =>
        rw [h1, h2] at h
        obtain ⟨hl, hle⟩ := hok gs h1
        have hpl := numP_le _ _ _ h2
        have h' : (if mayP (adMk (hostR (s.data.toList.take (Lib.lastIndexByte s 58).toNat)).1 gs p) = true then some (adMk (hostR (s.data.toList.take (Lib.lastIndexByte s 58).toNat)).1 gs p) else none) = some a := h
        split at h'
        · rename_i hm
          have e := Option.some.inj h'
          rw [e] at hm
          refine ⟨hm, ?_⟩
          rw [← e]
          obtain ⟨y0, y1, y2, y3, y4, y5, y6, y7, rfl⟩ := list8 gs hl
          have b0 := hle y0 (by simp)
          have b1 := hle y1 (by simp)
          have b2 := hle y2 (by simp)
          have b3 := hle y3 (by simp)
          have b4 := hle y4 (by simp)
          have b5 := hle y5 (by simp)
          have b6 := hle y6 (by simp)
          have b7 := hle y7 (by simp)
          unfold Ad.Ok adMk
          simp only [List.getD_cons_zero, List.getD_cons_succ]
          omega
        · cases h'
end Go.Proofs.YtbejnnkdgcelmaaGreatDoor.P
