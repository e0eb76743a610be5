/- The document's own groups, read. -/
import Derived.Test.YtbejnnkdgcelmaaGreatDoorRefC
set_option linter.unusedSimpArgs false
set_option linter.unusedVariables false
namespace Go.Proofs.YtbejnnkdgcelmaaGreatDoor
open Go.RowKit

theorem P.cutF_sub (c : UInt8) : ∀ (l cur : List UInt8), ∀ p ∈ P.cutF c cur l, p.length ≤ cur.length + l.length
  | [], cur, p, h => by
    simp [P.cutF] at h; subst h; simp
  | b :: l, cur, p, h => by
    unfold P.cutF at h
    split at h
    · rcases List.mem_cons.1 h with rfl | h
      · omega
      · have := P.cutF_sub c l [] p h; simp at this ⊢; omega
    · have := P.cutF_sub c l (cur ++ [b]) p h; simp at this ⊢; omega
theorem P.cutP_sub (c : UInt8) (l : List UInt8) : ∀ p ∈ P.cutP c l, p.length ≤ l.length := fun p h => by
  have := P.cutF_sub c l [] p h; simpa using this
theorem own_tsAt {w : World} {base : Nat} {v : Value} {ps : List (List UInt8)} (h : w.ownsRow base 9 1 v ps.length (P.strs ps)) (hp : 0 < ps.length) :
    ∃ g cap, v = .slice (some ⟨g, 0, none⟩) ps.length cap ∧ base ≤ g ∧ g < w.heap.size ∧ TsAt w g 0 ps := by
  obtain ⟨g, cap, hv, hg, hgs, hcap, hc⟩ := row_cell h hp
  refine ⟨g, cap, hv, hg, hgs, fun j p hj => ?_⟩
  have hlt := (List.getElem?_eq_some_iff.1 hj).1
  rw [Nat.zero_add, hc j (by omega)]
  simp [P.strs, hj]

set_option maxHeartbeats 4000000 in
set_option maxRecDepth 100000 in
theorem groups_any (s : ByteArray) (w : World) (hs : s.size ≤ 4000) :
    Calls Tryz.prog 50 #[.string s] w fun e w' => ∃ v, e = .returned (.tuple #[v, .bool (P.grpsR s.data.toList).isSome]) ∧
      w'.ownsRow w.heap.size 23 1 v ((P.grpsR s.data.toList).getD []).length (P.u16s ((P.grpsR s.data.toList).getD [])) ∧ Below w.heap.size w w' := by
  obtain ⟨i0, hi, hz0, hz1, hz2⟩ := info_parts iU16
  have hlen : s.data.toList.length = s.size := by simp
  by_cases hz : s.size = 0
  · have hnil : s.data.toList = [] := List.length_eq_zero_iff.1 (by omega)
    have HN := Lib.hid (show P.grpsR s.data.toList = some [] by rw [hnil]; rfl)
    have he : s.toList.isEmpty = true := by rw [ByteArray.toList_eq, hnil]; rfl
    have he2 : s.toList = [] := by rw [ByteArray.toList_eq, hnil]
    clear hnil
    go_enter Tryz.func50, Tryz.ntmps50
    go_wp2_with fail
    go_ret2
    rw [HN.out]
    exact ⟨_, rfl, World.ownsRow_nil _ _ _ _, Below.refl _ _⟩
  · have he : s.toList.isEmpty = false := by
      rw [ByteArray.toList_eq]
      cases h : s.data.toList with
      | nil => rw [h] at hlen; simp at hlen; omega
      | cons _ _ => rfl
    have hne : s.data.toList ≠ [] := by intro h; rw [h] at hlen; simp at hlen; omega
    obtain ⟨ps, hps⟩ : ∃ ps, P.cutP 58 s.data.toList = ps := ⟨_, rfl⟩
    have HN := Lib.hid (show P.grpsR s.data.toList = P.grpsF ps by unfold P.grpsR; rw [if_neg hne, hps])
    have HS := cut_any s 58 w hs
    have hpl := P.cutP_len 58 s.data.toList
    have hsub : ∀ p ∈ ps, p.length ≤ 4000 := by
      intro p hp
      rw [← hps] at hp
      have := P.cutP_sub 58 _ p hp
      omega
    rw [hps, show (((58 : UInt8).toNat : Nat) : Int) = 58 from rfl] at HS
    rw [hps, hlen] at hpl
    have HSub := Lib.hid hsub
    have HS2 := Lib.hid HS
    clear hne hlen hps HS hsub
    go_enter Tryz.func50, Tryz.ntmps50
    go_wp2_with fail
    with_reducible refine HS2.out.mono ?_
    rintro e w1 ⟨v1, rfl, hown1, hb1⟩
    obtain ⟨g1, cap, rfl, hg1, hB1, hTS⟩ := own_tsAt hown1 (by omega)
    have HTS := Lib.hid hTS
    have hbs1 := hb1.size
    clear hTS HS2 hown1
    go_wp2_with fail
    go_loopw [4, 6] (fun u2 i wr => ∃ (k : Nat) (gs : List Nat), i = .int .i64 k ∧ k ≤ ps.length ∧ gs.length = k ∧ Below w1.heap.size w1 wr ∧ wr.ownsRow w1.heap.size 23 1 u2 k (P.u16s gs) ∧ Hid ((P.grpsF (ps.drop k)).map (gs ++ ·) = P.grpsF ps)) (fun _ i _ => ps.length - (intOf i).toNat)
    case atStart => exact ⟨0, [], rfl, by omega, rfl, Below.refl _ _, World.ownsRow_nil _ _ _ _, Lib.hid (by simp)⟩
    case round =>
      obtain ⟨k, gs, rfl, hk, hgl, hbw, hown, hc⟩ := hrel
      have hbs := hbw.size
      have hb2 := hb1.trans (hbw.mono hbs1)
      by_cases hlt : k < ps.length
      · obtain ⟨p, hp⟩ : ∃ p, ps[k]? = some p := ⟨_, List.getElem?_eq_getElem hlt⟩
        have hcell := (HTS.out.below hbw hB1) k p hp
        rw [Nat.zero_add] at hcell
        have hpd : ps.drop k = p :: ps.drop (k + 1) := by rw [List.drop_eq_getElem_cons hlt, (List.getElem?_eq_some_iff.1 hp).2]
        have hD := hc.out
        rw [hpd] at hD
        have HR := Lib.hid (hex_any ⟨p.toArray⟩ wr (by rw [show (⟨p.toArray⟩ : ByteArray).size = p.length from by simp [ByteArray.size]]; exact HSub.out p (List.mem_of_getElem? hp)))
        rw [show (⟨p.toArray⟩ : ByteArray).data.toList = p from by simp] at HR
        clear hp hpd hc
        generalize (⟨p.toArray⟩ : ByteArray) = S at *
        have HGL := Lib.hid hgl
        clear hgl
        cases hg : P.grpP p with
        | none =>
          rw [hg] at HR
          rw [grpsF_none _ _ hg] at hD
          have HD := Lib.hid hD
          clear hD hg
          go_wp2_with fail
          with_reducible refine HR.out.mono ?_
          rintro e w2 ⟨rfl, rfl⟩
          simp only [P.grpV, Option.isSome_none]
          go_wp2_with fail
          go_ret2
          refine ⟨.slice none 0 0, ?_, ?_, hb2⟩
          · rw [HN.out, ← HD.out]; rfl
          · rw [HN.out, ← HD.out]; exact World.ownsRow_nil _ _ _ _
        | some g =>
          rw [hg] at HR
          rw [grpsF_cons _ _ _ hg] at hD
          have HD := Lib.hid (show (P.grpsF (ps.drop (k + 1))).map ((gs ++ [g]) ++ ·) = P.grpsF ps by
            rw [← hD, Option.map_map]; congr 1; funext x; simp)
          have HT := Lib.hid (show P.u16s (gs ++ [g]) = P.u16s gs ++ [.int .u16 g] by simp [P.u16s])
          clear hD hg
          go_wp2_with fail
          with_reducible refine HR.out.mono ?_
          rintro e w2 ⟨rfl, rfl⟩
          simp only [P.grpV, Option.getD_some, Option.isSome_some]
          go_wp2_with (at_builtin; refine wpList_append_own _ rfl _ _ 62 rfl w1.heap.size 23 i0 (.int .u16 0) 1 2 Tryz.underlying62 hi hz0 hz1 hz2 rfl (by decide) _ _ _ rfl (hown.alloc _) ⟨wr.heap.size, 0, none⟩ 1 1 _ rfl rfl (cell_one_new _ _ _) (by intro u hu; simp at hu; subst hu; rfl) (by unfold maxLen; omega) (by omega) (by simp; omega) ?_; intro v' w' hown' hgrow' _)
          go_roundw
          case rel => exact ⟨k + 1, gs ++ [g], by go_num, by omega, by simp [HGL.out], (hbw.alloc hbw.size _).grown hgrow' (by simp; omega) (fun k hk => (hown.lt k hk).1), by rw [HT.out]; exact hown', HD⟩
          case measure => simp [intOf]; omega
      · obtain rfl : k = ps.length := by omega
        have hD := hc.out
        rw [List.drop_length, P.grpsF] at hD
        have HD := Lib.hid hD
        clear hD hc
        have HGL := Lib.hid hgl
        clear hgl
        go_wp2_with fail
        go_ret2
        refine ⟨u4, by rw [HN.out, ← HD.out]; rfl, ?_, hb2⟩
        rw [HN.out, ← HD.out]
        simp only [Option.map_some, List.append_nil, Option.getD_some]
        rw [HGL.out]
        exact hown.mono hbs1
end Go.Proofs.YtbejnnkdgcelmaaGreatDoor
