/- Read: a text, read as a row of addresses. -/
import Derived.Test.YtbejnnkdgcelmaaDoorRowT
set_option linter.unusedSimpArgs false
set_option linter.unusedVariables false
namespace Go.Proofs.YtbejnnkdgcelmaaDoor
open Go.RowKit
theorem P.readP_none (s ps : List UInt8) (h : s ≠ []) (hl : 16 < (Lib.splitN s [32] 17).length) : P.readP s = none := by unfold P.readP; rw [if_neg h, if_pos hl]
theorem P.readP_some (s : List UInt8) (h : s ≠ []) (hl : ¬16 < (Lib.splitN s [32] 17).length) : P.readP s = P.adsF (Lib.splitN s [32] 17) := by unfold P.readP; rw [if_neg h, if_neg hl]

def P.readV (v : Value) (o : Option (List Ad)) : Value := .tuple #[v, .int .i64 (if o.isSome then 0 else 20)]
set_option maxHeartbeats 8000000 in
set_option maxRecDepth 1000000 in
theorem read_any (s : ByteArray) (w : World) (hs : s.size ≤ 4000) (hE : Env w) :
    Calls Tryd.prog 11 #[.string s] w fun e w' => ∃ v, e = .returned (P.readV v (P.readP s.data.toList)) ∧
      w'.ownsRow w.heap.size 36 10 v ((P.readP s.data.toList).getD []).length (P.ads ((P.readP s.data.toList).getD [])) ∧ Below w.heap.size w w' := by
  obtain ⟨i0, hi, hz0, hz1, hz2⟩ := info_parts iAd
  have hlen : s.data.toList.length = s.size := by simp
  by_cases hz : s.size = 0
  · have hnil : s.data.toList = [] := List.length_eq_zero_iff.1 (by omega)
    have HN := Lib.hid (show P.readP s.data.toList = some [] by rw [hnil]; rfl)
    have he : s.toList.isEmpty = true := by rw [ByteArray.toList_eq, hnil]; rfl
    clear hnil
    go_enter Tryd.func11, Tryd.ntmps11
    go_wp2_with fail
    go_ret2
    rw [HN.out]
    exact ⟨_, rfl, World.ownsRow_nil _ _ _ _, Below.refl _ _⟩
  · have he : s.toList.isEmpty = false := by
      rw [ByteArray.toList_eq]
      cases h : s.data.toList with
      | nil => rw [h] at hlen; simp at hlen; omega
      | cons _ _ => rfl
    have hne : s.data.toList ≠ [] := by intro h; rw [h] at hlen; simp at hlen; omega
    obtain ⟨ps, hps⟩ : ∃ ps, Lib.splitN s.data.toList [32] 17 = ps := ⟨_, rfl⟩
    have HS := splitN_any s 32 17 w hs (by omega) (by omega) hE
    have hpl := P.splitN_len s.data.toList [32] 17 (by omega)
    have hsub : ∀ p ∈ ps, p.length ≤ 4000 := by
      intro p hp
      rw [← hps] at hp
      have := P.splitK_sub [32] _ _ p hp
      omega
    have HSub := Lib.hid hsub
    have HE := Lib.hid hE
    by_cases h16 : 16 < ps.length
    · have HN := Lib.hid (P.readP_none s.data.toList [] hne (by rw [hps]; exact h16))
      rw [hps, show ((17 : Nat) : Int) = 17 from rfl] at HS
      rw [hps] at hpl
      have HS2 := Lib.hid HS
      clear hne hlen hps HS hsub hE
      go_enter Tryd.func11, Tryd.ntmps11
      go_wp2_with fail
      with_reducible refine HS2.out.mono ?_
      rintro e w1 ⟨cap, rfl, hTS, hB1, hb1⟩
      clear hTS HS2
      go_wp2_with fail
      go_ret2
      rw [HN.out]
      exact ⟨_, rfl, World.ownsRow_nil _ _ _ _, hb1⟩
    · have HN := Lib.hid (show P.readP s.data.toList = P.adsF ps by rw [P.readP_some s.data.toList hne (by rw [hps]; exact h16), hps])
      rw [hps, show ((17 : Nat) : Int) = 17 from rfl] at HS
      rw [hps] at hpl
      have HS2 := Lib.hid HS
      clear hne hlen hps HS hsub hE
      go_enter Tryd.func11, Tryd.ntmps11
      go_wp2_with fail
      with_reducible refine HS2.out.mono ?_
      rintro e w1 ⟨cap, rfl, hTS, hB1, hb1⟩
      have HTS := Lib.hid hTS
      have hbs1 := hb1.size
      clear hTS HS2
      go_wp2_with fail
      go_loopw [5, 19] (fun u5 i wr => ∃ (k : Nat) (gs : List Ad), i = .int .i64 k ∧ k ≤ ps.length ∧ gs.length = k ∧ Below w1.heap.size w1 wr ∧ wr.ownsRow w1.heap.size 36 10 u5 k (P.ads gs) ∧ Hid ((P.adsF (ps.drop k)).map (gs ++ ·) = P.adsF ps)) (fun _ i _ => ps.length - (intOf i).toNat)
      case atStart => exact ⟨0, [], rfl, by omega, rfl, Below.refl _ _, World.ownsRow_nil _ _ _ _, Lib.hid (by simp)⟩
      case round =>
        obtain ⟨k, gs, rfl, hk, hgl, hbw, hown, hc⟩ := hrel
        have hbs := hbw.size
        have hb2 := hb1.trans (hbw.mono hbs1)
        by_cases hlt : k < ps.length
        · obtain ⟨p, hp⟩ : ∃ p, ps[k]? = some p := ⟨_, List.getElem?_eq_getElem hlt⟩
          have hcell := (HTS.out.below hbw hB1) k p hp
          rw [Nat.zero_add] at hcell
          have hpd : ps.drop k = p :: ps.drop (k + 1) := by rw [List.drop_eq_getElem_cons hlt, (List.getElem?_eq_some_iff.1 hp).2]
          have hD := hc.out
          rw [hpd] at hD
          have HR := Lib.hid (parse_any ⟨p.toArray⟩ wr (by rw [show (⟨p.toArray⟩ : ByteArray).size = p.length from by simp [ByteArray.size]]; exact HSub.out p (List.mem_of_getElem? hp)) (HE.out.below hb2))
          clear hp hpd hc
          cases hg : P.parseP ⟨p.toArray⟩ with
          | none =>
            rw [hg] at HR
            rw [P.adsF_none _ _ hg] at hD
            have HD := Lib.hid hD
            clear hD hg
            generalize (⟨p.toArray⟩ : ByteArray) = S at *
            simp only [P.parseV, Option.getD_none, Option.isSome_none, Ad.zero, Ad.v, Ad.enc] at HR
            go_wp2_with fail
            with_reducible refine HR.out.mono ?_
            rintro e w2 ⟨rfl, hb3⟩
            go_wp2_with fail
            go_ret2
            refine ⟨.slice none 0 0, ?_, ?_, (hb2.trans (hb3.mono hb2.size)).alloc (hb2.trans (hb3.mono hb2.size)).size _⟩
            · rw [HN.out, ← HD.out]; rfl
            · rw [HN.out, ← HD.out]; exact World.ownsRow_nil _ _ _ _
          | some x =>
            rw [hg] at HR
            rw [P.adsF_some _ _ _ hg] at hD
            have HD := Lib.hid (show (P.adsF (ps.drop (k + 1))).map ((gs ++ [x]) ++ ·) = P.adsF ps by
              rw [← hD, Option.map_map]; congr 1; funext x; simp)
            have HT := Lib.hid (show P.ads (gs ++ [x]) = P.ads gs ++ x.enc by rw [P.ads_append, P.ads_one])
            clear hD hg
            generalize (⟨p.toArray⟩ : ByteArray) = S at *
            simp only [P.parseV, Option.getD_some, Option.isSome_some, Ad.v, Ad.enc, if_true] at HR
            have HE1 := Lib.hid x.enc_one
            go_wp2_with fail
            with_reducible refine HR.out.mono ?_
            rintro e w2 ⟨rfl, hb3⟩
            have hown2 := own_below' hown hb3
            have hb4 := hbw.trans (hb3.mono hbs)
            have hbs4 := hb4.size
            have HN2 := Lib.hid (show ∀ (j : Nat) (u : Value), x.enc[j]? = some u → ((w2.alloc (Obj.cells #[.int .i8 x.f, .int .u16 x.g0, .int .u16 x.g1, .int .u16 x.g2, .int .u16 x.g3, .int .u16 x.g4, .int .u16 x.g5, .int .u16 x.g6, .int .u16 x.g7, .int .i64 x.p] 36)).alloc (Obj.cells #[.int .i8 x.f, .int .u16 x.g0, .int .u16 x.g1, .int .u16 x.g2, .int .u16 x.g3, .int .u16 x.g4, .int .u16 x.g5, .int .u16 x.g6, .int .u16 x.g7, .int .i64 x.p] 36)).cell? ((⟨w2.heap.size + 1, 0, none⟩ : Addr).add j) = some u by
              intro j u hu
              have h := cells_new (w2.alloc (Obj.cells #[.int .i8 x.f, .int .u16 x.g0, .int .u16 x.g1, .int .u16 x.g2, .int .u16 x.g3, .int .u16 x.g4, .int .u16 x.g5, .int .u16 x.g6, .int .u16 x.g7, .int .i64 x.p] 36)) 36 x.enc #[.int .i8 x.f, .int .u16 x.g0, .int .u16 x.g1, .int .u16 x.g2, .int .u16 x.g3, .int .u16 x.g4, .int .u16 x.g5, .int .u16 x.g6, .int .u16 x.g7, .int .i64 x.p] rfl j u hu
              rwa [World.size_alloc] at h)
            go_wp2_with (at_builtin; refine wpList_append_own _ rfl _ _ 22 rfl w1.heap.size 36 i0 Ad.zero.v 10 32 Tryd.underlying22 hi hz0 hz1 hz2 rfl (by decide) _ _ _ rfl ((hown2.alloc _).alloc _) ⟨w2.heap.size + 1, 0, none⟩ 1 1 x.enc rfl rfl HN2.out HE1.out (by unfold maxLen; omega) (by omega) (by simp; omega) ?_; intro v' w' hown' hgrow' _)
            go_roundw
            case rel => exact ⟨k + 1, gs ++ [x], by go_num, by omega, by simp [hgl], ((hb4.alloc hb4.size _).alloc (hb4.alloc hb4.size _).size _).grown hgrow' (by simp; omega) (fun k hk => (hown2.lt k hk).1), by rw [HT.out]; exact hown', HD⟩
            case measure => simp [intOf]; omega
        · obtain rfl : k = ps.length := by omega
          have hD := hc.out
          rw [List.drop_length, P.adsF] at hD
          have HD := Lib.hid hD
          clear hD hc
          go_wp2_with fail
          go_ret2
          refine ⟨u5, by rw [HN.out, ← HD.out]; rfl, ?_, hb2⟩
          rw [HN.out, ← HD.out]
          simp only [Option.map_some, List.append_nil, Option.getD_some]
          rw [hgl]
          exact hown.mono hbs1
end Go.Proofs.YtbejnnkdgcelmaaDoor
