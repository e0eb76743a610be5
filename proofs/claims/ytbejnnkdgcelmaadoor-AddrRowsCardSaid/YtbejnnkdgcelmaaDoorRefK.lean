/- The document's own rows. -/
import Derived.Test.YtbejnnkdgcelmaaDoorRefJ
import Derived.Test.YtbejnnkdgcelmaaDoorRowR
set_option linter.unusedSimpArgs false
set_option linter.unusedVariables false
namespace Go.Proofs.YtbejnnkdgcelmaaDoor
open Go.RowKit

theorem P.readP_cut (l : List UInt8) : P.readP l = if l = [] then some [] else if 16 < (P.cutP 32 l).length then none else P.adsF (P.cutP 32 l) := by
  unfold P.readP
  by_cases h : l = []
  · rw [if_pos h, if_pos h]
  · rw [if_neg h, if_neg h]
    rcases P.splitN_cut 32 l 17 (by omega) with ⟨h1, h2⟩ | ⟨h1, bad, hb, h2⟩
    · rw [h2]
    · rw [if_pos (show 16 < (P.cutP 32 l).length by omega), if_pos]
      rw [h2, List.length_append, List.length_take]; simp; omega

set_option maxHeartbeats 8000000 in
set_option maxRecDepth 100000 in
theorem refRead_any (s : ByteArray) (w : World) (hs : s.size ≤ 4000) :
    Calls Tryd.prog 12 #[.string s] w fun e w' => ∃ v, e = .returned (P.readV v (P.readP s.data.toList)) ∧
      w'.ownsRow w.heap.size 36 10 v ((P.readP s.data.toList).getD []).length (P.ads ((P.readP s.data.toList).getD [])) ∧ Below w.heap.size w w' := by
  obtain ⟨i0, hi, hz0, hz1, hz2⟩ := info_parts iAd
  have hlen : s.data.toList.length = s.size := by simp
  have hcut := P.readP_cut s.data.toList
  by_cases hz : s.size = 0
  · have hnil : s.data.toList = [] := List.length_eq_zero_iff.1 (by omega)
    have HN := Lib.hid (show P.readP s.data.toList = some [] by rw [hnil]; rfl)
    have he : s.toList.isEmpty = true := by rw [ByteArray.toList_eq, hnil]; rfl
    have he2 : s.toList = [] := by rw [ByteArray.toList_eq, hnil]
    clear hnil hcut
    go_enter Tryd.func12, Tryd.ntmps12
    go_wp2_with fail
    go_ret2
    rw [HN.out]
    exact ⟨_, rfl, World.ownsRow_nil _ _ _ _, Below.refl _ _⟩
  · have he : s.toList.isEmpty = false := by
      rw [ByteArray.toList_eq]
      cases h : s.data.toList with
      | nil => rw [h] at hlen; simp at hlen; omega
      | cons _ _ => rfl
    have hne : s.data.toList ≠ [] := by intro h; rw [h] at hlen; simp at hlen; omega
    rw [if_neg hne] at hcut
    obtain ⟨ps, hps⟩ : ∃ ps, P.cutP 32 s.data.toList = ps := ⟨_, rfl⟩
    have HS := cut_any s 32 w hs
    have hpl := P.cutP_len 32 s.data.toList
    have hsub : ∀ p ∈ ps, p.length ≤ 4000 := by
      intro p hp
      rw [← hps] at hp
      have := P.cutP_sub 32 _ p hp
      omega
    have HSub := Lib.hid hsub
    rw [hps] at hcut hpl
    rw [hps, show (((32 : UInt8).toNat : Nat) : Int) = 32 from rfl] at HS
    rw [hlen] at hpl
    have HS2 := Lib.hid HS
    by_cases h16 : 16 < ps.length
    · rw [if_pos h16] at hcut
      have HN := Lib.hid hcut
      clear hne hlen hps HS hsub hcut
      go_enter Tryd.func12, Tryd.ntmps12
      go_wp2_with fail
      with_reducible refine HS2.out.mono ?_
      rintro e w1 ⟨v1, rfl, hown1, hb1⟩
      obtain ⟨a1, k1, rfl⟩ := row_form hown1
      clear hown1 HS2
      go_wp2_with fail
      go_ret2
      rw [HN.out]
      exact ⟨_, rfl, World.ownsRow_nil _ _ _ _, hb1⟩
    · rw [if_neg h16] at hcut
      have HN := Lib.hid hcut
      clear hne hlen hps HS hsub hcut
      go_enter Tryd.func12, Tryd.ntmps12
      go_wp2_with fail
      with_reducible refine HS2.out.mono ?_
      rintro e w1 ⟨v1, rfl, hown1, hb1⟩
      obtain ⟨g1, cap, rfl, hg1, hB1, hTS⟩ := own_tsAt hown1 (by omega)
      have HTS := Lib.hid hTS
      have hbs1 := hb1.size
      clear hTS HS2 hown1
      go_wp2_with fail
      go_loopw [5, 6] (fun u5 i wr => ∃ (k : Nat) (gs : List Ad), i = .int .i64 k ∧ k ≤ ps.length ∧ gs.length = k ∧ Below w1.heap.size w1 wr ∧ wr.ownsRow w1.heap.size 36 10 u5 k (P.ads gs) ∧ Hid ((P.adsF (ps.drop k)).map (gs ++ ·) = P.adsF ps)) (fun _ i _ => ps.length - (intOf i).toNat)
      case atStart => exact ⟨0, [], rfl, by omega, rfl, Below.refl _ _, World.ownsRow_nil _ _ _ _, Lib.hid (by simp)⟩
      case round =>
        obtain ⟨k, gs, rfl, hk, hgl, hbw, hown, hc⟩ := hrel
        have hbs := hbw.size
        have hb2 := hb1.trans (hbw.mono hbs1)
        by_cases hlt : k < ps.length
        · obtain ⟨p, hp⟩ : ∃ p, ps[k]? = some p := ⟨_, List.getElem?_eq_getElem hlt⟩
          have hcell := (HTS.out.below hbw hB1) k p hp
          rw [Nat.zero_add] at hcell
          have hpd : ps.drop k = p :: ps.drop (k + 1) := by rw [List.drop_eq_getElem_cons hlt, (List.getElem?_eq_some_iff.1 hp).2]
          have hD := hc.out
          rw [hpd] at hD
          have HR := Lib.hid (refParse_any ⟨p.toArray⟩ wr (by rw [show (⟨p.toArray⟩ : ByteArray).size = p.length from by simp [ByteArray.size]]; exact HSub.out p (List.mem_of_getElem? hp)))
          clear hp hpd hc
          cases hg : P.parseP ⟨p.toArray⟩ with
          | none =>
            rw [hg] at HR
            rw [P.adsF_none _ _ hg] at hD
            have HD := Lib.hid hD
            clear hD hg
            generalize (⟨p.toArray⟩ : ByteArray) = S at *
            simp only [P.parseV, Option.getD_none, Option.isSome_none, Ad.zero, Ad.v, Ad.enc] at HR
            go_wp2_with fail
            with_reducible refine HR.out.mono ?_
            rintro e w2 ⟨rfl, hb3⟩
            go_wp2_with fail
            go_ret2
            refine ⟨.slice none 0 0, ?_, ?_, (hb2.trans (hb3.mono hb2.size)).alloc (hb2.trans (hb3.mono hb2.size)).size _⟩
            · rw [HN.out, ← HD.out]; rfl
            · rw [HN.out, ← HD.out]; exact World.ownsRow_nil _ _ _ _
          | some x =>
            rw [hg] at HR
            rw [P.adsF_some _ _ _ hg] at hD
            have HD := Lib.hid (show (P.adsF (ps.drop (k + 1))).map ((gs ++ [x]) ++ ·) = P.adsF ps by
              rw [← hD, Option.map_map]; congr 1; funext x; simp)
            have HT := Lib.hid (show P.ads (gs ++ [x]) = P.ads gs ++ x.enc by rw [P.ads_append, P.ads_one])
            clear hD hg
            generalize (⟨p.toArray⟩ : ByteArray) = S at *
            simp only [P.parseV, Option.getD_some, Option.isSome_some, Ad.v, Ad.enc, if_true] at HR
            have HE1 := Lib.hid x.enc_one
            go_wp2_with fail
            with_reducible refine HR.out.mono ?_
            rintro e w2 ⟨rfl, hb3⟩
            have hown2 := own_below' hown hb3
            have hb4 := hbw.trans (hb3.mono hbs)
            have hbs4 := hb4.size
            have HN2 := Lib.hid (show ∀ (j : Nat) (u : Value), x.enc[j]? = some u → ((w2.alloc (Obj.cells #[.int .i8 x.f, .int .u16 x.g0, .int .u16 x.g1, .int .u16 x.g2, .int .u16 x.g3, .int .u16 x.g4, .int .u16 x.g5, .int .u16 x.g6, .int .u16 x.g7, .int .i64 x.p] 36)).alloc (Obj.cells #[.int .i8 x.f, .int .u16 x.g0, .int .u16 x.g1, .int .u16 x.g2, .int .u16 x.g3, .int .u16 x.g4, .int .u16 x.g5, .int .u16 x.g6, .int .u16 x.g7, .int .i64 x.p] 36)).cell? ((⟨w2.heap.size + 1, 0, none⟩ : Addr).add j) = some u by
              intro j u hu
              have h := cells_new (w2.alloc (Obj.cells #[.int .i8 x.f, .int .u16 x.g0, .int .u16 x.g1, .int .u16 x.g2, .int .u16 x.g3, .int .u16 x.g4, .int .u16 x.g5, .int .u16 x.g6, .int .u16 x.g7, .int .i64 x.p] 36)) 36 x.enc #[.int .i8 x.f, .int .u16 x.g0, .int .u16 x.g1, .int .u16 x.g2, .int .u16 x.g3, .int .u16 x.g4, .int .u16 x.g5, .int .u16 x.g6, .int .u16 x.g7, .int .i64 x.p] rfl j u hu
              rwa [World.size_alloc] at h)
            go_wp2_with (at_builtin; refine wpList_append_own _ rfl _ _ 22 rfl w1.heap.size 36 i0 Ad.zero.v 10 32 Tryd.underlying22 hi hz0 hz1 hz2 rfl (by decide) _ _ _ rfl ((hown2.alloc _).alloc _) ⟨w2.heap.size + 1, 0, none⟩ 1 1 x.enc rfl rfl HN2.out HE1.out (by unfold maxLen; omega) (by omega) (by simp; omega) ?_; intro v' w' hown' hgrow' _)
            go_roundw
            case rel => exact ⟨k + 1, gs ++ [x], by go_num, by omega, by simp [hgl], ((hb4.alloc hb4.size _).alloc (hb4.alloc hb4.size _).size _).grown hgrow' (by simp; omega) (fun k hk => (hown2.lt k hk).1), by rw [HT.out]; exact hown', HD⟩
            case measure => simp [intOf]; omega
        · obtain rfl : k = ps.length := by omega
          have hD := hc.out
          rw [List.drop_length, P.adsF] at hD
          have HD := Lib.hid hD
          clear hD hc
          go_wp2_with fail
          go_ret2
          refine ⟨u5, by rw [HN.out, ← HD.out]; rfl, ?_, hb2⟩
          rw [HN.out, ← HD.out]
          simp only [Option.map_some, List.append_nil, Option.getD_some]
          rw [hgl]
          exact hown.mono hbs1

theorem P.row_step0 (l : List Ad) (x : Ad) (h : l[0]? = some x) : Lib.join ((l.take 1).map P.textP) [32] = P.textP x := by
  cases l with
  | nil => simp at h
  | cons a l => simp at h; subst h; rw [List.take_succ_cons, List.take_zero, List.map_cons, List.map_nil, Lib.join_cons]; simp [Lib.joinTail]
theorem P.row_step (l : List Ad) (k : Nat) (x : Ad) (hk : 0 < k) (hl : k < l.length) (h : l[k]? = some x) : Lib.join ((l.take (k + 1)).map P.textP) [32] = Lib.join ((l.take k).map P.textP) [32] ++ ([32] ++ P.textP x) := by
  rw [List.take_add_one, h]
  simp only [Option.toList, List.map_append, List.map_cons, List.map_nil]
  rw [P.join_snoc 32 _ _ (by
    intro e
    have := congrArg List.length e
    rw [List.length_map, List.length_take, List.length_nil] at this
    omega)]
  rfl
theorem P.row_size (l : List Ad) (k : Nat) (hm : l.all mayP = true) (hok : ∀ x ∈ l, x.Ok) : (Lib.join ((l.take k).map P.textP) [32]).length ≤ k * 126 := by
  have h := P.join_le 32 125 ((l.take k).map P.textP) (fun t ht => by
    obtain ⟨x, hx, rfl⟩ := List.mem_map.1 ht
    have hx2 := List.mem_of_mem_take hx
    exact P.text_len x (hok x hx2) (List.all_eq_true.1 hm x hx2))
  rw [List.length_map, List.length_take] at h
  have h2 : min k l.length * (125 + 1) ≤ k * 126 := Nat.mul_le_mul_right _ (by omega)
  omega

set_option maxHeartbeats 8000000 in
set_option maxRecDepth 100000 in
theorem refRow_any (l : List Ad) (a : Option Addr) (c : Nat) (w : World) (hl : l.length ≤ 100000) (hA : RowAt w a l) (hok : ∀ x ∈ l, x.Ok) :
    Calls Tryd.prog 10 #[.slice a l.length c] w fun e w' => e = .returned (P.rowV (P.rowP l)) ∧ Below w.heap.size w w' := by
  by_cases h16 : 16 < l.length
  · have HN := Lib.hid (P.rowP_no l (Or.inl h16))
    clear hA hok
    go_enter Tryd.func10, Tryd.ntmps10
    go_wp2_with fail
    go_ret2
    exact ⟨by rw [HN.out]; rfl, Below.refl _ _⟩
  · have HM := Lib.hid (refMay_any l a c w hl hA)
    have HA := Lib.hid hA
    have HOk := Lib.hid hok
    clear hA hok
    cases hm : l.all mayP with
    | false =>
      rw [hm] at HM
      have HN := Lib.hid (P.rowP_no l (Or.inr hm))
      clear hm
      go_enter Tryd.func10, Tryd.ntmps10
      go_wp2_with fail
      with_reducible refine HM.out.mono ?_
      rintro e w1 ⟨rfl, hb1⟩
      go_wp2_with fail
      go_ret2
      exact ⟨by rw [HN.out]; rfl, hb1⟩
    | true =>
      rw [hm] at HM
      have HN := Lib.hid (P.rowP_yes l (by omega) hm)
      have HMy := Lib.hid hm
      have HSz := Lib.hid (fun k => P.row_size l k hm HOk.out)
      have HTx := Lib.hid (fun x => refText_yes x)
      simp only [Ad.v, Ad.enc] at HTx
      clear hm
      have hs32 : (⟨#[32]⟩ : ByteArray).size = 1 := rfl
      go_enter Tryd.func10, Tryd.ntmps10
      go_wp2_with fail
      with_reducible refine HM.out.mono ?_
      rintro e w1 ⟨rfl, hb1⟩
      have HB1 := Lib.hid hb1
      clear hb1 HM
      go_wp2_with fail
      go_loopw [4, 5] (fun u4 u5 wr => ∃ (k : Nat) (S : ByteArray), u5 = .int .i64 k ∧ u4 = .string S ∧ k ≤ l.length ∧ Below w1.heap.size w1 wr ∧ S.size ≤ 3000 ∧ Hid (S = ⟨(Lib.join ((l.take k).map P.textP) [32]).toArray⟩)) (fun _ u5 _ => l.length - (intOf u5).toNat)
      case atStart => exact ⟨0, ⟨#[]⟩, rfl, rfl, by omega, Below.refl _ _, by decide, Lib.hid (by rw [List.take_zero, List.map_nil, Lib.join_nil])⟩
      case round =>
        obtain ⟨k, S, rfl, rfl, hk, hbw, hS, hSe⟩ := hrel
        have HBr := Lib.hid (HB1.out.trans (hbw.mono HB1.out.size))
        by_cases hlt : k < l.length
        · obtain ⟨b, o, rfl, hb, hat⟩ := (HA.out.below HBr.out) (by omega)
          obtain ⟨x, hx⟩ : ∃ x, l[k]? = some x := ⟨_, List.getElem?_eq_getElem hlt⟩
          obtain ⟨c0, c1, c2, c3, c4, c5, c6, c7, c8, c9⟩ := hat.cells k x hx
          have hxm := List.mem_of_getElem? hx
          have HX := Lib.hid (HTx.out x wr (List.all_eq_true.1 HMy.out x hxm) (HOk.out x hxm))
          have htl : (⟨(P.textP x).toArray⟩ : ByteArray).size ≤ 125 := by rw [size_of_list]; exact P.text_len x (HOk.out x hxm) (List.all_eq_true.1 HMy.out x hxm)
          have hSk : S.size ≤ 16 * 126 := by rw [hSe.out, size_of_list]; have := HSz.out k; omega
          have hS1 : (S ++ ⟨#[32]⟩).size ≤ 16 * 126 + 1 := by rw [ByteArray.size_append, hs32]; omega
          by_cases h0 : 0 < k
          · have HEQ := Lib.hid (show S ++ ⟨#[32]⟩ ++ ⟨(P.textP x).toArray⟩ = ⟨(Lib.join ((l.take (k + 1)).map P.textP) [32]).toArray⟩ by
              rw [P.row_step l k x h0 hlt hx, hSe.out, show (⟨#[32]⟩ : ByteArray) = ⟨([32] : List UInt8).toArray⟩ from rfl, str_app, str_app]; simp)
            clear hat hx hxm hSe
            generalize (⟨(P.textP x).toArray⟩ : ByteArray) = TX at *
            go_wp2_with fail
            with_reducible refine HX.out.mono ?_
            rintro e w3 ⟨rfl, hb3⟩
            go_wp2_with fail
            go_roundw
            case rel => exact ⟨k + 1, S ++ ⟨#[32]⟩ ++ TX, by go_num, rfl, by omega, hbw.trans (hb3.mono hbw.size), by rw [ByteArray.size_append]; omega, HEQ⟩
            case measure => simp [intOf]; omega
          · obtain rfl : k = 0 := by omega
            simp only [Nat.zero_mul, Nat.add_zero] at c0 c1 c2 c3 c4 c5 c6 c7 c8 c9
            have HEQ := Lib.hid (show S ++ ⟨(P.textP x).toArray⟩ = ⟨(Lib.join ((l.take (0 + 1)).map P.textP) [32]).toArray⟩ by
              rw [P.row_step0 l x hx, hSe.out, List.take_zero, List.map_nil, Lib.join_nil]; exact str_app [] _)
            clear hat hx hxm hSe
            generalize (⟨(P.textP x).toArray⟩ : ByteArray) = TX at *
            go_wp2_with fail
            with_reducible refine HX.out.mono ?_
            rintro e w3 ⟨rfl, hb3⟩
            go_wp2_with fail
            go_roundw
            case rel => exact ⟨0 + 1, S ++ TX, by go_num, rfl, by omega, hbw.trans (hb3.mono hbw.size), by rw [ByteArray.size_append]; omega, HEQ⟩
            case measure => simp [intOf]; omega
        · obtain rfl : k = l.length := by omega
          have HEQ := Lib.hid (show S = ⟨(Lib.join (l.map P.textP) [32]).toArray⟩ by rw [hSe.out, List.take_length])
          clear hSe
          go_wp2_with fail
          go_ret2
          exact ⟨by rw [HN.out, HEQ.out]; rfl, HBr.out⟩
end Go.Proofs.YtbejnnkdgcelmaaDoor
