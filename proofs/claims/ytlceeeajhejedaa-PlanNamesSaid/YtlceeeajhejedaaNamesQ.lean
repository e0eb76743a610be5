/- Names, walked. -/
import Derived.Test.YtlceeeajhejedaaNamesP
set_option linter.unusedSimpArgs false
set_option linter.unusedVariables false
namespace Go.Proofs.Ytlceeeajhejedaa
open Go.RowKit Go.Maps Go.Proofs.Ytlceeeajhejedaa.Kind

theorem all_texts : ∀ l : List (List UInt8), TK.all (l.map textOf) = l.map encStr
  | [] => rfl
  | x :: l => by
    have ih := all_texts l
    simp only [Kind.all, List.map_cons, List.flatMap_cons] at ih ⊢
    rw [ih]
    rfl

set_option maxHeartbeats 8000000 in
set_option maxRecDepth 1000000 in
theorem names_real : NamesSpec := by
  intro P v w hFew hP
  have HFw := Lib.hid hFew
  have hz40 : P.zones.length ≤ 40 := hFew.2.1
  obtain ⟨za, zc, fa, fc, da, dc⟩ := v
  obtain ⟨⟨zs, hz⟩, _, _⟩ := hP
  simp only [Pv.val]
  dsimp only at hz
  have hzl := hz.1
  obtain ⟨o1, ho1⟩ : ∃ o1 : Obj, o1 = .cells #[.slice za P.zones.length zc, .slice fa P.fates.length fc, .int .i64 P.ticks, .slice da P.drops.length dc] 26 := ⟨_, rfl⟩
  have HB := Lib.hid (below1 w o1)
  have HL := Lib.hid (laid1 w o1)
  have HZ := Lib.hid (hz.below zoP_steady (below1 w o1))
  rw [ho1] at HB HL HZ
  clear ho1 hz hFew
  obtain ⟨W1, hW1⟩ : ∃ W1, W1 = w.alloc (.cells #[.slice za P.zones.length zc, .slice fa P.fates.length fc, .int .i64 P.ticks, .slice da P.drops.length dc] 26) := ⟨_, rfl⟩
  have hN : W1.heap.size = w.heap.size + 1 := by rw [hW1]; simp
  rw [← hW1] at HB HL HZ
  have hmm := @run_makeMap Try.prog
  have hlt : w.heap.size < W1.heap.size := by omega
  have HNs := Lib.hid hN
  clear hN
  have law : Keyed Try.prog 9 := string_keyed Try.underlying9
  have HLaw := Lib.hid law
  go_enter Try.func12, Try.ntmps12
  go_upto_region 1 with fail
  rw [← hW1]
  clear hW1
  obtain ⟨⟨x0, x1, x2, x3⟩, _⟩ := box4 (((below1 W1 (.map #[] 0)).block w.heap.size hlt).trans HL.out)
  have HO0 := Lib.hid (World.ownsMap_made W1 Try.prog 9 (unitElem (H := Unit)))
  go_wp2_with fail
  go_loopw [10] (fun i wr => ∃ (k : Nat) (D : DataW Unit), i = .int .i64 k ∧ k ≤ P.zones.length ∧ Hid (wr.ownsMap Try.prog 9 unitElem W1.heap.size k D) ∧ Hid (HasTo P D k) ∧ Below W1.heap.size W1 wr) (fun i _ => P.zones.length - (intOf i).toNat)
  case atStart => exact ⟨0, _, rfl, by omega, HO0, Lib.hid (hasTo_zero P), below1 _ _⟩
  case round =>
    obtain ⟨k, D, rfl, hk, ho, hh, hb⟩ := hrel
    have HO := Lib.hid ho.out
    have HH := Lib.hid hh.out
    have HBr := Lib.hid hb
    have hbs := hb.size
    clear ho hh hb x0 x1 x2 x3
    by_cases hki : k < P.zones.length
    · obtain ⟨b, hbz⟩ : ∃ b, P.zones[k]? = some b := ⟨_, List.getElem?_eq_getElem hki⟩
      obtain ⟨⟨xn, xh⟩, g, o, hx, rfl, hg, hat, hPz⟩ := (HZ.out.below zoP_steady HBr.out).get hbz
      obtain rfl : xn = b.name := hPz.1
      obtain ⟨y0, y1⟩ := ZK.two hat hx
      have hsz : b.name.size ≤ 400 := (HFw.out.1 b (List.mem_of_getElem? hbz)).1
      have hkey := Go.WideMaps.keyOf_string_mk (P := Try.prog) Try.underlying9 (s := b.name) (by unfold maxLen; omega)
      have HX := Lib.hid hbz
      have HIs := Lib.hid ((HO.out.tidy HLaw.out).isMap)
      have HOa := Lib.hid (HO.out.alloc (.cells #[.string b.name, .slice xh.a xh.n xh.c] 36))
      have HK := Lib.hid hkey
      clear hx hat hPz hbz hkey
      go_wp2_with (first | (at_mapUpdate; refine wpList_mapUpdate_own _ rfl _ _ _ 64 rfl 9 65 HLaw.out Try.underlying64 _ W1.heap.size k D rfl HOa.out (by unfold maxLen; omega) _ _ _ rfl rfl HK.out _ [] unitElem_mk ?_; intro w3 hown hgrow) | go_in)
      have HBn := Lib.hid ((HBr.out.trans ((below1 wr (.cells #[.string b.name, .slice xh.a xh.n xh.c] 36)).mono hbs)).grown hgrow (by simp; omega) (fun j hj => by cases hj; exact Nat.le_refl _))
      have HOn := Lib.hid hown
      clear hown hgrow
      go_roundw
      case rel => exact ⟨k + 1, _, by go_num, by omega, HOn, Lib.hid (hasTo_step HH.out HIs.out HX.out), HBn.out⟩
      case measure => simp [intOf]; omega
    · obtain rfl : k = P.zones.length := by omega
      have hkk : (P.zones.length : Int) ≤ 40 := by omega
      have HSay := Lib.hid (strKeys_say Try.underlying9 HO.out)
      have HK := Lib.hid (callsIn_wide.1 (Ytlceeeajhejedaa.maps_Keys (some W1.heap.size) wr))
      have HSo := Lib.hid (callsIn_wide.1 (Ytlceeeajhejedaa.sorted_keys W1.heap.size _ D unitElem wr HO.out (by have := HSay.out.2.2; unfold maxLen; omega) (by have := HSay.out.2.2; omega)))
      go_wp2_with fail
      with_reducible refine HK.out.mono ?_
      rintro e w3 ⟨rfl, rfl⟩
      go_wp2_with fail
      with_reducible refine HSo.out.mono ?_
      rintro e w4 ⟨v, ss, rfl, hp, hrow, hnil, hb4⟩
      have hnm := names_of rfl hp HSay.out.1 HSay.out.2.1 HH.out
      have hlL : ((ss.mergeSort (fun x y => decide (x ≤ y))).map textOf).length = ss.length := by rw [List.length_map, (List.mergeSort_perm ss _).length_eq]
      have hown : TK.Own w4 ((wr.alloc (.cells #[.map (some W1.heap.size)] 64)).heap.size) v ((ss.mergeSort (fun x y => decide (x ≤ y))).map textOf) := by
        unfold Kind.Own
        rw [hlL]
        have e := all_texts (ss.mergeSort (fun x y => decide (x ≤ y)))
        rw [e]
        exact hrow
      obtain ⟨a, c, rfl, hM⟩ := hown.mine
      have HM := Lib.hid hM.row
      have HNm := Lib.hid hnm
      have HB4 := Lib.hid (HB.out.trans ((HBr.out.trans ((below1 wr _).trans (hb4.mono (by simp)) |>.mono hbs)).mono (by have := HNs.out; omega)))
      generalize (ss.mergeSort (fun x y => decide (x ≤ y))).map textOf = L at *
      clear hp hrow hnil hb4 hnm hlL hown hM
      go_wp2_with fail
      go_ret
      exact ⟨L, a, c, rfl, HM.out, HNm.out, HB4.out⟩
end Go.Proofs.Ytlceeeajhejedaa
