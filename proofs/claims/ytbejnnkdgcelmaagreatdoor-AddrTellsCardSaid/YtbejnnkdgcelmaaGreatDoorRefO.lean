/- Who is of a family, by the document. -/
import Derived.Test.YtbejnnkdgcelmaaGreatDoorRefL
set_option linter.unusedSimpArgs false
set_option linter.unusedVariables false
namespace Go.Proofs.YtbejnnkdgcelmaaGreatDoor
open Go.RowKit

set_option maxHeartbeats 4000000 in
theorem refOf_any (l : List Ad) (a : Option Addr) (c : Nat) (fam : Int) (w : World) (hl : l.length ≤ 100000) (hA : RowAt w a l) :
    Calls Tryz.prog 19 #[.int .i8 fam, .slice a l.length c] w fun e w' => ∃ v, e = .returned v ∧ w'.ownsRow w.heap.size 26 10 v (l.filter (·.f == fam)).length (P.ads (l.filter (·.f == fam))) ∧ Below w.heap.size w w' := by
  obtain ⟨i0, hi, hz0, hz1, hz2⟩ := info_parts iAd
  have HA := Lib.hid hA
  clear hA
  go_enter Tryz.func19, Tryz.ntmps19
  go_wp2_with fail
  go_loopw [5, 6] (fun u5 i wr => ∃ k : Nat, i = .int .i64 k ∧ k ≤ l.length ∧ Below w.heap.size w wr ∧ wr.ownsRow w.heap.size 26 10 u5 ((l.take k).filter (·.f == fam)).length (P.ads ((l.take k).filter (·.f == fam)))) (fun _ i _ => l.length - (intOf i).toNat)
  case atStart => exact ⟨0, rfl, by omega, Below.refl _ _, World.ownsRow_nil _ _ _ _⟩
  case round =>
    obtain ⟨k, rfl, hk, hbw, hown⟩ := hrel
    have hbs := hbw.size
    by_cases hlt : k < l.length
    · obtain ⟨b, o, rfl, hb, hat⟩ := (HA.out.below hbw) (by omega)
      obtain ⟨x, hx⟩ : ∃ x, l[k]? = some x := ⟨_, List.getElem?_eq_getElem hlt⟩
      obtain ⟨c0, c1, c2, c3, c4, c5, c6, c7, c8, c9⟩ := hat.cells k x hx
      have hlen : ((l.take k).filter (·.f == fam)).length ≤ k := by
        have h1 := List.length_filter_le (fun y : Ad => y.f == fam) (l.take k)
        rw [List.length_take] at h1
        omega
      have HT := Lib.hid (take_filter l k x hx fam)
      clear hx hat
      cases hf : (x.f == fam) with
      | false =>
        have HT2 := Lib.hid (show (l.take (k + 1)).filter (·.f == fam) = (l.take k).filter (·.f == fam) by rw [HT.out, hf]; simp)
        go_wp2_with fail
        go_roundw
        case rel => exact ⟨k + 1, by go_num, by omega, hbw, by rw [HT2.out]; exact hown⟩
        case measure => simp [intOf]; omega
      | true =>
        have HT2 := Lib.hid (show P.ads ((l.take (k + 1)).filter (·.f == fam)) = P.ads ((l.take k).filter (·.f == fam)) ++ x.enc ∧ ((l.take (k + 1)).filter (·.f == fam)).length = ((l.take k).filter (·.f == fam)).length + 1 by
          rw [HT.out, hf, if_pos rfl, P.ads_append, P.ads_one]; exact ⟨rfl, by simp⟩)
        have HE1 := Lib.hid x.enc_one
        have HN := Lib.hid (cells_new wr 26 x.enc #[.int .i8 x.f, .int .u16 x.g0, .int .u16 x.g1, .int .u16 x.g2, .int .u16 x.g3, .int .u16 x.g4, .int .u16 x.g5, .int .u16 x.g6, .int .u16 x.g7, .int .i64 x.p] rfl)
        go_wp2_with (at_builtin; refine wpList_append_own _ rfl _ _ 27 rfl w.heap.size 26 i0 Ad.zero.v 10 32 Tryz.underlying27 hi hz0 hz1 hz2 rfl (by decide) _ _ _ rfl (hown.alloc _) ⟨wr.heap.size, 0, none⟩ 1 1 x.enc rfl rfl HN.out HE1.out (by unfold maxLen; omega) (by omega) (by simp; omega) ?_; intro v' w' hown' hgrow' _)
        go_roundw
        case rel => exact ⟨k + 1, by go_num, by omega, (hbw.alloc hbw.size _).grown hgrow' (by simp; omega) (fun k hk => (hown.lt k hk).1), by rw [HT2.out.1, HT2.out.2]; exact hown'⟩
        case measure => simp [intOf]; omega
    · obtain rfl : k = l.length := by omega
      rw [List.take_length] at hown
      go_wp2_with fail
      go_ret
      exact ⟨u5, rfl, hown, hbw⟩
end Go.Proofs.YtbejnnkdgcelmaaGreatDoor
