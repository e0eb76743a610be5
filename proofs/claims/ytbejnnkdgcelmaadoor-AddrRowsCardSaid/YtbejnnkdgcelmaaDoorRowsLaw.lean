/- AddrRows: rows' texts, and the rows that texts are, are the document's. -/
import Derived.Test.YtbejnnkdgcelmaaDoorRefK
set_option linter.unusedSimpArgs false
set_option linter.unusedVariables false
namespace Go.Proofs.YtbejnnkdgcelmaaDoor
open Go.RowKit

theorem P.adsF_len : ∀ (ps : List (List UInt8)) (L : List Ad), P.adsF ps = some L → L.length = ps.length
  | [], L, h => by simp [P.adsF] at h; subst h; rfl
  | p :: ps, L, h => by
    rw [P.adsF] at h
    cases hp : P.parseP ⟨p.toArray⟩ with
    | none => rw [hp] at h; cases h
    | some x =>
      rw [hp] at h
      cases hq : P.adsF ps with
      | none => rw [hq] at h; cases h
      | some M => rw [hq] at h; cases h; simp [P.adsF_len ps M hq]
theorem P.readP_len (l : List UInt8) : ((P.readP l).getD []).length ≤ 17 := by
  cases h : P.readP l with
  | none => simp
  | some L =>
    rw [Option.getD_some]
    unfold P.readP at h
    split at h
    · cases h; simp
    · split at h
      · cases h
      · rw [P.adsF_len _ _ h]; omega

set_option maxHeartbeats 8000000 in
set_option maxRecDepth 1000000 in
theorem rows_walk (s : ByteArray) (l : List Ad) (a : Option Addr) (c : Nat) (w : World) (hl : ∀ y ∈ l, y.Ok) (hA : RowAt w a l) (hE : Env w) :
    Calls Tryd.prog 3 #[.slice a l.length c, .string s] w fun e w' => e = .returned (.bool true) ∧ Below w.heap.size w w' := by
  have HA := Lib.hid hA
  have HE := Lib.hid hE
  have HL := Lib.hid hl
  clear hA hE hl
  have HG := Lib.hid (great_any l.length a c w)
  by_cases h2 : 2000 < s.size
  · have HW := Lib.hid (wakes_any w HE.out)
    go_enter Tryd.func3, Tryd.ntmps3
    go_wp2_with fail
    with_reducible refine HW.out.mono ?_
    rintro e w2 ⟨rfl, hb⟩
    go_wp2_with fail
    go_ret
    exact ⟨rfl, hb⟩
  · by_cases h60 : 60 < l.length
    · have HW := Lib.hid (wakes_any w HE.out)
      have hd : decide (60 < l.length) = true := by simpa using h60
      rw [hd] at HG
      clear hd
      go_enter Tryd.func3, Tryd.ntmps3
      go_wp2_with fail
      with_reducible refine HG.out.mono ?_
      rintro e w1 ⟨rfl, rfl⟩
      go_wp2_with fail
      with_reducible refine HW.out.mono ?_
      rintro e w2 ⟨rfl, hb⟩
      go_wp2_with fail
      go_ret
      exact ⟨rfl, hb⟩
    · have hd : decide (60 < l.length) = false := by simpa using h60
      rw [hd] at HG
      clear hd
      have R1 := row_any l a c w (by omega) HA.out HL.out HE.out
      have R2 := fun W (hW : Below w.heap.size w W) => refRow_any l a c W (by omega) (HA.out.below hW) HL.out
      obtain ⟨R, E, hRE⟩ : ∃ R E, P.rowV (P.rowP l) = .tuple #[.string R, .int .i64 E] := ⟨_, _, rfl⟩
      rw [hRE] at R1 R2
      have HR1 := Lib.hid R1
      have HR2 := Lib.hid R2
      have S1 := fun W (hW : Below w.heap.size w W) => read_any s W (by omega) (HE.out.below hW)
      have S2 := fun W => refRead_any s W (by omega)
      have hLn := P.readP_len s.data.toList
      obtain ⟨L, hLe⟩ : ∃ L, (P.readP s.data.toList).getD [] = L := ⟨_, rfl⟩
      obtain ⟨G, hG⟩ : ∃ G : Int, (if (P.readP s.data.toList).isSome then (0 : Int) else 20) = G := ⟨_, rfl⟩
      unfold P.readV at S1 S2
      rw [hLe, hG] at S1 S2
      rw [hLe] at hLn
      have HS1 := Lib.hid S1
      have HS2 := Lib.hid S2
      have hEE : (E == E) = true := by simp
      have hGG : (G == G) = true := by simp
      clear R1 R2 hRE S1 S2 hLe hG
      go_enter Tryd.func3, Tryd.ntmps3
      go_wp2_with fail
      with_reducible refine HG.out.mono ?_
      rintro e w1 ⟨rfl, rfl⟩
      go_wp2_with fail
      with_reducible refine HR1.out.mono ?_
      rintro e w2 ⟨rfl, hb2⟩
      have HB2 := Lib.hid hb2
      clear hb2
      go_wp2_with fail
      with_reducible refine (HR2.out w2 HB2.out).mono ?_
      rintro e w3 ⟨rfl, hb3⟩
      have HB3 := Lib.hid (HB2.out.trans (hb3.mono HB2.out.size))
      clear hb3
      go_wp2_with fail
      with_reducible refine (HS1.out w3 HB3.out).mono ?_
      rintro e w4 ⟨v4, rfl, hv4, hb4⟩
      obtain ⟨a4, c4, rfl, hr4, _⟩ := own_row hv4
      have HR4 := Lib.hid hr4
      have HB4 := Lib.hid (HB3.out.trans (hb4.mono HB3.out.size))
      clear hb4 hv4 hr4
      go_wp2_with fail
      with_reducible refine (HS2.out w4).mono ?_
      rintro e w5 ⟨v5, rfl, hv5, hb5⟩
      obtain ⟨a5, c5, rfl, hr5, _⟩ := own_row hv5
      have HR5 := Lib.hid hr5
      have HR4b := Lib.hid (HR4.out.below hb5)
      have HB5 := Lib.hid (HB4.out.trans (hb5.mono HB4.out.size))
      clear hb5 hv5 hr5
      have HSm := Lib.hid (same_eq L a4 a5 c4 c5 w5 (by omega) HR4b.out HR5.out)
      go_wp2_with fail
      with_reducible refine HSm.out.mono ?_
      rintro e w6 ⟨rfl, hb6⟩
      have HB6 := Lib.hid (HB5.out.trans (hb6.mono HB5.out.size))
      have HW := Lib.hid (wakes_any w6 (HE.out.below HB6.out))
      clear hb6
      go_wp2_with fail
      with_reducible refine HW.out.mono ?_
      rintro e w7 ⟨rfl, hb7⟩
      go_wp2_with fail
      go_ret
      exact ⟨rfl, HB6.out.trans (hb7.mono HB6.out.size)⟩
end Go.Proofs.YtbejnnkdgcelmaaDoor
