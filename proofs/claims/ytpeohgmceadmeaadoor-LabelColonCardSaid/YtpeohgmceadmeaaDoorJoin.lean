/- Keys: Join, and the document's answers. -/
import Derived.Test.YtpeohgmceadmeaaDoorPortP
import Derived.Lib.AppendIntMem
import Derived.Lib.LaidTab
import Derived.Lib.ItoaLen
import Derived.WalkSmall
set_option linter.unusedSimpArgs false
set_option linter.unusedVariables false
namespace Go.Proofs.YtpeohgmceadmeaaDoor
open Go.RowKit

theorem gPow : Tryd.prog.globalNamed "internal/strconv.uint64pow10" = some 1 := by kernel_rfl
/-- The table that the digits are told by lies where it lay. -/
def Tab (w : World) : Prop := Lib.TabIs Tryd.prog w "internal/strconv.uint64pow10" .u64 Lib.pow10Tab ∧ 1 < w.heap.size
theorem Tab.below {w w' : World} (h : Tab w) (hb : Below w.heap.size w w') : Tab w' :=
  ⟨var?_below hb gPow h.2 h.1, Nat.lt_of_lt_of_le h.2 hb.size⟩

theorem itoa_pos (n : Int) (h : 1 ≤ n) : Lib.itoa n = Lib.decDigits n.toNat := by rw [Lib.itoa, if_neg (by omega)]
theorem itoa_any (n : Int) (h0 : 1 ≤ n) (h1 : n ≤ 65535) (w : World) (ht : Tab w) :
    Calls Tryd.prog 17 #[.int .i64 n] w fun e w' => e = .returned (.string ⟨(Lib.decDigits n.toNat).toArray⟩) ∧ Below w.heap.size w w' :=
  (Tryd.strconv_Itoa n (by omega) (by omega) w ht.1).mono fun e w' ⟨he, k, os, hw⟩ => ⟨by rw [he, itoa_pos n h0], by rw [hw]; exact Lib.below_grow _ w (Nat.le_refl _) k os⟩
theorem dec_short (n : Int) (h0 : 1 ≤ n) (h1 : n ≤ 65535) : (Lib.decDigits n.toNat).length ≤ 21 := by
  have := Lib.itoa_length_le n (by omega) (by omega)
  rwa [itoa_pos n h0] at this
theorem join_str (l d : List UInt8) : (⟨l.toArray⟩ : ByteArray) ++ ⟨#[58]⟩ ++ ⟨d.toArray⟩ = ⟨(l ++ 58 :: d).toArray⟩ := by
  apply ByteArray.ext
  apply Array.ext'
  simp

set_option maxHeartbeats 4000000 in
set_option maxRecDepth 1000000 in
theorem join_any (s : ByteArray) (n : Int) (w : World) (hs : s.size ≤ 4000) (hn : -9223372036854775808 ≤ n) (hn' : n ≤ 9223372036854775807) (ht : Tab w) :
    Calls Tryd.prog 9 #[.string s, .int .i64 n] w fun e w' => e = .returned (.tuple #[.string (P.joinV s.data.toList n), .int .i64 (P.joinE s.data.toList n)]) ∧ Below w.heap.size w w' := by
  cases hname : P.name s.data.toList
  · have HJ := Lib.hid (show P.joinV s.data.toList n = ByteArray.empty ∧ P.joinE s.data.toList n = 10 by rw [P.joinV, P.joinE, hname]; exact ⟨rfl, rfl⟩)
    have HN := Lib.hid hname
    clear hname
    go_enter Tryd.func9, Tryd.ntmps9
    go_wp2_with fail
    have HC := fold_no s w hs HN.out
    with_reducible refine HC.mono ?_
    clear HC
    rintro e w1 ⟨rfl, hb1⟩
    go_wp2_with fail
    go_ret2
    exact ⟨by rw [HJ.out.1, HJ.out.2]; rfl, hb1⟩
  · have hfl : (P.foldB s.data.toList).length ≤ 64 := by rw [(P.fold_name _ hname).2.1]; exact (name_valid _ hname).1
    have HN := Lib.hid hname
    cases hp : P.portB n
    · have HJ := Lib.hid (show P.joinV s.data.toList n = ByteArray.empty ∧ P.joinE s.data.toList n = 11 by rw [P.joinV, P.joinE, hname, hp]; exact ⟨rfl, rfl⟩)
      have HP := Lib.hid hp
      clear hname hp
      go_enter Tryd.func9, Tryd.ntmps9
      go_wp2_with fail
      have HC := fold_yes s w hs HN.out
      with_reducible refine HC.mono ?_
      clear HC
      rintro e w1 ⟨rfl, hb1⟩
      go_wp2_with fail
      refine (mayPort_any _ _).mono ?_
      rw [HP.out]
      rintro e w2 ⟨rfl, rfl⟩
      go_wp2_with fail
      go_ret2
      exact ⟨by rw [HJ.out.1, HJ.out.2]; rfl, hb1⟩
    · have hr : 1 ≤ n ∧ n ≤ 65535 := by simp [P.portB] at hp; omega
      have HJ := Lib.hid (show P.joinV s.data.toList n = ⟨(P.foldB s.data.toList).toArray⟩ ++ ⟨#[58]⟩ ++ ⟨(Lib.decDigits n.toNat).toArray⟩ ∧ P.joinE s.data.toList n = 0 by rw [P.joinV, P.joinE, hname, hp, join_str]; exact ⟨rfl, rfl⟩)
      have hdl := dec_short n hr.1 hr.2
      have HP := Lib.hid hp
      have hs1 : (⟨(P.foldB s.data.toList).toArray⟩ : ByteArray).size ≤ 64 := by rw [size_of_list]; exact hfl
      have hs2 : (⟨(Lib.decDigits n.toNat).toArray⟩ : ByteArray).size ≤ 21 := by rw [size_of_list]; exact hdl
      have HF := Lib.hid (fold_yes s w hs HN.out)
      have HI := Lib.hid (fun w => itoa_any n hr.1 hr.2 w)
      clear hname hp hfl hdl
      generalize (⟨(P.foldB s.data.toList).toArray⟩ : ByteArray) = A at *
      generalize (⟨(Lib.decDigits n.toNat).toArray⟩ : ByteArray) = D at *
      go_enter Tryd.func9, Tryd.ntmps9
      go_wp2_with fail
      with_reducible refine HF.out.mono ?_
      rintro e w1 ⟨rfl, hb1⟩
      go_wp2_with fail
      refine (mayPort_any _ _).mono ?_
      rw [HP.out]
      rintro e w2 ⟨rfl, rfl⟩
      go_wp2_with fail
      have HC := HI.out w1 (ht.below hb1)
      with_reducible refine HC.mono ?_
      clear HC
      rintro e w3 ⟨rfl, hb3⟩
      have hb3 := hb1.trans (hb3.mono hb1.size)
      clear hb1
      have hc : (⟨#[58]⟩ : ByteArray).size = 1 := rfl
      go_wp2_with fail
      go_ret2
      exact ⟨by rw [HJ.out.1, HJ.out.2]; rfl, hb3⟩
end Go.Proofs.YtpeohgmceadmeaaDoor
