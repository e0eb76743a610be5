/- Keys: the document's answers. -/
import Derived.Test.YtpeohgmceadmeaaDoorJoin
import Derived.Handy
set_option linter.unusedSimpArgs false
set_option linter.unusedVariables false
namespace Go.Proofs.YtpeohgmceadmeaaDoor
open Go.RowKit

/-- A byte in a slice of its own, turned into a text. -/
theorem byte_string (X : World) (v : Int) (h0 : 0 ≤ v) (h1 : v < 256) :
    (convert 37 9 (.slice (some ⟨X.heap.size, 0, none⟩) 1 1)).run Tryd.prog (X.alloc (.cells #[.int .u8 v] 5)) = .ok (.string ⟨#[v.toNat.toUInt8]⟩) (X.alloc (.cells #[.int .u8 v] 5)) := by
  have h := World.ownsRow_lit (base := 0) (e := 5) (size := 1) X #[.int .u8 v] 1 (Nat.zero_le _) (by decide) rfl
  have hc : Lib.byteCells [v.toNat.toUInt8] = [Value.int .u8 v] := by simp [Lib.byteCells]; omega
  have h' : (X.alloc (.cells #[.int .u8 v] 5)).ownsRow 0 5 1 (.slice (some ⟨X.heap.size, 0, none⟩) 1 1) 1 (Lib.byteCells [v.toNat.toUInt8]) := by rw [hc]; exact h
  exact run_own_string 37 9 Tryd.underlying37 Tryd.underlying5 Tryd.underlying9 h'

theorem dec_big (u : Nat) (h : 10 ≤ u) : Lib.decDigits u = Lib.decDigits (u / 10) ++ [UInt8.ofNat (48 + u % 10)] := by
  rw [Lib.decDigits, dif_neg (by omega)]
theorem dec_small (u : Nat) (h : u < 10) : Lib.decDigits u = [UInt8.ofNat (48 + u)] := by
  rw [Lib.decDigits, dif_pos h]
theorem dec_step (u : Nat) (S D : List UInt8) (h : 1 ≤ u) (hd : Lib.decDigits u ++ S = D) :
    (u / 10 = 0 ∧ UInt8.ofNat (48 + u % 10) :: S = D) ∨ (1 ≤ u / 10 ∧ Lib.decDigits (u / 10) ++ (UInt8.ofNat (48 + u % 10) :: S) = D) := by
  by_cases h10 : u < 10
  · left
    rw [dec_small u h10] at hd
    have e : u % 10 = u := by omega
    exact ⟨by omega, by rw [e]; exact hd⟩
  · right
    rw [dec_big u (by omega), List.append_assoc] at hd
    exact ⟨by omega, hd⟩
theorem cons_str (b : UInt8) (S : List UInt8) : (⟨#[b]⟩ : ByteArray) ++ ⟨S.toArray⟩ = ⟨(b :: S).toArray⟩ := by
  apply ByteArray.ext
  apply Array.ext'
  simp

set_option maxHeartbeats 4000000 in
set_option maxRecDepth 1000000 in
theorem digits_any (n : Int) (w : World) (h0 : 1 ≤ n) (h1 : n ≤ 65535) :
    Calls Tryd.prog 18 #[.int .i64 n] w fun e w' => e = .returned (.string ⟨(Lib.decDigits n.toNat).toArray⟩) ∧ Below w.heap.size w w' := by
  have hdl := dec_short n h0 h1
  obtain ⟨D, hD⟩ : ∃ D, Lib.decDigits n.toNat = D := ⟨_, rfl⟩
  rw [hD] at hdl ⊢
  have HD := Lib.hid hD
  clear hD
  have hcv := fun (X : World) (v : Int) h0 h1 => byte_string X v h0 h1
  have HCV := Lib.hid hcv
  clear hcv
  go_enter Tryd.func18, Tryd.ntmps18
  go_wp2_with fail
  go_loopg [0, 3] n.toNat (fun g x t wr => ∃ (u : Nat) (S : List UInt8), u ≤ g ∧ u ≤ 65535 ∧ x = .int .i64 u ∧ t = .string ⟨S.toArray⟩ ∧ S.length ≤ 21 ∧ Below w.heap.size w wr ∧ Hid ((u = 0 ∧ S = D) ∨ (1 ≤ u ∧ Lib.decDigits u ++ S = D)))
  case atStart => exact ⟨n.toNat, [], by omega, by omega, by rw [Int.toNat_of_nonneg (by omega)], rfl, by simp, Below.refl _ _, Lib.hid (.inr ⟨by omega, by rw [HD.out, List.append_nil]⟩)⟩
  case round =>
    obtain ⟨u, S, hug, hub, rfl, rfl, hsl, hbw, hS⟩ := hrel
    have hbs := hbw.size
    by_cases hu : 0 < u
    · have HS := Lib.hid (dec_step u S D (by omega) (by rcases hS.out with ⟨h, _⟩ | ⟨_, h⟩; omega; exact h))
      have hsz : (⟨S.toArray⟩ : ByteArray).size ≤ 21 := by rw [size_of_list]; exact hsl
      have hcv := HCV.out wr (48 + (u : Int) % 10) (by omega) (by omega)
      have hb1 : (⟨#[(48 + (u : Int) % 10).toNat.toUInt8]⟩ : ByteArray).size = 1 := rfl
      have HT := Lib.hid (cons_str (48 + (u : Int) % 10).toNat.toUInt8 S)
      generalize (⟨S.toArray⟩ : ByteArray) = T at *
      have he : (48 + (u : Int) % 10).toNat.toUInt8 = UInt8.ofNat (48 + u % 10) := by
        have : (48 + (u : Int) % 10).toNat = 48 + u % 10 := by omega
        rw [this]
      obtain ⟨bv, hbv⟩ : ∃ bv, (48 + (u : Int) % 10).toNat.toUInt8 = bv := ⟨_, rfl⟩
      rw [hbv] at hcv hb1 HT he
      have HE := Lib.hid he
      clear hS hbv he
      go_wp2_with fail
      go_roundg (u / 10)
      case rel =>
        refine ⟨u / 10, UInt8.ofNat (48 + u % 10) :: S, by omega, by omega, by go_num, by rw [HT.out, HE.out], ?_, hbw.alloc hbw.size _, Lib.hid HS.out⟩
        have hlen : (UInt8.ofNat (48 + u % 10) :: S).length ≤ D.length := by
          rcases HS.out with ⟨_, h⟩ | ⟨_, h⟩
          · rw [h]; exact Nat.le_refl _
          · rw [← h, List.length_append]; omega
        omega
      case measure => omega
    · obtain rfl : u = 0 := by omega
      have hSD : S = D := by rcases hS.out with ⟨_, h⟩ | ⟨h, _⟩; exact h; omega
      clear hS
      subst hSD
      go_wp2_with fail
      go_ret
      exact ⟨rfl, hbw⟩

set_option maxHeartbeats 4000000 in
set_option maxRecDepth 1000000 in
theorem rjoin_any (s : ByteArray) (n : Int) (w : World) (hs : s.size ≤ 4000) (hn : -9223372036854775808 ≤ n) (hn' : n ≤ 9223372036854775807) :
    Calls Tryd.prog 10 #[.string s, .int .i64 n] w fun e w' => e = .returned (.tuple #[.string (P.joinV s.data.toList n), .int .i64 (P.joinE s.data.toList n)]) ∧ Below w.heap.size w w' := by
  cases hname : P.name s.data.toList
  · have HJ := Lib.hid (show P.joinV s.data.toList n = ByteArray.empty ∧ P.joinE s.data.toList n = 10 by rw [P.joinV, P.joinE, hname]; exact ⟨rfl, rfl⟩)
    have HN := Lib.hid hname
    clear hname
    go_enter Tryd.func10, Tryd.ntmps10
    go_wp2_with fail
    have HC := rfold_no s w hs HN.out
    with_reducible refine HC.mono ?_
    clear HC
    rintro e w1 ⟨rfl, hb1⟩
    go_wp2_with fail
    go_ret2
    exact ⟨by rw [HJ.out.1, HJ.out.2]; rfl, hb1⟩
  · have hfl : (P.foldB s.data.toList).length ≤ 64 := by rw [(P.fold_name _ hname).2.1]; exact (name_valid _ hname).1
    have HN := Lib.hid hname
    cases hp : P.portB n
    · have HJ := Lib.hid (show P.joinV s.data.toList n = ByteArray.empty ∧ P.joinE s.data.toList n = 11 by rw [P.joinV, P.joinE, hname, hp]; exact ⟨rfl, rfl⟩)
      have hr : n < 1 ∨ 65535 < n := by
        by_cases h : n < 1 ∨ 65535 < n
        · exact h
        · simp [P.portB] at hp; omega
      clear hname hp
      rcases hr with hr | hr
      all_goals
        go_enter Tryd.func10, Tryd.ntmps10
        go_wp2_with fail
        have HC := rfold_yes s w hs HN.out
        with_reducible refine HC.mono ?_
        clear HC
        rintro e w1 ⟨rfl, hb1⟩
        go_wp2_with fail
        go_ret2
        exact ⟨by rw [HJ.out.1, HJ.out.2]; rfl, hb1⟩
    · have hr : 1 ≤ n ∧ n ≤ 65535 := by simp [P.portB] at hp; omega
      have HJ := Lib.hid (show P.joinV s.data.toList n = ⟨(P.foldB s.data.toList).toArray⟩ ++ ⟨#[58]⟩ ++ ⟨(Lib.decDigits n.toNat).toArray⟩ ∧ P.joinE s.data.toList n = 0 by rw [P.joinV, P.joinE, hname, hp, join_str]; exact ⟨rfl, rfl⟩)
      have hdl := dec_short n hr.1 hr.2
      have hs1 : (⟨(P.foldB s.data.toList).toArray⟩ : ByteArray).size ≤ 64 := by rw [size_of_list]; exact hfl
      have hs2 : (⟨(Lib.decDigits n.toNat).toArray⟩ : ByteArray).size ≤ 21 := by rw [size_of_list]; exact hdl
      have HF := Lib.hid (rfold_yes s w hs HN.out)
      have HI := Lib.hid (fun w => digits_any n w hr.1 hr.2)
      clear hname hp hfl hdl
      generalize (⟨(P.foldB s.data.toList).toArray⟩ : ByteArray) = A at *
      generalize (⟨(Lib.decDigits n.toNat).toArray⟩ : ByteArray) = D at *
      obtain ⟨hr1, hr2⟩ := hr
      go_enter Tryd.func10, Tryd.ntmps10
      go_wp2_with fail
      with_reducible refine HF.out.mono ?_
      rintro e w1 ⟨rfl, hb1⟩
      go_wp2_with fail
      have HC := HI.out w1
      with_reducible refine HC.mono ?_
      clear HC
      rintro e w3 ⟨rfl, hb3⟩
      have hb3 := hb1.trans (hb3.mono hb1.size)
      clear hb1
      have hc : (⟨#[58]⟩ : ByteArray).size = 1 := rfl
      go_wp2_with fail
      go_ret2
      exact ⟨by rw [HJ.out.1, HJ.out.2]; rfl, hb3⟩
end Go.Proofs.YtpeohgmceadmeaaDoor
