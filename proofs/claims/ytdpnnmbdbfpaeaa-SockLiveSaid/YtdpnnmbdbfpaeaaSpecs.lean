/- What is asked of the program's calls: the document's words, as contracts. -/
import Derived.Test.YtdpnnmbdbfpaeaaRec
import Derived.Test.YtdpnnmbdbfpaeaaLoose
import Derived.Test.YtdpnnmbdbfpaeaaBoxes
set_option linter.unusedSimpArgs false
set_option linter.unusedVariables false
namespace Go.Proofs.Ytdpnnmbdbfpaeaa
open Go.RowKit Go.Proofs.Ytdpnnmbdbfpaeaa.Kind

def OpenSpec : Prop := ∀ (S : List Sk) (M : List Nk) (ad : Ad) (y t : Int) (a b : Option Addr) (c d : Nat) (w : World) (L : List Sk) (K : List Nk), S.length ≤ 400 → M.length ≤ 800 → L = S ++ [skNew ad y t] → K = M ++ [⟨false, S.length, t⟩] → SK.RowC w a c S → NK.RowC w b d M →
  Calls Try.prog 8 #[.slice a S.length c, .slice b M.length d, .agg #[.int .i8 ad.f, .int .u16 ad.g0, .int .u16 ad.g1, .int .u16 ad.g2, .int .u16 ad.g3, .int .u16 ad.g4, .int .u16 ad.g5, .int .u16 ad.g6, .int .u16 ad.g7, .int .i64 ad.p], .int .i64 y, .int .i64 t] w fun e w' =>
    ∃ a1 c1 a2 c2, e = .returned (.tuple #[.slice a1 L.length c1, .slice a2 K.length c2, .int .i64 S.length]) ∧ SK.Loose w' w.heap.size a1 c1 L ∧ NK.Loose w' w.heap.size a2 c2 K ∧ Below w.heap.size w w'
def ShutSpec : Prop := ∀ (S : List Sk) (M : List Nk) (n : Nat) (x : Sk) (t : Int) (a b : Option Addr) (c d : Nat) (w : World) (L : List Sk) (K : List Nk), S.length ≤ 400 → M.length ≤ 800 → S[n]? = some x → L = S.set n { x with shut := wrap64 (x.shut + 1) } → K = M ++ [⟨true, n, t⟩] → SK.RowC w a c S → NK.RowC w b d M →
  Calls Try.prog 10 #[.slice a S.length c, .slice b M.length d, .int .i64 n, .int .i64 t] w fun e w' =>
    ∃ a1 c1 a2 c2, e = .returned (.tuple #[.slice a1 L.length c1, .slice a2 K.length c2, .int .i64 0]) ∧ SK.Loose w' w.heap.size a1 c1 L ∧ NK.Loose w' w.heap.size a2 c2 K ∧ Below w.heap.size w w'
def ShutNone : Prop := ∀ (S : List Sk) (M : List Nk) (n t : Int) (a b : Option Addr) (c d : Nat) (w : World), S.length ≤ 400 → M.length ≤ 800 → (n < 0 ∨ (S.length : Int) ≤ n) → SK.RowC w a c S → NK.RowC w b d M →
  Calls Try.prog 10 #[.slice a S.length c, .slice b M.length d, .int .i64 n, .int .i64 t] w fun e w' => e = .returned (.tuple #[.slice none 0 0, .slice none 0 0, .int .i64 80]) ∧ Below w.heap.size w w'
def DropSpec : Prop := ∀ (S : List Sk) (n : Nat) (x : Sk) (a : Option Addr) (c : Nat) (w : World) (L : List Sk), S.length ≤ 400 → S[n]? = some x → x.shut = 0 → L = S.set n { x with dead := true } → SK.RowC w a c S →
  Calls Try.prog 9 #[.slice a S.length c, .int .i64 n] w fun e w' => ∃ a1 c1, e = .returned (.tuple #[.slice a1 L.length c1, .int .i64 0]) ∧ SK.Loose w' w.heap.size a1 c1 L ∧ Below w.heap.size w w'
def DropNone : Prop := ∀ (S : List Sk) (n : Int) (a : Option Addr) (c : Nat) (w : World), S.length ≤ 400 → openP S n = false → SK.RowC w a c S →
  Calls Try.prog 9 #[.slice a S.length c, .int .i64 n] w fun e w' => e = .returned (.tuple #[.slice none 0 0, .int .i64 80]) ∧ Below w.heap.size w w'
def IsOpenSpec : Prop := ∀ (S : List Sk) (ns : List Int) (r : Bool) (a b : Option Addr) (c d : Nat) (w : World), S.length ≤ 400 → ns.length ≤ 400 → r = ns.all (openP S) → SK.RowC w a c S → IK.RowC w b d ns →
  Calls Try.prog 17 #[.slice a S.length c, .slice b ns.length d] w fun e w' => e = .returned (.bool r) ∧ Below w.heap.size w w'
def LiveSpec : Prop := ∀ (S : List Sk) (L : List Int) (a : Option Addr) (c : Nat) (w : World), S.length ≤ 400 → L = liveP S → SK.RowC w a c S →
  Calls Try.prog 12 #[.slice a S.length c] w fun e w' => ∃ a1 c1, e = .returned (.slice a1 L.length c1) ∧ IK.RowC w' a1 c1 L ∧ Below w.heap.size w w'
def TwiceSpec : Prop := ∀ (S : List Sk) (L : List Int) (a : Option Addr) (c : Nat) (w : World), S.length ≤ 400 → L = twiceP S → SK.RowC w a c S →
  Calls Try.prog 16 #[.slice a S.length c] w fun e w' => ∃ a1 c1, e = .returned (.slice a1 L.length c1) ∧ IK.RowC w' a1 c1 L ∧ Below w.heap.size w w'
def CheckSpec : Prop := ∀ (S : List Sk) (M : List Nk) (r : Int) (a b : Option Addr) (c d : Nat) (w : World), S.length ≤ 400 → M.length ≤ 800 → (∀ m ∈ M, -9223372036854775808 ≤ m.at_) → r = (if goesB S M = true then 0 else 80) → SK.RowC w a c S → NK.RowC w b d M →
  Calls Try.prog 11 #[.slice a S.length c, .slice b M.length d] w fun e w' => e = .returned (.int .i64 r) ∧ Below w.heap.size w w'
def WakesSpec : Prop := ∀ w : World, Calls Try.prog 7 #[] w fun e w' => e = .returned (.bool true) ∧ Below w.heap.size w w'

set_option maxHeartbeats 4000000 in
set_option maxRecDepth 1000000 in
theorem great_any (a b : Option Addr) (n m c d : Nat) (r : Bool) (hr : r = (decide (300 < n) || decide (600 < m))) (w : World) :
    Calls Try.prog 13 #[.slice a n c, .slice b m d] w fun e w' => e = .returned (.bool r) ∧ w' = w := by
  by_cases h1 : 300 < n
  · obtain rfl : r = true := by rw [hr]; simp [h1]
    have h2 : (300 : Int) < n := by omega
    clear hr
    go_enter Try.func13, Try.ntmps13
    go_wp2_with fail
    go_ret
    exact ⟨rfl, rfl⟩
  · have h2 : ¬ (300 : Int) < n := by omega
    by_cases h3 : 600 < m
    · obtain rfl : r = true := by rw [hr]; simp [h3]
      have h4 : (600 : Int) < m := by omega
      clear hr
      go_enter Try.func13, Try.ntmps13
      go_wp2_with fail
      go_ret
      exact ⟨rfl, rfl⟩
    · obtain rfl : r = false := by rw [hr]; simp [h1, h3]
      have h4 : ¬ (600 : Int) < m := by omega
      clear hr
      go_enter Try.func13, Try.ntmps13
      go_wp2_with fail
      go_ret
      exact ⟨rfl, rfl⟩

theorem neq_self_sock (x : Sk) (W : World) : (binOp .neq 48 (.agg #[.int .i8 x.ad.f, .int .u16 x.ad.g0, .int .u16 x.ad.g1, .int .u16 x.ad.g2, .int .u16 x.ad.g3, .int .u16 x.ad.g4, .int .u16 x.ad.g5, .int .u16 x.ad.g6, .int .u16 x.ad.g7, .int .i64 x.ad.p, .int .i64 x.by_, .int .i64 x.opened, .int .i64 x.shut, .bool x.dead]) (.agg #[.int .i8 x.ad.f, .int .u16 x.ad.g0, .int .u16 x.ad.g1, .int .u16 x.ad.g2, .int .u16 x.ad.g3, .int .u16 x.ad.g4, .int .u16 x.ad.g5, .int .u16 x.ad.g6, .int .u16 x.ad.g7, .int .i64 x.ad.p, .int .i64 x.by_, .int .i64 x.opened, .int .i64 x.shut, .bool x.dead])).run Try.prog W = .ok (.bool false) W := by
  have h := neq_sock W x x
  simp only [Sk.v] at h
  rw [h]
  simp
theorem neq_self_mark (x : Nk) (W : World) : (binOp .neq 51 (.agg #[.bool x.shut, .int .i64 x.sock, .int .i64 x.at_]) (.agg #[.bool x.shut, .int .i64 x.sock, .int .i64 x.at_])).run Try.prog W = .ok (.bool false) W := by
  have h := neq_mark W x x
  simp only [Nk.v] at h
  rw [h]
  simp

set_option maxHeartbeats 4000000 in
set_option maxRecDepth 1000000 in
theorem same_eq (l : List Sk) (a b : Option Addr) (c d : Nat) (w : World) (hl : l.length ≤ 100000) (hA : SK.RowC w a c l) (hB : SK.RowC w b d l) :
    Calls Try.prog 14 #[.slice a l.length c, .slice b l.length d] w fun e w' => e = .returned (.bool true) ∧ Below w.heap.size w w' := by
  have HA := Lib.hid hA
  have HB := Lib.hid hB
  clear hA hB
  go_enter Try.func14, Try.ntmps14
  go_wp2_with fail
  go_loopw [5] (fun i wr => ∃ k q : Nat, k ≤ l.length ∧ i = .int .i64 k ∧ wr = w.drewN q) (fun i _ => l.length - (intOf i).toNat)
  case atStart => exact ⟨0, 0, by omega, rfl, rfl⟩
  case round =>
    obtain ⟨k, q, hk, rfl, rfl⟩ := hrel
    by_cases hlt : k < l.length
    · obtain ⟨b1, o1, rfl, hb1, hat1⟩ := HA.out.2.2.2 (by omega)
      obtain ⟨b2, o2, rfl, hb2, hat2⟩ := HB.out.2.2.2 (by omega)
      obtain ⟨x, hx⟩ : ∃ x, l[k]? = some x := ⟨_, List.getElem?_eq_getElem hlt⟩
      obtain ⟨⟨c0, c1, c2, c3, c4, c5, c6⟩, c7, c8, c9, c10, c11, c12, c13⟩ := SK.fourteen hat1 hx
      obtain ⟨⟨d0, d1, d2, d3, d4, d5, d6⟩, d7, d8, d9, d10, d11, d12, d13⟩ := SK.fourteen hat2 hx
      have hnq := neq_self_sock x
      have hgd := guard_sock
      clear hx hat1 hat2
      go_wp2_with fail
      go_quiet (fail)
      go_wp2_with fail
      go_roundw
      case rel => exact ⟨k + 1, _, by omega, by go_num, rfl⟩
      case measure => simp [intOf]; omega
    · obtain rfl : k = l.length := by omega
      go_wp2_with fail
      go_ret
      exact ⟨rfl, below_drewN (Below.refl _ _) q⟩
set_option maxHeartbeats 4000000 in
set_option maxRecDepth 1000000 in
theorem samemarks_eq (l : List Nk) (a b : Option Addr) (c d : Nat) (w : World) (hl : l.length ≤ 100000) (hA : NK.RowC w a c l) (hB : NK.RowC w b d l) :
    Calls Try.prog 15 #[.slice a l.length c, .slice b l.length d] w fun e w' => e = .returned (.bool true) ∧ Below w.heap.size w w' := by
  have HA := Lib.hid hA
  have HB := Lib.hid hB
  clear hA hB
  go_enter Try.func15, Try.ntmps15
  go_wp2_with fail
  go_loopw [5] (fun i wr => ∃ k q : Nat, k ≤ l.length ∧ i = .int .i64 k ∧ wr = w.drewN q) (fun i _ => l.length - (intOf i).toNat)
  case atStart => exact ⟨0, 0, by omega, rfl, rfl⟩
  case round =>
    obtain ⟨k, q, hk, rfl, rfl⟩ := hrel
    by_cases hlt : k < l.length
    · obtain ⟨b1, o1, rfl, hb1, hat1⟩ := HA.out.2.2.2 (by omega)
      obtain ⟨b2, o2, rfl, hb2, hat2⟩ := HB.out.2.2.2 (by omega)
      obtain ⟨x, hx⟩ : ∃ x, l[k]? = some x := ⟨_, List.getElem?_eq_getElem hlt⟩
      obtain ⟨c0, c1, c2⟩ := NK.three hat1 hx
      obtain ⟨d0, d1, d2⟩ := NK.three hat2 hx
      have hnq := neq_self_mark x
      have hgd := guard_mark
      clear hx hat1 hat2
      go_wp2_with fail
      go_quiet (fail)
      go_wp2_with fail
      go_roundw
      case rel => exact ⟨k + 1, _, by omega, by go_num, rfl⟩
      case measure => simp [intOf]; omega
    · obtain rfl : k = l.length := by omega
      go_wp2_with fail
      go_ret
      exact ⟨rfl, below_drewN (Below.refl _ _) q⟩

set_option maxHeartbeats 8000000 in
set_option maxRecDepth 1000000 in
theorem wakes_walk (HO : OpenSpec) (HS : ShutSpec) (HL : LiveSpec) (HT : TwiceSpec) (HC : CheckSpec) : WakesSpec := by
  intro w
  have H1 := Lib.hid (HO [] [] Ad.zero 1 0 none none 0 0 w [skNew Ad.zero 1 0] [⟨false, 0, 0⟩] (by decide) (by decide) rfl rfl (row_none _) (row_none _))
  have H2 := Lib.hid (fun a b c d w h1 h2 => HO [skNew Ad.zero 1 0] [⟨false, 0, 0⟩] Ad.zero 2 3 a b c d w [skNew Ad.zero 1 0, skNew Ad.zero 2 3] [⟨false, 0, 0⟩, ⟨false, 1, 3⟩] (by decide) (by decide) rfl rfl h1 h2)
  have H3 := Lib.hid (fun a b c d w h1 h2 => HS [skNew Ad.zero 1 0, skNew Ad.zero 2 3] [⟨false, 0, 0⟩, ⟨false, 1, 3⟩] 0 (skNew Ad.zero 1 0) 3 a b c d w [⟨Ad.zero, 1, 0, 1, false⟩, skNew Ad.zero 2 3] [⟨false, 0, 0⟩, ⟨false, 1, 3⟩, ⟨true, 0, 3⟩] (by decide) (by decide) rfl (by decide +kernel) rfl h1 h2)
  have H4 := Lib.hid (fun a b c d w h1 h2 => HS [⟨Ad.zero, 1, 0, 1, false⟩, skNew Ad.zero 2 3] [⟨false, 0, 0⟩, ⟨false, 1, 3⟩, ⟨true, 0, 3⟩] 0 ⟨Ad.zero, 1, 0, 1, false⟩ 4 a b c d w [⟨Ad.zero, 1, 0, 2, false⟩, skNew Ad.zero 2 3] [⟨false, 0, 0⟩, ⟨false, 1, 3⟩, ⟨true, 0, 3⟩, ⟨true, 0, 4⟩] (by decide) (by decide) rfl (by decide +kernel) rfl h1 h2)
  have HLv := Lib.hid (fun a c w h1 => HL [⟨Ad.zero, 1, 0, 1, false⟩, skNew Ad.zero 2 3] [1] a c w (by decide) (by decide) h1)
  have HTw := Lib.hid (fun a c w h1 => HT [⟨Ad.zero, 1, 0, 2, false⟩, skNew Ad.zero 2 3] [0] a c w (by decide) (by decide) h1)
  have HCk := Lib.hid (fun a b c d w h1 h2 => HC [⟨Ad.zero, 1, 0, 2, false⟩, skNew Ad.zero 2 3] [⟨false, 0, 0⟩, ⟨false, 1, 3⟩, ⟨true, 0, 3⟩, ⟨true, 0, 4⟩] 0 a b c d w (by decide) (by decide) (by decide) (by decide +kernel) h1 h2)
  clear HO HS HL HT HC
  simp only [List.length_cons, List.length_nil, Nat.zero_add, Nat.reduceAdd, Ad.zero] at H1 H2 H3 H4 HLv HTw HCk
  simp only [Int.natCast_zero] at H3 H4
  go_enter Try.func7, Try.ntmps7
  go_wp2_with fail
  with_reducible refine H1.out.mono ?_
  rintro e w1 ⟨a1, c1, b1, d1, rfl, hA, hB, hb⟩
  have HX2 := Lib.hid (H2.out a1 b1 c1 d1 w1 hA.row hB.row)
  have HB1 := Lib.hid hb
  clear hA hB hb H1 H2
  go_wp2_with fail
  with_reducible refine HX2.out.mono ?_
  rintro e w2 ⟨a2, c2, b2, d2, rfl, hA, hB, hb⟩
  have HX3 := Lib.hid (H3.out a2 b2 c2 d2 w2 hA.row hB.row)
  have HB2 := Lib.hid (HB1.out.trans (hb.mono HB1.out.size))
  clear hA hB hb H3 HX2 HB1
  go_wp2_with fail
  with_reducible refine HX3.out.mono ?_
  rintro e w3 ⟨a3, c3, b3, d3, rfl, hA, hB, hb⟩
  have HA3 := Lib.hid hA.row
  have HN3 := Lib.hid hB.row
  have HX4 := Lib.hid (HLv.out a3 c3 w3 hA.row)
  have HB3 := Lib.hid (HB2.out.trans (hb.mono HB2.out.size))
  clear hA hB hb HX3 HB2
  go_wp2_with fail
  with_reducible refine HX4.out.mono ?_
  rintro e w4 ⟨a4, c4, rfl, hI, hb⟩
  have HA4 := Lib.hid (HA3.out.below hb)
  have HN4 := Lib.hid (HN3.out.below hb)
  have HX5 := Lib.hid (HLv.out a3 c3 w4 (HA3.out.below hb))
  have HB4 := Lib.hid (HB3.out.trans (hb.mono HB3.out.size))
  clear hI hb HX4 HB3 HA3 HN3 HLv
  go_wp2_with fail
  with_reducible refine HX5.out.mono ?_
  rintro e w5 ⟨a5, c5, rfl, hI, hb⟩
  have HX6 := Lib.hid (H4.out a3 b3 c3 d3 w5 (HA4.out.below hb) (HN4.out.below hb))
  have HB5 := Lib.hid (HB4.out.trans (hb.mono HB4.out.size))
  obtain ⟨gi, oi, rfl, hgi, hat⟩ := hI.2.2.2 (by simp)
  have i0 := IK.one hat (j := 0) (x := 1) rfl
  simp only [Nat.add_zero] at i0
  clear hI hb hat HX5 HB4 HA4 HN4 H4
  go_wp2_with fail
  with_reducible refine HX6.out.mono ?_
  rintro e w6 ⟨a6, c6, b6, d6, rfl, hA, hB, hb⟩
  have HA6 := Lib.hid hA.row
  have HN6 := Lib.hid hB.row
  have HX7 := Lib.hid (HTw.out a6 c6 w6 hA.row)
  have HB6 := Lib.hid (HB5.out.trans (hb.mono HB5.out.size))
  clear hA hB hb HX6 HB5 HTw i0
  go_wp2_with fail
  with_reducible refine HX7.out.mono ?_
  rintro e w7 ⟨a7, c7, rfl, hI, hb⟩
  have HX8 := Lib.hid (HCk.out a6 b6 c6 d6 w7 (HA6.out.below hb) (HN6.out.below hb))
  have HB7 := Lib.hid (HB6.out.trans (hb.mono HB6.out.size))
  clear hI hb HX7 HB6 HA6 HN6 HCk
  go_wp2_with fail
  with_reducible refine HX8.out.mono ?_
  rintro e w8 ⟨rfl, hb⟩
  have HB8 := Lib.hid (HB7.out.trans (hb.mono HB7.out.size))
  clear hb HX8 HB7
  go_wp2_with fail
  go_ret
  exact ⟨rfl, HB8.out⟩
end Go.Proofs.Ytdpnnmbdbfpaeaa
