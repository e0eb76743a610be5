/- The document's own addresses, read. -/
import Derived.Test.YtbejnnkdgcelmaaGreatDoorRefI
import Derived.IntWalk
set_option linter.unusedSimpArgs false
set_option linter.unusedVariables false
namespace Go.Proofs.YtbejnnkdgcelmaaGreatDoor
open Go.RowKit

theorem P.cutF_head (c b : UInt8) : ∀ (l cur : List UInt8), ∃ x r, P.cutF c (b :: cur) l = (b :: x) :: r
  | [], cur => ⟨cur, [], rfl⟩
  | d :: l, cur => by
    unfold P.cutF
    split
    · exact ⟨cur, _, rfl⟩
    · exact P.cutF_head c b l (cur ++ [d])
theorem P.four_open (l : List UInt8) : P.fourP (91 :: l) = none := by
  obtain ⟨x, r, h⟩ := P.cutF_head 46 91 l []
  have hc : P.cutP 46 (91 :: l) = (91 :: x) :: r := by rw [P.cutP, P.cutF, if_neg (by decide)]; exact h
  rw [P.fourP_cut, hc]
  split
  · rw [P.fourF, show P.numP 255 (91 :: x) = none from by
      rw [P.numP, if_neg (by simp), if_neg (by simp), P.numF, if_neg (by decide)]]
  · rfl
theorem P.host_nil : P.hostR [] = (4, none) := by decide
theorem P.host_open (G : List UInt8) (c : UInt8) (h : c ≠ 93) : P.hostR (91 :: (G ++ [c])) = (4, none) := by
  have hs : Lib.hasSuffix (Lib.trimPrefix (91 :: (G ++ [c])) [91]) [93] = false := by
    have ht : Lib.trimPrefix (91 :: (G ++ [c])) [91] = G ++ [c] := rfl
    rw [ht, Lib.hasSuffix]
    cases hh : List.isSuffixOf [93] (G ++ [c]) with
    | false => rfl
    | true =>
      obtain ⟨t, ht⟩ := List.isSuffixOf_iff_suffix.1 hh
      have := congrArg List.getLast? ht
      rw [List.getLast?_concat, List.getLast?_concat] at this
      exact absurd (Option.some.inj this).symm h
  rw [P.hostR, if_neg (by rw [hs]; simp), P.four_open]; rfl
theorem P.host_one : P.hostR [91] = (4, none) := by decide
theorem P.host_else (b : UInt8) (l : List UInt8) (h : b ≠ 91) : P.hostR (b :: l) = (4, (P.fourP (b :: l)).map fun x => [x.1, x.2, 0, 0, 0, 0, 0, 0]) := by
  have hp : Lib.hasPrefix (b :: l) [91] = false := by simp [Lib.hasPrefix, List.isPrefixOf, Ne.symm h]
  rw [P.hostR, if_neg (by rw [hp]; simp)]

theorem P.parse_early (s : ByteArray) (h : Lib.lastIndexByte s 58 < 1) (h1 : -1 ≤ Lib.lastIndexByte s 58) : P.parseP s = none := by
  rw [P.parseP]
  split
  · rfl
  · rw [show (Lib.lastIndexByte s 58).toNat = 0 by omega, List.take_zero, P.host_nil]; rfl
theorem P.parse_at (s : ByteArray) (n : Nat) (h : Lib.lastIndexByte s 58 = n) : P.parseP s = P.parseC (P.hostR (s.data.toList.take n)).1 (P.hostR (s.data.toList.take n)).2 (P.numP 65535 (s.data.toList.drop (n + 1))) := by
  rw [P.parseP, h, if_neg (by omega), Int.toNat_natCast]
theorem P.parseC_no (f : Int) (o : Option (List Nat)) : P.parseC f o none = none := by cases o <;> rfl
theorem P.parseC_zero (f : Int) (o : Option (List Nat)) : P.parseC f o (some 0) = none := by
  cases o with
  | none => rfl
  | some gs => rw [P.parseC, if_neg]; rw [mayP_eq]; simp [adMk]
theorem P.parseC_bad (f : Int) (o : Option Nat) : P.parseC f none o = none := by cases o <;> rfl
theorem P.parseC_six (gs : List Nat) (p : Nat) (h1 : 1 ≤ p) (h2 : p ≤ 65535) : P.parseC 6 (some gs) (some p) = some (adMk 6 gs p) := by
  rw [P.parseC, if_pos]; rw [mayP_eq]; simp [adMk, mayG]; omega
theorem P.parseC_four (x y : Nat) (p : Nat) (h1 : 1 ≤ p) (h2 : p ≤ 65535) : P.parseC 4 (some [x, y, 0, 0, 0, 0, 0, 0]) (some p) = some (adMk 4 [x, y, 0, 0, 0, 0, 0, 0] p) := by
  rw [P.parseC, if_pos]; rw [mayP_eq]; simp [adMk, mayG]; omega

theorem take_head (s : ByteArray) (n : Nat) (hn : 1 ≤ n) (hp : 0 < s.size) : s.data.toList.take n = s[0]'hp :: (s.data.toList.take n).drop 1 := by
  have h := get_drop s 0 hp
  rw [List.drop_zero] at h
  obtain ⟨m, rfl⟩ : ∃ m, n = m + 1 := ⟨n - 1, by omega⟩
  rw [h]; simp
theorem take_both (s : ByteArray) (m : Nat) (hn : 1 ≤ m) (hns : m + 1 < s.size) (hp : 0 < s.size) (hl : m < s.size) : s.data.toList.take (m + 1) = s[0]'hp :: ((s.data.toList.take m).drop 1 ++ [s[m]'hl]) := by
  rw [take_head s (m + 1) (by omega) hp]
  congr 1
  exact seg_snoc s 1 m hl (by omega)
def setG8 (w : World) (b : Nat) (x0 x1 x2 x3 x4 x5 x6 x7 : Int) : World := ((((((((w.setCell ⟨b, 1, none⟩ (.int .u16 x0)).setCell ⟨b, 2, none⟩ (.int .u16 x1)).setCell ⟨b, 3, none⟩ (.int .u16 x2)).setCell ⟨b, 4, none⟩ (.int .u16 x3)).setCell ⟨b, 5, none⟩ (.int .u16 x4)).setCell ⟨b, 6, none⟩ (.int .u16 x5)).setCell ⟨b, 7, none⟩ (.int .u16 x6)).setCell ⟨b, 8, none⟩ (.int .u16 x7))
theorem setG8_below {w0 w : World} {n b : Nat} (h : Below n w0 w) (hn : n ≤ b) (x0 x1 x2 x3 x4 x5 x6 x7 : Int) : Below n w0 (setG8 w b x0 x1 x2 x3 x4 x5 x6 x7) := ((((((((h.setCell (p := ⟨b, 1, none⟩) hn _).setCell (p := ⟨b, 2, none⟩) hn _).setCell (p := ⟨b, 3, none⟩) hn _).setCell (p := ⟨b, 4, none⟩) hn _).setCell (p := ⟨b, 5, none⟩) hn _).setCell (p := ⟨b, 6, none⟩) hn _).setCell (p := ⟨b, 7, none⟩) hn _).setCell (p := ⟨b, 8, none⟩) hn _)
theorem setG8_block (w : World) (b : Nat) (x0 x1 x2 x3 x4 x5 x6 x7 : Int) (k : Nat) (hk : k ≠ b) : (setG8 w b x0 x1 x2 x3 x4 x5 x6 x7).heap[k]? = w.heap[k]? := by
  unfold setG8
  repeat rw [Below.heap_setCell _ _ _ k hk]
theorem lt_of_a10 {w : World} {b : Nat} {f g0 g1 g2 g3 g4 g5 g6 g7 p : Int} (h : A10 w b f g0 g1 g2 g3 g4 g5 g6 g7 p) : b < w.heap.size := World.block_lt_of_cell? _ _ h.c0

def FourR (k x y : Nat) (ps : List (List UInt8)) : Prop := P.fourF k x y (ps.drop k) = P.fourF 0 0 0 ps ∧ (k = 0 ∧ x = 0 ∧ y = 0 ∨ k = 1 ∧ x ≤ 255 ∧ y = 0 ∨ k = 2 ∧ x ≤ 65535 ∧ y = 0 ∨ k = 3 ∧ x ≤ 65535 ∧ y ≤ 255 ∨ k = 4 ∧ x ≤ 65535 ∧ y ≤ 65535)
theorem four_none (k x y : Nat) (ps : List (List UInt8)) (q : List UInt8) (hk : k < 4) (h : FourR k x y ps) (hq : ps[k]? = some q) (hn : P.numP 255 q = none) : P.fourF 0 0 0 ps = none := by
  rw [← h.1, List.drop_eq_getElem_cons (List.getElem?_eq_some_iff.1 hq).1, (List.getElem?_eq_some_iff.1 hq).2]
  exact fourF_none _ _ _ _ _ hn
theorem four_low (k x y m : Nat) (ps : List (List UInt8)) (q : List UInt8) (hk : k < 2) (h : FourR k x y ps) (hq : ps[k]? = some q) (hn : P.numP 255 q = some m) (hm : m ≤ 255) : FourR (k + 1) (x * 256 + m) y ps := by
  refine ⟨?_, ?_⟩
  · rw [← h.1, List.drop_eq_getElem_cons (i := k) (List.getElem?_eq_some_iff.1 hq).1, (List.getElem?_eq_some_iff.1 hq).2]
    exact (fourF_low _ _ _ _ _ _ hn hk).symm
  · have := h.2; omega
theorem four_high (k x y m : Nat) (ps : List (List UInt8)) (q : List UInt8) (hk : 2 ≤ k) (hk4 : k < 4) (h : FourR k x y ps) (hq : ps[k]? = some q) (hn : P.numP 255 q = some m) (hm : m ≤ 255) : FourR (k + 1) x (y * 256 + m) ps := by
  refine ⟨?_, ?_⟩
  · rw [← h.1, List.drop_eq_getElem_cons (i := k) (List.getElem?_eq_some_iff.1 hq).1, (List.getElem?_eq_some_iff.1 hq).2]
    exact (fourF_high _ _ _ _ _ _ hn (by omega)).symm
  · have := h.2; omega

theorem refParse_end {act : Act} {w W : World} {b : Nat} {x0 x1 x2 x3 x4 x5 x6 x7 x8 x9 : Int} {o : Option Ad} (hA : A10 W b x0 x1 x2 x3 x4 x5 x6 x7 x8 x9) (hb : Below w.heap.size w W)
    (h2 : act.tmps.getD 2 undef = .pointer (some ⟨b, 0, none⟩)) (h3 : act.tmps.getD 3 undef = .int .i64 (if o.isSome then 0 else 20)) (h4 : act.defers = []) (ho : o.getD Ad.zero = ⟨x0, x1, x2, x3, x4, x5, x6, x7, x8, x9⟩) :
    bodyPost Tryz.prog Tryz.f10 (fun e w' => e = .returned (P.parseV o) ∧ Below w.heap.size w w') Exit.ret act W := by
  refine bodyPost_ret (res_cell_tmp rfl _ _ _ b h2 _ (loadVar_addr hA)) h4 ?_
  refine ⟨?_, hb⟩
  rw [h3]
  unfold P.parseV
  rw [ho]
  rfl

set_option maxHeartbeats 16000000 in
set_option maxRecDepth 1000000 in
theorem refParse_any (s : ByteArray) (w : World) (hs : s.size ≤ 4000) :
    Calls Tryz.prog 10 #[.string s] w fun e w' => e = .returned (P.parseV (P.parseP s)) ∧ Below w.heap.size w w' := by
  have hsp := Lib.lastIndexByte_spec s 58
  have hbw0 : Below w.heap.size w (w.alloc (Obj.cells #[.int .i8 0, .int .u16 0, .int .u16 0, .int .u16 0, .int .u16 0, .int .u16 0, .int .u16 0, .int .u16 0, .int .u16 0, .int .i64 0] 26)) := (Below.refl _ w).alloc (Nat.le_refl _) _
  have hA := a10_zero w 26
  generalize hW : w.alloc (Obj.cells #[.int .i8 0, .int .u16 0, .int .u16 0, .int .u16 0, .int .u16 0, .int .u16 0, .int .u16 0, .int .u16 0, .int .u16 0, .int .i64 0] 26) = W0 at *
  have hWs : W0.heap.size = w.heap.size + 1 := by rw [← hW]; simp
  have HL := Lib.hid (list_size s)
  have HA := Lib.hid hA
  have HW := Lib.hid hW
  have HB0 := Lib.hid hbw0
  have HSp := Lib.hid hsp
  obtain ⟨c0, c1, c2, c3, c4, c5, c6, c7, c8, c9, fz⟩ := id hA
  clear hA hW hbw0 hsp
  go_enter Tryz.func10, Tryz.ntmps10
  go_wp2_with fail
  rw [HW.out]
  go_loop [4, 5] (fun u4 u5 => ∃ (k : Nat) (a : Int), u5 = .int .i64 k ∧ u4 = .int .i64 a ∧ k ≤ s.size ∧ -1 ≤ a ∧ a < k ∧ Hid (Lib.lastIdx s 58 k = a)) (fun _ u5 => s.size - (intOf u5).toNat)
  case atStart => exact ⟨0, -1, rfl, rfl, by omega, by omega, by omega, Lib.hid rfl⟩
  case round =>
    obtain ⟨k, a, rfl, rfl, hk, ha1, hak, hI⟩ := hrel
    by_cases hlt : k < s.size
    · have hget : ((s.data[k]!).toNat : Int) = (s[k]'hlt).toNat := by
        rw [show s.data[k]! = s[k]'hlt from getElem!_pos s.data k hlt]
      by_cases h58 : (s[k]'hlt).toNat = 58
      · have hb : ((((s[k]'hlt).toNat : Nat) : Int) == 58) = true := by rw [h58]; rfl
        have HI := Lib.hid (show Lib.lastIdx s 58 (k + 1) = k from Lib.lastIdx_hit s 58 k (by rw [hget, h58]; rfl))
        clear h58 hI hget
        go_wp2_with fail
        go_round
        case rel => exact ⟨k + 1, k, by go_num, rfl, by omega, by omega, by omega, HI⟩
        case measure => simp [intOf]; omega
      · have hb : ((((s[k]'hlt).toNat : Nat) : Int) == 58) = false := by simp; omega
        have HI := Lib.hid (show Lib.lastIdx s 58 (k + 1) = a by rw [Lib.lastIdx_miss s 58 k (by rw [hget]; omega)]; exact hI.out)
        clear h58 hI hget
        go_wp2_with fail
        go_round
        case rel => exact ⟨k + 1, a, by go_num, rfl, by omega, by omega, by omega, HI⟩
        case measure => simp [intOf]; omega
    · obtain rfl : k = s.size := by omega
      have HI := Lib.hid (show Lib.lastIndexByte s 58 = a from hI.out)
      clear hI
      by_cases ha0 : a < 1
      · have HP := Lib.hid (P.parse_early s (by rw [HI.out]; exact ha0) (by rw [HI.out]; exact ha1))
        go_wp2_with fail
        change bodyPost _ _ _ _ _ (set10 W0 w.heap.size 0 0 0 0 0 0 0 0 0 0)
        rw [HP.out]
        exact refParse_end (HA.out.all _ _ _ _ _ _ _ _ _ _) (set10_below HB0.out (Nat.le_refl _) _ _ _ _ _ _ _ _ _ _) rfl rfl rfl rfl
      · obtain ⟨n, rfl⟩ : ∃ n : Nat, a = n := ⟨a.toNat, by omega⟩
        have HP := Lib.hid (P.parse_at s n HI.out)
        have hn1 : 1 ≤ n := by omega
        have hns : n < s.size := by omega
        have hpos : 0 < s.size := by omega
        have HD := Lib.hid (decimal_any (s.extract (n + 1) s.size) 65535 W0 (Nat.le_trans (ext_size s (n + 1) s.size) hs) (by omega))
        rw [show (s.extract (n + 1) s.size).data.toList = s.data.toList.drop (n + 1) by rw [ext_eq, List.take_of_length_le (by rw [HL.out]; omega)], show ((65535 : Nat) : Int) = 65535 from rfl] at HD
        obtain ⟨o2, ho2⟩ : ∃ o, P.numP 65535 (s.data.toList.drop (n + 1)) = o := ⟨_, rfl⟩
        have hple := P.numP_le 65535 (s.data.toList.drop (n + 1))
        rw [ho2] at HP HD hple
        have HLe := Lib.hid hple
        clear ho2 hple ha0 HI ha1 HSp hak
        go_wp2_with fail
        with_reducible refine HD.out.mono ?_
        rintro e w1 ⟨x, rfl, hx, rfl⟩
        have HX := Lib.hid hx
        clear hx HD
        cases o2 with
        | none =>
          have HN := Lib.hid (show P.parseP s = none by rw [HP.out, P.parseC_no])
          simp only [Option.isSome_none]
          go_wp2_with fail
          change bodyPost _ _ _ _ _ (set10 W0 w.heap.size 0 0 0 0 0 0 0 0 0 0)
          rw [HN.out]
          exact refParse_end (HA.out.all _ _ _ _ _ _ _ _ _ _) (set10_below HB0.out (Nat.le_refl _) _ _ _ _ _ _ _ _ _ _) rfl rfl rfl rfl
        | some p =>
          obtain rfl := HX.out p rfl
          simp only [Option.isSome_some]
          by_cases hp0 : p = 0
          · have HN := Lib.hid (show P.parseP s = none by rw [HP.out, hp0, P.parseC_zero])
            have hpb : (((p : Nat) : Int) == 0) = true := by rw [hp0]; rfl
            clear HX hp0 HP HLe
            go_wp2_with fail
            change bodyPost _ _ _ _ _ (set10 W0 w.heap.size 0 0 0 0 0 0 0 0 0 0)
            rw [HN.out]
            exact refParse_end (HA.out.all _ _ _ _ _ _ _ _ _ _) (set10_below HB0.out (Nat.le_refl _) _ _ _ _ _ _ _ _ _ _) rfl rfl rfl rfl
          · have hpb : (((p : Nat) : Int) == 0) = false := by simp [hp0]
            have hp1 : 1 ≤ p := by omega
            have hp2 := HLe.out p rfl
            clear HX hp0 HLe
            go_upto_region 13 with fail
            have hA2 := a10_at W0 4 0 0 0 0 0 0 0 0 p 26
            have hAr2 : A10 (W0.alloc (Obj.cells #[.int .i8 4, .int .u16 0, .int .u16 0, .int .u16 0, .int .u16 0, .int .u16 0, .int .u16 0, .int .u16 0, .int .u16 0, .int .i64 (p : Int)] 26)) w.heap.size 0 0 0 0 0 0 0 0 0 0 := HA.out.below ((Below.refl W0.heap.size W0).alloc (Nat.le_refl _) _) (by omega)
            have hB2 : Below w.heap.size w (W0.alloc (Obj.cells #[.int .i8 4, .int .u16 0, .int .u16 0, .int .u16 0, .int .u16 0, .int .u16 0, .int .u16 0, .int .u16 0, .int .u16 0, .int .i64 (p : Int)] 26)) := HB0.out.alloc HB0.out.size _
            rw [hWs] at hA2
            generalize W0.alloc (Obj.cells #[.int .i8 4, .int .u16 0, .int .u16 0, .int .u16 0, .int .u16 0, .int .u16 0, .int .u16 0, .int .u16 0, .int .u16 0, .int .i64 (p : Int)] 26) = W2 at *
            have HA2 := Lib.hid hA2
            have HAr2 := Lib.hid hAr2
            have HB2 := Lib.hid hB2
            clear hA2 hAr2 hB2 c0 c1 c2 c3 c4 c5 c6 c7 c8 c9 fz HA HB0 HW hWs
            by_cases h91 : s[0]'hpos = 91
            · have hb91 : ((((s[0]'hpos).toNat : Nat) : Int) == 91) = true := by rw [h91]; rfl
              by_cases hn2 : n < 2
              · have HN := Lib.hid (show P.parseP s = none by
                  obtain rfl : n = 1 := by omega
                  have h1 := take_head s 1 (by omega) hpos
                  rw [List.drop_eq_nil_of_le (by rw [List.length_take]; omega), h91] at h1
                  rw [HP.out, h1, P.host_one, P.parseC_bad])
                clear h91 HP
                obtain ⟨c0, c1, c2, c3, c4, c5, c6, c7, c8, c9, fz⟩ := HAr2.out
                go_wp2_with fail
                change bodyPost _ _ _ _ _ (set10 W2 w.heap.size 0 0 0 0 0 0 0 0 0 0)
                rw [HN.out]
                exact refParse_end (HAr2.out.all _ _ _ _ _ _ _ _ _ _) (set10_below HB2.out (Nat.le_refl _) _ _ _ _ _ _ _ _ _ _) rfl rfl rfl rfl
              · obtain ⟨m, rfl⟩ : ∃ m, n = m + 1 := ⟨n - 1, by omega⟩
                have hl2 : m < s.size := by omega
                have hF := take_both s m (by omega) hns hpos hl2
                rw [h91] at hF
                have hw1 : IntKind.i64.wrap ((m : Int) + 1 - 1) = (m : Int) := by rw [Int.add_sub_cancel]; exact IntWalk.i64_in _ (by omega)
                by_cases h93 : s[m]'hl2 = 93
                · have hb93 : ((((s[m]'hl2).toNat : Nat) : Int) != 93) = false := by rw [h93]; rfl
                  rw [h93] at hF
                  have HP2 := Lib.hid (show P.parseP s = P.parseC 6 (P.sixP ((s.data.toList.take m).drop 1)) (some p) by rw [HP.out, hF, P.hostR_six])
                  have HI := Lib.hid (fun W => inner_any (s.extract 1 m) W (Nat.le_trans (ext_size s 1 m) hs))
                  have hI2 := HI.out
                  rw [show (s.extract 1 m).data.toList = (s.data.toList.take m).drop 1 by rw [ext_eq]] at hI2
                  obtain ⟨o1, ho1⟩ : ∃ o, P.sixP ((s.data.toList.take m).drop 1) = o := ⟨_, rfl⟩
                  have h8 : (o1.getD P.zeros8).length = 8 := by
                    cases o1 with
                    | none => rfl
                    | some gs => exact (sixP_len _ gs ho1).1
                  rw [ho1] at hI2 HP2
                  obtain ⟨y0, y1, y2, y3, y4, y5, y6, y7, hY⟩ := list8 _ h8
                  rw [hY] at hI2
                  simp only [P.u16s, List.map_cons, List.map_nil] at hI2
                  have HI2 := Lib.hid hI2
                  have HY := Lib.hid hY
                  clear hI2 HI hY h8 ho1 h93 h91 hF HP
                  obtain ⟨c0, c1, c2, c3, c4, c5, c6, c7, c8, c9, fz⟩ := HAr2.out
                  obtain ⟨d0, d1, d2, d3, d4, d5, d6, d7, d8, d9, dz⟩ := HA2.out
                  go_wp2_with fail
                  have hA3 := HA2.out.set0 6
                  have hAr3 := HAr2.out.block (Below.heap_setCell W2 ⟨w.heap.size + 1, 0, none⟩ (.int .i8 6) w.heap.size (by simp))
                  have hB3 := HB2.out.setCell (p := ⟨w.heap.size + 1, 0, none⟩) (by simp) (.int .i8 6)
                  generalize W2.setCell ⟨w.heap.size + 1, 0, none⟩ (.int .i8 6) = W3 at *
                  have HA3 := Lib.hid hA3
                  have HAr3 := Lib.hid hAr3
                  have HB3 := Lib.hid hB3
                  clear hA3 hAr3 hB3 c0 c1 c2 c3 c4 c5 c6 c7 c8 c9 fz d0 d1 d2 d3 d4 d5 d6 d7 d8 d9 dz HA2 HAr2 HB2
                  with_reducible refine (HI2.out W3).mono ?_
                  rintro e w4 ⟨rfl, hb4⟩
                  have HA4 := Lib.hid (HA3.out.below hb4 (lt_of_a10 HA3.out))
                  have HAr4 := Lib.hid (HAr3.out.below hb4 (lt_of_a10 HAr3.out))
                  have HB4 := Lib.hid (HB3.out.trans (hb4.mono HB3.out.size))
                  clear hb4 HA3 HAr3 HB3 HI2
                  have HG5 := Lib.hid (show A10 (setG8 w4 (w.heap.size + 1) y0 y1 y2 y3 y4 y5 y6 y7) (w.heap.size + 1) 6 y0 y1 y2 y3 y4 y5 y6 y7 p from (((((((HA4.out.set1 y0).set2 y1).set3 y2).set4 y3).set5 y4).set6 y5).set7 y6).set8 y7)
                  have HAr5 := Lib.hid (HAr4.out.block (setG8_block w4 (w.heap.size + 1) y0 y1 y2 y3 y4 y5 y6 y7 w.heap.size (by omega)))
                  have HB5 := Lib.hid (setG8_below HB4.out (b := w.heap.size + 1) (by omega) y0 y1 y2 y3 y4 y5 y6 y7)
                  obtain ⟨d0, d1, d2, d3, d4, d5, d6, d7, d8, d9, dz⟩ := HA4.out
                  go_upto_region 18 with fail
                  change Code.wp _ _ _ _ (setG8 w4 (w.heap.size + 1) y0 y1 y2 y3 y4 y5 y6 y7)
                  generalize setG8 w4 (w.heap.size + 1) y0 y1 y2 y3 y4 y5 y6 y7 = W5 at *
                  clear d0 d1 d2 d3 d4 d5 d6 d7 d8 d9 dz HA4 HAr4 HB4
                  obtain ⟨c0, c1, c2, c3, c4, c5, c6, c7, c8, c9, fz⟩ := HAr5.out
                  obtain ⟨d0, d1, d2, d3, d4, d5, d6, d7, d8, d9, dz⟩ := HG5.out
                  cases o1 with
                  | none =>
                    have HN := Lib.hid (show P.parseP s = none by rw [HP2.out, P.parseC_bad])
                    simp only [Option.isSome_none]
                    go_wp2_with fail
                    change bodyPost _ _ _ _ _ (set10 W5 w.heap.size 0 0 0 0 0 0 0 0 0 0)
                    rw [HN.out]
                    exact refParse_end (HAr5.out.all _ _ _ _ _ _ _ _ _ _) (set10_below HB5.out (Nat.le_refl _) _ _ _ _ _ _ _ _ _ _) rfl rfl rfl rfl
                  | some gs =>
                    have HN := Lib.hid (show P.parseP s = some ⟨6, y0, y1, y2, y3, y4, y5, y6, y7, p⟩ by
                      rw [HP2.out, P.parseC_six _ _ hp1 hp2, show gs = [y0, y1, y2, y3, y4, y5, y6, y7] from HY.out]; rfl)
                    simp only [Option.isSome_some]
                    go_wp2_with fail
                    change bodyPost _ _ _ _ _ (set10 W5 w.heap.size 6 y0 y1 y2 y3 y4 y5 y6 y7 p)
                    rw [HN.out]
                    exact refParse_end (HAr5.out.all _ _ _ _ _ _ _ _ _ _) (set10_below HB5.out (Nat.le_refl _) _ _ _ _ _ _ _ _ _ _) rfl rfl rfl rfl
                · have hb93 : ((((s[m]'hl2).toNat : Nat) : Int) != 93) = true := by
                    have : (s[m]'hl2).toNat ≠ 93 := fun e => h93 (UInt8.toNat_inj.1 (by simpa using e))
                    simp; omega
                  have HN := Lib.hid (show P.parseP s = none by rw [HP.out, hF, P.host_open _ _ h93, P.parseC_bad])
                  clear h91 HP h93 hF
                  obtain ⟨c0, c1, c2, c3, c4, c5, c6, c7, c8, c9, fz⟩ := HAr2.out
                  go_wp2_with fail
                  change bodyPost _ _ _ _ _ (set10 W2 w.heap.size 0 0 0 0 0 0 0 0 0 0)
                  rw [HN.out]
                  exact refParse_end (HAr2.out.all _ _ _ _ _ _ _ _ _ _) (set10_below HB2.out (Nat.le_refl _) _ _ _ _ _ _ _ _ _ _) rfl rfl rfl rfl
            · have hb91 : ((((s[0]'hpos).toNat : Nat) : Int) == 91) = false := by
                have : (s[0]'hpos).toNat ≠ 91 := fun e => h91 (UInt8.toNat_inj.1 (by simpa using e))
                simp; omega
              have hH := take_head s n hn1 hpos
              have hR : P.hostR (s.data.toList.take n) = (4, (P.fourP (s.data.toList.take n)).map fun x => [x.1, x.2, 0, 0, 0, 0, 0, 0]) := by
                rw [hH]; exact P.host_else _ _ h91
              obtain ⟨ps, hps⟩ : ∃ ps, P.cutP 46 (s.data.toList.take n) = ps := ⟨_, rfl⟩
              have hF4 := P.fourP_cut (s.data.toList.take n)
              have HC := cut_any (s.extract 0 n) 46 W2 (Nat.le_trans (ext_size s 0 n) hs)
              rw [show (s.extract 0 n).data.toList = s.data.toList.take n by rw [ext_eq]; simp, hps, show (((46 : UInt8).toNat : Nat) : Int) = 46 from rfl] at HC
              rw [hps] at hF4
              have hpl := (P.cutP_len 46 (s.data.toList.take n)).2
              rw [hps, List.length_take, HL.out] at hpl
              have hsub : ∀ q ∈ ps, q.length ≤ 4000 := by
                intro q hq
                rw [← hps] at hq
                have := P.cutP_sub 46 _ q hq
                rw [List.length_take, HL.out] at this
                omega
              have HSub := Lib.hid hsub
              have HC2 := Lib.hid HC
              have HP2 := Lib.hid (show P.parseP s = P.parseC 4 ((P.fourP (s.data.toList.take n)).map fun x => [x.1, x.2, 0, 0, 0, 0, 0, 0]) (some p) by rw [HP.out, hR])
              have HF4 := Lib.hid hF4
              have hpl2 : ps.length ≤ 4001 := by omega
              clear hH hR hps hF4 HC hsub h91 HP hpl
              go_wp2_with fail
              with_reducible refine HC2.out.mono ?_
              rintro e w3 ⟨v3, rfl, hown, hb3⟩
              have hlt3 := lt_of_a10 HA2.out
              have hs3 := hb3.size
              have HA3 := Lib.hid (HA2.out.below hb3 hlt3)
              have HAr3 := Lib.hid (HAr2.out.below hb3 (lt_of_a10 HAr2.out))
              have HB3 := Lib.hid (HB2.out.trans (hb3.mono HB2.out.size))
              clear HA2 HAr2 HB2 HC2 hb3
              by_cases h4 : ps.length = 4
              · obtain ⟨g, cap, rfl, hg, hgs, hTS⟩ := own_tsAt hown (by omega)
                have HF5 := Lib.hid (show P.fourP (s.data.toList.take n) = P.fourF 0 0 0 ps by rw [HF4.out, if_pos h4])
                have hlb : (((ps.length : Nat) : Int) != 4) = false := by rw [h4]; rfl
                have hl4 : 4 ≤ ps.length := by omega
                have HTS := Lib.hid hTS
                have H4 := Lib.hid h4
                have hga : w.heap.size + 1 < g := by omega
                clear hTS hown h4 HF4 hgs hg
                go_wp2_with fail
                go_loopw [10] (fun u10 wr => ∃ (k x y : Nat), u10 = .int .i64 k ∧ k ≤ 4 ∧ Hid (Below w.heap.size w wr) ∧ Hid (A10 wr (w.heap.size + 1) 4 x y 0 0 0 0 0 0 p) ∧ Hid (A10 wr w.heap.size 0 0 0 0 0 0 0 0 0 0) ∧ Hid (TsAt wr g 0 ps) ∧ Hid (FourR k x y ps)) (fun u10 _ => 4 - (intOf u10).toNat)
                case atStart => exact ⟨0, 0, 0, rfl, by omega, HB3, HA3, HAr3, HTS, Lib.hid ⟨rfl, by omega⟩⟩
                case round =>
                  obtain ⟨k, x, y, rfl, hk4, HBk, HAk, HAr, HTk, hFR⟩ := hrel
                  obtain ⟨c0, c1, c2, c3, c4, c5, c6, c7, c8, c9, fz⟩ := HAr.out
                  obtain ⟨d0, d1, d2, d3, d4, d5, d6, d7, d8, d9, dz⟩ := HAk.out
                  rcases (show k = 0 ∨ k = 1 ∨ k = 2 ∨ k = 3 ∨ k = 4 by omega) with rfl | rfl | rfl | rfl | rfl
                  · obtain ⟨q, hq⟩ : ∃ q, ps[0]? = some q := ⟨_, List.getElem?_eq_getElem (by omega)⟩
                    have hcell := HTk.out 0 q hq
                    rw [Nat.zero_add] at hcell
                    have HD := Lib.hid (decimal_any ⟨q.toArray⟩ 255 wr (by rw [size_of_list]; exact HSub.out q (List.mem_of_getElem? hq)) (by omega))
                    rw [show (⟨q.toArray⟩ : ByteArray).data.toList = q from by simp, show ((255 : Nat) : Int) = 255 from rfl] at HD
                    have hvb : x ≤ 255 := by have := hFR.out.2; omega
                    have hkl : (0 : Int) < (ps.length : Int) := by omega
                    obtain ⟨o3, ho3⟩ : ∃ o, P.numP 255 q = o := ⟨_, rfl⟩
                    have HNl := Lib.hid (P.numP_le 255 q)
                    have HFN := Lib.hid (four_none 0 x y ps q (by omega) hFR.out hq)
                    have HFS := Lib.hid (fun m => four_low 0 x y m ps q (by omega) hFR.out hq)
                    rw [ho3] at HD HNl HFN HFS
                    clear hq ho3
                    generalize (⟨q.toArray⟩ : ByteArray) = Q at *
                    go_wp2_with fail
                    with_reducible refine HD.out.mono ?_
                    rintro e w5 ⟨v, rfl, hv, rfl⟩
                    have HV := Lib.hid hv
                    clear hv HD
                    cases o3 with
                    | none =>
                      have HN := Lib.hid (show P.parseP s = none by rw [HP2.out, HF5.out, HFN.out rfl]; exact P.parseC_bad _ _)
                      simp only [Option.isSome_none]
                      go_wp2_with fail
                      change bodyPost _ _ _ _ _ (set10 wr w.heap.size 0 0 0 0 0 0 0 0 0 0)
                      rw [HN.out]
                      exact refParse_end (HAr.out.all _ _ _ _ _ _ _ _ _ _) (set10_below HBk.out (Nat.le_refl _) _ _ _ _ _ _ _ _ _ _) rfl rfl rfl rfl
                    | some m =>
                      obtain rfl := HV.out m rfl
                      have hm := HNl.out m rfl
                      have HF6 := Lib.hid (HFS.out m rfl hm)
                      simp only [Option.isSome_some]
                      go_wp2_with fail
                      go_roundw
                      case rel => exact ⟨1, x * 256 + m, y, by go_num, by omega, Lib.hid (HBk.out.setCell (by simp) _), Lib.hid (by rw [show ((x * 256 + m : Nat) : Int) = (x : Int) * 256 + m by omega]; exact HAk.out.set1 _), Lib.hid (HAr.out.block (Below.heap_setCell _ _ _ _ (by simp))), Lib.hid (HTk.out.setCell (by simp; omega) _), HF6⟩
                      case measure => simp [intOf]
                  · obtain ⟨q, hq⟩ : ∃ q, ps[1]? = some q := ⟨_, List.getElem?_eq_getElem (by omega)⟩
                    have hcell := HTk.out 1 q hq
                    rw [Nat.zero_add] at hcell
                    have HD := Lib.hid (decimal_any ⟨q.toArray⟩ 255 wr (by rw [size_of_list]; exact HSub.out q (List.mem_of_getElem? hq)) (by omega))
                    rw [show (⟨q.toArray⟩ : ByteArray).data.toList = q from by simp, show ((255 : Nat) : Int) = 255 from rfl] at HD
                    have hvb : x ≤ 255 := by have := hFR.out.2; omega
                    have hkl : (1 : Int) < (ps.length : Int) := by omega
                    obtain ⟨o3, ho3⟩ : ∃ o, P.numP 255 q = o := ⟨_, rfl⟩
                    have HNl := Lib.hid (P.numP_le 255 q)
                    have HFN := Lib.hid (four_none 1 x y ps q (by omega) hFR.out hq)
                    have HFS := Lib.hid (fun m => four_low 1 x y m ps q (by omega) hFR.out hq)
                    rw [ho3] at HD HNl HFN HFS
                    clear hq ho3
                    generalize (⟨q.toArray⟩ : ByteArray) = Q at *
                    go_wp2_with fail
                    with_reducible refine HD.out.mono ?_
                    rintro e w5 ⟨v, rfl, hv, rfl⟩
                    have HV := Lib.hid hv
                    clear hv HD
                    cases o3 with
                    | none =>
                      have HN := Lib.hid (show P.parseP s = none by rw [HP2.out, HF5.out, HFN.out rfl]; exact P.parseC_bad _ _)
                      simp only [Option.isSome_none]
                      go_wp2_with fail
                      change bodyPost _ _ _ _ _ (set10 wr w.heap.size 0 0 0 0 0 0 0 0 0 0)
                      rw [HN.out]
                      exact refParse_end (HAr.out.all _ _ _ _ _ _ _ _ _ _) (set10_below HBk.out (Nat.le_refl _) _ _ _ _ _ _ _ _ _ _) rfl rfl rfl rfl
                    | some m =>
                      obtain rfl := HV.out m rfl
                      have hm := HNl.out m rfl
                      have HF6 := Lib.hid (HFS.out m rfl hm)
                      simp only [Option.isSome_some]
                      go_wp2_with fail
                      go_roundw
                      case rel => exact ⟨2, x * 256 + m, y, by go_num, by omega, Lib.hid (HBk.out.setCell (by simp) _), Lib.hid (by rw [show ((x * 256 + m : Nat) : Int) = (x : Int) * 256 + m by omega]; exact HAk.out.set1 _), Lib.hid (HAr.out.block (Below.heap_setCell _ _ _ _ (by simp))), Lib.hid (HTk.out.setCell (by simp; omega) _), HF6⟩
                      case measure => simp [intOf]
                  · obtain ⟨q, hq⟩ : ∃ q, ps[2]? = some q := ⟨_, List.getElem?_eq_getElem (by omega)⟩
                    have hcell := HTk.out 2 q hq
                    rw [Nat.zero_add] at hcell
                    have HD := Lib.hid (decimal_any ⟨q.toArray⟩ 255 wr (by rw [size_of_list]; exact HSub.out q (List.mem_of_getElem? hq)) (by omega))
                    rw [show (⟨q.toArray⟩ : ByteArray).data.toList = q from by simp, show ((255 : Nat) : Int) = 255 from rfl] at HD
                    have hvb : y ≤ 255 := by have := hFR.out.2; omega
                    have hkl : (2 : Int) < (ps.length : Int) := by omega
                    obtain ⟨o3, ho3⟩ : ∃ o, P.numP 255 q = o := ⟨_, rfl⟩
                    have HNl := Lib.hid (P.numP_le 255 q)
                    have HFN := Lib.hid (four_none 2 x y ps q (by omega) hFR.out hq)
                    have HFS := Lib.hid (fun m => four_high 2 x y m ps q (by omega) (by omega) hFR.out hq)
                    rw [ho3] at HD HNl HFN HFS
                    clear hq ho3
                    generalize (⟨q.toArray⟩ : ByteArray) = Q at *
                    go_wp2_with fail
                    with_reducible refine HD.out.mono ?_
                    rintro e w5 ⟨v, rfl, hv, rfl⟩
                    have HV := Lib.hid hv
                    clear hv HD
                    cases o3 with
                    | none =>
                      have HN := Lib.hid (show P.parseP s = none by rw [HP2.out, HF5.out, HFN.out rfl]; exact P.parseC_bad _ _)
                      simp only [Option.isSome_none]
                      go_wp2_with fail
                      change bodyPost _ _ _ _ _ (set10 wr w.heap.size 0 0 0 0 0 0 0 0 0 0)
                      rw [HN.out]
                      exact refParse_end (HAr.out.all _ _ _ _ _ _ _ _ _ _) (set10_below HBk.out (Nat.le_refl _) _ _ _ _ _ _ _ _ _ _) rfl rfl rfl rfl
                    | some m =>
                      obtain rfl := HV.out m rfl
                      have hm := HNl.out m rfl
                      have HF6 := Lib.hid (HFS.out m rfl hm)
                      simp only [Option.isSome_some]
                      go_wp2_with fail
                      go_roundw
                      case rel => exact ⟨3, x, y * 256 + m, by go_num, by omega, Lib.hid (HBk.out.setCell (by simp) _), Lib.hid (by rw [show ((y * 256 + m : Nat) : Int) = (y : Int) * 256 + m by omega]; exact HAk.out.set2 _), Lib.hid (HAr.out.block (Below.heap_setCell _ _ _ _ (by simp))), Lib.hid (HTk.out.setCell (by simp; omega) _), HF6⟩
                      case measure => simp [intOf]
                  · obtain ⟨q, hq⟩ : ∃ q, ps[3]? = some q := ⟨_, List.getElem?_eq_getElem (by omega)⟩
                    have hcell := HTk.out 3 q hq
                    rw [Nat.zero_add] at hcell
                    have HD := Lib.hid (decimal_any ⟨q.toArray⟩ 255 wr (by rw [size_of_list]; exact HSub.out q (List.mem_of_getElem? hq)) (by omega))
                    rw [show (⟨q.toArray⟩ : ByteArray).data.toList = q from by simp, show ((255 : Nat) : Int) = 255 from rfl] at HD
                    have hvb : y ≤ 255 := by have := hFR.out.2; omega
                    have hkl : (3 : Int) < (ps.length : Int) := by omega
                    obtain ⟨o3, ho3⟩ : ∃ o, P.numP 255 q = o := ⟨_, rfl⟩
                    have HNl := Lib.hid (P.numP_le 255 q)
                    have HFN := Lib.hid (four_none 3 x y ps q (by omega) hFR.out hq)
                    have HFS := Lib.hid (fun m => four_high 3 x y m ps q (by omega) (by omega) hFR.out hq)
                    rw [ho3] at HD HNl HFN HFS
                    clear hq ho3
                    generalize (⟨q.toArray⟩ : ByteArray) = Q at *
                    go_wp2_with fail
                    with_reducible refine HD.out.mono ?_
                    rintro e w5 ⟨v, rfl, hv, rfl⟩
                    have HV := Lib.hid hv
                    clear hv HD
                    cases o3 with
                    | none =>
                      have HN := Lib.hid (show P.parseP s = none by rw [HP2.out, HF5.out, HFN.out rfl]; exact P.parseC_bad _ _)
                      simp only [Option.isSome_none]
                      go_wp2_with fail
                      change bodyPost _ _ _ _ _ (set10 wr w.heap.size 0 0 0 0 0 0 0 0 0 0)
                      rw [HN.out]
                      exact refParse_end (HAr.out.all _ _ _ _ _ _ _ _ _ _) (set10_below HBk.out (Nat.le_refl _) _ _ _ _ _ _ _ _ _ _) rfl rfl rfl rfl
                    | some m =>
                      obtain rfl := HV.out m rfl
                      have hm := HNl.out m rfl
                      have HF6 := Lib.hid (HFS.out m rfl hm)
                      simp only [Option.isSome_some]
                      go_wp2_with fail
                      go_roundw
                      case rel => exact ⟨4, x, y * 256 + m, by go_num, by omega, Lib.hid (HBk.out.setCell (by simp) _), Lib.hid (by rw [show ((y * 256 + m : Nat) : Int) = (y : Int) * 256 + m by omega]; exact HAk.out.set2 _), Lib.hid (HAr.out.block (Below.heap_setCell _ _ _ _ (by simp))), Lib.hid (HTk.out.setCell (by simp; omega) _), HF6⟩
                      case measure => simp [intOf]
                  · have HN := Lib.hid (show P.parseP s = some ⟨4, x, y, 0, 0, 0, 0, 0, 0, p⟩ by
                      have hz : ps.drop 4 = [] := List.drop_eq_nil_of_le (by rw [H4.out]; omega)
                      have hf := hFR.out.1
                      rw [hz, P.fourF] at hf
                      rw [HP2.out, HF5.out, ← hf]
                      exact (P.parseC_four x y p hp1 hp2).trans rfl)
                    go_wp2_with fail
                    change bodyPost _ _ _ _ _ (set10 wr w.heap.size 4 x y 0 0 0 0 0 0 p)
                    rw [HN.out]
                    exact refParse_end (HAr.out.all _ _ _ _ _ _ _ _ _ _) (set10_below HBk.out (Nat.le_refl _) _ _ _ _ _ _ _ _ _ _) rfl rfl rfl rfl
              · obtain ⟨a1, k1, rfl⟩ := row_form hown
                have hlb : (((ps.length : Nat) : Int) != 4) = true := by simp; omega
                have HN := Lib.hid (show P.parseP s = none by rw [HP2.out, HF4.out, if_neg h4]; exact P.parseC_bad _ _)
                clear hown h4 HP2 HF4
                obtain ⟨c0, c1, c2, c3, c4, c5, c6, c7, c8, c9, fz⟩ := HAr3.out
                go_wp2_with fail
                change bodyPost _ _ _ _ _ (set10 w3 w.heap.size 0 0 0 0 0 0 0 0 0 0)
                rw [HN.out]
                exact refParse_end (HAr3.out.all _ _ _ _ _ _ _ _ _ _) (set10_below HB3.out (Nat.le_refl _) _ _ _ _ _ _ _ _ _ _) rfl rfl rfl rfl

end Go.Proofs.YtbejnnkdgcelmaaGreatDoor
