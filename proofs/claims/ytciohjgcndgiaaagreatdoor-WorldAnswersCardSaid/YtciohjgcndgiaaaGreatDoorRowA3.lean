/- Of stage 02: what row_any, refRow_any leans on (part 3). -/
import Derived.Test.YtciohjgcndgiaaaGreatDoorRowA2
import Derived.WalkKit
import Derived.Handy
import Derived.WalkSpells
import Derived.WalkLawsBesides
import Derived.WalkSmall
import Derived.ShutString
import Derived.Lib.Hide
import Derived.Below
import Derived.Deep.Light
import Derived.Deep.LoopGhost
import Derived.Deep.QuietTactic
import Derived.BigQuiet
import Derived.ProofKit
import Derived.Laws.StructEq
import Derived.ChangeKeysEq
import Derived.Lib.Join
import Derived.Lib.ItoaNum
import Derived.Lib.LaidTab
import Derived.Lib.UnsafeStr
import Derived.Lib.AppendStr
import Derived.Laws.BytesString
import Derived.Laws.BitsAllLaws
import Derived.Laws.OwnMore
import Derived.OwnWalk
import Derived.Maps.AppendAt
import Derived.Deep.Onto
import Derived.Lib.Split
import Derived.Laws.ResultCell
import Derived.Laws.CopyOwn
import Derived.Lib.AppendIntMem
import Derived.Lib.ItoaLen
import Derived.Deep.RegionWith
import Derived.Lib.LastIndexByte
set_option linter.unusedSimpArgs false
set_option linter.unusedVariables false
namespace Go.Proofs.YtciohjgcndgiaaaGreatDoor.R2
open Go.RowKit
set_option maxHeartbeats 4000000 in
theorem refMay_one (a : Ad) (w : World) : Calls Tryz.prog 55 #[a.v] w fun e w' => e = .returned (.bool (mayP a)) ∧ Below w.heap.size w w' := by
  have hX := a10_at w a.f a.g0 a.g1 a.g2 a.g3 a.g4 a.g5 a.g6 a.g7 a.p 59
  have HB := Lib.hid ((Below.refl w.heap.size w).alloc (Nat.le_refl _) (Obj.cells #[.int .i8 a.f, .int .u16 a.g0, .int .u16 a.g1, .int .u16 a.g2, .int .u16 a.g3, .int .u16 a.g4, .int .u16 a.g5, .int .u16 a.g6, .int .u16 a.g7, .int .i64 a.p] 59))
  have HX := Lib.hid hX
  clear hX
  simp only [Ad.v, Ad.enc]
  have HM := Lib.hid (mayP_eq a)
  by_cases hp1 : a.p < 1
  · have HR := Lib.hid (show mayP a = false by rw [HM.out]; simp [hp1])
    go_enter Tryz.func55, Tryz.ntmps55
    go_wp2_with fail
    generalize w.alloc (Obj.cells #[.int .i8 a.f, .int .u16 a.g0, .int .u16 a.g1, .int .u16 a.g2, .int .u16 a.g3, .int .u16 a.g4, .int .u16 a.g5, .int .u16 a.g6, .int .u16 a.g7, .int .i64 a.p] 59) = W1 at *
    obtain ⟨d0, d1, d2, d3, d4, d5, d6, d7, d8, d9, dz⟩ := HX.out
    go_wp2_with fail
    go_ret
    exact ⟨by rw [HR.out]; rfl, HB.out⟩
  · by_cases hp2 : 65535 < a.p
    · have HR := Lib.hid (show mayP a = false by rw [HM.out]; simp [hp2])
      go_enter Tryz.func55, Tryz.ntmps55
      go_wp2_with fail
      generalize w.alloc (Obj.cells #[.int .i8 a.f, .int .u16 a.g0, .int .u16 a.g1, .int .u16 a.g2, .int .u16 a.g3, .int .u16 a.g4, .int .u16 a.g5, .int .u16 a.g6, .int .u16 a.g7, .int .i64 a.p] 59) = W1 at *
      obtain ⟨d0, d1, d2, d3, d4, d5, d6, d7, d8, d9, dz⟩ := HX.out
      go_wp2_with fail
      go_ret
      exact ⟨by rw [HR.out]; rfl, HB.out⟩
    · by_cases h4 : a.f = 4
      · have HR := Lib.hid (show ((a.gs.drop 2).all (· == 0)) = mayP a by rw [HM.out]; simp [mayG, h4, hp1, hp2, Ad.gs, Bool.and_assoc])
        have hf1 : (a.f != 4) = false := by simp [h4]
        have hf2 : (a.f == 4) = true := by simp [h4]
        clear h4
        go_enter Tryz.func55, Tryz.ntmps55
        go_wp2_with fail
        generalize w.alloc (Obj.cells #[.int .i8 a.f, .int .u16 a.g0, .int .u16 a.g1, .int .u16 a.g2, .int .u16 a.g3, .int .u16 a.g4, .int .u16 a.g5, .int .u16 a.g6, .int .u16 a.g7, .int .i64 a.p] 59) = W1 at *
        obtain ⟨d0, d1, d2, d3, d4, d5, d6, d7, d8, d9, dz⟩ := HX.out
        go_wp2_with fail
        go_loop [3] (fun u3 => ∃ i : Nat, u3 = .int .i64 i ∧ 2 ≤ i ∧ i ≤ 8 ∧ Hid (((a.gs.drop i).all (· == 0)) = mayP a)) (fun u3 => 8 - (intOf u3).toNat)
        case atStart => exact ⟨2, rfl, by omega, by omega, HR⟩
        case round =>
          obtain ⟨i, rfl, hi2, hi8, hR⟩ := hrel
          rcases (show i = 2 ∨ i = 3 ∨ i = 4 ∨ i = 5 ∨ i = 6 ∨ i = 7 ∨ i = 8 by omega) with rfl | rfl | rfl | rfl | rfl | rfl | rfl
          · by_cases hg : a.g2 = 0
            · have hgb : (a.g2 != 0) = false := by simp [hg]
              have HR2 := Lib.hid (show ((a.gs.drop 3).all (· == 0)) = mayP a by rw [← hR.out]; simp [Ad.gs, hg])
              clear hg
              go_wp2_with fail
              go_round
              case rel => exact ⟨3, rfl, by omega, by omega, HR2⟩
              case measure => simp [intOf]
            · have hgb : (a.g2 != 0) = true := by simp [hg]
              have HR2 := Lib.hid (show mayP a = false by rw [← hR.out]; simp [Ad.gs, hg])
              clear hg
              go_wp2_with fail
              go_ret
              exact ⟨by rw [HR2.out]; rfl, HB.out⟩
          · by_cases hg : a.g3 = 0
            · have hgb : (a.g3 != 0) = false := by simp [hg]
              have HR2 := Lib.hid (show ((a.gs.drop 4).all (· == 0)) = mayP a by rw [← hR.out]; simp [Ad.gs, hg])
              clear hg
              go_wp2_with fail
              go_round
              case rel => exact ⟨4, rfl, by omega, by omega, HR2⟩
              case measure => simp [intOf]
            · have hgb : (a.g3 != 0) = true := by simp [hg]
              have HR2 := Lib.hid (show mayP a = false by rw [← hR.out]; simp [Ad.gs, hg])
              clear hg
              go_wp2_with fail
              go_ret
              exact ⟨by rw [HR2.out]; rfl, HB.out⟩
          · by_cases hg : a.g4 = 0
            · have hgb : (a.g4 != 0) = false := by simp [hg]
              have HR2 := Lib.hid (show ((a.gs.drop 5).all (· == 0)) = mayP a by rw [← hR.out]; simp [Ad.gs, hg])
              clear hg
              go_wp2_with fail
              go_round
              case rel => exact ⟨5, rfl, by omega, by omega, HR2⟩
              case measure => simp [intOf]
            · have hgb : (a.g4 != 0) = true := by simp [hg]
              have HR2 := Lib.hid (show mayP a = false by rw [← hR.out]; simp [Ad.gs, hg])
              clear hg
              go_wp2_with fail
              go_ret
              exact ⟨by rw [HR2.out]; rfl, HB.out⟩
          · by_cases hg : a.g5 = 0
            · have hgb : (a.g5 != 0) = false := by simp [hg]
              have HR2 := Lib.hid (show ((a.gs.drop 6).all (· == 0)) = mayP a by rw [← hR.out]; simp [Ad.gs, hg])
              clear hg
              go_wp2_with fail
              go_round
              case rel => exact ⟨6, rfl, by omega, by omega, HR2⟩
              case measure => simp [intOf]
            · have hgb : (a.g5 != 0) = true := by simp [hg]
              have HR2 := Lib.hid (show mayP a = false by rw [← hR.out]; simp [Ad.gs, hg])
              clear hg
              go_wp2_with fail
              go_ret
              exact ⟨by rw [HR2.out]; rfl, HB.out⟩
          · by_cases hg : a.g6 = 0
            · have hgb : (a.g6 != 0) = false := by simp [hg]
              have HR2 := Lib.hid (show ((a.gs.drop 7).all (· == 0)) = mayP a by rw [← hR.out]; simp [Ad.gs, hg])
              clear hg
              go_wp2_with fail
              go_round
              case rel => exact ⟨7, rfl, by omega, by omega, HR2⟩
              case measure => simp [intOf]
            · have hgb : (a.g6 != 0) = true := by simp [hg]
              have HR2 := Lib.hid (show mayP a = false by rw [← hR.out]; simp [Ad.gs, hg])
              clear hg
              go_wp2_with fail
              go_ret
              exact ⟨by rw [HR2.out]; rfl, HB.out⟩
          · by_cases hg : a.g7 = 0
            · have hgb : (a.g7 != 0) = false := by simp [hg]
              have HR2 := Lib.hid (show ((a.gs.drop 8).all (· == 0)) = mayP a by rw [← hR.out]; simp [Ad.gs, hg])
              clear hg
              go_wp2_with fail
              go_round
              case rel => exact ⟨8, rfl, by omega, by omega, HR2⟩
              case measure => simp [intOf]
            · have hgb : (a.g7 != 0) = true := by simp [hg]
              have HR2 := Lib.hid (show mayP a = false by rw [← hR.out]; simp [Ad.gs, hg])
              clear hg
              go_wp2_with fail
              go_ret
              exact ⟨by rw [HR2.out]; rfl, HB.out⟩
          · have HR2 := Lib.hid (show mayP a = true by rw [← hR.out]; simp [Ad.gs])
            go_wp2_with fail
            go_ret
            exact ⟨by rw [HR2.out]; rfl, HB.out⟩
      · by_cases h6 : a.f = 6
        · have HR := Lib.hid (show mayP a = true by rw [HM.out]; simp [mayG, h6, hp1, hp2])
          have hf1 : (a.f != 4) = true := by simp [h4]
          have hf2 : (a.f == 4) = false := by simp [h4]
          have hf3 : (a.f != 6) = false := by simp [h6]
          clear h4 h6
          go_enter Tryz.func55, Tryz.ntmps55
          go_wp2_with fail
          generalize w.alloc (Obj.cells #[.int .i8 a.f, .int .u16 a.g0, .int .u16 a.g1, .int .u16 a.g2, .int .u16 a.g3, .int .u16 a.g4, .int .u16 a.g5, .int .u16 a.g6, .int .u16 a.g7, .int .i64 a.p] 59) = W1 at *
          obtain ⟨d0, d1, d2, d3, d4, d5, d6, d7, d8, d9, dz⟩ := HX.out
          go_wp2_with fail
          go_loop [3] (fun u3 => u3 = .int .i64 2) (fun u3 => 8 - (intOf u3).toNat)
          case atStart => rfl
          case round =>
            obtain rfl := hrel
            go_wp2_with fail
            go_ret
            exact ⟨by rw [HR.out]; rfl, HB.out⟩
        · have HR := Lib.hid (show mayP a = false by rw [HM.out]; simp [mayG, h4, h6])
          have hf1 : (a.f != 4) = true := by simp [h4]
          have hf2 : (a.f == 4) = false := by simp [h4]
          have hf3 : (a.f != 6) = true := by simp [h6]
          clear h4 h6
          go_enter Tryz.func55, Tryz.ntmps55
          go_wp2_with fail
          generalize w.alloc (Obj.cells #[.int .i8 a.f, .int .u16 a.g0, .int .u16 a.g1, .int .u16 a.g2, .int .u16 a.g3, .int .u16 a.g4, .int .u16 a.g5, .int .u16 a.g6, .int .u16 a.g7, .int .i64 a.p] 59) = W1 at *
          obtain ⟨d0, d1, d2, d3, d4, d5, d6, d7, d8, d9, dz⟩ := HX.out
          go_wp2_with fail
          go_ret
          exact ⟨by rw [HR.out]; rfl, HB.out⟩
set_option maxHeartbeats 2000000 in
theorem refMay_any (l : List Ad) (a : Option Addr) (c : Nat) (w : World) (hl : l.length ≤ 100000) (hA : RowAt w a l) :
    Calls Tryz.prog 26 #[.slice a l.length c] w fun e w' => e = .returned (.bool (l.all mayP)) ∧ Below w.heap.size w w' := by
  have HA := Lib.hid hA
  have HC := Lib.hid refMay_one
  simp only [Ad.v, Ad.enc] at HC
  clear hA
  go_enter Tryz.func26, Tryz.ntmps26
  go_wp2_with fail
  go_loopw [3] (fun u3 wr => ∃ k : Nat, u3 = .int .i64 k ∧ k ≤ l.length ∧ Below w.heap.size w wr ∧ Hid ((l.drop k).all mayP = l.all mayP)) (fun u3 _ => l.length - (intOf u3).toNat)
  case atStart => exact ⟨0, rfl, by omega, Below.refl _ _, Lib.hid rfl⟩
  case round =>
    obtain ⟨k, rfl, hk, hbw, hR⟩ := hrel
    by_cases hlt : k < l.length
    · obtain ⟨b, o, rfl, hb, hat⟩ := (HA.out.below hbw) (by omega)
      obtain ⟨x, hx⟩ : ∃ x, l[k]? = some x := ⟨_, List.getElem?_eq_getElem hlt⟩
      obtain ⟨c0, c1, c2, c3, c4, c5, c6, c7, c8, c9⟩ := hat.cells k x hx
      have HS := Lib.hid (all_step l k x hx)
      have HC1 := Lib.hid (HC.out x wr)
      clear hat hx
      obtain ⟨m, hm⟩ : ∃ m, mayP x = m := ⟨_, rfl⟩
      rw [hm] at HC1 HS
      clear hm
      go_wp2_with fail
      with_reducible refine HC1.out.mono ?_
      rintro e w2 ⟨rfl, hb2⟩
      have HB2 := Lib.hid (hbw.trans (hb2.mono hbw.size))
      clear c0 c1 c2 c3 c4 c5 c6 c7 c8 c9 hb2
      cases m with
      | true =>
        have HR2 := Lib.hid (show (l.drop (k + 1)).all mayP = l.all mayP by rw [← hR.out, HS.out]; rfl)
        go_wp2_with fail
        go_roundw
        case rel => exact ⟨k + 1, by go_num, by omega, HB2.out, HR2⟩
        case measure => simp [intOf]; omega
      | false =>
        have HR2 := Lib.hid (show l.all mayP = false by rw [← hR.out, HS.out]; rfl)
        go_wp2_with fail
        go_ret
        exact ⟨by rw [HR2.out]; rfl, HB2.out⟩
    · obtain rfl : k = l.length := by omega
      have HR2 := Lib.hid (show l.all mayP = true by rw [← hR.out, List.drop_length]; rfl)
      go_wp2_with fail
      go_ret
      exact ⟨by rw [HR2.out]; rfl, hbw⟩
theorem P.dec_len (n : Nat) (h : n ≤ 65535) : (Lib.decDigits n).length ≤ 16 := by
  by_cases h0 : n = 0
  · subst h0; rw [P.dec_zero]; decide
  · have := P.dg_len P.dg10 10 (by omega) rfl (fun m hm _ => P.dg10_step m hm) 16 n (by omega) h
    rwa [P.dg10, if_neg h0] at this
theorem P.tell4_eq (x y : Nat) : P.tell4 x y = Lib.decDigits (x / 256) ++ ([46] ++ (Lib.decDigits (x % 256) ++ ([46] ++ (Lib.decDigits (y / 256) ++ ([46] ++ Lib.decDigits (y % 256)))))) := by
  rw [P.tell4, P.bytes4, P.join_two, P.join_two, P.join_two, Lib.join_cons]
  simp [Lib.joinTail]
set_option maxHeartbeats 8000000 in
set_option maxRecDepth 1000000 in
theorem refText_yes (a : Ad) (w : World) (h : mayP a = true) (ha : a.Ok) :
    Calls Tryz.prog 27 #[a.v] w fun e w' => e = .returned (.tuple #[.string ⟨(P.textP a).toArray⟩, .int .i64 0]) ∧ Below w.heap.size w w' := by
  obtain ⟨x0, x1, x2, x3, x4, x5, x6, x7, e0, e1, e2, e3, e4, e5, e6, e7, hns, hle⟩ := Ad.nats a ha
  obtain ⟨hf, hp1, hp2⟩ := mayP_fam a h
  obtain ⟨p, hp⟩ : ∃ p : Nat, a.p = p := ⟨a.p.toNat, by omega⟩
  have HM := Lib.hid (refMay_one a)
  rw [h] at HM
  have HTx := Lib.hid (show P.textP a = P.hostP a.f [x0, x1, x2, x3, x4, x5, x6, x7] ++ 58 :: Lib.decDigits p by rw [P.textP, hns, hp]; rfl)
  rw [hns] at hle
  simp only [Ad.v, Ad.enc, e0, e1, e2, e3, e4, e5, e6, e7, hp] at HM ⊢
  rw [hp] at hp1 hp2
  have hpn : p ≤ 65535 := by omega
  have hX := a10_at w a.f x0 x1 x2 x3 x4 x5 x6 x7 p 59
  have HB := Lib.hid ((Below.refl w.heap.size w).alloc (Nat.le_refl _) (Obj.cells #[.int .i8 a.f, .int .u16 (x0 : Int), .int .u16 (x1 : Int), .int .u16 (x2 : Int), .int .u16 (x3 : Int), .int .u16 (x4 : Int), .int .u16 (x5 : Int), .int .u16 (x6 : Int), .int .u16 (x7 : Int), .int .i64 (p : Int)] 59))
  have HX := Lib.hid hX
  clear hX hns e0 e1 e2 e3 e4 e5 e6 e7 hp h ha
  have hD := digits10 p
  have HDp := Lib.hid (fun W => hD W hpn)
  have hdl : (⟨(Lib.decDigits p).toArray⟩ : ByteArray).size ≤ 16 := by rw [size_of_list]; exact P.dec_len p hpn
  have hs58 : (⟨#[58]⟩ : ByteArray).size = 1 := rfl
  have hs91 : (⟨#[91]⟩ : ByteArray).size = 1 := rfl
  have hs93 : (⟨#[93]⟩ : ByteArray).size = 1 := rfl
  have hs46 : (⟨#[46]⟩ : ByteArray).size = 1 := rfl
  have hx0 : x0 ≤ 65535 := hle x0 (by simp)
  have hx1 : x1 ≤ 65535 := hle x1 (by simp)
  have HSix := Lib.hid (fun W => six_any x0 x1 x2 x3 x4 x5 x6 x7 W hle)
  have htl : (⟨(P.tell6 [x0, x1, x2, x3, x4, x5, x6, x7]).toArray⟩ : ByteArray).size ≤ 82 := by rw [size_of_list]; exact P.tell6_len _ rfl
  clear hD hle
  have HE58 := Lib.hid (show (⟨#[58]⟩ : ByteArray) ++ ⟨(Lib.decDigits p).toArray⟩ = ⟨(58 :: Lib.decDigits p).toArray⟩ from str_app [58] _)
  have hsz58 : ((⟨#[58]⟩ : ByteArray) ++ ⟨(Lib.decDigits p).toArray⟩).size ≤ 17 := by rw [ByteArray.size_append, hs58]; omega
  have HDa := Lib.hid (fun W => digits10 (x0 / 256) W (by omega))
  have HDb := Lib.hid (fun W => digits10 (x0 % 256) W (by omega))
  have HDc := Lib.hid (fun W => digits10 (x1 / 256) W (by omega))
  have HDd := Lib.hid (fun W => digits10 (x1 % 256) W (by omega))
  rw [show ((x0 / 256 : Nat) : Int) = (x0 : Int) / 256 by omega] at HDa
  rw [show ((x0 % 256 : Nat) : Int) = (x0 : Int) % 256 by omega] at HDb
  rw [show ((x1 / 256 : Nat) : Int) = (x1 : Int) / 256 by omega] at HDc
  rw [show ((x1 % 256 : Nat) : Int) = (x1 : Int) % 256 by omega] at HDd
  generalize a.f = f at *
  rcases hf with rfl | rfl
  · go_enter Tryz.func27, Tryz.ntmps27
    go_wp2_with fail
    generalize w.alloc (Obj.cells #[.int .i8 4, .int .u16 (x0 : Int), .int .u16 (x1 : Int), .int .u16 (x2 : Int), .int .u16 (x3 : Int), .int .u16 (x4 : Int), .int .u16 (x5 : Int), .int .u16 (x6 : Int), .int .u16 (x7 : Int), .int .i64 (p : Int)] 59) = W1 at *
    obtain ⟨d0, d1, d2, d3, d4, d5, d6, d7, d8, d9, dz⟩ := HX.out
    go_wp2_with fail
    with_reducible refine (HM.out W1).mono ?_
    rintro e w2 ⟨rfl, hb2⟩
    have HB2 := Lib.hid (HB.out.trans (hb2.mono HB.out.size))
    have HX2 := Lib.hid (HX.out.below hb2 (World.block_lt_of_cell? _ _ d0))
    clear d0 d1 d2 d3 d4 d5 d6 d7 d8 d9 dz hb2
    obtain ⟨d0, d1, d2, d3, d4, d5, d6, d7, d8, d9, dz⟩ := HX2.out
    go_wp2_with fail
    with_reducible refine (HDp.out w2).mono ?_
    rintro e w3 ⟨rfl, hb3⟩
    have HB3 := Lib.hid (HB2.out.trans (hb3.mono HB2.out.size))
    have HX3 := Lib.hid (HX2.out.below hb3 (World.block_lt_of_cell? _ _ d0))
    clear d0 d1 d2 d3 d4 d5 d6 d7 d8 d9 dz hb3
    obtain ⟨d0, d1, d2, d3, d4, d5, d6, d7, d8, d9, dz⟩ := HX3.out
    go_wp2_with fail
    go_quiet (fail)
    clear d0 d1 d2 d3 d4 d5 d6 d7 d8 d9 dz
    obtain ⟨A, hA⟩ : ∃ A, Lib.decDigits (x0 / 256) = A := ⟨_, rfl⟩
    obtain ⟨B, hBB⟩ : ∃ A, Lib.decDigits (x0 % 256) = A := ⟨_, rfl⟩
    obtain ⟨C, hC⟩ : ∃ A, Lib.decDigits (x1 / 256) = A := ⟨_, rfl⟩
    obtain ⟨D, hDD⟩ : ∃ A, Lib.decDigits (x1 % 256) = A := ⟨_, rfl⟩
    have hAl : (⟨A.toArray⟩ : ByteArray).size ≤ 16 := by rw [size_of_list, ← hA]; exact P.dec_len _ (by omega)
    have hBl : (⟨B.toArray⟩ : ByteArray).size ≤ 16 := by rw [size_of_list, ← hBB]; exact P.dec_len _ (by omega)
    have hCl : (⟨C.toArray⟩ : ByteArray).size ≤ 16 := by rw [size_of_list, ← hC]; exact P.dec_len _ (by omega)
    have hDl : (⟨D.toArray⟩ : ByteArray).size ≤ 16 := by rw [size_of_list, ← hDD]; exact P.dec_len _ (by omega)
    rw [hA] at HDa
    rw [hBB] at HDb
    rw [hC] at HDc
    rw [hDD] at HDd
    have HF := Lib.hid (show (⟨A.toArray⟩ : ByteArray) ++ ⟨#[46]⟩ ++ ⟨B.toArray⟩ ++ ⟨#[46]⟩ ++ ⟨C.toArray⟩ ++ ⟨#[46]⟩ ++ ⟨D.toArray⟩ ++ (⟨#[58]⟩ ++ ⟨(Lib.decDigits p).toArray⟩) = ⟨(P.textP a).toArray⟩ by
      rw [HTx.out, HE58.out, show (⟨#[46]⟩ : ByteArray) = ⟨([46] : List UInt8).toArray⟩ from rfl, str_app, str_app, str_app, str_app, str_app, str_app, str_app, P.hostP, if_pos rfl, P.tell4_eq]
      simp only [List.getD_cons_zero, List.getD_cons_succ, hA, hBB, hC, hDD]
      simp)
    have hs1 : ((⟨A.toArray⟩ : ByteArray) ++ ⟨#[46]⟩).size ≤ 17 := by rw [ByteArray.size_append, hs46]; omega
    have hs2 : ((⟨A.toArray⟩ : ByteArray) ++ ⟨#[46]⟩ ++ ⟨B.toArray⟩).size ≤ 33 := by rw [ByteArray.size_append]; omega
    have hs3 : ((⟨A.toArray⟩ : ByteArray) ++ ⟨#[46]⟩ ++ ⟨B.toArray⟩ ++ ⟨#[46]⟩).size ≤ 34 := by rw [ByteArray.size_append, hs46]; omega
    have hs4 : ((⟨A.toArray⟩ : ByteArray) ++ ⟨#[46]⟩ ++ ⟨B.toArray⟩ ++ ⟨#[46]⟩ ++ ⟨C.toArray⟩).size ≤ 50 := by rw [ByteArray.size_append]; omega
    have hs5 : ((⟨A.toArray⟩ : ByteArray) ++ ⟨#[46]⟩ ++ ⟨B.toArray⟩ ++ ⟨#[46]⟩ ++ ⟨C.toArray⟩ ++ ⟨#[46]⟩).size ≤ 51 := by rw [ByteArray.size_append, hs46]; omega
    have hs6 : ((⟨A.toArray⟩ : ByteArray) ++ ⟨#[46]⟩ ++ ⟨B.toArray⟩ ++ ⟨#[46]⟩ ++ ⟨C.toArray⟩ ++ ⟨#[46]⟩ ++ ⟨D.toArray⟩).size ≤ 67 := by rw [ByteArray.size_append]; omega
    clear hA hBB hC hDD
    go_wp2_with fail
    with_reducible refine (HDa.out _).mono ?_
    rintro e w4 ⟨rfl, hb4⟩
    have HB4 := Lib.hid ((below_drewN HB3.out _).trans (hb4.mono (below_drewN HB3.out _).size))
    clear hb4
    go_wp2_with fail
    with_reducible refine (HDb.out w4).mono ?_
    rintro e w5 ⟨rfl, hb5⟩
    have HB5 := Lib.hid (HB4.out.trans (hb5.mono HB4.out.size))
    clear hb5
    go_wp2_with fail
    with_reducible refine (HDc.out w5).mono ?_
    rintro e w6 ⟨rfl, hb6⟩
    have HB6 := Lib.hid (HB5.out.trans (hb6.mono HB5.out.size))
    clear hb6
    go_wp2_with fail
    with_reducible refine (HDd.out w6).mono ?_
    rintro e w7 ⟨rfl, hb7⟩
    have HB7 := Lib.hid (HB6.out.trans (hb7.mono HB6.out.size))
    clear hb7
    go_wp2_with fail
    go_ret2
    exact ⟨by rw [← HF.out]; rfl, HB7.out⟩
  · go_enter Tryz.func27, Tryz.ntmps27
    go_wp2_with fail
    generalize w.alloc (Obj.cells #[.int .i8 6, .int .u16 (x0 : Int), .int .u16 (x1 : Int), .int .u16 (x2 : Int), .int .u16 (x3 : Int), .int .u16 (x4 : Int), .int .u16 (x5 : Int), .int .u16 (x6 : Int), .int .u16 (x7 : Int), .int .i64 (p : Int)] 59) = W1 at *
    obtain ⟨d0, d1, d2, d3, d4, d5, d6, d7, d8, d9, dz⟩ := HX.out
    go_wp2_with fail
    with_reducible refine (HM.out W1).mono ?_
    rintro e w2 ⟨rfl, hb2⟩
    have HB2 := Lib.hid (HB.out.trans (hb2.mono HB.out.size))
    have HX2 := Lib.hid (HX.out.below hb2 (World.block_lt_of_cell? _ _ d0))
    clear d0 d1 d2 d3 d4 d5 d6 d7 d8 d9 dz hb2
    obtain ⟨d0, d1, d2, d3, d4, d5, d6, d7, d8, d9, dz⟩ := HX2.out
    go_wp2_with fail
    with_reducible refine (HDp.out w2).mono ?_
    rintro e w3 ⟨rfl, hb3⟩
    have HB3 := Lib.hid (HB2.out.trans (hb3.mono HB2.out.size))
    have HX3 := Lib.hid (HX2.out.below hb3 (World.block_lt_of_cell? _ _ d0))
    clear d0 d1 d2 d3 d4 d5 d6 d7 d8 d9 dz hb3
    obtain ⟨d0, d1, d2, d3, d4, d5, d6, d7, d8, d9, dz⟩ := HX3.out
    go_wp2_with fail
    with_reducible refine (HSix.out w3).mono ?_
    rintro e w4 ⟨rfl, hb4⟩
    have HB4 := Lib.hid (HB3.out.trans (hb4.mono HB3.out.size))
    clear d0 d1 d2 d3 d4 d5 d6 d7 d8 d9 dz hb4
    have HF := Lib.hid (show (⟨#[91]⟩ : ByteArray) ++ ⟨(P.tell6 [x0, x1, x2, x3, x4, x5, x6, x7]).toArray⟩ ++ ⟨#[93]⟩ ++ (⟨#[58]⟩ ++ ⟨(Lib.decDigits p).toArray⟩) = ⟨(P.textP a).toArray⟩ by
      rw [HTx.out, HE58.out, show (⟨#[91]⟩ : ByteArray) = ⟨([91] : List UInt8).toArray⟩ from rfl, show (⟨#[93]⟩ : ByteArray) = ⟨([93] : List UInt8).toArray⟩ from rfl, str_app, str_app, str_app, P.hostP, if_neg (by decide)]
      simp)
    have hs1 : ((⟨#[91]⟩ : ByteArray) ++ ⟨(P.tell6 [x0, x1, x2, x3, x4, x5, x6, x7]).toArray⟩).size ≤ 83 := by rw [ByteArray.size_append, hs91]; omega
    have hs2 : ((⟨#[91]⟩ : ByteArray) ++ ⟨(P.tell6 [x0, x1, x2, x3, x4, x5, x6, x7]).toArray⟩ ++ ⟨#[93]⟩).size ≤ 84 := by rw [ByteArray.size_append, hs93]; omega
    go_wp2_with fail
    go_ret2
    exact ⟨by rw [← HF.out]; rfl, HB4.out⟩
theorem P.row_step0 (l : List Ad) (x : Ad) (h : l[0]? = some x) : Lib.join ((l.take 1).map P.textP) [32] = P.textP x := by
  cases l with
  | nil => simp at h
  | cons a l => simp at h; subst h; rw [List.take_succ_cons, List.take_zero, List.map_cons, List.map_nil, Lib.join_cons]; simp [Lib.joinTail]
theorem P.row_step (l : List Ad) (k : Nat) (x : Ad) (hk : 0 < k) (hl : k < l.length) (h : l[k]? = some x) : Lib.join ((l.take (k + 1)).map P.textP) [32] = Lib.join ((l.take k).map P.textP) [32] ++ ([32] ++ P.textP x) := by
  rw [List.take_add_one, h]
  simp only [Option.toList, List.map_append, List.map_cons, List.map_nil]
  rw [P.join_snoc 32 _ _ (by
    intro e
    have := congrArg List.length e
    rw [List.length_map, List.length_take, List.length_nil] at this
    omega)]
  rfl
theorem P.row_size (l : List Ad) (k : Nat) (hm : l.all mayP = true) (hok : ∀ x ∈ l, x.Ok) : (Lib.join ((l.take k).map P.textP) [32]).length ≤ k * 126 := by
  have h := P.join_le 32 125 ((l.take k).map P.textP) (fun t ht => by
    obtain ⟨x, hx, rfl⟩ := List.mem_map.1 ht
    have hx2 := List.mem_of_mem_take hx
    exact P.text_len x (hok x hx2) (List.all_eq_true.1 hm x hx2))
  rw [List.length_map, List.length_take] at h
  have h2 : min k l.length * (125 + 1) ≤ k * 126 := Nat.mul_le_mul_right _ (by omega)
  omega
set_option maxHeartbeats 8000000 in
set_option maxRecDepth 100000 in
theorem refRow_any (l : List Ad) (a : Option Addr) (c : Nat) (w : World) (hl : l.length ≤ 100000) (hA : RowAt w a l) (hok : ∀ x ∈ l, x.Ok) :
    Calls Tryz.prog 11 #[.slice a l.length c] w fun e w' => e = .returned (P.rowV (P.rowP l)) ∧ Below w.heap.size w w' := by
  by_cases h16 : 16 < l.length
  · have HN := Lib.hid (P.rowP_no l (Or.inl h16))
    clear hA hok
    go_enter Tryz.func11, Tryz.ntmps11
    go_wp2_with fail
    go_ret2
    exact ⟨by rw [HN.out]; rfl, Below.refl _ _⟩
  · have HM := Lib.hid (refMay_any l a c w hl hA)
    have HA := Lib.hid hA
    have HOk := Lib.hid hok
    clear hA hok
    cases hm : l.all mayP with
    | false =>
      rw [hm] at HM
      have HN := Lib.hid (P.rowP_no l (Or.inr hm))
      clear hm
      go_enter Tryz.func11, Tryz.ntmps11
      go_wp2_with fail
      with_reducible refine HM.out.mono ?_
      rintro e w1 ⟨rfl, hb1⟩
      go_wp2_with fail
      go_ret2
      exact ⟨by rw [HN.out]; rfl, hb1⟩
    | true =>
      rw [hm] at HM
      have HN := Lib.hid (P.rowP_yes l (by omega) hm)
      have HMy := Lib.hid hm
      have HSz := Lib.hid (fun k => P.row_size l k hm HOk.out)
      have HTx := Lib.hid (fun x => refText_yes x)
      simp only [Ad.v, Ad.enc] at HTx
      clear hm
      have hs32 : (⟨#[32]⟩ : ByteArray).size = 1 := rfl
      go_enter Tryz.func11, Tryz.ntmps11
      go_wp2_with fail
      with_reducible refine HM.out.mono ?_
      rintro e w1 ⟨rfl, hb1⟩
      have HB1 := Lib.hid hb1
      clear hb1 HM
      go_wp2_with fail
      go_loopw [4, 5] (fun u4 u5 wr => ∃ (k : Nat) (S : ByteArray), u5 = .int .i64 k ∧ u4 = .string S ∧ k ≤ l.length ∧ Below w1.heap.size w1 wr ∧ S.size ≤ 3000 ∧ Hid (S = ⟨(Lib.join ((l.take k).map P.textP) [32]).toArray⟩)) (fun _ u5 _ => l.length - (intOf u5).toNat)
      case atStart => exact ⟨0, ⟨#[]⟩, rfl, rfl, by omega, Below.refl _ _, by decide, Lib.hid (by rw [List.take_zero, List.map_nil, Lib.join_nil])⟩
      case round =>
        obtain ⟨k, S, rfl, rfl, hk, hbw, hS, hSe⟩ := hrel
        have HBr := Lib.hid (HB1.out.trans (hbw.mono HB1.out.size))
        by_cases hlt : k < l.length
        · obtain ⟨b, o, rfl, hb, hat⟩ := (HA.out.below HBr.out) (by omega)
          obtain ⟨x, hx⟩ : ∃ x, l[k]? = some x := ⟨_, List.getElem?_eq_getElem hlt⟩
          obtain ⟨c0, c1, c2, c3, c4, c5, c6, c7, c8, c9⟩ := hat.cells k x hx
          have hxm := List.mem_of_getElem? hx
          have HX := Lib.hid (HTx.out x wr (List.all_eq_true.1 HMy.out x hxm) (HOk.out x hxm))
          have htl : (⟨(P.textP x).toArray⟩ : ByteArray).size ≤ 125 := by rw [size_of_list]; exact P.text_len x (HOk.out x hxm) (List.all_eq_true.1 HMy.out x hxm)
          have hSk : S.size ≤ 16 * 126 := by rw [hSe.out, size_of_list]; have := HSz.out k; omega
          have hS1 : (S ++ ⟨#[32]⟩).size ≤ 16 * 126 + 1 := by rw [ByteArray.size_append, hs32]; omega
          by_cases h0 : 0 < k
          · have HEQ := Lib.hid (show S ++ ⟨#[32]⟩ ++ ⟨(P.textP x).toArray⟩ = ⟨(Lib.join ((l.take (k + 1)).map P.textP) [32]).toArray⟩ by
              rw [P.row_step l k x h0 hlt hx, hSe.out, show (⟨#[32]⟩ : ByteArray) = ⟨([32] : List UInt8).toArray⟩ from rfl, str_app, str_app]; simp)
            clear hat hx hxm hSe
            generalize (⟨(P.textP x).toArray⟩ : ByteArray) = TX at *
            go_wp2_with fail
            with_reducible refine HX.out.mono ?_
            rintro e w3 ⟨rfl, hb3⟩
            go_wp2_with fail
            go_roundw
            case rel => exact ⟨k + 1, S ++ ⟨#[32]⟩ ++ TX, by go_num, rfl, by omega, hbw.trans (hb3.mono hbw.size), by rw [ByteArray.size_append]; omega, HEQ⟩
            case measure => simp [intOf]; omega
          · obtain rfl : k = 0 := by omega
            simp only [Nat.zero_mul, Nat.add_zero] at c0 c1 c2 c3 c4 c5 c6 c7 c8 c9
            have HEQ := Lib.hid (show S ++ ⟨(P.textP x).toArray⟩ = ⟨(Lib.join ((l.take (0 + 1)).map P.textP) [32]).toArray⟩ by
              rw [P.row_step0 l x hx, hSe.out, List.take_zero, List.map_nil, Lib.join_nil]; exact str_app [] _)
            clear hat hx hxm hSe
            generalize (⟨(P.textP x).toArray⟩ : ByteArray) = TX at *
            go_wp2_with fail
            with_reducible refine HX.out.mono ?_
            rintro e w3 ⟨rfl, hb3⟩
            go_wp2_with fail
            go_roundw
            case rel => exact ⟨0 + 1, S ++ TX, by go_num, rfl, by omega, hbw.trans (hb3.mono hbw.size), by rw [ByteArray.size_append]; omega, HEQ⟩
            case measure => simp [intOf]; omega
        · obtain rfl : k = l.length := by omega
          have HEQ := Lib.hid (show S = ⟨(Lib.join (l.map P.textP) [32]).toArray⟩ by rw [hSe.out, List.take_length])
          clear hSe
          go_wp2_with fail
          go_ret2
          exact ⟨by rw [HN.out, HEQ.out]; rfl, HBr.out⟩
end Go.Proofs.YtciohjgcndgiaaaGreatDoor.R2
