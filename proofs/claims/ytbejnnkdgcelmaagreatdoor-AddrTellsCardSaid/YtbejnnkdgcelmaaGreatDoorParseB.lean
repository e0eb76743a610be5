/- Parse: the address that a text reads as. -/
import Derived.Test.YtbejnnkdgcelmaaGreatDoorBlk
set_option linter.unusedSimpArgs false
set_option linter.unusedVariables false
namespace Go.Proofs.YtbejnnkdgcelmaaGreatDoor
open Go.RowKit

def P.parseC (f : Int) : Option (List Nat) → Option Nat → Option Ad
  | some gs, some p => if mayP (adMk f gs p) = true then some (adMk f gs p) else none
  | _, _ => none
def P.parseP (s : ByteArray) : Option Ad :=
  if Lib.lastIndexByte s 58 < 0 then none
  else P.parseC (P.hostR (s.data.toList.take (Lib.lastIndexByte s 58).toNat)).1 (P.hostR (s.data.toList.take (Lib.lastIndexByte s 58).toNat)).2 (P.numP 65535 (s.data.toList.drop ((Lib.lastIndexByte s 58).toNat + 1)))
def Ad.zero : Ad := ⟨0, 0, 0, 0, 0, 0, 0, 0, 0, 0⟩
def P.parseV (o : Option Ad) : Value := .tuple #[(o.getD Ad.zero).v, .int .i64 (if o.isSome then 0 else 20)]

theorem lastIndex_any (s : ByteArray) (w : World) (hs : s.size ≤ 4000) : Calls Tryz.prog 26 #[.string s, .string ⟨#[58]⟩] w fun e w' => e = .returned (.int .i64 (Lib.lastIndexByte s 58)) ∧ w' = w :=
  Tryz.strings_LastIndex_one s ⟨#[58]⟩ rfl (by omega) w

theorem g8_new (g0 g1 g2 g3 g4 g5 g6 g7 : Int) (w : World) (t : TypeId) : G8 (w.alloc (Obj.cells #[.int .u16 g0, .int .u16 g1, .int .u16 g2, .int .u16 g3, .int .u16 g4, .int .u16 g5, .int .u16 g6, .int .u16 g7] t)) w.heap.size g0 g1 g2 g3 g4 g5 g6 g7 := by
  constructor
  all_goals first | (rw [World.cell?_alloc_new]; rfl) | (intro j; exact World.frozen?_alloc_new _ _ _ _)
theorem parse_end {act : Act} {w W : World} {b : Nat} {x0 x1 x2 x3 x4 x5 x6 x7 x8 x9 : Int} {o : Option Ad} (hA : A10 W b x0 x1 x2 x3 x4 x5 x6 x7 x8 x9) (hb : Below w.heap.size w W)
    (h2 : act.tmps.getD 2 undef = .pointer (some ⟨b, 0, none⟩)) (h3 : act.tmps.getD 3 undef = .int .i64 (if o.isSome then 0 else 20)) (h4 : act.defers = []) (ho : o.getD Ad.zero = ⟨x0, x1, x2, x3, x4, x5, x6, x7, x8, x9⟩) :
    bodyPost Tryz.prog Tryz.f9 (fun e w' => e = .returned (P.parseV o) ∧ Below w.heap.size w w') Exit.ret act W := by
  refine bodyPost_ret (res_cell_tmp rfl _ _ _ b h2 _ (loadVar_addr hA)) h4 ?_
  refine ⟨?_, hb⟩
  rw [h3]
  unfold P.parseV
  rw [ho]
  rfl

set_option maxHeartbeats 16000000 in
set_option maxRecDepth 1000000 in
theorem parse_any (s : ByteArray) (w : World) (hs : s.size ≤ 4000) (hE : Env w) :
    Calls Tryz.prog 9 #[.string s] w fun e w' => e = .returned (P.parseV (P.parseP s)) ∧ Below w.heap.size w w' := by
  have hsp := Lib.lastIndexByte_spec s 58
  have hbw0 : Below w.heap.size w (w.alloc (Obj.cells #[.int .i8 0, .int .u16 0, .int .u16 0, .int .u16 0, .int .u16 0, .int .u16 0, .int .u16 0, .int .u16 0, .int .u16 0, .int .i64 0] 26)) := (Below.refl _ w).alloc (Nat.le_refl _) _
  have hA := a10_zero w 26
  generalize hW : w.alloc (Obj.cells #[.int .i8 0, .int .u16 0, .int .u16 0, .int .u16 0, .int .u16 0, .int .u16 0, .int .u16 0, .int .u16 0, .int .u16 0, .int .i64 0] 26) = W0 at *
  have hWs : W0.heap.size = w.heap.size + 1 := by rw [← hW]; simp
  have HE := Lib.hid hE
  have HA := Lib.hid hA
  have HW := Lib.hid hW
  have HLI := Lib.hid (lastIndex_any s W0 hs)
  by_cases h0 : Lib.lastIndexByte s 58 < 0
  · have HP := Lib.hid (show P.parseP s = none by rw [P.parseP, if_pos h0])
    have hv : Lib.lastIndexByte s 58 = -1 := by rcases hsp with ⟨h, _⟩ | ⟨i, hi, h, _⟩ <;> omega
    rw [hv] at HLI
    obtain ⟨c0, c1, c2, c3, c4, c5, c6, c7, c8, c9, fz⟩ := HA.out
    clear hsp h0 hv hE hA hW
    go_enter Tryz.func9, Tryz.ntmps9
    go_wp2_with fail
    rw [HW.out]
    with_reducible refine HLI.out.mono ?_
    rintro e w1 ⟨rfl, rfl⟩
    go_wp2_with fail
    change bodyPost _ _ _ _ _ (set10 w1 w.heap.size 0 0 0 0 0 0 0 0 0 0)
    rw [HP.out]
    exact parse_end (HA.out.all _ _ _ _ _ _ _ _ _ _) (set10_below hbw0 (Nat.le_refl _) _ _ _ _ _ _ _ _ _ _) rfl rfl rfl rfl
  · obtain ⟨k, hk, hke⟩ : ∃ k : Nat, k < s.size ∧ Lib.lastIndexByte s 58 = k := by
      rcases hsp with ⟨h, _⟩ | ⟨i, hi, h, _⟩
      · omega
      · exact ⟨i, hi, h⟩
    have e1 : (s.extract 0 k).data.toList = s.data.toList.take k := by rw [Lib.extract_data]; simp
    have e3 : (s.extract (k + 1) s.size).data.toList = s.data.toList.drop (k + 1) := by rw [Lib.extract_data, List.take_of_length_le (by simp)]
    have z1 : (s.extract 0 k).size ≤ 4000 := by simp; omega
    have z2 : (s.extract (k + 1) s.size).size ≤ 4000 := by simp; omega
    obtain ⟨f, hf⟩ : ∃ f, (P.hostR (s.data.toList.take k)).1 = f := ⟨_, rfl⟩
    obtain ⟨o1, ho1⟩ : ∃ o, (P.hostR (s.data.toList.take k)).2 = o := ⟨_, rfl⟩
    obtain ⟨o2, ho2⟩ : ∃ o, P.numP 65535 (s.data.toList.drop (k + 1)) = o := ⟨_, rfl⟩
    have hP : P.parseP s = P.parseC f o1 o2 := by
      unfold P.parseP
      rw [if_neg h0, hke, Int.toNat_natCast, ho1, ho2, hf]
    have hH := fun W (hb : Below W0.heap.size W0 W) => readHost_any (s.extract 0 k) W z1 (hE.below (hbw0.trans (hb.mono (by omega))))
    rw [e1, hf, ho1] at hH
    have hN := fun W => readNumber_any (s.extract (k + 1) s.size) 65535 W z2 (by omega)
    rw [e3, ho2, show ((65535 : Nat) : Int) = 65535 from rfl] at hN
    have hok := (hostR_ok (s.data.toList.take k)).1
    rw [ho1] at hok
    rw [hke] at HLI
    obtain ⟨y0, y1, y2, y3, y4, y5, y6, y7, hY⟩ := list8 (o1.getD P.zeros8) (by
      cases o1 with
      | none => rfl
      | some gs => exact (hok gs rfl).1)
    unfold P.hostV at hH
    rw [hY] at hH
    simp only [P.u16s, List.map_cons, List.map_nil] at hH
    have HP := Lib.hid hP
    have HH := Lib.hid hH
    have HN := Lib.hid hN
    have HY := Lib.hid hY
    obtain ⟨p, hp⟩ : ∃ p, o2.getD 0 = p := ⟨_, rfl⟩
    rw [hp] at HN
    have HQ := Lib.hid hp
    clear hsp h0 hke e1 e3 z1 z2 hf ho1 ho2 hP hH hN hok hY hE hA hW hp
    go_enter Tryz.func9, Tryz.ntmps9
    go_wp2_with fail
    rw [HW.out]
    with_reducible refine HLI.out.mono ?_
    rintro e w1 ⟨rfl, rfl⟩
    go_wp2_with fail
    with_reducible refine (HH.out w1 (Below.refl _ _)).mono ?_
    rintro e w2 ⟨rfl, hb2⟩
    have hbs2 := hb2.size
    have hbw2 := hbw0.trans (hb2.mono (by omega))
    have hA2 := HA.out.below hb2 (by omega)
    go_wp2_with fail
    have hG3 := g8_new y0 y1 y2 y3 y4 y5 y6 y7 w2 24
    have hbw4 : Below w.heap.size w (w2.alloc (Obj.cells #[.int .u16 (y0 : Int), .int .u16 (y1 : Int), .int .u16 (y2 : Int), .int .u16 (y3 : Int), .int .u16 (y4 : Int), .int .u16 (y5 : Int), .int .u16 (y6 : Int), .int .u16 (y7 : Int)] 24)) := hbw2.alloc hbw2.size _
    have hA4 : A10 (w2.alloc (Obj.cells #[.int .u16 (y0 : Int), .int .u16 (y1 : Int), .int .u16 (y2 : Int), .int .u16 (y3 : Int), .int .u16 (y4 : Int), .int .u16 (y5 : Int), .int .u16 (y6 : Int), .int .u16 (y7 : Int)] 24)) w.heap.size 0 0 0 0 0 0 0 0 0 0 := hA2.below ((Below.refl w2.heap.size w2).alloc (Nat.le_refl _) _) (by omega)
    have hz4 : (w2.alloc (Obj.cells #[.int .u16 (y0 : Int), .int .u16 (y1 : Int), .int .u16 (y2 : Int), .int .u16 (y3 : Int), .int .u16 (y4 : Int), .int .u16 (y5 : Int), .int .u16 (y6 : Int), .int .u16 (y7 : Int)] 24)).heap.size = w2.heap.size + 1 := by simp
    generalize w2.alloc (Obj.cells #[.int .u16 (y0 : Int), .int .u16 (y1 : Int), .int .u16 (y2 : Int), .int .u16 (y3 : Int), .int .u16 (y4 : Int), .int .u16 (y5 : Int), .int .u16 (y6 : Int), .int .u16 (y7 : Int)] 24) = V4 at *
    have HC := HN.out V4
    with_reducible refine HC.mono ?_
    clear HC
    rintro e w5 ⟨rfl, hb5⟩
    have hbs5 := hb5.size
    have hG5 := hG3.below hb5 (by omega)
    have hA5 := hA4.below hb5 (by omega)
    have hbw5 := hbw4.trans (hb5.mono hbw4.size)
    clear hG3 hA2 hA4 hbw2 hbw4 hb2 hb5 HLI HH HN HA
    have HA5 := Lib.hid hA5
    have hlt0 : w.heap.size < w5.heap.size := by omega
    have hlt2 : w2.heap.size < w5.heap.size := by omega
    obtain ⟨c0, c1, c2, c3, c4, c5, c6, c7, fz⟩ := hG5
    cases o1 with
    | none =>
      have HP2 := Lib.hid (show P.parseP s = none by rw [HP.out]; cases o2 <;> rfl)
      simp only [Option.isSome_none]
      go_upto_region 8 with fail
      have hA6 : A10 (w5.alloc (Obj.cells #[.int .i8 f, .int .u16 (y0 : Int), .int .u16 (y1 : Int), .int .u16 (y2 : Int), .int .u16 (y3 : Int), .int .u16 (y4 : Int), .int .u16 (y5 : Int), .int .u16 (y6 : Int), .int .u16 (y7 : Int), .int .i64 (p : Int)] 26)) w.heap.size 0 0 0 0 0 0 0 0 0 0 := HA5.out.below ((Below.refl w5.heap.size w5).alloc (Nat.le_refl _) _) hlt0
      have hbw6 : Below w.heap.size w (w5.alloc (Obj.cells #[.int .i8 f, .int .u16 (y0 : Int), .int .u16 (y1 : Int), .int .u16 (y2 : Int), .int .u16 (y3 : Int), .int .u16 (y4 : Int), .int .u16 (y5 : Int), .int .u16 (y6 : Int), .int .u16 (y7 : Int), .int .i64 (p : Int)] 26)) := hbw5.alloc hbw5.size _
      generalize w5.alloc (Obj.cells #[.int .i8 f, .int .u16 (y0 : Int), .int .u16 (y1 : Int), .int .u16 (y2 : Int), .int .u16 (y3 : Int), .int .u16 (y4 : Int), .int .u16 (y5 : Int), .int .u16 (y6 : Int), .int .u16 (y7 : Int), .int .i64 (p : Int)] 26) = W6 at *
      clear c0 c1 c2 c3 c4 c5 c6 c7 fz hlt0 hlt2 hA5
      obtain ⟨d0, d1, d2, d3, d4, d5, d6, d7, d8, d9, dz⟩ := id hA6
      go_wp2_with fail
      change bodyPost _ _ _ _ _ (set10 W6 w.heap.size 0 0 0 0 0 0 0 0 0 0)
      rw [HP2.out]
      exact parse_end (hA6.all _ _ _ _ _ _ _ _ _ _) (set10_below hbw6 (Nat.le_refl _) _ _ _ _ _ _ _ _ _ _) rfl rfl rfl rfl
    | some gs =>
      cases o2 with
      | none =>
        have HP2 := Lib.hid (show P.parseP s = none by rw [HP.out]; rfl)
        simp only [Option.isSome_none, Option.isSome_some]
        go_upto_region 8 with fail
        have hA6 : A10 (w5.alloc (Obj.cells #[.int .i8 f, .int .u16 (y0 : Int), .int .u16 (y1 : Int), .int .u16 (y2 : Int), .int .u16 (y3 : Int), .int .u16 (y4 : Int), .int .u16 (y5 : Int), .int .u16 (y6 : Int), .int .u16 (y7 : Int), .int .i64 (p : Int)] 26)) w.heap.size 0 0 0 0 0 0 0 0 0 0 := HA5.out.below ((Below.refl w5.heap.size w5).alloc (Nat.le_refl _) _) hlt0
        have hbw6 : Below w.heap.size w (w5.alloc (Obj.cells #[.int .i8 f, .int .u16 (y0 : Int), .int .u16 (y1 : Int), .int .u16 (y2 : Int), .int .u16 (y3 : Int), .int .u16 (y4 : Int), .int .u16 (y5 : Int), .int .u16 (y6 : Int), .int .u16 (y7 : Int), .int .i64 (p : Int)] 26)) := hbw5.alloc hbw5.size _
        generalize w5.alloc (Obj.cells #[.int .i8 f, .int .u16 (y0 : Int), .int .u16 (y1 : Int), .int .u16 (y2 : Int), .int .u16 (y3 : Int), .int .u16 (y4 : Int), .int .u16 (y5 : Int), .int .u16 (y6 : Int), .int .u16 (y7 : Int), .int .i64 (p : Int)] 26) = W6 at *
        clear c0 c1 c2 c3 c4 c5 c6 c7 fz hlt0 hlt2 hA5
        obtain ⟨d0, d1, d2, d3, d4, d5, d6, d7, d8, d9, dz⟩ := id hA6
        go_wp2_with fail
        change bodyPost _ _ _ _ _ (set10 W6 w.heap.size 0 0 0 0 0 0 0 0 0 0)
        rw [HP2.out]
        exact parse_end (hA6.all _ _ _ _ _ _ _ _ _ _) (set10_below hbw6 (Nat.le_refl _) _ _ _ _ _ _ _ _ _ _) rfl rfl rfl rfl
      | some p' =>
        obtain rfl : p' = p := HQ.out
        have HM := Lib.hid (show P.parseP s = if mayP ⟨f, y0, y1, y2, y3, y4, y5, y6, y7, p'⟩ = true then some ⟨f, y0, y1, y2, y3, y4, y5, y6, y7, p'⟩ else none by
          have hgs : gs = [y0, y1, y2, y3, y4, y5, y6, y7] := HY.out
          rw [HP.out, hgs]; rfl)
        simp only [Option.isSome_some]
        go_upto_region 7 with fail
        have hA6 : A10 (w5.alloc (Obj.cells #[.int .i8 f, .int .u16 (y0 : Int), .int .u16 (y1 : Int), .int .u16 (y2 : Int), .int .u16 (y3 : Int), .int .u16 (y4 : Int), .int .u16 (y5 : Int), .int .u16 (y6 : Int), .int .u16 (y7 : Int), .int .i64 (p' : Int)] 26)) w.heap.size 0 0 0 0 0 0 0 0 0 0 := HA5.out.below ((Below.refl w5.heap.size w5).alloc (Nat.le_refl _) _) hlt0
        have hT6 : A10 (w5.alloc (Obj.cells #[.int .i8 f, .int .u16 (y0 : Int), .int .u16 (y1 : Int), .int .u16 (y2 : Int), .int .u16 (y3 : Int), .int .u16 (y4 : Int), .int .u16 (y5 : Int), .int .u16 (y6 : Int), .int .u16 (y7 : Int), .int .i64 (p' : Int)] 26)) w5.heap.size f y0 y1 y2 y3 y4 y5 y6 y7 p' := by
          constructor
          all_goals first | (rw [World.cell?_alloc_new]; rfl) | (intro j; exact World.frozen?_alloc_new _ _ _ _)
        have hbw6 : Below w.heap.size w (w5.alloc (Obj.cells #[.int .i8 f, .int .u16 (y0 : Int), .int .u16 (y1 : Int), .int .u16 (y2 : Int), .int .u16 (y3 : Int), .int .u16 (y4 : Int), .int .u16 (y5 : Int), .int .u16 (y6 : Int), .int .u16 (y7 : Int), .int .i64 (p' : Int)] 26)) := hbw5.alloc hbw5.size _
        have hz6 : (w5.alloc (Obj.cells #[.int .i8 f, .int .u16 (y0 : Int), .int .u16 (y1 : Int), .int .u16 (y2 : Int), .int .u16 (y3 : Int), .int .u16 (y4 : Int), .int .u16 (y5 : Int), .int .u16 (y6 : Int), .int .u16 (y7 : Int), .int .i64 (p' : Int)] 26)).heap.size = w5.heap.size + 1 := by simp
        generalize w5.alloc (Obj.cells #[.int .i8 f, .int .u16 (y0 : Int), .int .u16 (y1 : Int), .int .u16 (y2 : Int), .int .u16 (y3 : Int), .int .u16 (y4 : Int), .int .u16 (y5 : Int), .int .u16 (y6 : Int), .int .u16 (y7 : Int), .int .i64 (p' : Int)] 26) = W6 at *
        clear c0 c1 c2 c3 c4 c5 c6 c7 fz hA5
        obtain ⟨d0, d1, d2, d3, d4, d5, d6, d7, d8, d9, dz⟩ := id hT6
        have HZ6 := Lib.hid hz6
        clear hz6
        go_wp2_with fail
        have HC := may_one f y0 y1 y2 y3 y4 y5 y6 y7 p' W6 W6.heap.size rfl
        with_reducible refine HC.mono ?_
        clear HC
        rintro e w7 ⟨rfl, hb7⟩
        have hb7' : Below W6.heap.size W6 w7 := ((Below.refl W6.heap.size W6).alloc (Nat.le_refl _) _).trans (hb7.mono (by simp))
        have hA7 := hA6.below hb7' (by have := HZ6.out; omega)
        have hT7 := hT6.below hb7' (by have := HZ6.out; omega)
        have hbw7 := hbw6.trans (hb7'.mono hbw6.size)
        clear d0 d1 d2 d3 d4 d5 d6 d7 d8 d9 dz hb7 hb7'
        have HA7 := Lib.hid hA7
        have HT7 := Lib.hid hT7
        obtain ⟨m, hm⟩ : ∃ m, mayP ⟨f, y0, y1, y2, y3, y4, y5, y6, y7, (p' : Int)⟩ = m := ⟨_, rfl⟩
        rw [hm] at HM ⊢
        clear hm
        cases m with
        | false =>
          have HP2 := Lib.hid (show P.parseP s = none from HM.out)
          clear hT7
          obtain ⟨d0, d1, d2, d3, d4, d5, d6, d7, d8, d9, dz⟩ := hA7
          go_wp2_with fail
          change bodyPost _ _ _ _ _ (set10 w7 w.heap.size 0 0 0 0 0 0 0 0 0 0)
          rw [HP2.out]
          exact parse_end (HA7.out.all _ _ _ _ _ _ _ _ _ _) (set10_below hbw7 (Nat.le_refl _) _ _ _ _ _ _ _ _ _ _) rfl rfl rfl rfl
        | true =>
          have HP2 := Lib.hid (show P.parseP s = some ⟨f, y0, y1, y2, y3, y4, y5, y6, y7, p'⟩ from HM.out)
          obtain ⟨d0, d1, d2, d3, d4, d5, d6, d7, d8, d9, dz⟩ := hA7
          obtain ⟨e0, e1, e2, e3, e4, e5, e6, e7, e8, e9, ez⟩ := hT7
          go_wp2_with fail
          change bodyPost _ _ _ _ _ (set10 w7 w.heap.size f y0 y1 y2 y3 y4 y5 y6 y7 p')
          rw [HP2.out]
          exact parse_end (HA7.out.all _ _ _ _ _ _ _ _ _ _) (set10_below hbw7 (Nat.le_refl _) _ _ _ _ _ _ _ _ _ _) rfl rfl rfl rfl
end Go.Proofs.YtbejnnkdgcelmaaGreatDoor
