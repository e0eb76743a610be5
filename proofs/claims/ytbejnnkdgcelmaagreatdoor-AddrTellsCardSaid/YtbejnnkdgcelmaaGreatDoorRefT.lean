/- The document's own text of an address. -/
import Derived.Test.YtbejnnkdgcelmaaGreatDoorRefM
set_option linter.unusedSimpArgs false
set_option linter.unusedVariables false
namespace Go.Proofs.YtbejnnkdgcelmaaGreatDoor
open Go.RowKit

theorem P.dec_len (n : Nat) (h : n ≤ 65535) : (Lib.decDigits n).length ≤ 16 := by
  by_cases h0 : n = 0
  · subst h0; rw [P.dec_zero]; decide
  · have := P.dg_len P.dg10 10 (by omega) rfl (fun m hm _ => P.dg10_step m hm) 16 n (by omega) h
    rwa [P.dg10, if_neg h0] at this
theorem P.tell4_eq (x y : Nat) : P.tell4 x y = Lib.decDigits (x / 256) ++ ([46] ++ (Lib.decDigits (x % 256) ++ ([46] ++ (Lib.decDigits (y / 256) ++ ([46] ++ Lib.decDigits (y % 256)))))) := by
  rw [P.tell4, P.bytes4, P.join_two, P.join_two, P.join_two, Lib.join_cons]
  simp [Lib.joinTail]

set_option maxHeartbeats 2000000 in
theorem refText_no (a : Ad) (w : World) (h : mayP a = false) :
    Calls Tryz.prog 8 #[a.v] w fun e w' => e = .returned (.tuple #[.string ByteArray.empty, .int .i64 20]) ∧ Below w.heap.size w w' := by
  have hX := a10_at w a.f a.g0 a.g1 a.g2 a.g3 a.g4 a.g5 a.g6 a.g7 a.p 26
  have HB := Lib.hid ((Below.refl w.heap.size w).alloc (Nat.le_refl _) (Obj.cells #[.int .i8 a.f, .int .u16 a.g0, .int .u16 a.g1, .int .u16 a.g2, .int .u16 a.g3, .int .u16 a.g4, .int .u16 a.g5, .int .u16 a.g6, .int .u16 a.g7, .int .i64 a.p] 26))
  have HX := Lib.hid hX
  have HM := Lib.hid (refMay_one a)
  rw [h] at HM
  clear hX h
  simp only [Ad.v, Ad.enc] at HM ⊢
  go_enter Tryz.func8, Tryz.ntmps8
  go_wp2_with fail
  generalize w.alloc (Obj.cells #[.int .i8 a.f, .int .u16 a.g0, .int .u16 a.g1, .int .u16 a.g2, .int .u16 a.g3, .int .u16 a.g4, .int .u16 a.g5, .int .u16 a.g6, .int .u16 a.g7, .int .i64 a.p] 26) = W1 at *
  obtain ⟨d0, d1, d2, d3, d4, d5, d6, d7, d8, d9, dz⟩ := HX.out
  go_wp2_with fail
  with_reducible refine (HM.out W1).mono ?_
  rintro e w2 ⟨rfl, hb2⟩
  have HB2 := Lib.hid (HB.out.trans (hb2.mono HB.out.size))
  clear hb2 d0 d1 d2 d3 d4 d5 d6 d7 d8 d9 dz
  go_wp2_with fail
  go_ret2
  exact ⟨rfl, HB2.out⟩

set_option maxHeartbeats 8000000 in
set_option maxRecDepth 1000000 in
theorem refText_yes (a : Ad) (w : World) (h : mayP a = true) (ha : a.Ok) :
    Calls Tryz.prog 8 #[a.v] w fun e w' => e = .returned (.tuple #[.string ⟨(P.textP a).toArray⟩, .int .i64 0]) ∧ Below w.heap.size w w' := by
  obtain ⟨x0, x1, x2, x3, x4, x5, x6, x7, e0, e1, e2, e3, e4, e5, e6, e7, hns, hle⟩ := Ad.nats a ha
  obtain ⟨hf, hp1, hp2⟩ := mayP_fam a h
  obtain ⟨p, hp⟩ : ∃ p : Nat, a.p = p := ⟨a.p.toNat, by omega⟩
  have HM := Lib.hid (refMay_one a)
  rw [h] at HM
  have HTx := Lib.hid (show P.textP a = P.hostP a.f [x0, x1, x2, x3, x4, x5, x6, x7] ++ 58 :: Lib.decDigits p by rw [P.textP, hns, hp]; rfl)
  rw [hns] at hle
  simp only [Ad.v, Ad.enc, e0, e1, e2, e3, e4, e5, e6, e7, hp] at HM ⊢
  rw [hp] at hp1 hp2
  have hpn : p ≤ 65535 := by omega
  have hX := a10_at w a.f x0 x1 x2 x3 x4 x5 x6 x7 p 26
  have HB := Lib.hid ((Below.refl w.heap.size w).alloc (Nat.le_refl _) (Obj.cells #[.int .i8 a.f, .int .u16 (x0 : Int), .int .u16 (x1 : Int), .int .u16 (x2 : Int), .int .u16 (x3 : Int), .int .u16 (x4 : Int), .int .u16 (x5 : Int), .int .u16 (x6 : Int), .int .u16 (x7 : Int), .int .i64 (p : Int)] 26))
  have HX := Lib.hid hX
  clear hX hns e0 e1 e2 e3 e4 e5 e6 e7 hp h ha
  have hD := digits10 p
  have HDp := Lib.hid (fun W => hD W hpn)
  have hdl : (⟨(Lib.decDigits p).toArray⟩ : ByteArray).size ≤ 16 := by rw [size_of_list]; exact P.dec_len p hpn
  have hs58 : (⟨#[58]⟩ : ByteArray).size = 1 := rfl
  have hs91 : (⟨#[91]⟩ : ByteArray).size = 1 := rfl
  have hs93 : (⟨#[93]⟩ : ByteArray).size = 1 := rfl
  have hs46 : (⟨#[46]⟩ : ByteArray).size = 1 := rfl
  have hx0 : x0 ≤ 65535 := hle x0 (by simp)
  have hx1 : x1 ≤ 65535 := hle x1 (by simp)
  have HSix := Lib.hid (fun W => six_any x0 x1 x2 x3 x4 x5 x6 x7 W hle)
  have htl : (⟨(P.tell6 [x0, x1, x2, x3, x4, x5, x6, x7]).toArray⟩ : ByteArray).size ≤ 82 := by rw [size_of_list]; exact P.tell6_len _ rfl
  clear hD hle
  have HE58 := Lib.hid (show (⟨#[58]⟩ : ByteArray) ++ ⟨(Lib.decDigits p).toArray⟩ = ⟨(58 :: Lib.decDigits p).toArray⟩ from str_app [58] _)
  have hsz58 : ((⟨#[58]⟩ : ByteArray) ++ ⟨(Lib.decDigits p).toArray⟩).size ≤ 17 := by rw [ByteArray.size_append, hs58]; omega
  have HDa := Lib.hid (fun W => digits10 (x0 / 256) W (by omega))
  have HDb := Lib.hid (fun W => digits10 (x0 % 256) W (by omega))
  have HDc := Lib.hid (fun W => digits10 (x1 / 256) W (by omega))
  have HDd := Lib.hid (fun W => digits10 (x1 % 256) W (by omega))
  rw [show ((x0 / 256 : Nat) : Int) = (x0 : Int) / 256 by omega] at HDa
  rw [show ((x0 % 256 : Nat) : Int) = (x0 : Int) % 256 by omega] at HDb
  rw [show ((x1 / 256 : Nat) : Int) = (x1 : Int) / 256 by omega] at HDc
  rw [show ((x1 % 256 : Nat) : Int) = (x1 : Int) % 256 by omega] at HDd
  generalize a.f = f at *
  rcases hf with rfl | rfl
  · go_enter Tryz.func8, Tryz.ntmps8
    go_wp2_with fail
    generalize w.alloc (Obj.cells #[.int .i8 4, .int .u16 (x0 : Int), .int .u16 (x1 : Int), .int .u16 (x2 : Int), .int .u16 (x3 : Int), .int .u16 (x4 : Int), .int .u16 (x5 : Int), .int .u16 (x6 : Int), .int .u16 (x7 : Int), .int .i64 (p : Int)] 26) = W1 at *
    obtain ⟨d0, d1, d2, d3, d4, d5, d6, d7, d8, d9, dz⟩ := HX.out
    go_wp2_with fail
    with_reducible refine (HM.out W1).mono ?_
    rintro e w2 ⟨rfl, hb2⟩
    have HB2 := Lib.hid (HB.out.trans (hb2.mono HB.out.size))
    have HX2 := Lib.hid (HX.out.below hb2 (World.block_lt_of_cell? _ _ d0))
    clear d0 d1 d2 d3 d4 d5 d6 d7 d8 d9 dz hb2
    obtain ⟨d0, d1, d2, d3, d4, d5, d6, d7, d8, d9, dz⟩ := HX2.out
    go_wp2_with fail
    with_reducible refine (HDp.out w2).mono ?_
    rintro e w3 ⟨rfl, hb3⟩
    have HB3 := Lib.hid (HB2.out.trans (hb3.mono HB2.out.size))
    have HX3 := Lib.hid (HX2.out.below hb3 (World.block_lt_of_cell? _ _ d0))
    clear d0 d1 d2 d3 d4 d5 d6 d7 d8 d9 dz hb3
    obtain ⟨d0, d1, d2, d3, d4, d5, d6, d7, d8, d9, dz⟩ := HX3.out
    go_wp2_with fail
    go_quiet (fail)
    clear d0 d1 d2 d3 d4 d5 d6 d7 d8 d9 dz
    obtain ⟨A, hA⟩ : ∃ A, Lib.decDigits (x0 / 256) = A := ⟨_, rfl⟩
    obtain ⟨B, hBB⟩ : ∃ A, Lib.decDigits (x0 % 256) = A := ⟨_, rfl⟩
    obtain ⟨C, hC⟩ : ∃ A, Lib.decDigits (x1 / 256) = A := ⟨_, rfl⟩
    obtain ⟨D, hDD⟩ : ∃ A, Lib.decDigits (x1 % 256) = A := ⟨_, rfl⟩
    have hAl : (⟨A.toArray⟩ : ByteArray).size ≤ 16 := by rw [size_of_list, ← hA]; exact P.dec_len _ (by omega)
    have hBl : (⟨B.toArray⟩ : ByteArray).size ≤ 16 := by rw [size_of_list, ← hBB]; exact P.dec_len _ (by omega)
    have hCl : (⟨C.toArray⟩ : ByteArray).size ≤ 16 := by rw [size_of_list, ← hC]; exact P.dec_len _ (by omega)
    have hDl : (⟨D.toArray⟩ : ByteArray).size ≤ 16 := by rw [size_of_list, ← hDD]; exact P.dec_len _ (by omega)
    rw [hA] at HDa
    rw [hBB] at HDb
    rw [hC] at HDc
    rw [hDD] at HDd
    have HF := Lib.hid (show (⟨A.toArray⟩ : ByteArray) ++ ⟨#[46]⟩ ++ ⟨B.toArray⟩ ++ ⟨#[46]⟩ ++ ⟨C.toArray⟩ ++ ⟨#[46]⟩ ++ ⟨D.toArray⟩ ++ (⟨#[58]⟩ ++ ⟨(Lib.decDigits p).toArray⟩) = ⟨(P.textP a).toArray⟩ by
      rw [HTx.out, HE58.out, show (⟨#[46]⟩ : ByteArray) = ⟨([46] : List UInt8).toArray⟩ from rfl, str_app, str_app, str_app, str_app, str_app, str_app, str_app, P.hostP, if_pos rfl, P.tell4_eq]
      simp only [List.getD_cons_zero, List.getD_cons_succ, hA, hBB, hC, hDD]
      simp)
    have hs1 : ((⟨A.toArray⟩ : ByteArray) ++ ⟨#[46]⟩).size ≤ 17 := by rw [ByteArray.size_append, hs46]; omega
    have hs2 : ((⟨A.toArray⟩ : ByteArray) ++ ⟨#[46]⟩ ++ ⟨B.toArray⟩).size ≤ 33 := by rw [ByteArray.size_append]; omega
    have hs3 : ((⟨A.toArray⟩ : ByteArray) ++ ⟨#[46]⟩ ++ ⟨B.toArray⟩ ++ ⟨#[46]⟩).size ≤ 34 := by rw [ByteArray.size_append, hs46]; omega
    have hs4 : ((⟨A.toArray⟩ : ByteArray) ++ ⟨#[46]⟩ ++ ⟨B.toArray⟩ ++ ⟨#[46]⟩ ++ ⟨C.toArray⟩).size ≤ 50 := by rw [ByteArray.size_append]; omega
    have hs5 : ((⟨A.toArray⟩ : ByteArray) ++ ⟨#[46]⟩ ++ ⟨B.toArray⟩ ++ ⟨#[46]⟩ ++ ⟨C.toArray⟩ ++ ⟨#[46]⟩).size ≤ 51 := by rw [ByteArray.size_append, hs46]; omega
    have hs6 : ((⟨A.toArray⟩ : ByteArray) ++ ⟨#[46]⟩ ++ ⟨B.toArray⟩ ++ ⟨#[46]⟩ ++ ⟨C.toArray⟩ ++ ⟨#[46]⟩ ++ ⟨D.toArray⟩).size ≤ 67 := by rw [ByteArray.size_append]; omega
    clear hA hBB hC hDD
    go_wp2_with fail
    with_reducible refine (HDa.out _).mono ?_
    rintro e w4 ⟨rfl, hb4⟩
    have HB4 := Lib.hid ((below_drewN HB3.out _).trans (hb4.mono (below_drewN HB3.out _).size))
    clear hb4
    go_wp2_with fail
    with_reducible refine (HDb.out w4).mono ?_
    rintro e w5 ⟨rfl, hb5⟩
    have HB5 := Lib.hid (HB4.out.trans (hb5.mono HB4.out.size))
    clear hb5
    go_wp2_with fail
    with_reducible refine (HDc.out w5).mono ?_
    rintro e w6 ⟨rfl, hb6⟩
    have HB6 := Lib.hid (HB5.out.trans (hb6.mono HB5.out.size))
    clear hb6
    go_wp2_with fail
    with_reducible refine (HDd.out w6).mono ?_
    rintro e w7 ⟨rfl, hb7⟩
    have HB7 := Lib.hid (HB6.out.trans (hb7.mono HB6.out.size))
    clear hb7
    go_wp2_with fail
    go_ret2
    exact ⟨by rw [← HF.out]; rfl, HB7.out⟩
  · go_enter Tryz.func8, Tryz.ntmps8
    go_wp2_with fail
    generalize w.alloc (Obj.cells #[.int .i8 6, .int .u16 (x0 : Int), .int .u16 (x1 : Int), .int .u16 (x2 : Int), .int .u16 (x3 : Int), .int .u16 (x4 : Int), .int .u16 (x5 : Int), .int .u16 (x6 : Int), .int .u16 (x7 : Int), .int .i64 (p : Int)] 26) = W1 at *
    obtain ⟨d0, d1, d2, d3, d4, d5, d6, d7, d8, d9, dz⟩ := HX.out
    go_wp2_with fail
    with_reducible refine (HM.out W1).mono ?_
    rintro e w2 ⟨rfl, hb2⟩
    have HB2 := Lib.hid (HB.out.trans (hb2.mono HB.out.size))
    have HX2 := Lib.hid (HX.out.below hb2 (World.block_lt_of_cell? _ _ d0))
    clear d0 d1 d2 d3 d4 d5 d6 d7 d8 d9 dz hb2
    obtain ⟨d0, d1, d2, d3, d4, d5, d6, d7, d8, d9, dz⟩ := HX2.out
    go_wp2_with fail
    with_reducible refine (HDp.out w2).mono ?_
    rintro e w3 ⟨rfl, hb3⟩
    have HB3 := Lib.hid (HB2.out.trans (hb3.mono HB2.out.size))
    have HX3 := Lib.hid (HX2.out.below hb3 (World.block_lt_of_cell? _ _ d0))
    clear d0 d1 d2 d3 d4 d5 d6 d7 d8 d9 dz hb3
    obtain ⟨d0, d1, d2, d3, d4, d5, d6, d7, d8, d9, dz⟩ := HX3.out
    go_wp2_with fail
    with_reducible refine (HSix.out w3).mono ?_
    rintro e w4 ⟨rfl, hb4⟩
    have HB4 := Lib.hid (HB3.out.trans (hb4.mono HB3.out.size))
    clear d0 d1 d2 d3 d4 d5 d6 d7 d8 d9 dz hb4
    have HF := Lib.hid (show (⟨#[91]⟩ : ByteArray) ++ ⟨(P.tell6 [x0, x1, x2, x3, x4, x5, x6, x7]).toArray⟩ ++ ⟨#[93]⟩ ++ (⟨#[58]⟩ ++ ⟨(Lib.decDigits p).toArray⟩) = ⟨(P.textP a).toArray⟩ by
      rw [HTx.out, HE58.out, show (⟨#[91]⟩ : ByteArray) = ⟨([91] : List UInt8).toArray⟩ from rfl, show (⟨#[93]⟩ : ByteArray) = ⟨([93] : List UInt8).toArray⟩ from rfl, str_app, str_app, str_app, P.hostP, if_neg (by decide)]
      simp)
    have hs1 : ((⟨#[91]⟩ : ByteArray) ++ ⟨(P.tell6 [x0, x1, x2, x3, x4, x5, x6, x7]).toArray⟩).size ≤ 83 := by rw [ByteArray.size_append, hs91]; omega
    have hs2 : ((⟨#[91]⟩ : ByteArray) ++ ⟨(P.tell6 [x0, x1, x2, x3, x4, x5, x6, x7]).toArray⟩ ++ ⟨#[93]⟩).size ≤ 84 := by rw [ByteArray.size_append, hs93]; omega
    go_wp2_with fail
    go_ret2
    exact ⟨by rw [← HF.out]; rfl, HB4.out⟩
end Go.Proofs.YtbejnnkdgcelmaaGreatDoor
