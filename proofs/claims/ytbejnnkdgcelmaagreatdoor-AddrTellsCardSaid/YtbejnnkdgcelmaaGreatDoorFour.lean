/- Bytes of family 4 read. -/
import Derived.Test.YtbejnnkdgcelmaaGreatDoorRead
import Derived.Laws.ResultCell
set_option linter.unusedSimpArgs false
set_option linter.unusedVariables false
namespace Go.Proofs.YtbejnnkdgcelmaaGreatDoor
open Go.RowKit

theorem or_byte (x n : Nat) (hx : x ≤ 255) (hn : n ≤ 255) : bits .or .u16 ((x : Int) * 256) (n : Int) = ((x * 256 + n : Nat) : Int) := by
  have h := u16_or_nat (256 * x) n (by omega) (by omega)
  have e : (256 * x) ||| n = 256 * x + n := by
    rw [show 256 * x = 2 ^ 8 * x from rfl, ← Nat.two_pow_add_eq_or_of_lt (show n < 2 ^ 8 by omega)]
  rw [e] at h
  rw [show ((x : Int) * 256) = ((256 * x : Nat) : Int) from by omega, h]
  omega
theorem or_byte0 (n : Nat) (hn : n ≤ 255) : bits .or .u16 0 (n : Int) = (n : Int) := by
  have := or_byte 0 n (by omega) hn
  simpa using this
theorem fourF_none (k x y : Nat) (p : List UInt8) (ps : List (List UInt8)) (h : P.numP 255 p = none) : P.fourF k x y (p :: ps) = none := by rw [P.fourF, h]
theorem fourF_low (k x y n : Nat) (p : List UInt8) (ps : List (List UInt8)) (h : P.numP 255 p = some n) (hk : k < 2) : P.fourF k x y (p :: ps) = P.fourF (k + 1) (x * 256 + n) y ps := by rw [P.fourF, h]; simp [hk]
theorem fourF_high (k x y n : Nat) (p : List UInt8) (ps : List (List UInt8)) (h : P.numP 255 p = some n) (hk : ¬ k < 2) : P.fourF k x y (p :: ps) = P.fourF (k + 1) x (y * 256 + n) ps := by rw [P.fourF, h]; simp [hk]

/-- Eight groups in a block of the call's own. -/
structure G8 (w : World) (b : Nat) (g0 g1 g2 g3 g4 g5 g6 g7 : Int) : Prop where
  c0 : w.cell? ⟨b, 0, none⟩ = some (.int .u16 g0)
  c1 : w.cell? ⟨b, 1, none⟩ = some (.int .u16 g1)
  c2 : w.cell? ⟨b, 2, none⟩ = some (.int .u16 g2)
  c3 : w.cell? ⟨b, 3, none⟩ = some (.int .u16 g3)
  c4 : w.cell? ⟨b, 4, none⟩ = some (.int .u16 g4)
  c5 : w.cell? ⟨b, 5, none⟩ = some (.int .u16 g5)
  c6 : w.cell? ⟨b, 6, none⟩ = some (.int .u16 g6)
  c7 : w.cell? ⟨b, 7, none⟩ = some (.int .u16 g7)
  fz : ∀ j, w.frozen? ⟨b, j, none⟩ = false
theorem G8.below {w w' : World} {b n : Nat} {g0 g1 g2 g3 g4 g5 g6 g7 : Int} (h : G8 w b g0 g1 g2 g3 g4 g5 g6 g7) (hb : Below n w w') (hn : b < n) : G8 w' b g0 g1 g2 g3 g4 g5 g6 g7 :=
  ⟨(hb.cell hn).trans h.c0, (hb.cell hn).trans h.c1, (hb.cell hn).trans h.c2, (hb.cell hn).trans h.c3, (hb.cell hn).trans h.c4, (hb.cell hn).trans h.c5, (hb.cell hn).trans h.c6, (hb.cell hn).trans h.c7, fun j => (hb.frozen hn).trans (h.fz j)⟩
theorem ne_addr (b i j : Nat) (h : i ≠ j) : (⟨b, i, none⟩ : Addr) ≠ ⟨b, j, none⟩ := addr_ne b i j h
theorem G8.set0 {w : World} {b : Nat} {g0 g1 g2 g3 g4 g5 g6 g7 : Int} (h : G8 w b g0 g1 g2 g3 g4 g5 g6 g7) (x : Int) : G8 (w.setCell ⟨b, 0, none⟩ (.int .u16 x)) b x g1 g2 g3 g4 g5 g6 g7 :=
  ⟨World.cell?_setCell_same _ _ _ h.c0, (World.cell?_setCell_other _ _ _ _ (addr_ne _ _ _ (by omega))).trans h.c1, (World.cell?_setCell_other _ _ _ _ (addr_ne _ _ _ (by omega))).trans h.c2, (World.cell?_setCell_other _ _ _ _ (addr_ne _ _ _ (by omega))).trans h.c3, (World.cell?_setCell_other _ _ _ _ (addr_ne _ _ _ (by omega))).trans h.c4, (World.cell?_setCell_other _ _ _ _ (addr_ne _ _ _ (by omega))).trans h.c5, (World.cell?_setCell_other _ _ _ _ (addr_ne _ _ _ (by omega))).trans h.c6, (World.cell?_setCell_other _ _ _ _ (addr_ne _ _ _ (by omega))).trans h.c7, fun j => by rw [World.frozen?_setCell]; exact h.fz j⟩
theorem G8.set1 {w : World} {b : Nat} {g0 g1 g2 g3 g4 g5 g6 g7 : Int} (h : G8 w b g0 g1 g2 g3 g4 g5 g6 g7) (x : Int) : G8 (w.setCell ⟨b, 1, none⟩ (.int .u16 x)) b g0 x g2 g3 g4 g5 g6 g7 :=
  ⟨(World.cell?_setCell_other _ _ _ _ (addr_ne _ _ _ (by omega))).trans h.c0, World.cell?_setCell_same _ _ _ h.c1, (World.cell?_setCell_other _ _ _ _ (addr_ne _ _ _ (by omega))).trans h.c2, (World.cell?_setCell_other _ _ _ _ (addr_ne _ _ _ (by omega))).trans h.c3, (World.cell?_setCell_other _ _ _ _ (addr_ne _ _ _ (by omega))).trans h.c4, (World.cell?_setCell_other _ _ _ _ (addr_ne _ _ _ (by omega))).trans h.c5, (World.cell?_setCell_other _ _ _ _ (addr_ne _ _ _ (by omega))).trans h.c6, (World.cell?_setCell_other _ _ _ _ (addr_ne _ _ _ (by omega))).trans h.c7, fun j => by rw [World.frozen?_setCell]; exact h.fz j⟩
theorem g8_zero (w : World) (t : TypeId) : G8 (w.alloc (Obj.cells #[.int .u16 0, .int .u16 0, .int .u16 0, .int .u16 0, .int .u16 0, .int .u16 0, .int .u16 0, .int .u16 0] t)) w.heap.size 0 0 0 0 0 0 0 0 := by
  constructor
  all_goals first | (rw [World.cell?_alloc_new]; rfl) | (intro j; exact World.frozen?_alloc_new _ _ _ _)


def set8 (w : World) (b : Nat) (x0 x1 x2 x3 x4 x5 x6 x7 : Int) : World := ((((((((w.setCell ⟨b, 0, none⟩ (.int .u16 x0)).setCell ⟨b, 1, none⟩ (.int .u16 x1)).setCell ⟨b, 2, none⟩ (.int .u16 x2)).setCell ⟨b, 3, none⟩ (.int .u16 x3)).setCell ⟨b, 4, none⟩ (.int .u16 x4)).setCell ⟨b, 5, none⟩ (.int .u16 x5)).setCell ⟨b, 6, none⟩ (.int .u16 x6)).setCell ⟨b, 7, none⟩ (.int .u16 x7))
theorem G8.set2 {w : World} {b : Nat} {g0 g1 g2 g3 g4 g5 g6 g7 : Int} (h : G8 w b g0 g1 g2 g3 g4 g5 g6 g7) (x : Int) : G8 (w.setCell ⟨b, 2, none⟩ (.int .u16 x)) b g0 g1 x g3 g4 g5 g6 g7 :=
  ⟨(World.cell?_setCell_other _ _ _ _ (addr_ne _ _ _ (by omega))).trans h.c0, (World.cell?_setCell_other _ _ _ _ (addr_ne _ _ _ (by omega))).trans h.c1, World.cell?_setCell_same _ _ _ h.c2, (World.cell?_setCell_other _ _ _ _ (addr_ne _ _ _ (by omega))).trans h.c3, (World.cell?_setCell_other _ _ _ _ (addr_ne _ _ _ (by omega))).trans h.c4, (World.cell?_setCell_other _ _ _ _ (addr_ne _ _ _ (by omega))).trans h.c5, (World.cell?_setCell_other _ _ _ _ (addr_ne _ _ _ (by omega))).trans h.c6, (World.cell?_setCell_other _ _ _ _ (addr_ne _ _ _ (by omega))).trans h.c7, fun j => by rw [World.frozen?_setCell]; exact h.fz j⟩
theorem G8.set3 {w : World} {b : Nat} {g0 g1 g2 g3 g4 g5 g6 g7 : Int} (h : G8 w b g0 g1 g2 g3 g4 g5 g6 g7) (x : Int) : G8 (w.setCell ⟨b, 3, none⟩ (.int .u16 x)) b g0 g1 g2 x g4 g5 g6 g7 :=
  ⟨(World.cell?_setCell_other _ _ _ _ (addr_ne _ _ _ (by omega))).trans h.c0, (World.cell?_setCell_other _ _ _ _ (addr_ne _ _ _ (by omega))).trans h.c1, (World.cell?_setCell_other _ _ _ _ (addr_ne _ _ _ (by omega))).trans h.c2, World.cell?_setCell_same _ _ _ h.c3, (World.cell?_setCell_other _ _ _ _ (addr_ne _ _ _ (by omega))).trans h.c4, (World.cell?_setCell_other _ _ _ _ (addr_ne _ _ _ (by omega))).trans h.c5, (World.cell?_setCell_other _ _ _ _ (addr_ne _ _ _ (by omega))).trans h.c6, (World.cell?_setCell_other _ _ _ _ (addr_ne _ _ _ (by omega))).trans h.c7, fun j => by rw [World.frozen?_setCell]; exact h.fz j⟩
theorem G8.set4 {w : World} {b : Nat} {g0 g1 g2 g3 g4 g5 g6 g7 : Int} (h : G8 w b g0 g1 g2 g3 g4 g5 g6 g7) (x : Int) : G8 (w.setCell ⟨b, 4, none⟩ (.int .u16 x)) b g0 g1 g2 g3 x g5 g6 g7 :=
  ⟨(World.cell?_setCell_other _ _ _ _ (addr_ne _ _ _ (by omega))).trans h.c0, (World.cell?_setCell_other _ _ _ _ (addr_ne _ _ _ (by omega))).trans h.c1, (World.cell?_setCell_other _ _ _ _ (addr_ne _ _ _ (by omega))).trans h.c2, (World.cell?_setCell_other _ _ _ _ (addr_ne _ _ _ (by omega))).trans h.c3, World.cell?_setCell_same _ _ _ h.c4, (World.cell?_setCell_other _ _ _ _ (addr_ne _ _ _ (by omega))).trans h.c5, (World.cell?_setCell_other _ _ _ _ (addr_ne _ _ _ (by omega))).trans h.c6, (World.cell?_setCell_other _ _ _ _ (addr_ne _ _ _ (by omega))).trans h.c7, fun j => by rw [World.frozen?_setCell]; exact h.fz j⟩
theorem G8.set5 {w : World} {b : Nat} {g0 g1 g2 g3 g4 g5 g6 g7 : Int} (h : G8 w b g0 g1 g2 g3 g4 g5 g6 g7) (x : Int) : G8 (w.setCell ⟨b, 5, none⟩ (.int .u16 x)) b g0 g1 g2 g3 g4 x g6 g7 :=
  ⟨(World.cell?_setCell_other _ _ _ _ (addr_ne _ _ _ (by omega))).trans h.c0, (World.cell?_setCell_other _ _ _ _ (addr_ne _ _ _ (by omega))).trans h.c1, (World.cell?_setCell_other _ _ _ _ (addr_ne _ _ _ (by omega))).trans h.c2, (World.cell?_setCell_other _ _ _ _ (addr_ne _ _ _ (by omega))).trans h.c3, (World.cell?_setCell_other _ _ _ _ (addr_ne _ _ _ (by omega))).trans h.c4, World.cell?_setCell_same _ _ _ h.c5, (World.cell?_setCell_other _ _ _ _ (addr_ne _ _ _ (by omega))).trans h.c6, (World.cell?_setCell_other _ _ _ _ (addr_ne _ _ _ (by omega))).trans h.c7, fun j => by rw [World.frozen?_setCell]; exact h.fz j⟩
theorem G8.set6 {w : World} {b : Nat} {g0 g1 g2 g3 g4 g5 g6 g7 : Int} (h : G8 w b g0 g1 g2 g3 g4 g5 g6 g7) (x : Int) : G8 (w.setCell ⟨b, 6, none⟩ (.int .u16 x)) b g0 g1 g2 g3 g4 g5 x g7 :=
  ⟨(World.cell?_setCell_other _ _ _ _ (addr_ne _ _ _ (by omega))).trans h.c0, (World.cell?_setCell_other _ _ _ _ (addr_ne _ _ _ (by omega))).trans h.c1, (World.cell?_setCell_other _ _ _ _ (addr_ne _ _ _ (by omega))).trans h.c2, (World.cell?_setCell_other _ _ _ _ (addr_ne _ _ _ (by omega))).trans h.c3, (World.cell?_setCell_other _ _ _ _ (addr_ne _ _ _ (by omega))).trans h.c4, (World.cell?_setCell_other _ _ _ _ (addr_ne _ _ _ (by omega))).trans h.c5, World.cell?_setCell_same _ _ _ h.c6, (World.cell?_setCell_other _ _ _ _ (addr_ne _ _ _ (by omega))).trans h.c7, fun j => by rw [World.frozen?_setCell]; exact h.fz j⟩
theorem G8.set7 {w : World} {b : Nat} {g0 g1 g2 g3 g4 g5 g6 g7 : Int} (h : G8 w b g0 g1 g2 g3 g4 g5 g6 g7) (x : Int) : G8 (w.setCell ⟨b, 7, none⟩ (.int .u16 x)) b g0 g1 g2 g3 g4 g5 g6 x :=
  ⟨(World.cell?_setCell_other _ _ _ _ (addr_ne _ _ _ (by omega))).trans h.c0, (World.cell?_setCell_other _ _ _ _ (addr_ne _ _ _ (by omega))).trans h.c1, (World.cell?_setCell_other _ _ _ _ (addr_ne _ _ _ (by omega))).trans h.c2, (World.cell?_setCell_other _ _ _ _ (addr_ne _ _ _ (by omega))).trans h.c3, (World.cell?_setCell_other _ _ _ _ (addr_ne _ _ _ (by omega))).trans h.c4, (World.cell?_setCell_other _ _ _ _ (addr_ne _ _ _ (by omega))).trans h.c5, (World.cell?_setCell_other _ _ _ _ (addr_ne _ _ _ (by omega))).trans h.c6, World.cell?_setCell_same _ _ _ h.c7, fun j => by rw [World.frozen?_setCell]; exact h.fz j⟩
theorem G8.set8 {w : World} {b : Nat} {g0 g1 g2 g3 g4 g5 g6 g7 : Int} (h : G8 w b g0 g1 g2 g3 g4 g5 g6 g7) (x0 x1 x2 x3 x4 x5 x6 x7 : Int) : G8 (set8 w b x0 x1 x2 x3 x4 x5 x6 x7) b x0 x1 x2 x3 x4 x5 x6 x7 := (((((((h.set0 x0).set1 x1).set2 x2).set3 x3).set4 x4).set5 x5).set6 x6).set7 x7
theorem set8_below {w0 w : World} {n b : Nat} (h : Below n w0 w) (hn : n ≤ b) (x0 x1 x2 x3 x4 x5 x6 x7 : Int) : Below n w0 (set8 w b x0 x1 x2 x3 x4 x5 x6 x7) := ((((((((h.setCell (p := ⟨b, 0, none⟩) hn _).setCell (p := ⟨b, 1, none⟩) hn _).setCell (p := ⟨b, 2, none⟩) hn _).setCell (p := ⟨b, 3, none⟩) hn _).setCell (p := ⟨b, 4, none⟩) hn _).setCell (p := ⟨b, 5, none⟩) hn _).setCell (p := ⟨b, 6, none⟩) hn _).setCell (p := ⟨b, 7, none⟩) hn _)
theorem set8_size (w : World) (b : Nat) (x0 x1 x2 x3 x4 x5 x6 x7 : Int) : (set8 w b x0 x1 x2 x3 x4 x5 x6 x7).heap.size = w.heap.size := by simp [set8]
theorem loadVar_groups {w : World} {b : Nat} {g0 g1 g2 g3 g4 g5 g6 g7 : Int} (h : G8 w b g0 g1 g2 g3 g4 g5 g6 g7) :
    (loadVar 24 ⟨b, 0, none⟩).run Tryz.prog w = .ok (.agg #[.int .u16 g0, .int .u16 g1, .int .u16 g2, .int .u16 g3, .int .u16 g4, .int .u16 g5, .int .u16 g6, .int .u16 g7]) w := by
  obtain ⟨c0, c1, c2, c3, c4, c5, c6, c7, fz⟩ := h
  have a3 := Tryz.isAgg24
  have z3 := Tryz.sizeOf24
  simp [loadVar, go_sem, *]
theorem res_cell_tmp {fn : Func} {p u : Tmp} {ty : TypeId} (h : fn.results = #[.cell p ty, .tmp u]) (tmps : Array Value) (Pr : Program) (w : World) (b : Nat) (hp : tmps.getD p undef = .pointer (some ⟨b, 0, none⟩)) (v : Value) (hl : (loadVar ty ⟨b, 0, none⟩).run Pr w = .ok v w) :
    (results fn tmps).run Pr w = .ok (.tuple #[v, tmps.getD u undef]) w := by
  rw [results_cell_tmp h, hp, show (asAddr (.pointer (some ⟨b, 0, none⟩))).run Pr w = .ok ⟨b, 0, none⟩ w from rfl]
  simp only [Result.andThen_ok, hl]
theorem TsAt.setCell {w : World} {b o : Nat} {l : List (List UInt8)} (h : TsAt w b o l) {a : Addr} (ha : a.block ≠ b) (v : Value) : TsAt (w.setCell a v) b o l :=
  fun j g hg => (World.cell?_setCell_other _ _ _ _ (by intro e; exact ha (by rw [e]))).trans (h j g hg)

def P.g4V (o : Option (Nat × Nat)) : Value := .agg #[.int .u16 (((o.getD (0, 0)).1 : Nat) : Int), .int .u16 (((o.getD (0, 0)).2 : Nat) : Int), .int .u16 0, .int .u16 0, .int .u16 0, .int .u16 0, .int .u16 0, .int .u16 0]

set_option maxHeartbeats 8000000 in
set_option maxRecDepth 1000000 in
theorem readFour_any (s : ByteArray) (w : World) (hs : s.size ≤ 4000) (hE : Env w) :
    Calls Tryz.prog 49 #[.string s] w fun e w' => e = .returned (.tuple #[P.g4V (P.fourP s.data.toList), .bool (P.fourP s.data.toList).isSome]) ∧ Below w.heap.size w w' := by
  obtain ⟨ps, hps⟩ : ∃ ps, Lib.splitN s.data.toList [46] 5 = ps := ⟨_, rfl⟩
  have hbw0 : Below w.heap.size w (w.alloc (Obj.cells #[.int .u16 0, .int .u16 0, .int .u16 0, .int .u16 0, .int .u16 0, .int .u16 0, .int .u16 0, .int .u16 0] 24)) := (Below.refl _ w).alloc (Nat.le_refl _) _
  have hG := g8_zero w 24
  generalize hW : w.alloc (Obj.cells #[.int .u16 0, .int .u16 0, .int .u16 0, .int .u16 0, .int .u16 0, .int .u16 0, .int .u16 0, .int .u16 0] 24) = W0 at *
  have hWs : W0.heap.size = w.heap.size + 1 := by rw [← hW]; simp
  have HS := splitN_any s 46 5 W0 hs (by omega) (by omega) (hE.below hbw0)
  have hpl := P.splitN_len s.data.toList [46] 5 (by omega)
  have hlen : s.data.toList.length = s.size := by simp
  have hsub : ∀ p ∈ ps, p.length ≤ 4000 := by
    intro p hp
    rw [← hps] at hp
    have := P.splitK_sub [46] _ _ p hp
    omega
  rw [hps, show ((5 : Nat) : Int) = 5 from rfl] at HS
  rw [hps] at hpl
  have hP : P.fourP s.data.toList = if ps.length = 4 then P.fourF 0 0 0 ps else none := by unfold P.fourP; rw [hps]
  have HP := Lib.hid hP
  have HSub := Lib.hid hsub
  have HS2 := Lib.hid HS
  have HE := Lib.hid hE
  have HG := Lib.hid hG
  have HW := Lib.hid hW
  clear hps HS hsub hE hlen hP hG hW
  go_enter Tryz.func49, Tryz.ntmps49
  go_wp2_with fail
  rw [HW.out]
  with_reducible refine HS2.out.mono ?_
  rintro e w1 ⟨cap, rfl, hTS, hB1, hb1⟩
  have HTS := Lib.hid hTS
  have hbs1 := hb1.size
  clear hTS HS2
  by_cases h4 : ps.length = 4
  · have HP2 := Lib.hid (show P.fourP s.data.toList = P.fourF 0 0 0 ps by rw [HP.out, if_pos h4])
    have hb4 : ((ps.length : Int) == 4) = true := by rw [h4]; rfl
    rw [hWs] at HTS hB1
    have hG1 := HG.out.below hb1 (by omega)
    have hbw1 := hbw0.trans (hb1.mono (by omega))
    go_wp2_with fail
    clear hb4
    go_loopw [17] (fun i wr => ∃ k x y : Nat, i = .int .i64 k ∧ (k = 0 ∧ x = 0 ∧ y = 0 ∨ k = 1 ∧ x ≤ 255 ∧ y = 0 ∨ k = 2 ∧ x ≤ 65535 ∧ y = 0 ∨ k = 3 ∧ x ≤ 65535 ∧ y ≤ 255 ∨ k = 4 ∧ x ≤ 65535 ∧ y ≤ 65535) ∧ Below w.heap.size w wr ∧ w.heap.size + 1 < wr.heap.size ∧ Hid (TsAt wr (w.heap.size + 1) 0 ps) ∧ Hid (G8 wr w.heap.size x y 0 0 0 0 0 0) ∧ Hid (P.fourF k x y (ps.drop k) = P.fourF 0 0 0 ps)) (fun i _ => 4 - (intOf i).toNat)
    case atStart => exact ⟨0, 0, 0, rfl, by omega, hbw1, hB1, HTS, Lib.hid hG1, Lib.hid rfl⟩
    case round =>
      obtain ⟨k, x, y, rfl, hcase, hbw, hBw, hTS, hGw, hc⟩ := hrel
      by_cases h4k : k = 4
      · subst h4k
        have hD := hc.out
        rw [List.drop_eq_nil_of_le (by omega), P.fourF] at hD
        have HD := Lib.hid hD
        clear hD hc
        obtain ⟨c0, c1, c2, c3, c4, c5, c6, c7, fz⟩ := hGw.out
        go_wp2_with fail
        have hGf := G8.set8 ⟨c0, c1, c2, c3, c4, c5, c6, c7, fz⟩ x y 0 0 0 0 0 0
        have hbf := set8_below hbw (Nat.le_refl _) x y 0 0 0 0 0 0
        change bodyPost _ _ _ _ _ (set8 wr w.heap.size x y 0 0 0 0 0 0)
        generalize set8 wr w.heap.size x y 0 0 0 0 0 0 = Wf at *
        refine bodyPost_ret (res_cell_tmp rfl _ _ _ w.heap.size rfl _ (loadVar_groups hGf)) rfl ?_
        exact ⟨by rw [HP2.out, ← HD.out]; rfl, hbf⟩
      · have hk4 : k < ps.length := by omega
        obtain ⟨p, hp⟩ : ∃ p, ps[k]? = some p := ⟨_, List.getElem?_eq_getElem hk4⟩
        have hcell := hTS.out k p hp
        rw [Nat.zero_add] at hcell
        have hpd : ps.drop k = p :: ps.drop (k + 1) := by rw [List.drop_eq_getElem_cons hk4, (List.getElem?_eq_some_iff.1 hp).2]
        have hD := hc.out
        rw [hpd] at hD
        have HR := Lib.hid (readNumber_any ⟨p.toArray⟩ 255 wr (by rw [show (⟨p.toArray⟩ : ByteArray).size = p.length from by simp [ByteArray.size]]; exact HSub.out p (List.mem_of_getElem? hp)) (by omega))
        rw [show (⟨p.toArray⟩ : ByteArray).data.toList = p from by simp, show ((255 : Nat) : Int) = 255 from rfl] at HR
        clear hp hpd hc
        generalize (⟨p.toArray⟩ : ByteArray) = S at *
        cases hg : P.numP 255 p with
        | none =>
          rw [hg] at HR
          rw [fourF_none _ _ _ _ _ hg] at hD
          have HD := Lib.hid hD
          clear hD hg
          rcases hcase with ⟨rfl, rfl, rfl⟩ | ⟨rfl, hx, rfl⟩ | ⟨rfl, hx, rfl⟩ | ⟨rfl, hx, hy⟩ | ⟨rfl, hx, hy⟩
          case inr.inr.inr.inr => omega
          all_goals
            go_wp2_with fail
            with_reducible refine HR.out.mono ?_
            rintro e w2 ⟨rfl, hb3⟩
            obtain ⟨c0, c1, c2, c3, c4, c5, c6, c7, fz⟩ := hGw.out.below hb3 (by omega)
            simp only [Option.getD_none, Option.isSome_none]
            go_wp2_with fail
            have hGf := G8.set8 ⟨c0, c1, c2, c3, c4, c5, c6, c7, fz⟩ 0 0 0 0 0 0 0 0
            have hbf := set8_below (hbw.trans (hb3.mono hbw.size)) (Nat.le_refl _) 0 0 0 0 0 0 0 0
            change bodyPost _ _ _ _ _ (set8 w2 w.heap.size 0 0 0 0 0 0 0 0)
            generalize set8 w2 w.heap.size 0 0 0 0 0 0 0 0 = Wf at *
            refine bodyPost_ret (res_cell_tmp rfl _ _ _ w.heap.size rfl _ (loadVar_groups hGf)) rfl ?_
            exact ⟨by rw [HP2.out, ← HD.out]; rfl, hbf⟩
        | some n =>
          have hn := P.numP_le _ _ _ hg
          rw [hg] at HR
          rcases hcase with ⟨rfl, rfl, rfl⟩ | ⟨rfl, hx, rfl⟩ | ⟨rfl, hx, rfl⟩ | ⟨rfl, hx, hy⟩ | ⟨rfl, hx, hy⟩
          case inr.inr.inr.inr => omega
          · rw [fourF_low _ _ _ _ _ _ hg (by omega)] at hD
            have HD := Lib.hid hD
            have hor := or_byte0 n hn
            clear hD hg
            go_wp2_with fail
            with_reducible refine HR.out.mono ?_
            rintro e w2 ⟨rfl, hb3⟩
            have hG2 := hGw.out.below hb3 (by omega)
            have hT2 := hTS.out.below hb3 (by omega)
            have HG2 := Lib.hid hG2
            have HT2 := Lib.hid hT2
            have hbs3 := hb3.size
            have hbw3 := hbw.trans (hb3.mono hbw.size)
            clear hT2
            obtain ⟨c0, c1, c2, c3, c4, c5, c6, c7, fz⟩ := hG2
            simp only [Option.getD_some, Option.isSome_some]
            go_wp2_with fail
            refine ⟨⟨1, 0 * 256 + n, 0, rfl, by omega, hbw3.setCell (p := ⟨w.heap.size, 0, none⟩) (Nat.le_refl _) _, by simp; omega, Lib.hid (HT2.out.setCell (by simp) _), Lib.hid (by have h := HG2.out.set0 (n : Int); simpa using h), HD⟩, by simp [intOf]⟩
          · rw [fourF_low _ _ _ _ _ _ hg (by omega)] at hD
            have HD := Lib.hid hD
            have hor := or_byte x n hx hn
            clear hD hg
            go_wp2_with fail
            with_reducible refine HR.out.mono ?_
            rintro e w2 ⟨rfl, hb3⟩
            have hG2 := hGw.out.below hb3 (by omega)
            have hT2 := hTS.out.below hb3 (by omega)
            have HG2 := Lib.hid hG2
            have HT2 := Lib.hid hT2
            have hbs3 := hb3.size
            have hbw3 := hbw.trans (hb3.mono hbw.size)
            clear hT2
            obtain ⟨c0, c1, c2, c3, c4, c5, c6, c7, fz⟩ := hG2
            simp only [Option.getD_some, Option.isSome_some]
            go_wp2_with fail
            refine ⟨⟨2, x * 256 + n, 0, rfl, by omega, hbw3.setCell (p := ⟨w.heap.size, 0, none⟩) (Nat.le_refl _) _, by simp; omega, Lib.hid (HT2.out.setCell (by simp) _), Lib.hid (by have h := HG2.out.set0 ((x * 256 + n : Nat) : Int); simpa using h), HD⟩, by simp [intOf]⟩
          · rw [fourF_high _ _ _ _ _ _ hg (by omega)] at hD
            have HD := Lib.hid hD
            have hor := or_byte0 n hn
            clear hD hg
            go_wp2_with fail
            with_reducible refine HR.out.mono ?_
            rintro e w2 ⟨rfl, hb3⟩
            have hG2 := hGw.out.below hb3 (by omega)
            have hT2 := hTS.out.below hb3 (by omega)
            have HG2 := Lib.hid hG2
            have HT2 := Lib.hid hT2
            have hbs3 := hb3.size
            have hbw3 := hbw.trans (hb3.mono hbw.size)
            clear hT2
            obtain ⟨c0, c1, c2, c3, c4, c5, c6, c7, fz⟩ := hG2
            simp only [Option.getD_some, Option.isSome_some]
            go_wp2_with fail
            refine ⟨⟨3, x, 0 * 256 + n, rfl, by omega, hbw3.setCell (p := ⟨w.heap.size, 1, none⟩) (Nat.le_refl _) _, by simp; omega, Lib.hid (HT2.out.setCell (by simp) _), Lib.hid (by have h := HG2.out.set1 (n : Int); simpa using h), HD⟩, by simp [intOf]⟩
          · rw [fourF_high _ _ _ _ _ _ hg (by omega)] at hD
            have HD := Lib.hid hD
            have hor := or_byte y n hy hn
            clear hD hg
            go_wp2_with fail
            with_reducible refine HR.out.mono ?_
            rintro e w2 ⟨rfl, hb3⟩
            have hG2 := hGw.out.below hb3 (by omega)
            have hT2 := hTS.out.below hb3 (by omega)
            have HG2 := Lib.hid hG2
            have HT2 := Lib.hid hT2
            have hbs3 := hb3.size
            have hbw3 := hbw.trans (hb3.mono hbw.size)
            clear hT2
            obtain ⟨c0, c1, c2, c3, c4, c5, c6, c7, fz⟩ := hG2
            simp only [Option.getD_some, Option.isSome_some]
            go_wp2_with fail
            refine ⟨⟨4, x, y * 256 + n, rfl, by omega, hbw3.setCell (p := ⟨w.heap.size, 1, none⟩) (Nat.le_refl _) _, by simp; omega, Lib.hid (HT2.out.setCell (by simp) _), Lib.hid (by have h := HG2.out.set1 ((y * 256 + n : Nat) : Int); simpa using h), HD⟩, by simp [intOf]⟩
  · have HP2 := Lib.hid (show P.fourP s.data.toList = none by rw [HP.out, if_neg h4])
    have hG1 := HG.out.below hb1 (by omega)
    obtain ⟨c0, c1, c2, c3, c4, c5, c6, c7, fz⟩ := hG1
    go_wp2_with fail
    have hGf := G8.set8 ⟨c0, c1, c2, c3, c4, c5, c6, c7, fz⟩ 0 0 0 0 0 0 0 0
    have hbf := set8_below (hbw0.trans (hb1.mono (by omega))) (Nat.le_refl _) 0 0 0 0 0 0 0 0
    change bodyPost _ _ _ _ _ (set8 w1 w.heap.size 0 0 0 0 0 0 0 0)
    generalize set8 w1 w.heap.size 0 0 0 0 0 0 0 0 = Wf at *
    refine bodyPost_ret (res_cell_tmp rfl _ _ _ w.heap.size rfl _ (loadVar_groups hGf)) rfl ?_
    exact ⟨by rw [HP2.out]; rfl, hbf⟩
end Go.Proofs.YtbejnnkdgcelmaaGreatDoor
