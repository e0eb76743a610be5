/- Of stage 02: what row_any, refRow_any leans on (part 1). -/
import Derived.Test.YtciohjgcndgiaaaGreatDoorProg
import Derived.Test.YtciohjgcndgiaaaGreatDoorShelf
import Derived.WalkKit
import Derived.Handy
import Derived.WalkSpells
import Derived.WalkLawsBesides
import Derived.WalkSmall
import Derived.ShutString
import Derived.Lib.Hide
import Derived.Below
import Derived.Deep.Light
import Derived.Deep.LoopGhost
import Derived.Deep.QuietTactic
import Derived.BigQuiet
import Derived.ProofKit
import Derived.Laws.StructEq
import Derived.ChangeKeysEq
import Derived.Lib.Join
import Derived.Lib.ItoaNum
import Derived.Lib.LaidTab
import Derived.Lib.UnsafeStr
import Derived.Lib.AppendStr
import Derived.Laws.BytesString
import Derived.Laws.BitsAllLaws
import Derived.Laws.OwnMore
import Derived.OwnWalk
import Derived.Maps.AppendAt
import Derived.Deep.Onto
import Derived.Lib.Split
import Derived.Laws.ResultCell
import Derived.Laws.CopyOwn
import Derived.Lib.AppendIntMem
import Derived.Lib.ItoaLen
import Derived.Deep.RegionWith
import Derived.Lib.LastIndexByte
set_option linter.unusedSimpArgs false
set_option linter.unusedVariables false
namespace Go.Proofs.YtciohjgcndgiaaaGreatDoor.R2
open Go.RowKit
structure Ad where
  f : Int
  g0 : Int
  g1 : Int
  g2 : Int
  g3 : Int
  g4 : Int
  g5 : Int
  g6 : Int
  g7 : Int
  p : Int
  deriving DecidableEq, Inhabited
def Ad.gs (a : Ad) : List Int := [a.g0, a.g1, a.g2, a.g3, a.g4, a.g5, a.g6, a.g7]
def Ad.gv (a : Ad) : List Value := [.int .u16 a.g0, .int .u16 a.g1, .int .u16 a.g2, .int .u16 a.g3, .int .u16 a.g4, .int .u16 a.g5, .int .u16 a.g6, .int .u16 a.g7]
def Ad.enc (a : Ad) : List Value := [.int .i8 a.f, .int .u16 a.g0, .int .u16 a.g1, .int .u16 a.g2, .int .u16 a.g3, .int .u16 a.g4, .int .u16 a.g5, .int .u16 a.g6, .int .u16 a.g7, .int .i64 a.p]
def Ad.v (a : Ad) : Value := .agg a.enc.toArray
def Ad.Ok (a : Ad) : Prop := (-128 ≤ a.f ∧ a.f ≤ 127) ∧ ((0 ≤ a.g0 ∧ a.g0 ≤ 65535) ∧ (0 ≤ a.g1 ∧ a.g1 ≤ 65535) ∧ (0 ≤ a.g2 ∧ a.g2 ≤ 65535) ∧ (0 ≤ a.g3 ∧ a.g3 ≤ 65535) ∧ (0 ≤ a.g4 ∧ a.g4 ≤ 65535) ∧ (0 ≤ a.g5 ∧ a.g5 ≤ 65535) ∧ (0 ≤ a.g6 ∧ a.g6 ≤ 65535) ∧ (0 ≤ a.g7 ∧ a.g7 ≤ 65535)) ∧ -9223372036854775808 ≤ a.p ∧ a.p ≤ 9223372036854775807
/-- May the groups be those of such a family? -/
def mayG (a : Ad) : Bool := if a.f == 4 then a.g2 == 0 && a.g3 == 0 && a.g4 == 0 && a.g5 == 0 && a.g6 == 0 && a.g7 == 0 else a.f == 6
def mayP (a : Ad) : Bool := mayG a && decide (1 ≤ a.p) && decide (a.p ≤ 65535)
theorem eqItems_u16 (d : Nat) (w : World) (xs ys : Array Value) : ∀ (is : List Nat) (ks bs : List Int), is.length = ks.length → is.length = bs.length →
    (∀ (j i : Nat) (a : Int), is[j]? = some i → ks[j]? = some a → xs[i]? = some (Value.int .u16 a)) → (∀ (j i : Nat) (b : Int), is[j]? = some i → bs[j]? = some b → ys[i]? = some (Value.int .u16 b)) →
    (Op.eqItems (d + 1) 56 1 xs ys is).run Tryz.prog w = .ok (ks == bs) w
  | [], [], [], _, _, _, _ => by simp [Op.eqItems]
  | [], _ :: _, _, h, _, _, _ => by simp at h
  | [], _, _ :: _, _, h, _, _ => by simp at h
  | _ :: _, [], _, h, _, _, _ => by simp at h
  | _ :: _, _, [], _, h, _, _ => by simp at h
  | i :: is, a :: ks, b :: bs, h1, h2, h3, h4 => by
    have ha := h3 0 i a rfl rfl
    have hb := h4 0 i b rfl rfl
    have hk : Tryz.prog.plainKey 56 = true := by kernel_rfl
    simp only [Op.eqItems, Sem.run_bind, Nat.mul_one, run_part_plain w hk ha, run_part_plain w hk hb, Result.andThen_ok, run_equalIn_int w d _ _ _ a b Tryz.underlying56]
    by_cases hab : a = b
    · subst hab
      have ih := eqItems_u16 d w xs ys is ks bs (by simpa using h1) (by simpa using h2) (fun j i a hi ha => h3 (j + 1) i a (by simpa using hi) (by simpa using ha)) (fun j i b hi hb => h4 (j + 1) i b (by simpa using hi) (by simpa using hb))
      simpa using ih
    · simp [hab]
theorem at8 (g0 g1 g2 g3 g4 g5 g6 g7 : Int) (j i : Nat) (a : Int) (hi : (List.range 8)[j]? = some i) (ha : [g0, g1, g2, g3, g4, g5, g6, g7][j]? = some a) :
    (#[Value.int .u16 g0, .int .u16 g1, .int .u16 g2, .int .u16 g3, .int .u16 g4, .int .u16 g5, .int .u16 g6, .int .u16 g7] : Array Value)[i]? = some (.int .u16 a) := by
  have hij : i = j ∧ j < 8 := by
    have := List.getElem?_eq_some_iff.1 hi
    obtain ⟨h, e⟩ := this
    simp at h e
    omega
  obtain ⟨rfl, hlt⟩ := hij
  match i, hlt with
  | 0, _ | 1, _ | 2, _ | 3, _ | 4, _ | 5, _ | 6, _ | 7, _ => simp at ha ⊢; exact ha
theorem equalIn_groups (d : Nat) (w : World) (g0 g1 g2 g3 g4 g5 g6 g7 k0 k1 k2 k3 k4 k5 k6 k7 : Int) :
    (Op.equalIn (d + 2) 57 (.agg #[.int .u16 g0, .int .u16 g1, .int .u16 g2, .int .u16 g3, .int .u16 g4, .int .u16 g5, .int .u16 g6, .int .u16 g7]) (.agg #[.int .u16 k0, .int .u16 k1, .int .u16 k2, .int .u16 k3, .int .u16 k4, .int .u16 k5, .int .u16 k6, .int .u16 k7])).run Tryz.prog w = .ok ([g0, g1, g2, g3, g4, g5, g6, g7] == [k0, k1, k2, k3, k4, k5, k6, k7]) w := by
  obtain ⟨i, hi⟩ : ∃ i, Tryz.prog.info? 56 = some i := info_of_underlying Tryz.underlying56
  rw [run_equalIn_array w (d + 1) _ _ Tryz.underlying57 hi, show Tryz.prog.cellsOf 56 = 1 from by kernel_rfl]
  exact eqItems_u16 d w _ _ (List.range 8) _ _ rfl rfl (at8 _ _ _ _ _ _ _ _) (at8 _ _ _ _ _ _ _ _)
theorem eql_groups (w : World) (g0 g1 g2 g3 g4 g5 g6 g7 k0 k1 k2 k3 k4 k5 k6 k7 : Int) :
    (binOp .eql 57 (.agg #[.int .u16 g0, .int .u16 g1, .int .u16 g2, .int .u16 g3, .int .u16 g4, .int .u16 g5, .int .u16 g6, .int .u16 g7]) (.agg #[.int .u16 k0, .int .u16 k1, .int .u16 k2, .int .u16 k3, .int .u16 k4, .int .u16 k5, .int .u16 k6, .int .u16 k7])).run Tryz.prog w = .ok (.bool ([g0, g1, g2, g3, g4, g5, g6, g7] == [k0, k1, k2, k3, k4, k5, k6, k7])) w := by
  rw [run_eql_struct, show (10000 : Nat) = 9998 + 2 from rfl, equalIn_groups]
  rfl
theorem guard_groups (op : BinOp) (x y : Operand) (xs ys : Array Value) (w : World) : (eqGuard op 57 x y (.agg xs) (.agg ys)).run Tryz.prog w = .ok () w := run_eqGuard_agg w op _ x y xs ys (by kernel_rfl)
set_option maxHeartbeats 2000000 in
set_option maxRecDepth 100000 in
theorem mayGroups_any (a : Ad) (w : World) :
    Calls Tryz.prog 62 #[.int .i8 a.f, .agg a.gv.toArray] w fun e w' => e = .returned (.bool (mayG a)) ∧ Below w.heap.size w w' := by
  obtain ⟨f, g0, g1, g2, g3, g4, g5, g6, g7, p⟩ := a
  simp only [Ad.gv, mayG]
  have hE := eql_groups
  have hG := guard_groups
  cases h4 : (f == 4)
  · cases h6 : (f == 6)
    · go_enter Tryz.func62, Tryz.ntmps62
      go_wp2_with fail
      go_ret
      exact ⟨by simp_all, (Below.refl _ w).alloc (Nat.le_refl _) _⟩
    · go_enter Tryz.func62, Tryz.ntmps62
      go_wp2_with fail
      go_ret
      exact ⟨by simp_all, (Below.refl _ w).alloc (Nat.le_refl _) _⟩
  · go_enter Tryz.func62, Tryz.ntmps62
    go_wp2_with fail
    go_ret
    exact ⟨by simp_all [Bool.and_assoc], (Below.refl _ w).alloc (Nat.le_refl _) _⟩
/-- A row of addresses lies in cells. -/
def AdsAt (w : World) (b o : Nat) (l : List Ad) : Prop := ∀ (j : Nat) (a : Ad), l[j]? = some a → ∀ (i : Nat) (v : Value), a.enc[i]? = some v → w.cell? ⟨b, o + j * 10 + i, none⟩ = some v
theorem AdsAt.cells {w : World} {b o : Nat} {l : List Ad} (h : AdsAt w b o l) (j : Nat) (a : Ad) (ha : l[j]? = some a) :
    w.cell? ⟨b, o + j * 10, none⟩ = some (.int .i8 a.f) ∧ w.cell? ⟨b, o + j * 10 + 1, none⟩ = some (.int .u16 a.g0) ∧ w.cell? ⟨b, o + j * 10 + 2, none⟩ = some (.int .u16 a.g1) ∧ w.cell? ⟨b, o + j * 10 + 3, none⟩ = some (.int .u16 a.g2) ∧
    w.cell? ⟨b, o + j * 10 + 4, none⟩ = some (.int .u16 a.g3) ∧ w.cell? ⟨b, o + j * 10 + 5, none⟩ = some (.int .u16 a.g4) ∧ w.cell? ⟨b, o + j * 10 + 6, none⟩ = some (.int .u16 a.g5) ∧ w.cell? ⟨b, o + j * 10 + 7, none⟩ = some (.int .u16 a.g6) ∧ w.cell? ⟨b, o + j * 10 + 8, none⟩ = some (.int .u16 a.g7) ∧ w.cell? ⟨b, o + j * 10 + 9, none⟩ = some (.int .i64 a.p) :=
  ⟨h j a ha 0 _ rfl, h j a ha 1 _ rfl, h j a ha 2 _ rfl, h j a ha 3 _ rfl, h j a ha 4 _ rfl, h j a ha 5 _ rfl, h j a ha 6 _ rfl, h j a ha 7 _ rfl, h j a ha 8 _ rfl, h j a ha 9 _ rfl⟩
theorem AdsAt.below {w w' : World} {b o n : Nat} {l : List Ad} (h : AdsAt w b o l) (hb : Below n w w') (hn : b < n) : AdsAt w' b o l :=
  fun j a ha i v hv => (hb.cell hn).trans (h j a ha i v hv)
theorem all_step (l : List Ad) (k : Nat) (a : Ad) (ha : l[k]? = some a) : (l.drop k).all mayP = (mayP a && (l.drop (k + 1)).all mayP) := by
  obtain ⟨h, e⟩ := List.getElem?_eq_some_iff.1 ha
  rw [List.drop_eq_getElem_cons h, e, List.all_cons]
theorem mayP_eq (a : Ad) : mayP a = (mayG a && !(decide (a.p < 1)) && !(decide (65535 < a.p))) := by
  rw [mayP, Bool.eq_iff_iff]; simp
set_option maxHeartbeats 2000000 in
set_option maxRecDepth 100000 in
theorem may_any (l : List Ad) (b o c : Nat) (w : World) (hl : l.length ≤ 100000) (hb : b < w.heap.size) (hA : AdsAt w b o l) :
    Calls Tryz.prog 38 #[.slice (some ⟨b, o, none⟩) l.length c] w fun e w' => e = .returned (.bool (l.all mayP)) ∧ Below w.heap.size w w' := by
  go_enter Tryz.func38, Tryz.ntmps38
  go_wp2_with fail
  go_loopw [7] (fun i wr => ∃ k : Nat, i = .int .i64 k ∧ k ≤ l.length ∧ Below w.heap.size w wr ∧ Hid ((l.drop k).all mayP = l.all mayP)) (fun i _ => l.length - (intOf i).toNat)
  case atStart => exact ⟨0, rfl, by omega, Below.refl _ _, Lib.hid rfl⟩
  case round =>
    obtain ⟨k, rfl, hk, hbw, hall⟩ := hrel
    have hbs := hbw.size
    by_cases hlt : k < l.length
    · obtain ⟨a, ha⟩ : ∃ a, l[k]? = some a := ⟨_, List.getElem?_eq_getElem hlt⟩
      obtain ⟨c0, c1, c2, c3, c4, c5, c6, c7, c8, c9⟩ := (hA.below hbw hb).cells k a ha
      have HS := Lib.hid (And.intro (all_step l k a ha) (mayP_eq a))
      clear ha
      go_wp2_with fail
      have HC := mayGroups_any a (wr.alloc (.cells a.enc.toArray 59))
      simp only [Ad.gv, Ad.enc] at HC
      with_reducible refine HC.mono ?_
      clear HC
      rintro e w1 ⟨rfl, hb1⟩
      have cp : w1.cell? ⟨wr.heap.size, 9, none⟩ = some (.int .i64 a.p) := (hb1.cell (p := ⟨wr.heap.size, 9, none⟩) (by simp)).trans (by simp [go_sem])
      have hb2 : Below w.heap.size w w1 := (hbw.alloc hbw.size _).trans (hb1.mono (by simp; omega))
      have hs1 := hb1.size
      simp at hs1
      generalize hg : mayG a = G at *
      have HG := Lib.hid hg
      clear hg hb1 c0 c1 c2 c3 c4 c5 c6 c7 c8 c9
      rcases (show (a.p < 1 ∧ ¬ 65535 < a.p) ∨ (¬ a.p < 1 ∧ 65535 < a.p) ∨ (¬ a.p < 1 ∧ ¬ 65535 < a.p) by omega) with ⟨h1, h2⟩ | ⟨h1, h2⟩ | ⟨h1, h2⟩ <;> cases G
      all_goals
        go_wp2_with fail
        first
          | (go_ret
             exact ⟨by rw [← hall.out, HS.out.1, HS.out.2]; simp [HG.out, h1, h2], hb2⟩)
          | (go_roundw
             case rel => exact ⟨k + 1, by go_num, by omega, hb2, Lib.hid (by rw [← hall.out, HS.out.1, HS.out.2]; simp [HG.out, h1, h2])⟩
             case measure => simp [intOf]; omega)
    · obtain rfl : k = l.length := by omega
      go_wp2_with fail
      go_ret
      exact ⟨by rw [← hall.out]; simp, hbw⟩
end Go.Proofs.YtciohjgcndgiaaaGreatDoor.R2
namespace Go.Proofs.YtciohjgcndgiaaaGreatDoor.R2.P
def hexC (d : Nat) : UInt8 := if d < 10 then UInt8.ofNat (48 + d) else UInt8.ofNat (87 + d)
def hexF : Nat → Nat → List UInt8
  | 0, n => [hexC (n % 16)]
  | k + 1, n => if n < 16 then [hexC n] else hexF k (n / 16) ++ [hexC (n % 16)]
/-- The hexadecimal digits of a group. -/
def hexD (n : Nat) : List UInt8 := hexF 3 n
theorem hexF_small (k n : Nat) (h : n < 16) : hexF k n = [hexC n] := by
  cases k with
  | zero => rw [hexF, Nat.mod_eq_of_lt h]
  | succ k => rw [hexF, if_pos h]
theorem hexF_len : ∀ (k n : Nat), 1 ≤ (hexF k n).length ∧ (hexF k n).length ≤ k + 1
  | 0, n => by simp [hexF]
  | k + 1, n => by
    unfold hexF
    split
    · simp
    · have := hexF_len k (n / 16)
      simp; omega
theorem hexD_len (n : Nat) : 1 ≤ (hexD n).length ∧ (hexD n).length ≤ 4 := hexF_len 3 n
def tellG (gs : List Nat) : List UInt8 := Lib.join (gs.map hexD) [58]
def bytes4 (x y : Nat) : List (List UInt8) := [Lib.decDigits (x / 256), Lib.decDigits (x % 256), Lib.decDigits (y / 256), Lib.decDigits (y % 256)]
def tell4 (x y : Nat) : List UInt8 := Lib.join (bytes4 x y) [46]
/-- Where the first longest run of noughts begins and ends. -/
def runF : List Nat → Nat → Nat → Nat → Nat → Nat × Nat
  | [], _, _, f, t => (f, t)
  | g :: l, i, b, f, t => if g = 0 then (if 2 ≤ i + 1 - b ∧ t - f < i + 1 - b then runF l (i + 1) b b (i + 1) else runF l (i + 1) b f t) else runF l (i + 1) (i + 1) f t
def runP (gs : List Nat) : Nat × Nat := runF gs 0 0 0 0
def tell6 (gs : List Nat) : List UInt8 := if (runP gs).1 = (runP gs).2 then tellG gs else tellG (gs.take (runP gs).1) ++ (58 :: 58 :: tellG (gs.drop (runP gs).2))
def hostP (f : Int) (gs : List Nat) : List UInt8 := if f = 4 then tell4 (gs.getD 0 0) (gs.getD 1 0) else 91 :: (tell6 gs ++ [93])
end Go.Proofs.YtciohjgcndgiaaaGreatDoor.R2.P
namespace Go.Proofs.YtciohjgcndgiaaaGreatDoor.R2
open Go.RowKit
def Ad.ns (a : Ad) : List Nat := a.gs.map Int.toNat
end Go.Proofs.YtciohjgcndgiaaaGreatDoor.R2
namespace Go.Proofs.YtciohjgcndgiaaaGreatDoor.R2.P
def textP (a : Ad) : List UInt8 := hostP a.f a.ns ++ 58 :: Lib.decDigits a.p.toNat
theorem runF_le : ∀ (l : List Nat) (i b f t : Nat), b ≤ i → f ≤ t → t ≤ i → (runF l i b f t).1 ≤ (runF l i b f t).2 ∧ (runF l i b f t).2 ≤ i + l.length
  | [], i, b, f, t, _, h2, h3 => by simp [runF]; omega
  | g :: l, i, b, f, t, h1, h2, h3 => by
    unfold runF
    split
    · split
      · have := runF_le l (i + 1) b b (i + 1) (by omega) (by omega) (by omega)
        simp only [List.length_cons]; omega
      · have := runF_le l (i + 1) b f t (by omega) (by omega) (by omega)
        simp only [List.length_cons]; omega
    · have := runF_le l (i + 1) (i + 1) f t (by omega) (by omega) (by omega)
      simp only [List.length_cons]; omega
theorem runP_le (gs : List Nat) : (runP gs).1 ≤ (runP gs).2 ∧ (runP gs).2 ≤ gs.length := by
  have := runF_le gs 0 0 0 0 (by omega) (by omega) (by omega)
  simpa [runP] using this
theorem tellG_len (gs : List Nat) : (tellG gs).length ≤ 5 * gs.length := by
  unfold tellG
  cases gs with
  | nil => simp [Lib.join_nil]
  | cons g gs =>
    rw [List.map_cons, Lib.join_cons]
    have h : ∀ gs : List Nat, (Lib.joinTail [58] (gs.map hexD)).length ≤ 5 * gs.length := by
      intro gs
      induction gs with
      | nil => simp [Lib.joinTail]
      | cons g gs ih =>
        have := hexD_len g
        simp only [Lib.joinTail, List.map_cons, List.flatten_cons, List.length_append, List.length_cons, List.length_nil] at ih ⊢
        omega
    have h1 := hexD_len g
    have h2 := h gs
    simp only [List.length_append, List.length_cons]; omega
theorem tell6_len (gs : List Nat) (h : gs.length = 8) : (tell6 gs).length ≤ 82 := by
  unfold tell6
  split
  · have := tellG_len gs; omega
  · have h1 := tellG_len (gs.take (runP gs).1)
    have h2 := tellG_len (gs.drop (runP gs).2)
    simp only [List.length_append, List.length_cons, List.length_take, List.length_drop] at h1 h2 ⊢
    omega
end Go.Proofs.YtciohjgcndgiaaaGreatDoor.R2.P
namespace Go.Proofs.YtciohjgcndgiaaaGreatDoor.R2
open Go.RowKit
/-- What the walk asks of the package's variables. -/
structure Env (w : World) : Prop where
  pow : Lib.TabIs Tryz.prog w "internal/strconv.uint64pow10" .u64 Lib.pow10Tab
  powLt : 1 < w.heap.size
  bru : w.cell? ⟨3, 15, none⟩ = some (.int .u8 4)
theorem gPow : Tryz.prog.globalNamed "internal/strconv.uint64pow10" = some 1 := by kernel_rfl
theorem Env.bruLt {w : World} (h : Env w) : 3 < w.heap.size := World.block_lt_of_cell? _ _ h.bru
theorem Env.below {w w' : World} (h : Env w) (hb : Below w.heap.size w w') : Env w' :=
  ⟨var?_below hb gPow h.powLt h.pow, Nat.lt_of_lt_of_le h.powLt hb.size, (hb.cell (p := ⟨3, 15, none⟩) h.bruLt).trans h.bru⟩
set_option maxHeartbeats 1000000 in
theorem zeros16 (w : World) (hE : Env w) : Calls Tryz.prog 123 #[.int .u64 16] w fun e w' => e = .returned (.int .i64 4) ∧ w' = w := by
  have hb := hE.bru
  clear hE
  have e1 : (IntKind.u64.wrap (bits BinOp.and IntKind.u64 16 (IntKind.u64.wrap (-16)) * 285870213051353865) / 288230376151711744) = 15 := by decide
  go_enter Tryz.func123, Tryz.ntmps123
  go_wp2
  go_ret
  exact ⟨rfl, rfl⟩
/-- One byte of the digits' own text. -/
theorem hexC_get : ∀ d, d < 16 → ((⟨List.toArray (48 :: 49 :: 50 :: 51 :: 52 :: 53 :: 54 :: 55 :: 56 :: 57 :: 97 :: 98 :: 99 :: 100 :: 101 :: 102 :: 103 :: 104 :: 105 :: 106 :: 107 :: 108 :: 109 :: 110 :: 111 :: 112 :: 113 :: 114 :: 115 :: 116 :: 117 :: 118 :: 119 :: 120 :: 121 :: 122 :: [])⟩ : ByteArray).get! d) = P.hexC d := by decide
theorem hexC_at (d : Nat) (h : d < 16) (h' : d < (⟨List.toArray (48 :: 49 :: 50 :: 51 :: 52 :: 53 :: 54 :: 55 :: 56 :: 57 :: 97 :: 98 :: 99 :: 100 :: 101 :: 102 :: 103 :: 104 :: 105 :: 106 :: 107 :: 108 :: 109 :: 110 :: 111 :: 112 :: 113 :: 114 :: 115 :: 116 :: 117 :: 118 :: 119 :: 120 :: 121 :: 122 :: [])⟩ : ByteArray).size) : (⟨List.toArray (48 :: 49 :: 50 :: 51 :: 52 :: 53 :: 54 :: 55 :: 56 :: 57 :: 97 :: 98 :: 99 :: 100 :: 101 :: 102 :: 103 :: 104 :: 105 :: 106 :: 107 :: 108 :: 109 :: 110 :: 111 :: 112 :: 113 :: 114 :: 115 :: 116 :: 117 :: 118 :: 119 :: 120 :: 121 :: 122 :: [])⟩ : ByteArray)[d]'h' = P.hexC d := by
  rw [← hexC_get d h]
  generalize (⟨List.toArray (48 :: 49 :: 50 :: 51 :: 52 :: 53 :: 54 :: 55 :: 56 :: 57 :: 97 :: 98 :: 99 :: 100 :: 101 :: 102 :: 103 :: 104 :: 105 :: 106 :: 107 :: 108 :: 109 :: 110 :: 111 :: 112 :: 113 :: 114 :: 115 :: 116 :: 117 :: 118 :: 119 :: 120 :: 121 :: 122 :: [])⟩ : ByteArray) = b at *
  rw [ByteArray.getElem_eq_getElem_data]
  have h2 : d < b.data.size := h'
  show _ = b.data[d]!
  rw [getElem!_pos b.data d h2]
theorem and15 (q : Nat) (h : q < 18446744073709551616) : bits .and .u64 (q : Int) 15 = ((q % 16 : Nat) : Int) := by
  have := u64_and_nat q 15 h (by omega)
  rw [show ((15 : Nat) : Int) = 15 from rfl] at this
  rw [this, show (15 : Nat) = 2 ^ 4 - 1 from rfl, Nat.and_two_pow_sub_one_eq_mod]
theorem push_bytes : ∀ (l : List UInt8) (s : ByteArray), (l.map fun b => (b.toNat : Int)).foldl (fun r n => r.push (UInt8.ofNat n.toNat)) s = ⟨s.data ++ l.toArray⟩
  | [], s => by simp
  | b :: l, s => by
    rw [List.map_cons, List.foldl_cons, push_bytes l]
    have : UInt8.ofNat ((b.toNat : Int)).toNat = b := by simp
    rw [this]
    apply ByteArray.ext
    show (s.data.push b) ++ l.toArray = _
    apply Array.ext'
    simp
/-- Bytes that lie in cells, turned into a text. -/
theorem run_bytes_at {Pr : Program} {w : World} (src dst e : TypeId) (hs : Pr.underlying src = some (.slice e)) (he : Pr.underlying e = some (.int .u8)) (hd : Pr.underlying dst = some .string) (b o n cap : Nat) (l : List UInt8) (hl : l.length = n)
    (h : ∀ (j : Nat) (x : UInt8), l[j]? = some x → w.cell? ⟨b, o + j, none⟩ = some (.int .u8 (x.toNat : Int))) :
    (convert src dst (.slice (some ⟨b, o, none⟩) n cap)).run Pr w = .ok (.string ⟨l.toArray⟩) w := by
  rw [run_convert_bytes_string w src dst e _ _ _ hs he hd]
  have hb : Lib.byteCells l = (l.map fun b => (b.toNat : Int)).map (Value.int .u8) := by simp [Lib.byteCells]
  have h1 := run_loadCells_list (P := Pr) (w := w) (⟨b, o, none⟩ : Addr) (Lib.byteCells l) (fun j u hu => by
    simp only [Lib.byteCells, List.getElem?_map, Option.map_eq_some_iff] at hu
    obtain ⟨x, hx, rfl⟩ := hu
    rw [show ((⟨b, o, none⟩ : Addr).add j) = ⟨b, o + j, none⟩ from by unfold Addr.add; split <;> simp_all]
    exact h j x hx)
  rw [show (Lib.byteCells l).length = n from by rw [Lib.byteCells_length]; exact hl, hb] at h1
  rw [run_bytesToString w _ n cap _ h1, push_bytes, show ByteArray.empty.data ++ l.toArray = l.toArray from by apply Array.ext'; simp]
set_option maxHeartbeats 1000000 in
theorem isPow16 (w : World) : Calls Tryz.prog 122 #[.int .i64 16] w fun e w' => e = .returned (.bool true) ∧ w' = w := by
  go_enter Tryz.func122, Tryz.ntmps122
  go_wp2
  go_ret
  exact ⟨rfl, rfl⟩
theorem hexF_step (k q : Nat) (h : 16 ≤ q) : P.hexF (k + 1) q = P.hexF k (q / 16) ++ [P.hexC (q % 16)] := by
  rw [P.hexF, if_neg (by omega)]
theorem addr_ne (b i j : Nat) (h : i ≠ j) : (⟨b, i, none⟩ : Addr) ≠ ⟨b, j, none⟩ := by
  intro e; injection e; contradiction
set_option maxHeartbeats 4000000 in
set_option maxRecDepth 1000000 in
theorem bits16 (n : Nat) (w : World) (hn : n ≤ 65535) (hE : Env w) :
    Calls Tryz.prog 117 #[.slice none 0 0, .int .u64 n, .int .i64 16, .bool false, .bool false] w fun e w' => e = .returned (.tuple #[.slice none 0 0, .string ⟨(P.hexD n).toArray⟩]) ∧ Below w.heap.size w w' := by
  have hZ : ∀ j, j < 65 → (w.alloc (Obj.cells Tryz.zeroCells184 184)).cell? ⟨w.heap.size, j, none⟩ = some (.int .u8 0) ∧ (w.alloc (Obj.cells Tryz.zeroCells184 184)).frozen? ⟨w.heap.size, j, none⟩ = false := by
    intro j hj
    refine ⟨?_, World.frozen?_alloc_new _ _ _ _⟩
    rw [World.cell?_alloc_new]
    have e : Tryz.zeroCells184 = (List.replicate 65 (Value.int .u8 0)).toArray := rfl
    rw [e, List.getElem?_toArray, List.getElem?_replicate, if_pos hj]
  have HZ := Lib.hid hZ
  clear hZ
  go_enter Tryz.func117, Tryz.ntmps117
  go_wp2_with fail
  have HC := isPow16 (w.alloc (Obj.cells Tryz.zeroCells184 184))
  with_reducible refine HC.mono ?_
  clear HC
  rintro e w1 ⟨rfl, rfl⟩
  go_wp2_with fail
  have HC := zeros16 (w.alloc (Obj.cells Tryz.zeroCells184 184)) (hE.below ((Below.refl _ w).alloc (Nat.le_refl _) _))
  with_reducible refine HC.mono ?_
  clear HC
  rintro e w1 ⟨rfl, rfl⟩
  have HE := Lib.hid hE
  clear hE
  go_wp2_with fail
  go_loopw [1, 13] (fun u i wr => ∃ (k r q : Nat) (tl : List UInt8), k + r = 3 ∧ i = .int .i64 (65 - r : Int) ∧ u = .int .u64 q ∧ tl.length = r ∧ q ≤ 65535 ∧ q < 16 ^ (k + 1) ∧ Below w.heap.size w wr ∧ w.heap.size < wr.heap.size ∧
    (∀ j, j < 65 → (∃ v, wr.cell? ⟨w.heap.size, j, none⟩ = some v) ∧ wr.frozen? ⟨w.heap.size, j, none⟩ = false) ∧ (∀ (j : Nat) (x : UInt8), tl[j]? = some x → wr.cell? ⟨w.heap.size, 65 - r + j, none⟩ = some (.int .u8 (x.toNat : Int))) ∧ Hid (P.hexD n = P.hexF k q ++ tl)) (fun u _ _ => (intOf u).toNat)
  case atStart => exact ⟨3, 0, n, [], rfl, rfl, rfl, rfl, hn, by omega, (Below.refl _ w).alloc (Nat.le_refl _) _, by simp, fun j hj => ⟨⟨_, (HZ.out j hj).1⟩, (HZ.out j hj).2⟩, by simp, Lib.hid (by simp [P.hexD])⟩
  case round =>
    obtain ⟨k, r, q, tl, hkr, rfl, rfl, htl, hq, hqk, hbw, hws, hcf, htc, hhex⟩ := hrel
    obtain ⟨⟨v0, hc0⟩, hf0⟩ := hcf (65 - r - 1) (by omega)
    by_cases hlt : 16 ≤ q
    · have hand := and15 q (by omega)
      have hat := hexC_at (q % 16) (by omega) (by show q % 16 < 36; omega)
      have hk : 1 ≤ k := by
        rcases k with _ | k
        · simp at hqk; omega
        · omega
      go_wp2_with fail
      go_roundw
      case rel =>
        obtain ⟨k, rfl⟩ : ∃ m, k = m + 1 := ⟨k - 1, by omega⟩
        refine ⟨k, r + 1, q / 16, P.hexC (q % 16) :: tl, by omega, by go_num, by go_num, by simp [htl], by omega, by rw [Nat.pow_succ] at hqk; omega, hbw.setCell (Nat.le_refl _) _, by simpa using hws, ?_, ?_, Lib.hid (by rw [hhex.out, hexF_step k q hlt]; simp)⟩
        · intro j hj
          refine ⟨?_, by simpa using (hcf j hj).2⟩
          by_cases e : j = 65 - r - 1
          · subst e; exact ⟨_, World.cell?_setCell_same _ _ _ hc0⟩
          · rw [World.cell?_setCell_other _ _ _ _ (addr_ne _ _ _ (Ne.symm e))]; exact (hcf j hj).1
        · intro j x hx
          cases j with
          | zero =>
            simp at hx; subst hx
            rw [show 65 - (r + 1) + 0 = 65 - r - 1 from by omega]
            exact World.cell?_setCell_same _ _ _ hc0
          | succ j =>
            have hj : j < r := by rw [← htl]; simp at hx; exact (List.getElem?_eq_some_iff.1 hx).1
            rw [World.cell?_setCell_other _ _ _ _ (addr_ne _ _ _ (by omega)), show 65 - (r + 1) + (j + 1) = 65 - r + j from by omega]
            exact htc j x (by simpa using hx)
      case measure => simp [intOf]; omega
    · have hand := and15 q (by omega)
      rw [show q % 16 = q from by omega] at hand
      have hat := hexC_at q (by omega) (by show q < 36; omega)
      have hx : P.hexD n = P.hexC q :: tl := by rw [hhex.out, P.hexF_small k q (by omega)]; rfl
      have hsl : ∀ W, (Instr.sliceAt 184 (.pointer (some ⟨w.heap.size, 0, none⟩)) (some (.int .i64 (65 - (r : Int) - 1))) none none).run Tryz.prog W = .ok (.slice (some ⟨w.heap.size, 65 - r - 1, none⟩) (r + 1) (r + 1)) W := fun W => by
        rw [run_sliceAt_array_l W 184 ⟨w.heap.size, 0, none⟩ (by kernel_rfl) .i64 (65 - (r : Int) - 1) (by omega) (by rw [show Tryz.prog.arrayLen 184 = 65 from by kernel_rfl]; omega)]
        rw [show Tryz.prog.arrayLen 184 = 65 from by kernel_rfl, show Tryz.prog.elem 184 = 5 from by kernel_rfl]
        go_simp
        refine ⟨?_, ?_⟩ <;> omega
      have hcv := run_bytes_at (Pr := Tryz.prog) (w := wr.setCell ⟨w.heap.size, 65 - r - 1, none⟩ (.int .u8 ((P.hexC q).toNat : Int))) 143 9 5 Tryz.underlying143 Tryz.underlying5 Tryz.underlying9 w.heap.size (65 - r - 1) (r + 1) (r + 1) (P.hexD n) (by rw [hx]; simp [htl]) (by
        intro j x hj
        rw [hx] at hj
        cases j with
        | zero =>
          simp at hj; subst hj
          exact World.cell?_setCell_same _ _ _ hc0
        | succ j =>
          have hj2 : j < r := by rw [← htl]; simp at hj; exact (List.getElem?_eq_some_iff.1 hj).1
          rw [World.cell?_setCell_other _ _ _ _ (addr_ne _ _ _ (by omega)), show 65 - r - 1 + (j + 1) = 65 - r + j from by omega]
          exact htc j x (by simpa using hj))
      have HX := Lib.hid hx
      generalize hS : (⟨(P.hexD n).toArray⟩ : ByteArray) = S at *
      have HS := Lib.hid hS
      clear hx hS
      go_wp2_with fail
      go_ret2
      exact ⟨by rw [HS.out]; rfl, hbw.setCell (Nat.le_refl _) _⟩
set_option maxHeartbeats 1000000 in
set_option maxRecDepth 1000000 in
theorem formatI (n : Nat) (w : World) (hn : n ≤ 65535) (hE : Env w) :
    Calls Tryz.prog 118 #[.int .u64 n, .int .i64 16] w fun e w' => e = .returned (.string ⟨(P.hexD n).toArray⟩) ∧ Below w.heap.size w w' := by
  have HB := Lib.hid (bits16 n w hn hE)
  generalize (⟨(P.hexD n).toArray⟩ : ByteArray) = S at *
  go_enter Tryz.func118, Tryz.ntmps118
  go_wp2_with fail
  with_reducible refine HB.out.mono ?_
  rintro e w1 ⟨rfl, hb1⟩
  go_wp2_with fail
  go_ret
  exact ⟨rfl, hb1⟩
theorem formatU (n : Nat) (w : World) (hn : n ≤ 65535) (hE : Env w) :
    Calls Tryz.prog 113 #[.int .u64 n, .int .i64 16] w fun e w' => e = .returned (.string ⟨(P.hexD n).toArray⟩) ∧ Below w.heap.size w w' := by
  have HB := Lib.hid (formatI n w hn hE)
  generalize (⟨(P.hexD n).toArray⟩ : ByteArray) = S at *
  go_enter Tryz.func113, Tryz.ntmps113
  go_wp2_with fail
  with_reducible refine HB.out.mono ?_
  rintro e w1 ⟨rfl, hb1⟩
  go_wp2_with fail
  go_ret
  exact ⟨rfl, hb1⟩
theorem iStr : (Tryz.prog.info? 9).map (fun i => (i.zero, i.size, i.bytes)) = some (some (.string ByteArray.empty), 1, 16) := by kernel_rfl
def P.strs (l : List (List UInt8)) : List Value := l.map fun x => .string ⟨x.toArray⟩
theorem P.strs_append (l m : List (List UInt8)) : P.strs (l ++ m) = P.strs l ++ P.strs m := by simp [P.strs]
theorem own_below {w w' : World} {base m : Nat} {e : TypeId} {size : Nat} {v : Value} {n : Nat} {xs : List Value} (h : w.ownsRow base e size v n xs) (hb : Below m w w') (hm : ∀ k, v.ownBlock = some k → k < m) : w'.ownsRow base e size v n xs := by
  refine ⟨h.1, ?_⟩
  rcases h.2 with h2 | ⟨g, cap, cur, rfl, b, c, d⟩
  · exact .inl h2
  · exact .inr ⟨g, cap, cur, rfl, b, by rw [hb.block g (hm g rfl)]; exact c, d⟩
theorem own_below' {w w' : World} {base : Nat} {e : TypeId} {size : Nat} {v : Value} {n : Nat} {xs : List Value} (h : w.ownsRow base e size v n xs) (hb : Below w.heap.size w w') : w'.ownsRow base e size v n xs :=
  own_below h hb fun k hk => (h.lt k hk).2
theorem row_cell {w : World} {base : Nat} {e : TypeId} {s : Nat} {v : Value} {n : Nat} {xs : List Value} (h : w.ownsRow base e s v n xs) (hn : 0 < n) : ∃ g cap, v = .slice (some ⟨g, 0, none⟩) n cap ∧ base ≤ g ∧ g < w.heap.size ∧ n ≤ cap ∧ ∀ j, j < n * s → w.cell? ⟨g, j, none⟩ = xs[j]? := by
  rcases h.2 with ⟨_, h2⟩ | ⟨g, cap, cur, rfl, hb, hg, hc, _⟩
  · omega
  · exact ⟨g, cap, rfl, hb, (Array.getElem?_eq_some_iff.1 hg).1, hc, fun j hj => h.cellAt j hj⟩
theorem row_form {w : World} {base : Nat} {e : TypeId} {s : Nat} {v : Value} {n : Nat} {xs : List Value} (h : w.ownsRow base e s v n xs) : ∃ a cap, v = .slice a n cap := by
  rcases h.2 with ⟨rfl, rfl⟩ | ⟨g, cap, cur, rfl, _⟩
  · exact ⟨_, _, rfl⟩
  · exact ⟨_, _, rfl⟩
/-- What a call has just laid. -/
theorem cells_new (w : World) (t : TypeId) (l : List Value) (c : Array Value) (hc : c = l.toArray) : ∀ (j : Nat) (u : Value), l[j]? = some u → (w.alloc (.cells c t)).cell? ((⟨w.heap.size, 0, none⟩ : Addr).add j) = some u := by
  subst hc
  intro j u hu
  have e : ((⟨w.heap.size, 0, none⟩ : Addr).add j) = ⟨w.heap.size, j, none⟩ := by unfold Addr.add; split <;> simp_all
  rw [e, World.cell?_alloc_new]
  simpa using hu
/-- strings.Join of a row that the call owns. -/
theorem join_row (l : List (List UInt8)) (sep : ByteArray) (w : World) (base : Nat) (v : Value) (h : w.ownsRow base 9 1 v l.length (P.strs l)) (hl : l.length ≤ 100000) (hlen : (Lib.join l sep.data.toList).length ≤ 140737488355328) :
    Calls Tryz.prog 74 #[v, .string sep] w fun e w' => e = .returned (.string ⟨(Lib.join l sep.data.toList).toArray⟩) ∧ Below w.heap.size w w' := by
  cases hn : l.length with
  | zero =>
    have : l = [] := List.length_eq_zero_iff.1 hn
    subst this
    obtain ⟨a, c, rfl⟩ := row_form h
    exact (Tryz.strings_Join_none a c sep w).mono fun e w' ⟨h1, h2⟩ => ⟨by rw [h1]; rfl, by rw [h2]; exact Below.refl _ _⟩
  | succ m =>
    obtain ⟨g, cap, rfl, hb, hg, hc, hcell⟩ := row_cell h (by omega)
    have e1 : (l.map fun x => (⟨x.toArray⟩ : ByteArray)).map (·.data.toList) = l := by rw [List.map_map]; simp [Function.comp_def]
    have hj := Tryz.strings_Join g 0 cap (l.map fun x => ⟨x.toArray⟩) sep w (by
      intro j x hx
      simp only [List.getElem?_map, Option.map_eq_some_iff] at hx
      obtain ⟨y, hy, rfl⟩ := hx
      have hj : j < l.length := (List.getElem?_eq_some_iff.1 hy).1
      rw [Nat.zero_add, hcell j (by omega)]
      simp [P.strs, hy]) hg (by simp; omega) (by simpa using hc) (by rw [e1]; exact hlen)
    rw [e1, List.length_map] at hj
    exact hj
/-- Texts lie in cells. -/
def TsAt (w : World) (b o : Nat) (ps : List (List UInt8)) : Prop := ∀ (j : Nat) (p : List UInt8), ps[j]? = some p → w.cell? ⟨b, o + j, none⟩ = some (.string ⟨p.toArray⟩)
theorem TsAt.below {w w' : World} {b o n : Nat} {l : List (List UInt8)} (h : TsAt w b o l) (hb : Below n w w') (hn : b < n) : TsAt w' b o l :=
  fun j g hg => (hb.cell hn).trans (h j g hg)
/-- Eight groups in a block of the call's own. -/
structure G8 (w : World) (b : Nat) (g0 g1 g2 g3 g4 g5 g6 g7 : Int) : Prop where
  c0 : w.cell? ⟨b, 0, none⟩ = some (.int .u16 g0)
  c1 : w.cell? ⟨b, 1, none⟩ = some (.int .u16 g1)
  c2 : w.cell? ⟨b, 2, none⟩ = some (.int .u16 g2)
  c3 : w.cell? ⟨b, 3, none⟩ = some (.int .u16 g3)
  c4 : w.cell? ⟨b, 4, none⟩ = some (.int .u16 g4)
  c5 : w.cell? ⟨b, 5, none⟩ = some (.int .u16 g5)
  c6 : w.cell? ⟨b, 6, none⟩ = some (.int .u16 g6)
  c7 : w.cell? ⟨b, 7, none⟩ = some (.int .u16 g7)
  fz : ∀ j, w.frozen? ⟨b, j, none⟩ = false
theorem G8.below {w w' : World} {b n : Nat} {g0 g1 g2 g3 g4 g5 g6 g7 : Int} (h : G8 w b g0 g1 g2 g3 g4 g5 g6 g7) (hb : Below n w w') (hn : b < n) : G8 w' b g0 g1 g2 g3 g4 g5 g6 g7 :=
  ⟨(hb.cell hn).trans h.c0, (hb.cell hn).trans h.c1, (hb.cell hn).trans h.c2, (hb.cell hn).trans h.c3, (hb.cell hn).trans h.c4, (hb.cell hn).trans h.c5, (hb.cell hn).trans h.c6, (hb.cell hn).trans h.c7, fun j => (hb.frozen hn).trans (h.fz j)⟩
theorem G8.set0 {w : World} {b : Nat} {g0 g1 g2 g3 g4 g5 g6 g7 : Int} (h : G8 w b g0 g1 g2 g3 g4 g5 g6 g7) (x : Int) : G8 (w.setCell ⟨b, 0, none⟩ (.int .u16 x)) b x g1 g2 g3 g4 g5 g6 g7 :=
  ⟨World.cell?_setCell_same _ _ _ h.c0, (World.cell?_setCell_other _ _ _ _ (addr_ne _ _ _ (by omega))).trans h.c1, (World.cell?_setCell_other _ _ _ _ (addr_ne _ _ _ (by omega))).trans h.c2, (World.cell?_setCell_other _ _ _ _ (addr_ne _ _ _ (by omega))).trans h.c3, (World.cell?_setCell_other _ _ _ _ (addr_ne _ _ _ (by omega))).trans h.c4, (World.cell?_setCell_other _ _ _ _ (addr_ne _ _ _ (by omega))).trans h.c5, (World.cell?_setCell_other _ _ _ _ (addr_ne _ _ _ (by omega))).trans h.c6, (World.cell?_setCell_other _ _ _ _ (addr_ne _ _ _ (by omega))).trans h.c7, fun j => by rw [World.frozen?_setCell]; exact h.fz j⟩
theorem G8.set1 {w : World} {b : Nat} {g0 g1 g2 g3 g4 g5 g6 g7 : Int} (h : G8 w b g0 g1 g2 g3 g4 g5 g6 g7) (x : Int) : G8 (w.setCell ⟨b, 1, none⟩ (.int .u16 x)) b g0 x g2 g3 g4 g5 g6 g7 :=
  ⟨(World.cell?_setCell_other _ _ _ _ (addr_ne _ _ _ (by omega))).trans h.c0, World.cell?_setCell_same _ _ _ h.c1, (World.cell?_setCell_other _ _ _ _ (addr_ne _ _ _ (by omega))).trans h.c2, (World.cell?_setCell_other _ _ _ _ (addr_ne _ _ _ (by omega))).trans h.c3, (World.cell?_setCell_other _ _ _ _ (addr_ne _ _ _ (by omega))).trans h.c4, (World.cell?_setCell_other _ _ _ _ (addr_ne _ _ _ (by omega))).trans h.c5, (World.cell?_setCell_other _ _ _ _ (addr_ne _ _ _ (by omega))).trans h.c6, (World.cell?_setCell_other _ _ _ _ (addr_ne _ _ _ (by omega))).trans h.c7, fun j => by rw [World.frozen?_setCell]; exact h.fz j⟩
def set8 (w : World) (b : Nat) (x0 x1 x2 x3 x4 x5 x6 x7 : Int) : World := ((((((((w.setCell ⟨b, 0, none⟩ (.int .u16 x0)).setCell ⟨b, 1, none⟩ (.int .u16 x1)).setCell ⟨b, 2, none⟩ (.int .u16 x2)).setCell ⟨b, 3, none⟩ (.int .u16 x3)).setCell ⟨b, 4, none⟩ (.int .u16 x4)).setCell ⟨b, 5, none⟩ (.int .u16 x5)).setCell ⟨b, 6, none⟩ (.int .u16 x6)).setCell ⟨b, 7, none⟩ (.int .u16 x7))
theorem G8.set2 {w : World} {b : Nat} {g0 g1 g2 g3 g4 g5 g6 g7 : Int} (h : G8 w b g0 g1 g2 g3 g4 g5 g6 g7) (x : Int) : G8 (w.setCell ⟨b, 2, none⟩ (.int .u16 x)) b g0 g1 x g3 g4 g5 g6 g7 :=
  ⟨(World.cell?_setCell_other _ _ _ _ (addr_ne _ _ _ (by omega))).trans h.c0, (World.cell?_setCell_other _ _ _ _ (addr_ne _ _ _ (by omega))).trans h.c1, World.cell?_setCell_same _ _ _ h.c2, (World.cell?_setCell_other _ _ _ _ (addr_ne _ _ _ (by omega))).trans h.c3, (World.cell?_setCell_other _ _ _ _ (addr_ne _ _ _ (by omega))).trans h.c4, (World.cell?_setCell_other _ _ _ _ (addr_ne _ _ _ (by omega))).trans h.c5, (World.cell?_setCell_other _ _ _ _ (addr_ne _ _ _ (by omega))).trans h.c6, (World.cell?_setCell_other _ _ _ _ (addr_ne _ _ _ (by omega))).trans h.c7, fun j => by rw [World.frozen?_setCell]; exact h.fz j⟩
theorem G8.set3 {w : World} {b : Nat} {g0 g1 g2 g3 g4 g5 g6 g7 : Int} (h : G8 w b g0 g1 g2 g3 g4 g5 g6 g7) (x : Int) : G8 (w.setCell ⟨b, 3, none⟩ (.int .u16 x)) b g0 g1 g2 x g4 g5 g6 g7 :=
  ⟨(World.cell?_setCell_other _ _ _ _ (addr_ne _ _ _ (by omega))).trans h.c0, (World.cell?_setCell_other _ _ _ _ (addr_ne _ _ _ (by omega))).trans h.c1, (World.cell?_setCell_other _ _ _ _ (addr_ne _ _ _ (by omega))).trans h.c2, World.cell?_setCell_same _ _ _ h.c3, (World.cell?_setCell_other _ _ _ _ (addr_ne _ _ _ (by omega))).trans h.c4, (World.cell?_setCell_other _ _ _ _ (addr_ne _ _ _ (by omega))).trans h.c5, (World.cell?_setCell_other _ _ _ _ (addr_ne _ _ _ (by omega))).trans h.c6, (World.cell?_setCell_other _ _ _ _ (addr_ne _ _ _ (by omega))).trans h.c7, fun j => by rw [World.frozen?_setCell]; exact h.fz j⟩
theorem G8.set4 {w : World} {b : Nat} {g0 g1 g2 g3 g4 g5 g6 g7 : Int} (h : G8 w b g0 g1 g2 g3 g4 g5 g6 g7) (x : Int) : G8 (w.setCell ⟨b, 4, none⟩ (.int .u16 x)) b g0 g1 g2 g3 x g5 g6 g7 :=
  ⟨(World.cell?_setCell_other _ _ _ _ (addr_ne _ _ _ (by omega))).trans h.c0, (World.cell?_setCell_other _ _ _ _ (addr_ne _ _ _ (by omega))).trans h.c1, (World.cell?_setCell_other _ _ _ _ (addr_ne _ _ _ (by omega))).trans h.c2, (World.cell?_setCell_other _ _ _ _ (addr_ne _ _ _ (by omega))).trans h.c3, World.cell?_setCell_same _ _ _ h.c4, (World.cell?_setCell_other _ _ _ _ (addr_ne _ _ _ (by omega))).trans h.c5, (World.cell?_setCell_other _ _ _ _ (addr_ne _ _ _ (by omega))).trans h.c6, (World.cell?_setCell_other _ _ _ _ (addr_ne _ _ _ (by omega))).trans h.c7, fun j => by rw [World.frozen?_setCell]; exact h.fz j⟩
theorem G8.set5 {w : World} {b : Nat} {g0 g1 g2 g3 g4 g5 g6 g7 : Int} (h : G8 w b g0 g1 g2 g3 g4 g5 g6 g7) (x : Int) : G8 (w.setCell ⟨b, 5, none⟩ (.int .u16 x)) b g0 g1 g2 g3 g4 x g6 g7 :=
  ⟨(World.cell?_setCell_other _ _ _ _ (addr_ne _ _ _ (by omega))).trans h.c0, (World.cell?_setCell_other _ _ _ _ (addr_ne _ _ _ (by omega))).trans h.c1, (World.cell?_setCell_other _ _ _ _ (addr_ne _ _ _ (by omega))).trans h.c2, (World.cell?_setCell_other _ _ _ _ (addr_ne _ _ _ (by omega))).trans h.c3, (World.cell?_setCell_other _ _ _ _ (addr_ne _ _ _ (by omega))).trans h.c4, World.cell?_setCell_same _ _ _ h.c5, (World.cell?_setCell_other _ _ _ _ (addr_ne _ _ _ (by omega))).trans h.c6, (World.cell?_setCell_other _ _ _ _ (addr_ne _ _ _ (by omega))).trans h.c7, fun j => by rw [World.frozen?_setCell]; exact h.fz j⟩
theorem G8.set6 {w : World} {b : Nat} {g0 g1 g2 g3 g4 g5 g6 g7 : Int} (h : G8 w b g0 g1 g2 g3 g4 g5 g6 g7) (x : Int) : G8 (w.setCell ⟨b, 6, none⟩ (.int .u16 x)) b g0 g1 g2 g3 g4 g5 x g7 :=
  ⟨(World.cell?_setCell_other _ _ _ _ (addr_ne _ _ _ (by omega))).trans h.c0, (World.cell?_setCell_other _ _ _ _ (addr_ne _ _ _ (by omega))).trans h.c1, (World.cell?_setCell_other _ _ _ _ (addr_ne _ _ _ (by omega))).trans h.c2, (World.cell?_setCell_other _ _ _ _ (addr_ne _ _ _ (by omega))).trans h.c3, (World.cell?_setCell_other _ _ _ _ (addr_ne _ _ _ (by omega))).trans h.c4, (World.cell?_setCell_other _ _ _ _ (addr_ne _ _ _ (by omega))).trans h.c5, World.cell?_setCell_same _ _ _ h.c6, (World.cell?_setCell_other _ _ _ _ (addr_ne _ _ _ (by omega))).trans h.c7, fun j => by rw [World.frozen?_setCell]; exact h.fz j⟩
theorem G8.set7 {w : World} {b : Nat} {g0 g1 g2 g3 g4 g5 g6 g7 : Int} (h : G8 w b g0 g1 g2 g3 g4 g5 g6 g7) (x : Int) : G8 (w.setCell ⟨b, 7, none⟩ (.int .u16 x)) b g0 g1 g2 g3 g4 g5 g6 x :=
  ⟨(World.cell?_setCell_other _ _ _ _ (addr_ne _ _ _ (by omega))).trans h.c0, (World.cell?_setCell_other _ _ _ _ (addr_ne _ _ _ (by omega))).trans h.c1, (World.cell?_setCell_other _ _ _ _ (addr_ne _ _ _ (by omega))).trans h.c2, (World.cell?_setCell_other _ _ _ _ (addr_ne _ _ _ (by omega))).trans h.c3, (World.cell?_setCell_other _ _ _ _ (addr_ne _ _ _ (by omega))).trans h.c4, (World.cell?_setCell_other _ _ _ _ (addr_ne _ _ _ (by omega))).trans h.c5, (World.cell?_setCell_other _ _ _ _ (addr_ne _ _ _ (by omega))).trans h.c6, World.cell?_setCell_same _ _ _ h.c7, fun j => by rw [World.frozen?_setCell]; exact h.fz j⟩
theorem G8.set8 {w : World} {b : Nat} {g0 g1 g2 g3 g4 g5 g6 g7 : Int} (h : G8 w b g0 g1 g2 g3 g4 g5 g6 g7) (x0 x1 x2 x3 x4 x5 x6 x7 : Int) : G8 (set8 w b x0 x1 x2 x3 x4 x5 x6 x7) b x0 x1 x2 x3 x4 x5 x6 x7 := (((((((h.set0 x0).set1 x1).set2 x2).set3 x3).set4 x4).set5 x5).set6 x6).set7 x7
theorem TsAt.setCell {w : World} {b o : Nat} {l : List (List UInt8)} (h : TsAt w b o l) {a : Addr} (ha : a.block ≠ b) (v : Value) : TsAt (w.setCell a v) b o l :=
  fun j g hg => (World.cell?_setCell_other _ _ _ _ (by intro e; exact ha (by rw [e]))).trans (h j g hg)
theorem list8 (L : List Nat) (h : L.length = 8) : ∃ y0 y1 y2 y3 y4 y5 y6 y7, L = [y0, y1, y2, y3, y4, y5, y6, y7] := by
  match L, h with
  | [y0, y1, y2, y3, y4, y5, y6, y7], _ => exact ⟨y0, y1, y2, y3, y4, y5, y6, y7, rfl⟩
theorem itoa_nat (n : Nat) : Lib.itoa (n : Int) = Lib.decDigits n := by rw [Lib.itoa, if_neg (by omega)]; simp
theorem itoa_any (n : Nat) (h1 : n ≤ 65535) (w : World) (hE : Env w) :
    Calls Tryz.prog 85 #[.int .i64 n] w fun e w' => e = .returned (.string ⟨(Lib.decDigits n).toArray⟩) ∧ Below w.heap.size w w' :=
  (Tryz.strconv_Itoa n (by omega) (by omega) w hE.pow).mono fun e w' ⟨he, k, os, hw⟩ => ⟨by rw [he, itoa_nat], by rw [hw]; exact Lib.below_grow _ w (Nat.le_refl _) k os⟩
/-- Groups lie in cells. -/
def GsAt (w : World) (b o : Nat) (gs : List Nat) : Prop := ∀ (j g : Nat), gs[j]? = some g → w.cell? ⟨b, o + j, none⟩ = some (.int .u16 g)
theorem GsAt.below {w w' : World} {b o n : Nat} {l : List Nat} (h : GsAt w b o l) (hb : Below n w w') (hn : b < n) : GsAt w' b o l :=
  fun j g hg => (hb.cell hn).trans (h j g hg)
theorem GsAt.drop {w : World} {b o : Nat} {l : List Nat} (h : GsAt w b o l) (k : Nat) : GsAt w b (o + k) (l.drop k) := fun j g hg => by
  rw [List.getElem?_drop] at hg
  rw [Nat.add_assoc]
  exact h _ _ hg
theorem GsAt.take {w : World} {b o : Nat} {l : List Nat} (h : GsAt w b o l) (k : Nat) : GsAt w b o (l.take k) := fun j g hg => by
  rw [List.getElem?_take] at hg
  split at hg
  · exact h _ _ hg
  · cases hg
set_option maxHeartbeats 4000000 in
set_option maxRecDepth 1000000 in
theorem tellGroups_any (gs : List Nat) (b o c : Nat) (w : World) (hl : gs.length ≤ 1000) (hg : ∀ g ∈ gs, g ≤ 65535) (hb : b < w.heap.size) (hA : GsAt w b o gs) (hE : Env w) :
    Calls Tryz.prog 106 #[.slice (some ⟨b, o, none⟩) gs.length c] w fun e w' => e = .returned (.string ⟨(P.tellG gs).toArray⟩) ∧ Below w.heap.size w w' := by
  obtain ⟨i0, hi, hz0, hz1, hz2⟩ := info_parts iStr
  have HG := Lib.hid hg
  have HA := Lib.hid hA
  have HE := Lib.hid hE
  clear hg hA hE
  go_enter Tryz.func106, Tryz.ntmps106
  go_wp2_with fail
  go_loopw [3, 8] (fun u3 i wr => ∃ k : Nat, i = .int .i64 k ∧ k ≤ gs.length ∧ Below w.heap.size w wr ∧ wr.ownsRow w.heap.size 9 1 u3 k (P.strs ((gs.take k).map P.hexD))) (fun _ i _ => gs.length - (intOf i).toNat)
  case atStart => exact ⟨0, rfl, by omega, Below.refl _ _, World.ownsRow_nil _ _ _ _⟩
  case round =>
    obtain ⟨k, rfl, hk, hbw, hown⟩ := hrel
    have hbs := hbw.size
    by_cases hlt : k < gs.length
    · obtain ⟨g, hgk⟩ : ∃ g, gs[k]? = some g := ⟨_, List.getElem?_eq_getElem hlt⟩
      have hc := (HA.out.below hbw hb) k g hgk
      have hg1 : g ≤ 65535 := HG.out g (List.mem_of_getElem? hgk)
      have HT := Lib.hid (show P.strs ((gs.take (k + 1)).map P.hexD) = P.strs ((gs.take k).map P.hexD) ++ [.string ⟨(P.hexD g).toArray⟩] by
        rw [List.take_add_one, hgk]; simp [P.strs])
      have HF := Lib.hid (formatU g wr hg1 (HE.out.below hbw))
      clear hgk
      generalize (⟨(P.hexD g).toArray⟩ : ByteArray) = S at *
      go_wp2_with fail
      with_reducible refine HF.out.mono ?_
      rintro e w1 ⟨rfl, hb1⟩
      have hown1 := own_below' hown hb1
      have hb2 := hbw.trans (hb1.mono hbs)
      have hbs2 := hb2.size
      go_wp2_with (at_builtin; refine wpList_append_own _ rfl _ _ 115 rfl w.heap.size 9 i0 (.string ByteArray.empty) 1 16 Tryz.underlying115 hi hz0 hz1 hz2 rfl (by decide) _ _ _ rfl (hown1.alloc _) ⟨w1.heap.size, 0, none⟩ 1 1 _ rfl rfl (cell_one_new _ _ _) (by intro u hu; simp at hu; subst hu; rfl) (by unfold maxLen; omega) (by omega) (by simp; omega) ?_; intro v' w' hown' hgrow' _)
      go_roundw
      case rel => exact ⟨k + 1, by go_num, by omega, (hb2.alloc hb2.size _).grown hgrow' (by simp; omega) (fun k hk => (hown1.lt k hk).1), by rw [HT.out]; exact hown'⟩
      case measure => simp [intOf]; omega
    · obtain rfl : k = gs.length := by omega
      have hown' : wr.ownsRow w.heap.size 9 1 u3 (gs.map P.hexD).length (P.strs (gs.map P.hexD)) := by rw [List.length_map]; rw [List.take_length] at hown; exact hown
      have HJ := Lib.hid (join_row (gs.map P.hexD) ⟨#[58]⟩ wr w.heap.size u3 hown' (by simp; omega) (by
        have := P.tellG_len gs
        unfold P.tellG at this
        show (Lib.join (gs.map P.hexD) [58]).length ≤ _
        omega))
      have HS := Lib.hid (show (⟨(Lib.join (gs.map P.hexD) (⟨#[58]⟩ : ByteArray).data.toList).toArray⟩ : ByteArray) = ⟨(P.tellG gs).toArray⟩ from rfl)
      generalize (⟨(Lib.join (gs.map P.hexD) (⟨#[58]⟩ : ByteArray).data.toList).toArray⟩ : ByteArray) = S at *
      clear hown hown'
      go_wp2_with fail
      with_reducible refine HJ.out.mono ?_
      rintro e w1 ⟨rfl, hb1⟩
      go_wp2_with fail
      go_ret
      exact ⟨by rw [← HS.out]; rfl, hbw.trans (hb1.mono hbs)⟩
theorem and255 (q : Nat) (h : q ≤ 65535) : bits .and .u16 (q : Int) 255 = ((q % 256 : Nat) : Int) := by
  have := u16_and_nat q 255 (by omega) (by omega)
  rw [show ((255 : Nat) : Int) = 255 from rfl] at this
  rw [this, show (255 : Nat) = 2 ^ 8 - 1 from rfl, Nat.and_two_pow_sub_one_eq_mod]
theorem dec_len (n : Nat) (h : n ≤ 65535) : (Lib.decDigits n).length ≤ 21 := by
  have := Lib.itoa_length_le (n : Int) (by omega) (by omega)
  rwa [itoa_nat] at this
theorem P.tell4_len (x y : Nat) (hx : x ≤ 65535) (hy : y ≤ 65535) : (P.tell4 x y).length ≤ 100 := by
  have h1 := dec_len (x / 256) (by omega)
  have h2 := dec_len (x % 256) (by omega)
  have h3 := dec_len (y / 256) (by omega)
  have h4 := dec_len (y % 256) (by omega)
  unfold P.tell4 P.bytes4
  rw [Lib.join_cons]
  simp only [Lib.joinTail, List.map_cons, List.map_nil, List.flatten_cons, List.flatten_nil, List.length_append, List.length_cons, List.length_nil]
  omega
set_option maxHeartbeats 4000000 in
set_option maxRecDepth 1000000 in
theorem tellFour_any (a : Ad) (x y : Nat) (w : World) (hx : a.g0 = x) (hy : a.g1 = y) (h0 : x ≤ 65535) (h1 : y ≤ 65535) (hE : Env w) :
    Calls Tryz.prog 96 #[.agg a.gv.toArray] w fun e w' => e = .returned (.string ⟨(P.tell4 x y).toArray⟩) ∧ Below w.heap.size w w' := by
  obtain ⟨i0, hi, hz0, hz1, hz2⟩ := info_parts iStr
  obtain ⟨f, g0, g1, g2, g3, g4, g5, g6, g7, p⟩ := a
  simp only at hx hy
  subst hx hy
  have HE := Lib.hid hE
  simp only [Ad.gv]
  have HB : Below w.heap.size w (w.alloc (Obj.cells #[.int .u16 (x : Int), .int .u16 (y : Int), .int .u16 g2, .int .u16 g3, .int .u16 g4, .int .u16 g5, .int .u16 g6, .int .u16 g7] 57)) := (Below.refl _ w).alloc (Nat.le_refl _) _
  have HA : GsAt (w.alloc (Obj.cells #[.int .u16 (x : Int), .int .u16 (y : Int), .int .u16 g2, .int .u16 g3, .int .u16 g4, .int .u16 g5, .int .u16 g6, .int .u16 g7] 57)) w.heap.size 0 [x, y] := by
    intro j g hg
    rw [World.cell?_alloc_new]
    match j with
    | 0 => simp at hg; subst hg; rfl
    | 1 => simp at hg; subst hg; rfl
    | j + 2 => simp at hg
  have HA2 := Lib.hid HA
  have HB2 := Lib.hid HB
  clear hE HA HB
  have hx8 : (x : Int) / 256 = ((x / 256 : Nat) : Int) := by omega
  go_enter Tryz.func96, Tryz.ntmps96
  go_wp2_with fail
  generalize hW : w.alloc (Obj.cells #[.int .u16 (x : Int), .int .u16 (y : Int), .int .u16 g2, .int .u16 g3, .int .u16 g4, .int .u16 g5, .int .u16 g6, .int .u16 g7] 57) = W1 at *
  have hWs : W1.heap.size = w.heap.size + 1 := by rw [← hW]; simp
  have HW := Lib.hid hW
  clear hW hx8
  go_loopw [3, 8] (fun u3 i wr => ∃ k : Nat, i = .int .i64 k ∧ k ≤ 2 ∧ Below W1.heap.size W1 wr ∧ wr.ownsRow W1.heap.size 9 1 u3 (2 * k) (P.strs ((P.bytes4 x y).take (2 * k)))) (fun _ i _ => 2 - (intOf i).toNat)
  case atStart => exact ⟨0, rfl, by omega, Below.refl _ _, World.ownsRow_nil _ _ _ _⟩
  case round =>
    obtain ⟨k, rfl, hk, hbw, hown⟩ := hrel
    have hbs := hbw.size
    by_cases hlt : k < 2
    · obtain ⟨q, hq, hq1, hrow⟩ : ∃ q, [x, y][k]? = some q ∧ q ≤ 65535 ∧ (P.bytes4 x y).take (2 * (k + 1)) = (P.bytes4 x y).take (2 * k) ++ [Lib.decDigits (q / 256), Lib.decDigits (q % 256)] := by
        rcases (show k = 0 ∨ k = 1 by omega) with rfl | rfl
        · exact ⟨x, rfl, h0, rfl⟩
        · exact ⟨y, rfl, h1, rfl⟩
      have hc := (HA2.out.below hbw (by omega)) k q hq
      rw [Nat.zero_add] at hc
      have hand := and255 q hq1
      have hi1 := fun w => itoa_any (q / 256) (by omega) w
      rw [show ((q / 256 : Nat) : Int) = (q : Int) / 256 from by omega] at hi1
      have HI1 := Lib.hid hi1
      clear hi1
      have hi2 := fun w => itoa_any (q % 256) (by omega) w
      rw [show ((q % 256 : Nat) : Int) = (q : Int) % 256 from by omega] at hi2
      have HI2 := Lib.hid hi2
      clear hi2
      have HT := Lib.hid (show P.strs ((P.bytes4 x y).take (2 * (k + 1))) = P.strs ((P.bytes4 x y).take (2 * k)) ++ [.string ⟨(Lib.decDigits (q / 256)).toArray⟩, .string ⟨(Lib.decDigits (q % 256)).toArray⟩] by
        rw [hrow, P.strs_append]; rfl)
      clear hq hrow
      generalize (⟨(Lib.decDigits (q / 256)).toArray⟩ : ByteArray) = S1 at *
      generalize (⟨(Lib.decDigits (q % 256)).toArray⟩ : ByteArray) = S2 at *
      go_wp2_with fail
      have HC := HI1.out wr (HE.out.below (HB2.out.trans (hbw.mono (by omega))))
      with_reducible refine HC.mono ?_
      clear HC
      rintro e w1 ⟨rfl, hb1⟩
      have hown1 := own_below' hown hb1
      have hb2 := hbw.trans (hb1.mono hbs)
      have hbs2 := hb2.size
      go_wp2_with fail
      have HC := HI2.out w1 (HE.out.below (HB2.out.trans (hb2.mono (by omega))))
      with_reducible refine HC.mono ?_
      clear HC
      rintro e w2 ⟨rfl, hb3⟩
      have hown2 := own_below' hown1 hb3
      have hb4 := hb2.trans (hb3.mono hbs2)
      have hbs4 := hb4.size
      go_wp2_with (at_builtin; refine wpList_append_own _ rfl _ _ 115 rfl W1.heap.size 9 i0 (.string ByteArray.empty) 1 16 Tryz.underlying115 hi hz0 hz1 hz2 rfl (by decide) _ _ _ rfl (hown2.alloc _) ⟨w2.heap.size, 0, none⟩ 2 2 [.string S1, .string S2] rfl rfl (cells_new _ _ _ _ rfl) (by intro u hu; simp at hu; rcases hu with rfl | rfl <;> rfl) (by unfold maxLen; omega) (by omega) (by simp; omega) ?_; intro v' w' hown' hgrow' _)
      go_roundw
      case rel => exact ⟨k + 1, by go_num, by omega, (hb4.alloc hb4.size _).grown hgrow' (by simp; omega) (fun k hk => (hown2.lt k hk).1), by rw [HT.out]; exact hown'⟩
      case measure => simp [intOf]; omega
    · obtain rfl : k = 2 := by omega
      have HJ := Lib.hid (join_row (P.bytes4 x y) ⟨#[46]⟩ wr W1.heap.size u3 hown (by simp [P.bytes4]) (by
        have := P.tell4_len x y h0 h1
        unfold P.tell4 at this
        show (Lib.join (P.bytes4 x y) [46]).length ≤ _
        omega))
      have HS := Lib.hid (show (⟨(Lib.join (P.bytes4 x y) (⟨#[46]⟩ : ByteArray).data.toList).toArray⟩ : ByteArray) = ⟨(P.tell4 x y).toArray⟩ from rfl)
      generalize (⟨(Lib.join (P.bytes4 x y) (⟨#[46]⟩ : ByteArray).data.toList).toArray⟩ : ByteArray) = S at *
      clear hown
      go_wp2_with fail
      with_reducible refine HJ.out.mono ?_
      rintro e w1 ⟨rfl, hb1⟩
      go_wp2_with fail
      go_ret
      exact ⟨by rw [← HS.out]; rfl, HB2.out.trans ((hbw.trans (hb1.mono hbs)).mono (by omega))⟩
theorem runF_end (i b f t : Nat) : P.runF [] i b f t = (f, t) := rfl
theorem runF_one (g : Nat) (l : List Nat) (i b f t : Nat) (h : g ≠ 0) : P.runF (g :: l) i b f t = P.runF l (i + 1) (i + 1) f t := by rw [P.runF, if_neg h]
theorem runF_yes (l : List Nat) (i b f t : Nat) (h : 2 ≤ i + 1 - b ∧ t - f < i + 1 - b) : P.runF (0 :: l) i b f t = P.runF l (i + 1) b b (i + 1) := by rw [P.runF, if_pos rfl, if_pos h]
theorem runF_no (l : List Nat) (i b f t : Nat) (h : ¬ (2 ≤ i + 1 - b ∧ t - f < i + 1 - b)) : P.runF (0 :: l) i b f t = P.runF l (i + 1) b f t := by rw [P.runF, if_pos rfl, if_neg h]
theorem index_groups (x0 x1 x2 x3 x4 x5 x6 x7 : Nat) (k g : Nat) (hk : k < 8) (hg : [x0, x1, x2, x3, x4, x5, x6, x7][k]? = some g) (W : World) :
    (Instr.index 57 (.agg #[.int .u16 x0, .int .u16 x1, .int .u16 x2, .int .u16 x3, .int .u16 x4, .int .u16 x5, .int .u16 x6, .int .u16 x7]) (.int .i64 k)).run Tryz.prog W = .ok (.int .u16 g) W := by
  have hp : Tryz.prog.plainKey 56 = true := by kernel_rfl
  have e : (#[Value.int .u16 x0, .int .u16 x1, .int .u16 x2, .int .u16 x3, .int .u16 x4, .int .u16 x5, .int .u16 x6, .int .u16 x7] : Array Value)[k]? = some (.int .u16 g) := by
    rcases (show k = 0 ∨ k = 1 ∨ k = 2 ∨ k = 3 ∨ k = 4 ∨ k = 5 ∨ k = 6 ∨ k = 7 by omega) with rfl | rfl | rfl | rfl | rfl | rfl | rfl | rfl <;> (simp at hg ⊢; omega)
  have hs := Tryz.sizeOf56 W
  simp only [Instr.index, asIntOf, Sem.run_bind, Sem.run_pure, Result.andThen_ok, run_underlying Tryz.underlying57]
  rw [if_pos (by omega)]
  simp only [Sem.run_bind, hs, Result.andThen_ok, Int.toNat_natCast, Nat.mul_one]
  exact run_part_plain W hp e
set_option maxHeartbeats 4000000 in
set_option maxRecDepth 1000000 in
theorem longest_any (x0 x1 x2 x3 x4 x5 x6 x7 : Nat) (w : World) :
    Calls Tryz.prog 105 #[.agg #[.int .u16 x0, .int .u16 x1, .int .u16 x2, .int .u16 x3, .int .u16 x4, .int .u16 x5, .int .u16 x6, .int .u16 x7]] w fun e w' =>
      e = .returned (.tuple #[.int .i64 (P.runP [x0, x1, x2, x3, x4, x5, x6, x7]).1, .int .i64 (P.runP [x0, x1, x2, x3, x4, x5, x6, x7]).2]) ∧ Below w.heap.size w w' := by
  have HL := Lib.hid (show [x0, x1, x2, x3, x4, x5, x6, x7].length = 8 from rfl)
  have HI := Lib.hid (index_groups x0 x1 x2 x3 x4 x5 x6 x7)
  obtain ⟨L, hL⟩ : ∃ L, [x0, x1, x2, x3, x4, x5, x6, x7] = L := ⟨_, rfl⟩
  rw [hL] at HI HL ⊢
  have HQ := Lib.hid hL
  clear hL
  go_enter Tryz.func105, Tryz.ntmps105
  go_wp2_with fail
  go_loop [2, 3, 4, 9] (fun vf vt vb vi => ∃ k f t b : Nat, vi = .int .i64 k ∧ vf = .int .i64 f ∧ vt = .int .i64 t ∧ vb = .int .i64 b ∧ k ≤ 8 ∧ b ≤ k ∧ f ≤ t ∧ t ≤ k ∧ Hid (P.runF (L.drop k) k b f t = P.runP L)) (fun _ _ _ vi => 8 - (intOf vi).toNat)
  case atStart => exact ⟨0, 0, 0, 0, rfl, rfl, rfl, rfl, by omega, by omega, by omega, by omega, Lib.hid rfl⟩
  case round =>
    obtain ⟨k, f, t, b, rfl, rfl, rfl, rfl, hk, hbk, hft, htk, hrun⟩ := hrel
    by_cases h8 : k = 8
    · subst h8
      have hr := hrun.out
      rw [List.drop_eq_nil_of_le (by rw [HL.out]; omega), runF_end] at hr
      have HR := Lib.hid hr
      clear hr hrun
      go_wp2_with fail
      go_ret2
      exact ⟨by rw [← HR.out]; rfl, (Below.refl _ w).alloc (Nat.le_refl _) _⟩
    · have hk8 : k < 8 := by omega
      obtain ⟨g, hg⟩ : ∃ g, L[k]? = some g := ⟨_, List.getElem?_eq_getElem (by rw [HL.out]; omega)⟩
      have hix := HI.out k g hk8 hg
      have hr := hrun.out
      rw [List.drop_eq_getElem_cons (by rw [HL.out]; omega), show L[k]'(by rw [HL.out]; omega) = g from (List.getElem?_eq_some_iff.1 hg).2] at hr
      clear hg hrun h8
      by_cases hg0 : g = 0
      · subst hg0
        by_cases hc : 2 ≤ k + 1 - b ∧ t - f < k + 1 - b
        · rw [runF_yes _ _ _ _ _ hc] at hr
          have HR := Lib.hid hr
          obtain ⟨hc1, hc2⟩ := hc
          clear hr
          go_wp2_with fail
          go_round
          case rel => exact ⟨k + 1, b, k + 1, b, by go_num, rfl, by go_num, rfl, by omega, by omega, by omega, by omega, HR⟩
          case measure => simp [intOf]; omega
        · rw [runF_no _ _ _ _ _ hc] at hr
          have HR := Lib.hid hr
          clear hr
          by_cases hc1 : 2 ≤ k + 1 - b
          · have hc2 : k + 1 - b ≤ t - f := by omega
            clear hc
            go_wp2_with fail
            go_round
            case rel => exact ⟨k + 1, f, t, b, by go_num, rfl, rfl, rfl, by omega, by omega, by omega, by omega, HR⟩
            case measure => simp [intOf]; omega
          · clear hc
            go_wp2_with fail
            go_round
            case rel => exact ⟨k + 1, f, t, b, by go_num, rfl, rfl, rfl, by omega, by omega, by omega, by omega, HR⟩
            case measure => simp [intOf]; omega
      · rw [runF_one _ _ _ _ _ _ hg0] at hr
        have HR := Lib.hid hr
        clear hr
        go_wp2_with fail
        go_round
        case rel => exact ⟨k + 1, f, t, k + 1, by go_num, rfl, rfl, by go_num, by omega, by omega, by omega, by omega, HR⟩
        case measure => simp [intOf]; omega
theorem gsAt_new (x0 x1 x2 x3 x4 x5 x6 x7 : Nat) (w : World) :
    GsAt (w.alloc (Obj.cells #[.int .u16 (x0 : Int), .int .u16 (x1 : Int), .int .u16 (x2 : Int), .int .u16 (x3 : Int), .int .u16 (x4 : Int), .int .u16 (x5 : Int), .int .u16 (x6 : Int), .int .u16 (x7 : Int)] 57)) w.heap.size 0 [x0, x1, x2, x3, x4, x5, x6, x7] := by
  intro j g hg
  have hj : j < 8 := by have := (List.getElem?_eq_some_iff.1 hg).1; simpa using this
  rw [World.cell?_alloc_new, Nat.zero_add]
  rcases (show j = 0 ∨ j = 1 ∨ j = 2 ∨ j = 3 ∨ j = 4 ∨ j = 5 ∨ j = 6 ∨ j = 7 by omega) with rfl | rfl | rfl | rfl | rfl | rfl | rfl | rfl <;> (simp at hg ⊢; omega)
theorem str_app (a b : List UInt8) : (⟨a.toArray⟩ : ByteArray) ++ ⟨b.toArray⟩ = ⟨(a ++ b).toArray⟩ := by
  apply ByteArray.ext
  apply Array.ext'
  simp
theorem size_of_list (l : List UInt8) : (⟨l.toArray⟩ : ByteArray).size = l.length := by simp [ByteArray.size]
set_option maxHeartbeats 8000000 in
set_option maxRecDepth 1000000 in
theorem tellSix_any (x0 x1 x2 x3 x4 x5 x6 x7 : Nat) (w : World) (hle : ∀ g ∈ [x0, x1, x2, x3, x4, x5, x6, x7], g ≤ 65535) (hE : Env w) :
    Calls Tryz.prog 97 #[.agg #[.int .u16 x0, .int .u16 x1, .int .u16 x2, .int .u16 x3, .int .u16 x4, .int .u16 x5, .int .u16 x6, .int .u16 x7]] w fun e w' =>
      e = .returned (.string ⟨(P.tell6 [x0, x1, x2, x3, x4, x5, x6, x7]).toArray⟩) ∧ Below w.heap.size w w' := by
  have hGS := gsAt_new x0 x1 x2 x3 x4 x5 x6 x7 w
  have hB0 : Below w.heap.size w (w.alloc (Obj.cells #[.int .u16 (x0 : Int), .int .u16 (x1 : Int), .int .u16 (x2 : Int), .int .u16 (x3 : Int), .int .u16 (x4 : Int), .int .u16 (x5 : Int), .int .u16 (x6 : Int), .int .u16 (x7 : Int)] 57)) := (Below.refl _ w).alloc (Nat.le_refl _) _
  have HL := Lib.hid (show [x0, x1, x2, x3, x4, x5, x6, x7].length = 8 from rfl)
  have HLR := Lib.hid (longest_any x0 x1 x2 x3 x4 x5 x6 x7)
  obtain ⟨L, hL⟩ : ∃ L, [x0, x1, x2, x3, x4, x5, x6, x7] = L := ⟨_, rfl⟩
  rw [hL] at hGS HL HLR hle ⊢
  have HQ := Lib.hid hL
  clear hL
  obtain ⟨hr1, hr2⟩ := P.runP_le L
  rw [HL.out] at hr2
  have HGS := Lib.hid hGS
  have HB0 := Lib.hid hB0
  have HLE := Lib.hid hle
  have HE := Lib.hid hE
  have HT := Lib.hid (show P.tell6 L = (if (P.runP L).1 = (P.runP L).2 then P.tellG L else P.tellG (L.take (P.runP L).1) ++ (58 :: 58 :: P.tellG (L.drop (P.runP L).2))) from rfl)
  obtain ⟨f, hf⟩ : ∃ f, (P.runP L).1 = f := ⟨_, rfl⟩
  obtain ⟨t, ht⟩ : ∃ t, (P.runP L).2 = t := ⟨_, rfl⟩
  rw [hf, ht] at HT hr1
  rw [hf, ht] at HLR
  rw [ht] at hr2
  clear hGS hB0 hle hE hf ht
  go_enter Tryz.func97, Tryz.ntmps97
  go_wp2_with fail
  generalize hW : w.alloc (Obj.cells #[.int .u16 (x0 : Int), .int .u16 (x1 : Int), .int .u16 (x2 : Int), .int .u16 (x3 : Int), .int .u16 (x4 : Int), .int .u16 (x5 : Int), .int .u16 (x6 : Int), .int .u16 (x7 : Int)] 57) = W1 at *
  have hWs : W1.heap.size = w.heap.size + 1 := by rw [← hW]; simp
  have HW := Lib.hid hW
  clear hW
  have HC := HLR.out W1
  with_reducible refine HC.mono ?_
  clear HC
  rintro e w1 ⟨rfl, hb1⟩
  have hbs1 := hb1.size
  by_cases hft : f = t
  · subst hft
    have HS := Lib.hid (show P.tell6 L = P.tellG L by rw [HT.out, if_pos rfl])
    have HC := tellGroups_any L w.heap.size 0 8 w1 (by rw [HL.out]; omega) HLE.out (by omega) (HGS.out.below hb1 (by omega)) (HE.out.below (HB0.out.trans (hb1.mono (by omega))))
    rw [HL.out] at HC
    have HC2 := Lib.hid HC
    clear HC
    have HF := Lib.hid (show (⟨(P.tell6 L).toArray⟩ : ByteArray) = ⟨(P.tellG L).toArray⟩ by rw [HS.out])
    generalize (⟨(P.tellG L).toArray⟩ : ByteArray) = S at *
    go_wp2_with fail
    with_reducible refine HC2.out.mono ?_
    rintro e w2 ⟨rfl, hb2⟩
    go_wp2_with fail
    go_ret
    exact ⟨by rw [HF.out]; rfl, HB0.out.trans ((hb1.trans (hb2.mono hbs1)).mono (by omega))⟩
  · have hb : ((f : Int) == (t : Int)) = false := by rw [beq_eq_false_iff_ne]; omega
    have hsl1 : ∀ W, (Instr.sliceAt 57 (.pointer (some ⟨w.heap.size, 0, none⟩)) none (some (.int .i64 (f : Int))) none).run Tryz.prog W = .ok (.slice (some ⟨w.heap.size, 0, none⟩) f 8) W := fun W => by
      rw [run_sliceAt_array_h W 57 ⟨w.heap.size, 0, none⟩ (by kernel_rfl) .i64 (f : Int) (by omega) (by rw [show Tryz.prog.arrayLen 57 = 8 from by kernel_rfl]; omega)]
      rw [show Tryz.prog.arrayLen 57 = 8 from by kernel_rfl, show Tryz.prog.elem 57 = 56 from by kernel_rfl]
      go_simp
    obtain ⟨o2, hsl2, hGS2⟩ : ∃ o2, (∀ W, (Instr.sliceAt 57 (.pointer (some ⟨w.heap.size, 0, none⟩)) (some (.int .i64 (t : Int))) none none).run Tryz.prog W = .ok (.slice (some ⟨w.heap.size, o2, none⟩) (8 - t) (8 - t)) W) ∧ GsAt W1 w.heap.size o2 (L.drop t) := by
      by_cases h8 : t = 8
      · subst h8
        refine ⟨0, fun W => ?_, ?_⟩
        · rw [run_sliceAt_array_l W 57 ⟨w.heap.size, 0, none⟩ (by kernel_rfl) .i64 ((8 : Nat) : Int) (by omega) (by rw [show Tryz.prog.arrayLen 57 = 8 from by kernel_rfl]; omega)]
          rw [show Tryz.prog.arrayLen 57 = 8 from by kernel_rfl, show Tryz.prog.elem 57 = 56 from by kernel_rfl]
          go_simp
        · rw [List.drop_eq_nil_of_le (by rw [HL.out]; omega)]
          intro j g hg; simp at hg
      · refine ⟨t, fun W => ?_, by have := HGS.out.drop t; rwa [Nat.zero_add] at this⟩
        rw [run_sliceAt_array_l W 57 ⟨w.heap.size, 0, none⟩ (by kernel_rfl) .i64 (t : Int) (by omega) (by rw [show Tryz.prog.arrayLen 57 = 8 from by kernel_rfl]; omega)]
        rw [show Tryz.prog.arrayLen 57 = 8 from by kernel_rfl, show Tryz.prog.elem 57 = 56 from by kernel_rfl]
        go_simp
        omega
    have HS := Lib.hid (show P.tell6 L = P.tellG (L.take f) ++ (58 :: 58 :: P.tellG (L.drop t)) by rw [HT.out, if_neg hft])
    have hs1 := P.tellG_len (L.take f)
    have hs2 := P.tellG_len (L.drop t)
    rw [List.length_take, HL.out] at hs1
    rw [List.length_drop, HL.out] at hs2
    have hl1 : (L.take f).length = f := by rw [List.length_take, HL.out]; omega
    have hl2 : (L.drop t).length = 8 - t := by rw [List.length_drop, HL.out]
    have c1 : ∀ W, Below W1.heap.size W1 W → Calls Tryz.prog 106 #[.slice (some ⟨w.heap.size, 0, none⟩) f 8] W fun e w' => e = .returned (.string ⟨(P.tellG (L.take f)).toArray⟩) ∧ Below W.heap.size W w' := by
      intro W hW
      have := tellGroups_any (L.take f) w.heap.size 0 8 W (by omega) (fun g hg => HLE.out g (List.mem_of_mem_take hg)) (by have := hW.size; omega) ((HGS.out.take f).below hW (by omega)) (HE.out.below (HB0.out.trans (hW.mono (by omega))))
      rwa [hl1] at this
    have c2 : ∀ W, Below W1.heap.size W1 W → Calls Tryz.prog 106 #[.slice (some ⟨w.heap.size, o2, none⟩) (8 - t) (8 - t)] W fun e w' => e = .returned (.string ⟨(P.tellG (L.drop t)).toArray⟩) ∧ Below W.heap.size W w' := by
      intro W hW
      have := tellGroups_any (L.drop t) w.heap.size o2 (8 - t) W (by omega) (fun g hg => HLE.out g (List.mem_of_mem_drop hg)) (by have := hW.size; omega) (hGS2.below hW (by omega)) (HE.out.below (HB0.out.trans (hW.mono (by omega))))
      rwa [hl2] at this
    have C1 := Lib.hid c1
    have C2 := Lib.hid c2
    have hz1 : (⟨(P.tellG (L.take f)).toArray⟩ : ByteArray).size ≤ 100 := by rw [size_of_list]; omega
    have hz2 : (⟨(P.tellG (L.drop t)).toArray⟩ : ByteArray).size ≤ 100 := by rw [size_of_list]; omega
    have HF := Lib.hid (show (⟨(P.tell6 L).toArray⟩ : ByteArray) = ⟨(P.tellG (L.take f)).toArray⟩ ++ ⟨#[58, 58]⟩ ++ ⟨(P.tellG (L.drop t)).toArray⟩ by
      rw [HS.out, show (⟨#[58, 58]⟩ : ByteArray) = ⟨([58, 58] : List UInt8).toArray⟩ from rfl, str_app, str_app]; simp)
    clear c1 c2 hs1 hs2 hl1 hl2 hGS2 hft
    generalize (⟨(P.tellG (L.take f)).toArray⟩ : ByteArray) = S1 at *
    generalize (⟨(P.tellG (L.drop t)).toArray⟩ : ByteArray) = S2 at *
    go_wp2_with fail
    have hbd := hb1.drew
    have hbds := hbd.size
    have C1' := C1.out w1.drew hbd
    clear C1
    go_region_with (first
      | (go_at_call 106; with_reducible refine C1'.mono ?_; rintro e w2 ⟨rfl, hb2⟩; have hb3 := hbd.trans (hb2.mono hbds); have hbs3 := hb3.size)
      | (go_at_call 106; have C2' := C2.out w2 hb3; with_reducible refine C2'.mono ?_; rintro e w4 ⟨rfl, hb4⟩; have hb5 := hb3.trans (hb4.mono hbs3)))
    all_goals
      go_wp2_with fail
      go_ret
      exact ⟨by rw [HF.out]; rfl, HB0.out.trans (hb5.mono (by omega))⟩
/-- The groups of an address that may be, as plain numbers. -/
theorem Ad.nats (a : Ad) (h : a.Ok) : ∃ x0 x1 x2 x3 x4 x5 x6 x7 : Nat, a.g0 = x0 ∧ a.g1 = x1 ∧ a.g2 = x2 ∧ a.g3 = x3 ∧ a.g4 = x4 ∧ a.g5 = x5 ∧ a.g6 = x6 ∧ a.g7 = x7 ∧ a.ns = [x0, x1, x2, x3, x4, x5, x6, x7] ∧ ∀ g ∈ a.ns, g ≤ 65535 := by
  obtain ⟨_, ⟨h0, h1, h2, h3, h4, h5, h6, h7⟩, _⟩ := h
  refine ⟨a.g0.toNat, a.g1.toNat, a.g2.toNat, a.g3.toNat, a.g4.toNat, a.g5.toNat, a.g6.toNat, a.g7.toNat, by omega, by omega, by omega, by omega, by omega, by omega, by omega, by omega, rfl, ?_⟩
  intro g hg
  simp only [Ad.ns, Ad.gs, List.map_cons, List.map_nil, List.mem_cons, List.not_mem_nil, or_false] at hg
  omega
set_option maxHeartbeats 4000000 in
set_option maxRecDepth 1000000 in
theorem tellHost_any (a : Ad) (w : World) (ha : a.Ok) (hf : a.f = 4 ∨ a.f = 6) (hE : Env w) :
    Calls Tryz.prog 84 #[a.v] w fun e w' => e = .returned (.string ⟨(P.hostP a.f a.ns).toArray⟩) ∧ Below w.heap.size w w' := by
  obtain ⟨x0, x1, x2, x3, x4, x5, x6, x7, e0, e1, e2, e3, e4, e5, e6, e7, hns, hle⟩ := a.nats ha
  rw [hns] at hle ⊢
  have l0 := hle x0 (by simp)
  have l1 := hle x1 (by simp)
  have h4 := fun W (hb : Below w.heap.size w W) => tellFour_any a x0 x1 W e0 e1 l0 l1 (hE.below hb)
  have h6 := fun W (hb : Below w.heap.size w W) => tellSix_any x0 x1 x2 x3 x4 x5 x6 x7 W hle (hE.below hb)
  have hz6 := P.tell6_len [x0, x1, x2, x3, x4, x5, x6, x7] rfl
  obtain ⟨f, g0, g1, g2, g3, g4, g5, g6, g7, p⟩ := a
  simp only at e0 e1 e2 e3 e4 e5 e6 e7 hf
  subst e0 e1 e2 e3 e4 e5 e6 e7
  simp only [Ad.v, Ad.enc, Ad.gv] at h4 ⊢
  have H4 := Lib.hid h4
  have H6 := Lib.hid h6
  clear h4 h6 ha hE
  have hbw : Below w.heap.size w (w.alloc (Obj.cells #[.int .i8 f, .int .u16 (x0 : Int), .int .u16 (x1 : Int), .int .u16 (x2 : Int), .int .u16 (x3 : Int), .int .u16 (x4 : Int), .int .u16 (x5 : Int), .int .u16 (x6 : Int), .int .u16 (x7 : Int), .int .i64 p] 59)) := (Below.refl _ w).alloc (Nat.le_refl _) _
  rcases hf with rfl | rfl
  · have HF := Lib.hid (show (⟨(P.hostP 4 [x0, x1, x2, x3, x4, x5, x6, x7]).toArray⟩ : ByteArray) = ⟨(P.tell4 x0 x1).toArray⟩ from rfl)
    have HC := Lib.hid (H4.out _ hbw)
    generalize (⟨(P.tell4 x0 x1).toArray⟩ : ByteArray) = S at *
    go_enter Tryz.func84, Tryz.ntmps84
    go_wp2_with fail
    with_reducible refine HC.out.mono ?_
    rintro e w1 ⟨rfl, hb1⟩
    go_wp2_with fail
    go_ret
    exact ⟨by rw [HF.out]; rfl, hbw.trans (hb1.mono hbw.size)⟩
  · have HF := Lib.hid (show (⟨(P.hostP 6 [x0, x1, x2, x3, x4, x5, x6, x7]).toArray⟩ : ByteArray) = ⟨#[91]⟩ ++ ⟨(P.tell6 [x0, x1, x2, x3, x4, x5, x6, x7]).toArray⟩ ++ ⟨#[93]⟩ by
      rw [show (⟨#[91]⟩ : ByteArray) = ⟨([91] : List UInt8).toArray⟩ from rfl, show (⟨#[93]⟩ : ByteArray) = ⟨([93] : List UInt8).toArray⟩ from rfl, str_app, str_app]
      simp [P.hostP])
    have HC := Lib.hid (H6.out _ hbw)
    have hz : (⟨(P.tell6 [x0, x1, x2, x3, x4, x5, x6, x7]).toArray⟩ : ByteArray).size ≤ 82 := by rw [size_of_list]; exact hz6
    clear hz6
    generalize (⟨(P.tell6 [x0, x1, x2, x3, x4, x5, x6, x7]).toArray⟩ : ByteArray) = S at *
    go_enter Tryz.func84, Tryz.ntmps84
    go_wp2_with fail
    with_reducible refine HC.out.mono ?_
    rintro e w1 ⟨rfl, hb1⟩
    go_wp2_with fail
    go_ret
    exact ⟨by rw [HF.out]; rfl, hbw.trans (hb1.mono hbw.size)⟩
theorem adsAt_new (a : Ad) (w : World) (n : Nat) (hn : n = w.heap.size) (c : Array Value) (hc : c = a.enc.toArray) (t : TypeId) : AdsAt (w.alloc (Obj.cells c t)) n 0 [a] := by
  subst hn hc
  intro j b hb i v hv
  have hj : j = 0 := by have := (List.getElem?_eq_some_iff.1 hb).1; simp at this; omega
  subst hj
  simp at hb; subst hb
  rw [World.cell?_alloc_new]
  simpa using hv
end Go.Proofs.YtciohjgcndgiaaaGreatDoor.R2
