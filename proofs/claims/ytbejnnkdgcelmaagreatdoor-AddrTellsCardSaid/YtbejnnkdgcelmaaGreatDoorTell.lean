/- Texts of addresses: the program's. -/
import Derived.Test.YtbejnnkdgcelmaaGreatDoorOwn
import Derived.Lib.AppendIntMem
import Derived.Lib.ItoaLen
import Derived.Laws.BitsAllLaws
set_option linter.unusedSimpArgs false
set_option linter.unusedVariables false
namespace Go.Proofs.YtbejnnkdgcelmaaGreatDoor
open Go.RowKit

theorem itoa_nat (n : Nat) : Lib.itoa (n : Int) = Lib.decDigits n := by rw [Lib.itoa, if_neg (by omega)]; simp
theorem itoa_any (n : Nat) (h1 : n ≤ 65535) (w : World) (hE : Env w) :
    Calls Tryz.prog 22 #[.int .i64 n] w fun e w' => e = .returned (.string ⟨(Lib.decDigits n).toArray⟩) ∧ Below w.heap.size w w' :=
  (Tryz.strconv_Itoa n (by omega) (by omega) w hE.pow).mono fun e w' ⟨he, k, os, hw⟩ => ⟨by rw [he, itoa_nat], by rw [hw]; exact Lib.below_grow _ w (Nat.le_refl _) k os⟩

/-- Groups lie in cells. -/
def GsAt (w : World) (b o : Nat) (gs : List Nat) : Prop := ∀ (j g : Nat), gs[j]? = some g → w.cell? ⟨b, o + j, none⟩ = some (.int .u16 g)
theorem GsAt.below {w w' : World} {b o n : Nat} {l : List Nat} (h : GsAt w b o l) (hb : Below n w w') (hn : b < n) : GsAt w' b o l :=
  fun j g hg => (hb.cell hn).trans (h j g hg)
theorem GsAt.drop {w : World} {b o : Nat} {l : List Nat} (h : GsAt w b o l) (k : Nat) : GsAt w b (o + k) (l.drop k) := fun j g hg => by
  rw [List.getElem?_drop] at hg
  rw [Nat.add_assoc]
  exact h _ _ hg
theorem GsAt.take {w : World} {b o : Nat} {l : List Nat} (h : GsAt w b o l) (k : Nat) : GsAt w b o (l.take k) := fun j g hg => by
  rw [List.getElem?_take] at hg
  split at hg
  · exact h _ _ hg
  · cases hg

set_option maxHeartbeats 4000000 in
set_option maxRecDepth 1000000 in
theorem tellGroups_any (gs : List Nat) (b o c : Nat) (w : World) (hl : gs.length ≤ 1000) (hg : ∀ g ∈ gs, g ≤ 65535) (hb : b < w.heap.size) (hA : GsAt w b o gs) (hE : Env w) :
    Calls Tryz.prog 58 #[.slice (some ⟨b, o, none⟩) gs.length c] w fun e w' => e = .returned (.string ⟨(P.tellG gs).toArray⟩) ∧ Below w.heap.size w w' := by
  obtain ⟨i0, hi, hz0, hz1, hz2⟩ := info_parts iStr
  have HG := Lib.hid hg
  have HA := Lib.hid hA
  have HE := Lib.hid hE
  clear hg hA hE
  go_enter Tryz.func58, Tryz.ntmps58
  go_wp2_with fail
  go_loopw [3, 8] (fun u3 i wr => ∃ k : Nat, i = .int .i64 k ∧ k ≤ gs.length ∧ Below w.heap.size w wr ∧ wr.ownsRow w.heap.size 9 1 u3 k (P.strs ((gs.take k).map P.hexD))) (fun _ i _ => gs.length - (intOf i).toNat)
  case atStart => exact ⟨0, rfl, by omega, Below.refl _ _, World.ownsRow_nil _ _ _ _⟩
  case round =>
    obtain ⟨k, rfl, hk, hbw, hown⟩ := hrel
    have hbs := hbw.size
    by_cases hlt : k < gs.length
    · obtain ⟨g, hgk⟩ : ∃ g, gs[k]? = some g := ⟨_, List.getElem?_eq_getElem hlt⟩
      have hc := (HA.out.below hbw hb) k g hgk
      have hg1 : g ≤ 65535 := HG.out g (List.mem_of_getElem? hgk)
      have HT := Lib.hid (show P.strs ((gs.take (k + 1)).map P.hexD) = P.strs ((gs.take k).map P.hexD) ++ [.string ⟨(P.hexD g).toArray⟩] by
        rw [List.take_add_one, hgk]; simp [P.strs])
      have HF := Lib.hid (formatU g wr hg1 (HE.out.below hbw))
      clear hgk
      generalize (⟨(P.hexD g).toArray⟩ : ByteArray) = S at *
      go_wp2_with fail
      with_reducible refine HF.out.mono ?_
      rintro e w1 ⟨rfl, hb1⟩
      have hown1 := own_below' hown hb1
      have hb2 := hbw.trans (hb1.mono hbs)
      have hbs2 := hb2.size
      go_wp2_with (at_builtin; refine wpList_append_own _ rfl _ _ 56 rfl w.heap.size 9 i0 (.string ByteArray.empty) 1 16 Tryz.underlying56 hi hz0 hz1 hz2 rfl (by decide) _ _ _ rfl (hown1.alloc _) ⟨w1.heap.size, 0, none⟩ 1 1 _ rfl rfl (cell_one_new _ _ _) (by intro u hu; simp at hu; subst hu; rfl) (by unfold maxLen; omega) (by omega) (by simp; omega) ?_; intro v' w' hown' hgrow' _)
      go_roundw
      case rel => exact ⟨k + 1, by go_num, by omega, (hb2.alloc hb2.size _).grown hgrow' (by simp; omega) (fun k hk => (hown1.lt k hk).1), by rw [HT.out]; exact hown'⟩
      case measure => simp [intOf]; omega
    · obtain rfl : k = gs.length := by omega
      have hown' : wr.ownsRow w.heap.size 9 1 u3 (gs.map P.hexD).length (P.strs (gs.map P.hexD)) := by rw [List.length_map]; rw [List.take_length] at hown; exact hown
      have HJ := Lib.hid (join_row (gs.map P.hexD) ⟨#[58]⟩ wr w.heap.size u3 hown' (by simp; omega) (by
        have := P.tellG_len gs
        unfold P.tellG at this
        show (Lib.join (gs.map P.hexD) [58]).length ≤ _
        omega))
      have HS := Lib.hid (show (⟨(Lib.join (gs.map P.hexD) (⟨#[58]⟩ : ByteArray).data.toList).toArray⟩ : ByteArray) = ⟨(P.tellG gs).toArray⟩ from rfl)
      generalize (⟨(Lib.join (gs.map P.hexD) (⟨#[58]⟩ : ByteArray).data.toList).toArray⟩ : ByteArray) = S at *
      clear hown hown'
      go_wp2_with fail
      with_reducible refine HJ.out.mono ?_
      rintro e w1 ⟨rfl, hb1⟩
      go_wp2_with fail
      go_ret
      exact ⟨by rw [← HS.out]; rfl, hbw.trans (hb1.mono hbs)⟩

theorem and255 (q : Nat) (h : q ≤ 65535) : bits .and .u16 (q : Int) 255 = ((q % 256 : Nat) : Int) := by
  have := u16_and_nat q 255 (by omega) (by omega)
  rw [show ((255 : Nat) : Int) = 255 from rfl] at this
  rw [this, show (255 : Nat) = 2 ^ 8 - 1 from rfl, Nat.and_two_pow_sub_one_eq_mod]
theorem dec_len (n : Nat) (h : n ≤ 65535) : (Lib.decDigits n).length ≤ 21 := by
  have := Lib.itoa_length_le (n : Int) (by omega) (by omega)
  rwa [itoa_nat] at this
theorem P.tell4_len (x y : Nat) (hx : x ≤ 65535) (hy : y ≤ 65535) : (P.tell4 x y).length ≤ 100 := by
  have h1 := dec_len (x / 256) (by omega)
  have h2 := dec_len (x % 256) (by omega)
  have h3 := dec_len (y / 256) (by omega)
  have h4 := dec_len (y % 256) (by omega)
  unfold P.tell4 P.bytes4
  rw [Lib.join_cons]
  simp only [Lib.joinTail, List.map_cons, List.map_nil, List.flatten_cons, List.flatten_nil, List.length_append, List.length_cons, List.length_nil]
  omega

set_option maxHeartbeats 4000000 in
set_option maxRecDepth 1000000 in
theorem tellFour_any (a : Ad) (x y : Nat) (w : World) (hx : a.g0 = x) (hy : a.g1 = y) (h0 : x ≤ 65535) (h1 : y ≤ 65535) (hE : Env w) :
    Calls Tryz.prog 40 #[.agg a.gv.toArray] w fun e w' => e = .returned (.string ⟨(P.tell4 x y).toArray⟩) ∧ Below w.heap.size w w' := by
  obtain ⟨i0, hi, hz0, hz1, hz2⟩ := info_parts iStr
  obtain ⟨f, g0, g1, g2, g3, g4, g5, g6, g7, p⟩ := a
  simp only at hx hy
  subst hx hy
  have HE := Lib.hid hE
  simp only [Ad.gv]
  have HB : Below w.heap.size w (w.alloc (Obj.cells #[.int .u16 (x : Int), .int .u16 (y : Int), .int .u16 g2, .int .u16 g3, .int .u16 g4, .int .u16 g5, .int .u16 g6, .int .u16 g7] 24)) := (Below.refl _ w).alloc (Nat.le_refl _) _
  have HA : GsAt (w.alloc (Obj.cells #[.int .u16 (x : Int), .int .u16 (y : Int), .int .u16 g2, .int .u16 g3, .int .u16 g4, .int .u16 g5, .int .u16 g6, .int .u16 g7] 24)) w.heap.size 0 [x, y] := by
    intro j g hg
    rw [World.cell?_alloc_new]
    match j with
    | 0 => simp at hg; subst hg; rfl
    | 1 => simp at hg; subst hg; rfl
    | j + 2 => simp at hg
  have HA2 := Lib.hid HA
  have HB2 := Lib.hid HB
  clear hE HA HB
  have hx8 : (x : Int) / 256 = ((x / 256 : Nat) : Int) := by omega
  go_enter Tryz.func40, Tryz.ntmps40
  go_wp2_with fail
  generalize hW : w.alloc (Obj.cells #[.int .u16 (x : Int), .int .u16 (y : Int), .int .u16 g2, .int .u16 g3, .int .u16 g4, .int .u16 g5, .int .u16 g6, .int .u16 g7] 24) = W1 at *
  have hWs : W1.heap.size = w.heap.size + 1 := by rw [← hW]; simp
  have HW := Lib.hid hW
  clear hW hx8
  go_loopw [3, 8] (fun u3 i wr => ∃ k : Nat, i = .int .i64 k ∧ k ≤ 2 ∧ Below W1.heap.size W1 wr ∧ wr.ownsRow W1.heap.size 9 1 u3 (2 * k) (P.strs ((P.bytes4 x y).take (2 * k)))) (fun _ i _ => 2 - (intOf i).toNat)
  case atStart => exact ⟨0, rfl, by omega, Below.refl _ _, World.ownsRow_nil _ _ _ _⟩
  case round =>
    obtain ⟨k, rfl, hk, hbw, hown⟩ := hrel
    have hbs := hbw.size
    by_cases hlt : k < 2
    · obtain ⟨q, hq, hq1, hrow⟩ : ∃ q, [x, y][k]? = some q ∧ q ≤ 65535 ∧ (P.bytes4 x y).take (2 * (k + 1)) = (P.bytes4 x y).take (2 * k) ++ [Lib.decDigits (q / 256), Lib.decDigits (q % 256)] := by
        rcases (show k = 0 ∨ k = 1 by omega) with rfl | rfl
        · exact ⟨x, rfl, h0, rfl⟩
        · exact ⟨y, rfl, h1, rfl⟩
      have hc := (HA2.out.below hbw (by omega)) k q hq
      rw [Nat.zero_add] at hc
      have hand := and255 q hq1
      have hi1 := fun w => itoa_any (q / 256) (by omega) w
      rw [show ((q / 256 : Nat) : Int) = (q : Int) / 256 from by omega] at hi1
      have HI1 := Lib.hid hi1
      clear hi1
      have hi2 := fun w => itoa_any (q % 256) (by omega) w
      rw [show ((q % 256 : Nat) : Int) = (q : Int) % 256 from by omega] at hi2
      have HI2 := Lib.hid hi2
      clear hi2
      have HT := Lib.hid (show P.strs ((P.bytes4 x y).take (2 * (k + 1))) = P.strs ((P.bytes4 x y).take (2 * k)) ++ [.string ⟨(Lib.decDigits (q / 256)).toArray⟩, .string ⟨(Lib.decDigits (q % 256)).toArray⟩] by
        rw [hrow, P.strs_append]; rfl)
      clear hq hrow
      generalize (⟨(Lib.decDigits (q / 256)).toArray⟩ : ByteArray) = S1 at *
      generalize (⟨(Lib.decDigits (q % 256)).toArray⟩ : ByteArray) = S2 at *
      go_wp2_with fail
      have HC := HI1.out wr (HE.out.below (HB2.out.trans (hbw.mono (by omega))))
      with_reducible refine HC.mono ?_
      clear HC
      rintro e w1 ⟨rfl, hb1⟩
      have hown1 := own_below' hown hb1
      have hb2 := hbw.trans (hb1.mono hbs)
      have hbs2 := hb2.size
      go_wp2_with fail
      have HC := HI2.out w1 (HE.out.below (HB2.out.trans (hb2.mono (by omega))))
      with_reducible refine HC.mono ?_
      clear HC
      rintro e w2 ⟨rfl, hb3⟩
      have hown2 := own_below' hown1 hb3
      have hb4 := hb2.trans (hb3.mono hbs2)
      have hbs4 := hb4.size
      go_wp2_with (at_builtin; refine wpList_append_own _ rfl _ _ 56 rfl W1.heap.size 9 i0 (.string ByteArray.empty) 1 16 Tryz.underlying56 hi hz0 hz1 hz2 rfl (by decide) _ _ _ rfl (hown2.alloc _) ⟨w2.heap.size, 0, none⟩ 2 2 [.string S1, .string S2] rfl rfl (cells_new _ _ _ _ rfl) (by intro u hu; simp at hu; rcases hu with rfl | rfl <;> rfl) (by unfold maxLen; omega) (by omega) (by simp; omega) ?_; intro v' w' hown' hgrow' _)
      go_roundw
      case rel => exact ⟨k + 1, by go_num, by omega, (hb4.alloc hb4.size _).grown hgrow' (by simp; omega) (fun k hk => (hown2.lt k hk).1), by rw [HT.out]; exact hown'⟩
      case measure => simp [intOf]; omega
    · obtain rfl : k = 2 := by omega
      have HJ := Lib.hid (join_row (P.bytes4 x y) ⟨#[46]⟩ wr W1.heap.size u3 hown (by simp [P.bytes4]) (by
        have := P.tell4_len x y h0 h1
        unfold P.tell4 at this
        show (Lib.join (P.bytes4 x y) [46]).length ≤ _
        omega))
      have HS := Lib.hid (show (⟨(Lib.join (P.bytes4 x y) (⟨#[46]⟩ : ByteArray).data.toList).toArray⟩ : ByteArray) = ⟨(P.tell4 x y).toArray⟩ from rfl)
      generalize (⟨(Lib.join (P.bytes4 x y) (⟨#[46]⟩ : ByteArray).data.toList).toArray⟩ : ByteArray) = S at *
      clear hown
      go_wp2_with fail
      with_reducible refine HJ.out.mono ?_
      rintro e w1 ⟨rfl, hb1⟩
      go_wp2_with fail
      go_ret
      exact ⟨by rw [← HS.out]; rfl, HB2.out.trans ((hbw.trans (hb1.mono hbs)).mono (by omega))⟩
end Go.Proofs.YtbejnnkdgcelmaaGreatDoor
