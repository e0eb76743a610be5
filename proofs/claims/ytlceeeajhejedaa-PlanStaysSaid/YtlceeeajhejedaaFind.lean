/- What comes n-th; the first at which something holds; Answer and Fate. -/
import Derived.Test.YtlceeeajhejedaaSpecs
import Derived.Lib.LazyBuf
set_option linter.unusedSimpArgs false
set_option linter.unusedVariables false
namespace Go.Proofs.Ytlceeeajhejedaa
open Go.RowKit Go.Proofs.Ytlceeeajhejedaa.Kind

def idxI {α : Type} (p : α → Bool) (l : List α) : Int := match l.findIdx? p with | none => -1 | some i => i
theorem idxI_at {α : Type} {p : α → Bool} {l : List α} {k : Nat} {x : α} (hx : l[k]? = some x) (hp : p x = true) (hb : ∀ (j : Nat) (y : α), j < k → l[j]? = some y → p y = false) : idxI p l = k := by
  obtain ⟨hk, e⟩ := List.getElem?_eq_some_iff.1 hx
  have : l.findIdx? p = some k := by
    rw [List.findIdx?_eq_some_iff_getElem]
    refine ⟨hk, by rw [e]; exact hp, fun j hj => ?_⟩
    have := hb j l[j] hj (List.getElem?_eq_getElem (by omega))
    simp [this]
  rw [idxI, this]
theorem idxI_none {α : Type} {p : α → Bool} {l : List α} (hb : ∀ (j : Nat) (y : α), j < l.length → l[j]? = some y → p y = false) : idxI p l = -1 := by
  have : l.findIdx? p = none := by
    rw [List.findIdx?_eq_none_iff]
    intro x hx
    obtain ⟨j, hj, e⟩ := List.getElem_of_mem hx
    exact hb j x hj (by rw [List.getElem?_eq_getElem hj, e])
  rw [idxI, this]
def NoneTo {α : Type} (p : α → Bool) (l : List α) (k : Nat) : Prop := ∀ (j : Nat) (y : α), j < k → l[j]? = some y → p y = false
theorem noneTo_zero {α : Type} (p : α → Bool) (l : List α) : NoneTo p l 0 := fun j y h => by omega
theorem noneTo_step {α : Type} {p : α → Bool} {l : List α} {k : Nat} {x : α} (h : NoneTo p l k) (hx : l[k]? = some x) (hp : p x = false) : NoneTo p l (k + 1) := fun j y hj hy => by
  rcases (show j < k ∨ j = k by omega) with h' | rfl
  · exact h j y h' hy
  · rw [hx] at hy; cases hy; exact hp

theorem len_int (n : Nat) (h : n ≤ maxLen) : (n : Int) ≤ 9223372036854775807 := by
  unfold maxLen at h
  omega
theorem text_eq (a b : ByteArray) : (a.toList == b.toList) = decide (a = b) := by
  rw [Bool.eq_iff_iff]
  simp only [beq_iff_eq, decide_eq_true_eq]
  constructor
  · intro h
    apply ByteArray.ext
    apply Array.ext'
    rw [ByteArray.toList_eq, ByteArray.toList_eq] at h
    exact h
  · rintro rfl; rfl

set_option maxHeartbeats 2000000 in
set_option maxRecDepth 1000000 in
/-- The closure in Answer: is it this name's zone? -/
theorem zone_is (s : ByteArray) (z : Zv) (g : Nat) (t : TypeId) (w : World) (hg : w.heap[g]? = some (.cells #[.string s] t (0, 0))) :
    Calls Try.prog 16 #[.agg #[.string z.name, .slice z.h.a z.h.n z.h.c], .pointer (some ⟨g, 0, none⟩)] w fun e w' => e = .returned (.bool (decide (z.name = s))) ∧ Below w.heap.size w w' := by
  have c0 := (cell1 hg).1
  have hlt := lt_heap' hg
  have c1 : ∀ o, (w.alloc o).cell? ⟨g, 0, none⟩ = some (.string s) := fun o => ((below1 w o).cell hlt).trans c0
  go_enter Try.func16, Try.ntmps16
  go_wp2_with fail
  go_ret
  exact ⟨by rw [← text_eq]; rfl, below1 w _⟩

set_option maxHeartbeats 4000000 in
set_option maxRecDepth 1000000 in
theorem index_zone (s : ByteArray) (g : Nat) (t : TypeId) (zs : List Zv) (m : Nat) (hm : m = zs.length) (a : Option Addr) (c : Nat) (w : World) (hg : w.heap[g]? = some (.cells #[.string s] t (0, 0))) (hR : ZK.RowC w a c zs) :
    Calls Try.prog 15 #[.slice a m c, .func (.func 16) #[] #[.pointer (some ⟨g, 0, none⟩)]] w fun e w' => e = .returned (.int .i64 (idxI (fun z => decide (z.name = s)) zs)) ∧ Below w.heap.size w w' := by
  subst hm
  have hlen : (zs.length : Int) ≤ 9223372036854775807 := len_int _ (Nat.le_trans hR.1 hR.2.1)
  have HR := Lib.hid hR
  have HG := Lib.hid hg
  have hlt := lt_heap' hg
  clear hR hg
  go_enter Try.func15, Try.ntmps15
  go_wp2_with fail
  go_loopw [4, 8] (fun r i wr => ∃ k : Nat, r = .int .i64 0 ∧ i = .int .i64 k ∧ k ≤ zs.length ∧ Hid (NoneTo (fun z : Zv => decide (z.name = s)) zs k) ∧ Below w.heap.size w wr) (fun _ i _ => zs.length - (intOf i).toNat)
  case atStart => exact ⟨0, rfl, rfl, by omega, Lib.hid (noneTo_zero _ _), Below.refl _ _⟩
  case round =>
    obtain ⟨k, rfl, rfl, hk, hn, hb⟩ := hrel
    have HN := Lib.hid hn.out
    have HB := Lib.hid hb
    have hbs := hb.size
    clear hn hb
    by_cases hki : k < zs.length
    · obtain ⟨x, hx⟩ : ∃ x, zs[k]? = some x := ⟨_, List.getElem?_eq_getElem hki⟩
      obtain ⟨b, o, rfl, hbl, hat⟩ := HR.out.2.2.2 (by omega)
      obtain ⟨y0, y1⟩ := ZK.two (hat.below HB.out hbl) hx
      have HC := Lib.hid (zone_is s x g t wr ((HB.out.block g hlt).trans HG.out))
      have HX := Lib.hid hx
      clear hx hat
      go_wp2_with fail
      with_reducible refine HC.out.mono ?_
      rintro e w1 ⟨rfl, hb1⟩
      have HB1 := Lib.hid (HB.out.trans (hb1.mono hbs))
      clear hb1 HC y0 y1
      by_cases hq : x.name = s
      · have hd : decide (x.name = s) = true := decide_eq_true hq
        rw [hd]
        go_wp2_with fail
        go_ret
        exact ⟨by rw [idxI_at HX.out hd HN.out]; rfl, HB1.out⟩
      · have hd : decide (x.name = s) = false := decide_eq_false hq
        rw [hd]
        go_wp2_with fail
        go_roundw
        case rel => exact ⟨k + 1, rfl, by go_num, by omega, Lib.hid (noneTo_step HN.out HX.out hd), HB1.out⟩
        case measure => simp [intOf]; omega
    · obtain rfl : k = zs.length := by omega
      go_wp2_with fail
      go_ret
      exact ⟨by rw [idxI_none HN.out]; rfl, HB.out⟩

set_option maxHeartbeats 2000000 in
set_option maxRecDepth 1000000 in
theorem nth_ans (n : Int) (hs : List Hv) (x : Hv) (a : Option Addr) (c : Nat) (w : World) (hR : HK.RowC w a c hs) (hx : hs[nthI n hs.length]? = some x) :
    Calls Try.prog 17 #[.slice a hs.length c, .int .i64 n] w fun e w' => e = .returned (.tuple #[.slice x.a x.n x.c, .bool true]) ∧ w = w' := by
  have hlen : (hs.length : Int) ≤ 9223372036854775807 := len_int _ (Nat.le_trans hR.1 hR.2.1)
  have hlt := (List.getElem?_eq_some_iff.1 hx).1
  obtain ⟨m, hm⟩ : ∃ m, m = nthI n hs.length := ⟨_, rfl⟩
  rw [← hm] at hx hlt
  have hpos : 0 < hs.length := by omega
  obtain ⟨b, o, rfl, hbl, hat⟩ := hR.2.2.2 hpos
  have y0 := HK.one hat hx
  clear hat hR hx
  have hne : ¬ hs.length = 0 := by omega
  have hneI : ((hs.length : Int) == 0) = false := by simp; exact List.ne_nil_of_length_pos hpos
  generalize hs.length = L at *
  unfold nthI at hm
  by_cases h1 : n < 0
  · obtain rfl : m = 0 := by omega
    rw [Nat.add_zero] at y0
    clear hm
    go_enter Try.func17, Try.ntmps17
    go_wp2_with fail
    go_ret2
    exact ⟨by first | rfl | simp, rfl⟩
  · by_cases h2 : n ≤ (L : Int) - 1
    · obtain rfl : m = n.toNat := by omega
      clear hm
      go_enter Try.func17, Try.ntmps17
      go_wp2_with fail
      go_ret2
      exact ⟨by first | rfl | simp, rfl⟩
    · obtain rfl : m = L - 1 := by omega
      clear hm
      go_enter Try.func17, Try.ntmps17
      go_wp2_with fail
      go_ret2
      exact ⟨by first | rfl | simp, rfl⟩

set_option maxHeartbeats 2000000 in
set_option maxRecDepth 1000000 in
theorem nth_ans_none (n : Int) (a : Option Addr) (c : Nat) (w : World) :
    Calls Try.prog 17 #[.slice a 0 c, .int .i64 n] w fun e w' => e = .returned (.tuple #[.slice none 0 0, .bool false]) ∧ w = w' := by
  go_enter Try.func17, Try.ntmps17
  go_wp2_with fail
  go_ret2
  exact ⟨by first | rfl | simp, rfl⟩

set_option maxHeartbeats 2000000 in
set_option maxRecDepth 1000000 in
theorem nth_fate (n : Int) (l : List Int) (x : Int) (a : Option Addr) (c : Nat) (w : World) (hR : JK.RowC w a c l) (hx : l[nthI n l.length]? = some x) :
    Calls Try.prog 21 #[.slice a l.length c, .int .i64 n] w fun e w' => e = .returned (.tuple #[.int .i8 x, .bool true]) ∧ w = w' := by
  have hlen : (l.length : Int) ≤ 9223372036854775807 := len_int _ (Nat.le_trans hR.1 hR.2.1)
  have hlt := (List.getElem?_eq_some_iff.1 hx).1
  obtain ⟨m, hm⟩ : ∃ m, m = nthI n l.length := ⟨_, rfl⟩
  rw [← hm] at hx hlt
  have hpos : 0 < l.length := by omega
  obtain ⟨b, o, rfl, hbl, hat⟩ := hR.2.2.2 hpos
  have y0 := JK.one hat hx
  clear hat hR hx
  have hne : ¬ l.length = 0 := by omega
  have hneI : ((l.length : Int) == 0) = false := by simp; exact List.ne_nil_of_length_pos hpos
  generalize l.length = L at *
  unfold nthI at hm
  by_cases h1 : n < 0
  · obtain rfl : m = 0 := by omega
    rw [Nat.add_zero] at y0
    clear hm
    go_enter Try.func21, Try.ntmps21
    go_wp2_with fail
    go_ret2
    exact ⟨by first | rfl | simp, rfl⟩
  · by_cases h2 : n ≤ (L : Int) - 1
    · obtain rfl : m = n.toNat := by omega
      clear hm
      go_enter Try.func21, Try.ntmps21
      go_wp2_with fail
      go_ret2
      exact ⟨by first | rfl | simp, rfl⟩
    · obtain rfl : m = L - 1 := by omega
      clear hm
      go_enter Try.func21, Try.ntmps21
      go_wp2_with fail
      go_ret2
      exact ⟨by first | rfl | simp, rfl⟩

set_option maxHeartbeats 2000000 in
set_option maxRecDepth 1000000 in
theorem nth_fate_none (n : Int) (a : Option Addr) (c : Nat) (w : World) :
    Calls Try.prog 21 #[.slice a 0 c, .int .i64 n] w fun e w' => e = .returned (.tuple #[.int .i8 0, .bool false]) ∧ w = w' := by
  go_enter Try.func21, Try.ntmps21
  go_wp2_with fail
  go_ret2
  exact ⟨by first | rfl | simp, rfl⟩

set_option maxHeartbeats 2000000 in
set_option maxRecDepth 1000000 in
/-- slices.Clone of addresses. -/
theorem clone_ads (l : List Ad) (a : Option Addr) (c : Nat) (w : World) (hR : AK.RowC w a c l) (hl : l.length ≤ 4398046511104) :
    Calls Try.prog 18 #[.slice a l.length c] w fun e w' => ∃ a' c', e = .returned (.slice a' l.length c') ∧ AK.RowC w' a' c' l ∧ Below w.heap.size w w' := by
  have hq : ∀ (a : Option Addr) (n : Nat) (W : World), (binOp .eql 40 (.slice a n c) (.slice none 0 0)).run Try.prog W = .ok (.bool a.isNone) W := fun a n W => Go.run_eql_slice_nil W _ _ a n c Try.underlying40
  cases a with
  | none =>
    obtain rfl : c = 0 := hR.2.2.1 rfl
    obtain rfl : l = [] := List.length_eq_zero_iff.1 (by have := hR.1; omega)
    go_enter Try.func18, Try.ntmps18
    go_wp2_with fail
    go_ret
    exact ⟨none, 0, rfl, row_none _, Below.refl _ _⟩
  | some ad =>
    have HR := Lib.hid hR
    clear hR
    go_enter Try.func18, Try.ntmps18
    go_wp2_with (first | (at_builtin; refine wpList_append_rows_b AK rfl _ _ rfl w.heap.size _ rfl [] (dst_bare _ _ _) (some ad) l.length c rfl l rfl (HR.out.below (below1 w _)) (by show (0 + l.length) * 32 ≤ _; omega) (by simp; exact Nat.le_trans HR.out.1 HR.out.2.1) (by simp) ?_; intro a' c' w1 hD hM hB) | go_in)
    go_ret
    exact ⟨a', c', rfl, hM.row, (below1 w _).trans hB⟩

theorem FK.row11 {w : World} {b o : Nat} {l : List Fv} (h : FK.At w b o l) {j : Nat} {x : Fv} (hx : l[j]? = some x) :
    (w.cell? ⟨b, o + j * 11, none⟩ = some (.int .i8 x.ad.f) ∧ w.cell? ⟨b, o + j * 11 + 1, none⟩ = some (.int .u16 x.ad.g0) ∧ w.cell? ⟨b, o + j * 11 + 2, none⟩ = some (.int .u16 x.ad.g1) ∧ w.cell? ⟨b, o + j * 11 + 3, none⟩ = some (.int .u16 x.ad.g2) ∧ w.cell? ⟨b, o + j * 11 + 4, none⟩ = some (.int .u16 x.ad.g3) ∧ w.cell? ⟨b, o + j * 11 + 5, none⟩ = some (.int .u16 x.ad.g4)) ∧
    (w.cell? ⟨b, o + j * 11 + 6, none⟩ = some (.int .u16 x.ad.g5) ∧ w.cell? ⟨b, o + j * 11 + 7, none⟩ = some (.int .u16 x.ad.g6) ∧ w.cell? ⟨b, o + j * 11 + 8, none⟩ = some (.int .u16 x.ad.g7) ∧ w.cell? ⟨b, o + j * 11 + 9, none⟩ = some (.int .i64 x.ad.p) ∧ w.cell? ⟨b, o + j * 11 + 10, none⟩ = some (.slice x.h.a x.h.n x.h.c)) :=
  ⟨⟨h j x hx 0 _ rfl, h j x hx 1 _ rfl, h j x hx 2 _ rfl, h j x hx 3 _ rfl, h j x hx 4 _ rfl, h j x hx 5 _ rfl⟩, h j x hx 6 _ rfl, h j x hx 7 _ rfl, h j x hx 8 _ rfl, h j x hx 9 _ rfl, h j x hx 10 _ rfl⟩
theorem eql_ad (x y : Ad) (W : World) : (binOp .eql 31 (.agg #[.int .i8 x.f, .int .u16 x.g0, .int .u16 x.g1, .int .u16 x.g2, .int .u16 x.g3, .int .u16 x.g4, .int .u16 x.g5, .int .u16 x.g6, .int .u16 x.g7, .int .i64 x.p]) (.agg #[.int .i8 y.f, .int .u16 y.g0, .int .u16 y.g1, .int .u16 y.g2, .int .u16 y.g3, .int .u16 y.g4, .int .u16 y.g5, .int .u16 y.g6, .int .u16 y.g7, .int .i64 y.p])).run Try.prog W = .ok (.bool (decide (x = y))) W := by
  have h := equalIn_addr 9997 W x y
  simp only [Go.Proofs.Ytlceeeajhejedaa.Ad.v] at h
  rw [run_eql_struct, h]
  rfl

set_option maxHeartbeats 2000000 in
set_option maxRecDepth 1000000 in
/-- The closure in Fate: is it this address's row? -/
theorem row_is (x : Ad) (f : Fv) (g : Nat) (t : TypeId) (w : World) (hg : w.heap[g]? = some (.cells #[.int .i8 x.f, .int .u16 x.g0, .int .u16 x.g1, .int .u16 x.g2, .int .u16 x.g3, .int .u16 x.g4, .int .u16 x.g5, .int .u16 x.g6, .int .u16 x.g7, .int .i64 x.p] t (0, 0))) :
    Calls Try.prog 20 #[.agg #[.int .i8 f.ad.f, .int .u16 f.ad.g0, .int .u16 f.ad.g1, .int .u16 f.ad.g2, .int .u16 f.ad.g3, .int .u16 f.ad.g4, .int .u16 f.ad.g5, .int .u16 f.ad.g6, .int .u16 f.ad.g7, .int .i64 f.ad.p, .slice f.h.a f.h.n f.h.c], .pointer (some ⟨g, 0, none⟩)] w fun e w' => e = .returned (.bool (decide (f.ad = x))) ∧ Below w.heap.size w w' := by
  have hlt := lt_heap' hg
  obtain ⟨⟨c0, c1, c2, c3, c4⟩, c5, c6, c7, c8, c9⟩ := box10 (((below1 w (.cells #[.int .i8 f.ad.f, .int .u16 f.ad.g0, .int .u16 f.ad.g1, .int .u16 f.ad.g2, .int .u16 f.ad.g3, .int .u16 f.ad.g4, .int .u16 f.ad.g5, .int .u16 f.ad.g6, .int .u16 f.ad.g7, .int .i64 f.ad.p, .slice f.h.a f.h.n f.h.c] 39)).block g hlt).trans hg)
  have hE := eql_ad f.ad x
  have hG := guard_ad
  clear hg
  go_enter Try.func20, Try.ntmps20
  go_wp2_with fail
  go_ret
  exact ⟨rfl, below1 w _⟩

set_option maxHeartbeats 4000000 in
set_option maxRecDepth 1000000 in
theorem index_row (x : Ad) (g : Nat) (t : TypeId) (zs : List Fv) (m : Nat) (hm : m = zs.length) (a : Option Addr) (c : Nat) (w : World) (hg : w.heap[g]? = some (.cells #[.int .i8 x.f, .int .u16 x.g0, .int .u16 x.g1, .int .u16 x.g2, .int .u16 x.g3, .int .u16 x.g4, .int .u16 x.g5, .int .u16 x.g6, .int .u16 x.g7, .int .i64 x.p] t (0, 0))) (hR : FK.RowC w a c zs) :
    Calls Try.prog 19 #[.slice a m c, .func (.func 20) #[] #[.pointer (some ⟨g, 0, none⟩)]] w fun e w' => e = .returned (.int .i64 (idxI (fun z => decide (z.ad = x)) zs)) ∧ Below w.heap.size w w' := by
  subst hm
  have hlen : (zs.length : Int) ≤ 9223372036854775807 := len_int _ (Nat.le_trans hR.1 hR.2.1)
  have HR := Lib.hid hR
  have HG := Lib.hid hg
  have hlt := lt_heap' hg
  clear hR hg
  go_enter Try.func19, Try.ntmps19
  go_wp2_with fail
  go_loopw [4, 8] (fun r i wr => ∃ k : Nat, r = .int .i64 0 ∧ i = .int .i64 k ∧ k ≤ zs.length ∧ Hid (NoneTo (fun z : Fv => decide (z.ad = x)) zs k) ∧ Below w.heap.size w wr) (fun _ i _ => zs.length - (intOf i).toNat)
  case atStart => exact ⟨0, rfl, rfl, by omega, Lib.hid (noneTo_zero _ _), Below.refl _ _⟩
  case round =>
    obtain ⟨k, rfl, rfl, hk, hn, hb⟩ := hrel
    have HN := Lib.hid hn.out
    have HB := Lib.hid hb
    have hbs := hb.size
    clear hn hb
    by_cases hki : k < zs.length
    · obtain ⟨y, hy⟩ : ∃ y, zs[k]? = some y := ⟨_, List.getElem?_eq_getElem hki⟩
      obtain ⟨b, o, rfl, hbl, hat⟩ := HR.out.2.2.2 (by omega)
      obtain ⟨⟨y0, y1, y2, y3, y4, y5⟩, y6, y7, y8, y9, y10⟩ := FK.row11 (hat.below HB.out hbl) hy
      have HC := Lib.hid (row_is x y g t wr ((HB.out.block g hlt).trans HG.out))
      have HX := Lib.hid hy
      clear hy hat
      go_wp2_with fail
      with_reducible refine HC.out.mono ?_
      rintro e w1 ⟨rfl, hb1⟩
      have HB1 := Lib.hid (HB.out.trans (hb1.mono hbs))
      clear hb1 HC y0 y1 y2 y3 y4 y5 y6 y7 y8 y9 y10
      by_cases hq : y.ad = x
      · have hd : decide (y.ad = x) = true := decide_eq_true hq
        rw [hd]
        have HD := Lib.hid hd
        clear hd hq
        go_wp2_with fail
        go_ret
        exact ⟨by rw [idxI_at HX.out HD.out HN.out]; rfl, HB1.out⟩
      · have hd : decide (y.ad = x) = false := decide_eq_false hq
        rw [hd]
        have HD := Lib.hid hd
        clear hd hq
        go_wp2_with fail
        go_roundw
        case rel => exact ⟨k + 1, rfl, by go_num, by omega, Lib.hid (noneTo_step HN.out HX.out HD.out), HB1.out⟩
        case measure => simp [intOf]; omega
    · obtain rfl : k = zs.length := by omega
      go_wp2_with fail
      go_ret
      exact ⟨by rw [idxI_none HN.out]; rfl, HB.out⟩

theorem idxI_same {α β : Type} {p : α → Bool} {q : β → Bool} {hs : List α} {L : List β} (hlen : hs.length = L.length) (h : ∀ (j : Nat) (x : α) (y : β), hs[j]? = some x → L[j]? = some y → p x = q y) : idxI p hs = idxI q L := by
  rcases Classical.em (∃ k y, L[k]? = some y ∧ q y = true ∧ ∀ (j : Nat) (z : β), j < k → L[j]? = some z → q z = false) with ⟨k, y, h1, h2, h3⟩ | hno
  · have hk := (List.getElem?_eq_some_iff.1 h1).1
    obtain ⟨x, hx⟩ : ∃ x, hs[k]? = some x := ⟨_, List.getElem?_eq_getElem (by omega)⟩
    rw [idxI_at h1 h2 h3, idxI_at hx (by rw [h k x y hx h1]; exact h2) (fun j z hj hz => by
      obtain ⟨u, hu⟩ : ∃ u, L[j]? = some u := ⟨_, List.getElem?_eq_getElem (by omega)⟩
      rw [h j z u hz hu]
      exact h3 j u hj hu)]
  · have hall : ∀ (n : Nat), ∀ (j : Nat) (z : β), j < n → L[j]? = some z → q z = false := by
      intro n
      induction n with
      | zero => intro j z hj; omega
      | succ n ih =>
        intro j z hj hz
        rcases (show j < n ∨ j = n by omega) with h' | rfl
        · exact ih j z h' hz
        · cases hq : q z with
          | false => rfl
          | true => exact absurd ⟨j, z, hz, hq, ih⟩ hno
    rw [idxI_none (hall _), idxI_none (fun j z hj hz => by
      obtain ⟨u, hu⟩ : ∃ u, L[j]? = some u := ⟨_, List.getElem?_eq_getElem (by omega)⟩
      rw [h j z u hz hu]
      exact hall (j + 1) j u (by omega) hu)]
theorem idx_cases {β : Type} (q : β → Bool) (L : List β) : (idxI q L = -1 ∧ L.find? q = none) ∨ ∃ (k : Nat) (z : β), idxI q L = k ∧ L[k]? = some z ∧ L.find? q = some z := by
  unfold idxI
  cases h : L.findIdx? q with
  | none =>
    left
    refine ⟨rfl, ?_⟩
    rw [List.find?_eq_none]
    rw [List.findIdx?_eq_none_iff] at h
    intro x hx
    simp [h x hx]
  | some k =>
    right
    rw [List.findIdx?_eq_some_iff_getElem] at h
    obtain ⟨hk, h1, h2⟩ := h
    refine ⟨k, L[k], rfl, List.getElem?_eq_getElem hk, ?_⟩
    rw [List.find?_eq_some_iff_getElem]
    exact ⟨h1, k, hk, rfl, fun j hj => by simpa using h2 j hj⟩
end Go.Proofs.Ytlceeeajhejedaa
