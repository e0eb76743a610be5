/- How many there may be; which numbers may be; the parts of a plan. -/
import Derived.Test.YtciohjgcndgiaaaGreatDoorFind
import Derived.Laws.Build
import Derived.Deep.RegionHeld3
set_option linter.unusedSimpArgs false
set_option linter.unusedVariables false
namespace Go.Proofs.YtciohjgcndgiaaaGreatDoor
open Go.RowKit Go.Proofs.YtciohjgcndgiaaaGreatDoor.Kind

set_option maxHeartbeats 2000000 in
set_option maxRecDepth 1000000 in
theorem count_ads (n : Nat) (a : Option Addr) (c : Nat) (w : World) (hn : (n : Int) ≤ 9223372036854775807) :
    Calls Tryz.prog 77 #[.slice a n c] w fun e w' => e = .returned (.bool (decide (1 ≤ n ∧ n ≤ 32))) ∧ w = w' := by
  by_cases h1 : 1 ≤ n
  · by_cases h2 : n ≤ 32
    · rw [decide_eq_true ⟨h1, h2⟩]
      have h1 : (1 : Int) ≤ (n : Int) := by omega
      have h2 : (n : Int) ≤ 32 := by omega
      go_enter Tryz.func77, Tryz.ntmps77
      go_wp2_with fail
      go_ret
      exact ⟨by first | rfl | simp [*], rfl⟩
    · rw [decide_eq_false (by omega)]
      have h1 : (1 : Int) ≤ (n : Int) := by omega
      have h2 : ¬ (n : Int) ≤ 32 := by omega
      go_enter Tryz.func77, Tryz.ntmps77
      go_wp2_with fail
      go_ret
      exact ⟨by first | rfl | simp [*], rfl⟩
  · rw [decide_eq_false (by omega)]
    have h1 : ¬ (1 : Int) ≤ (n : Int) := by omega
    go_enter Tryz.func77, Tryz.ntmps77
    go_wp2_with fail
    go_ret
    exact ⟨by first | rfl | simp [*], rfl⟩

set_option maxHeartbeats 2000000 in
set_option maxRecDepth 1000000 in
theorem count_fates (n : Nat) (a : Option Addr) (c : Nat) (w : World) (hn : (n : Int) ≤ 9223372036854775807) :
    Calls Tryz.prog 78 #[.slice a n c] w fun e w' => e = .returned (.bool (decide (1 ≤ n ∧ n ≤ 32))) ∧ w = w' := by
  by_cases h1 : 1 ≤ n
  · by_cases h2 : n ≤ 32
    · rw [decide_eq_true ⟨h1, h2⟩]
      have h1 : (1 : Int) ≤ (n : Int) := by omega
      have h2 : (n : Int) ≤ 32 := by omega
      go_enter Tryz.func78, Tryz.ntmps78
      go_wp2_with fail
      go_ret
      exact ⟨by first | rfl | simp [*], rfl⟩
    · rw [decide_eq_false (by omega)]
      have h1 : (1 : Int) ≤ (n : Int) := by omega
      have h2 : ¬ (n : Int) ≤ 32 := by omega
      go_enter Tryz.func78, Tryz.ntmps78
      go_wp2_with fail
      go_ret
      exact ⟨by first | rfl | simp [*], rfl⟩
  · rw [decide_eq_false (by omega)]
    have h1 : ¬ (1 : Int) ≤ (n : Int) := by omega
    go_enter Tryz.func78, Tryz.ntmps78
    go_wp2_with fail
    go_ret
    exact ⟨by first | rfl | simp [*], rfl⟩

set_option maxHeartbeats 2000000 in
set_option maxRecDepth 1000000 in
theorem fate_may (x : Int) (w : World) :
    Calls Tryz.prog 79 #[.int .i8 x] w fun e w' => e = .returned (.bool (decide (x = 0 ∨ x = 1 ∨ x = 2))) ∧ w = w' := by
  by_cases h0 : x = 0
  · subst h0
    go_enter Tryz.func79, Tryz.ntmps79
    go_wp2_with fail
    go_ret
    exact ⟨rfl, rfl⟩
  · by_cases h1 : x = 1
    · subst h1
      go_enter Tryz.func79, Tryz.ntmps79
      go_wp2_with fail
      go_ret
      exact ⟨rfl, rfl⟩
    · by_cases h2 : x = 2
      · subst h2
        go_enter Tryz.func79, Tryz.ntmps79
        go_wp2_with fail
        go_ret
        exact ⟨rfl, rfl⟩
      · rw [decide_eq_false (by omega)]
        have e0 : (x == 0) = false := by simpa using h0
        have e1 : (x == 1) = false := by simpa using h1
        have e2 : (x == 2) = false := by simpa using h2
        clear h0 h1 h2
        go_enter Tryz.func79, Tryz.ntmps79
        go_wp2_with fail
        go_ret
        exact ⟨rfl, rfl⟩

def lensB (P : Pl) : Bool := decide (P.zones.length ≤ 8 ∧ P.fates.length ≤ 32 ∧ P.drops.length ≤ 16)
set_option maxHeartbeats 4000000 in
set_option maxRecDepth 1000000 in
theorem lens_any (P : Pl) (v : Pv) (w : World) :
    Calls Tryz.prog 28 #[v.val P] w fun e w' => e = .returned (.bool (lensB P)) ∧ Below w.heap.size w w' := by
  obtain ⟨za, zc, fa, fc, da, dc⟩ := v
  obtain ⟨zs, fs, t, ds⟩ := P
  simp only [Pv.val, lensB]
  generalize zs.length = z
  generalize fs.length = f
  generalize ds.length = d
  by_cases h1 : z ≤ 8
  · have i1 : (z : Int) ≤ 8 := by omega
    by_cases h2 : f ≤ 32
    · have i2 : (f : Int) ≤ 32 := by omega
      by_cases h3 : d ≤ 16
      · have i3 : (d : Int) ≤ 16 := by omega
        rw [decide_eq_true ⟨h1, h2, h3⟩]
        go_enter Tryz.func28, Tryz.ntmps28
        go_wp2_with fail
        go_ret
        exact ⟨by first | rfl | simp [*], below1 w _⟩
      · have i3 : ¬ (d : Int) ≤ 16 := by omega
        rw [decide_eq_false (by omega)]
        go_enter Tryz.func28, Tryz.ntmps28
        go_wp2_with fail
        go_ret
        exact ⟨by first | rfl | simp [*], below1 w _⟩
    · have i2 : ¬ (f : Int) ≤ 32 := by omega
      rw [decide_eq_false (by omega)]
      go_enter Tryz.func28, Tryz.ntmps28
      go_wp2_with fail
      go_ret
      exact ⟨by first | rfl | simp [*], below1 w _⟩
  · have i1 : ¬ (z : Int) ≤ 8 := by omega
    rw [decide_eq_false (by omega)]
    go_enter Tryz.func28, Tryz.ntmps28
    go_wp2_with fail
    go_ret
    exact ⟨by first | rfl | simp [*], below1 w _⟩

def numsB (P : Pl) : Bool := P.drops.all (fun d => decide (0 ≤ d)) && decide (0 ≤ P.ticks ∧ P.ticks ≤ 200)
theorem all_trueC {α : Type} {p : α → Bool} {l : List α} (h : NoneTo (fun x => !p x) l l.length) : l.all p = true := by
  rw [List.all_eq_true]
  intro x hx
  obtain ⟨j, hj, e⟩ := List.getElem_of_mem hx
  have := h j x hj (by rw [List.getElem?_eq_getElem hj, e])
  simpa using this
theorem all_falseC {α : Type} {p : α → Bool} {l : List α} {k : Nat} {x : α} (hx : l[k]? = some x) (hp : p x = false) : l.all p = false := by
  rw [List.all_eq_false]
  exact ⟨x, List.mem_of_getElem? hx, by simp [hp]⟩
set_option maxHeartbeats 4000000 in
set_option maxRecDepth 1000000 in
theorem nums_any (P : Pl) (v : Pv) (w : World) (hP : IK.RowC w v.da v.dc P.drops) :
    Calls Tryz.prog 29 #[v.val P] w fun e w' => e = .returned (.bool (numsB P)) ∧ Below w.heap.size w w' := by
  obtain ⟨za, zc, fa, fc, da, dc⟩ := v
  obtain ⟨zs, fs, t, l⟩ := P
  simp only [Pv.val, numsB]
  dsimp only at hP
  have hlen : (l.length : Int) ≤ 9223372036854775807 := len_intC _ (Nat.le_trans hP.1 hP.2.1)
  obtain ⟨o1, ho1⟩ : ∃ o1 : Obj, o1 = .cells #[.slice za zs.length zc, .slice fa fs.length fc, .int .i64 t, .slice da l.length dc] 26 := ⟨_, rfl⟩
  have HB := Lib.hid (below1 w o1)
  have HL := Lib.hid (laid1 w o1)
  have HR := Lib.hid (hP.below (below1 w o1))
  rw [ho1] at HB HL HR
  clear ho1
  obtain ⟨W1, hW1⟩ : ∃ W1, W1 = w.alloc (.cells #[.slice za zs.length zc, .slice fa fs.length fc, .int .i64 t, .slice da l.length dc] 26) := ⟨_, rfl⟩
  rw [← hW1] at HB HL HR
  go_enter Tryz.func29, Tryz.ntmps29
  go_upto_region 1 with fail
  rw [← hW1]
  clear hW1
  obtain ⟨⟨x0, x1, x2, x3⟩, _⟩ := box4 HL.out
  go_wp2_with fail
  go_loopw [8] (fun i wr => ∃ k : Nat, i = .int .i64 k ∧ k ≤ l.length ∧ Hid (NoneTo (fun x : Int => !decide (0 ≤ x)) l k) ∧ W1 = wr) (fun i _ => l.length - (intOf i).toNat)
  case atStart => exact ⟨0, rfl, by omega, Lib.hid (noneTo_zero _ _), by first | rfl | trivial⟩
  case round =>
    obtain ⟨k, rfl, hk, hn, rfl⟩ := hrel
    have HN := Lib.hid hn.out
    clear hn
    by_cases hki : k < l.length
    · obtain ⟨y, hy⟩ : ∃ y, l[k]? = some y := ⟨_, List.getElem?_eq_getElem hki⟩
      obtain ⟨b, o, rfl, hbl, hat⟩ := HR.out.2.2.2 (by omega)
      have y0 := IK.one hat hy
      have HX := Lib.hid hy
      clear hy hat
      by_cases hq : y < 0
      · go_wp2_with fail
        go_ret
        exact ⟨by rw [all_falseC HX.out (by simp; omega)]; rfl, HB.out⟩
      · go_wp2_with fail
        go_roundw
        case rel => exact ⟨k + 1, by go_num, by omega, Lib.hid (noneTo_step HN.out HX.out (by simp; omega)), by first | rfl | trivial⟩
        case measure => simp [intOf]; omega
    · obtain rfl : k = l.length := by omega
      have HA := Lib.hid (all_trueC HN.out)
      by_cases h1 : 0 ≤ t
      · by_cases h2 : t ≤ 200
        · go_wp2_with fail
          go_ret
          exact ⟨by rw [HA.out, decide_eq_true ⟨h1, h2⟩]; first | rfl | simp [*], HB.out⟩
        · go_wp2_with fail
          go_ret
          exact ⟨by rw [HA.out, decide_eq_false (by omega)]; first | rfl | simp [*], HB.out⟩
      · go_wp2_with fail
        go_ret
        exact ⟨by rw [HA.out, decide_eq_false (by omega)]; first | rfl | simp [*], HB.out⟩
end Go.Proofs.YtciohjgcndgiaaaGreatDoor

set_option linter.unusedSimpArgs false
set_option linter.unusedVariables false
namespace Go.Proofs.YtciohjgcndgiaaaGreatDoor
open Go.RowKit Go.Proofs.YtciohjgcndgiaaaGreatDoor.Kind

inductive Pt where
  | z (x : Zv)
  | f (x : Fv)
def Zv.v (x : Zv) : Value := .agg #[.string x.name, .slice x.h.a x.h.n x.h.c]
def Fv.v (x : Fv) : Value := .agg #[.int .i8 x.ad.f, .int .u16 x.ad.g0, .int .u16 x.ad.g1, .int .u16 x.ad.g2, .int .u16 x.ad.g3, .int .u16 x.ad.g4, .int .u16 x.ad.g5, .int .u16 x.ad.g6, .int .u16 x.ad.g7, .int .i64 x.ad.p, .slice x.h.a x.h.n x.h.c]
def Pt.v : Pt → Value
  | .z x => .iface 55 x.v
  | .f x => .iface 62 x.v
def PK : Kind Tryz.prog Pt where
  enc := fun x => [x.v]
  k := 1
  T := 116
  S := 84
  z := .nilIface
  bytes := 16
  hk := fun _ => rfl
  h1 := by
    intro x v hv
    simp only [List.mem_cons, List.not_mem_nil, or_false] at hv
    subst hv
    cases x <;> rfl
  hu := Tryz.underlying84
  hi := by kernel_rfl
  hz := rfl
  hk0 := by decide
  hb := by decide
theorem PK.one {w : World} {b o : Nat} {l : List Pt} (h : PK.At w b o l) {j : Nat} {x : Pt} (hx : l[j]? = some x) : w.cell? ⟨b, o + j, none⟩ = some x.v := by
  have h1 := h j x hx 0 _ rfl
  have e : o + j * PK.k + 0 = o + j := by show o + j * 1 + 0 = o + j; omega
  rwa [e] at h1

theorem cells2 {w : World} {g : Nat} {x y : Value} {t : TypeId} (h : w.heap[g]? = some (.cells #[x, y] t (0, 0))) : w.cell? ⟨g, 0, none⟩ = some x ∧ w.cell? ⟨g, 1, none⟩ = some y := by
  simp [World.cell?, h]
theorem take_nextC {α : Type} {l : List α} {k : Nat} {x : α} (hx : l[k]? = some x) : l.take (k + 1) = l.take k ++ [x] := by rw [List.take_add_one, hx]; rfl
theorem map_take_next {α β : Type} (f : α → β) {l : List α} {k : Nat} {x : α} (hx : l[k]? = some x) : (l.take (k + 1)).map f = (l.take k).map f ++ [f x] := by rw [take_nextC hx]; simp

set_option maxHeartbeats 8000000 in
set_option maxRecDepth 1000000 in
theorem parts_any (P : Pl) (v : Pv) (zs : List Zv) (fs : List Fv) (w : World) (hz : ZK.RowC w v.za v.zc zs) (hf : FK.RowC w v.fa v.fc fs) (hzl : P.zones.length = zs.length) (hfl : P.fates.length = fs.length) (hz8 : zs.length ≤ 8) (hf32 : fs.length ≤ 32) :
    Calls Tryz.prog 31 #[v.val P] w fun e w' => ∃ a c, e = .returned (.slice a (zs.map Pt.z ++ fs.map Pt.f).length c) ∧ PK.RowC w' a c (zs.map Pt.z ++ fs.map Pt.f) ∧ Below w.heap.size w w' := by
  obtain ⟨za, zc, fa, fc, da, dc⟩ := v
  obtain ⟨Zs, Fs, t, ds⟩ := P
  simp only [Pv.val]
  dsimp only at hz hf hzl hfl
  rw [hzl, hfl]
  clear hzl hfl
  obtain ⟨o1, ho1⟩ : ∃ o1 : Obj, o1 = .cells #[.slice za zs.length zc, .slice fa fs.length fc, .int .i64 t, .slice da ds.length dc] 26 := ⟨_, rfl⟩
  have HB := Lib.hid (below1 w o1)
  have HL := Lib.hid (laid1 w o1)
  have HZ := Lib.hid (hz.below (below1 w o1))
  have HF := Lib.hid (hf.below (below1 w o1))
  rw [ho1] at HB HL HZ HF
  clear ho1 hz hf
  obtain ⟨W1, hW1⟩ : ∃ W1, W1 = w.alloc (.cells #[.slice za zs.length zc, .slice fa fs.length fc, .int .i64 t, .slice da ds.length dc] 26) := ⟨_, rfl⟩
  have hN : W1.heap.size = w.heap.size + 1 := by rw [hW1]; simp
  rw [← hW1] at HB HL HZ HF
  go_enter Tryz.func31, Tryz.ntmps31
  go_upto_region 1 with fail
  rw [← hW1]
  clear hW1
  obtain ⟨⟨x0, x1, x2, x3⟩, _⟩ := box4 HL.out
  go_wp2_with fail
  go_loopw [3, 11] (fun r i wr => ∃ (k : Nat) (a : Option Addr) (c : Nat), r = .slice a k c ∧ i = .int .i64 k ∧ k ≤ zs.length ∧ PK.Dst wr W1.heap.size (.slice a k c) ((zs.take k).map Pt.z) ∧ Below W1.heap.size W1 wr) (fun _ i _ => zs.length - (intOf i).toNat)
  case atStart => exact ⟨0, none, 0, rfl, rfl, by omega, dst_nil _ _, Below.refl _ _⟩
  case round =>
    obtain ⟨k, a, c, rfl, rfl, hk, hd, hb⟩ := hrel
    have HD := Lib.hid hd
    have HBr := Lib.hid hb
    have hbs := hb.size
    clear hd hb
    by_cases hki : k < zs.length
    · obtain ⟨x, hx⟩ : ∃ x, zs[k]? = some x := ⟨_, List.getElem?_eq_getElem hki⟩
      obtain ⟨b, o, rfl, hbl, hat⟩ := HZ.out.2.2.2 (by omega)
      obtain ⟨y0, y1⟩ := ZK.two (hat.below HBr.out hbl) hx
      have HX := Lib.hid hx
      clear hx hat
      have hln : ((zs.take k).map Pt.z ++ [Pt.z x]).length = k + 1 := by simp; omega
      have HMT := Lib.hid (map_take_next Pt.z HX.out)
      go_wp2_with (at_builtin; refine PK.wpList_append_rows rfl _ _ rfl W1.heap.size (.slice a k c) rfl ((zs.take k).map Pt.z) (HD.out.below (below2 wr _ _) (Nat.le_refl _)) (some ⟨wr.heap.size + 1, 0, none⟩) 1 1 rfl [Pt.z x] rfl (rowC_at (K := PK) _ 116 [Pt.z x] _ _ 1 (by simp) rfl rfl (by simp)) (by simp; omega) (by simp; omega) ?_; intro a1 c1 w2 hD hM hB; rw [hln] at hD ⊢; have HD2 := Lib.hid hD; have HB2 := Lib.hid (HBr.out.trans (((below2 wr _ _).mono hbs).trans hB)); clear hD hM hB)
      go_roundw
      case rel => exact ⟨k + 1, a1, c1, rfl, by go_num, by omega, by rw [HMT.out]; exact HD2.out, HB2.out⟩
      case measure => simp [intOf]; omega
    · obtain rfl : k = zs.length := by omega
      have HD0 := Lib.hid (show PK.Dst wr W1.heap.size (.slice a zs.length c) (zs.map Pt.z) by have := HD.out; rwa [List.take_of_length_le (Nat.le_refl _)] at this)
      have hlt : w.heap.size < W1.heap.size := by omega
      have HL2 := Lib.hid ((HBr.out.block w.heap.size hlt).trans HL.out)
      clear x0 x1 x2 x3 HD
      obtain ⟨⟨x0, x1, x2, x3⟩, _⟩ := box4 HL2.out
      obtain ⟨w3, hw3⟩ : ∃ w3 : World, w3 = wr := ⟨_, rfl⟩
      go_wp2_with fail
      go_loopw [3, 24] (fun r i wr' => ∃ (k a c : _) (hk : k ≤ fs.length), r = .slice a (zs.length + k) c ∧ i = .int .i64 (k : Nat) ∧ PK.Dst wr' W1.heap.size (.slice a (zs.length + k) c) (zs.map Pt.z ++ (fs.take k).map Pt.f) ∧ Below W1.heap.size W1 wr') (fun _ i _ => fs.length - (intOf i).toNat)
      case atStart => exact ⟨0, a, c, by omega, by simp, rfl, by simpa using HD0.out, HBr.out⟩
      case round =>
        obtain ⟨k, a, c, hk, rfl, rfl, hd, hb⟩ := hrel
        have HD := Lib.hid hd
        have HBr := Lib.hid hb
        have hbs := hb.size
        clear hd hb
        by_cases hki : k < fs.length
        · obtain ⟨x, hx⟩ : ∃ x, fs[k]? = some x := ⟨_, List.getElem?_eq_getElem hki⟩
          obtain ⟨b, o, rfl, hbl, hat⟩ := HF.out.2.2.2 (by omega)
          obtain ⟨⟨y0, y1, y2, y3, y4, y5⟩, y6, y7, y8, y9, y10⟩ := FK.row11C (hat.below HBr.out hbl) hx
          have HX := Lib.hid hx
          have HMT := Lib.hid (map_take_next Pt.f hx)
          clear hx hat
          have hln : ((zs.map Pt.z ++ (fs.take k).map Pt.f) ++ [Pt.f x]).length = zs.length + (k + 1) := by simp; omega
          go_wp2_with (at_builtin; refine PK.wpList_append_rows rfl _ _ rfl W1.heap.size (.slice a (zs.length + k) c) rfl (zs.map Pt.z ++ (fs.take k).map Pt.f) (HD.out.below (below2 wr _ _) (Nat.le_refl _)) (some ⟨wr.heap.size + 1, 0, none⟩) 1 1 rfl [Pt.f x] rfl (rowC_at (K := PK) _ 116 [Pt.f x] _ _ 1 (by simp) rfl rfl (by simp)) (by simp; omega) (by simp; omega) ?_; intro a1 c1 w2 hD hM hB; rw [hln] at hD ⊢; have HD2 := Lib.hid hD; have HB2 := Lib.hid (HBr.out.trans (((below2 wr _ _).mono hbs).trans hB)); clear hD hM hB)
          go_roundw
          case rel => exact ⟨k + 1, a1, c1, by omega, rfl, by go_num, by rw [HMT.out, ← List.append_assoc]; exact HD2.out, HB2.out⟩
          case measure => simp [intOf]; omega
        · obtain rfl : k = fs.length := by omega
          go_wp2_with fail
          go_ret
          have h1 := HD.out
          rw [List.take_of_length_le (Nat.le_refl _)] at h1
          obtain ⟨a2, c2, e, hm⟩ := h1.mine
          injection e with e1 e2 e3
          subst e1 e3
          exact ⟨a, c, by simp, hm.row, HB.out.trans (HBr.out.mono (by omega))⟩
end Go.Proofs.YtciohjgcndgiaaaGreatDoor

set_option linter.unusedSimpArgs false
set_option linter.unusedVariables false
namespace Go.Proofs.YtciohjgcndgiaaaGreatDoor
open Go.RowKit Go.Proofs.YtciohjgcndgiaaaGreatDoor.Kind

def hasB {α : Type} [DecidableEq α] (x : α) (l : List α) : Bool := decide (x ∈ l)
theorem hasB_true {α : Type} [DecidableEq α] {x : α} {l : List α} (h : x ∈ l) : hasB x l = true := decide_eq_true h
theorem hasB_false {α : Type} [DecidableEq α] {x : α} {l : List α} (h : ¬ x ∈ l) : hasB x l = false := decide_eq_false h
theorem idxI_has {α : Type} [DecidableEq α] (x : α) (l : List α) : decide (0 ≤ idxI (fun y => decide (x = y)) l) = hasB x l := by
  unfold hasB
  rcases idx_cases (fun y => decide (x = y)) l with ⟨h1, h2⟩ | ⟨k, z, h1, h2, h3⟩
  · rw [h1]
    have : x ∉ l := fun hx => by
      have := List.find?_eq_none.1 h2 x hx
      simp at this
    simp [this]
  · rw [h1]
    have h4 := List.find?_some h3
    have h5 : x = z := by simpa using h4
    have : x ∈ l := by rw [h5]; exact List.mem_of_find?_eq_some h3
    simp [this]
theorem nodup_yes {α : Type} [DecidableEq α] {l : List α} {k : Nat} {x : α} (hx : l[k]? = some x) (hn : x ∉ l.take k) (h : (l.take k).Nodup) : (l.take (k + 1)).Nodup := by
  have : l.take (k + 1) = l.take k ++ [x] := by rw [List.take_add_one, hx]; rfl
  rw [this, List.nodup_append]
  refine ⟨h, by simp, fun a ha b hb => ?_⟩
  simp at hb
  subst hb
  rintro rfl
  exact hn ha
theorem nodup_no {α : Type} [DecidableEq α] {l : List α} {k : Nat} {x : α} (hx : l[k]? = some x) (hn : x ∈ l.take k) : decide l.Nodup = false := by
  rw [decide_eq_false_iff_not]
  intro h
  have e : l = l.take k ++ l.drop k := (List.take_append_drop k l).symm
  rw [e, List.nodup_append] at h
  have hd : x ∈ l.drop k := by
    have := List.mem_of_getElem? (l := l.drop k) (i := 0) (a := x) (by rw [List.getElem?_drop]; simpa using hx)
    exact this
  exact h.2.2 x hn x hd rfl

set_option maxHeartbeats 4000000 in
set_option maxRecDepth 1000000 in
theorem index_text (x : ByteArray) (l : List ByteArray) (m : Nat) (hm : m = l.length) (a : Option Addr) (c : Nat) (w : World) (hR : TK.RowC w a c l) :
    Calls Tryz.prog 92 #[.slice a m c, .string x] w fun e w' => e = .returned (.int .i64 (idxI (fun y => decide (x = y)) l)) ∧ w = w' := by
  subst hm
  have hlen : (l.length : Int) ≤ 9223372036854775807 := len_intC _ (Nat.le_trans hR.1 hR.2.1)
  have HR := Lib.hid hR
  clear hR
  go_enter Tryz.func92, Tryz.ntmps92
  go_wp2_with fail
  go_loopw [4, 8] (fun r i wr => ∃ k : Nat, r = .int .i64 0 ∧ i = .int .i64 k ∧ k ≤ l.length ∧ Hid (NoneTo (fun y => decide (x = y)) l k) ∧ w = wr) (fun _ i _ => l.length - (intOf i).toNat)
  case atStart => exact ⟨0, rfl, rfl, by omega, Lib.hid (noneTo_zero _ _), by first | rfl | trivial⟩
  case round =>
    obtain ⟨k, rfl, rfl, hk, hn, rfl⟩ := hrel
    have HN := Lib.hid hn.out
    clear hn
    by_cases hki : k < l.length
    · obtain ⟨y, hy⟩ : ∃ y, l[k]? = some y := ⟨_, List.getElem?_eq_getElem hki⟩
      obtain ⟨b, o, rfl, hbl, hat⟩ := HR.out.2.2.2 (by omega)
      have y0 := TK.one hat hy
      have HX := Lib.hid hy
      clear hy hat
      by_cases hq : x = y
      · have hd : decide (x = y) = true := decide_eq_true hq
        have he : (x.toList == y.toList) = true := by rw [text_eq]; exact hd
        have HD := Lib.hid hd
        clear hd hq
        go_wp2_with fail
        go_ret
        exact ⟨by rw [idxI_at HX.out HD.out HN.out]; rfl, rfl⟩
      · have hd : decide (x = y) = false := decide_eq_false hq
        have he : (x.toList == y.toList) = false := by rw [text_eq]; exact hd
        have HD := Lib.hid hd
        clear hd hq
        go_wp2_with fail
        go_roundw
        case rel => exact ⟨k + 1, rfl, by go_num, by omega, Lib.hid (noneTo_step HN.out HX.out HD.out), by first | rfl | trivial⟩
        case measure => simp [intOf]; omega
    · obtain rfl : k = l.length := by omega
      go_wp2_with fail
      go_ret
      exact ⟨by rw [idxI_none HN.out]; rfl, rfl⟩

set_option maxHeartbeats 4000000 in
set_option maxRecDepth 1000000 in
theorem has_text (x : ByteArray) (l : List ByteArray) (m : Nat) (hm : m = l.length) (a : Option Addr) (c : Nat) (w : World) (hR : TK.RowC w a c l) :
    Calls Tryz.prog 80 #[.slice a m c, .string x] w fun e w' => e = .returned (.bool (hasB x l)) ∧ w = w' := by
  have HC := Lib.hid (index_text x l m hm a c w hR)
  rw [← idxI_has]
  clear hR hm
  go_enter Tryz.func80, Tryz.ntmps80
  go_wp2_with fail
  with_reducible refine HC.out.mono ?_
  rintro e w1 ⟨rfl, rfl⟩
  go_wp2_with fail
  go_ret
  exact ⟨rfl, rfl⟩

set_option maxHeartbeats 4000000 in
set_option maxRecDepth 1000000 in
theorem unlike_texts (l : List ByteArray) (m : Nat) (hm : m = l.length) (a : Option Addr) (c : Nat) (w : World) (hR : TK.RowC w a c l) :
    Calls Tryz.prog 60 #[.slice a m c] w fun e w' => e = .returned (.bool (decide l.Nodup)) ∧ w = w' := by
  subst hm
  have hlen : (l.length : Int) ≤ 9223372036854775807 := len_intC _ (Nat.le_trans hR.1 hR.2.1)
  have hcap := hR.1
  have HR := Lib.hid hR
  clear hR
  go_enter Tryz.func60, Tryz.ntmps60
  go_wp2_with fail
  go_loopw [7] (fun i wr => ∃ k : Nat, i = .int .i64 k ∧ k ≤ l.length ∧ Hid ((l.take k).Nodup) ∧ w = wr) (fun i _ => l.length - (intOf i).toNat)
  case atStart => exact ⟨0, rfl, by omega, Lib.hid (by simp), by first | rfl | trivial⟩
  case round =>
    obtain ⟨k, rfl, hk, hn, rfl⟩ := hrel
    have HN := Lib.hid hn.out
    clear hn
    by_cases hki : k < l.length
    · obtain ⟨y, hy⟩ : ∃ y, l[k]? = some y := ⟨_, List.getElem?_eq_getElem hki⟩
      have HC := Lib.hid (fun a' ha => has_text y (l.take k) k (by simp; omega) a' c w (HR.out.take k (by omega) ha))
      obtain ⟨b, o, rfl, hbl, hat⟩ := HR.out.2.2.2 (by omega)
      have y0 := TK.one hat hy
      have HX := Lib.hid hy
      clear hy hat
      go_wp2_with fail
      with_reducible refine (HC.out _ rfl).mono ?_
      rintro e w1 ⟨rfl, rfl⟩
      by_cases hq : y ∈ l.take k
      · rw [hasB_true hq]
        have HQ := Lib.hid hq
        clear hq HC
        go_wp2_with fail
        go_ret
        exact ⟨by rw [nodup_no HX.out HQ.out]; rfl, rfl⟩
      · rw [hasB_false hq]
        have HQ := Lib.hid hq
        clear hq HC
        go_wp2_with fail
        go_roundw
        case rel => exact ⟨k + 1, by go_num, by omega, Lib.hid (nodup_yes HX.out HQ.out HN.out), by first | rfl | trivial⟩
        case measure => simp [intOf]; omega
    · obtain rfl : k = l.length := by omega
      go_wp2_with fail
      go_ret
      have := HN.out
      rw [List.take_of_length_le (Nat.le_refl _)] at this
      exact ⟨by rw [decide_eq_true this]; rfl, rfl⟩
end Go.Proofs.YtciohjgcndgiaaaGreatDoor

set_option linter.unusedSimpArgs false
set_option linter.unusedVariables false
namespace Go.Proofs.YtciohjgcndgiaaaGreatDoor
open Go.RowKit Go.Proofs.YtciohjgcndgiaaaGreatDoor.Kind

set_option maxHeartbeats 4000000 in
set_option maxRecDepth 1000000 in
theorem index_ad (x : Ad) (l : List Ad) (m : Nat) (hm : m = l.length) (a : Option Addr) (c : Nat) (w : World) (hR : AK.RowC w a c l) :
    Calls Tryz.prog 93 #[.slice a m c, .agg #[.int .i8 x.f, .int .u16 x.g0, .int .u16 x.g1, .int .u16 x.g2, .int .u16 x.g3, .int .u16 x.g4, .int .u16 x.g5, .int .u16 x.g6, .int .u16 x.g7, .int .i64 x.p]] w fun e w' => e = .returned (.int .i64 (idxI (fun y => decide (x = y)) l)) ∧ Below w.heap.size w w' := by
  subst hm
  have hlen : (l.length : Int) ≤ 9223372036854775807 := len_intC _ (Nat.le_trans hR.1 hR.2.1)
  obtain ⟨o1, ho1⟩ : ∃ o1 : Obj, o1 = .cells #[.int .i8 x.f, .int .u16 x.g0, .int .u16 x.g1, .int .u16 x.g2, .int .u16 x.g3, .int .u16 x.g4, .int .u16 x.g5, .int .u16 x.g6, .int .u16 x.g7, .int .i64 x.p] 59 := ⟨_, rfl⟩
  have HR := Lib.hid (hR.below (below1 w o1))
  have HB1 := Lib.hid (below1 w o1)
  have HL1 := Lib.hid (laid1 w o1)
  rw [ho1] at HR HB1 HL1
  clear hR ho1
  obtain ⟨W1, hW1⟩ : ∃ W1, W1 = w.alloc (.cells #[.int .i8 x.f, .int .u16 x.g0, .int .u16 x.g1, .int .u16 x.g2, .int .u16 x.g3, .int .u16 x.g4, .int .u16 x.g5, .int .u16 x.g6, .int .u16 x.g7, .int .i64 x.p] 59) := ⟨_, rfl⟩
  have hN : W1.heap.size = w.heap.size + 1 := by rw [hW1]; simp
  rw [← hW1] at HR HB1 HL1
  go_enter Tryz.func93, Tryz.ntmps93
  go_upto_region 1 with fail
  rw [← hW1]
  clear hW1
  go_wp2_with fail
  go_loopw [4, 8] (fun r i wr => ∃ k : Nat, r = .int .i64 0 ∧ i = .int .i64 k ∧ k ≤ l.length ∧ Hid (NoneTo (fun y => decide (x = y)) l k) ∧ Below W1.heap.size W1 wr) (fun _ i _ => l.length - (intOf i).toNat)
  case atStart => exact ⟨0, rfl, rfl, by omega, Lib.hid (noneTo_zero _ _), Below.refl _ _⟩
  case round =>
    obtain ⟨k, rfl, rfl, hk, hn, hb⟩ := hrel
    have HN := Lib.hid hn.out
    have HB := Lib.hid hb
    clear hn hb
    by_cases hki : k < l.length
    · obtain ⟨y, hy⟩ : ∃ y, l[k]? = some y := ⟨_, List.getElem?_eq_getElem hki⟩
      obtain ⟨b, o, rfl, hbl, hat⟩ := HR.out.2.2.2 (by omega)
      obtain ⟨⟨y0, y1, y2, y3, y4⟩, y5, y6, y7, y8, y9⟩ := AK.ten (hat.below HB.out hbl) hy
      obtain ⟨⟨x0, x1, x2, x3, x4⟩, x5, x6, x7, x8, x9⟩ := box10 ((HB.out.block w.heap.size (by omega)).trans HL1.out)
      have hE := eql_adC x y
      have hG := guard_ad
      have HX := Lib.hid hy
      clear hy hat
      by_cases hq : x = y
      · have hd : decide (x = y) = true := decide_eq_true hq
        rw [hd] at hE
        have HD := Lib.hid hd
        clear hd hq
        go_upto_region 4 with fail
        go_quiet (fail)
        go_wp2_with fail
        go_ret
        exact ⟨by rw [idxI_at HX.out HD.out HN.out]; rfl, HB1.out.trans ((below_drewN HB.out _).mono (by omega))⟩
      · have hd : decide (x = y) = false := decide_eq_false hq
        rw [hd] at hE
        have HD := Lib.hid hd
        clear hd hq
        go_upto_region 4 with fail
        go_quiet (fail)
        go_wp2_with fail
        go_roundw
        case rel => exact ⟨k + 1, rfl, by go_num, by omega, Lib.hid (noneTo_step HN.out HX.out HD.out), below_drewN HB.out _⟩
        case measure => simp [intOf]; omega
    · obtain rfl : k = l.length := by omega
      go_wp2_with fail
      go_ret
      exact ⟨by rw [idxI_none HN.out]; rfl, HB1.out.trans (HB.out.mono (by omega))⟩

set_option maxHeartbeats 4000000 in
set_option maxRecDepth 1000000 in
theorem has_adC (x : Ad) (l : List Ad) (m : Nat) (hm : m = l.length) (a : Option Addr) (c : Nat) (w : World) (hR : AK.RowC w a c l) :
    Calls Tryz.prog 81 #[.slice a m c, .agg #[.int .i8 x.f, .int .u16 x.g0, .int .u16 x.g1, .int .u16 x.g2, .int .u16 x.g3, .int .u16 x.g4, .int .u16 x.g5, .int .u16 x.g6, .int .u16 x.g7, .int .i64 x.p]] w fun e w' => e = .returned (.bool (hasB x l)) ∧ Below w.heap.size w w' := by
  obtain ⟨o1, ho1⟩ : ∃ o1 : Obj, o1 = .cells #[.int .i8 x.f, .int .u16 x.g0, .int .u16 x.g1, .int .u16 x.g2, .int .u16 x.g3, .int .u16 x.g4, .int .u16 x.g5, .int .u16 x.g6, .int .u16 x.g7, .int .i64 x.p] 59 := ⟨_, rfl⟩
  have HC := Lib.hid (index_ad x l m hm a c (w.alloc o1) (hR.below (below1 w o1)))
  have HB1 := Lib.hid (below1 w o1)
  rw [ho1] at HC HB1
  rw [← idxI_has]
  clear hR hm ho1
  go_enter Tryz.func81, Tryz.ntmps81
  go_wp2_with fail
  with_reducible refine HC.out.mono ?_
  rintro e w1 ⟨rfl, hb1⟩
  have HB2 := Lib.hid (HB1.out.trans (hb1.mono (by simp)))
  clear hb1
  go_wp2_with fail
  go_ret
  exact ⟨rfl, HB2.out⟩

set_option maxHeartbeats 8000000 in
set_option maxRecDepth 1000000 in
theorem unlike_ads (l : List Ad) (m : Nat) (hm : m = l.length) (a : Option Addr) (c : Nat) (w : World) (hR : AK.RowC w a c l) :
    Calls Tryz.prog 61 #[.slice a m c] w fun e w' => e = .returned (.bool (decide l.Nodup)) ∧ Below w.heap.size w w' := by
  subst hm
  have hlen : (l.length : Int) ≤ 9223372036854775807 := len_intC _ (Nat.le_trans hR.1 hR.2.1)
  have hcap := hR.1
  have HR := Lib.hid hR
  clear hR
  go_enter Tryz.func61, Tryz.ntmps61
  go_wp2_with fail
  go_loopw [7] (fun i wr => ∃ k : Nat, i = .int .i64 k ∧ k ≤ l.length ∧ Hid ((l.take k).Nodup) ∧ Below w.heap.size w wr) (fun i _ => l.length - (intOf i).toNat)
  case atStart => exact ⟨0, rfl, by omega, Lib.hid (by simp), Below.refl _ _⟩
  case round =>
    obtain ⟨k, rfl, hk, hn, hb⟩ := hrel
    have HN := Lib.hid hn.out
    have HB := Lib.hid hb
    clear hn hb
    by_cases hki : k < l.length
    · obtain ⟨y, hy⟩ : ∃ y, l[k]? = some y := ⟨_, List.getElem?_eq_getElem hki⟩
      obtain ⟨b, o, rfl, hbl, hat⟩ := HR.out.2.2.2 (by omega)
      obtain ⟨⟨y0, y1, y2, y3, y4⟩, y5, y6, y7, y8, y9⟩ := AK.ten (hat.below HB.out hbl) hy
      have HX := Lib.hid hy
      clear hy hat
      go_upto_region 4 with fail
      obtain ⟨o1, ho1⟩ : ∃ o1 : Obj, o1 = .cells #[.int .i8 y.f, .int .u16 y.g0, .int .u16 y.g1, .int .u16 y.g2, .int .u16 y.g3, .int .u16 y.g4, .int .u16 y.g5, .int .u16 y.g6, .int .u16 y.g7, .int .i64 y.p] 59 := ⟨_, rfl⟩
      have HB2 := Lib.hid (HB.out.trans ((below1 wr o1).mono HB.out.size))
      have HL1 := Lib.hid (laid1 wr o1)
      rw [ho1] at HB2 HL1
      clear ho1
      obtain ⟨W1, hW1⟩ : ∃ W1, W1 = wr.alloc (.cells #[.int .i8 y.f, .int .u16 y.g0, .int .u16 y.g1, .int .u16 y.g2, .int .u16 y.g3, .int .u16 y.g4, .int .u16 y.g5, .int .u16 y.g6, .int .u16 y.g7, .int .i64 y.p] 59) := ⟨_, rfl⟩
      have hN1 : W1.heap.size = wr.heap.size + 1 := by rw [hW1]; simp
      rw [← hW1] at HB2 HL1
      try rw [← hW1]
      clear hW1
      have hsz1 : W1.heap.size = wr.heap.size + 1 := hN1
      have HS := Lib.hid (show ∀ W' : World, Below W1.heap.size W1 W' → (((W'.cell? ⟨wr.heap.size, 0, none⟩ = some (.int .i8 y.f) ∧ W'.cell? ⟨wr.heap.size, 1, none⟩ = some (.int .u16 y.g0) ∧ W'.cell? ⟨wr.heap.size, 2, none⟩ = some (.int .u16 y.g1) ∧ W'.cell? ⟨wr.heap.size, 3, none⟩ = some (.int .u16 y.g2) ∧ W'.cell? ⟨wr.heap.size, 4, none⟩ = some (.int .u16 y.g3)) ∧ W'.cell? ⟨wr.heap.size, 5, none⟩ = some (.int .u16 y.g4) ∧ W'.cell? ⟨wr.heap.size, 6, none⟩ = some (.int .u16 y.g5) ∧ W'.cell? ⟨wr.heap.size, 7, none⟩ = some (.int .u16 y.g6) ∧ W'.cell? ⟨wr.heap.size, 8, none⟩ = some (.int .u16 y.g7) ∧ W'.cell? ⟨wr.heap.size, 9, none⟩ = some (.int .i64 y.p)) ∧ Below W1.heap.size W1 W') from fun W' hb => ⟨box10 ((hb.block wr.heap.size (by omega)).trans HL1.out), hb⟩)
      have HC := Lib.hid (fun (W : World) (h : Below W1.heap.size W1 W) => has_adC y (l.take k) k (by simp; omega) (some ⟨b, o, none⟩) c W (((HR.out.take k (by omega) rfl).below HB2.out).below h))
      have HB0 := Lib.hid (Below.refl W1.heap.size W1)
      have hk0 : (0 : Int) ≤ (k : Int) := by omega
      have hkc : (k : Int) ≤ (c : Int) := by omega
      have hkl : (k : Int) ≤ (l.length : Int) := by omega
      clear y0 y1 y2 y3 y4 y5 y6 y7 y8 y9
      go_region_held3 (fun W' => ((W'.cell? ⟨wr.heap.size, 0, none⟩ = some (.int .i8 y.f) ∧ W'.cell? ⟨wr.heap.size, 1, none⟩ = some (.int .u16 y.g0) ∧ W'.cell? ⟨wr.heap.size, 2, none⟩ = some (.int .u16 y.g1) ∧ W'.cell? ⟨wr.heap.size, 3, none⟩ = some (.int .u16 y.g2) ∧ W'.cell? ⟨wr.heap.size, 4, none⟩ = some (.int .u16 y.g3)) ∧ W'.cell? ⟨wr.heap.size, 5, none⟩ = some (.int .u16 y.g4) ∧ W'.cell? ⟨wr.heap.size, 6, none⟩ = some (.int .u16 y.g5) ∧ W'.cell? ⟨wr.heap.size, 7, none⟩ = some (.int .u16 y.g6) ∧ W'.cell? ⟨wr.heap.size, 8, none⟩ = some (.int .u16 y.g7) ∧ W'.cell? ⟨wr.heap.size, 9, none⟩ = some (.int .i64 y.p)) ∧ Below W1.heap.size W1 W')
        (first | assumption | exact HS.out _ HB0.out | exact HS.out _ HB0.out.drew | exact HS.out _ HB0.out.drew.drew | exact HS.out _ HB3.out)
        (first | (go_at_call 81; with_reducible refine (HC.out _ (kept_self (by assumption))).mono ?_; rintro e w2 ⟨rfl, hb2⟩; have HB3 := Lib.hid (kept_call (by assumption) hb2)))
      have HB4 := Lib.hid (HB2.out.trans (HB3.out.mono HB2.out.size))
      by_cases hq : y ∈ l.take k
      · rw [hasB_true hq]
        have HQ := Lib.hid hq
        clear hq HC
        go_wp2_with fail
        go_ret
        exact ⟨by rw [nodup_no HX.out HQ.out]; rfl, by first | exact HB4.out | exact below_drewN HB4.out _ | exact HB4.out.drew⟩
      · rw [hasB_false hq]
        have HQ := Lib.hid hq
        clear hq HC
        go_wp2_with fail
        go_roundw
        case rel => exact ⟨k + 1, by go_num, by omega, Lib.hid (nodup_yes HX.out HQ.out HN.out), by first | exact HB4.out | exact below_drewN HB4.out _ | exact HB4.out.drew⟩
        case measure => simp [intOf]; omega
    · obtain rfl : k = l.length := by omega
      go_wp2_with fail
      go_ret
      have := HN.out
      rw [List.take_of_length_le (Nat.le_refl _)] at this
      exact ⟨by rw [decide_eq_true this]; rfl, HB.out⟩
end Go.Proofs.YtciohjgcndgiaaaGreatDoor

set_option linter.unusedSimpArgs false
set_option linter.unusedVariables false
namespace Go.Proofs.YtciohjgcndgiaaaGreatDoor
open Go.RowKit Go.Proofs.YtciohjgcndgiaaaGreatDoor.Kind

def gvA (a : Ad) : List Value := [.int .u16 a.g0, .int .u16 a.g1, .int .u16 a.g2, .int .u16 a.g3, .int .u16 a.g4, .int .u16 a.g5, .int .u16 a.g6, .int .u16 a.g7]
theorem eql_groups (w : World) (g0 g1 g2 g3 g4 g5 g6 g7 k0 k1 k2 k3 k4 k5 k6 k7 : Int) :
    (binOp .eql 57 (.agg #[.int .u16 g0, .int .u16 g1, .int .u16 g2, .int .u16 g3, .int .u16 g4, .int .u16 g5, .int .u16 g6, .int .u16 g7]) (.agg #[.int .u16 k0, .int .u16 k1, .int .u16 k2, .int .u16 k3, .int .u16 k4, .int .u16 k5, .int .u16 k6, .int .u16 k7])).run Tryz.prog w = .ok (.bool ([g0, g1, g2, g3, g4, g5, g6, g7] == [k0, k1, k2, k3, k4, k5, k6, k7])) w := by
  rw [run_eql_struct, show (10000 : Nat) = 9998 + 2 from rfl, equalIn_groups]
  rfl
theorem guard_groups (op : BinOp) (x y : Operand) (xs ys : Array Value) (w : World) : (eqGuard op 57 x y (.agg xs) (.agg ys)).run Tryz.prog w = .ok () w := run_eqGuard_agg w op _ x y xs ys (by kernel_rfl)

set_option maxHeartbeats 2000000 in
set_option maxRecDepth 100000 in
theorem mayGroups_any (a : Ad) (w : World) :
    Calls Tryz.prog 62 #[.int .i8 a.f, .agg (gvA a).toArray] w fun e w' => e = .returned (.bool (mayG a)) ∧ Below w.heap.size w w' := by
  obtain ⟨f, g0, g1, g2, g3, g4, g5, g6, g7, p⟩ := a
  simp only [gvA, mayG]
  have hE := eql_groups
  have hG := guard_groups
  cases h4 : (f == 4)
  · cases h6 : (f == 6)
    · go_enter Tryz.func62, Tryz.ntmps62
      go_wp2_with fail
      go_ret
      exact ⟨by simp_all, (Below.refl _ w).alloc (Nat.le_refl _) _⟩
    · go_enter Tryz.func62, Tryz.ntmps62
      go_wp2_with fail
      go_ret
      exact ⟨by simp_all, (Below.refl _ w).alloc (Nat.le_refl _) _⟩
  · go_enter Tryz.func62, Tryz.ntmps62
    go_wp2_with fail
    go_ret
    exact ⟨by simp_all [Bool.and_assoc], (Below.refl _ w).alloc (Nat.le_refl _) _⟩

theorem all_stepC (l : List Ad) (k : Nat) (a : Ad) (ha : l[k]? = some a) : (l.drop k).all mayP = (mayP a && (l.drop (k + 1)).all mayP) := by
  obtain ⟨h, e⟩ := List.getElem?_eq_some_iff.1 ha
  rw [List.drop_eq_getElem_cons h, e, List.all_cons]
theorem mayP_eqC (a : Ad) : mayP a = (mayG a && !(decide (a.p < 1)) && !(decide (65535 < a.p))) := by
  rw [mayP, Bool.eq_iff_iff]; simp

set_option maxHeartbeats 2000000 in
set_option maxRecDepth 100000 in
theorem may_any (l : List Ad) (m : Nat) (hm : m = l.length) (a0 : Option Addr) (c : Nat) (w : World) (hR : AK.RowC w a0 c l) :
    Calls Tryz.prog 38 #[.slice a0 m c] w fun e w' => e = .returned (.bool (l.all mayP)) ∧ Below w.heap.size w w' := by
  subst hm
  have hlen : (l.length : Int) ≤ 9223372036854775807 := len_intC _ (Nat.le_trans hR.1 hR.2.1)
  have HR := Lib.hid hR
  clear hR
  go_enter Tryz.func38, Tryz.ntmps38
  go_wp2_with fail
  go_loopw [7] (fun i wr => ∃ k : Nat, i = .int .i64 k ∧ k ≤ l.length ∧ Below w.heap.size w wr ∧ Hid ((l.drop k).all mayP = l.all mayP)) (fun i _ => l.length - (intOf i).toNat)
  case atStart => exact ⟨0, rfl, by omega, Below.refl _ _, Lib.hid rfl⟩
  case round =>
    obtain ⟨k, rfl, hk, hbw, hall⟩ := hrel
    have hbs := hbw.size
    by_cases hlt : k < l.length
    · obtain ⟨a, ha⟩ : ∃ a, l[k]? = some a := ⟨_, List.getElem?_eq_getElem hlt⟩
      obtain ⟨b, o, rfl, hb, hat⟩ := HR.out.2.2.2 (by omega)
      obtain ⟨⟨c0, c1, c2, c3, c4⟩, c5, c6, c7, c8, c9⟩ := AK.ten (hat.below hbw hb) ha
      have HS := Lib.hid (And.intro (all_stepC l k a ha) (mayP_eqC a))
      clear ha hat
      go_wp2_with fail
      have HC := mayGroups_any a (wr.alloc (.cells a.enc.toArray 59))
      simp only [gvA, Ad.enc] at HC
      with_reducible refine HC.mono ?_
      clear HC
      rintro e w1 ⟨rfl, hb1⟩
      have cp : w1.cell? ⟨wr.heap.size, 9, none⟩ = some (.int .i64 a.p) := (hb1.cell (p := ⟨wr.heap.size, 9, none⟩) (by simp)).trans (by simp [go_sem])
      have hb2 : Below w.heap.size w w1 := (hbw.alloc hbw.size _).trans (hb1.mono (by simp; omega))
      have hs1 := hb1.size
      simp at hs1
      generalize hg : mayG a = G at *
      have HG := Lib.hid hg
      clear hg hb1 c0 c1 c2 c3 c4 c5 c6 c7 c8 c9
      rcases (show (a.p < 1 ∧ ¬ 65535 < a.p) ∨ (¬ a.p < 1 ∧ 65535 < a.p) ∨ (¬ a.p < 1 ∧ ¬ 65535 < a.p) by omega) with ⟨h1, h2⟩ | ⟨h1, h2⟩ | ⟨h1, h2⟩ <;> cases G
      all_goals
        go_wp2_with fail
        first
          | (go_ret
             exact ⟨by rw [← hall.out, HS.out.1, HS.out.2]; simp [HG.out, h1, h2], hb2⟩)
          | (go_roundw
             case rel => exact ⟨k + 1, by go_num, by omega, hb2, Lib.hid (by rw [← hall.out, HS.out.1, HS.out.2]; simp [HG.out, h1, h2])⟩
             case measure => simp [intOf]; omega)
    · obtain rfl : k = l.length := by omega
      go_wp2_with fail
      go_ret
      exact ⟨by rw [← hall.out]; simp, hbw⟩
end Go.Proofs.YtciohjgcndgiaaaGreatDoor

