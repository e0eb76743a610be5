/- Answer. -/
import Derived.Test.YtciohjgcndgiaaaGreatDoorFind
import Derived.Lib.LazyBuf
set_option linter.unusedSimpArgs false
set_option linter.unusedVariables false
namespace Go.Proofs.YtciohjgcndgiaaaGreatDoor
open Go.RowKit Go.Proofs.YtciohjgcndgiaaaGreatDoor.Kind

def PAnswerSpec : Prop := ∀ (P : Pl) (v : Pv) (s : ByteArray) (n : Int) (w : World) (L : List Ad) (r : Int), Fits P → PlanC w v P → L = answerP P s n → r = answerE P s n →
  Calls Tryz.prog 53 #[v.val P, .string s, .int .i64 n] w fun e w' => ∃ a c, e = .returned (.tuple #[.slice a L.length c, .int .i64 r]) ∧ AK.RowC w' a c L ∧ Below w.heap.size w w'
set_option maxHeartbeats 2000000 in
set_option maxRecDepth 1000000 in
/-- The closure in Answer: is it this name's zone? -/
theorem zone_is (s : ByteArray) (z : Zv) (g : Nat) (t : TypeId) (w : World) (hg : w.heap[g]? = some (.cells #[.string s] t (0, 0))) :
    Calls Tryz.prog 71 #[.agg #[.string z.name, .slice z.h.a z.h.n z.h.c], .pointer (some ⟨g, 0, none⟩)] w fun e w' => e = .returned (.bool (decide (z.name = s))) ∧ Below w.heap.size w w' := by
  have c0 := (cell1 hg).1
  have hlt := lt_heap' hg
  have c1 : ∀ o, (w.alloc o).cell? ⟨g, 0, none⟩ = some (.string s) := fun o => ((below1 w o).cell hlt).trans c0
  go_enter Tryz.func71, Tryz.ntmps71
  go_wp2_with fail
  go_ret
  exact ⟨by rw [← text_eq]; rfl, below1 w _⟩


set_option maxHeartbeats 4000000 in
set_option maxRecDepth 1000000 in
theorem index_zone (s : ByteArray) (g : Nat) (t : TypeId) (zs : List Zv) (m : Nat) (hm : m = zs.length) (a : Option Addr) (c : Nat) (w : World) (hg : w.heap[g]? = some (.cells #[.string s] t (0, 0))) (hR : ZK.RowC w a c zs) :
    Calls Tryz.prog 70 #[.slice a m c, .func (.func 71) #[] #[.pointer (some ⟨g, 0, none⟩)]] w fun e w' => e = .returned (.int .i64 (idxI (fun z => decide (z.name = s)) zs)) ∧ Below w.heap.size w w' := by
  subst hm
  have hlen : (zs.length : Int) ≤ 9223372036854775807 := len_intC _ (Nat.le_trans hR.1 hR.2.1)
  have HR := Lib.hid hR
  have HG := Lib.hid hg
  have hlt := lt_heap' hg
  clear hR hg
  go_enter Tryz.func70, Tryz.ntmps70
  go_wp2_with fail
  go_loopw [4, 8] (fun r i wr => ∃ k : Nat, r = .int .i64 0 ∧ i = .int .i64 k ∧ k ≤ zs.length ∧ Hid (NoneTo (fun z : Zv => decide (z.name = s)) zs k) ∧ Below w.heap.size w wr) (fun _ i _ => zs.length - (intOf i).toNat)
  case atStart => exact ⟨0, rfl, rfl, by omega, Lib.hid (noneTo_zero _ _), Below.refl _ _⟩
  case round =>
    obtain ⟨k, rfl, rfl, hk, hn, hb⟩ := hrel
    have HN := Lib.hid hn.out
    have HB := Lib.hid hb
    have hbs := hb.size
    clear hn hb
    by_cases hki : k < zs.length
    · obtain ⟨x, hx⟩ : ∃ x, zs[k]? = some x := ⟨_, List.getElem?_eq_getElem hki⟩
      obtain ⟨b, o, rfl, hbl, hat⟩ := HR.out.2.2.2 (by omega)
      obtain ⟨y0, y1⟩ := ZK.two (hat.below HB.out hbl) hx
      have HC := Lib.hid (zone_is s x g t wr ((HB.out.block g hlt).trans HG.out))
      have HX := Lib.hid hx
      clear hx hat
      go_wp2_with fail
      with_reducible refine HC.out.mono ?_
      rintro e w1 ⟨rfl, hb1⟩
      have HB1 := Lib.hid (HB.out.trans (hb1.mono hbs))
      clear hb1 HC y0 y1
      by_cases hq : x.name = s
      · have hd : decide (x.name = s) = true := decide_eq_true hq
        rw [hd]
        go_wp2_with fail
        go_ret
        exact ⟨by rw [idxI_at HX.out hd HN.out]; rfl, HB1.out⟩
      · have hd : decide (x.name = s) = false := decide_eq_false hq
        rw [hd]
        go_wp2_with fail
        go_roundw
        case rel => exact ⟨k + 1, rfl, by go_num, by omega, Lib.hid (noneTo_step HN.out HX.out hd), HB1.out⟩
        case measure => simp [intOf]; omega
    · obtain rfl : k = zs.length := by omega
      go_wp2_with fail
      go_ret
      exact ⟨by rw [idxI_none HN.out]; rfl, HB.out⟩


set_option maxHeartbeats 2000000 in
set_option maxRecDepth 1000000 in
theorem nth_ans (n : Int) (hs : List Hv) (x : Hv) (a : Option Addr) (c : Nat) (w : World) (hR : HK.RowC w a c hs) (hx : hs[nthI n hs.length]? = some x) :
    Calls Tryz.prog 72 #[.slice a hs.length c, .int .i64 n] w fun e w' => e = .returned (.tuple #[.slice x.a x.n x.c, .bool true]) ∧ w = w' := by
  have hlen : (hs.length : Int) ≤ 9223372036854775807 := len_intC _ (Nat.le_trans hR.1 hR.2.1)
  have hlt := (List.getElem?_eq_some_iff.1 hx).1
  obtain ⟨m, hm⟩ : ∃ m, m = nthI n hs.length := ⟨_, rfl⟩
  rw [← hm] at hx hlt
  have hpos : 0 < hs.length := by omega
  obtain ⟨b, o, rfl, hbl, hat⟩ := hR.2.2.2 hpos
  have y0 := HK.one hat hx
  clear hat hR hx
  have hne : ¬ hs.length = 0 := by omega
  have hneI : ((hs.length : Int) == 0) = false := by simp; exact List.ne_nil_of_length_pos hpos
  generalize hs.length = L at *
  unfold nthI at hm
  by_cases h1 : n < 0
  · obtain rfl : m = 0 := by omega
    rw [Nat.add_zero] at y0
    clear hm
    go_enter Tryz.func72, Tryz.ntmps72
    go_wp2_with fail
    go_ret2
    exact ⟨by first | rfl | simp, rfl⟩
  · by_cases h2 : n ≤ (L : Int) - 1
    · obtain rfl : m = n.toNat := by omega
      clear hm
      go_enter Tryz.func72, Tryz.ntmps72
      go_wp2_with fail
      go_ret2
      exact ⟨by first | rfl | simp, rfl⟩
    · obtain rfl : m = L - 1 := by omega
      clear hm
      go_enter Tryz.func72, Tryz.ntmps72
      go_wp2_with fail
      go_ret2
      exact ⟨by first | rfl | simp, rfl⟩


set_option maxHeartbeats 2000000 in
set_option maxRecDepth 1000000 in
theorem nth_ans_none (n : Int) (a : Option Addr) (c : Nat) (w : World) :
    Calls Tryz.prog 72 #[.slice a 0 c, .int .i64 n] w fun e w' => e = .returned (.tuple #[.slice none 0 0, .bool false]) ∧ w = w' := by
  go_enter Tryz.func72, Tryz.ntmps72
  go_wp2_with fail
  go_ret2
  exact ⟨by first | rfl | simp, rfl⟩


set_option maxHeartbeats 2000000 in
set_option maxRecDepth 1000000 in
/-- slices.Clone of addresses. -/
theorem clone_ads (l : List Ad) (a : Option Addr) (c : Nat) (w : World) (hR : AK.RowC w a c l) (hl : l.length ≤ 4398046511104) :
    Calls Tryz.prog 34 #[.slice a l.length c] w fun e w' => ∃ a' c', e = .returned (.slice a' l.length c') ∧ AK.RowC w' a' c' l ∧ Below w.heap.size w w' := by
  have hq : ∀ (a : Option Addr) (n : Nat) (W : World), (binOp .eql 45 (.slice a n c) (.slice none 0 0)).run Tryz.prog W = .ok (.bool a.isNone) W := fun a n W => Go.run_eql_slice_nil W _ _ a n c Tryz.underlying45
  cases a with
  | none =>
    obtain rfl : c = 0 := hR.2.2.1 rfl
    obtain rfl : l = [] := List.length_eq_zero_iff.1 (by have := hR.1; omega)
    go_enter Tryz.func34, Tryz.ntmps34
    go_wp2_with fail
    go_ret
    exact ⟨none, 0, rfl, row_none _, Below.refl _ _⟩
  | some ad =>
    have HR := Lib.hid hR
    clear hR
    go_enter Tryz.func34, Tryz.ntmps34
    go_wp2_with (first | (at_builtin; refine wpList_append_rows_b AK rfl _ _ rfl w.heap.size _ rfl [] (dst_bare _ _ _) (some ad) l.length c rfl l rfl (HR.out.below (below1 w _)) (by show (0 + l.length) * 32 ≤ _; omega) (by simp; exact Nat.le_trans HR.out.1 HR.out.2.1) (by simp) ?_; intro a' c' w1 hD hM hB) | go_in)
    go_ret
    exact ⟨a', c', rfl, hM.row, (below1 w _).trans hB⟩

theorem none_at {α β : Type} {hs : List α} {L : List β} (h : hs.length = L.length) {k : Nat} {y : β} (hy : L[k]? = some y) : ∃ x, hs[k]? = some x := ⟨_, List.getElem?_eq_getElem (by have := (List.getElem?_eq_some_iff.1 hy).1; omega)⟩


set_option maxHeartbeats 8000000 in
set_option maxRecDepth 1000000 in
theorem answer_real : PAnswerSpec := by
  intro P v s n w L r hF hP hL hr
  obtain ⟨za, zc, fa, fc, da, dc⟩ := v
  obtain ⟨⟨zs, hz⟩, hfs, hdr⟩ := hP
  simp only [Pv.val]
  dsimp only at hz
  have hzl := hz.1
  have HZ := Lib.hid hz
  clear hz hfs hdr
  obtain ⟨o1, ho1⟩ : ∃ o1 : Obj, o1 = .cells #[.slice za P.zones.length zc, .slice fa P.fates.length fc, .int .i64 P.ticks, .slice da P.drops.length dc] 26 := ⟨_, rfl⟩
  obtain ⟨o2, ho2⟩ : ∃ o2 : Obj, o2 = .cells #[.string s] 9 := ⟨_, rfl⟩
  have HB2 := Lib.hid (below2 w o1 o2)
  have HI := Lib.hid (index_zone s (w.heap.size + 1) 9 zs P.zones.length hzl.symm za zc ((w.alloc o1).alloc o2) (by rw [(laid2 w o1 o2).2, ho2]) (HZ.out.2.1.below (below2 w o1 o2)))
  have hsame : idxI (fun z : Zv => decide (z.name = s)) zs = idxI (fun z : Zo => decide (z.name = s)) P.zones := idxI_same hzl (fun j x y hx hy => by rw [(HZ.out.2.2 j x y hx hy).1])
  rw [hsame] at HI
  have HL1 := Lib.hid (laid2 w o1 o2).1
  rw [ho1, ho2] at HI HB2
  rw [ho1] at HL1
  rw [ho2] at HL1
  clear hsame
  obtain ⟨W2, hW2⟩ : ∃ W2, W2 = (w.alloc (.cells #[.slice za P.zones.length zc, .slice fa P.fates.length fc, .int .i64 P.ticks, .slice da P.drops.length dc] 26)).alloc (.cells #[.string s] 9) := ⟨_, rfl⟩
  rw [← hW2] at HI HB2 HL1
  have HN2 : W2.heap.size = w.heap.size + 2 := by rw [hW2]; simp
  clear ho1 ho2
  go_enter Tryz.func53, Tryz.ntmps53
  go_upto_region 1 with fail
  rw [← hW2]
  have HW2 := Lib.hid hW2
  clear hW2
  obtain ⟨⟨x0, x1, x2, x3⟩, _⟩ := box4 HL1.out
  go_wp2_with fail
  with_reducible refine HI.out.mono ?_
  rintro e w1 ⟨rfl, hb1⟩
  have HB1 := Lib.hid hb1
  have hb1s := hb1.size
  have HL := Lib.hid ((hb1.block w.heap.size (by omega)).trans HL1.out)
  clear hb1 HI x0 x1 x2 x3 HL1
  obtain ⟨⟨x0, x1, x2, x3⟩, _⟩ := box4 HL.out
  rcases idx_cases (fun z : Zo => decide (z.name = s)) P.zones with ⟨h1, h2⟩ | ⟨k, z, h1, h2, h3⟩
  · rw [h1]
    have HLe : L = [] ∧ r = 110 := by
      subst hL hr
      have : answerP P s n = [] := by unfold answerP zoneOf; rw [h2]
      simp [this, answerE]
    obtain ⟨rfl, rfl⟩ := HLe
    clear h1 h2 hL hr
    go_wp2_with fail
    go_ret2
    exact ⟨none, 0, rfl, row_none _, HB2.out.trans (HB1.out.mono (by omega))⟩
  · rw [h1]
    obtain ⟨x, g, o, hx, rfl, hg, hat, hPz⟩ := (HZ.out.below zoP_steady (HB2.out.trans (HB1.out.mono (by omega)))).get h2
    obtain ⟨y0, y1⟩ := ZK.two hat hx
    obtain ⟨hnm, hal, hs, hans⟩ := hPz
    have hkz : k < P.zones.length := (List.getElem?_eq_some_iff.1 h2).1
    have hzmem : z ∈ P.zones := List.mem_of_getElem? h2
    have hans1 := hans.1
    have HA := Lib.hid hans
    clear hat hans h1
    have HX3 := Lib.hid h3
    have HX2 := Lib.hid h2
    have HXX := Lib.hid hx
    clear h3 h2 hx hnm
    by_cases h0 : z.ans.length = 0
    · have HLe : L = [] ∧ r = 110 := by
        subst hL hr
        have : answerP P s n = [] := by
          unfold answerP zoneOf
          rw [HX3.out]
          have : z.ans = [] := List.length_eq_zero_iff.1 h0
          simp [this]
        simp [this, answerE]
      obtain ⟨rfl, rfl⟩ := HLe
      rw [h0] at hal
      rw [hal] at y1
      clear hL hr
      have HT := Lib.hid (nth_ans_none n x.h.a x.h.c w1)
      go_wp2_with fail
      with_reducible refine HT.out.mono ?_
      rintro e w2 ⟨rfl, rfl⟩
      go_wp2_with fail
      go_ret2
      exact ⟨none, 0, rfl, row_none _, HB2.out.trans (HB1.out.mono (by omega))⟩
    · have hnth : nthI n z.ans.length < z.ans.length := by unfold nthI; omega
      obtain ⟨l, hl⟩ : ∃ l, z.ans[nthI n z.ans.length]? = some l := ⟨_, List.getElem?_eq_getElem hnth⟩
      obtain ⟨y, hy⟩ := none_at hans1 hl
      have hyl := HA.out.2.2 _ y l hy hl
      have hans2 : z.ans.length = hs.length := hans1.symm
      have HR : r = if L.length = 0 then 110 else 0 := by rw [hr, hL]; rfl
      have HLL : L = l := by
        rw [hL]
        unfold answerP zoneOf
        rw [HX3.out]
        simp [hl]
      have hll : l.length ≤ 4398046511104 := (hF z hzmem l (List.mem_of_getElem? hl)).1
      have HT := Lib.hid (nth_ans n hs y x.h.a x.h.c w1 HA.out.2.1 (by rw [← hans2]; exact hy))
      rw [hal, hans2] at y1
      clear hL hr
      subst HLL
      have HCl := Lib.hid (clone_ads L y.a y.c w1 hyl.2 hll)
      rw [hyl.1] at HT
      clear hy hl hnth hyl hal hans1 hans2
      go_wp2_with fail
      with_reducible refine HT.out.mono ?_
      rintro e w2 ⟨rfl, rfl⟩
      clear HT
      by_cases hL0 : L.length = 0
      · rw [if_pos hL0] at HR
        obtain rfl : L = [] := List.length_eq_zero_iff.1 hL0
        subst HR
        go_wp2_with fail
        go_ret2
        exact ⟨none, 0, rfl, row_none _, HB2.out.trans (HB1.out.mono (by omega))⟩
      · rw [if_neg hL0] at HR
        subst HR
        have hneI : ((L.length : Int) == 0) = false := by rw [beq_eq_false_iff_ne]; omega
        generalize hLn : L.length = Ln at *
        have HLn := Lib.hid hLn
        clear hLn
        go_wp2_with fail
        with_reducible refine HCl.out.mono ?_
        rintro e w3 ⟨a', c', rfl, hrow, hb3⟩
        go_wp2_with fail
        go_ret2
        exact ⟨a', c', by rw [HLn.out]; rfl, hrow, (HB2.out.trans (HB1.out.mono (by omega))).trans (hb3.mono (by have := HB2.out.size; omega))⟩

end Go.Proofs.YtciohjgcndgiaaaGreatDoor
