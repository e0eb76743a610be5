/- The landed package cache: its closures, what finds and what lets go. -/
import Derived.Test.YtaealoodchkeaaaSpecs
import Derived.Lib.LazyBuf
set_option linter.unusedSimpArgs false
set_option linter.unusedVariables false
namespace Go.Proofs.Ytaealoodchkeaaa
open R3 Go.RowKit Go.Proofs.Ytaealoodchkeaaa.Kind

theorem enter_fn {N : Nat} {fn : Func} {c : Code} (hf : Try.prog.funcs[N]? = some fn) (hname : (fn.name == "runtime.NumGoroutine") = false) (hb : fn.body = some c) (args : Array Value) (w : World) : (callFunc N args).run Try.prog w = .ok (.enter N args) w := by
  have h1 : fn.name ≠ "runtime.NumGoroutine" := by simpa using hname
  simp [callFunc, hf, h1, hb]
/-- Function number N, with what it has captured, tells whether p holds, in whatever world that went on from w. -/
def Tells (w : World) (N : Nat) (caps : Array Value) (p : Kn → Bool) : Prop := ∀ (W : World) (x : Kn), Below w.heap.size w W →
  Calls Try.prog N (#[.agg #[.string x.name, .string x.row, .int .i64 x.e, .int .i64 x.until_]] ++ caps) W fun e W' => e = .returned (.bool (p x)) ∧ Below W.heap.size W W'
theorem Tells.below {w w' : World} {N : Nat} {caps : Array Value} {p : Kn → Bool} (h : Tells w N caps p) (hb : Below w.heap.size w w') : Tells w' N caps p := fun W x hW => h W x (hb.trans (hW.mono hb.size))

def NoneTo {α : Type} (p : α → Bool) (l : List α) (k : Nat) : Prop := ∀ (j : Nat) (y : α), j < k → l[j]? = some y → p y = false
theorem noneTo_zero {α : Type} (p : α → Bool) (l : List α) : NoneTo p l 0 := fun j y h => by omega
theorem noneTo_step {α : Type} {p : α → Bool} {l : List α} {k : Nat} {x : α} (h : NoneTo p l k) (hx : l[k]? = some x) (hp : p x = false) : NoneTo p l (k + 1) := fun j y hj hy => by
  rcases (show j < k ∨ j = k by omega) with h' | rfl
  · exact h j y h' hy
  · rw [hx] at hy; cases hy; exact hp
theorem fst_at {α : Type} {p : α → Bool} {l : List α} {k : Nat} {x : α} (hx : l[k]? = some x) (hp : p x = true) (hb : NoneTo p l k) : l.findIdx p = k := by
  obtain ⟨hk, e⟩ := List.getElem?_eq_some_iff.1 hx
  rw [List.findIdx_eq hk]
  exact ⟨by rw [e]; exact hp, fun j hj => hb j _ hj (List.getElem?_eq_getElem (by omega))⟩
theorem fst_none {α : Type} {p : α → Bool} {l : List α} (hb : NoneTo p l l.length) : l.findIdx p = l.length := by
  rw [List.findIdx_eq_length]
  intro x hx
  obtain ⟨j, hj, e⟩ := List.getElem_of_mem hx
  exact hb j x hj (by rw [List.getElem?_eq_getElem hj, e])

set_option maxHeartbeats 4000000 in
set_option maxRecDepth 1000000 in
theorem find_any (N : Nat) (caps : Array Value) (p : Kn → Bool) (l : List Kn) (a : Option Addr) (c : Nat) (w : World) (hE : ∀ (args : Array Value) (w : World), (callFunc N args).run Try.prog w = .ok (.enter N args) w) (hR : KK.RowC w a c l) (hT : Tells w N caps p) :
    Calls Try.prog 24 #[.slice a l.length c, .func (.func N) #[] caps] w fun e w' => e = .returned (.int .i64 (l.findIdx p : Nat)) ∧ Below w.heap.size w w' := by
  have hmx : (l.length : Int) ≤ 9223372036854775807 := by have h1 := hR.1; have h2 := hR.2.1; unfold maxLen at h2; omega
  have HR := Lib.hid hR
  have HT := Lib.hid hT
  have HE := Lib.hid hE
  clear hR hT hE
  go_enter Try.func24, Try.ntmps24
  go_wp2_with fail
  go_loopw [4, 9] (fun r i wr => ∃ k : Nat, r = .int .i64 0 ∧ i = .int .i64 k ∧ k ≤ l.length ∧ Hid (NoneTo p l k) ∧ Hid (Below w.heap.size w wr)) (fun _ i _ => l.length - (intOf i).toNat)
  case atStart => exact ⟨0, rfl, rfl, by omega, Lib.hid (noneTo_zero _ _), Lib.hid (Below.refl _ _)⟩
  case round =>
    obtain ⟨k, rfl, rfl, hk, hn, hb⟩ := hrel
    have HN := Lib.hid hn.out
    have HB := Lib.hid hb.out
    have hbs := HB.out.size
    clear hn hb
    by_cases hki : k < l.length
    · obtain ⟨x, hx⟩ : ∃ x, l[k]? = some x := ⟨_, List.getElem?_eq_getElem hki⟩
      obtain ⟨b, o, rfl, hbl, hat⟩ := HR.out.2.2.2 (by omega)
      obtain ⟨y0, y1, y2, y3⟩ := KK.cells (hat.below HB.out hbl) hx
      have HX := Lib.hid hx
      have hb1 := below1 wr (.cells #[.string x.name, .string x.row, .int .i64 x.e, .int .i64 x.until_] 29)
      have HC := Lib.hid (HT.out _ x (HB.out.trans (hb1.mono hbs)))
      have HB1 := Lib.hid (HB.out.trans (hb1.mono hbs))
      clear hx hat hb1
      go_wp2_with fail
      rw [HE.out, Oper.upon_enter]
      with_reducible refine HC.out.mono ?_
      rintro e w1 ⟨rfl, hb1⟩
      have HB2 := Lib.hid (HB1.out.trans (hb1.mono HB1.out.size))
      clear hb1 HC y0 y1 y2 y3
      cases hd : p x with
      | true =>
        have HD := Lib.hid hd
        clear hd
        go_wp2_with fail
        go_ret
        exact ⟨by rw [fst_at HX.out HD.out HN.out]; rfl, HB2.out⟩
      | false =>
        have HD := Lib.hid hd
        clear hd
        go_wp2_with fail
        go_roundw
        case rel => exact ⟨k + 1, rfl, by go_num, by omega, Lib.hid (noneTo_step HN.out HX.out HD.out), Lib.hid HB2.out⟩
        case measure => simp [intOf]; omega
    · obtain rfl : k = l.length := by omega
      go_wp2_with fail
      go_ret
      exact ⟨by rw [fst_none HN.out]; rfl, HB.out⟩

theorem filter_take {α : Type} {p : α → Bool} {l : List α} {k : Nat} {x : α} (hx : l[k]? = some x) : (l.take (k + 1)).filter p = (l.take k).filter p ++ (if p x then [x] else []) := by
  have : l.take (k + 1) = l.take k ++ [x] := by rw [List.take_add_one, hx]; rfl
  rw [this, List.filter_append]
  congr 1
  cases h : p x <;> simp [h]
theorem filter_le {α : Type} (p : α → Bool) (l : List α) (k : Nat) : ((l.take k).filter p).length ≤ k := by
  have h1 := List.length_filter_le p (l.take k)
  have h2 : (l.take k).length ≤ k := by rw [List.length_take]; omega
  omega

set_option maxHeartbeats 4000000 in
set_option maxRecDepth 1000000 in
theorem without_any (N : Nat) (caps : Array Value) (p : Kn → Bool) (l L : List Kn) (hL : L = l.filter (fun x => !p x)) (a : Option Addr) (c : Nat) (w : World) (hl : l.length ≤ 1000) (hE : ∀ (args : Array Value) (w : World), (callFunc N args).run Try.prog w = .ok (.enter N args) w) (hR : KK.RowC w a c l) (hT : Tells w N caps p) :
    Calls Try.prog 36 #[.slice a l.length c, .func (.func N) #[] caps] w fun e w' => ∃ a1 c1, e = .returned (.slice a1 L.length c1) ∧ KK.RowC w' a1 c1 L ∧ Below w.heap.size w w' := by
  have HR := Lib.hid hR
  have HT := Lib.hid hT
  have HE := Lib.hid hE
  have HL := Lib.hid hL
  clear hR hT hE hL
  go_enter Try.func36, Try.ntmps36
  go_wp2_with fail
  go_loopw [5, 10] (fun o i wr => ∃ (k m c1 : Nat) (a1 : Option Addr), o = .slice a1 m c1 ∧ i = .int .i64 k ∧ k ≤ l.length ∧ m ≤ k ∧ Hid (m = ((l.take k).filter (fun x => !p x)).length) ∧ Hid (KK.Own wr w.heap.size (.slice a1 m c1) ((l.take k).filter (fun x => !p x))) ∧ Hid (Below w.heap.size w wr)) (fun _ i _ => l.length - (intOf i).toNat)
  case atStart => exact ⟨0, 0, 0, none, rfl, rfl, by omega, by omega, Lib.hid rfl, Lib.hid (own_nil _ _), Lib.hid (Below.refl _ _)⟩
  case round =>
    obtain ⟨k, m, c1, a1, rfl, rfl, hk, hmk, hm, hO, hB⟩ := hrel
    have HM := Lib.hid hm.out
    clear hm
    have HO := Lib.hid hO.out
    have HB := Lib.hid hB.out
    have hsz := HB.out.size
    clear hO hB
    by_cases hlt : k < l.length
    · obtain ⟨b, o, rfl, hb, hat⟩ := HR.out.2.2.2 (by omega)
      obtain ⟨x, hx⟩ : ∃ x, l[k]? = some x := ⟨_, List.getElem?_eq_getElem hlt⟩
      obtain ⟨c0, c1', c2, c3⟩ := KK.cells (hat.below HB.out hb) hx
      have hst := filter_take (p := fun x => !p x) hx
      have hle := filter_le (fun x => !p x) l k
      have hb1 := below1 wr (.cells #[.string x.name, .string x.row, .int .i64 x.e, .int .i64 x.until_] 29)
      have HC := Lib.hid (HT.out _ x (HB.out.trans (hb1.mono hsz)))
      have HB1 := Lib.hid (HB.out.trans (hb1.mono hsz))
      have HO1 := Lib.hid (HO.out.below hb1 (Nat.le_refl _))
      have HG1 := Lib.hid (laid1 wr (.cells #[.string x.name, .string x.row, .int .i64 x.e, .int .i64 x.until_] 29))
      have hs1 : (wr.alloc (.cells #[.string x.name, .string x.row, .int .i64 x.e, .int .i64 x.until_] 29)).heap.size = wr.heap.size + 1 := by simp
      clear hat hx hb1
      go_wp2_with fail
      rw [HE.out, Oper.upon_enter]
      with_reducible refine HC.out.mono ?_
      rintro e w1 ⟨rfl, hb1⟩
      have HB2 := Lib.hid (HB1.out.trans (hb1.mono HB1.out.size))
      have HO2 := Lib.hid (HO1.out.below hb1 (Nat.le_refl _))
      obtain ⟨⟨d0, d1, d2, d3⟩, _⟩ := boxes4 ((hb1.block wr.heap.size (by omega)).trans HG1.out)
      have hsz1 := HB2.out.size
      clear hb1 HC c0 c1' c2 c3 HO1 HG1 hs1 HB1
      cases hf : p x with
      | true =>
        rw [hf] at hst
        have HS := Lib.hid hst
        clear hst hf
        go_wp2_with fail
        go_roundw
        case rel => exact ⟨k + 1, m, c1, a1, rfl, by go_num, by omega, by omega, Lib.hid (by rw [HS.out]; simpa using HM.out), Lib.hid (by rw [HS.out]; simpa using HO2.out), Lib.hid HB2.out⟩
        case measure => simp [intOf]; omega
      | false =>
        rw [hf] at hst
        simp only [Bool.not_false, if_true] at hst
        have HS := Lib.hid hst
        clear hst hf
        go_wp2_with (at_builtin; refine KK.wpList_append_owned rfl _ _ rfl w.heap.size (.slice a1 m c1) rfl ((l.take k).filter (fun x => !p x)) (HO2.out.below (below1 w1 _) (Nat.le_refl _)) (some ⟨w1.heap.size, 0, none⟩) 1 1 rfl [x] rfl (rowC_at (K := KK) w1 29 [x] _ _ 1 rfl rfl rfl (by simp)) (by simp; omega) (by simp; omega) ((l.take (k + 1)).filter (fun x => !p x)) HS.out ?_; intro a2 c2' w2 hO2 hG2; have HO3 := Lib.hid hO2; have HB3 := Lib.hid ((HB2.out.trans ((below1 w1 (.cells #[.string x.name, .string x.row, .int .i64 x.e, .int .i64 x.until_] 29)).mono hsz1)).grown hG2 (by simp; omega) (fun j hj => (HO2.out.lt j hj).1)); clear hO2 hG2)
        exact ⟨⟨k + 1, _, c2', a2, rfl, by go_num, by omega, filter_le _ _ _, Lib.hid rfl, HO3, HB3⟩, by simp [intOf]; omega⟩
    · obtain rfl : k = l.length := by omega
      go_wp2_with fail
      go_ret
      have hm := HM.out
      have hO := HO.out
      rw [List.take_length, ← HL.out] at hm hO
      exact ⟨a1, c1, by rw [← hm]; rfl, hO.row, HB.out⟩

set_option maxHeartbeats 2000000 in
set_option maxRecDepth 1000000 in
theorem named_any (s : ByteArray) (w : World) :
    Calls Try.prog 25 #[.string s] w fun e w' => e = .returned (.func (.func 37) #[] #[.pointer (some ⟨w.heap.size, 0, none⟩)]) ∧ w' = w.alloc (.cells #[.string s] 9) := by
  go_enter Try.func25, Try.ntmps25
  go_wp2_with fail
  go_ret
  exact ⟨rfl, rfl⟩
set_option maxHeartbeats 2000000 in
set_option maxRecDepth 1000000 in
theorem above_any (s : ByteArray) (w : World) :
    Calls Try.prog 43 #[.string s] w fun e w' => e = .returned (.func (.func 46) #[] #[.pointer (some ⟨w.heap.size, 0, none⟩)]) ∧ w' = w.alloc (.cells #[.string s] 9) := by
  go_enter Try.func43, Try.ntmps43
  go_wp2_with fail
  go_ret
  exact ⟨rfl, rfl⟩
set_option maxHeartbeats 2000000 in
set_option maxRecDepth 1000000 in
theorem stale_any (n : Int) (w : World) :
    Calls Try.prog 26 #[.int .i64 n] w fun e w' => e = .returned (.func (.func 38) #[] #[.pointer (some ⟨w.heap.size, 0, none⟩)]) ∧ w' = w.alloc (.cells #[.int .i64 n] 3) := by
  go_enter Try.func26, Try.ntmps26
  go_wp2_with fail
  go_ret
  exact ⟨rfl, rfl⟩

set_option maxHeartbeats 2000000 in
set_option maxRecDepth 1000000 in
theorem named_tells (s : ByteArray) (g : Nat) (t : TypeId) (w : World) (hg : w.heap[g]? = some (.cells #[.string s] t (0, 0))) : Tells w 37 #[.pointer (some ⟨g, 0, none⟩)] (is s) := by
  intro W x hW
  have hlt := lt_heap' hg
  have hg1 := (hW.block g hlt).trans hg
  have c0 := (cell1 hg1).1
  have c1 : ∀ o, (W.alloc o).cell? ⟨g, 0, none⟩ = some (.string s) := fun o => ((below1 W o).cell (lt_heap' hg1)).trans c0
  show Calls Try.prog 37 #[.agg #[.string x.name, .string x.row, .int .i64 x.e, .int .i64 x.until_], .pointer (some ⟨g, 0, none⟩)] W _
  clear hg hW
  go_enter Try.func37, Try.ntmps37
  go_wp2_with fail
  go_ret
  exact ⟨by unfold is; rw [← text_eq]; rfl, below1 W _⟩
theorem gtr_text (a b : ByteArray) : (!Op.bytesLess a.toList b.toList && !a.toList == b.toList) = ltS b a := by
  rw [← Bool.not_or, le_text]
  cases h : leS a b with
  | true =>
    cases h2 : ltS b a with
    | true => rw [leS_not.2 h2] at h; cases h
    | false => rfl
  | false => rw [leS_not.1 h]; rfl
set_option maxHeartbeats 2000000 in
set_option maxRecDepth 1000000 in
theorem above_tells (s : ByteArray) (g : Nat) (t : TypeId) (w : World) (hg : w.heap[g]? = some (.cells #[.string s] t (0, 0))) : Tells w 46 #[.pointer (some ⟨g, 0, none⟩)] (fun k => ltS s k.name) := by
  intro W x hW
  have hlt := lt_heap' hg
  have hg1 := (hW.block g hlt).trans hg
  have c0 := (cell1 hg1).1
  have c1 : ∀ o, (W.alloc o).cell? ⟨g, 0, none⟩ = some (.string s) := fun o => ((below1 W o).cell (lt_heap' hg1)).trans c0
  show Calls Try.prog 46 #[.agg #[.string x.name, .string x.row, .int .i64 x.e, .int .i64 x.until_], .pointer (some ⟨g, 0, none⟩)] W _
  clear hg hW
  go_enter Try.func46, Try.ntmps46
  go_wp2_with fail
  go_ret
  exact ⟨by rw [← gtr_text]; rfl, below1 W _⟩
set_option maxHeartbeats 2000000 in
set_option maxRecDepth 1000000 in
theorem stale_tells (n : Int) (g : Nat) (t : TypeId) (w : World) (hg : w.heap[g]? = some (.cells #[.int .i64 n] t (0, 0))) : Tells w 38 #[.pointer (some ⟨g, 0, none⟩)] (fun k => !freshB n k) := by
  intro W x hW
  have hlt := lt_heap' hg
  have hg1 := (hW.block g hlt).trans hg
  have c0 := (cell1 hg1).1
  have hB := below1 W (.cells #[.string x.name, .string x.row, .int .i64 x.e, .int .i64 x.until_] 29)
  have c1 : ∀ o, (W.alloc o).cell? ⟨g, 0, none⟩ = some (.int .i64 n) := fun o => ((below1 W o).cell (lt_heap' hg1)).trans c0
  have HB := Lib.hid hB
  show Calls Try.prog 38 #[.agg #[.string x.name, .string x.row, .int .i64 x.e, .int .i64 x.until_], .pointer (some ⟨g, 0, none⟩)] W _
  clear hg hW hB
  go_enter Try.func38, Try.ntmps38
  go_wp2_with fail
  go_quiet (first | (go_at_call 39; exact Calls.quiet_of_same (clamp_any _ _)))
  go_wp2_with fail
  go_ret
  refine ⟨?_, below_drewN HB.out _⟩
  have e : (!freshB n x) = decide (P.clamp x.until_ ≤ P.clamp n) := by unfold freshB; rw [← decide_not]; exact decide_eq_decide.2 Int.not_lt
  rw [e]
  rfl
theorem enter_named (args : Array Value) (w : World) : (callFunc 37 args).run Try.prog w = .ok (.enter 37 args) w := enter_fn Try.func37 (by kernel_rfl) rfl args w
theorem enter_above (args : Array Value) (w : World) : (callFunc 46 args).run Try.prog w = .ok (.enter 46 args) w := enter_fn Try.func46 (by kernel_rfl) rfl args w
theorem enter_stale (args : Array Value) (w : World) : (callFunc 38 args).run Try.prog w = .ok (.enter 38 args) w := enter_fn Try.func38 (by kernel_rfl) rfl args w
end Go.Proofs.Ytaealoodchkeaaa
