/- What stays, whatever is written into some blocks; slices.Clone of whatever rows. -/
import Derived.Test.YtciohjgcndgiaaaSpecs
import Derived.Test.YtciohjgcndgiaaaSockO
import Derived.Lib.LazyBuf
set_option linter.unusedSimpArgs false
set_option linter.unusedVariables false
namespace Go.Proofs.Ytciohjgcndgiaaa
open Go.RowKit Go.Proofs.Ytciohjgcndgiaaa.Kind

/-- It holds, and goes on holding, whatever is written into the blocks N and into new ones. -/
def Firm (N : Nat → Prop) (w : World) (P : World → Prop) : Prop := ∀ w', But N w w' → P w'
section
variable {N M : Nat → Prop} {w w' : World} {P Q : World → Prop}
theorem Firm.now (h : Firm N w P) : P w := h w (But.refl _ _)
theorem Firm.but (h : Firm N w P) (hb : But N w w') : Firm N w' P := fun w2 h2 => h w2 (hb.trans h2)
theorem Firm.below (h : Firm N w P) (hb : Below w.heap.size w w') : Firm N w' P := h.but (But.of hb)
theorem Firm.set (h : Firm N w P) {p : Addr} (hp : N p.block) (x : Value) : Firm N (w.setCell p x) P := h.but (But.set hp x)
theorem Firm.more (h : Firm N w P) (hN : ∀ b, M b → N b ∨ w.heap.size ≤ b) : Firm M w P := fun w2 h2 => h w2 (h2.less hN)
theorem Firm.less (h : Firm N w P) (hN : ∀ b, M b → N b) : Firm M w P := h.more (fun b hb => .inl (hN b hb))
theorem But.draw (h : But N w w') : But N w w'.drew := ⟨h.os, h.tape, h.output, h.size, h.block⟩
theorem But.grown {row : Option Nat} (h : w.grownBy w' row) (hr : ∀ k, row = some k → N k) : But N w w' :=
  ⟨h.os, h.tape, h.output, h.size, fun k hk hn => h.block k hk (fun e => hn (hr k e.symm))⟩
/-- A row that lies in none of the blocks N. -/
theorem Kind.OffC.firm {α : Type} {K : Kind Try.prog α} {a : Option Addr} {c : Nat} {l : List α} (h : K.OffC N w a c l) : Firm N w (fun W => K.RowC W a c l) := fun w2 h2 =>
  ⟨h.1.1, h.1.2.1, h.1.2.2.1, fun hl => by
    obtain ⟨b, o, e, hb, hat⟩ := h.1.2.2.2 hl
    have hn := h.2 hl _ e
    have hk := h2.block b hb hn
    exact ⟨b, o, e, Nat.lt_of_lt_of_le hb h2.size, fun j x hx i v hv => (World.cell?_of_block (w := w) (w' := w2) (a := ⟨b, o + j * K.k + i, none⟩) hk).trans (hat j x hx i v hv)⟩⟩
theorem Kind.OffC.but {α : Type} {K : Kind Try.prog α} {a : Option Addr} {c : Nat} {l : List α} (h : K.OffC N w a c l) (hb : But N w w') : K.OffC N w' a c l := ⟨h.firm _ hb, h.2⟩
theorem Kind.OffC.less {α : Type} {K : Kind Try.prog α} {a : Option Addr} {c : Nat} {l : List α} (h : K.OffC N w a c l) (hN : ∀ b, M b → N b) : K.OffC M w a c l := h.more (fun b hb => .inl (hN b hb))
/-- A row of one's own, from block base on, whose block is in none of N. -/
theorem Kind.Loose.off {α : Type} {K : Kind Try.prog α} {base : Nat} {a : Option Addr} {c : Nat} {l : List α} (h : K.Loose w base a c l) (hN : ∀ b, base ≤ b → b < w.heap.size → (∀ ad, a = some ad → 0 < c → ad.block = b) → ¬ N b) : K.OffC N w a c l :=
  ⟨h.row, fun hl ad e => by
    have h1 := h.1
    obtain ⟨g, o, e2, hb, hlt, _⟩ := h.2.2.2 (by omega)
    rw [e] at e2
    injection e2 with e2
    subst e2
    exact hN g hb hlt (fun ad' e' _ => by rw [e] at e'; injection e' with e'; rw [← e'])⟩
theorem Kind.Dst.loose {α : Type} {K : Kind Try.prog α} {base : Nat} {a : Option Addr} {n c : Nat} {l : List α} (h : K.Dst w base (.slice a n c) l) : K.Loose w base a c l := by
  rcases h with h | ⟨rfl, ad, e⟩
  · exact Own.loose h
  · injection e with e1 e2 e3
    subst e1 e3
    exact ⟨by simp, by simp, fun _ => rfl, fun h => by omega⟩
theorem Kind.Loose.but {α : Type} {K : Kind Try.prog α} {base : Nat} {a : Option Addr} {c : Nat} {l : List α} (h : K.Loose w base a c l) (hb : But N w w') (hN : ∀ ad, a = some ad → 0 < c → ¬ N ad.block) : K.Loose w' base a c l :=
  ⟨h.1, h.2.1, h.2.2.1, fun hc => by
    obtain ⟨g, o, h1, h2, h3, h4, h5⟩ := h.2.2.2 hc
    have hg := hb.block g h3 (hN _ h1 hc)
    have hs := hb.size
    refine ⟨g, o, h1, h2, by omega, fun j hj => ?_, fun j x hx i v hv => ?_⟩
    · rw [World.cell?_of_block (w := w) (w' := w') (a := ⟨g, o + j, none⟩) hg, World.frozen?_of_block (w := w) (w' := w') (a := ⟨g, o + j, none⟩) hg]
      exact h4 j hj
    · rw [World.cell?_of_block (w := w) (w' := w') (a := ⟨g, o + j * K.k + i, none⟩) hg]
      exact h5 j x hx i v hv⟩
theorem But.below {base : Nat} (h : But N w w') (hN : ∀ b, b < base → ¬ N b) (hs : base ≤ w.heap.size) : Below base w w' := ⟨h.os, h.tape, h.output, h.size, fun k hk => h.block k (by omega) (hN k hk)⟩
end
theorem nest_off {α β : Type} {K : Kind Try.prog α} {P : World → α → β → Prop} {N : Nat → Prop} {w : World} {a : Option Addr} {c : Nat} {hs : List α} {L : List β} (hlen : hs.length = L.length) (hr : K.OffC N w a c hs) (he : ∀ (j : Nat) (h : α) (b : β), hs[j]? = some h → L[j]? = some b → Firm N w (fun W => P W h b)) : Firm N w (fun W => K.NestC P W a c hs L) :=
  fun w2 h2 => ⟨hlen, hr.firm w2 h2, fun j h b h1 h2' => he j h b h1 h2' w2 h2⟩
/-- Blocks below base, and these. -/
def Mid (base : Nat) (l : List Nat) : Nat → Prop := fun b => b < base ∨ b ∈ l
/-- The block that a header names, if there is room in it. -/
def bkN (a : Option Addr) (c d : Nat) : Nat := match a with | some ad => if 0 < c then ad.block else d | none => d
theorem bk_some {a : Option Addr} {c d : Nat} {ad : Addr} (h : a = some ad) (hc : 0 < c) : bkN a c d = ad.block := by
  subst h
  show (if 0 < c then ad.block else d) = ad.block
  exact if_pos hc
theorem bk_ge {w : World} {α : Type} {K : Kind Try.prog α} {base : Nat} {a : Option Addr} {c d : Nat} {l : List α} (h : K.Loose w base a c l) {k : Nat} (hb : k ≤ base) (hd : k ≤ d) : k ≤ bkN a c d := by
  unfold bkN
  cases a with
  | none => exact hd
  | some ad =>
    dsimp only
    split
    · rename_i hc
      obtain ⟨g, o, e, h2, _⟩ := h.2.2.2 hc
      injection e with e
      subst e
      exact Nat.le_trans hb h2
    · exact hd
theorem bk_lt {w : World} {α : Type} {K : Kind Try.prog α} {base : Nat} {a : Option Addr} {c d : Nat} {l : List α} (h : K.Loose w base a c l) (hd : d < w.heap.size) : bkN a c d < w.heap.size := by
  unfold bkN
  cases a with
  | none => exact hd
  | some ad =>
    dsimp only
    split
    · rename_i hc
      obtain ⟨g, o, e, h2, h3, _⟩ := h.2.2.2 hc
      injection e with e
      subst e
      exact h3
    · exact hd
theorem Kind.Loose.apart {α : Type} {K : Kind Try.prog α} {w : World} {base d : Nat} {a : Option Addr} {c : Nat} {l : List α} {N : Nat → Prop} (h : K.Loose w base a c l) (hN : 0 < c → ¬ N (bkN a c d)) : K.OffC N w a c l :=
  ⟨h.row, fun hl ad e hn => by
    have hc : 0 < c := Nat.lt_of_lt_of_le hl h.1
    exact hN hc (by rw [bk_some e hc]; exact hn)⟩
end Go.Proofs.Ytciohjgcndgiaaa

set_option linter.unusedSimpArgs false
set_option linter.unusedVariables false
namespace Go.Proofs.Ytciohjgcndgiaaa
open Go.RowKit Go.Proofs.Ytciohjgcndgiaaa.Kind

set_option maxHeartbeats 2000000 in
set_option maxRecDepth 1000000 in
theorem cl_zones (l : List Zv) (m : Nat) (hm : m = l.length) (a : Option Addr) (c : Nat) (w : World) (hR : ZK.RowC w a c l) (hl : l.length * ZK.bytes ≤ 140737488355328) :
    Calls Try.prog 47 #[.slice a m c] w fun e w' => ∃ a' c', e = .returned (.slice a' m c') ∧ ZK.Loose w' w.heap.size a' c' l ∧ Below w.heap.size w w' := by
  subst hm
  have hq : ∀ (a : Option Addr) (n : Nat) (W : World), (binOp .eql 22 (.slice a n c) (.slice none 0 0)).run Try.prog W = .ok (.bool a.isNone) W := fun a n W => Go.run_eql_slice_nil W _ _ a n c Try.underlying22
  cases a with
  | none =>
    obtain rfl : c = 0 := hR.2.2.1 rfl
    obtain rfl : l = [] := List.length_eq_zero_iff.1 (by have := hR.1; omega)
    go_enter Try.func47, Try.ntmps47
    go_wp2_with fail
    go_ret
    exact ⟨none, 0, rfl, loose_nil _ _, Below.refl _ _⟩
  | some ad =>
    have HR := Lib.hid hR
    clear hR
    go_enter Try.func47, Try.ntmps47
    go_wp2_with (first | (at_builtin; refine wpList_append_rows_b ZK rfl _ _ rfl w.heap.size _ rfl [] (dst_bare _ _ _) (some ad) l.length c rfl l rfl (HR.out.below (below1 w _)) (by rw [List.length_nil, Nat.zero_add]; exact hl) (by simp; exact Nat.le_trans HR.out.1 HR.out.2.1) (by simp) ?_; intro a' c' w1 hD hM hB) | go_in)
    go_ret
    exact ⟨a', c', rfl, Kind.Dst.loose hD, (below1 w _).trans hB⟩

set_option maxHeartbeats 2000000 in
set_option maxRecDepth 1000000 in
theorem cl_anss (l : List Hv) (m : Nat) (hm : m = l.length) (a : Option Addr) (c : Nat) (w : World) (hR : HK.RowC w a c l) (hl : l.length * HK.bytes ≤ 140737488355328) :
    Calls Try.prog 48 #[.slice a m c] w fun e w' => ∃ a' c', e = .returned (.slice a' m c') ∧ HK.Loose w' w.heap.size a' c' l ∧ Below w.heap.size w w' := by
  subst hm
  have hq : ∀ (a : Option Addr) (n : Nat) (W : World), (binOp .eql 68 (.slice a n c) (.slice none 0 0)).run Try.prog W = .ok (.bool a.isNone) W := fun a n W => Go.run_eql_slice_nil W _ _ a n c Try.underlying68
  cases a with
  | none =>
    obtain rfl : c = 0 := hR.2.2.1 rfl
    obtain rfl : l = [] := List.length_eq_zero_iff.1 (by have := hR.1; omega)
    go_enter Try.func48, Try.ntmps48
    go_wp2_with fail
    go_ret
    exact ⟨none, 0, rfl, loose_nil _ _, Below.refl _ _⟩
  | some ad =>
    have HR := Lib.hid hR
    clear hR
    go_enter Try.func48, Try.ntmps48
    go_wp2_with (first | (at_builtin; refine wpList_append_rows_b HK rfl _ _ rfl w.heap.size _ rfl [] (dst_bare _ _ _) (some ad) l.length c rfl l rfl (HR.out.below (below1 w _)) (by rw [List.length_nil, Nat.zero_add]; exact hl) (by simp; exact Nat.le_trans HR.out.1 HR.out.2.1) (by simp) ?_; intro a' c' w1 hD hM hB) | go_in)
    go_ret
    exact ⟨a', c', rfl, Kind.Dst.loose hD, (below1 w _).trans hB⟩

set_option maxHeartbeats 2000000 in
set_option maxRecDepth 1000000 in
theorem cl_ads (l : List Ad) (m : Nat) (hm : m = l.length) (a : Option Addr) (c : Nat) (w : World) (hR : AK.RowC w a c l) (hl : l.length * AK.bytes ≤ 140737488355328) :
    Calls Try.prog 49 #[.slice a m c] w fun e w' => ∃ a' c', e = .returned (.slice a' m c') ∧ AK.Loose w' w.heap.size a' c' l ∧ Below w.heap.size w w' := by
  subst hm
  have hq : ∀ (a : Option Addr) (n : Nat) (W : World), (binOp .eql 71 (.slice a n c) (.slice none 0 0)).run Try.prog W = .ok (.bool a.isNone) W := fun a n W => Go.run_eql_slice_nil W _ _ a n c Try.underlying71
  cases a with
  | none =>
    obtain rfl : c = 0 := hR.2.2.1 rfl
    obtain rfl : l = [] := List.length_eq_zero_iff.1 (by have := hR.1; omega)
    go_enter Try.func49, Try.ntmps49
    go_wp2_with fail
    go_ret
    exact ⟨none, 0, rfl, loose_nil _ _, Below.refl _ _⟩
  | some ad =>
    have HR := Lib.hid hR
    clear hR
    go_enter Try.func49, Try.ntmps49
    go_wp2_with (first | (at_builtin; refine wpList_append_rows_b AK rfl _ _ rfl w.heap.size _ rfl [] (dst_bare _ _ _) (some ad) l.length c rfl l rfl (HR.out.below (below1 w _)) (by rw [List.length_nil, Nat.zero_add]; exact hl) (by simp; exact Nat.le_trans HR.out.1 HR.out.2.1) (by simp) ?_; intro a' c' w1 hD hM hB) | go_in)
    go_ret
    exact ⟨a', c', rfl, Kind.Dst.loose hD, (below1 w _).trans hB⟩

set_option maxHeartbeats 2000000 in
set_option maxRecDepth 1000000 in
theorem cl_fates (l : List Fv) (m : Nat) (hm : m = l.length) (a : Option Addr) (c : Nat) (w : World) (hR : FK.RowC w a c l) (hl : l.length * FK.bytes ≤ 140737488355328) :
    Calls Try.prog 50 #[.slice a m c] w fun e w' => ∃ a' c', e = .returned (.slice a' m c') ∧ FK.Loose w' w.heap.size a' c' l ∧ Below w.heap.size w w' := by
  subst hm
  have hq : ∀ (a : Option Addr) (n : Nat) (W : World), (binOp .eql 23 (.slice a n c) (.slice none 0 0)).run Try.prog W = .ok (.bool a.isNone) W := fun a n W => Go.run_eql_slice_nil W _ _ a n c Try.underlying23
  cases a with
  | none =>
    obtain rfl : c = 0 := hR.2.2.1 rfl
    obtain rfl : l = [] := List.length_eq_zero_iff.1 (by have := hR.1; omega)
    go_enter Try.func50, Try.ntmps50
    go_wp2_with fail
    go_ret
    exact ⟨none, 0, rfl, loose_nil _ _, Below.refl _ _⟩
  | some ad =>
    have HR := Lib.hid hR
    clear hR
    go_enter Try.func50, Try.ntmps50
    go_wp2_with (first | (at_builtin; refine wpList_append_rows_b FK rfl _ _ rfl w.heap.size _ rfl [] (dst_bare _ _ _) (some ad) l.length c rfl l rfl (HR.out.below (below1 w _)) (by rw [List.length_nil, Nat.zero_add]; exact hl) (by simp; exact Nat.le_trans HR.out.1 HR.out.2.1) (by simp) ?_; intro a' c' w1 hD hM hB) | go_in)
    go_ret
    exact ⟨a', c', rfl, Kind.Dst.loose hD, (below1 w _).trans hB⟩

set_option maxHeartbeats 2000000 in
set_option maxRecDepth 1000000 in
theorem cl_i8s (l : List Int) (m : Nat) (hm : m = l.length) (a : Option Addr) (c : Nat) (w : World) (hR : JK.RowC w a c l) (hl : l.length * JK.bytes ≤ 140737488355328) :
    Calls Try.prog 51 #[.slice a m c] w fun e w' => ∃ a' c', e = .returned (.slice a' m c') ∧ JK.Loose w' w.heap.size a' c' l ∧ Below w.heap.size w w' := by
  subst hm
  have hq : ∀ (a : Option Addr) (n : Nat) (W : World), (binOp .eql 72 (.slice a n c) (.slice none 0 0)).run Try.prog W = .ok (.bool a.isNone) W := fun a n W => Go.run_eql_slice_nil W _ _ a n c Try.underlying72
  cases a with
  | none =>
    obtain rfl : c = 0 := hR.2.2.1 rfl
    obtain rfl : l = [] := List.length_eq_zero_iff.1 (by have := hR.1; omega)
    go_enter Try.func51, Try.ntmps51
    go_wp2_with fail
    go_ret
    exact ⟨none, 0, rfl, loose_nil _ _, Below.refl _ _⟩
  | some ad =>
    have HR := Lib.hid hR
    clear hR
    go_enter Try.func51, Try.ntmps51
    go_wp2_with (first | (at_builtin; refine wpList_append_rows_b JK rfl _ _ rfl w.heap.size _ rfl [] (dst_bare _ _ _) (some ad) l.length c rfl l rfl (HR.out.below (below1 w _)) (by rw [List.length_nil, Nat.zero_add]; exact hl) (by simp; exact Nat.le_trans HR.out.1 HR.out.2.1) (by simp) ?_; intro a' c' w1 hD hM hB) | go_in)
    go_ret
    exact ⟨a', c', rfl, Kind.Dst.loose hD, (below1 w _).trans hB⟩

set_option maxHeartbeats 2000000 in
set_option maxRecDepth 1000000 in
theorem cl_ints (l : List Int) (m : Nat) (hm : m = l.length) (a : Option Addr) (c : Nat) (w : World) (hR : IK.RowC w a c l) (hl : l.length * IK.bytes ≤ 140737488355328) :
    Calls Try.prog 52 #[.slice a m c] w fun e w' => ∃ a' c', e = .returned (.slice a' m c') ∧ IK.Loose w' w.heap.size a' c' l ∧ Below w.heap.size w w' := by
  subst hm
  have hq : ∀ (a : Option Addr) (n : Nat) (W : World), (binOp .eql 24 (.slice a n c) (.slice none 0 0)).run Try.prog W = .ok (.bool a.isNone) W := fun a n W => Go.run_eql_slice_nil W _ _ a n c Try.underlying24
  cases a with
  | none =>
    obtain rfl : c = 0 := hR.2.2.1 rfl
    obtain rfl : l = [] := List.length_eq_zero_iff.1 (by have := hR.1; omega)
    go_enter Try.func52, Try.ntmps52
    go_wp2_with fail
    go_ret
    exact ⟨none, 0, rfl, loose_nil _ _, Below.refl _ _⟩
  | some ad =>
    have HR := Lib.hid hR
    clear hR
    go_enter Try.func52, Try.ntmps52
    go_wp2_with (first | (at_builtin; refine wpList_append_rows_b IK rfl _ _ rfl w.heap.size _ rfl [] (dst_bare _ _ _) (some ad) l.length c rfl l rfl (HR.out.below (below1 w _)) (by rw [List.length_nil, Nat.zero_add]; exact hl) (by simp; exact Nat.le_trans HR.out.1 HR.out.2.1) (by simp) ?_; intro a' c' w1 hD hM hB) | go_in)
    go_ret
    exact ⟨a', c', rfl, Kind.Dst.loose hD, (below1 w _).trans hB⟩

set_option maxHeartbeats 2000000 in
set_option maxRecDepth 1000000 in
theorem cl_socks (l : List Sk) (m : Nat) (hm : m = l.length) (a : Option Addr) (c : Nat) (w : World) (hR : SK.RowC w a c l) (hl : l.length * SK.bytes ≤ 140737488355328) :
    Calls Try.prog 53 #[.slice a m c] w fun e w' => ∃ a' c', e = .returned (.slice a' m c') ∧ SK.Loose w' w.heap.size a' c' l ∧ Below w.heap.size w w' := by
  subst hm
  have hq : ∀ (a : Option Addr) (n : Nat) (W : World), (binOp .eql 28 (.slice a n c) (.slice none 0 0)).run Try.prog W = .ok (.bool a.isNone) W := fun a n W => Go.run_eql_slice_nil W _ _ a n c Try.underlying28
  cases a with
  | none =>
    obtain rfl : c = 0 := hR.2.2.1 rfl
    obtain rfl : l = [] := List.length_eq_zero_iff.1 (by have := hR.1; omega)
    go_enter Try.func53, Try.ntmps53
    go_wp2_with fail
    go_ret
    exact ⟨none, 0, rfl, loose_nil _ _, Below.refl _ _⟩
  | some ad =>
    have HR := Lib.hid hR
    clear hR
    go_enter Try.func53, Try.ntmps53
    go_wp2_with (first | (at_builtin; refine wpList_append_rows_b SK rfl _ _ rfl w.heap.size _ rfl [] (dst_bare _ _ _) (some ad) l.length c rfl l rfl (HR.out.below (below1 w _)) (by rw [List.length_nil, Nat.zero_add]; exact hl) (by simp; exact Nat.le_trans HR.out.1 HR.out.2.1) (by simp) ?_; intro a' c' w1 hD hM hB) | go_in)
    go_ret
    exact ⟨a', c', rfl, Kind.Dst.loose hD, (below1 w _).trans hB⟩

set_option maxHeartbeats 2000000 in
set_option maxRecDepth 1000000 in
theorem cl_dials (l : List Di) (m : Nat) (hm : m = l.length) (a : Option Addr) (c : Nat) (w : World) (hR : DK.RowC w a c l) (hl : l.length * DK.bytes ≤ 140737488355328) :
    Calls Try.prog 54 #[.slice a m c] w fun e w' => ∃ a' c', e = .returned (.slice a' m c') ∧ DK.Loose w' w.heap.size a' c' l ∧ Below w.heap.size w w' := by
  subst hm
  have hq : ∀ (a : Option Addr) (n : Nat) (W : World), (binOp .eql 29 (.slice a n c) (.slice none 0 0)).run Try.prog W = .ok (.bool a.isNone) W := fun a n W => Go.run_eql_slice_nil W _ _ a n c Try.underlying29
  cases a with
  | none =>
    obtain rfl : c = 0 := hR.2.2.1 rfl
    obtain rfl : l = [] := List.length_eq_zero_iff.1 (by have := hR.1; omega)
    go_enter Try.func54, Try.ntmps54
    go_wp2_with fail
    go_ret
    exact ⟨none, 0, rfl, loose_nil _ _, Below.refl _ _⟩
  | some ad =>
    have HR := Lib.hid hR
    clear hR
    go_enter Try.func54, Try.ntmps54
    go_wp2_with (first | (at_builtin; refine wpList_append_rows_b DK rfl _ _ rfl w.heap.size _ rfl [] (dst_bare _ _ _) (some ad) l.length c rfl l rfl (HR.out.below (below1 w _)) (by rw [List.length_nil, Nat.zero_add]; exact hl) (by simp; exact Nat.le_trans HR.out.1 HR.out.2.1) (by simp) ?_; intro a' c' w1 hD hM hB) | go_in)
    go_ret
    exact ⟨a', c', rfl, Kind.Dst.loose hD, (below1 w _).trans hB⟩

set_option maxHeartbeats 2000000 in
set_option maxRecDepth 1000000 in
theorem cl_looks (l : List Lo) (m : Nat) (hm : m = l.length) (a : Option Addr) (c : Nat) (w : World) (hR : LK.RowC w a c l) (hl : l.length * LK.bytes ≤ 140737488355328) :
    Calls Try.prog 55 #[.slice a m c] w fun e w' => ∃ a' c', e = .returned (.slice a' m c') ∧ LK.Loose w' w.heap.size a' c' l ∧ Below w.heap.size w w' := by
  subst hm
  have hq : ∀ (a : Option Addr) (n : Nat) (W : World), (binOp .eql 30 (.slice a n c) (.slice none 0 0)).run Try.prog W = .ok (.bool a.isNone) W := fun a n W => Go.run_eql_slice_nil W _ _ a n c Try.underlying30
  cases a with
  | none =>
    obtain rfl : c = 0 := hR.2.2.1 rfl
    obtain rfl : l = [] := List.length_eq_zero_iff.1 (by have := hR.1; omega)
    go_enter Try.func55, Try.ntmps55
    go_wp2_with fail
    go_ret
    exact ⟨none, 0, rfl, loose_nil _ _, Below.refl _ _⟩
  | some ad =>
    have HR := Lib.hid hR
    clear hR
    go_enter Try.func55, Try.ntmps55
    go_wp2_with (first | (at_builtin; refine wpList_append_rows_b LK rfl _ _ rfl w.heap.size _ rfl [] (dst_bare _ _ _) (some ad) l.length c rfl l rfl (HR.out.below (below1 w _)) (by rw [List.length_nil, Nat.zero_add]; exact hl) (by simp; exact Nat.le_trans HR.out.1 HR.out.2.1) (by simp) ?_; intro a' c' w1 hD hM hB) | go_in)
    go_ret
    exact ⟨a', c', rfl, Kind.Dst.loose hD, (below1 w _).trans hB⟩

set_option maxHeartbeats 2000000 in
set_option maxRecDepth 1000000 in
theorem cl_marks (l : List Nk) (m : Nat) (hm : m = l.length) (a : Option Addr) (c : Nat) (w : World) (hR : NK.RowC w a c l) (hl : l.length * NK.bytes ≤ 140737488355328) :
    Calls Try.prog 56 #[.slice a m c] w fun e w' => ∃ a' c', e = .returned (.slice a' m c') ∧ NK.Loose w' w.heap.size a' c' l ∧ Below w.heap.size w w' := by
  subst hm
  have hq : ∀ (a : Option Addr) (n : Nat) (W : World), (binOp .eql 31 (.slice a n c) (.slice none 0 0)).run Try.prog W = .ok (.bool a.isNone) W := fun a n W => Go.run_eql_slice_nil W _ _ a n c Try.underlying31
  cases a with
  | none =>
    obtain rfl : c = 0 := hR.2.2.1 rfl
    obtain rfl : l = [] := List.length_eq_zero_iff.1 (by have := hR.1; omega)
    go_enter Try.func56, Try.ntmps56
    go_wp2_with fail
    go_ret
    exact ⟨none, 0, rfl, loose_nil _ _, Below.refl _ _⟩
  | some ad =>
    have HR := Lib.hid hR
    clear hR
    go_enter Try.func56, Try.ntmps56
    go_wp2_with (first | (at_builtin; refine wpList_append_rows_b NK rfl _ _ rfl w.heap.size _ rfl [] (dst_bare _ _ _) (some ad) l.length c rfl l rfl (HR.out.below (below1 w _)) (by rw [List.length_nil, Nat.zero_add]; exact hl) (by simp; exact Nat.le_trans HR.out.1 HR.out.2.1) (by simp) ?_; intro a' c' w1 hD hM hB) | go_in)
    go_ret
    exact ⟨a', c', rfl, Kind.Dst.loose hD, (below1 w _).trans hB⟩

end Go.Proofs.Ytciohjgcndgiaaa

set_option linter.unusedSimpArgs false
set_option linter.unusedVariables false
namespace Go.Proofs.Ytciohjgcndgiaaa
open Go.RowKit Go.Proofs.Ytciohjgcndgiaaa.Kind

/-- A plan whose rows can be copied. -/
structure Fit (P : Pl) : Prop where
  zones : P.zones.length ≤ 40
  ans : ∀ z ∈ P.zones, z.ans.length ≤ 60 ∧ ∀ l ∈ z.ans, l.length ≤ 4398046511104
  fates : P.fates.length ≤ 100
  lists : ∀ f ∈ P.fates, f.l.length ≤ 140737488351232
  drops : P.drops.length ≤ 17592186044416
theorem Room.fit {A : Wo} (h : Room A) : Fit A.plan :=
  ⟨h.few.2.1, fun z hz => ⟨(h.few.1 z hz).2, fun l hl => (h.mem.fits z hz l hl).1⟩, h.few.2.2, h.mem.fates, h.mem.drops⟩

/-- One cell of a header's row. -/
theorem HK.poke1 {w : World} {base : Nat} {a : Option Addr} {c : Nat} {l : List Hv} (h : HK.Loose w base a c l) {k : Nat} {x y : Hv} (hx : l[k]? = some x) :
    ∃ g o, a = some ⟨g, o, none⟩ ∧ base ≤ g ∧ g < w.heap.size ∧ HK.Loose (w.setCell ⟨g, o + k, none⟩ (.slice y.a y.n y.c)) base a c (l.set k y) ∧ w.cell? ⟨g, o + k, none⟩ = some (.slice x.a x.n x.c) ∧ w.frozen? ⟨g, o + k, none⟩ = false := by
  obtain ⟨g, o, h1, h2, h3, h4, h5, h6⟩ := h.poke (K := HK) (i := 0) (y := y) (v := .slice y.a y.n y.c) hx (by decide) rfl
  have e : o + k * HK.k + 0 = o + k := by show o + k * 1 + 0 = o + k; omega
  rw [e] at h4 h5 h6
  exact ⟨g, o, h1, h2, h3, h4, h5, h6⟩
theorem ZK.poke2 {w : World} {base : Nat} {a : Option Addr} {c : Nat} {l : List Zv} (h : ZK.Loose w base a c l) {k : Nat} {x : Zv} {y : Hv} (hx : l[k]? = some x) :
    ∃ g o, a = some ⟨g, o, none⟩ ∧ base ≤ g ∧ g < w.heap.size ∧ ZK.Loose (w.setCell ⟨g, o + k * 2 + 1, none⟩ (.slice y.a y.n y.c)) base a c (l.set k ⟨x.name, y⟩) ∧ w.cell? ⟨g, o + k * 2 + 1, none⟩ = some (.slice x.h.a x.h.n x.h.c) ∧ w.frozen? ⟨g, o + k * 2 + 1, none⟩ = false :=
  h.poke (K := ZK) (i := 1) (y := ⟨x.name, y⟩) (v := .slice y.a y.n y.c) hx (by decide) rfl
theorem FK.poke11 {w : World} {base : Nat} {a : Option Addr} {c : Nat} {l : List Fv} (h : FK.Loose w base a c l) {k : Nat} {x : Fv} {y : Hv} (hx : l[k]? = some x) :
    ∃ g o, a = some ⟨g, o, none⟩ ∧ base ≤ g ∧ g < w.heap.size ∧ FK.Loose (w.setCell ⟨g, o + k * 11 + 10, none⟩ (.slice y.a y.n y.c)) base a c (l.set k ⟨x.ad, y⟩) ∧ w.cell? ⟨g, o + k * 11 + 10, none⟩ = some (.slice x.h.a x.h.n x.h.c) ∧ w.frozen? ⟨g, o + k * 11 + 10, none⟩ = false :=
  h.poke (K := FK) (i := 10) (y := ⟨x.ad, y⟩) (v := .slice y.a y.n y.c) hx (by decide) rfl

/-- A row of headers of one's own, of which the first k stand for their things in blocks apart from N and the row's own; the others as they came. -/
structure HalfIn {α β : Type} (K : Kind Try.prog α) (P : World → α → β → Prop) (N : Nat → Prop) (lo g : Nat) (a : Option Addr) (c : Nat) (L : List β) (hs0 : List α) (W : World) (k : Nat) (hs : List α) : Prop where
  row : K.Loose W lo a c hs
  blk : 0 < c → bkN a c lo = g
  len : hs.length = L.length
  done : ∀ j h b, j < k → hs[j]? = some h → L[j]? = some b → Firm (fun b => N b ∨ b = g) W (fun W => P W h b)
  old : ∀ j, k ≤ j → hs[j]? = hs0[j]?
section
variable {α β : Type} {K : Kind Try.prog α} {P : World → α → β → Prop} {N : Nat → Prop} {lo g : Nat} {a : Option Addr} {c : Nat} {L : List β} {hs0 hs : List α} {W W' : World} {k : Nat}
theorem HalfIn.below (h : HalfIn K P N lo g a c L hs0 W k hs) (hb : Below W.heap.size W W') : HalfIn K P N lo g a c L hs0 W' k hs :=
  ⟨h.row.below hb, h.blk, h.len, fun j x b h1 h2 h3 => (h.done j x b h1 h2 h3).below hb, h.old⟩
theorem HalfIn.set (h : HalfIn K P N lo g a c L hs0 W k hs) {p : Addr} (hp : N p.block) (hlo : p.block < lo) (x : Value) : HalfIn K P N lo g a c L hs0 (W.setCell p x) k hs :=
  ⟨h.row.set hlo x, h.blk, h.len, fun j y b h1 h2 h3 => (h.done j y b h1 h2 h3).set (.inl hp) x, h.old⟩
theorem half_new (hr : K.Loose W lo a c hs0) (hl : hs0.length = L.length) : HalfIn K P N lo (bkN a c lo) a c L hs0 W 0 hs0 :=
  ⟨hr, fun _ => rfl, hl, fun j x b h => by omega, fun _ _ => rfl⟩
/-- One more, written into its place. -/
theorem HalfIn.step (h : HalfIn K P N lo g a c L hs0 W k hs) {p : Addr} {v : Value} {y : α} (hk : k < L.length) (hp : p.block = g) (hrow : K.Loose (W.setCell p v) lo a c (hs.set k y)) (hy : ∀ b, L[k]? = some b → Firm (fun b => N b ∨ b = g) W (fun W => P W y b)) :
    HalfIn K P N lo g a c L hs0 (W.setCell p v) (k + 1) (hs.set k y) :=
  ⟨hrow, h.blk, by simpa using h.len, fun j x b h1 h2 h3 => by
    by_cases hj : k = j
    · subst hj
      rw [List.getElem?_set_self (by rw [h.len]; exact hk)] at h2
      injection h2 with h2
      subst h2
      exact (hy b h3).set (.inr hp) v
    · rw [List.getElem?_set_ne hj] at h2
      exact (h.done j x b (by omega) h2 h3).set (.inr hp) v, fun j hj => by
    rw [List.getElem?_set_ne (by omega)]
    exact h.old j (by omega)⟩
/-- All of them: the row and its things, in blocks apart from N. -/
theorem HalfIn.all (h : HalfIn K P N lo g a c L hs0 W k hs) (hk : L.length ≤ k) (hN : ∀ b, lo ≤ b → ¬ N b) : Firm N W (fun W => K.NestC P W a c hs L) :=
  nest_off h.len (h.row.apart (d := lo) (fun hc => hN _ (bk_ge h.row (Nat.le_refl _) (Nat.le_refl _)))) (fun j x b h1 h2 => (h.done j x b (by have := (List.getElem?_eq_some_iff.1 h2).1; omega) h1 h2).less (fun b hb => .inl hb))
end
theorem AnsP.firm {N : Nat → Prop} {w : World} {lo : Nat} {a : Option Addr} {c n : Nat} {b : List Ad} (hn : n = b.length) (h : AK.Loose w lo a c b) (hN : ∀ k, lo ≤ k → ¬ N k) : Firm N w (fun W => AnsP W ⟨a, n, c⟩ b) := fun w2 h2 => ⟨hn, (h.off (fun k h1 _ _ => hN k h1)).firm w2 h2⟩
theorem FoP.firm {N : Nat → Prop} {w : World} {lo : Nat} {x : Fv} {a : Option Addr} {c n : Nat} {b : Fo} (hx : x.ad = b.ad) (hn : n = b.l.length) (h : JK.Loose w lo a c b.l) (hN : ∀ k, lo ≤ k → ¬ N k) : Firm N w (fun W => FoP W ⟨x.ad, ⟨a, n, c⟩⟩ b) := fun w2 h2 => ⟨hx, hn, (h.off (fun k h1 _ _ => hN k h1)).firm w2 h2⟩
theorem ZoP.firm {N : Nat → Prop} {w : World} {x : Zv} {a : Option Addr} {c n : Nat} {b : Zo} (hx : x.name = b.name) (hn : n = b.ans.length) {hs : List Hv} (h : Firm N w (fun W => HK.NestC AnsP W a c hs b.ans)) : Firm N w (fun W => ZoP W ⟨x.name, ⟨a, n, c⟩⟩ b) := fun w2 h2 => ⟨hx, hn, hs, h w2 h2⟩
theorem loadP {w : World} {b : Nat} {t : TypeId} {a0 a1 a3 : Option Addr} {n0 n1 n3 c0 c1 c3 : Nat} {k : Int} (h : w.heap[b]? = some (.cells #[.slice a0 n0 c0, .slice a1 n1 c1, .int .i64 k, .slice a3 n3 c3] t (0, 0))) :
    (loadVar 26 ⟨b, 0, none⟩).run Try.prog w = .ok (.agg #[.slice a0 n0 c0, .slice a1 n1 c1, .int .i64 k, .slice a3 n3 c3]) w := by
  obtain ⟨⟨h0, h1, h2, h3⟩, _⟩ := box4 h
  have ag2 := Try.isAgg26
  have sz2 := Try.sizeOf26
  clear h
  simp [loadVar, go_sem, *]
end Go.Proofs.Ytciohjgcndgiaaa

