/- Where DuctOrder's loop stands: a duct, and a row of its own with the same letters. -/
import Derived.Test.YtomiajgedcpjiaaBox
import Derived.Test.YtomiajgedcpjiaaLoose
import Derived.Test.YtomiajgedcpjiaaAct
import Derived.Deep.CutBlock
set_option linter.unusedSimpArgs false
set_option linter.unusedVariables false
namespace Go.Proofs.Ytomiajgedcpjiaa
open Go.RowKit Go.Proofs.Ytomiajgedcpjiaa.Kind

theorem putR_ex (z : Int) (cl : Bool) (l k : List Lt) : ∃ er L, PutR z cl l k er L := by
  cases cl
  · by_cases h : (k.length : Int) ≤ roomB z l.length false
    · exact ⟨0, l ++ k, .inr (.inr ⟨rfl, h, rfl, rfl⟩)⟩
    · exact ⟨50, l, .inr (.inl ⟨rfl, by omega, rfl, rfl⟩)⟩
  · exact ⟨52, l, .inl ⟨rfl, rfl, rfl⟩⟩
def Apart (L : List Lt) (a ai : Option Addr) : Prop := 0 < L.length → ∀ ad ad', a = some ad → ai = some ad' → ad.block ≠ ad'.block
/-- The duct's variable is block B; its letters lie apart from the row's. -/
structure Good (z : Int) (B : Nat) (w : World) (L : List Lt) (cl : Bool) (a : Option Addr) (c : Nat) (ai : Option Addr) (ci : Nat) : Prop where
  box : w.heap[B]? = some (.cells #[.int .i64 z, .slice a L.length c, .bool cl] 26 (0, 0))
  row : LK.RowC w a c L
  loose : LK.Loose w (B + 1) ai ci L
  apart : Apart L a ai
  fits : (L.length : Int) ≤ z
theorem Good.below {z : Int} {B : Nat} {w w' : World} {L : List Lt} {cl : Bool} {a ai : Option Addr} {c ci : Nat} (h : Good z B w L cl a c ai ci) (hb : Below w.heap.size w w') : Good z B w' L cl a c ai ci :=
  ⟨(hb.block B (lt_of_block h.box)).trans h.box, h.row.below hb, h.loose.below hb, h.apart, h.fits⟩
theorem apart_old {L : List Lt} {w7 : World} {n : Nat} {a3 : Option Addr} {c3 : Nat} {ai : Option Addr} (hF : LK.FarC w7 n a3 c3 L) (h : 0 < L.length → ∀ ad, ai = some ad → ad.block < n) : Apart L a3 ai := fun hl ad ad' e e' => by
  have h1 := hF.2 hl ad e
  have h2 := h hl ad' e'
  omega
theorem apart_new {L : List Lt} {w : World} {a3 : Option Addr} {c3 g : Nat} (hR : LK.RowC w a3 c3 L) (hg : w.heap.size ≤ g) : Apart L a3 (some ⟨g, 0, none⟩) := fun hl ad ad' e e' => by
  obtain ⟨b, o, h1, h2, _⟩ := hR.2.2.2 hl
  rw [h1] at e
  injection e with e
  injection e' with e'
  subst e e'
  show b ≠ g
  omega
theorem Good.lt {z : Int} {B : Nat} {w : World} {L : List Lt} {cl : Bool} {a ai : Option Addr} {c ci : Nat} (h : Good z B w L cl a c ai ci) (hl : 0 < L.length) : ∀ ad, ai = some ad → ad.block < w.heap.size := fun ad e => by
  obtain ⟨g, o, h1, _, h2, _⟩ := h.loose.2.2.2 (by have := h.loose.1; omega)
  rw [h1] at e
  injection e with e
  subst e
  exact h2
theorem good_set {z : Int} {B n : Nat} {w7 : World} {L : List Lt} {cl : Bool} {a3 ai : Option Addr} {c3 ci : Nat} {x0 y0 z0 : Value} (hq : w7.heap[B]? = some (.cells #[x0, y0, z0] 26 (0, 0))) (hF : LK.FarC w7 n a3 c3 L) (hn : B < n) (hL : LK.Loose w7 (B + 1) ai ci L) (hap : Apart L a3 ai) (hz : (L.length : Int) ≤ z) :
    Good z B (((w7.setCell ⟨B, 0, none⟩ (.int .i64 z)).setCell ⟨B, 1, none⟩ (.slice a3 L.length c3)).setCell ⟨B, 2, none⟩ (.bool cl)) L cl a3 c3 ai ci := by
  have h1 := set3_at hq (.int .i64 z) (.slice a3 L.length c3) (.bool cl)
  have h2 := (set3_far hF hn (.int .i64 z) (.slice a3 L.length c3) (.bool cl)).row
  have h3 : LK.Loose (set3 w7 B (.int .i64 z) (.slice a3 L.length c3) (.bool cl)) (B + 1) ai ci L := ((hL.set (p := ⟨B, 0, none⟩) (Nat.lt_succ_self B) _).set (p := ⟨B, 1, none⟩) (Nat.lt_succ_self B) _).set (p := ⟨B, 2, none⟩) (Nat.lt_succ_self B) _
  unfold set3 at h1 h2 h3
  exact ⟨h1, h2, h3, hap, hz⟩
/-- A variable that holds a duct, laid or written since wr; its letters in blocks of their own. -/
def LeftF (wr wx : World) (z : Int) (cl : Bool) (L : List Lt) (s : Value) : Prop :=
  ∃ g a c, s = .pointer (some ⟨g, 0, none⟩) ∧ wr.heap.size ≤ g ∧ wx.heap[g]? = some (.cells #[.int .i64 z, .slice a L.length c, .bool cl] 26 (0, 0)) ∧ LK.FarC wx wr.heap.size a c L ∧ Below wr.heap.size wr wx
theorem leftF_new {wr w2 : World} {z : Int} {cl : Bool} {L : List Lt} {a : Option Addr} {c base : Nat} (hF : LK.FarC w2 base a c L) (hb : wr.heap.size ≤ base) (hB : Below wr.heap.size wr w2) :
    LeftF wr (w2.alloc (.cells #[.int .i64 z, .slice a L.length c, .bool cl] 26)) z cl L (.pointer (some ⟨w2.heap.size, 0, none⟩)) := by
  have h1 := laid1 w2 (.cells #[.int .i64 z, .slice a L.length c, .bool cl] 26)
  have h2 := (hF.below ((Below.refl _ _).alloc (Nat.le_refl _) (.cells #[.int .i64 z, .slice a L.length c, .bool cl] 26))).mono hb
  have h3 := hB.alloc hB.size (.cells #[.int .i64 z, .slice a L.length c, .bool cl] 26)
  exact ⟨w2.heap.size, a, c, rfl, hB.size, h1, h2, h3⟩
theorem leftF_set {wr w2 : World} {z : Int} {cl : Bool} {L : List Lt} {a : Option Addr} {c base g : Nat} {x0 y0 z0 : Value} (hF : LK.FarC w2 base a c L) (hb : wr.heap.size ≤ base) (hB : Below wr.heap.size wr w2) (hg : g < base) (hwr : wr.heap.size ≤ g) (hq : w2.heap[g]? = some (.cells #[x0, y0, z0] 26 (0, 0))) :
    LeftF wr (((w2.setCell ⟨g, 0, none⟩ (.int .i64 z)).setCell ⟨g, 1, none⟩ (.slice a L.length c)).setCell ⟨g, 2, none⟩ (.bool cl)) z cl L (.pointer (some ⟨g, 0, none⟩)) := by
  have h1 := set3_at hq (.int .i64 z) (.slice a L.length c) (.bool cl)
  have h2 := (set3_far hF hg (.int .i64 z) (.slice a L.length c) (.bool cl)).mono hb
  have h3 := set3_below hB hwr (.int .i64 z) (.slice a L.length c) (.bool cl)
  unfold set3 at h1 h2 h3
  exact ⟨g, a, c, rfl, hwr, h1, h2, h3⟩
theorem far_same {w w' : World} {n : Nat} {a : Option Addr} {c : Nat} {L : List Lt} (h : LK.FarC w n a c L) (hs : w.heap.size ≤ w'.heap.size) (hb : ∀ j, n ≤ j → j < w.heap.size → w'.heap[j]? = w.heap[j]?) : LK.FarC w' n a c L :=
  ⟨⟨h.1.1, h.1.2.1, h.1.2.2.1, fun hl => by
    obtain ⟨b, o, h1, h2, h3⟩ := h.1.2.2.2 hl
    have h4 := h.2 hl _ h1
    have h5 := hb b h4 h2
    exact ⟨b, o, h1, by omega, fun j x hx i v hv => (World.cell?_of_block (w := w) (w' := w') (a := ⟨b, o + j * LK.k + i, none⟩) h5).trans (h3 j x hx i v hv)⟩⟩, h.2⟩
/-- The row has been appended to: what is as it was. -/
theorem app_next {z : Int} {B : Nat} {wr wc w6 : World} {J L : List Lt} {cl : Bool} {a ai a3 a6 : Option Addr} {c ci c3 : Nat} {ob : Obj} {row : Option Nat} (hG : Good z B wr J cl a c ai ci) (hBw : Below wr.heap.size wr wc) (hG6 : (wc.alloc ob).grownBy w6 row)
    (hrow : ∀ j, row = some j → B + 1 ≤ j ∧ 0 < ci ∧ ∃ ad, ai = some ad ∧ ad.block = j) (hO6 : (∃ g, a6 = some ⟨g, 0, none⟩ ∧ (wc.alloc ob).heap.size ≤ g) ∨ (a6 = ai ∧ 0 < ci)) (hF3 : LK.FarC wc wr.heap.size a3 c3 L) :
    (∀ j, j < wc.heap.size → (j = B ∨ wr.heap.size ≤ j) → w6.heap[j]? = wc.heap[j]?) ∧ LK.FarC w6 wr.heap.size a3 c3 L ∧ Apart L a3 a6 ∧ ∀ (n : Nat) (w0 : World), n ≤ B → n ≤ wc.heap.size → Below n w0 wc → Below n w0 w6 := by
  have hlt : ∀ ad, 0 < ci → ai = some ad → ad.block < wr.heap.size := fun ad hc e => by
    obtain ⟨g, o, h1, _, h2, _⟩ := hG.loose.2.2.2 hc
    rw [h1] at e
    injection e with e
    subst e
    exact h2
  have hne : ∀ j, j < wc.heap.size → (j = B ∨ wr.heap.size ≤ j) → w6.heap[j]? = wc.heap[j]? := fun j hj hj2 => by
    refine (hG6.block j (by simp; omega) (fun e => ?_)).trans (Below.heap_alloc _ _ _ hj)
    obtain ⟨h1, h2, ad, h3, h4⟩ := hrow j e.symm
    have h5 := hlt ad h2 h3
    omega
  have hs : wc.heap.size ≤ w6.heap.size := by have := hG6.size; simp at this; omega
  refine ⟨hne, far_same hF3 hs (fun j h1 h2 => hne j h2 (.inr h1)), ?_, fun n w0 hn hn2 h => (h.alloc hn2 ob).grown hG6 (by simp; omega) (fun j e => by have := (hrow j e).1; omega)⟩
  rcases hO6 with ⟨g, rfl, hg⟩ | ⟨rfl, hc⟩
  · exact apart_new hF3.1 (by simp at hg; omega)
  · exact apart_old hF3 (fun _ ad e => hlt ad hc e)
end Go.Proofs.Ytomiajgedcpjiaa
