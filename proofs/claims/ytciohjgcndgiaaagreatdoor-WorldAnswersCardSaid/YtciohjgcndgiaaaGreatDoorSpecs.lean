/- What is asked of the world package's calls: the document's words, as contracts. -/
import Derived.Test.YtciohjgcndgiaaaGreatDoorEvents
import Derived.Test.YtciohjgcndgiaaaGreatDoorBoxes
set_option linter.unusedSimpArgs false
set_option linter.unusedVariables false
namespace Go.Proofs.YtciohjgcndgiaaaGreatDoor
open Go.RowKit Go.Proofs.YtciohjgcndgiaaaGreatDoor.Kind

/-- A plan that memory holds. -/
structure Mem (P : Pl) : Prop where
  names : ∀ z ∈ P.zones, z.name.size ≤ 140737488355328
  fits : Fits P
  fates : ∀ f ∈ P.fates, f.l.length ≤ 140737488351232
  drops : P.drops.length ≤ 17592186044416
/-- A world that is not too great, its numbers such as an int holds. -/
structure Room (A : Wo) : Prop where
  mem : Mem A.plan
  few : Few A.plan
  socks : A.socks.length ≤ 300
  marks : A.marks.length ≤ 600
  dials : A.dials.length ≤ 400
  looks : A.looks.length ≤ 400
  ticks : A.plan.ticks ≤ 9223372036854775807
  clock : -9223372036854775808 ≤ A.clock ∧ A.clock ≤ 9223372036854775807
/-- A row that is read, in none of the blocks N. -/
def Kind.OffC {α : Type} (K : Kind Tryz.prog α) (N : Nat → Prop) (w : World) (a : Option Addr) (c : Nat) (l : List α) : Prop := K.RowC w a c l ∧ (0 < l.length → ∀ ad, a = some ad → ¬ N ad.block)
section
variable {α : Type} {K : Kind Tryz.prog α} {N M : Nat → Prop} {w w' : World} {a : Option Addr} {c : Nat} {l : List α}
theorem Kind.OffC.below (h : K.OffC N w a c l) (hb : Below w.heap.size w w') : K.OffC N w' a c l := ⟨h.1.below hb, h.2⟩
theorem Kind.OffC.set (h : K.OffC N w a c l) {p : Addr} (hp : N p.block) (x : Value) : K.OffC N (w.setCell p x) a c l :=
  ⟨⟨h.1.1, h.1.2.1, h.1.2.2.1, h.1.2.2.2.set (fun hl ad e e2 => h.2 hl ad e (e2 ▸ hp)) x⟩, h.2⟩
theorem Kind.OffC.more (h : K.OffC N w a c l) (hN : ∀ b, M b → N b ∨ w.heap.size ≤ b) : K.OffC M w a c l := ⟨h.1, fun hl ad e hm => by
  rcases hN _ hm with h1 | h1
  · exact h.2 hl ad e h1
  · obtain ⟨b, o, e2, hlt, _⟩ := h.1.2.2.2 hl
    rw [e] at e2
    injection e2 with e2
    subst e2
    dsimp only at h1
    omega⟩
theorem Kind.RowC.off (h : K.RowC w a c l) : K.OffC (fun _ => False) w a c l := ⟨h, fun _ _ _ h => h⟩
theorem Kind.FarC.off {base : Nat} (h : K.FarC w base a c l) (hN : ∀ b, N b → b < base) : K.OffC N w a c l := ⟨h.1, fun hl ad e hm => by
  have h1 := hN _ hm
  have h2 := h.2 hl ad e
  omega⟩
theorem off_none (N : Nat → Prop) (w : World) : K.OffC N w none 0 [] := ⟨row_none w, fun h => by simp at h⟩
end
/-- As it was, but for the blocks N. -/
structure But (N : Nat → Prop) (w w' : World) : Prop where
  os : w'.os = w.os
  tape : w'.tape = w.tape
  output : w'.output = w.output
  size : w.heap.size ≤ w'.heap.size
  block : ∀ k, k < w.heap.size → ¬ N k → w'.heap[k]? = w.heap[k]?
section
variable {N M : Nat → Prop} {w w' w2 : World}
theorem But.refl (N : Nat → Prop) (w : World) : But N w w := ⟨rfl, rfl, rfl, Nat.le_refl _, fun _ _ _ => rfl⟩
theorem But.trans (h : But N w w') (k : But N w' w2) : But N w w2 :=
  ⟨k.os.trans h.os, k.tape.trans h.tape, k.output.trans h.output, Nat.le_trans h.size k.size, fun i hi hn => (k.block i (Nat.lt_of_lt_of_le hi h.size) hn).trans (h.block i hi hn)⟩
theorem But.of (h : Below w.heap.size w w') : But N w w' := ⟨h.os, h.tape, h.output, h.size, fun k hk _ => h.block k hk⟩
theorem But.bare (h : But (fun _ => False) w w') : Below w.heap.size w w' := ⟨h.os, h.tape, h.output, h.size, fun k hk => h.block k hk (fun h => h)⟩
theorem But.set {p : Addr} (hp : N p.block) (x : Value) : But N w (w.setCell p x) :=
  ⟨rfl, rfl, rfl, by simp [World.setCell], fun k _ hn => Below.heap_setCell _ _ _ _ (fun e => hn (e ▸ hp))⟩
theorem But.less (h : But M w w') (hN : ∀ b, M b → N b ∨ w.heap.size ≤ b) : But N w w' :=
  ⟨h.os, h.tape, h.output, h.size, fun k hk hn => h.block k hk (fun hm => by
    rcases hN k hm with h1 | h1
    · exact hn h1
    · omega)⟩
/-- A plan that lies in none of the blocks N: it stays whatever is written there. -/
def PlanN (N : Nat → Prop) (w : World) (v : Pv) (P : Pl) : Prop := ∀ w', But N w w' → PlanC w' v P
variable {v : Pv} {P : Pl}
theorem PlanN.now (h : PlanN N w v P) : PlanC w v P := h w (But.refl _ _)
theorem PlanN.below (h : PlanN N w v P) (hb : Below w.heap.size w w') : PlanN N w' v P := fun w2 h2 => h w2 ((But.of hb).trans h2)
theorem PlanN.set (h : PlanN N w v P) {p : Addr} (hp : N p.block) (x : Value) : PlanN N (w.setCell p x) v P := fun w2 h2 => h w2 ((But.set hp x).trans h2)
theorem PlanN.more (h : PlanN N w v P) (hN : ∀ b, M b → N b ∨ w.heap.size ≤ b) : PlanN M w v P := fun w2 h2 => h w2 (h2.less hN)
theorem PlanC.firm (h : PlanC w v P) (hN : ∀ b, N b → w.heap.size ≤ b) : PlanN N w v P := fun _ h2 => h.below (But.less (N := fun _ => False) h2 (fun b hb => .inr (hN b hb))).bare
end
/-- A world's own plan and rows, in none of the blocks N. -/
structure FlatN (N : Nat → Prop) (w : World) (v : Wv) (A : Wo) : Prop where
  plan : PlanN N w v.p A.plan
  socks : SK.OffC N w v.sa v.sc A.socks
  dials : DK.OffC N w v.ia v.ic A.dials
  looks : LK.OffC N w v.la v.lc A.looks
  marks : NK.OffC N w v.ma v.mc A.marks
section
variable {N M : Nat → Prop} {w w' : World} {v : Wv} {A : Wo}
theorem FlatN.below (h : FlatN N w v A) (hb : Below w.heap.size w w') : FlatN N w' v A := ⟨h.plan.below hb, h.socks.below hb, h.dials.below hb, h.looks.below hb, h.marks.below hb⟩
theorem FlatN.set (h : FlatN N w v A) {p : Addr} (hp : N p.block) (x : Value) : FlatN N (w.setCell p x) v A := ⟨h.plan.set hp x, h.socks.set hp x, h.dials.set hp x, h.looks.set hp x, h.marks.set hp x⟩
theorem FlatN.more (h : FlatN N w v A) (hN : ∀ b, M b → N b ∨ w.heap.size ≤ b) : FlatN M w v A := ⟨h.plan.more hN, h.socks.more hN, h.dials.more hN, h.looks.more hN, h.marks.more hN⟩
theorem WorldC.flat (h : WorldC w v A) : FlatN (fun _ => False) w v A := ⟨h.plan.firm (fun _ h => h.elim), h.socks.off, h.dials.off, h.looks.off, h.marks.off⟩
theorem FlatN.world (h : FlatN N w v A) : WorldC w v A := ⟨h.plan.now, h.socks.1, h.dials.1, h.looks.1, h.marks.1⟩
end
/-- A world and an error are answered: its plan and rows in none of the blocks N. -/
def RetW (N : Nat → Prop) (w : World) (A : Wo) (r : Int) (e : Ending) (w' : World) : Prop := ∃ v, e = .returned (.tuple #[Wv.val v A, .int .i64 r]) ∧ FlatN N w' v A ∧ Below w.heap.size w w'
def RetM (N : Nat → Prop) (w : World) (A : Wo) (m : Lt) (r : Int) (e : Ending) (w' : World) : Prop := ∃ v, e = .returned (.tuple #[Wv.val v A, m.v, .int .i64 r]) ∧ FlatN N w' v A ∧ Below w.heap.size w w'
def RetB (w : World) (r : Bool) (e : Ending) (w' : World) : Prop := e = .returned (.bool r) ∧ Below w.heap.size w w'
def RetI (w : World) (r : Int) (e : Ending) (w' : World) : Prop := e = .returned (.int .i64 r) ∧ Below w.heap.size w w'

def NewSpec (R : Rules) : Prop := ∀ (N : Nat → Prop) (P : Pl) (v : Pv) (w : World) (A : Wo) (r : Int), (∀ b, N b → b < w.heap.size) → Mem P → PlanC w v P → A = newP R P → r = newE R P →
  Calls Tryz.prog 4 #[v.val P] w (RetW N w A r)
def DialSpec : Prop := ∀ (N : Nat → Prop) (A : Wo) (v : Wv) (y : Int) (a : Ad) (w : World) (B : Wo) (r : Int), (∀ b, N b → b < w.heap.size) → Room A → FlatN N w v A → B = dialP A y a → r = dialE A y a →
  Calls Tryz.prog 15 #[v.val A, .int .i64 y, a.v] w (RetW N w B r)
def CutSpec : Prop := ∀ (N : Nat → Prop) (A : Wo) (v : Wv) (y : Int) (w : World) (B : Wo), (∀ b, N b → b < w.heap.size) → Room A → FlatN N w v A → B = cutP A y →
  Calls Tryz.prog 18 #[v.val A, .int .i64 y] w fun e w' => ∃ u, e = .returned (Wv.val u B) ∧ FlatN N w' u B ∧ Below w.heap.size w w'
def ReadySpec : Prop := ∀ (A : Wo) (v : Wv) (y : Int) (w : World) (r : Bool), Room A → WorldC w v A → r = readyP A y →
  Calls Tryz.prog 16 #[v.val A, .int .i64 y] w (RetB w r)
def EndSpec : Prop := ∀ (N : Nat → Prop) (A : Wo) (v : Wv) (y : Int) (w : World) (B : Wo) (m : Lt) (r : Int), (∀ b, N b → b < w.heap.size) → Room A → FlatN N w v A → B = endP A y → m = endM A y → r = endE A y →
  Calls Tryz.prog 19 #[v.val A, .int .i64 y] w (RetM N w B m r)
def UnderSpec : Prop := ∀ (A : Wo) (v : Wv) (l : List Ad) (a : Option Addr) (c : Nat) (w : World) (r : Int), Room A → l.length ≤ 400 → WorldC w v A → AK.RowC w a c l → r = (underP A l : Int) →
  Calls Tryz.prog 17 #[v.val A, .slice a l.length c] w (RetI w r)
/-- Under of addresses such as memory holds. -/
def UnderOkSpec : Prop := ∀ (A : Wo) (v : Wv) (l : List Ad) (a : Option Addr) (c : Nat) (w : World) (r : Int), Room A → l.length ≤ 400 → (∀ d ∈ A.dials, okA d.ad) → (∀ x ∈ l, okA x) → WorldC w v A → AK.RowC w a c l → r = (underP A l : Int) →
  Calls Tryz.prog 17 #[v.val A, .slice a l.length c] w (RetI w r)
def WakesSpec : Prop := ∀ w : World, Calls Tryz.prog 6 #[] w (RetB w true)
end Go.Proofs.YtciohjgcndgiaaaGreatDoor

set_option linter.unusedSimpArgs false
set_option linter.unusedVariables false
namespace Go.Proofs.YtciohjgcndgiaaaGreatDoor
open Go.RowKit Go.Proofs.YtciohjgcndgiaaaGreatDoor.Kind

end Go.Proofs.YtciohjgcndgiaaaGreatDoor

set_option linter.unusedSimpArgs false
set_option linter.unusedVariables false
namespace Go.Proofs.YtciohjgcndgiaaaGreatDoor
open Go.RowKit Go.Proofs.YtciohjgcndgiaaaGreatDoor.Kind

end Go.Proofs.YtciohjgcndgiaaaGreatDoor

set_option linter.unusedSimpArgs false
set_option linter.unusedVariables false
namespace Go.Proofs.YtciohjgcndgiaaaGreatDoor
open Go.RowKit Go.Proofs.YtciohjgcndgiaaaGreatDoor.Kind

theorem row_max {α : Type} {K : Kind Tryz.prog α} {w : World} {a : Option Addr} {c : Nat} {l : List α} (h : K.RowC w a c l) : l.length ≤ 9223372036854775807 := by
  have h1 := h.1
  have h2 := h.2.1
  unfold maxLen at h2
  omega
theorem nest_max {α β : Type} {K : Kind Tryz.prog α} {Q : World → α → β → Prop} {w : World} {a : Option Addr} {c : Nat} {hs : List α} {L : List β} (h : K.NestC Q w a c hs L) : L.length ≤ 9223372036854775807 := by
  rw [← h.1]
  exact row_max h.2.1
/-- A world's headers: a plan, nothing else. -/
def Wv.bare (v : Pv) : Wv := ⟨v, none, 0, none, 0, none, 0, none, 0⟩
def Pv.bare : Pv := ⟨none, 0, none, 0, none, 0⟩
theorem plan_bare (w : World) : PlanC w Pv.bare Pl.zero := ⟨⟨[], nest_nil (fun w => row_none w) _⟩, ⟨[], nest_nil (fun w => row_none w) _⟩, row_none _⟩
theorem world_bare {w : World} {v : Pv} {P : Pl} (h : PlanC w v P) : WorldC w (Wv.bare v) (Wo.new P) := ⟨h, row_none _, row_none _, row_none _, row_none _⟩
theorem flat_bare {N : Nat → Prop} {w : World} {v : Pv} {P : Pl} (h : PlanN N w v P) : FlatN N w (Wv.bare v) (Wo.new P) := ⟨h, off_none _ _, off_none _ _, off_none _ _, off_none _ _⟩
theorem new_yes {R : Rules} {P : Pl} (h : checkB R P = true) : Wo.new P = newP R P ∧ (0 : Int) = newE R P := by
  unfold newP newE
  simp [h]
theorem new_no {R : Rules} {P : Pl} (h : ¬ checkB R P = true) : Wo.new Pl.zero = newP R P ∧ (90 : Int) = newE R P := by
  unfold newP newE
  simp [h]
/-- A world's box. -/
theorem boxW {w W : World} {v : Wv} {A : Wo} {g : Nat} (hL : w.heap[g]? = some (.cells #[.slice v.p.za A.plan.zones.length v.p.zc, .slice v.p.fa A.plan.fates.length v.p.fc, .int .i64 A.plan.ticks, .slice v.p.da A.plan.drops.length v.p.dc, .int .i64 A.clock, .slice v.sa A.socks.length v.sc, .slice v.ia A.dials.length v.ic, .slice v.la A.looks.length v.lc, .int .i64 A.dropped, .slice v.ma A.marks.length v.mc] 32 (0, 0))) (h : Below w.heap.size w W) :
    (W.cell? ⟨g, 0, none⟩ = some (.slice v.p.za A.plan.zones.length v.p.zc) ∧ W.cell? ⟨g, 1, none⟩ = some (.slice v.p.fa A.plan.fates.length v.p.fc) ∧ W.cell? ⟨g, 2, none⟩ = some (.int .i64 A.plan.ticks) ∧ W.cell? ⟨g, 3, none⟩ = some (.slice v.p.da A.plan.drops.length v.p.dc) ∧ W.cell? ⟨g, 4, none⟩ = some (.int .i64 A.clock) ∧ W.cell? ⟨g, 5, none⟩ = some (.slice v.sa A.socks.length v.sc) ∧ W.cell? ⟨g, 6, none⟩ = some (.slice v.ia A.dials.length v.ic) ∧ W.cell? ⟨g, 7, none⟩ = some (.slice v.la A.looks.length v.lc) ∧ W.cell? ⟨g, 8, none⟩ = some (.int .i64 A.dropped) ∧ W.cell? ⟨g, 9, none⟩ = some (.slice v.ma A.marks.length v.mc)) := (boxes10 ((h.block _ (lt_of_block hL)).trans hL)).1
theorem boxF {w W : World} {v : Wv} {A : Wo} {g : Nat} (hL : w.heap[g]? = some (.cells #[.slice v.p.za A.plan.zones.length v.p.zc, .slice v.p.fa A.plan.fates.length v.p.fc, .int .i64 A.plan.ticks, .slice v.p.da A.plan.drops.length v.p.dc, .int .i64 A.clock, .slice v.sa A.socks.length v.sc, .slice v.ia A.dials.length v.ic, .slice v.la A.looks.length v.lc, .int .i64 A.dropped, .slice v.ma A.marks.length v.mc] 32 (0, 0))) (h : Below w.heap.size w W) :
    (W.frozen? ⟨g, 0, none⟩ = false ∧ W.frozen? ⟨g, 1, none⟩ = false ∧ W.frozen? ⟨g, 2, none⟩ = false ∧ W.frozen? ⟨g, 3, none⟩ = false ∧ W.frozen? ⟨g, 4, none⟩ = false ∧ W.frozen? ⟨g, 5, none⟩ = false ∧ W.frozen? ⟨g, 6, none⟩ = false ∧ W.frozen? ⟨g, 7, none⟩ = false ∧ W.frozen? ⟨g, 8, none⟩ = false ∧ W.frozen? ⟨g, 9, none⟩ = false) := (boxes10 ((h.block _ (lt_of_block hL)).trans hL)).2
theorem loadW {w : World} {v : Wv} {A : Wo} {b : Nat} (h : w.heap[b]? = some (.cells #[.slice v.p.za A.plan.zones.length v.p.zc, .slice v.p.fa A.plan.fates.length v.p.fc, .int .i64 A.plan.ticks, .slice v.p.da A.plan.drops.length v.p.dc, .int .i64 A.clock, .slice v.sa A.socks.length v.sc, .slice v.ia A.dials.length v.ic, .slice v.la A.looks.length v.lc, .int .i64 A.dropped, .slice v.ma A.marks.length v.mc] 32 (0, 0))) :
    (loadVar 32 ⟨b, 0, none⟩).run Tryz.prog w = .ok (.agg #[.slice v.p.za A.plan.zones.length v.p.zc, .slice v.p.fa A.plan.fates.length v.p.fc, .int .i64 A.plan.ticks, .slice v.p.da A.plan.drops.length v.p.dc, .int .i64 A.clock, .slice v.sa A.socks.length v.sc, .slice v.ia A.dials.length v.ic, .slice v.la A.looks.length v.lc, .int .i64 A.dropped, .slice v.ma A.marks.length v.mc]) w := by
  obtain ⟨⟨h0, h1, h2, h3, h4, h5, h6, h7, h8, h9⟩, _⟩ := boxes10 h
  have ag1 := Tryz.isAgg32
  have sz1 := Tryz.sizeOf32
  have ag2 := Tryz.isAgg26
  have sz2 := Tryz.sizeOf26
  clear h
  simp [loadVar, go_sem, *]
end Go.Proofs.YtciohjgcndgiaaaGreatDoor

set_option linter.unusedSimpArgs false
set_option linter.unusedVariables false
namespace Go.Proofs.YtciohjgcndgiaaaGreatDoor
open Go.RowKit Go.Proofs.YtciohjgcndgiaaaGreatDoor.Kind

def set10 (w : World) (b : Nat) (x0 x1 x2 x3 x4 x5 x6 x7 x8 x9 : Value) : World := ((((((((((w.setCell ⟨b, 0, none⟩ x0).setCell ⟨b, 1, none⟩ x1).setCell ⟨b, 2, none⟩ x2).setCell ⟨b, 3, none⟩ x3).setCell ⟨b, 4, none⟩ x4).setCell ⟨b, 5, none⟩ x5).setCell ⟨b, 6, none⟩ x6).setCell ⟨b, 7, none⟩ x7).setCell ⟨b, 8, none⟩ x8).setCell ⟨b, 9, none⟩ x9)
set_option maxHeartbeats 1000000 in
theorem set10_at {w : World} {b : Nat} {y0 y1 y2 y3 y4 y5 y6 y7 y8 y9 : Value} {t : TypeId} (h : w.heap[b]? = some (.cells #[y0, y1, y2, y3, y4, y5, y6, y7, y8, y9] t (0, 0))) (x0 x1 x2 x3 x4 x5 x6 x7 x8 x9 : Value) :
    (set10 w b x0 x1 x2 x3 x4 x5 x6 x7 x8 x9).heap[b]? = some (.cells #[x0, x1, x2, x3, x4, x5, x6, x7, x8, x9] t (0, 0)) :=
  by
  have h0 : (w.setCell ⟨b, 0, none⟩ x0).heap[b]? = some (.cells #[x0, y1, y2, y3, y4, y5, y6, y7, y8, y9] t (0, 0)) := set_at h 0 x0
  have h1 : ((w.setCell ⟨b, 0, none⟩ x0).setCell ⟨b, 1, none⟩ x1).heap[b]? = some (.cells #[x0, x1, y2, y3, y4, y5, y6, y7, y8, y9] t (0, 0)) := set_at h0 1 x1
  have h2 : (((w.setCell ⟨b, 0, none⟩ x0).setCell ⟨b, 1, none⟩ x1).setCell ⟨b, 2, none⟩ x2).heap[b]? = some (.cells #[x0, x1, x2, y3, y4, y5, y6, y7, y8, y9] t (0, 0)) := set_at h1 2 x2
  have h3 : ((((w.setCell ⟨b, 0, none⟩ x0).setCell ⟨b, 1, none⟩ x1).setCell ⟨b, 2, none⟩ x2).setCell ⟨b, 3, none⟩ x3).heap[b]? = some (.cells #[x0, x1, x2, x3, y4, y5, y6, y7, y8, y9] t (0, 0)) := set_at h2 3 x3
  have h4 : (((((w.setCell ⟨b, 0, none⟩ x0).setCell ⟨b, 1, none⟩ x1).setCell ⟨b, 2, none⟩ x2).setCell ⟨b, 3, none⟩ x3).setCell ⟨b, 4, none⟩ x4).heap[b]? = some (.cells #[x0, x1, x2, x3, x4, y5, y6, y7, y8, y9] t (0, 0)) := set_at h3 4 x4
  have h5 : ((((((w.setCell ⟨b, 0, none⟩ x0).setCell ⟨b, 1, none⟩ x1).setCell ⟨b, 2, none⟩ x2).setCell ⟨b, 3, none⟩ x3).setCell ⟨b, 4, none⟩ x4).setCell ⟨b, 5, none⟩ x5).heap[b]? = some (.cells #[x0, x1, x2, x3, x4, x5, y6, y7, y8, y9] t (0, 0)) := set_at h4 5 x5
  have h6 : (((((((w.setCell ⟨b, 0, none⟩ x0).setCell ⟨b, 1, none⟩ x1).setCell ⟨b, 2, none⟩ x2).setCell ⟨b, 3, none⟩ x3).setCell ⟨b, 4, none⟩ x4).setCell ⟨b, 5, none⟩ x5).setCell ⟨b, 6, none⟩ x6).heap[b]? = some (.cells #[x0, x1, x2, x3, x4, x5, x6, y7, y8, y9] t (0, 0)) := set_at h5 6 x6
  have h7 : ((((((((w.setCell ⟨b, 0, none⟩ x0).setCell ⟨b, 1, none⟩ x1).setCell ⟨b, 2, none⟩ x2).setCell ⟨b, 3, none⟩ x3).setCell ⟨b, 4, none⟩ x4).setCell ⟨b, 5, none⟩ x5).setCell ⟨b, 6, none⟩ x6).setCell ⟨b, 7, none⟩ x7).heap[b]? = some (.cells #[x0, x1, x2, x3, x4, x5, x6, x7, y8, y9] t (0, 0)) := set_at h6 7 x7
  have h8 : (((((((((w.setCell ⟨b, 0, none⟩ x0).setCell ⟨b, 1, none⟩ x1).setCell ⟨b, 2, none⟩ x2).setCell ⟨b, 3, none⟩ x3).setCell ⟨b, 4, none⟩ x4).setCell ⟨b, 5, none⟩ x5).setCell ⟨b, 6, none⟩ x6).setCell ⟨b, 7, none⟩ x7).setCell ⟨b, 8, none⟩ x8).heap[b]? = some (.cells #[x0, x1, x2, x3, x4, x5, x6, x7, x8, y9] t (0, 0)) := set_at h7 8 x8
  have h9 : ((((((((((w.setCell ⟨b, 0, none⟩ x0).setCell ⟨b, 1, none⟩ x1).setCell ⟨b, 2, none⟩ x2).setCell ⟨b, 3, none⟩ x3).setCell ⟨b, 4, none⟩ x4).setCell ⟨b, 5, none⟩ x5).setCell ⟨b, 6, none⟩ x6).setCell ⟨b, 7, none⟩ x7).setCell ⟨b, 8, none⟩ x8).setCell ⟨b, 9, none⟩ x9).heap[b]? = some (.cells #[x0, x1, x2, x3, x4, x5, x6, x7, x8, x9] t (0, 0)) := set_at h8 9 x9
  exact h9
theorem set10_other (w : World) (b g : Nat) (x0 x1 x2 x3 x4 x5 x6 x7 x8 x9 : Value) (h : g ≠ b) : (set10 w b x0 x1 x2 x3 x4 x5 x6 x7 x8 x9).heap[g]? = w.heap[g]? := by
  unfold set10
  repeat rw [Below.heap_setCell _ _ _ g h]
theorem set10_below {w0 w : World} {n b : Nat} (h : Below n w0 w) (hn : n ≤ b) (x0 x1 x2 x3 x4 x5 x6 x7 x8 x9 : Value) : Below n w0 (set10 w b x0 x1 x2 x3 x4 x5 x6 x7 x8 x9) := ((((((((((h.setCell (p := ⟨b, 0, none⟩) hn _).setCell (p := ⟨b, 1, none⟩) hn _).setCell (p := ⟨b, 2, none⟩) hn _).setCell (p := ⟨b, 3, none⟩) hn _).setCell (p := ⟨b, 4, none⟩) hn _).setCell (p := ⟨b, 5, none⟩) hn _).setCell (p := ⟨b, 6, none⟩) hn _).setCell (p := ⟨b, 7, none⟩) hn _).setCell (p := ⟨b, 8, none⟩) hn _).setCell (p := ⟨b, 9, none⟩) hn _)
theorem set10_far {α : Type} {K : Kind Tryz.prog α} {w : World} {base b : Nat} {a : Option Addr} {c : Nat} {l : List α} (h : K.FarC w base a c l) (hb : b < base) (x0 x1 x2 x3 x4 x5 x6 x7 x8 x9 : Value) : K.FarC (set10 w b x0 x1 x2 x3 x4 x5 x6 x7 x8 x9) base a c l := ((((((((((h.set (p := ⟨b, 0, none⟩) hb _).set (p := ⟨b, 1, none⟩) hb _).set (p := ⟨b, 2, none⟩) hb _).set (p := ⟨b, 3, none⟩) hb _).set (p := ⟨b, 4, none⟩) hb _).set (p := ⟨b, 5, none⟩) hb _).set (p := ⟨b, 6, none⟩) hb _).set (p := ⟨b, 7, none⟩) hb _).set (p := ⟨b, 8, none⟩) hb _).set (p := ⟨b, 9, none⟩) hb _)
theorem set10_flat {N : Nat → Prop} {w : World} {b : Nat} {v : Wv} {A : Wo} (h : FlatN N w v A) (hb : N b) (x0 x1 x2 x3 x4 x5 x6 x7 x8 x9 : Value) : FlatN N (set10 w b x0 x1 x2 x3 x4 x5 x6 x7 x8 x9) v A := ((((((((((h.set (p := ⟨b, 0, none⟩) hb _).set (p := ⟨b, 1, none⟩) hb _).set (p := ⟨b, 2, none⟩) hb _).set (p := ⟨b, 3, none⟩) hb _).set (p := ⟨b, 4, none⟩) hb _).set (p := ⟨b, 5, none⟩) hb _).set (p := ⟨b, 6, none⟩) hb _).set (p := ⟨b, 7, none⟩) hb _).set (p := ⟨b, 8, none⟩) hb _).set (p := ⟨b, 9, none⟩) hb _)
theorem set10_size (w : World) (b : Nat) (x0 x1 x2 x3 x4 x5 x6 x7 x8 x9 : Value) : (set10 w b x0 x1 x2 x3 x4 x5 x6 x7 x8 x9).heap.size = w.heap.size := by simp [set10]
end Go.Proofs.YtciohjgcndgiaaaGreatDoor

set_option linter.unusedSimpArgs false
set_option linter.unusedVariables false
namespace Go.Proofs.YtciohjgcndgiaaaGreatDoor
open Go.RowKit Go.Proofs.YtciohjgcndgiaaaGreatDoor.Kind

def PFateSpec : Prop := ∀ (P : Pl) (v : Pv) (a : Ad) (n : Int) (w : World) (r : Int), PlanC w v P → r = fateP P a n →
  Calls Tryz.prog 40 #[v.val P, a.v, .int .i64 n] w fun e w' => e = .returned (.int .i8 r) ∧ Below w.heap.size w w'
def PCheckSpec (R : Rules) : Prop := ∀ (P : Pl) (v : Pv) (w : World) (r : Int), (∀ z ∈ P.zones, z.name.size ≤ 140737488355328) → PlanC w v P → r = (if checkB R P = true then 0 else 90) →
  Calls Tryz.prog 12 #[v.val P] w fun e w' => e = .returned (.int .i64 r) ∧ Below w.heap.size w w'
end Go.Proofs.YtciohjgcndgiaaaGreatDoor

