/- Whether a case is ready by itself. -/
import Derived.Test.YtjiepdgflfhkcaaMore1
set_option linter.unusedSimpArgs false
set_option linter.unusedVariables false
namespace Go.Proofs.Ytjiepdgflfhkcaa
open Go.RowKit Go.Proofs.Ytjiepdgflfhkcaa.Kind Go.Proofs.Ytjiepdgflfhkcaa.P7

theorem box5 {w : World} {g : Nat} {x y z u v : Value} {t : TypeId} (h : w.heap[g]? = some (.cells #[x, y, z, u, v] t (0, 0))) :
    (w.cell? ⟨g, 0, none⟩ = some x ∧ w.cell? ⟨g, 1, none⟩ = some y ∧ w.cell? ⟨g, 2, none⟩ = some z ∧ w.cell? ⟨g, 3, none⟩ = some u ∧ w.cell? ⟨g, 4, none⟩ = some v) ∧ (w.frozen? ⟨g, 0, none⟩ = false ∧ w.frozen? ⟨g, 1, none⟩ = false ∧ w.frozen? ⟨g, 2, none⟩ = false ∧ w.frozen? ⟨g, 3, none⟩ = false ∧ w.frozen? ⟨g, 4, none⟩ = false) := by
  simp [World.cell?, World.frozen?, h]
theorem set5_at {w : World} {b : Nat} {y0 y1 y2 y3 y4 : Value} {t : TypeId} (h : w.heap[b]? = some (.cells #[y0, y1, y2, y3, y4] t (0, 0))) (x0 x1 x2 x3 x4 : Value) :
    (((((w.setCell ⟨b, 0, none⟩ x0).setCell ⟨b, 1, none⟩ x1).setCell ⟨b, 2, none⟩ x2).setCell ⟨b, 3, none⟩ x3).setCell ⟨b, 4, none⟩ x4).heap[b]? = some (.cells #[x0, x1, x2, x3, x4] t (0, 0)) := by
  have h0 := set_at h 0 x0
  rw [show (#[y0, y1, y2, y3, y4] : Array Value).setIfInBounds 0 x0 = #[x0, y1, y2, y3, y4] from rfl] at h0
  have h1 := set_at h0 1 x1
  rw [show (#[x0, y1, y2, y3, y4] : Array Value).setIfInBounds 1 x1 = #[x0, x1, y2, y3, y4] from rfl] at h1
  have h2 := set_at h1 2 x2
  rw [show (#[x0, x1, y2, y3, y4] : Array Value).setIfInBounds 2 x2 = #[x0, x1, x2, y3, y4] from rfl] at h2
  have h3 := set_at h2 3 x3
  rw [show (#[x0, x1, x2, y3, y4] : Array Value).setIfInBounds 3 x3 = #[x0, x1, x2, x3, y4] from rfl] at h3
  have h4 := set_at h3 4 x4
  exact h4
theorem set5_below {w0 w : World} {n b : Nat} (h : Below n w0 w) (hn : n ≤ b) (x0 x1 x2 x3 x4 : Value) : Below n w0 (((((w.setCell ⟨b, 0, none⟩ x0).setCell ⟨b, 1, none⟩ x1).setCell ⟨b, 2, none⟩ x2).setCell ⟨b, 3, none⟩ x3).setCell ⟨b, 4, none⟩ x4) :=
  ((((h.setCell (p := ⟨b, 0, none⟩) hn _).setCell (p := ⟨b, 1, none⟩) hn _).setCell (p := ⟨b, 2, none⟩) hn _).setCell (p := ⟨b, 3, none⟩) hn _).setCell (p := ⟨b, 4, none⟩) hn _

theorem drew_heap {V : World} {g : Nat} {o : Option Obj} (h : V.heap[g]? = o) : V.drew.heap[g]? = o := h
theorem after_call {W0 wC : World} {g B : Nat} {o : Obj} (hb : Below W0.heap.size W0 wC) (h : W0.heap[g]? = some o) (hB : B ≤ g) : wC.heap[g]? = some o ∧ B ≤ g := ⟨(hb.block g (lt_of_block h)).trans h, hB⟩

set_option maxHeartbeats 16000000 in
set_option maxRecDepth 1000000 in
theorem alone_in (o : Of) (D : List Dv) (clock : Int) (dial look : Bool) (b : Option Addr) (d : Nat) (w : World) (x : Dv) (r0 k1 k2 : Int) (rb : Bool) (hx : x = dvAt D o.duct) (hr0 : r0 = roomB x.cap x.n x.closed) (hrb : rb = (decide (0 < x.n) || x.closed)) (hk1 : k1 = clampP clock) (hk2 : k2 = clampP o.t) (hn : x.n ≤ 9223372036854775807) (hc : x.cap ≤ 9223372036854775807) (hR : DK.RowC w b d D)
    (r : Bool) (hr : Hid ((o.kind = 0 ∧ r = decide (0 < r0)) ∨ (o.kind = 1 ∧ r = rb) ∨ (o.kind = 2 ∧ r = decide (k2 ≤ k1)) ∨ (o.kind = 3 ∧ r = dial) ∨ (o.kind = 4 ∧ r = look))) :
    Calls Try.prog 14 #[.agg #[.int .i8 o.kind, .int .i64 o.duct, .int .i8 o.m.kind, .int .i64 o.m.fr, .int .i64 o.m.num, .int .i64 o.m.sock, .string o.m.text, .int .i64 o.m.e, .int .i64 o.t], .slice b D.length d, .int .i64 clock, .bool dial, .bool look] w fun e w' => e = .returned (.bool r) ∧ Below w.heap.size w w' := by
  have HRm := Lib.hid (fun w => room_any x.cap x.a x.n x.c x.closed r0 hn hc hr0 w)
  have HRd := Lib.hid (fun w => ready_any x.cap x.a x.n x.c x.closed rb hrb w)
  have HC1 := Lib.hid (fun w => clamp_any clock w)
  have HC2 := Lib.hid (fun w => clamp_any o.t w)
  rw [← hk1] at HC1
  rw [← hk2] at HC2
  obtain ⟨is, his⟩ : ∃ is, is = (atP D o.duct).isSome := ⟨_, rfl⟩
  have HB0 := Lib.hid (below1 w (.cells #[.int .i8 o.kind, .int .i64 o.duct, .int .i8 o.m.kind, .int .i64 o.m.fr, .int .i64 o.m.num, .int .i64 o.m.sock, .string o.m.text, .int .i64 o.m.e, .int .i64 o.t] 38))
  have HO0 := Lib.hid (laid1 w (.cells #[.int .i8 o.kind, .int .i64 o.duct, .int .i8 o.m.kind, .int .i64 o.m.fr, .int .i64 o.m.num, .int .i64 o.m.sock, .string o.m.text, .int .i64 o.m.e, .int .i64 o.t] 38))
  have HA := Lib.hid (atd_any D o.duct x is hx his b d _ (hR.below HB0.out))
  have hkd : 0 ≤ o.kind ∧ o.kind ≤ 4 := by rcases hr.out with h | h | h | h | h <;> omega
  have hkd1 : ¬ o.kind < 0 := by omega
  have hkd2 : ¬ 5 ≤ o.kind := by omega
  have HKD := Lib.hid hkd
  clear hR hx hr0 hrb hk1 hk2 hn hc his hkd
  obtain ⟨kind, duct, m, t⟩ := o
  obtain ⟨mk, mf, mn, ms, mt, me⟩ := m
  obtain ⟨cap, xa, xn, xc, cl⟩ := x
  dsimp only at hkd1 hkd2 HKD HRm HRd HC2 HA HB0 HO0 hr ⊢
  go_enter Try.func14, Try.ntmps14
  go_wp2_with fail
  with_reducible refine HA.out.mono ?_
  rintro e w1 ⟨rfl, hq⟩
  have hb1 := below1 w1 (.cells #[.int .i64 cap, .slice xa xn xc, .bool cl] 42)
  have HD1 := Lib.hid (laid1 w1 (.cells #[.int .i64 cap, .slice xa xn xc, .bool cl] 42))
  have HO1 := Lib.hid ((hq.block w.heap.size (by simp)).trans HO0.out)
  have hlt : w.heap.size < w1.heap.size := lt_of_block HO1.out
  have HO2 := Lib.hid ((hb1.block w.heap.size hlt).trans HO1.out)
  have HB1 := Lib.hid ((HB0.out.trans (hq.mono HB0.out.size)).trans (hb1.mono (by omega)))
  clear hq hb1 HA HB0 HO0 HO1
  go_upto_region 4 with fail
  obtain ⟨G, hG⟩ : ∃ G, G = w1.heap.size := ⟨_, rfl⟩
  obtain ⟨W, hW⟩ : ∃ W, W = w1.alloc (.cells #[.int .i64 cap, .slice xa xn xc, .bool cl] 42) := ⟨_, rfl⟩
  rw [← hG] at HD1 hlt ⊢
  rw [← hW] at HD1 HO2 HB1 ⊢
  clear hG hW
  have HSB := Lib.hid (show ∀ W', Below W.heap.size W W' → ((W'.cell? ⟨G, 0, none⟩ = some (.int .i64 cap) ∧ W'.cell? ⟨G, 1, none⟩ = some (.slice xa xn xc) ∧ W'.cell? ⟨G, 2, none⟩ = some (.bool cl)) ∧ W'.cell? ⟨w.heap.size, 8, none⟩ = some (.int .i64 t)) ∧ Below W.heap.size W W' from fun W' h => by
    have e1 := box3 ((h.block _ (lt_of_block HD1.out)).trans HD1.out)
    have e2 := box9 ((h.block _ (lt_of_block HO2.out)).trans HO2.out)
    exact ⟨⟨e1.1, e2.2.2.2.2.2.2.2.2⟩, h⟩)
  go_cut [13] (fun s13 wx => ∃ g, s13 = .pointer (some ⟨g, 0, none⟩) ∧ Hid (wx.heap[g]? = some (.cells #[.bool (decide (0 < r0)), .bool rb, .bool (decide (k2 ≤ k1)), .bool dial, .bool look] 68 (0, 0))) ∧ Hid (Below W.heap.size W wx))
  case first =>
    have hk := Below.refl W.heap.size W
    go_region_held3 (fun W' => ((W'.cell? ⟨G, 0, none⟩ = some (.int .i64 cap) ∧ W'.cell? ⟨G, 1, none⟩ = some (.slice xa xn xc) ∧ W'.cell? ⟨G, 2, none⟩ = some (.bool cl)) ∧ W'.cell? ⟨w.heap.size, 8, none⟩ = some (.int .i64 t)) ∧ Below W.heap.size W W')
      (first | assumption | exact HSB.out _ hk | exact HSB.out _ (hk.alloc hk.size _) | exact HSB.out _ (set5_below hk hzz.2 _ _ _ _ _) | exact HSB.out _ hk.drew | exact HSB.out _ (hk.alloc hk.size _).drew | exact HSB.out _ (set5_below hk hzz.2 _ _ _ _ _).drew)
      (first
        | (go_at_call 24; (with_reducible refine (HRm.out _).mono ?_); rintro e wC ⟨rfl, hbC⟩; (first | (have hzz := after_call (B := W.heap.size) hbC (laid1 _ _) hk.size; have hfz := box5 hzz.1) | (have hzz := after_call hbC hzz.1 hzz.2; have hfz := box5 hzz.1) | skip); have hk := kept_call (by assumption) hbC)
        | (go_at_call 25; (with_reducible refine (HRd.out _).mono ?_); rintro e wC ⟨rfl, hbC⟩; (first | (have hzz := after_call (B := W.heap.size) hbC (laid1 _ _) hk.size; have hfz := box5 hzz.1) | (have hzz := after_call hbC hzz.1 hzz.2; have hfz := box5 hzz.1) | skip); have hk := kept_call (by assumption) hbC)
        | (go_at_call 26; first | ((with_reducible refine (HC1.out _).mono ?_); rintro e wC ⟨rfl, rfl⟩) | ((with_reducible refine (HC2.out _).mono ?_); rintro e wC ⟨rfl, rfl⟩)))
    all_goals
      go_wp2_with fail
      go_meet
      first
        | with_reducible exact ⟨_, rfl, Lib.hid (laid1 _ _), Lib.hid (hk.alloc hk.size _)⟩
        | with_reducible exact ⟨_, rfl, Lib.hid (set5_at hzz.1 _ _ _ _ _), Lib.hid (set5_below hk hzz.2 _ _ _ _ _)⟩
  case rest =>
    obtain ⟨g, rfl, hg, hbW⟩ := hcut
    have hO3 := (hbW.out.block _ (lt_of_block HO2.out)).trans HO2.out
    have HB3 := Lib.hid (HB1.out.trans (hbW.out.mono HB1.out.size))
    obtain ⟨c0, _⟩ := box9 hO3
    obtain ⟨⟨d0, d1, d2, d3, d4⟩, _⟩ := box5 hg.out
    have HR := Lib.hid hr.out
    clear hr hO3 HD1 HO2 HB1 HSB HRm HRd HC1 HC2 hbW hg
    rcases HR.out with ⟨rfl, rfl⟩ | ⟨rfl, rfl⟩ | ⟨rfl, rfl⟩ | ⟨rfl, rfl⟩ | ⟨rfl, rfl⟩
    all_goals
      clear HR HKD
      go_wp2_with fail
      go_ret
      exact ⟨rfl, HB3.out⟩

end Go.Proofs.Ytjiepdgflfhkcaa
