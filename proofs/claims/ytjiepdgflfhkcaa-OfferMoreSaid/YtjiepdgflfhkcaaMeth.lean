/- What a select is asked of one case: is it ready by itself, who takes what it puts. -/
import Derived.Test.YtjiepdgflfhkcaaTakers
set_option linter.unusedSimpArgs false
set_option linter.unusedVariables false
namespace Go.Proofs.Ytjiepdgflfhkcaa
open Go.RowKit Go.Proofs.Ytjiepdgflfhkcaa.Kind Go.Proofs.Ytjiepdgflfhkcaa.P7

/-- The cases of all, and what they are held against. -/
structure Sv where
  a : Option Addr
  c : Nat
  hs : List Hv
  R : List (List Of)
  b : Option Addr
  d : Nat
  D : List Dv
  clock : Int
  e : Option Addr
  g : Nat
  dl : List Bool
  f : Option Addr
  h : Nat
  lk : List Bool
  tg : Nat
  th : List Hv
structure SelOk (s : Sv) (w : World) : Prop where
  rows : RowsC w s.a s.c s.hs s.R
  ducts : DK.RowC w s.b s.d s.D
  dial : BK.RowC w s.e s.g s.dl
  look : BK.RowC w s.f s.h s.lk
  tab : TableC w (some ⟨s.tg, 0, none⟩) s.D.length s.th (allT s.D s.R s.R.length)
  thl : s.th.length = s.D.length
  d200 : s.D.length ≤ 200
  small : ∀ x ∈ s.D, x.n ≤ 100 ∧ x.cap ≤ 9223372036854775807
theorem SelOk.below {s : Sv} {w w' : World} (h : SelOk s w) (hb : Below w.heap.size w w') : SelOk s w' :=
  ⟨h.rows.below hb, h.ducts.below hb, h.dial.below hb, h.look.below hb, h.tab.below hb, h.thl, h.d200, h.small⟩
theorem box6c {w : World} {g : Nat} {x0 x1 x2 x3 x4 x5 : Value} {t : TypeId} (h : w.heap[g]? = some (.cells #[x0, x1, x2, x3, x4, x5] t (0, 0))) :
    w.cell? ⟨g, 0, none⟩ = some x0 ∧ w.cell? ⟨g, 1, none⟩ = some x1 ∧ w.cell? ⟨g, 2, none⟩ = some x2 ∧ w.cell? ⟨g, 3, none⟩ = some x3 ∧ w.cell? ⟨g, 4, none⟩ = some x4 ∧ w.cell? ⟨g, 5, none⟩ = some x5 := (box6 h).1

set_option maxHeartbeats 8000000 in
set_option maxRecDepth 1000000 in
theorem malone_any (ALONE : AloneSpec) (s : Sv) (p i : Nat) (row : List Of) (o : Of) (hp : s.R[p]? = some row) (hi : row[i]? = some o) (r : Bool) (hr : aloneP s.D s.clock o (told s.dl p) (told s.lk p) = r) (w : World) (hS : SelOk s w) :
    Calls Try.prog 35 #[.agg #[.slice s.a s.hs.length s.c, .slice s.b s.D.length s.d, .int .i64 s.clock, .slice s.e s.dl.length s.g, .slice s.f s.lk.length s.h, .slice (some ⟨s.tg, 0, none⟩) s.D.length s.D.length], .int .i64 p, .int .i64 i] w fun e w' => e = .returned (.bool r) ∧ Below w.heap.size w w' := by
  have hb := below1 w (.cells #[.slice s.a s.hs.length s.c, .slice s.b s.D.length s.d, .int .i64 s.clock, .slice s.e s.dl.length s.g, .slice s.f s.lk.length s.h, .slice (some ⟨s.tg, 0, none⟩) s.D.length s.D.length] 58)
  have hS' := hS.below hb
  obtain ⟨v1, hv1⟩ : ∃ v, s.dl.getD p false = v := ⟨_, rfl⟩
  obtain ⟨v2, hv2⟩ : ∃ v, s.lk.getD p false = v := ⟨_, rfl⟩
  obtain ⟨k1, hk1⟩ : ∃ k, k = decide (p < s.dl.length) := ⟨_, rfl⟩
  obtain ⟨k2, hk2⟩ : ∃ k, k = decide (p < s.lk.length) := ⟨_, rfl⟩
  have HA1 := Lib.hid (atb_any s.dl p v1 k1 hv1 hk1 s.e s.g _ hS'.dial)
  have HA2 := Lib.hid (atb_any s.lk p v2 k2 hv2 hk2 s.f s.h _ hS'.look)
  have hr2 : aloneP s.D s.clock o v1 v2 = r := by rw [← hr, ← hv1, ← hv2]; rfl
  have HAl := Lib.hid (fun W (h : Below w.heap.size w W) => ALONE o s.D s.clock v1 v2 s.b s.d W hS.d200 hS.small (hS.ducts.below h))
  rw [hr2] at HAl
  obtain ⟨b1, o1, x, ha, hb1, z0, hO⟩ := hS.rows.at hp
  have hpl : p < s.hs.length := by rw [hS.rows.2.1]; exact (List.getElem?_eq_some_iff.1 hp).1
  have hpi : (p : Int) < (s.hs.length : Int) := by omega
  have hil := (List.getElem?_eq_some_iff.1 hi).1
  have hii : (i : Int) < (row.length : Int) := by omega
  have hp0 : ¬ (p : Int) < 0 := by omega
  have hi0 : ¬ (i : Int) < 0 := by omega
  obtain ⟨b2, o2, hx2, hb2, hat2⟩ := hO.2.2.2 (by omega)
  have H9 := Lib.hid (OK.nine hat2 hi)
  obtain ⟨sa, sc, shs, sR, sb, sd, sD, sclock, se, sg, sdl, sf, sh, slk, stg, sth⟩ := s
  obtain ⟨xa, xn, xc⟩ := x
  dsimp only at *
  subst ha hx2
  clear hS hS' hat2 hO hv1 hv2 hk1 hk2 hr hr2 hp hi hb ALONE
  have HB0 := Lib.hid (below1 w (.cells #[.slice (some ⟨b1, o1, none⟩) shs.length sc, .slice sb sD.length sd, .int .i64 sclock, .slice se sdl.length sg, .slice sf slk.length sh, .slice (some ⟨stg, 0, none⟩) sD.length sD.length] 58))
  have HS0 := Lib.hid (laid1 w (.cells #[.slice (some ⟨b1, o1, none⟩) shs.length sc, .slice sb sD.length sd, .int .i64 sclock, .slice se sdl.length sg, .slice sf slk.length sh, .slice (some ⟨stg, 0, none⟩) sD.length sD.length] 58))
  have hb1' : b1 < (w.alloc (.cells #[.slice (some ⟨b1, o1, none⟩) shs.length sc, .slice sb sD.length sd, .int .i64 sclock, .slice se sdl.length sg, .slice sf slk.length sh, .slice (some ⟨stg, 0, none⟩) sD.length sD.length] 58)).heap.size := by simp; omega
  have hb2' : b2 < (w.alloc (.cells #[.slice (some ⟨b1, o1, none⟩) shs.length sc, .slice sb sD.length sd, .int .i64 sclock, .slice se sdl.length sg, .slice sf slk.length sh, .slice (some ⟨stg, 0, none⟩) sD.length sD.length] 58)).heap.size := by simp; omega
  go_enter Try.func35, Try.ntmps35
  go_wp2_with fail
  with_reducible refine HA1.out.mono ?_
  rintro e w1 ⟨rfl, rfl⟩
  go_wp2_with fail
  with_reducible refine HA2.out.mono ?_
  rintro e w1 ⟨rfl, rfl⟩
  clear HA1 HA2
  go_upto_region 3 with fail
  obtain ⟨W, hW⟩ : ∃ W, W = w.alloc (.cells #[.slice (some ⟨b1, o1, none⟩) shs.length sc, .slice sb sD.length sd, .int .i64 sclock, .slice se sdl.length sg, .slice sf slk.length sh, .slice (some ⟨stg, 0, none⟩) sD.length sD.length] 58) := ⟨_, rfl⟩
  have hz0 := (HB0.out.cell (p := ⟨b1, o1 + p, none⟩) hb1).trans z0
  rw [← hW] at HB0 HS0 hz0 ⊢
  have hw0 : ∀ z, W.cell? ⟨b2, z, none⟩ = w.cell? ⟨b2, z, none⟩ := fun z => HB0.out.cell (p := ⟨b2, z, none⟩) hb2
  have HSB := Lib.hid (show ∀ W', Below W.heap.size W W' → (((W'.cell? ⟨w.heap.size, 0, none⟩ = some (.slice (some ⟨b1, o1, none⟩) shs.length sc) ∧ W'.cell? ⟨w.heap.size, 1, none⟩ = some (.slice sb sD.length sd) ∧ W'.cell? ⟨w.heap.size, 2, none⟩ = some (.int .i64 sclock)) ∧ W'.cell? ⟨b1, o1 + p, none⟩ = some (.slice (some ⟨b2, o2, none⟩) row.length xc) ∧ (W'.cell? ⟨b2, o2 + i * 9, none⟩ = some (.int .i8 o.kind) ∧ W'.cell? ⟨b2, o2 + i * 9 + 1, none⟩ = some (.int .i64 o.duct) ∧ W'.cell? ⟨b2, o2 + i * 9 + 2, none⟩ = some (.int .i8 o.m.kind) ∧ W'.cell? ⟨b2, o2 + i * 9 + 3, none⟩ = some (.int .i64 o.m.fr) ∧ W'.cell? ⟨b2, o2 + i * 9 + 4, none⟩ = some (.int .i64 o.m.num) ∧ W'.cell? ⟨b2, o2 + i * 9 + 5, none⟩ = some (.int .i64 o.m.sock) ∧ W'.cell? ⟨b2, o2 + i * 9 + 6, none⟩ = some (.string o.m.text) ∧ W'.cell? ⟨b2, o2 + i * 9 + 7, none⟩ = some (.int .i64 o.m.e) ∧ W'.cell? ⟨b2, o2 + i * 9 + 8, none⟩ = some (.int .i64 o.t)))) ∧ Below W.heap.size W W' from fun W' h => by
    have e1 := box6c ((h.block _ (lt_of_block HS0.out)).trans HS0.out)
    have e2 : ∀ z, W'.cell? ⟨b2, z, none⟩ = w.cell? ⟨b2, z, none⟩ := fun z => (h.cell (p := ⟨b2, z, none⟩) (by show b2 < _; rw [hW]; exact hb2')).trans (hw0 z)
    refine ⟨⟨⟨e1.1, e1.2.1, e1.2.2.1⟩, (h.cell (p := ⟨b1, o1 + p, none⟩) (by show b1 < _; rw [hW]; exact hb1')).trans hz0, ?_⟩, h⟩
    rw [e2, e2, e2, e2, e2, e2, e2, e2, e2]
    exact H9.out)
  have HAX := Lib.hid (fun W' (h : Below W.heap.size W W') => HAl.out W' (HB0.out.trans (h.mono HB0.out.size)))
  clear hW hb1' hb2' hz0 hw0 HAl z0
  go_region_held3 (fun W' => (((W'.cell? ⟨w.heap.size, 0, none⟩ = some (.slice (some ⟨b1, o1, none⟩) shs.length sc) ∧ W'.cell? ⟨w.heap.size, 1, none⟩ = some (.slice sb sD.length sd) ∧ W'.cell? ⟨w.heap.size, 2, none⟩ = some (.int .i64 sclock)) ∧ W'.cell? ⟨b1, o1 + p, none⟩ = some (.slice (some ⟨b2, o2, none⟩) row.length xc) ∧ (W'.cell? ⟨b2, o2 + i * 9, none⟩ = some (.int .i8 o.kind) ∧ W'.cell? ⟨b2, o2 + i * 9 + 1, none⟩ = some (.int .i64 o.duct) ∧ W'.cell? ⟨b2, o2 + i * 9 + 2, none⟩ = some (.int .i8 o.m.kind) ∧ W'.cell? ⟨b2, o2 + i * 9 + 3, none⟩ = some (.int .i64 o.m.fr) ∧ W'.cell? ⟨b2, o2 + i * 9 + 4, none⟩ = some (.int .i64 o.m.num) ∧ W'.cell? ⟨b2, o2 + i * 9 + 5, none⟩ = some (.int .i64 o.m.sock) ∧ W'.cell? ⟨b2, o2 + i * 9 + 6, none⟩ = some (.string o.m.text) ∧ W'.cell? ⟨b2, o2 + i * 9 + 7, none⟩ = some (.int .i64 o.m.e) ∧ W'.cell? ⟨b2, o2 + i * 9 + 8, none⟩ = some (.int .i64 o.t)))) ∧ Below W.heap.size W W')
    (first | assumption | exact HSB.out _ (kept_call (by assumption) hbC) | exact HSB.out _ (Below.refl _ _).drew | exact HSB.out _ (Below.refl _ _))
    (first
      | (go_at_call 14; (with_reducible refine (HAX.out _ (kept_call (by assumption) (Below.refl _ _))).mono ?_); rintro e wC ⟨rfl, hbC⟩))
  have HBf := Lib.hid (HB0.out.trans ((kept_call (by assumption) (Below.refl _ wC) : Below W.heap.size W wC).mono HB0.out.size))
  go_wp2_with fail
  go_ret
  exact ⟨rfl, HBf.out⟩

/-- Who takes what a case puts. -/
def takP (D : List Dv) (R : List (List Of)) (o : Of) : List Tk := if o.kind = 0 ∧ 0 ≤ o.duct then ((allT D R R.length)[o.duct.toNat]?).getD [] else []

/-- Where such a row lies. -/
def RowAt (D : List Dv) (R : List (List Of)) (th : List Hv) (tl : List Tk) (ad : Option Addr) (c' : Nat) : Prop := tl = [] ∨ ∃ (dd : Nat) (x : Hv), th[dd]? = some x ∧ (allT D R R.length)[dd]? = some tl ∧ ad = x.a ∧ c' = x.c
set_option maxHeartbeats 8000000 in
set_option maxRecDepth 1000000 in
theorem mtakers_any (s : Sv) (p i : Nat) (row : List Of) (o : Of) (hp : s.R[p]? = some row) (hi : row[i]? = some o) (tl : List Tk) (htl : takP s.D s.R o = tl) (w : World) (hS : SelOk s w) :
    Calls Try.prog 36 #[.agg #[.slice s.a s.hs.length s.c, .slice s.b s.D.length s.d, .int .i64 s.clock, .slice s.e s.dl.length s.g, .slice s.f s.lk.length s.h, .slice (some ⟨s.tg, 0, none⟩) s.D.length s.D.length], .int .i64 p, .int .i64 i] w fun e w' => ∃ ad c', e = .returned (.slice ad tl.length c') ∧ RowAt s.D s.R s.th tl ad c' ∧ Below w.heap.size w w' := by
  obtain ⟨b1, o1, x, ha, hb1, z0, hO⟩ := hS.rows.at hp
  have hpl : p < s.hs.length := by rw [hS.rows.2.1]; exact (List.getElem?_eq_some_iff.1 hp).1
  have hpi : (p : Int) < (s.hs.length : Int) := by omega
  have hil := (List.getElem?_eq_some_iff.1 hi).1
  have hii : (i : Int) < (row.length : Int) := by omega
  have hp0 : ¬ (p : Int) < 0 := by omega
  have hi0 : ¬ (i : Int) < 0 := by omega
  obtain ⟨b2, o2, hx2, hb2, hat2⟩ := hO.2.2.2 (by omega)
  obtain ⟨n0, n1, n2, n3, n4, n5, n6, n7, n8⟩ := OK.nine hat2 hi
  have HTab := Lib.hid hS.tab
  have hthl := hS.thl
  obtain ⟨sa, sc, shs, sR, sb, sd, sD, sclock, se, sg, sdl, sf, sh, slk, stg, sth⟩ := s
  obtain ⟨xa, xn, xc⟩ := x
  dsimp only at *
  subst ha hx2
  have HT2 := Lib.hid htl
  have HTH := Lib.hid hthl
  clear hS hat2 hO hp hi htl hthl
  obtain ⟨kind, duct, m, t⟩ := o
  dsimp only at *
  have HB0 := Lib.hid (below2 w (.cells #[.slice (some ⟨b1, o1, none⟩) shs.length sc, .slice sb sD.length sd, .int .i64 sclock, .slice se sdl.length sg, .slice sf slk.length sh, .slice (some ⟨stg, 0, none⟩) sD.length sD.length] 58) (.cells #[.int .i8 kind, .int .i64 duct, .int .i8 m.kind, .int .i64 m.fr, .int .i64 m.num, .int .i64 m.sock, .string m.text, .int .i64 m.e, .int .i64 t] 38))
  have HL0 := Lib.hid (laid2 w (.cells #[.slice (some ⟨b1, o1, none⟩) shs.length sc, .slice sb sD.length sd, .int .i64 sclock, .slice se sdl.length sg, .slice sf slk.length sh, .slice (some ⟨stg, 0, none⟩) sD.length sD.length] 58) (.cells #[.int .i8 kind, .int .i64 duct, .int .i8 m.kind, .int .i64 m.fr, .int .i64 m.num, .int .i64 m.sock, .string m.text, .int .i64 m.e, .int .i64 t] 38))
  by_cases hk : kind = 0
  · by_cases hd : duct < 0 ∨ (sD.length : Int) ≤ duct
    · obtain rfl : tl = [] := by
        rw [← HT2.out]
        unfold takP
        dsimp only
        split
        · rename_i h
          rw [List.getElem?_eq_none (by rw [allT_length]; omega)]
          rfl
        · rfl
      have HAt := Lib.hid (fun W => att_none sD.length duct hd (some ⟨stg, 0, none⟩) sD.length W)
      subst hk
      clear hd HT2
      go_enter Try.func36, Try.ntmps36
      go_wp2_with fail
      with_reducible refine (HAt.out _).mono ?_
      rintro e w1 ⟨rfl, rfl⟩
      clear HAt
      go_wp2_with fail
      go_ret
      exact ⟨none, 0, rfl, .inl rfl, HB0.out⟩
    · obtain ⟨dd, hdd⟩ : ∃ dd : Nat, duct = dd := ⟨duct.toNat, by omega⟩
      subst hdd hk
      have hddl : dd < sD.length := by omega
      have hTr : (allT sD sR sR.length)[dd]? = some tl := by
        obtain ⟨l0, h1⟩ : ∃ l0, (allT sD sR sR.length)[dd]? = some l0 := ⟨_, List.getElem?_eq_getElem (by rw [allT_length]; exact hddl)⟩
        rw [h1, ← HT2.out]
        unfold takP
        dsimp only
        rw [if_pos ⟨rfl, by omega⟩, Int.toNat_natCast, h1]
        rfl
      obtain ⟨ad, cc, ⟨xh, hxh, hxa, hxc⟩, hrow, HAt⟩ := att_some sth _ dd tl hTr (some ⟨stg, 0, none⟩) sD.length _ (HTab.out.below HB0.out)
      rw [HTH.out] at HAt
      have HAt := Lib.hid HAt
      have HRow := Lib.hid (show RowAt sD sR sth tl ad cc from .inr ⟨dd, xh, hxh, hTr, hxa, hxc⟩)
      clear hTr hrow HT2 hd hxh hxa hxc
      go_enter Try.func36, Try.ntmps36
      go_wp2_with fail
      with_reducible refine HAt.out.mono ?_
      rintro e w1 ⟨rfl, rfl⟩
      clear HAt
      go_wp2_with fail
      go_ret
      exact ⟨ad, cc, rfl, HRow.out, HB0.out⟩
  · obtain rfl : tl = [] := by
      rw [← HT2.out]
      unfold takP
      dsimp only
      rw [if_neg (fun h => hk h.1)]
    have hk1 : (kind == 0) = false := by simp [hk]
    clear HT2
    go_enter Try.func36, Try.ntmps36
    go_wp2_with fail
    go_ret
    exact ⟨none, 0, rfl, .inl rfl, HB0.out⟩

set_option maxHeartbeats 4000000 in
set_option maxRecDepth 1000000 in
theorem of_any (s : Sv) (p i : Nat) (w : World) :
    Calls Try.prog 29 #[.agg #[.slice s.a s.hs.length s.c, .slice s.b s.D.length s.d, .int .i64 s.clock, .slice s.e s.dl.length s.g, .slice s.f s.lk.length s.h, .slice (some ⟨s.tg, 0, none⟩) s.D.length s.D.length], .int .i64 p, .int .i64 i] w fun e w' => e = .returned (.func (.func 34) #[] #[.pointer (some ⟨w.heap.size, 0, none⟩), .pointer (some ⟨w.heap.size + 1, 0, none⟩), .pointer (some ⟨w.heap.size + 2, 0, none⟩)]) ∧ w' = ((w.alloc (.cells #[.slice s.a s.hs.length s.c, .slice s.b s.D.length s.d, .int .i64 s.clock, .slice s.e s.dl.length s.g, .slice s.f s.lk.length s.h, .slice (some ⟨s.tg, 0, none⟩) s.D.length s.D.length] 58)).alloc (.cells #[.int .i64 p] 3)).alloc (.cells #[.int .i64 i] 3) := by
  obtain ⟨sa, sc, shs, sR, sb, sd, sD, sclock, se, sg, sdl, sf, sh, slk, stg, sth⟩ := s
  go_enter Try.func29, Try.ntmps29
  go_wp2_with fail
  go_ret
  exact ⟨rfl, rfl⟩
end Go.Proofs.Ytjiepdgflfhkcaa
