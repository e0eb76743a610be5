/- The landed package scar: its closures; Fresh, Heal, once. -/
import Derived.Test.YtipbkhbdnjhofaaLandA
set_option linter.unusedSimpArgs false
set_option linter.unusedVariables false
namespace Go.Proofs.Ytipbkhbdnjhofaa
open R3 Go.RowKit Go.Maps Go.Proofs.Ytipbkhbdnjhofaa.Kind

theorem enter_heal (args : Array Value) (w : World) : (callFunc 21 args).run Try.prog w = .ok (.enter 21 args) w := enter_fn Try.func21 (by kernel_rfl) rfl args w
theorem enter_once (args : Array Value) (w : World) : (callFunc 25 args).run Try.prog w = .ok (.enter 25 args) w := enter_fn Try.func25 (by kernel_rfl) rfl args w
theorem enter_fresh (args : Array Value) (w : World) : (callFunc 27 args).run Try.prog w = .ok (.enter 27 args) w := enter_fn Try.func27 (by kernel_rfl) rfl args w
set_option maxHeartbeats 8000000 in
set_option maxRecDepth 1000000 in
theorem fresh_tells (g n : Int) (b1 b2 : Nat) (t1 t2 : TypeId) (w : World) (h1 : w.heap[b1]? = some (.cells #[.int .i64 g] t1 (0, 0))) (h2 : w.heap[b2]? = some (.cells #[.int .i64 n] t2 (0, 0))) : TellsSK w 27 #[.pointer (some ⟨b1, 0, none⟩), .pointer (some ⟨b2, 0, none⟩)] (fun _ => True) (fun _ x => liveS g n x) := by
  intro W q x _ _ hW
  have k1 := (hW.block b1 (lt_of_block h1)).trans h1
  have k2 := (hW.block b2 (lt_of_block h2)).trans h2
  have hB := below1 W (.cells #[.int .i8 x.ad.f, .int .u16 x.ad.g0, .int .u16 x.ad.g1, .int .u16 x.ad.g2, .int .u16 x.ad.g3, .int .u16 x.ad.g4, .int .u16 x.ad.g5, .int .u16 x.ad.g6, .int .u16 x.ad.g7, .int .i64 x.ad.p, .int .i64 x.at_] 33)
  have c1 := (cell1 ((hB.block b1 (lt_of_block k1)).trans k1)).1
  have c2 := (cell1 ((hB.block b2 (lt_of_block k2)).trans k2)).1
  have HB := Lib.hid hB
  have HF := Lib.hid (fun W => old_any x.at_ g n W)
  have hd : P.old x.at_ g n = !liveS g n x := by unfold liveS; simp
  rw [hd] at HF
  show Calls Try.prog 27 #[.int .i64 (q : Int), .agg #[.int .i8 x.ad.f, .int .u16 x.ad.g0, .int .u16 x.ad.g1, .int .u16 x.ad.g2, .int .u16 x.ad.g3, .int .u16 x.ad.g4, .int .u16 x.ad.g5, .int .u16 x.ad.g6, .int .u16 x.ad.g7, .int .i64 x.ad.p, .int .i64 x.at_], .pointer (some ⟨b1, 0, none⟩), .pointer (some ⟨b2, 0, none⟩)] W _
  clear h1 h2 k1 k2 hW hB hd
  go_enter Try.func27, Try.ntmps27
  go_wp2_with fail
  (with_reducible refine (HF.out _).mono ?_)
  rintro e w1 ⟨rfl, hw1⟩
  subst w1
  go_wp2_with fail
  go_ret
  exact ⟨by simp, HB.out⟩
set_option maxHeartbeats 8000000 in
set_option maxRecDepth 1000000 in
theorem heal_tells (ds : List Ad) (D : DataW Unit) (b n g : Nat) (t : TypeId) (w : World) (hg : w.heap[g]? = some (.cells #[.map (some b)] t (0, 0))) (ho : OwnI w b n D) (hp : PlaceTo ds D ds.length) : TellsSK w 21 #[.pointer (some ⟨g, 0, none⟩)] (fun x => okA x.ad) (fun _ x => !decide (x.ad ∈ ds)) := by
  intro W q x _ hok hW
  have k1 := (hW.block g (lt_of_block hg)).trans hg
  have hB := below1 W (.cells #[.int .i8 x.ad.f, .int .u16 x.ad.g0, .int .u16 x.ad.g1, .int .u16 x.ad.g2, .int .u16 x.ad.g3, .int .u16 x.ad.g4, .int .u16 x.ad.g5, .int .u16 x.ad.g6, .int .u16 x.ad.g7, .int .i64 x.ad.p, .int .i64 x.at_] 33)
  have c1 := (cell1 ((hB.block g (lt_of_block k1)).trans k1)).1
  have HO := Lib.hid (show (W.alloc (.cells #[.int .i8 x.ad.f, .int .u16 x.ad.g0, .int .u16 x.ad.g1, .int .u16 x.ad.g2, .int .u16 x.ad.g3, .int .u16 x.ad.g4, .int .u16 x.ad.g5, .int .u16 x.ad.g6, .int .u16 x.ad.g7, .int .i64 x.ad.p, .int .i64 x.at_] 33)).ownsMap Try.prog 31 rawI b n D from (map_below ho hW).alloc _)
  have HB := Lib.hid hB
  have HK := Lib.hid (key_ad hok)
  have HLw := Lib.hid law_ad
  have HH := Lib.hid (place_has hp hok)
  show Calls Try.prog 21 #[.int .i64 (q : Int), .agg #[.int .i8 x.ad.f, .int .u16 x.ad.g0, .int .u16 x.ad.g1, .int .u16 x.ad.g2, .int .u16 x.ad.g3, .int .u16 x.ad.g4, .int .u16 x.ad.g5, .int .u16 x.ad.g6, .int .u16 x.ad.g7, .int .i64 x.ad.p, .int .i64 x.at_], .pointer (some ⟨g, 0, none⟩)] W _
  clear hg ho hp k1 hW hB hok
  go_enter Try.func21, Try.ntmps21
  go_wp2_with (first | (at_lookup; refine wpList_look_place _ rfl _ _ 46 rfl 31 3 HLw.out Try.underlying46 (zero_i64 _) b n D rfl HO.out _ _ rfl HK.out ?_; intro cf hcf) | go_in)
  go_ret
  exact ⟨by rw [← HH.out]; rfl, HB.out⟩
/-- What the map knows of a place. -/
def placeI (ds : List Ad) (x : Ad) : Int := match lastP ds ds.length x with
  | some j => j
  | none => 0
theorem place_at {ds : List Ad} {D : DataW Unit} (h : PlaceTo ds D ds.length) {x : Ad} (hx : okA x) {c : Int} (hc : D.atKey (keyA x) (.lit (.int .i64 0)) = .lit (.int .i64 c)) : c = placeI ds x := by
  have h1 := h.1 x hx
  unfold placeI
  cases hr : lastP ds ds.length x with
  | some j =>
    rw [hr] at h1
    have h2 := (h1.2 (.lit (.int .i64 0))).symm.trans hc
    injection h2 with h2
    injection h2 with _ h3
    exact h3.symm
  | none =>
    rw [hr] at h1
    have h2 := (atKey_of_not_has h1 (.lit (.int .i64 0))).symm.trans hc
    injection h2 with h2
    injection h2 with _ h3
    exact h3.symm
theorem pick_places (ds : List Ad) : pick (fun n x => placeI ds x == (n : Int)) ds = onceL ds := by
  refine pick_once ds _ fun n x hx => ?_
  unfold placeI
  cases hr : lastP ds ds.length x with
  | some j =>
    rw [Bool.eq_iff_iff]
    simp only [beq_iff_eq, decide_eq_true_eq, Option.some.injEq]
    omega
  | none => exact absurd hx ((lastP_none ds x _).1 hr n (List.getElem?_eq_some_iff.1 hx).1)
set_option maxHeartbeats 8000000 in
set_option maxRecDepth 1000000 in
theorem once_tells (ds : List Ad) (D : DataW Unit) (b n g : Nat) (t : TypeId) (w : World) (hg : w.heap[g]? = some (.cells #[.map (some b)] t (0, 0))) (ho : OwnI w b n D) (hp : PlaceTo ds D ds.length) : TellsAK w 25 #[.pointer (some ⟨g, 0, none⟩)] okA (fun q x => placeI ds x == (q : Int)) := by
  intro W q x _ hok hW
  have k1 := (hW.block g (lt_of_block hg)).trans hg
  have hB := below1 W (.cells #[.int .i8 x.f, .int .u16 x.g0, .int .u16 x.g1, .int .u16 x.g2, .int .u16 x.g3, .int .u16 x.g4, .int .u16 x.g5, .int .u16 x.g6, .int .u16 x.g7, .int .i64 x.p] 31)
  have c1 := (cell1 ((hB.block g (lt_of_block k1)).trans k1)).1
  have HO := Lib.hid (show (W.alloc (.cells #[.int .i8 x.f, .int .u16 x.g0, .int .u16 x.g1, .int .u16 x.g2, .int .u16 x.g3, .int .u16 x.g4, .int .u16 x.g5, .int .u16 x.g6, .int .u16 x.g7, .int .i64 x.p] 31)).ownsMap Try.prog 31 rawI b n D from (map_below ho hW).alloc _)
  have HB := Lib.hid hB
  have HK := Lib.hid (key_ad hok)
  have HLw := Lib.hid law_ad
  have HH := Lib.hid (fun (c : Int) (hc : D.atKey (keyA x) (.lit (.int .i64 0)) = .lit (.int .i64 c)) => place_at hp hok hc)
  show Calls Try.prog 25 #[.int .i64 (q : Int), .agg #[.int .i8 x.f, .int .u16 x.g0, .int .u16 x.g1, .int .u16 x.g2, .int .u16 x.g3, .int .u16 x.g4, .int .u16 x.g5, .int .u16 x.g6, .int .u16 x.g7, .int .i64 x.p], .pointer (some ⟨g, 0, none⟩)] W _
  clear hg ho hp k1 hW hB hok
  go_enter Try.func25, Try.ntmps25
  go_wp2_with (first | (at_lookup; refine wpList_look_bare _ rfl _ _ 46 rfl 31 3 HLw.out Try.underlying46 (zero_i64 _) b n D rfl HO.out _ _ rfl HK.out ?_; intro cf hcf; have HCF := Lib.hid (HH.out cf hcf); clear hcf) | go_in)
  go_ret
  exact ⟨by rw [← HCF.out]; rfl, HB.out⟩
set_option maxHeartbeats 8000000 in
set_option maxRecDepth 1000000 in
theorem fresh_own (l : List Sc) (g n : Int) (s : Option Addr) (c : Nat) (L : List Sc) (w : World) (hL : L = freshS l g n) (hl : l.length ≤ 1000) (hR : SK.RowC w s c l) :
    Calls Try.prog 13 #[.slice s l.length c, .int .i64 g, .int .i64 n] w fun e w' => ∃ a1 c1, e = .returned (.slice a1 L.length c1) ∧ SK.Own w' w.heap.size (.slice a1 L.length c1) L ∧ Below w.heap.size w w' := by
  obtain ⟨W, hW⟩ : ∃ W, W = (w.alloc (.cells #[.int .i64 g] 3)).alloc (.cells #[.int .i64 n] 3) := ⟨_, rfl⟩
  have hb := below2 w (.cells #[.int .i64 g] 3) (.cells #[.int .i64 n] 3)
  have hL2 := laid2 w (.cells #[.int .i64 g] 3) (.cells #[.int .i64 n] 3)
  rw [← hW] at hb hL2
  have HB := Lib.hid hb
  have HW := Lib.hid (chooseSK_any 27 #[.pointer (some ⟨w.heap.size, 0, none⟩), .pointer (some ⟨w.heap.size + 1, 0, none⟩)] (fun _ => True) (fun _ x => liveS g n x) l L (by rw [hL]; exact (pick_plain _ _).symm) s c W hl (fun _ _ => trivial) enter_fresh (hR.below hb) (fresh_tells g n w.heap.size (w.heap.size + 1) 3 3 W hL2.1 hL2.2))
  have HF : Hid (Calls Try.prog 22 #[.int .i64 g, .int .i64 n] w fun e w' => e = .returned (.func (.func 27) #[] #[.pointer (some ⟨w.heap.size, 0, none⟩), .pointer (some ⟨w.heap.size + 1, 0, none⟩)]) ∧ w' = W) := Lib.hid (by
    go_enter Try.func22, Try.ntmps22
    go_wp2_with fail
    go_ret
    exact ⟨rfl, hW.symm⟩)
  clear hL hR hb hL2 hW
  go_enter Try.func13, Try.ntmps13
  go_wp2_with fail
  (with_reducible refine HF.out.mono ?_)
  rintro e w1 ⟨rfl, hw1⟩
  subst w1
  go_wp2_with fail
  (with_reducible refine HW.out.mono ?_)
  rintro e w2 ⟨a1, c1, rfl, h1, h2⟩
  have H1 := Lib.hid (h1.mono HB.out.size)
  have H2 := Lib.hid (HB.out.trans (h2.mono HB.out.size))
  clear h1 h2
  go_wp2_with fail
  go_ret
  exact ⟨a1, c1, rfl, H1.out, H2.out⟩
theorem fresh_spec : FreshSpec := fun l g n s c L w hL hl hR => (fresh_own l g n s c L w hL (by omega) hR).mono fun e w' ⟨a1, c1, he, ho, hb⟩ => ⟨a1, c1, he, ho.row, hb⟩
set_option maxHeartbeats 8000000 in
set_option maxRecDepth 1000000 in
theorem heal_own (l : List Sc) (ds : List Ad) (s v : Option Addr) (c d : Nat) (L : List Sc) (w : World) (hL : L = healS l ds) (hl : l.length ≤ 1000) (hd : ds.length ≤ 1000) (hol : OkS l) (hod : OkL ds) (hR : SK.RowC w s c l) (hD : AK.RowC w v d ds) :
    Calls Try.prog 12 #[.slice s l.length c, .slice v ds.length d] w fun e w' => ∃ a1 c1, e = .returned (.slice a1 L.length c1) ∧ SK.Own w' w.heap.size (.slice a1 L.length c1) L ∧ Below w.heap.size w w' := by
  have HPl := Lib.hid (places_any ds v d w hd hod hD)
  have HCh := Lib.hid (fun (W : World) (g : Nat) (hb : Below w.heap.size w W) (hT : TellsSK W 21 #[.pointer (some ⟨g, 0, none⟩)] (fun x => okA x.ad) (fun _ x => !decide (x.ad ∈ ds))) => chooseSK_any 21 #[.pointer (some ⟨g, 0, none⟩)] (fun x => okA x.ad) (fun _ x => !decide (x.ad ∈ ds)) l L (by rw [hL, heal_filter]; exact (pick_plain _ _).symm) s c W hl hol enter_heal (hR.below hb) hT)
  clear hL hl hd hol hod hR hD
  go_enter Try.func12, Try.ntmps12
  go_wp2_with fail
  (with_reducible refine HPl.out.mono ?_)
  rintro e w1 ⟨D, n, rfl, ho, hp, hb⟩
  have HB := Lib.hid (hb.trans ((below1 w1 (.cells #[.map (some w.heap.size)] 46)).mono hb.size))
  have HW := Lib.hid (HCh.out (w1.alloc (.cells #[.map (some w.heap.size)] 46)) w1.heap.size HB.out (heal_tells ds D w.heap.size n w1.heap.size 46 _ (laid1 w1 _) (World.ownsMap.alloc ho _) hp))
  clear ho hp hb
  go_wp2_with fail
  (with_reducible refine HW.out.mono ?_)
  rintro e w2 ⟨a1, c1, rfl, h1, h2⟩
  have H1 := Lib.hid (h1.mono HB.out.size)
  have H2 := Lib.hid (HB.out.trans (h2.mono HB.out.size))
  clear h1 h2
  go_wp2_with fail
  go_ret
  exact ⟨a1, c1, rfl, H1.out, H2.out⟩
set_option maxHeartbeats 8000000 in
set_option maxRecDepth 1000000 in
theorem once_own (ds : List Ad) (v : Option Addr) (d : Nat) (L : List Ad) (w : World) (hL : L = onceL ds) (hd : ds.length ≤ 1000) (hod : OkL ds) (hD : AK.RowC w v d ds) :
    Calls Try.prog 17 #[.slice v ds.length d] w fun e w' => ∃ a1 c1, e = .returned (.slice a1 L.length c1) ∧ AK.Own w' w.heap.size (.slice a1 L.length c1) L ∧ Below w.heap.size w w' := by
  have HPl := Lib.hid (places_any ds v d w hd hod hD)
  have HCh := Lib.hid (fun (W : World) (g : Nat) (hb : Below w.heap.size w W) (hT : TellsAK W 25 #[.pointer (some ⟨g, 0, none⟩)] okA (fun q x => placeI ds x == (q : Int))) => chooseAK_any 25 #[.pointer (some ⟨g, 0, none⟩)] okA (fun q x => placeI ds x == (q : Int)) ds L (by rw [hL]; exact (pick_places _).symm) v d W hd hod enter_once (hD.below hb) hT)
  clear hL hd hod hD
  go_enter Try.func17, Try.ntmps17
  go_wp2_with fail
  (with_reducible refine HPl.out.mono ?_)
  rintro e w1 ⟨D, n, rfl, ho, hp, hb⟩
  have HB := Lib.hid (hb.trans ((below1 w1 (.cells #[.map (some w.heap.size)] 46)).mono hb.size))
  have HW := Lib.hid (HCh.out (w1.alloc (.cells #[.map (some w.heap.size)] 46)) w1.heap.size HB.out (once_tells ds D w.heap.size n w1.heap.size 46 _ (laid1 w1 _) (World.ownsMap.alloc ho _) hp))
  clear ho hp hb
  go_wp2_with fail
  (with_reducible refine HW.out.mono ?_)
  rintro e w2 ⟨a1, c1, rfl, h1, h2⟩
  have H1 := Lib.hid (h1.mono HB.out.size)
  have H2 := Lib.hid (HB.out.trans (h2.mono HB.out.size))
  clear h1 h2
  go_wp2_with fail
  go_ret
  exact ⟨a1, c1, rfl, H1.out, H2.out⟩
theorem heal_spec : HealSpec := fun l ds s v c d L w ⟨hL, hol, hod⟩ hl hd hR hD => (heal_own l ds s v c d L w hL (by omega) (by omega) hol hod hR hD).mono fun e w' ⟨a1, c1, he, ho, hb⟩ => ⟨a1, c1, he, ho.row, hb⟩
end Go.Proofs.Ytipbkhbdnjhofaa
