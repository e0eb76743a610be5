/- All that is ready. -/
import Derived.Test.YtjiepdgflfhkcaaSame
set_option linter.unusedSimpArgs false
set_option linter.unusedVariables false
namespace Go.Proofs.Ytjiepdgflfhkcaa
open Go.RowKit Go.Proofs.Ytjiepdgflfhkcaa.Kind Go.Proofs.Ytjiepdgflfhkcaa.P7
attribute [local go_sem] Oper.semAt_some

theorem loose_in {w : World} {B : Nat} {a : Option Addr} {c : Nat} {l : List Mt} (h : MK.Loose w B a c l) {x : Addr} (hx : a = some x) (hc : 0 < c) : B ≤ x.block ∧ x.block < w.heap.size := by
  obtain ⟨b, o, h1, h2, h3, _⟩ := h.2.2.2 hc
  rw [hx] at h1
  injection h1 with h1
  subst h1
  exact ⟨h2, h3⟩
theorem loose_far {w : World} {B : Nat} {a : Option Addr} {c : Nat} {l : List Mt} (h : MK.Loose w B a c l) : MK.FarC w B a c l :=
  ⟨h.row, fun h0 ad e => (loose_in h e (by have := h.1; omega)).1⟩
section
variable {F : Fence} {n : Nat}
theorem wpListIn_append_loose {w : World} {ops : Array Oper} {rest : List Oper} {o : Oper} {act : Act} {Q : Exit → Act → World → Prop} (hgd : o.guard = none) (s x : Operand)
    (ho : o.op = .call { callee := .builtin .append, args := #[s, x], argTypes := #[MK.S, MK.S] })
    (base : Nat) (a : Option Addr) (q c : Nat) (hs : act.eval s = .slice a q c) (l : List Mt) (hn : q = l.length) (hD : MK.Loose w base a c l) (b : Option Addr) (m d : Nat) (hx : act.eval x = .slice b m d) (k : List Mt) (hm : m = k.length) (hk : 0 < k.length) (hR : MK.RowC w b d k) (hlen : l.length + k.length ≤ 4000000) (hbase : base ≤ w.heap.size)
    (L : List Mt) (hL : L = l ++ k)
    (h : ∀ a' c' w', MK.Loose w' base a' c' L → (∃ row, w.grownBy w' row ∧ ∀ j, row = some j → base ≤ j ∧ 0 < c ∧ ∃ ad, a = some ad ∧ ad.block = j) → ((∃ g, a' = some ⟨g, 0, none⟩ ∧ w.heap.size ≤ g) ∨ (a' = a ∧ 0 < c)) → wpListIn F n Try.prog ops Q rest (act.put o.dst (.slice a' L.length c')) w') : wpListIn F n Try.prog ops Q (o :: rest) act w := by
  refine wpListIn_plain hgd fun K hK' => ?_
  obtain ⟨a', c', w', hrun, r1, r2, r3⟩ := Kind.run_append_loose (K := MK) w o.type base a c q l hn hD b d m k hm hk hR hlen hbase
  rw [← hL] at r1 hrun
  unfold Oper.wpIn
  refine ⟨?_, ?_⟩
  · simp [Oper.about, ho, resolve, Target.leads, Sem.run_pure]
  · rw [Oper.semAt_plain F _ _ (by rw [ho]; intro c hc'; cases hc')]
    simp [execOp, ho, resolve, invoke, builtin, hs, hx, hrun, Result.andThen]
    exact hK' _ _ (h a' c' w' r1 r2 r3)
end

/-- How it stands between two that are ready: they lie in a row that the variable in block B holds. -/
structure AllIn (w : World) (B : Nat) (pre : List Mt) (own : List Nat) (wr : World) : Prop where
  row : ∃ a c, wr.heap[B]? = some (.cells #[.slice a pre.length c] 27 (0, 0)) ∧ MK.Loose wr (B + 1) a c pre ∧ (∀ x, a = some x → 0 < c) ∧ own = B :: (a.map (fun x => x.block)).toList
  below : Below w.heap.size w wr

theorem AllIn.lt {w : World} {B : Nat} {pre : List Mt} {own : List Nat} {A : World} (h : AllIn w B pre own A) : ∀ k ∈ own, k < A.heap.size ∧ B ≤ k := by
  obtain ⟨a, c, h1, h2, h3, h4⟩ := h.row
  intro k hk
  rw [h4] at hk
  rcases List.mem_cons.1 hk with rfl | hk
  · exact ⟨lt_of_block h1, Nat.le_refl _⟩
  · rw [Option.mem_toList, Option.map_eq_some_iff] at hk
    obtain ⟨x, hx, rfl⟩ := hk
    have := loose_in h2 hx (h3 x hx)
    omega
theorem AllIn.quiet {w : World} {B n : Nat} {pre : List Mt} {own : List Nat} {A C : World} (h : AllIn w B pre own A) (hn : w.heap.size ≤ n) (hq : Quiet n own A C) : AllIn w B pre own C := by
  have hlt := h.lt
  obtain ⟨a, c, h1, h2, h3, h4⟩ := h.row
  refine ⟨⟨a, c, (hq.block B (lt_of_block h1) (.inr (by rw [h4]; exact List.mem_cons_self))).trans h1, loose_same h2 hq.size (fun x hx => ?_), h3, h4⟩, ?_⟩
  · have hm : x.block ∈ own := by rw [h4, hx]; simp
    exact hq.block _ (hlt _ hm).1 (.inr hm)
  · exact h.below.trans ⟨hq.os, hq.tape, hq.output, hq.size, fun k hk => hq.block k (by have := h.below.size; omega) (.inl (by omega))⟩
/-- Behind the append, and behind the store. -/
theorem AllIn.more {w : World} {B : Nat} {pre : List Mt} {own : List Nat} {W Z w5 : World} (h : AllIn w B pre own W) (hwB : w.heap.size ≤ B) {a : Option Addr} {c : Nat} (h1 : W.heap[B]? = some (.cells #[.slice a pre.length c] 27 (0, 0))) (h2 : MK.Loose W (B + 1) a c pre) (h3 : ∀ x, a = some x → 0 < c) (h4 : own = B :: (a.map (fun x => x.block)).toList)
    (hZ : Below W.heap.size W Z) (hZs : W.heap.size ≤ Z.heap.size) (x : Mt) (L : List Mt) (hL : L = pre ++ [x]) {a' : Option Addr} {c' : Nat} (r1 : MK.Loose w5 (B + 1) a' c' L) (r2 : ∃ row, Z.grownBy w5 row ∧ ∀ j, row = some j → B + 1 ≤ j ∧ 0 < c ∧ ∃ ad, a = some ad ∧ ad.block = j) (r3 : (∃ g, a' = some ⟨g, 0, none⟩ ∧ Z.heap.size ≤ g) ∨ (a' = a ∧ 0 < c)) :
    w5.heap[B]? = some (.cells #[.slice a pre.length c] 27 (0, 0)) ∧ ∃ own', AllIn w B L own' (w5.setCell ⟨B, 0, none⟩ (.slice a' L.length c')) ∧ Turned own W (w5.setCell ⟨B, 0, none⟩ (.slice a' L.length c')) ∧ Fewer own own' W := by
  have hlt := h.lt
  have hBW := lt_of_block h1
  obtain ⟨row, g1, g2⟩ := r2
  have hB5 : w5.heap[B]? = some (.cells #[.slice a pre.length c] 27 (0, 0)) := (g1.block B (by omega) (fun e => by have := (g2 B e.symm).1; omega)).trans ((hZ.block B hBW).trans h1)
  have hB5' := lt_of_block hB5
  have hs5 := g1.size
  have hc' : 0 < c' := by have := r1.1; rw [hL] at this; simp at this; omega
  refine ⟨hB5, B :: (a'.map (fun x => x.block)).toList, ⟨⟨a', c', set_at hB5 0 _, ?_, fun _ _ => hc', rfl⟩, ?_⟩, ?_, ?_⟩
  · refine loose_same r1 (by simp) (fun y hy => Below.heap_setCell _ _ _ _ ?_)
    have := (loose_in r1 hy hc').1
    show y.block ≠ B
    omega
  · refine (((h.below.trans (hZ.mono h.below.size)).grown g1 (by have := h.below.size; omega) (fun k e => by have := (g2 k e).1; omega))).setCell hwB _
  · refine ⟨g1.os.trans hZ.os, g1.tape.trans hZ.tape, g1.output.trans hZ.output, by simp; omega, fun k hk hn => ?_⟩
    rw [h4, List.mem_cons, not_or] at hn
    refine (Below.heap_setCell _ _ _ _ hn.1).trans ((g1.block k (by omega) (fun e => ?_)).trans (hZ.block k hk))
    obtain ⟨_, _, ad, e1, e2⟩ := g2 k e.symm
    refine hn.2 ?_
    rw [e1, ← e2]
    simp
  · intro k hk hkl
    rw [h4]
    rcases List.mem_cons.1 hk with rfl | hk
    · exact List.mem_cons_self
    · rw [Option.mem_toList, Option.map_eq_some_iff] at hk
      obtain ⟨y, hy, rfl⟩ := hk
      rcases r3 with ⟨g, e1, e2⟩ | ⟨e1, _⟩
      · rw [e1] at hy
        injection hy with hy
        subst hy
        dsimp only at hkl
        omega
      · rw [← e1, hy]
        simp

set_option maxHeartbeats 16000000 in
set_option maxRecDepth 1000000 in
theorem all_walk (ALONE : AloneSpec) : AllSpec := by
  intro hs R D clock dl lk a b e f c d g h w hR31 hD200 hsm hS hRows hDk hE hF
  obtain ⟨xs, hxs⟩ : ∃ xs, ready R D clock dl lk = xs := ⟨_, rfl⟩
  have hxl : xs.length ≤ 20000 := by rw [← hxs]; exact ready_len R D clock dl lk hS hR31
  rw [hxs]
  have HTk := Lib.hid (takers_any hs R D a b c d w hR31 hD200 hS hRows hDk)
  have HW := Lib.hid (fun w' (hb : Below w.heap.size w w') tg th (hT : TabL w' tg th (allT D R R.length)) => (⟨hRows.below hb, hDk.below hb, hE.below hb, hF.below hb, by
    have h1 := hT.table (by rw [hT.2.1, allT_length]; omega)
    have h2 : th.length = D.length := by rw [hT.2.1, allT_length]
    rw [h2] at h1
    exact h1, by rw [hT.2.1, allT_length], hD200, hsm⟩ : SelOk ⟨a, c, hs, R, b, d, D, clock, e, g, dl, f, h, lk, tg, th⟩ w'))
  have HXS := Lib.hid (fun tg th => (run_same ⟨a, c, hs, R, b, d, D, clock, e, g, dl, f, h, lk, tg, th⟩).trans hxs)
  have HR1 := Lib.hid (show R.length ≤ 1000 by omega)
  have HR2 := Lib.hid (show ∀ row ∈ R, row.length ≤ 1000 from fun row hr => Nat.le_trans (sum_mem hS row hr) (by omega))
  clear hRows hDk hE hF hS hsm hR31 hxs hD200
  refine (callsIn_wide (n := 0)).1 (callsIn_of_wp_marks Try.func8 rfl trivial ?_ rfl)
  simp only [Try.ntmps8, List.size_toArray, List.length_cons, List.length_nil, Nat.reduceAdd, Nat.reduceSub, Array.replicate_succ, Array.replicate_zero, List.push_toArray, List.append_toArray, List.nil_append, List.cons_append]
  refine wpIn_wide.2 ?_
  go_wp2_with fail
  with_reducible refine HTk.out.mono ?_
  rintro e1 w1 ⟨tg, th, rfl, hT, hq⟩
  have HS1 := Lib.hid (HW.out w1 hq tg th hT)
  have HB1 := Lib.hid hq
  have HXT := Lib.hid (HXS.out tg th)
  clear hT hq HTk HW HXS
  have HB2 := Lib.hid (below2 w1 (.cells #[.slice a hs.length c, .slice b D.length d, .int .i64 clock, .slice e dl.length g, .slice f lk.length h, .slice (some ⟨tg, 0, none⟩) D.length D.length] 58) (.cells #[.slice none 0 0] 27))
  have HL2 := Lib.hid (laid2 w1 (.cells #[.slice a hs.length c, .slice b D.length d, .int .i64 clock, .slice e dl.length g, .slice f lk.length h, .slice (some ⟨tg, 0, none⟩) D.length D.length] 58) (.cells #[.slice none 0 0] 27))
  go_wp2_with fail
  obtain ⟨W3, hW3⟩ : ∃ W3, W3 = (w1.alloc (.cells #[.slice a hs.length c, .slice b D.length d, .int .i64 clock, .slice e dl.length g, .slice f lk.length h, .slice (some ⟨tg, 0, none⟩) D.length D.length] 58)).alloc (.cells #[.slice none 0 0] 27) := ⟨_, rfl⟩
  have hs3 : W3.heap.size = w1.heap.size + 2 := by rw [hW3]; simp
  rw [← hW3] at HB2 HL2 ⊢
  clear hW3
  have hww := HB1.out.size
  have hit := run_ok ALONE _ w1 W3 HS1.out HB2.out HR1.out HR2.out
  rw [HXT.out] at hit
  have h0 : AllIn w (w1.heap.size + 1) [] [w1.heap.size + 1] W3 := ⟨⟨none, 0, HL2.out.2, loose_nil _ _, (fun x e => by cases e), rfl⟩, HB1.out.trans (HB2.out.mono hww)⟩
  refine wp_range_steady (gf := 19) (bnd := #[.agg #[.slice a hs.length c, .slice b D.length d, .int .i64 clock, .slice e dl.length g, .slice f lk.length h, .slice (some ⟨tg, 0, none⟩) D.length D.length]]) (lb := #[]) rfl (enters_of Try.func19 (by kernel_rfl) rfl)
    hit (Below.refl _ _) rfl (AllIn w (w1.heap.size + 1)) (fun pre own A B h hq => h.quiet (by omega) hq) (fun pre own A h k hk => (h.lt k hk).1) [w1.heap.size + 1] h0
    (fun k hk h => by omega) (fun k hk h => by simp at hk; omega) (fun x => (.cells #[.int .i64 x.p, .int .i64 x.i, .int .i64 x.q, .int .i64 x.j] 30)) (fun x bb => { tmps := #[.slice a hs.length c, .slice b D.length d, .int .i64 clock, .slice e dl.length g, .slice f lk.length h, undef, undef, undef, undef, undef, .slice none 0 0, .pointer (some ⟨w1.heap.size, 0, none⟩), .pointer (some ⟨w1.heap.size + 1, 0, none⟩), .pointer (some ⟨bb, 0, none⟩), .slice a hs.length c, .slice b D.length d, .int .i64 clock, .slice e dl.length g, .slice f lk.length h, .slice a hs.length c, .slice b D.length d, .slice (some ⟨tg, 0, none⟩) D.length D.length, .agg #[.slice a hs.length c, .slice b D.length d, .int .i64 clock, .slice e dl.length g, .slice f lk.length h, .slice (some ⟨tg, 0, none⟩) D.length D.length], .agg #[.slice a hs.length c, .slice b D.length d, .int .i64 clock, .slice e dl.length g, .slice f lk.length h, .slice (some ⟨tg, 0, none⟩) D.length D.length], .func (.func 19) #[.agg #[.slice a hs.length c, .slice b D.length d, .int .i64 clock, .slice e dl.length g, .slice f lk.length h, .slice (some ⟨tg, 0, none⟩) D.length D.length]] #[], .agg #[.int .i64 x.p, .int .i64 x.i, .int .i64 x.q, .int .i64 x.j], undef, undef, undef, undef, undef], defers := [] }) ?assign ?body ?done
  case assign =>
    intro m l' x W' K hK
    simp only [Mt.v]
    gi_wp2_with fail
    exact hK
  case body =>
    intro m l' pre x own W' bb hpx hI hbW hbo hbx
    obtain ⟨⟨x0, x1, x2, x3⟩, _⟩ := box4 hbx
    have hplen : pre.length + 1 ≤ 20000 := by have := hpx.length_le; simp at this; omega
    obtain ⟨ra, rc, g1, g2, g3, g4⟩ := hI.row
    obtain ⟨y0, z0⟩ := cell1 g1
    have hBs : w1.heap.size + 1 < W'.heap.size := lt_of_block g1
    obtain ⟨L, hL⟩ : ∃ L, L = pre ++ [x] := ⟨_, rfl⟩
    have HKx := Lib.hid (rowC_at (K := MK) W' 30 [x] #[.int .i64 x.p, .int .i64 x.i, .int .i64 x.q, .int .i64 x.j] W'.heap.size 1 rfl rfl rfl (by simp))
    have HG1 := Lib.hid g1
    have HG2 := Lib.hid g2
    have HGZ := Lib.hid (g2.below (below1 W' (.cells #[.int .i64 x.p, .int .i64 x.i, .int .i64 x.q, .int .i64 x.j] 30)))
    have HG3 := Lib.hid g3
    have HG4 := Lib.hid g4
    have HI := Lib.hid hI
    have HLL := Lib.hid hL
    rw [← hL]
    clear hbx hpx hI g1 g2 g3 g4 hit h0 hL hs3 hbo
    gi_wp2_with (gi_at_builtin; refine wpListIn_append_loose rfl _ _ rfl (w1.heap.size + 1 + 1) ra pre.length rc rfl pre rfl HGZ.out (some ⟨W'.heap.size, 0, none⟩) 1 1 rfl [x] rfl (by simp) HKx.out (by simp; omega) (by simp; omega) L HLL.out ?_; intro a1 c1 w5 r1 r2 r3; have HM := Lib.hid (HI.out.more (by omega) HG1.out HG2.out HG3.out HG4.out (below1 W' (.cells #[.int .i64 x.p, .int .i64 x.i, .int .i64 x.q, .int .i64 x.j] 30)) (by simp) x L HLL.out r1 r2 r3); obtain ⟨q0, q1⟩ := cell1 HM.out.1; clear r1 r2 r3)
    exact HM.out.2
  case done =>
    intro Dm own W' hI hT hF hD1 hD2 hD3 hD4
    have hI2 := hI.quiet (n := W3.heap.size) (by omega) (Quiet.put (.deferred none) hD1 hD3)
    obtain ⟨ra, rc, g1, g2, g3, g4⟩ := hI.row
    obtain ⟨y0, z0⟩ := cell1 g1
    obtain ⟨rb, rd, k1, k2, k3, k4⟩ := hI2.row
    have he : rb = ra ∧ rd = rc := by
      have e1 := (World.putObj_heap_other (w := W') (r := Dm) (o := .deferred none) (k := w1.heap.size + 1) (by omega)).symm.trans k1
      rw [g1] at e1
      simp at e1
      exact ⟨e1.1.symm, e1.2.symm⟩
    obtain ⟨rfl, rfl⟩ := he
    have HF := Lib.hid (loose_far k2)
    have HBf := Lib.hid hI2.below
    have HK := Lib.hid hD4
    clear g1 g2 g3 g4 k1 k2 k3 k4 hI hI2 hT hF hD1 hD2 hD3 hD4 hit h0 hs3
    go_wp2_with fail
    refine ⟨by simp, .inl ⟨_, _, rfl, run_takeDeferred HK.out, ?_⟩⟩
    exact ⟨_, results_tmp rfl _ _ _, rb, rd, rfl, HF.out.mono (by omega), HBf.out⟩
end Go.Proofs.Ytjiepdgflfhkcaa
