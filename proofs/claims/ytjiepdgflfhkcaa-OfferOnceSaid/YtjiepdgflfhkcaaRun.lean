/- What is ready of all, one by one. -/
import Derived.Test.YtjiepdgflfhkcaaEach
import Derived.ScopeJumps
set_option linter.unusedSimpArgs false
set_option linter.unusedVariables false
namespace Go.Proofs.Ytjiepdgflfhkcaa
open Go.RowKit Go.Proofs.Ytjiepdgflfhkcaa.Kind Go.Proofs.Ytjiepdgflfhkcaa.P7
attribute [local go_sem] Oper.semAt_some

def rowL (s : Sv) (p : Nat) (row : List Of) (n : Nat) : List Mt := (List.range n).flatMap fun (i : Nat) => match row[i]? with
  | some o => caseL s p i o
  | none => []
def runL (s : Sv) (n : Nat) : List Mt := (List.range n).flatMap fun (p : Nat) => match s.R[p]? with
  | some row => rowL s p row row.length
  | none => []
theorem rowL_succ {s : Sv} {p i : Nat} {row : List Of} {o : Of} (h : row[i]? = some o) : rowL s p row (i + 1) = rowL s p row i ++ caseL s p i o := by
  unfold rowL
  rw [List.range_succ, List.flatMap_append]
  simp [h]
theorem runL_succ {s : Sv} {p : Nat} {row : List Of} (h : s.R[p]? = some row) : runL s (p + 1) = runL s p ++ rowL s p row row.length := by
  unfold runL
  rw [List.range_succ, List.flatMap_append]
  simp [h]
theorem flat_pre (f : Nat → List Mt) {k n : Nat} (h : k ≤ n) : (List.range k).flatMap f <+: (List.range n).flatMap f := by
  obtain ⟨d, rfl⟩ : ∃ d, n = k + d := ⟨n - k, by omega⟩
  rw [List.range_add, List.flatMap_append]
  exact List.prefix_append _ _
theorem run_pre {s : Sv} {p i : Nat} {row : List Of} {o : Of} (hp : s.R[p]? = some row) (hi : row[i]? = some o) : runL s p ++ rowL s p row i ++ caseL s p i o <+: runL s s.R.length := by
  have h1 : rowL s p row (i + 1) <+: rowL s p row row.length := flat_pre _ (List.getElem?_eq_some_iff.1 hi).1
  have h2 : runL s (p + 1) <+: runL s s.R.length := flat_pre _ (List.getElem?_eq_some_iff.1 hp).1
  rw [runL_succ hp] at h2
  rw [rowL_succ hi] at h1
  rw [List.append_assoc]
  exact ((List.prefix_append_right_inj _).2 h1).trans h2

/-- The marks that ranges have left, the youngest first. -/
def Marks (B : Nat) (own : List Nat) (W : World) : Nat → List Deferred → Prop
  | _, [] => True
  | top, d :: ds => ∃ D, d = { target := .collected D, args := #[] } ∧ B ≤ D ∧ D < top ∧ D ∉ own ∧ W.heap[D]? = some (.deferred (some [])) ∧ Marks B own W D ds
theorem Marks.mono {B : Nat} {own : List Nat} {W : World} : ∀ {top top' : Nat} {ds : List Deferred}, Marks B own W top ds → top ≤ top' → Marks B own W top' ds
  | _, _, [], _, _ => trivial
  | _, _, _ :: _, ⟨D, h1, h2, h3, h4⟩, h => ⟨D, h1, h2, by omega, h4⟩
theorem Marks.kept {B : Nat} {own own' : List Nat} {W W' : World} {lim : Nat} (hb : ∀ k o, k < lim → k ∉ own → W.heap[k]? = some o → W'.heap[k]? = some o) (hf : ∀ k, k < lim → k ∉ own → k ∉ own') : ∀ {top : Nat} {ds : List Deferred}, top ≤ lim → Marks B own W top ds → Marks B own' W' top ds
  | _, [], _, _ => trivial
  | _, _ :: _, ht, ⟨D, h1, h2, h3, h4, h5, h6⟩ => ⟨D, h1, h2, h3, hf D (by omega) h4, hb D _ (by omega) h4 h5, Marks.kept hb hf (by omega) h6⟩
theorem Marks.turned {B : Nat} {own own' : List Nat} {W W' : World} {top : Nat} {ds : List Deferred} (h : Marks B own W top ds) (ht : top ≤ W.heap.size) (h1 : Turned own W W') (h2 : Fewer own own' W) : Marks B own' W' top ds :=
  h.kept (lim := W.heap.size) (fun k o hk hn h => (h1.block k hk hn).trans h) (fun k hk hn hm => hn (h2 k hm hk)) ht
theorem Marks.quiet {B : Nat} {own : List Nat} {W W' : World} {top lim : Nat} {ds : List Deferred} (h : Marks B own W top ds) (ht : top ≤ lim) (hl : lim ≤ W.heap.size) (h1 : Quiet lim own W W') : Marks B own W' top ds :=
  h.kept (lim := lim) (fun k o hk hn h => (h1.block k (by omega) (.inl hk)).trans h) (fun k hk hn => hn) ht

/-- Leaving by them. -/
theorem leave_marks {Pr : Program} {fn : Func} {tmps : Array Value} {R : Ending → World → Prop} {B : Nat} {own : List Nat} (G : World → Prop) (hG : ∀ W D, G W → B ≤ D → D ∉ own → G (W.putObj D (.deferred none))) (hres : fn.results = #[]) (hR : ∀ W v, G W → R (.returned v) W) :
    ∀ (ds : List Deferred) (top : Nat) (W : World), Marks B own W top ds → G W → LeavesInM Fence.wide 0 Pr fn tmps R ds .returning W
  | [], top, W, _, hg => ⟨_, results_none hres _ _ _, hR _ _ hg⟩
  | d :: ds, top, W, ⟨D, h1, h2, h3, h4, h5, h6⟩, hg => by
    subst h1
    refine ⟨by simp, .inl ⟨D, _, rfl, run_takeDeferred h5, ?_⟩⟩
    exact leave_marks G hG hres hR ds D _ (h6.kept (lim := D) (fun k o hk _ h => (World.putObj_heap_other (by omega)).trans h) (fun k _ hn => hn) (Nat.le_refl _)) (hG _ _ hg h2 h4)

theorem turned_of {own : List Nat} {A B C : World} (h : Turned own A B) (k : Below A.heap.size B C) : Turned own A C := ⟨k.os.trans h.os, k.tape.trans h.tape, k.output.trans h.output, Nat.le_trans h.size k.size, fun i hi hn => (k.block i hi).trans (h.block i hi hn)⟩
/-- How it stands between two cases. -/
structure RunOk (s : Sv) (W : World) (own0 : List Nat) (J : List Mt → List Nat → World → Prop) (l : Nat) (done : List Mt) (own : List Nat) (ms : List Deferred) (wr : World) : Prop where
  sel : wr.heap[W.heap.size]? = some (.cells #[.slice s.a s.hs.length s.c, .slice s.b s.D.length s.d, .int .i64 s.clock, .slice s.e s.dl.length s.g, .slice s.f s.lk.length s.h, .slice (some ⟨s.tg, 0, none⟩) s.D.length s.D.length] 58 (0, 0))
  selNot : W.heap.size ∉ own
  yld : wr.heap[W.heap.size + 1]? = some (.cells #[.func (.yield l) #[] #[]] 74 (0, 0))
  yldNot : W.heap.size + 1 ∉ own
  inv : J done own wr
  turned : Turned own0 W wr
  fewer : Fewer own0 own W
  marks : Marks W.heap.size own wr wr.heap.size ms
  size : W.heap.size + 2 ≤ wr.heap.size

/-- .. and between two of one case. -/
structure RunIn (s : Sv) (W : World) (own0 : List Nat) (J : List Mt → List Nat → World → Prop) (l : Nat) (done : List Mt) (top : Nat) (ms : List Deferred) (pre : List Mt) (own : List Nat) (wr : World) : Prop where
  sel : wr.heap[W.heap.size]? = some (.cells #[.slice s.a s.hs.length s.c, .slice s.b s.D.length s.d, .int .i64 s.clock, .slice s.e s.dl.length s.g, .slice s.f s.lk.length s.h, .slice (some ⟨s.tg, 0, none⟩) s.D.length s.D.length] 58 (0, 0))
  selNot : W.heap.size ∉ own
  yld : wr.heap[W.heap.size + 1]? = some (.cells #[.func (.yield l) #[] #[]] 74 (0, 0))
  yldNot : W.heap.size + 1 ∉ own
  inv : J (done ++ pre) own wr
  marks : Marks W.heap.size own wr top ms

set_option maxHeartbeats 16000000 in
set_option maxRecDepth 1000000 in
theorem run_ok (ALONE : AloneSpec) (s : Sv) (w1 w : World) (hS : SelOk s w1) (hb : Below w1.heap.size w1 w) (hRl : s.R.length ≤ 1000) (hrl : ∀ row ∈ s.R, row.length ≤ 1000) :
    IterOk Try.prog 19 (fun l => #[.agg #[.slice s.a s.hs.length s.c, .slice s.b s.D.length s.d, .int .i64 s.clock, .slice s.e s.dl.length s.g, .slice s.f s.lk.length s.h, .slice (some ⟨s.tg, 0, none⟩) s.D.length s.D.length]] ++ #[.func (.yield l) #[] #[]] ++ #[]) Mt.v (runL s s.R.length) (fun k => k < w1.heap.size) w := by
  intro l J own0 W hbw hJ hlt hY hkeep h0
  have hb2 := hb.trans (hbw.mono hb.size)
  have hw1 : w1.heap.size ≤ W.heap.size := hb2.size
  have hk0 : ∀ k ∈ own0, w1.heap.size ≤ k := fun k hk => Nat.le_of_not_lt (hkeep k hk)
  have hl := hS.rows.2.1
  have hl1000 : s.hs.length ≤ 1000 := by omega
  have HJ := Lib.hid hJ
  have HLT := Lib.hid hlt
  have HY := Lib.hid hY
  have HS := Lib.hid hS
  have HB2 := Lib.hid hb2
  have HK0 := Lib.hid hk0
  have HL := Lib.hid hl
  have HRL := Lib.hid hrl
  have HB0 := Lib.hid (below2 W (.cells #[.slice s.a s.hs.length s.c, .slice s.b s.D.length s.d, .int .i64 s.clock, .slice s.e s.dl.length s.g, .slice s.f s.lk.length s.h, .slice (some ⟨s.tg, 0, none⟩) s.D.length s.D.length] 58) (.cells #[.func (.yield l) #[] #[]] 74))
  have HL0 := Lib.hid (laid2 W (.cells #[.slice s.a s.hs.length s.c, .slice s.b s.D.length s.d, .int .i64 s.clock, .slice s.e s.dl.length s.g, .slice s.f s.lk.length s.h, .slice (some ⟨s.tg, 0, none⟩) s.D.length s.D.length] 58) (.cells #[.func (.yield l) #[] #[]] 74))
  have HJ0 := Lib.hid (hJ _ _ _ _ h0 (Quiet.below HB0.out))
  have hlt0 := hlt _ _ _ h0
  clear hb hb2 hJ hlt hY h0 hS hbw hkeep hk0 hrl
  refine callsIn_of_wp_marks Try.func19 rfl trivial ?_ rfl
  simp only [Try.ntmps19, List.size_toArray, List.length_cons, List.length_nil, Nat.reduceAdd, Nat.reduceSub, Array.replicate_succ, Array.replicate_zero, List.push_toArray, List.append_toArray, List.nil_append, List.cons_append]
  refine wpIn_wide.2 ?_
  clear hl
  go_wp2_with fail
  refine wp_scope_straight ?_
  go_wp2_with fail
  refine wp_label ?_
  obtain ⟨W2, hW2⟩ : ∃ W2, W2 = (W.alloc (.cells #[.slice s.a s.hs.length s.c, .slice s.b s.D.length s.d, .int .i64 s.clock, .slice s.e s.dl.length s.g, .slice s.f s.lk.length s.h, .slice (some ⟨s.tg, 0, none⟩) s.D.length s.D.length] 58)).alloc (.cells #[.func (.yield l) #[] #[]] 74) := ⟨_, rfl⟩
  have hs2 : W2.heap.size = W.heap.size + 2 := by rw [hW2]; simp
  rw [← hW2] at HB0 HL0 HJ0 ⊢
  clear hW2
  obtain ⟨y0, _⟩ := box6c HL0.out.1
  go_wp2_with fail
  clear y0
  have hno : ∀ k, W.heap.size ≤ k → k ∉ own0 := fun k hk hm => by have := hlt0 k hm; omega
  refine wp_loop (fun a' wr => ∃ (p : Nat) (own : List Nat) (ms : List Deferred) (u4 u5 u6 u7 u12 u13 u14 u15 u16 u17 u18 u19 u20 u21 u22 u23 u24 u25 u26 u27 u28 u29 u30 u31 : Value), a' = { tmps := #[.agg #[.slice s.a s.hs.length s.c, .slice s.b s.D.length s.d, .int .i64 s.clock, .slice s.e s.dl.length s.g, .slice s.f s.lk.length s.h, .slice (some ⟨s.tg, 0, none⟩) s.D.length s.D.length], .func (.yield l) #[] #[], .pointer (some ⟨W.heap.size, 0, none⟩), .pointer (some ⟨W.heap.size + 1, 0, none⟩), u4, u5, u6, u7, .pointer (some ⟨W.heap.size, 0, none⟩), .slice s.a s.hs.length s.c, .int .i64 s.hs.length, .int .i64 p, u12, u13, u14, u15, u16, u17, u18, u19, u20, u21, u22, u23, u24, u25, u26, u27, u28, u29, u30, u31], defers := ms } ∧ p ≤ s.hs.length ∧ Hid (RunOk s W own0 J l (runL s p) own ms wr)) (fun a' _ => s.hs.length - (intOf (a'.tmps.getD 11 undef)).toNat) ?_ ?_
  · refine ⟨0, own0, [], _, _, _, _, _, _, _, _, _, _, _, _, _, _, _, _, _, _, _, _, _, _, _, _, rfl, by omega, Lib.hid ⟨HL0.out.1, hno _ (Nat.le_refl _), HL0.out.2, hno _ (by omega), HJ0, Turned.below HB0.out, Fewer.refl _ _, trivial, by omega⟩⟩
  · rintro a' wr ⟨p, own, ms, u4, u5, u6, u7, u12, u13, u14, u15, u16, u17, u18, u19, u20, u21, u22, u23, u24, u25, u26, u27, u28, u29, u30, u31, rfl, hp, hO⟩
    have HO := Lib.hid hO.out
    clear hO HL0 HJ0 HB0 hs2 hno hlt0
    have hmu : (intOf (.int .i64 (p : Int))).toNat = p := by simp [intOf]
    by_cases hpl : p < s.hs.length
    · obtain ⟨row, hrow⟩ : ∃ row, s.R[p]? = some row := ⟨_, List.getElem?_eq_getElem (by have := HL.out; omega)⟩
      have hbr : Below w1.heap.size w1 wr := HB2.out.trans (HO.out.turned.toBelow hw1 HK0.out)
      obtain ⟨b1, o1, x, ha, hb1, hc0, hrc⟩ := HS.out.rows.at hrow
      have hc1 := (hbr.cell (p := ⟨b1, o1 + p, none⟩) hb1).trans hc0
      have hb1r : b1 < wr.heap.size := Nat.lt_of_lt_of_le hb1 hbr.size
      obtain ⟨z0, z1, z2, z3, z4, z5⟩ := box6c HO.out.sel
      have hrow1000 : row.length ≤ 1000 := HRL.out row (List.mem_of_getElem? hrow)
      have hpi : (p : Int) < (s.hs.length : Int) := by omega
      have HRow := Lib.hid hrow
      obtain ⟨ra, rn, rc⟩ := x
      dsimp only at hc1
      rw [ha] at z0 ⊢
      clear hbr hc0 hrc hrow
      go_wp2_with fail
      clear z0 z1 z2 z3 z4 z5
      refine wp_loop (fun a' wq => ∃ (i : Nat) (own : List Nat) (ms : List Deferred) (v6 v7 v19 v20 v21 v22 v23 v24 v25 v26 v27 v28 v29 v30 v31 : Value), a' = { tmps := #[.agg #[.slice (some ⟨b1, o1, none⟩) s.hs.length s.c, .slice s.b s.D.length s.d, .int .i64 s.clock, .slice s.e s.dl.length s.g, .slice s.f s.lk.length s.h, .slice (some ⟨s.tg, 0, none⟩) s.D.length s.D.length], .func (.yield l) #[] #[], .pointer (some ⟨W.heap.size, 0, none⟩), .pointer (some ⟨W.heap.size + 1, 0, none⟩), .int .i64 p, .slice ra row.length rc, v6, v7, .pointer (some ⟨W.heap.size, 0, none⟩), .slice (some ⟨b1, o1, none⟩) s.hs.length s.c, .int .i64 s.hs.length, .int .i64 p, .bool true, .int .i64 p, .pointer (some ⟨b1, o1 + p, none⟩), .slice ra row.length rc, .slice ra row.length rc, .int .i64 row.length, .int .i64 i, v19, v20, v21, v22, v23, v24, v25, v26, v27, v28, v29, v30, v31], defers := ms } ∧ i ≤ row.length ∧ Hid (RunOk s W own0 J l (runL s p ++ rowL s p row i) own ms wq)) (fun a' _ => row.length - (intOf (a'.tmps.getD 18 undef)).toNat) ?_ ?_
      · exact ⟨0, own, ms, _, _, _, _, _, _, _, _, _, _, _, _, _, _, _, rfl, by omega, Lib.hid (by rw [show rowL s p row 0 = [] from rfl, List.append_nil]; exact HO.out)⟩
      · rintro a' wq ⟨i, oi, mi, v6, v7, v19, v20, v21, v22, v23, v24, v25, v26, v27, v28, v29, v30, v31, rfl, hi, hO⟩
        have HOi := Lib.hid hO.out
        clear hO HO hc1 hb1r
        by_cases hil : i < row.length
        · obtain ⟨o, ho⟩ : ∃ o, row[i]? = some o := ⟨_, List.getElem?_eq_getElem hil⟩
          obtain ⟨z0, z1, z2, z3, z4, z5⟩ := box6c HOi.out.sel
          rw [ha] at z0
          have hii : (i : Int) < (row.length : Int) := by omega
          have hof := of_any s p i wq
          rw [ha] at hof
          have HOf := Lib.hid hof
          have Ho := Lib.hid ho
          clear hof ho
          go_wp2_with fail
          with_reducible refine HOf.out.mono ?_
          rintro e w3 ⟨rfl, hw3⟩
          clear z0 z1 z2 z3 z4 z5 HOf
          go_wp2_with fail
          obtain ⟨W3, hW3⟩ : ∃ W3, W3 = ((wq.alloc (.cells #[.slice (some ⟨b1, o1, none⟩) s.hs.length s.c, .slice s.b s.D.length s.d, .int .i64 s.clock, .slice s.e s.dl.length s.g, .slice s.f s.lk.length s.h, .slice (some ⟨s.tg, 0, none⟩) s.D.length s.D.length] 58)).alloc (.cells #[.int .i64 p] 3)).alloc (.cells #[.int .i64 i] 3) := ⟨_, rfl⟩
          have hB3 := below3 wq (.cells #[.slice (some ⟨b1, o1, none⟩) s.hs.length s.c, .slice s.b s.D.length s.d, .int .i64 s.clock, .slice s.e s.dl.length s.g, .slice s.f s.lk.length s.h, .slice (some ⟨s.tg, 0, none⟩) s.D.length s.D.length] 58) (.cells #[.int .i64 p] 3) (.cells #[.int .i64 i] 3)
          have hL3 := laid3 wq (.cells #[.slice (some ⟨b1, o1, none⟩) s.hs.length s.c, .slice s.b s.D.length s.d, .int .i64 s.clock, .slice s.e s.dl.length s.g, .slice s.f s.lk.length s.h, .slice (some ⟨s.tg, 0, none⟩) s.D.length s.D.length] 58) (.cells #[.int .i64 p] 3) (.cells #[.int .i64 i] 3)
          have hs3 : W3.heap.size = wq.heap.size + 3 := by rw [hW3]; simp
          rw [← hW3] at hB3 hL3 ⊢
          clear hW3 hw3
          have hbq : Below w1.heap.size w1 wq := HB2.out.trans (HOi.out.turned.toBelow hw1 HK0.out)
          have hown : ∀ k ∈ oi, w1.heap.size ≤ k := fun k hk => by
            by_cases h : k < W.heap.size
            · exact HK0.out k (HOi.out.fewer k hk h)
            · omega
          have hlo := HLT.out _ _ _ HOi.out.inv
          have hsq := HOi.out.size
          have hit := each_ok ALONE s p i row o HRow.out Ho.out _ rfl wq.heap.size (wq.heap.size + 1) (wq.heap.size + 2) w1 W3 HS.out (hbq.trans (hB3.mono (by omega))) (by rw [ha]; exact hL3.1) hL3.2.1 hL3.2.2 (fun k => k < w1.heap.size ∨ k = wq.heap.size ∨ k = wq.heap.size + 1 ∨ k = wq.heap.size + 2) (fun k h => h)
          have h0 : RunIn s W own0 J l (runL s p ++ rowL s p row i) wq.heap.size mi [] oi W3 := ⟨(hB3.block _ (by omega)).trans HOi.out.sel, HOi.out.selNot, (hB3.block _ (by omega)).trans HOi.out.yld, HOi.out.yldNot, by rw [List.append_nil]; exact HJ.out _ _ _ _ HOi.out.inv (Quiet.below hB3), HOi.out.marks.turned (Nat.le_refl _) (Turned.below hB3) (Fewer.refl _ _)⟩
          have hpre := run_pre HRow.out Ho.out
          refine wp_range_steady (gf := 34) (bnd := #[]) (lb := #[.pointer (some ⟨wq.heap.size, 0, none⟩), .pointer (some ⟨wq.heap.size + 1, 0, none⟩), .pointer (some ⟨wq.heap.size + 2, 0, none⟩)]) rfl (enters_of Try.func34 (by kernel_rfl) rfl)
            hit (Below.refl _ _) rfl (RunIn s W own0 J l (runL s p ++ rowL s p row i) wq.heap.size mi)
            (fun pre own A B h hq => ⟨(hq.block _ (lt_of_block h.sel) (.inl (by omega))).trans h.sel, h.selNot, (hq.block _ (lt_of_block h.yld) (.inl (by omega))).trans h.yld, h.yldNot, HJ.out _ _ _ _ h.inv (hq.mono (by omega) (fun k hk => hk)), h.marks.kept (lim := wq.heap.size) (fun k o hk hn h => (hq.block k (lt_of_block h) (.inl (by omega))).trans h) (fun k _ hn => hn) (Nat.le_refl _)⟩)
            (fun pre own A h => HLT.out _ _ _ h.inv) oi h0 (fun k hk h => by omega) (fun k hk h => by have := hown k hk; have := hlo k hk; omega)
            (fun x => (.cells #[.int .i64 x.p, .int .i64 x.i, .int .i64 x.q, .int .i64 x.j] 30)) (fun x b => { tmps := #[.agg #[.slice (some ⟨b1, o1, none⟩) s.hs.length s.c, .slice s.b s.D.length s.d, .int .i64 s.clock, .slice s.e s.dl.length s.g, .slice s.f s.lk.length s.h, .slice (some ⟨s.tg, 0, none⟩) s.D.length s.D.length], .func (.yield l) #[] #[], .pointer (some ⟨W.heap.size, 0, none⟩), .pointer (some ⟨W.heap.size + 1, 0, none⟩), .int .i64 p, .slice ra row.length rc, .int .i64 i, .pointer (some ⟨b, 0, none⟩), .pointer (some ⟨W.heap.size, 0, none⟩), .slice (some ⟨b1, o1, none⟩) s.hs.length s.c, .int .i64 s.hs.length, .int .i64 p, .bool true, .int .i64 p, .pointer (some ⟨b1, o1 + p, none⟩), .slice ra row.length rc, .slice ra row.length rc, .int .i64 row.length, .int .i64 i, .bool true, .int .i64 i, .agg #[.slice (some ⟨b1, o1, none⟩) s.hs.length s.c, .slice s.b s.D.length s.d, .int .i64 s.clock, .slice s.e s.dl.length s.g, .slice s.f s.lk.length s.h, .slice (some ⟨s.tg, 0, none⟩) s.D.length s.D.length], .int .i64 p, .int .i64 i, .func (.func 34) #[] #[.pointer (some ⟨wq.heap.size, 0, none⟩), .pointer (some ⟨wq.heap.size + 1, 0, none⟩), .pointer (some ⟨wq.heap.size + 2, 0, none⟩)], .agg #[.int .i64 x.p, .int .i64 x.i, .int .i64 x.q, .int .i64 x.j], v26, v27, v28, v29, v30, v31], defers := [] }) ?assign ?body ?done
          case assign =>
            intro m l' x W' K hK
            simp only [Mt.v]
            gi_wp2_with fail
            exact hK
          case body =>
            intro m l' pre x own W' b hpx hI hbW hbo hbx
            obtain ⟨fn, tmps, assign, body, hy, hR⟩ := HY.out (m - 1) _ x own W' hI.inv (by rw [List.append_assoc]; exact ((List.prefix_append_right_inj _).2 hpx).trans hpre)
            have hR' : RoundIn (Fence.wide.inRound l') (m - 1) Try.prog l fn tmps assign body W' _ := hR
            obtain ⟨⟨x0, x1, x2, x3⟩, _⟩ := box4 hbx
            have y0 := box1 hI.yld
            have HI := Lib.hid hI
            have HT := Lib.hid (show wq.heap.size ≤ W'.heap.size by have := lt_of_block hbx; omega)
            dsimp only [Mt.v] at hy
            clear hbx hI hpx hR hbq hown hlo hit h0 hpre hL3 hB3 hs3
            gi_wp2_with fail
            refine ⟨fun h => (by cases h), RoundIn.mono hR' ?_⟩
            rintro e W4 ⟨rfl, own', hJ4, ht4, hf4⟩
            gi_wp2_with fail
            exact ⟨own', ⟨turned_block ht4 HI.out.selNot HI.out.sel, fun hm => HI.out.selNot (hf4 _ hm (lt_of_block HI.out.sel)), turned_block ht4 HI.out.yldNot HI.out.yld, fun hm => HI.out.yldNot (hf4 _ hm (lt_of_block HI.out.yld)), by rw [← List.append_assoc]; exact hJ4, HI.out.marks.turned HT.out ht4 hf4⟩, ht4, hf4⟩
          case done =>
            intro D own W' hI hT hF hD1 hD2 hD3 hD4
            have HR := Lib.hid (show RunOk s W own0 J l (runL s p ++ rowL s p row (i + 1)) own ({ target := .collected D, args := #[] } :: mi) W' from
              ⟨hI.sel, hI.selNot, hI.yld, hI.yldNot, by rw [rowL_succ Ho.out, ← List.append_assoc]; exact hI.inv, HOi.out.turned.trans HOi.out.fewer (Turned.atBelow hB3 hT), HOi.out.fewer.trans HOi.out.turned.size (Fewer.atBelow hB3.size hF), ⟨D, rfl, by omega, hD2, hD3, hD4, hI.marks.mono (by omega)⟩, by have := hT.size; omega⟩)
            clear hI hT hF hD1 hD2 hD3 hD4 hbq hown hlo hit h0 hpre hL3 hB3 hs3
            go_wp2_with fail
            refine ⟨⟨i + 1, own, _, _, _, _, _, _, _, _, _, _, _, _, _, _, _, _, rfl, by omega, HR⟩, ?_⟩
            simp [intOf]
            omega
        · obtain rfl : i = row.length := by omega
          have HE := Lib.hid (show RunOk s W own0 J l (runL s (p + 1)) oi mi wq by rw [runL_succ HRow.out]; exact HOi.out)
          go_wp2_with fail
          refine ⟨⟨p + 1, oi, mi, _, _, _, _, _, _, _, _, _, _, _, _, _, _, _, _, _, _, _, _, _, _, _, _, rfl, by omega, HE⟩, ?_⟩
          simp [intOf]
          omega
    · obtain rfl : p = s.hs.length := by omega
      have HE := Lib.hid (show RunOk s W own0 J l (runL s s.R.length) own ms wr by rw [← HL.out]; exact HO.out)
      clear HO
      go_wp2_with fail
      simp only [Exit.noGoto]
      go_wp2_with fail
      exact leave_marks (B := W.heap.size) (own := own) (G := fun w' => J (runL s s.R.length) own w' ∧ Turned own0 W w' ∧ Fewer own0 own W)
        (fun W' D hg hB hn => ⟨HJ.out _ _ _ _ hg.1 (Quiet.put _ hB hn), turned_of hg.2.1 (below_put _ hB), hg.2.2⟩) rfl
        (fun W' v hg => ⟨⟨_, rfl⟩, own, hg.1, hg.2.1, hg.2.2⟩) ms wr.heap.size wr HE.out.marks ⟨HE.out.inv, HE.out.turned, HE.out.fewer⟩
end Go.Proofs.Ytjiepdgflfhkcaa
