/- The numbers of those sockets that are such. -/
import Derived.Test.YtdpnnmbdbfpaeaaActs
import Derived.Test.YtdpnnmbdbfpaeaaRange
import Derived.Shelf.Abstract
import Derived.Shelf.RegionOpen
import Derived.WalkKit
import Derived.OwnWalkIn
import Derived.TacticsInMore
import Derived.LoopNIn
import Derived.LoopIn
set_option linter.unusedSimpArgs false
set_option linter.unusedVariables false
namespace Go.Proofs.Ytdpnnmbdbfpaeaa
open Go.RowKit Go.Proofs.Ytdpnnmbdbfpaeaa.Kind
attribute [local go_sem] Oper.semAt_some

/-- Which of the first k are such, told by number and socket. -/
def selN (f : Nat → Sk → Bool) (S : List Sk) (k : Nat) : List Int := (List.range k).filterMap (fun (j : Nat) => match S[j]? with | some x => if f j x = true then some (j : Int) else none | none => none)
theorem selN_succ {f : Nat → Sk → Bool} {S : List Sk} {k : Nat} {x : Sk} (h : S[k]? = some x) : selN f S (k + 1) = selN f S k ++ (if f k x = true then [(k : Int)] else []) := by
  unfold selN
  rw [List.range_succ, List.filterMap_append]
  congr 1
  simp only [List.filterMap_cons, List.filterMap_nil, h]
  by_cases hf : f k x = true
  · simp [hf]
  · simp [hf]
theorem selN_pre (f : Nat → Sk → Bool) (S : List Sk) {k n : Nat} (h : k ≤ n) : selN f S k <+: selN f S n := by
  obtain ⟨d, rfl⟩ : ∃ d, n = k + d := ⟨n - k, by omega⟩
  unfold selN
  rw [List.range_add, List.filterMap_append]
  exact List.prefix_append _ _
theorem selN_length (f : Nat → Sk → Bool) (S : List Sk) (k : Nat) : (selN f S k).length ≤ k := by
  unfold selN
  have := List.length_filterMap_le (fun (j : Nat) => match S[j]? with | some x => if f j x = true then some (j : Int) else none | none => none) (List.range k)
  simpa using this

theorem box1 {w : World} {g : Nat} {x : Value} {t : TypeId} (h : w.heap[g]? = some (.cells #[x] t (0, 0))) : w.cell? ⟨g, 0, none⟩ = some x := (cell1 h).1
theorem turned_block {own : List Nat} {A B : World} {k : Nat} {o : Obj} (h : Turned own A B) (hn : k ∉ own) (hk : A.heap[k]? = some o) : B.heap[k]? = some o := (h.block k (lt_of_block hk) hn).trans hk
theorem loose_in {w : World} {B : Nat} {a : Option Addr} {c : Nat} {l : List Int} (h : IK.Loose w B a c l) {x : Addr} (hx : a = some x) (hc : 0 < c) : B ≤ x.block ∧ x.block < w.heap.size := by
  obtain ⟨b, o, h1, h2, h3, _⟩ := h.2.2.2 hc
  rw [hx] at h1
  injection h1 with h1
  subst h1
  exact ⟨h2, h3⟩
section
variable {F : Fence} {n : Nat}
theorem wpListIn_append_loose {w : World} {ops : Array Oper} {rest : List Oper} {o : Oper} {act : Act} {Q : Exit → Act → World → Prop} (hgd : o.guard = none) (s x : Operand)
    (ho : o.op = .call { callee := .builtin .append, args := #[s, x], argTypes := #[IK.S, IK.S] })
    (base : Nat) (a : Option Addr) (q c : Nat) (hs : act.eval s = .slice a q c) (l : List Int) (hn : q = l.length) (hD : IK.Loose w base a c l) (b : Option Addr) (m d : Nat) (hx : act.eval x = .slice b m d) (k : List Int) (hm : m = k.length) (hk : 0 < k.length) (hR : IK.RowC w b d k) (hlen : l.length + k.length ≤ 4000000) (hbase : base ≤ w.heap.size)
    (L : List Int) (hL : L = l ++ k)
    (h : ∀ a' c' w', IK.Loose w' base a' c' L → (∃ row, w.grownBy w' row ∧ ∀ j, row = some j → base ≤ j ∧ 0 < c ∧ ∃ ad, a = some ad ∧ ad.block = j) → ((∃ g, a' = some ⟨g, 0, none⟩ ∧ w.heap.size ≤ g) ∨ (a' = a ∧ 0 < c)) → wpListIn F n Try.prog ops Q rest (act.put o.dst (.slice a' L.length c')) w') : wpListIn F n Try.prog ops Q (o :: rest) act w := by
  refine wpListIn_plain hgd fun K hK' => ?_
  obtain ⟨a', c', w', hrun, r1, r2, r3⟩ := Kind.run_append_loose (K := IK) w o.type base a c q l hn hD b d m k hm hk hR hlen hbase
  rw [← hL] at r1 hrun
  unfold Oper.wpIn
  refine ⟨?_, ?_⟩
  · simp [Oper.about, ho, resolve, Target.leads, Sem.run_pure]
  · rw [Oper.semAt_plain F _ _ (by rw [ho]; intro c hc'; cases hc')]
    simp [execOp, ho, resolve, invoke, builtin, hs, hx, hrun, Result.andThen]
    exact hK' _ _ (h a' c' w' r1 r2 r3)
end

/-- How it stands between two that are told: they lie in a row that the variable in block B holds. -/
structure AllIn (w : World) (B : Nat) (pre : List Int) (own : List Nat) (wr : World) : Prop where
  row : ∃ a c, wr.heap[B]? = some (.cells #[.slice a pre.length c] 42 (0, 0)) ∧ IK.Loose wr (B + 1) a c pre ∧ (∀ x, a = some x → 0 < c) ∧ own = B :: (a.map (fun x => x.block)).toList
  below : Below w.heap.size w wr
theorem AllIn.lt {w : World} {B : Nat} {pre : List Int} {own : List Nat} {A : World} (h : AllIn w B pre own A) : ∀ k ∈ own, k < A.heap.size ∧ B ≤ k := by
  obtain ⟨a, c, h1, h2, h3, h4⟩ := h.row
  intro k hk
  rw [h4] at hk
  rcases List.mem_cons.1 hk with rfl | hk
  · exact ⟨lt_of_block h1, Nat.le_refl _⟩
  · rw [Option.mem_toList, Option.map_eq_some_iff] at hk
    obtain ⟨x, hx, rfl⟩ := hk
    have := loose_in h2 hx (h3 x hx)
    omega
theorem AllIn.quiet {w : World} {B n : Nat} {pre : List Int} {own : List Nat} {A C : World} (h : AllIn w B pre own A) (hn : w.heap.size ≤ n) (hq : Quiet n own A C) : AllIn w B pre own C := by
  have hlt := h.lt
  obtain ⟨a, c, h1, h2, h3, h4⟩ := h.row
  refine ⟨⟨a, c, (hq.block B (lt_of_block h1) (.inr (by rw [h4]; exact List.mem_cons_self))).trans h1, loose_same h2 hq.size (fun x hx => ?_), h3, h4⟩, ?_⟩
  · have hm : x.block ∈ own := by rw [h4, hx]; simp
    exact hq.block _ (hlt _ hm).1 (.inr hm)
  · exact h.below.trans ⟨hq.os, hq.tape, hq.output, hq.size, fun k hk => hq.block k (by have := h.below.size; omega) (.inl (by omega))⟩
/-- Behind the append, and behind the store. -/
theorem AllIn.more {w : World} {B : Nat} {pre : List Int} {own : List Nat} {W Z w5 : World} (h : AllIn w B pre own W) (hwB : w.heap.size ≤ B) {a : Option Addr} {c : Nat} (h1 : W.heap[B]? = some (.cells #[.slice a pre.length c] 42 (0, 0))) (h2 : IK.Loose W (B + 1) a c pre) (h3 : ∀ x, a = some x → 0 < c) (h4 : own = B :: (a.map (fun x => x.block)).toList)
    (hZ : Below W.heap.size W Z) (hZs : W.heap.size ≤ Z.heap.size) (x : Int) (L : List Int) (hL : L = pre ++ [x]) {a' : Option Addr} {c' : Nat} (r1 : IK.Loose w5 (B + 1) a' c' L) (r2 : ∃ row, Z.grownBy w5 row ∧ ∀ j, row = some j → B + 1 ≤ j ∧ 0 < c ∧ ∃ ad, a = some ad ∧ ad.block = j) (r3 : (∃ g, a' = some ⟨g, 0, none⟩ ∧ Z.heap.size ≤ g) ∨ (a' = a ∧ 0 < c)) :
    w5.heap[B]? = some (.cells #[.slice a pre.length c] 42 (0, 0)) ∧ ∃ own', AllIn w B L own' (w5.setCell ⟨B, 0, none⟩ (.slice a' L.length c')) ∧ Turned own W (w5.setCell ⟨B, 0, none⟩ (.slice a' L.length c')) ∧ Fewer own own' W := by
  have hlt := h.lt
  have hBW := lt_of_block h1
  obtain ⟨row, g1, g2⟩ := r2
  have hB5 : w5.heap[B]? = some (.cells #[.slice a pre.length c] 42 (0, 0)) := (g1.block B (by omega) (fun e => by have := (g2 B e.symm).1; omega)).trans ((hZ.block B hBW).trans h1)
  have hB5' := lt_of_block hB5
  have hs5 := g1.size
  have hc' : 0 < c' := by have := r1.1; rw [hL] at this; simp at this; omega
  refine ⟨hB5, B :: (a'.map (fun x => x.block)).toList, ⟨⟨a', c', set_at hB5 0 _, ?_, fun _ _ => hc', rfl⟩, ?_⟩, ?_, ?_⟩
  · refine loose_same r1 (by simp) (fun y hy => Below.heap_setCell _ _ _ _ ?_)
    have := (loose_in r1 hy hc').1
    show y.block ≠ B
    omega
  · refine (((h.below.trans (hZ.mono h.below.size)).grown g1 (by have := h.below.size; omega) (fun k e => by have := (g2 k e).1; omega))).setCell hwB _
  · refine ⟨g1.os.trans hZ.os, g1.tape.trans hZ.tape, g1.output.trans hZ.output, by simp; omega, fun k hk hn => ?_⟩
    rw [h4, List.mem_cons, not_or] at hn
    refine (Below.heap_setCell _ _ _ _ hn.1).trans ((g1.block k (by omega) (fun e => ?_)).trans (hZ.block k hk))
    obtain ⟨_, _, ad, e1, e2⟩ := g2 k e.symm
    refine hn.2 ?_
    rw [e1, ← e2]
    simp
  · intro k hk hkl
    rw [h4]
    rcases List.mem_cons.1 hk with rfl | hk
    · exact List.mem_cons_self
    · rw [Option.mem_toList, Option.map_eq_some_iff] at hk
      obtain ⟨y, hy, rfl⟩ := hk
      rcases r3 with ⟨g, e1, e2⟩ | ⟨e1, _⟩
      · rw [e1] at hy
        injection hy with hy
        subst hy
        dsimp only at hkl
        omega
      · rw [← e1, hy]
        simp

/-- The closure's contract. -/
def Is_live (S : List Sk) (f : Nat → Sk → Bool) (w1 : World) : Prop := ∀ W', Below w1.heap.size w1 W' → ∀ (k : Nat) (x : Sk), S[k]? = some x → Calls Try.prog 24 #[.int .i64 k, .agg #[.int .i8 x.ad.f, .int .u16 x.ad.g0, .int .u16 x.ad.g1, .int .u16 x.ad.g2, .int .u16 x.ad.g3, .int .u16 x.ad.g4, .int .u16 x.ad.g5, .int .u16 x.ad.g6, .int .u16 x.ad.g7, .int .i64 x.ad.p, .int .i64 x.by_, .int .i64 x.opened, .int .i64 x.shut, .bool x.dead]] W' fun e w' => e = .returned (.bool (f k x)) ∧ Below W'.heap.size W' w'

set_option maxHeartbeats 16000000 in
set_option maxRecDepth 1000000 in
theorem those_live (S : List Sk) (f : Nat → Sk → Bool) (xs : List Int) (hxs : selN f S S.length = xs) (a : Option Addr) (c Bl Bi : Nat) (w1 w : World) (hS : S.length ≤ 4000) (hA : SK.RowC w1 a c S) (hF : Is_live S f w1) (hb : Below w1.heap.size w1 w)
    (hBl : w.heap[Bl]? = some (.cells #[.slice a S.length c] 24 (0, 0))) (hBi : w.heap[Bi]? = some (.cells #[.func (.func 24) #[] #[]] 66 (0, 0)))
    (Keep : Nat → Prop) (hK : ∀ k, (k < w1.heap.size ∨ k = Bl ∨ k = Bi) → Keep k) :
    IterOk Try.prog 32 (fun l => #[] ++ #[.func (.yield l) #[] #[]] ++ #[.pointer (some ⟨Bl, 0, none⟩), .pointer (some ⟨Bi, 0, none⟩)]) (fun n : Int => .int .i64 n) xs Keep w := by
  intro l J own0 W hbw hJ hlt hY hkeep h0
  have hdep : Fence.wide.depth = none := rfl
  have hb2 := hb.trans (hbw.mono hb.size)
  have hBl2 := (hbw.block Bl (lt_of_block hBl)).trans hBl
  have hBi2 := (hbw.block Bi (lt_of_block hBi)).trans hBi
  have HBi := Lib.hid hBi2
  have l0 := box1 hBl2
  have HJ := Lib.hid hJ
  have HY := Lib.hid hY
  have H0 := Lib.hid h0
  have HF := Lib.hid hF
  have HA := Lib.hid hA
  have HX := Lib.hid hxs
  have HK0 := Lib.hid (show ∀ k ∈ own0, w1.heap.size ≤ k ∧ k ≠ Bl ∧ k ≠ Bi from fun k hk => by
    have h1 := hkeep k hk
    exact ⟨Nat.le_of_not_lt (fun h => h1 (hK k (.inl h))), fun h => h1 (hK k (.inr (.inl h))), fun h => h1 (hK k (.inr (.inr h)))⟩)
  have HW1 := Lib.hid (Below.size hb2)
  have HB2 := Lib.hid hb2
  clear hb hbw hb2 hBl hBi hBl2 hBi2 hJ hlt hY h0 hkeep hK hxs hA hF
  refine callsIn_of_wp Try.func32 rfl trivial ?_ rfl
  simp only [Try.ntmps32, List.size_toArray, List.length_cons, List.length_nil, Nat.reduceAdd, Nat.reduceSub, Array.replicate_succ, Array.replicate_zero, List.push_toArray, List.append_toArray, List.nil_append, List.cons_append]
  gi_wp2_with fail
  gi_loopw [8] (fun u8 wr => ∃ (k : Nat) (own : List Nat), u8 = .int .i64 k ∧ k ≤ S.length ∧ Hid (J (selN f S k) own wr) ∧ Hid (Turned own0 W wr) ∧ Hid (Fewer own0 own W)) (fun u _ => S.length - (intOf u).toNat)
  case atStart => exact ⟨0, own0, rfl, by omega, H0, Lib.hid (Turned.refl _ _), Lib.hid (Fewer.refl _ _)⟩
  case round =>
    obtain ⟨k, own, rfl, hk, hJr, hTr, hFr⟩ := hrel
    have HJr := Lib.hid hJr.out
    have HTr := Lib.hid hTr.out
    have HFr := Lib.hid hFr.out
    clear hJr hTr hFr H0 l0
    by_cases hlt : k < S.length
    · obtain ⟨x, hx⟩ : ∃ x, S[k]? = some x := ⟨_, List.getElem?_eq_getElem hlt⟩
      have hbr : Below w1.heap.size w1 wr := HB2.out.trans (HTr.out.toBelow HW1.out (fun k hk => (HK0.out k hk).1))
      obtain ⟨b1, o1, rfl, hb1, hat⟩ := (HA.out.below hbr).2.2.2 (by omega)
      obtain ⟨⟨z0, z1, z2, z3, z4, z5, z6⟩, z7, z8, z9, z10, z11, z12, z13⟩ := SK.fourteen hat hx
      have hBr := turned_block HTr.out (fun h => (HK0.out _ h).2.2 rfl) HBi.out
      have i1 := box1 hBr
      have hBi1 : Bi < wr.heap.size := lt_of_block hBr
      have hq1 := below1 wr (.cells #[.int .i8 x.ad.f, .int .u16 x.ad.g0, .int .u16 x.ad.g1, .int .u16 x.ad.g2, .int .u16 x.ad.g3, .int .u16 x.ad.g4, .int .u16 x.ad.g5, .int .u16 x.ad.g6, .int .u16 x.ad.g7, .int .i64 x.ad.p, .int .i64 x.by_, .int .i64 x.opened, .int .i64 x.shut, .bool x.dead] 48)
      have HC := Lib.hid (HF.out (wr.alloc (.cells #[.int .i8 x.ad.f, .int .u16 x.ad.g0, .int .u16 x.ad.g1, .int .u16 x.ad.g2, .int .u16 x.ad.g3, .int .u16 x.ad.g4, .int .u16 x.ad.g5, .int .u16 x.ad.g6, .int .u16 x.ad.g7, .int .i64 x.ad.p, .int .i64 x.by_, .int .i64 x.opened, .int .i64 x.shut, .bool x.dead] 48)) (hbr.trans (hq1.mono hbr.size)) k x hx)
      have HM := Lib.hid (selN_succ (f := f) hx)
      have HQ1 := Lib.hid hq1
      have hki : (k : Int) < (S.length : Int) := by omega
      have hszW := HTr.out.size
      clear hbr hat hx hBr hq1
      obtain ⟨r, hr⟩ : ∃ r, f k x = r := ⟨_, rfl⟩
      rw [hr] at HC HM
      clear hr
      gi_wp2_with fail
      refine ⟨trivial, (callsIn_wide.2 HC.out).mono ?_⟩
      rintro e w2 ⟨rfl, hq⟩
      have hq2 := HQ1.out.trans (hq.mono HQ1.out.size)
      have HJ2 := Lib.hid (HJ.out _ _ _ _ HJr.out (Quiet.below hq2))
      have HT2 := Lib.hid (HTr.out.ofBelow hq2)
      have hsz2 : wr.heap.size ≤ w2.heap.size := hq2.size
      clear hq hq2 HC HQ1 HJr HTr z0 z1 z2 z3 z4 z5 z6 z7 z8 z9 z10 z11 z12 z13 i1
      cases r with
      | true =>
        have hE : selN f S (k + 1) = selN f S k ++ [(k : Int)] := by rw [HM.out, if_pos rfl]
        obtain ⟨fn, tmps, assign, body, hy, hR⟩ := HY.out 0 _ (k : Int) own _ HJ2.out (by rw [← hE, ← HX.out]; exact selN_pre f S (by omega))
        have HE := Lib.hid hE
        clear hE HM
        gi_wp2_with fail
        refine hR.mono ?_
        rintro e W3 ⟨rfl, own', hJ3, ht3, hf3⟩
        have HJ3 := Lib.hid (show J (selN f S (k + 1)) own' W3 by rw [HE.out]; exact hJ3)
        have HT3 := Lib.hid (HT2.out.trans HFr.out ht3)
        have HF3 := Lib.hid (HFr.out.trans (by omega) hf3)
        clear hJ3 ht3 hf3
        gi_wp2_with fail
        go_roundw
        case rel => exact ⟨k + 1, own', by go_num, by omega, HJ3, HT3, HF3⟩
        case measure => simp [intOf]; omega
      | false =>
        have HJ3 := Lib.hid (show J (selN f S (k + 1)) own w2 by rw [HM.out, if_neg (by decide), List.append_nil]; exact HJ2.out)
        clear HM HJ2
        gi_wp2_with fail
        refine ⟨fun _ h => (by cases h), ?_⟩
        gi_wp2_with fail
        go_roundw
        case rel => exact ⟨k + 1, own, by go_num, by omega, HJ3, HT2, HFr⟩
        case measure => simp [intOf]; omega
    · obtain rfl : k = S.length := by omega
      have HJf := Lib.hid (show J xs own wr by rw [← HX.out]; exact HJr.out)
      clear HJr
      gi_wp2_with fail
      go_end0
      exact ⟨⟨_, rfl⟩, own, HJf.out, HTr.out, HFr.out⟩

set_option maxHeartbeats 16000000 in
set_option maxRecDepth 1000000 in
theorem numbers_live (S : List Sk) (f : Nat → Sk → Bool) (xs : List Int) (hxs : selN f S S.length = xs) (a : Option Addr) (c : Nat) (w : World) (hS : S.length ≤ 4000) (hA : SK.RowC w a c S) (hF : Is_live S f w) :
    Calls Try.prog 22 #[.slice a S.length c, .func (.func 24) #[] #[]] w fun e w' => ∃ a1 c1, e = .returned (.slice a1 xs.length c1) ∧ IK.RowC w' a1 c1 xs ∧ Below w.heap.size w w' := by
  have hxl : xs.length ≤ 4000 := by rw [← hxs]; exact Nat.le_trans (selN_length _ _ _) hS
  have HB1 := Lib.hid (below1 w (.cells #[.slice none 0 0] 42))
  have HL1 := Lib.hid (laid1 w (.cells #[.slice none 0 0] 42))
  obtain ⟨w1, hw1⟩ : ∃ w1, w1 = w.alloc (.cells #[.slice none 0 0] 42) := ⟨_, rfl⟩
  have hs1 : w1.heap.size = w.heap.size + 1 := by rw [hw1]; simp
  rw [← hw1] at HB1 HL1
  have HB3 := Lib.hid (below2 w1 (.cells #[.slice a S.length c] 24) (.cells #[.func (.func 24) #[] #[]] 66))
  have HL3 := Lib.hid (laid2 w1 (.cells #[.slice a S.length c] 24) (.cells #[.func (.func 24) #[] #[]] 66))
  have HTH := Lib.hid (show Calls Try.prog 29 #[.slice a S.length c, .func (.func 24) #[] #[]] w1 fun e w' => e = .returned (.func (.func 32) #[] #[.pointer (some ⟨w1.heap.size, 0, none⟩), .pointer (some ⟨w1.heap.size + 1, 0, none⟩)]) ∧ w' = (w1.alloc (.cells #[.slice a S.length c] 24)).alloc (.cells #[.func (.func 24) #[] #[]] 66) by
    clear HB1 HL1 HB3 HL3 hw1 hs1 hF hA hxs
    go_enter Try.func29, Try.ntmps29
    go_wp2_with fail
    go_ret
    exact ⟨rfl, rfl⟩)
  obtain ⟨W3, hW3⟩ : ∃ W3, W3 = (w1.alloc (.cells #[.slice a S.length c] 24)).alloc (.cells #[.func (.func 24) #[] #[]] 66) := ⟨_, rfl⟩
  have hs3 : W3.heap.size = w1.heap.size + 2 := by rw [hW3]; simp
  rw [← hW3] at HB3 HL3 HTH
  have hB13 : Below w.heap.size w W3 := HB1.out.trans (HB3.out.mono (by omega))
  have hit := those_live S f xs hxs a c w1.heap.size (w1.heap.size + 1) w W3 hS hA hF hB13 HL3.out.1 HL3.out.2 (fun k => k < w.heap.size ∨ k = w1.heap.size ∨ k = w1.heap.size + 1) (fun k h => h)
  have h0 : AllIn w w.heap.size [] [w.heap.size] W3 := ⟨⟨none, 0, (HB3.out.block _ (by omega)).trans HL1.out, loose_nil _ _, (fun x e => by cases e), rfl⟩, hB13⟩
  simp only [hs1] at hit
  have HIT := Lib.hid hit
  have HH0 := Lib.hid h0
  clear hW3 hA hF hxs hit h0 hB13
  refine (callsIn_wide (n := 0)).1 (callsIn_of_wp_marks Try.func22 rfl trivial ?_ rfl)
  simp only [Try.ntmps22, List.size_toArray, List.length_cons, List.length_nil, Nat.reduceAdd, Nat.reduceSub, Array.replicate_succ, Array.replicate_zero, List.push_toArray, List.append_toArray, List.nil_append, List.cons_append]
  refine wpIn_wide.2 ?_
  go_wp2_with fail
  rw [← hw1]
  with_reducible refine HTH.out.mono ?_
  rintro e W4 ⟨rfl, rfl⟩
  clear HTH HL1 HL3 hw1
  go_wp2_with fail
  refine wp_range_bare (gf := 32) (bnd := #[]) (lb := #[.pointer (some ⟨w.heap.size + 1, 0, none⟩), .pointer (some ⟨w.heap.size + 1 + 1, 0, none⟩)]) rfl (enters_of Try.func32 (by kernel_rfl) rfl)
    HIT.out (Below.refl _ _) rfl (AllIn w w.heap.size) (fun pre own A B h hq => h.quiet (by omega) hq) (fun pre own A h k hk => (h.lt k hk).1) [w.heap.size] HH0.out
    (fun k hk h => by omega) (fun k hk h => by simp at hk; omega) (fun x => { tmps := #[.slice a S.length c, .func (.func 24) #[] #[], undef, undef, .slice none 0 0, .pointer (some ⟨w.heap.size, 0, none⟩), .int .i64 x, .slice a S.length c, .func (.func 24) #[] #[], .func (.func 32) #[] #[.pointer (some ⟨w.heap.size + 1, 0, none⟩), .pointer (some ⟨w.heap.size + 1 + 1, 0, none⟩)], .int .i64 x, undef, undef, undef, undef, undef], defers := [] }) ?assign ?body ?done
  case assign =>
    intro m l' x W' K hK
    gi_wp2_with fail
    exact hK
  case body =>
    intro m l' pre x own W' hpx hI
    have hplen : pre.length + 1 ≤ 4000 := by have := hpx.length_le; simp at this; omega
    obtain ⟨ra, rc, g1, g2, g3, g4⟩ := hI.row
    obtain ⟨y0, z0⟩ := cell1 g1
    have hBs : w.heap.size < W'.heap.size := lt_of_block g1
    obtain ⟨L, hL⟩ : ∃ L, L = pre ++ [x] := ⟨_, rfl⟩
    have HKx := Lib.hid (rowC_at (K := IK) W' 3 [x] #[.int .i64 x] W'.heap.size 1 rfl rfl rfl (by simp))
    have HG1 := Lib.hid g1
    have HG2 := Lib.hid g2
    have HGZ := Lib.hid (g2.below (below1 W' (.cells #[.int .i64 x] 3)))
    have HG3 := Lib.hid g3
    have HG4 := Lib.hid g4
    have HI := Lib.hid hI
    have HLL := Lib.hid hL
    rw [← hL]
    clear hpx hI g1 g2 g3 g4 HIT HH0 hL hs3
    gi_wp2_with (gi_at_builtin; refine wpListIn_append_loose rfl _ _ rfl (w.heap.size + 1) ra pre.length rc rfl pre rfl HGZ.out (some ⟨W'.heap.size, 0, none⟩) 1 1 rfl [x] rfl (by simp) HKx.out (by simp; omega) (by simp; omega) L HLL.out ?_; intro a1 c1 w5 r1 r2 r3; have HM := Lib.hid (HI.out.more (by omega) HG1.out HG2.out HG3.out HG4.out (below1 W' (.cells #[.int .i64 x] 3)) (by simp) x L HLL.out r1 r2 r3); obtain ⟨q0, q1⟩ := cell1 HM.out.1; clear r1 r2 r3)
    exact HM.out.2
  case done =>
    intro Dm own W' hI hT hF hD1 hD2 hD3 hD4
    have hI2 := hI.quiet (n := W4.heap.size) (by omega) (Quiet.put (.deferred none) hD1 hD3)
    obtain ⟨ra, rc, g1, g2, g3, g4⟩ := hI.row
    obtain ⟨y0, z0⟩ := cell1 g1
    obtain ⟨rb, rd, k1, k2, k3, k4⟩ := hI2.row
    have he : rb = ra ∧ rd = rc := by
      have e1 := (World.putObj_heap_other (w := W') (r := Dm) (o := .deferred none) (k := w.heap.size) (by omega)).symm.trans k1
      rw [g1] at e1
      simp at e1
      exact ⟨e1.1.symm, e1.2.symm⟩
    obtain ⟨rfl, rfl⟩ := he
    have HR := Lib.hid k2.row
    have HBf := Lib.hid hI2.below
    have HK := Lib.hid hD4
    clear g1 g2 g3 g4 k1 k2 k3 k4 hI hI2 hT hF hD1 hD2 hD3 hD4 HIT HH0 hs3
    go_wp2_with fail
    refine ⟨by simp, .inl ⟨_, _, rfl, run_takeDeferred HK.out, ?_⟩⟩
    exact ⟨_, results_tmp rfl _ _ _, rb, rd, rfl, HR.out, HBf.out⟩

/-- The closure's contract. -/
def Is_twice (S : List Sk) (f : Nat → Sk → Bool) (w1 : World) : Prop := ∀ W', Below w1.heap.size w1 W' → ∀ (k : Nat) (x : Sk), S[k]? = some x → Calls Try.prog 26 #[.int .i64 k, .agg #[.int .i8 x.ad.f, .int .u16 x.ad.g0, .int .u16 x.ad.g1, .int .u16 x.ad.g2, .int .u16 x.ad.g3, .int .u16 x.ad.g4, .int .u16 x.ad.g5, .int .u16 x.ad.g6, .int .u16 x.ad.g7, .int .i64 x.ad.p, .int .i64 x.by_, .int .i64 x.opened, .int .i64 x.shut, .bool x.dead]] W' fun e w' => e = .returned (.bool (f k x)) ∧ Below W'.heap.size W' w'

set_option maxHeartbeats 16000000 in
set_option maxRecDepth 1000000 in
theorem those_twice (S : List Sk) (f : Nat → Sk → Bool) (xs : List Int) (hxs : selN f S S.length = xs) (a : Option Addr) (c Bl Bi : Nat) (w1 w : World) (hS : S.length ≤ 4000) (hA : SK.RowC w1 a c S) (hF : Is_twice S f w1) (hb : Below w1.heap.size w1 w)
    (hBl : w.heap[Bl]? = some (.cells #[.slice a S.length c] 24 (0, 0))) (hBi : w.heap[Bi]? = some (.cells #[.func (.func 26) #[] #[]] 66 (0, 0)))
    (Keep : Nat → Prop) (hK : ∀ k, (k < w1.heap.size ∨ k = Bl ∨ k = Bi) → Keep k) :
    IterOk Try.prog 32 (fun l => #[] ++ #[.func (.yield l) #[] #[]] ++ #[.pointer (some ⟨Bl, 0, none⟩), .pointer (some ⟨Bi, 0, none⟩)]) (fun n : Int => .int .i64 n) xs Keep w := by
  intro l J own0 W hbw hJ hlt hY hkeep h0
  have hdep : Fence.wide.depth = none := rfl
  have hb2 := hb.trans (hbw.mono hb.size)
  have hBl2 := (hbw.block Bl (lt_of_block hBl)).trans hBl
  have hBi2 := (hbw.block Bi (lt_of_block hBi)).trans hBi
  have HBi := Lib.hid hBi2
  have l0 := box1 hBl2
  have HJ := Lib.hid hJ
  have HY := Lib.hid hY
  have H0 := Lib.hid h0
  have HF := Lib.hid hF
  have HA := Lib.hid hA
  have HX := Lib.hid hxs
  have HK0 := Lib.hid (show ∀ k ∈ own0, w1.heap.size ≤ k ∧ k ≠ Bl ∧ k ≠ Bi from fun k hk => by
    have h1 := hkeep k hk
    exact ⟨Nat.le_of_not_lt (fun h => h1 (hK k (.inl h))), fun h => h1 (hK k (.inr (.inl h))), fun h => h1 (hK k (.inr (.inr h)))⟩)
  have HW1 := Lib.hid (Below.size hb2)
  have HB2 := Lib.hid hb2
  clear hb hbw hb2 hBl hBi hBl2 hBi2 hJ hlt hY h0 hkeep hK hxs hA hF
  refine callsIn_of_wp Try.func32 rfl trivial ?_ rfl
  simp only [Try.ntmps32, List.size_toArray, List.length_cons, List.length_nil, Nat.reduceAdd, Nat.reduceSub, Array.replicate_succ, Array.replicate_zero, List.push_toArray, List.append_toArray, List.nil_append, List.cons_append]
  gi_wp2_with fail
  gi_loopw [8] (fun u8 wr => ∃ (k : Nat) (own : List Nat), u8 = .int .i64 k ∧ k ≤ S.length ∧ Hid (J (selN f S k) own wr) ∧ Hid (Turned own0 W wr) ∧ Hid (Fewer own0 own W)) (fun u _ => S.length - (intOf u).toNat)
  case atStart => exact ⟨0, own0, rfl, by omega, H0, Lib.hid (Turned.refl _ _), Lib.hid (Fewer.refl _ _)⟩
  case round =>
    obtain ⟨k, own, rfl, hk, hJr, hTr, hFr⟩ := hrel
    have HJr := Lib.hid hJr.out
    have HTr := Lib.hid hTr.out
    have HFr := Lib.hid hFr.out
    clear hJr hTr hFr H0 l0
    by_cases hlt : k < S.length
    · obtain ⟨x, hx⟩ : ∃ x, S[k]? = some x := ⟨_, List.getElem?_eq_getElem hlt⟩
      have hbr : Below w1.heap.size w1 wr := HB2.out.trans (HTr.out.toBelow HW1.out (fun k hk => (HK0.out k hk).1))
      obtain ⟨b1, o1, rfl, hb1, hat⟩ := (HA.out.below hbr).2.2.2 (by omega)
      obtain ⟨⟨z0, z1, z2, z3, z4, z5, z6⟩, z7, z8, z9, z10, z11, z12, z13⟩ := SK.fourteen hat hx
      have hBr := turned_block HTr.out (fun h => (HK0.out _ h).2.2 rfl) HBi.out
      have i1 := box1 hBr
      have hBi1 : Bi < wr.heap.size := lt_of_block hBr
      have hq1 := below1 wr (.cells #[.int .i8 x.ad.f, .int .u16 x.ad.g0, .int .u16 x.ad.g1, .int .u16 x.ad.g2, .int .u16 x.ad.g3, .int .u16 x.ad.g4, .int .u16 x.ad.g5, .int .u16 x.ad.g6, .int .u16 x.ad.g7, .int .i64 x.ad.p, .int .i64 x.by_, .int .i64 x.opened, .int .i64 x.shut, .bool x.dead] 48)
      have HC := Lib.hid (HF.out (wr.alloc (.cells #[.int .i8 x.ad.f, .int .u16 x.ad.g0, .int .u16 x.ad.g1, .int .u16 x.ad.g2, .int .u16 x.ad.g3, .int .u16 x.ad.g4, .int .u16 x.ad.g5, .int .u16 x.ad.g6, .int .u16 x.ad.g7, .int .i64 x.ad.p, .int .i64 x.by_, .int .i64 x.opened, .int .i64 x.shut, .bool x.dead] 48)) (hbr.trans (hq1.mono hbr.size)) k x hx)
      have HM := Lib.hid (selN_succ (f := f) hx)
      have HQ1 := Lib.hid hq1
      have hki : (k : Int) < (S.length : Int) := by omega
      have hszW := HTr.out.size
      clear hbr hat hx hBr hq1
      obtain ⟨r, hr⟩ : ∃ r, f k x = r := ⟨_, rfl⟩
      rw [hr] at HC HM
      clear hr
      gi_wp2_with fail
      refine ⟨trivial, (callsIn_wide.2 HC.out).mono ?_⟩
      rintro e w2 ⟨rfl, hq⟩
      have hq2 := HQ1.out.trans (hq.mono HQ1.out.size)
      have HJ2 := Lib.hid (HJ.out _ _ _ _ HJr.out (Quiet.below hq2))
      have HT2 := Lib.hid (HTr.out.ofBelow hq2)
      have hsz2 : wr.heap.size ≤ w2.heap.size := hq2.size
      clear hq hq2 HC HQ1 HJr HTr z0 z1 z2 z3 z4 z5 z6 z7 z8 z9 z10 z11 z12 z13 i1
      cases r with
      | true =>
        have hE : selN f S (k + 1) = selN f S k ++ [(k : Int)] := by rw [HM.out, if_pos rfl]
        obtain ⟨fn, tmps, assign, body, hy, hR⟩ := HY.out 0 _ (k : Int) own _ HJ2.out (by rw [← hE, ← HX.out]; exact selN_pre f S (by omega))
        have HE := Lib.hid hE
        clear hE HM
        gi_wp2_with fail
        refine hR.mono ?_
        rintro e W3 ⟨rfl, own', hJ3, ht3, hf3⟩
        have HJ3 := Lib.hid (show J (selN f S (k + 1)) own' W3 by rw [HE.out]; exact hJ3)
        have HT3 := Lib.hid (HT2.out.trans HFr.out ht3)
        have HF3 := Lib.hid (HFr.out.trans (by omega) hf3)
        clear hJ3 ht3 hf3
        gi_wp2_with fail
        go_roundw
        case rel => exact ⟨k + 1, own', by go_num, by omega, HJ3, HT3, HF3⟩
        case measure => simp [intOf]; omega
      | false =>
        have HJ3 := Lib.hid (show J (selN f S (k + 1)) own w2 by rw [HM.out, if_neg (by decide), List.append_nil]; exact HJ2.out)
        clear HM HJ2
        gi_wp2_with fail
        refine ⟨fun _ h => (by cases h), ?_⟩
        gi_wp2_with fail
        go_roundw
        case rel => exact ⟨k + 1, own, by go_num, by omega, HJ3, HT2, HFr⟩
        case measure => simp [intOf]; omega
    · obtain rfl : k = S.length := by omega
      have HJf := Lib.hid (show J xs own wr by rw [← HX.out]; exact HJr.out)
      clear HJr
      gi_wp2_with fail
      go_end0
      exact ⟨⟨_, rfl⟩, own, HJf.out, HTr.out, HFr.out⟩

set_option maxHeartbeats 16000000 in
set_option maxRecDepth 1000000 in
theorem numbers_twice (S : List Sk) (f : Nat → Sk → Bool) (xs : List Int) (hxs : selN f S S.length = xs) (a : Option Addr) (c : Nat) (w : World) (hS : S.length ≤ 4000) (hA : SK.RowC w a c S) (hF : Is_twice S f w) :
    Calls Try.prog 22 #[.slice a S.length c, .func (.func 26) #[] #[]] w fun e w' => ∃ a1 c1, e = .returned (.slice a1 xs.length c1) ∧ IK.RowC w' a1 c1 xs ∧ Below w.heap.size w w' := by
  have hxl : xs.length ≤ 4000 := by rw [← hxs]; exact Nat.le_trans (selN_length _ _ _) hS
  have HB1 := Lib.hid (below1 w (.cells #[.slice none 0 0] 42))
  have HL1 := Lib.hid (laid1 w (.cells #[.slice none 0 0] 42))
  obtain ⟨w1, hw1⟩ : ∃ w1, w1 = w.alloc (.cells #[.slice none 0 0] 42) := ⟨_, rfl⟩
  have hs1 : w1.heap.size = w.heap.size + 1 := by rw [hw1]; simp
  rw [← hw1] at HB1 HL1
  have HB3 := Lib.hid (below2 w1 (.cells #[.slice a S.length c] 24) (.cells #[.func (.func 26) #[] #[]] 66))
  have HL3 := Lib.hid (laid2 w1 (.cells #[.slice a S.length c] 24) (.cells #[.func (.func 26) #[] #[]] 66))
  have HTH := Lib.hid (show Calls Try.prog 29 #[.slice a S.length c, .func (.func 26) #[] #[]] w1 fun e w' => e = .returned (.func (.func 32) #[] #[.pointer (some ⟨w1.heap.size, 0, none⟩), .pointer (some ⟨w1.heap.size + 1, 0, none⟩)]) ∧ w' = (w1.alloc (.cells #[.slice a S.length c] 24)).alloc (.cells #[.func (.func 26) #[] #[]] 66) by
    clear HB1 HL1 HB3 HL3 hw1 hs1 hF hA hxs
    go_enter Try.func29, Try.ntmps29
    go_wp2_with fail
    go_ret
    exact ⟨rfl, rfl⟩)
  obtain ⟨W3, hW3⟩ : ∃ W3, W3 = (w1.alloc (.cells #[.slice a S.length c] 24)).alloc (.cells #[.func (.func 26) #[] #[]] 66) := ⟨_, rfl⟩
  have hs3 : W3.heap.size = w1.heap.size + 2 := by rw [hW3]; simp
  rw [← hW3] at HB3 HL3 HTH
  have hB13 : Below w.heap.size w W3 := HB1.out.trans (HB3.out.mono (by omega))
  have hit := those_twice S f xs hxs a c w1.heap.size (w1.heap.size + 1) w W3 hS hA hF hB13 HL3.out.1 HL3.out.2 (fun k => k < w.heap.size ∨ k = w1.heap.size ∨ k = w1.heap.size + 1) (fun k h => h)
  have h0 : AllIn w w.heap.size [] [w.heap.size] W3 := ⟨⟨none, 0, (HB3.out.block _ (by omega)).trans HL1.out, loose_nil _ _, (fun x e => by cases e), rfl⟩, hB13⟩
  simp only [hs1] at hit
  have HIT := Lib.hid hit
  have HH0 := Lib.hid h0
  clear hW3 hA hF hxs hit h0 hB13
  refine (callsIn_wide (n := 0)).1 (callsIn_of_wp_marks Try.func22 rfl trivial ?_ rfl)
  simp only [Try.ntmps22, List.size_toArray, List.length_cons, List.length_nil, Nat.reduceAdd, Nat.reduceSub, Array.replicate_succ, Array.replicate_zero, List.push_toArray, List.append_toArray, List.nil_append, List.cons_append]
  refine wpIn_wide.2 ?_
  go_wp2_with fail
  rw [← hw1]
  with_reducible refine HTH.out.mono ?_
  rintro e W4 ⟨rfl, rfl⟩
  clear HTH HL1 HL3 hw1
  go_wp2_with fail
  refine wp_range_bare (gf := 32) (bnd := #[]) (lb := #[.pointer (some ⟨w.heap.size + 1, 0, none⟩), .pointer (some ⟨w.heap.size + 1 + 1, 0, none⟩)]) rfl (enters_of Try.func32 (by kernel_rfl) rfl)
    HIT.out (Below.refl _ _) rfl (AllIn w w.heap.size) (fun pre own A B h hq => h.quiet (by omega) hq) (fun pre own A h k hk => (h.lt k hk).1) [w.heap.size] HH0.out
    (fun k hk h => by omega) (fun k hk h => by simp at hk; omega) (fun x => { tmps := #[.slice a S.length c, .func (.func 26) #[] #[], undef, undef, .slice none 0 0, .pointer (some ⟨w.heap.size, 0, none⟩), .int .i64 x, .slice a S.length c, .func (.func 26) #[] #[], .func (.func 32) #[] #[.pointer (some ⟨w.heap.size + 1, 0, none⟩), .pointer (some ⟨w.heap.size + 1 + 1, 0, none⟩)], .int .i64 x, undef, undef, undef, undef, undef], defers := [] }) ?assign ?body ?done
  case assign =>
    intro m l' x W' K hK
    gi_wp2_with fail
    exact hK
  case body =>
    intro m l' pre x own W' hpx hI
    have hplen : pre.length + 1 ≤ 4000 := by have := hpx.length_le; simp at this; omega
    obtain ⟨ra, rc, g1, g2, g3, g4⟩ := hI.row
    obtain ⟨y0, z0⟩ := cell1 g1
    have hBs : w.heap.size < W'.heap.size := lt_of_block g1
    obtain ⟨L, hL⟩ : ∃ L, L = pre ++ [x] := ⟨_, rfl⟩
    have HKx := Lib.hid (rowC_at (K := IK) W' 3 [x] #[.int .i64 x] W'.heap.size 1 rfl rfl rfl (by simp))
    have HG1 := Lib.hid g1
    have HG2 := Lib.hid g2
    have HGZ := Lib.hid (g2.below (below1 W' (.cells #[.int .i64 x] 3)))
    have HG3 := Lib.hid g3
    have HG4 := Lib.hid g4
    have HI := Lib.hid hI
    have HLL := Lib.hid hL
    rw [← hL]
    clear hpx hI g1 g2 g3 g4 HIT HH0 hL hs3
    gi_wp2_with (gi_at_builtin; refine wpListIn_append_loose rfl _ _ rfl (w.heap.size + 1) ra pre.length rc rfl pre rfl HGZ.out (some ⟨W'.heap.size, 0, none⟩) 1 1 rfl [x] rfl (by simp) HKx.out (by simp; omega) (by simp; omega) L HLL.out ?_; intro a1 c1 w5 r1 r2 r3; have HM := Lib.hid (HI.out.more (by omega) HG1.out HG2.out HG3.out HG4.out (below1 W' (.cells #[.int .i64 x] 3)) (by simp) x L HLL.out r1 r2 r3); obtain ⟨q0, q1⟩ := cell1 HM.out.1; clear r1 r2 r3)
    exact HM.out.2
  case done =>
    intro Dm own W' hI hT hF hD1 hD2 hD3 hD4
    have hI2 := hI.quiet (n := W4.heap.size) (by omega) (Quiet.put (.deferred none) hD1 hD3)
    obtain ⟨ra, rc, g1, g2, g3, g4⟩ := hI.row
    obtain ⟨y0, z0⟩ := cell1 g1
    obtain ⟨rb, rd, k1, k2, k3, k4⟩ := hI2.row
    have he : rb = ra ∧ rd = rc := by
      have e1 := (World.putObj_heap_other (w := W') (r := Dm) (o := .deferred none) (k := w.heap.size) (by omega)).symm.trans k1
      rw [g1] at e1
      simp at e1
      exact ⟨e1.1.symm, e1.2.symm⟩
    obtain ⟨rfl, rfl⟩ := he
    have HR := Lib.hid k2.row
    have HBf := Lib.hid hI2.below
    have HK := Lib.hid hD4
    clear g1 g2 g3 g4 k1 k2 k3 k4 hI hI2 hT hF hD1 hD2 hD3 hD4 HIT HH0 hs3
    go_wp2_with fail
    refine ⟨by simp, .inl ⟨_, _, rfl, run_takeDeferred HK.out, ?_⟩⟩
    exact ⟨_, results_tmp rfl _ _ _, rb, rd, rfl, HR.out, HBf.out⟩

/-- The closure's contract. -/
def Is_check (S : List Sk) (f : Nat → Sk → Bool) (sb : Nat) (w1 : World) : Prop := ∀ W', Below w1.heap.size w1 W' → ∀ (k : Nat) (x : Sk), S[k]? = some x → Calls Try.prog 23 #[.int .i64 k, .agg #[.int .i8 x.ad.f, .int .u16 x.ad.g0, .int .u16 x.ad.g1, .int .u16 x.ad.g2, .int .u16 x.ad.g3, .int .u16 x.ad.g4, .int .u16 x.ad.g5, .int .u16 x.ad.g6, .int .u16 x.ad.g7, .int .i64 x.ad.p, .int .i64 x.by_, .int .i64 x.opened, .int .i64 x.shut, .bool x.dead], .pointer (some ⟨sb, 0, none⟩)] W' fun e w' => e = .returned (.bool (f k x)) ∧ Below W'.heap.size W' w'

set_option maxHeartbeats 16000000 in
set_option maxRecDepth 1000000 in
theorem those_check (S : List Sk) (f : Nat → Sk → Bool) (xs : List Int) (hxs : selN f S S.length = xs) (a : Option Addr) (c Bl Bi sb : Nat) (w1 w : World) (hS : S.length ≤ 4000) (hA : SK.RowC w1 a c S) (hF : Is_check S f sb w1) (hb : Below w1.heap.size w1 w)
    (hBl : w.heap[Bl]? = some (.cells #[.slice a S.length c] 24 (0, 0))) (hBi : w.heap[Bi]? = some (.cells #[.func (.func 23) #[] #[.pointer (some ⟨sb, 0, none⟩)]] 66 (0, 0)))
    (Keep : Nat → Prop) (hK : ∀ k, (k < w1.heap.size ∨ k = Bl ∨ k = Bi) → Keep k) :
    IterOk Try.prog 32 (fun l => #[] ++ #[.func (.yield l) #[] #[]] ++ #[.pointer (some ⟨Bl, 0, none⟩), .pointer (some ⟨Bi, 0, none⟩)]) (fun n : Int => .int .i64 n) xs Keep w := by
  intro l J own0 W hbw hJ hlt hY hkeep h0
  have hdep : Fence.wide.depth = none := rfl
  have hb2 := hb.trans (hbw.mono hb.size)
  have hBl2 := (hbw.block Bl (lt_of_block hBl)).trans hBl
  have hBi2 := (hbw.block Bi (lt_of_block hBi)).trans hBi
  have HBi := Lib.hid hBi2
  have l0 := box1 hBl2
  have HJ := Lib.hid hJ
  have HY := Lib.hid hY
  have H0 := Lib.hid h0
  have HF := Lib.hid hF
  have HA := Lib.hid hA
  have HX := Lib.hid hxs
  have HK0 := Lib.hid (show ∀ k ∈ own0, w1.heap.size ≤ k ∧ k ≠ Bl ∧ k ≠ Bi from fun k hk => by
    have h1 := hkeep k hk
    exact ⟨Nat.le_of_not_lt (fun h => h1 (hK k (.inl h))), fun h => h1 (hK k (.inr (.inl h))), fun h => h1 (hK k (.inr (.inr h)))⟩)
  have HW1 := Lib.hid (Below.size hb2)
  have HB2 := Lib.hid hb2
  clear hb hbw hb2 hBl hBi hBl2 hBi2 hJ hlt hY h0 hkeep hK hxs hA hF
  refine callsIn_of_wp Try.func32 rfl trivial ?_ rfl
  simp only [Try.ntmps32, List.size_toArray, List.length_cons, List.length_nil, Nat.reduceAdd, Nat.reduceSub, Array.replicate_succ, Array.replicate_zero, List.push_toArray, List.append_toArray, List.nil_append, List.cons_append]
  gi_wp2_with fail
  gi_loopw [8] (fun u8 wr => ∃ (k : Nat) (own : List Nat), u8 = .int .i64 k ∧ k ≤ S.length ∧ Hid (J (selN f S k) own wr) ∧ Hid (Turned own0 W wr) ∧ Hid (Fewer own0 own W)) (fun u _ => S.length - (intOf u).toNat)
  case atStart => exact ⟨0, own0, rfl, by omega, H0, Lib.hid (Turned.refl _ _), Lib.hid (Fewer.refl _ _)⟩
  case round =>
    obtain ⟨k, own, rfl, hk, hJr, hTr, hFr⟩ := hrel
    have HJr := Lib.hid hJr.out
    have HTr := Lib.hid hTr.out
    have HFr := Lib.hid hFr.out
    clear hJr hTr hFr H0 l0
    by_cases hlt : k < S.length
    · obtain ⟨x, hx⟩ : ∃ x, S[k]? = some x := ⟨_, List.getElem?_eq_getElem hlt⟩
      have hbr : Below w1.heap.size w1 wr := HB2.out.trans (HTr.out.toBelow HW1.out (fun k hk => (HK0.out k hk).1))
      obtain ⟨b1, o1, rfl, hb1, hat⟩ := (HA.out.below hbr).2.2.2 (by omega)
      obtain ⟨⟨z0, z1, z2, z3, z4, z5, z6⟩, z7, z8, z9, z10, z11, z12, z13⟩ := SK.fourteen hat hx
      have hBr := turned_block HTr.out (fun h => (HK0.out _ h).2.2 rfl) HBi.out
      have i1 := box1 hBr
      have hBi1 : Bi < wr.heap.size := lt_of_block hBr
      have hq1 := below1 wr (.cells #[.int .i8 x.ad.f, .int .u16 x.ad.g0, .int .u16 x.ad.g1, .int .u16 x.ad.g2, .int .u16 x.ad.g3, .int .u16 x.ad.g4, .int .u16 x.ad.g5, .int .u16 x.ad.g6, .int .u16 x.ad.g7, .int .i64 x.ad.p, .int .i64 x.by_, .int .i64 x.opened, .int .i64 x.shut, .bool x.dead] 48)
      have HC := Lib.hid (HF.out (wr.alloc (.cells #[.int .i8 x.ad.f, .int .u16 x.ad.g0, .int .u16 x.ad.g1, .int .u16 x.ad.g2, .int .u16 x.ad.g3, .int .u16 x.ad.g4, .int .u16 x.ad.g5, .int .u16 x.ad.g6, .int .u16 x.ad.g7, .int .i64 x.ad.p, .int .i64 x.by_, .int .i64 x.opened, .int .i64 x.shut, .bool x.dead] 48)) (hbr.trans (hq1.mono hbr.size)) k x hx)
      have HM := Lib.hid (selN_succ (f := f) hx)
      have HQ1 := Lib.hid hq1
      have hki : (k : Int) < (S.length : Int) := by omega
      have hszW := HTr.out.size
      clear hbr hat hx hBr hq1
      obtain ⟨r, hr⟩ : ∃ r, f k x = r := ⟨_, rfl⟩
      rw [hr] at HC HM
      clear hr
      gi_wp2_with fail
      refine ⟨trivial, (callsIn_wide.2 HC.out).mono ?_⟩
      rintro e w2 ⟨rfl, hq⟩
      have hq2 := HQ1.out.trans (hq.mono HQ1.out.size)
      have HJ2 := Lib.hid (HJ.out _ _ _ _ HJr.out (Quiet.below hq2))
      have HT2 := Lib.hid (HTr.out.ofBelow hq2)
      have hsz2 : wr.heap.size ≤ w2.heap.size := hq2.size
      clear hq hq2 HC HQ1 HJr HTr z0 z1 z2 z3 z4 z5 z6 z7 z8 z9 z10 z11 z12 z13 i1
      cases r with
      | true =>
        have hE : selN f S (k + 1) = selN f S k ++ [(k : Int)] := by rw [HM.out, if_pos rfl]
        obtain ⟨fn, tmps, assign, body, hy, hR⟩ := HY.out 0 _ (k : Int) own _ HJ2.out (by rw [← hE, ← HX.out]; exact selN_pre f S (by omega))
        have HE := Lib.hid hE
        clear hE HM
        gi_wp2_with fail
        refine hR.mono ?_
        rintro e W3 ⟨rfl, own', hJ3, ht3, hf3⟩
        have HJ3 := Lib.hid (show J (selN f S (k + 1)) own' W3 by rw [HE.out]; exact hJ3)
        have HT3 := Lib.hid (HT2.out.trans HFr.out ht3)
        have HF3 := Lib.hid (HFr.out.trans (by omega) hf3)
        clear hJ3 ht3 hf3
        gi_wp2_with fail
        go_roundw
        case rel => exact ⟨k + 1, own', by go_num, by omega, HJ3, HT3, HF3⟩
        case measure => simp [intOf]; omega
      | false =>
        have HJ3 := Lib.hid (show J (selN f S (k + 1)) own w2 by rw [HM.out, if_neg (by decide), List.append_nil]; exact HJ2.out)
        clear HM HJ2
        gi_wp2_with fail
        refine ⟨fun _ h => (by cases h), ?_⟩
        gi_wp2_with fail
        go_roundw
        case rel => exact ⟨k + 1, own, by go_num, by omega, HJ3, HT2, HFr⟩
        case measure => simp [intOf]; omega
    · obtain rfl : k = S.length := by omega
      have HJf := Lib.hid (show J xs own wr by rw [← HX.out]; exact HJr.out)
      clear HJr
      gi_wp2_with fail
      go_end0
      exact ⟨⟨_, rfl⟩, own, HJf.out, HTr.out, HFr.out⟩

set_option maxHeartbeats 16000000 in
set_option maxRecDepth 1000000 in
theorem numbers_check (S : List Sk) (f : Nat → Sk → Bool) (xs : List Int) (hxs : selN f S S.length = xs) (a : Option Addr) (c sb : Nat) (w : World) (hS : S.length ≤ 4000) (hA : SK.RowC w a c S) (hF : Is_check S f sb w) :
    Calls Try.prog 22 #[.slice a S.length c, .func (.func 23) #[] #[.pointer (some ⟨sb, 0, none⟩)]] w fun e w' => ∃ a1 c1, e = .returned (.slice a1 xs.length c1) ∧ IK.RowC w' a1 c1 xs ∧ Below w.heap.size w w' := by
  have hxl : xs.length ≤ 4000 := by rw [← hxs]; exact Nat.le_trans (selN_length _ _ _) hS
  have HB1 := Lib.hid (below1 w (.cells #[.slice none 0 0] 42))
  have HL1 := Lib.hid (laid1 w (.cells #[.slice none 0 0] 42))
  obtain ⟨w1, hw1⟩ : ∃ w1, w1 = w.alloc (.cells #[.slice none 0 0] 42) := ⟨_, rfl⟩
  have hs1 : w1.heap.size = w.heap.size + 1 := by rw [hw1]; simp
  rw [← hw1] at HB1 HL1
  have HB3 := Lib.hid (below2 w1 (.cells #[.slice a S.length c] 24) (.cells #[.func (.func 23) #[] #[.pointer (some ⟨sb, 0, none⟩)]] 66))
  have HL3 := Lib.hid (laid2 w1 (.cells #[.slice a S.length c] 24) (.cells #[.func (.func 23) #[] #[.pointer (some ⟨sb, 0, none⟩)]] 66))
  have HTH := Lib.hid (show Calls Try.prog 29 #[.slice a S.length c, .func (.func 23) #[] #[.pointer (some ⟨sb, 0, none⟩)]] w1 fun e w' => e = .returned (.func (.func 32) #[] #[.pointer (some ⟨w1.heap.size, 0, none⟩), .pointer (some ⟨w1.heap.size + 1, 0, none⟩)]) ∧ w' = (w1.alloc (.cells #[.slice a S.length c] 24)).alloc (.cells #[.func (.func 23) #[] #[.pointer (some ⟨sb, 0, none⟩)]] 66) by
    clear HB1 HL1 HB3 HL3 hw1 hs1 hF hA hxs
    go_enter Try.func29, Try.ntmps29
    go_wp2_with fail
    go_ret
    exact ⟨rfl, rfl⟩)
  obtain ⟨W3, hW3⟩ : ∃ W3, W3 = (w1.alloc (.cells #[.slice a S.length c] 24)).alloc (.cells #[.func (.func 23) #[] #[.pointer (some ⟨sb, 0, none⟩)]] 66) := ⟨_, rfl⟩
  have hs3 : W3.heap.size = w1.heap.size + 2 := by rw [hW3]; simp
  rw [← hW3] at HB3 HL3 HTH
  have hB13 : Below w.heap.size w W3 := HB1.out.trans (HB3.out.mono (by omega))
  have hit := those_check S f xs hxs a c w1.heap.size (w1.heap.size + 1) sb w W3 hS hA hF hB13 HL3.out.1 HL3.out.2 (fun k => k < w.heap.size ∨ k = w1.heap.size ∨ k = w1.heap.size + 1) (fun k h => h)
  have h0 : AllIn w w.heap.size [] [w.heap.size] W3 := ⟨⟨none, 0, (HB3.out.block _ (by omega)).trans HL1.out, loose_nil _ _, (fun x e => by cases e), rfl⟩, hB13⟩
  simp only [hs1] at hit
  have HIT := Lib.hid hit
  have HH0 := Lib.hid h0
  clear hW3 hA hF hxs hit h0 hB13
  refine (callsIn_wide (n := 0)).1 (callsIn_of_wp_marks Try.func22 rfl trivial ?_ rfl)
  simp only [Try.ntmps22, List.size_toArray, List.length_cons, List.length_nil, Nat.reduceAdd, Nat.reduceSub, Array.replicate_succ, Array.replicate_zero, List.push_toArray, List.append_toArray, List.nil_append, List.cons_append]
  refine wpIn_wide.2 ?_
  go_wp2_with fail
  rw [← hw1]
  with_reducible refine HTH.out.mono ?_
  rintro e W4 ⟨rfl, rfl⟩
  clear HTH HL1 HL3 hw1
  go_wp2_with fail
  refine wp_range_bare (gf := 32) (bnd := #[]) (lb := #[.pointer (some ⟨w.heap.size + 1, 0, none⟩), .pointer (some ⟨w.heap.size + 1 + 1, 0, none⟩)]) rfl (enters_of Try.func32 (by kernel_rfl) rfl)
    HIT.out (Below.refl _ _) rfl (AllIn w w.heap.size) (fun pre own A B h hq => h.quiet (by omega) hq) (fun pre own A h k hk => (h.lt k hk).1) [w.heap.size] HH0.out
    (fun k hk h => by omega) (fun k hk h => by simp at hk; omega) (fun x => { tmps := #[.slice a S.length c, .func (.func 23) #[] #[.pointer (some ⟨sb, 0, none⟩)], undef, undef, .slice none 0 0, .pointer (some ⟨w.heap.size, 0, none⟩), .int .i64 x, .slice a S.length c, .func (.func 23) #[] #[.pointer (some ⟨sb, 0, none⟩)], .func (.func 32) #[] #[.pointer (some ⟨w.heap.size + 1, 0, none⟩), .pointer (some ⟨w.heap.size + 1 + 1, 0, none⟩)], .int .i64 x, undef, undef, undef, undef, undef], defers := [] }) ?assign ?body ?done
  case assign =>
    intro m l' x W' K hK
    gi_wp2_with fail
    exact hK
  case body =>
    intro m l' pre x own W' hpx hI
    have hplen : pre.length + 1 ≤ 4000 := by have := hpx.length_le; simp at this; omega
    obtain ⟨ra, rc, g1, g2, g3, g4⟩ := hI.row
    obtain ⟨y0, z0⟩ := cell1 g1
    have hBs : w.heap.size < W'.heap.size := lt_of_block g1
    obtain ⟨L, hL⟩ : ∃ L, L = pre ++ [x] := ⟨_, rfl⟩
    have HKx := Lib.hid (rowC_at (K := IK) W' 3 [x] #[.int .i64 x] W'.heap.size 1 rfl rfl rfl (by simp))
    have HG1 := Lib.hid g1
    have HG2 := Lib.hid g2
    have HGZ := Lib.hid (g2.below (below1 W' (.cells #[.int .i64 x] 3)))
    have HG3 := Lib.hid g3
    have HG4 := Lib.hid g4
    have HI := Lib.hid hI
    have HLL := Lib.hid hL
    rw [← hL]
    clear hpx hI g1 g2 g3 g4 HIT HH0 hL hs3
    gi_wp2_with (gi_at_builtin; refine wpListIn_append_loose rfl _ _ rfl (w.heap.size + 1) ra pre.length rc rfl pre rfl HGZ.out (some ⟨W'.heap.size, 0, none⟩) 1 1 rfl [x] rfl (by simp) HKx.out (by simp; omega) (by simp; omega) L HLL.out ?_; intro a1 c1 w5 r1 r2 r3; have HM := Lib.hid (HI.out.more (by omega) HG1.out HG2.out HG3.out HG4.out (below1 W' (.cells #[.int .i64 x] 3)) (by simp) x L HLL.out r1 r2 r3); obtain ⟨q0, q1⟩ := cell1 HM.out.1; clear r1 r2 r3)
    exact HM.out.2
  case done =>
    intro Dm own W' hI hT hF hD1 hD2 hD3 hD4
    have hI2 := hI.quiet (n := W4.heap.size) (by omega) (Quiet.put (.deferred none) hD1 hD3)
    obtain ⟨ra, rc, g1, g2, g3, g4⟩ := hI.row
    obtain ⟨y0, z0⟩ := cell1 g1
    obtain ⟨rb, rd, k1, k2, k3, k4⟩ := hI2.row
    have he : rb = ra ∧ rd = rc := by
      have e1 := (World.putObj_heap_other (w := W') (r := Dm) (o := .deferred none) (k := w.heap.size) (by omega)).symm.trans k1
      rw [g1] at e1
      simp at e1
      exact ⟨e1.1.symm, e1.2.symm⟩
    obtain ⟨rfl, rfl⟩ := he
    have HR := Lib.hid k2.row
    have HBf := Lib.hid hI2.below
    have HK := Lib.hid hD4
    clear g1 g2 g3 g4 k1 k2 k3 k4 hI hI2 hT hF hD1 hD2 hD3 hD4 HIT HH0 hs3
    go_wp2_with fail
    refine ⟨by simp, .inl ⟨_, _, rfl, run_takeDeferred HK.out, ?_⟩⟩
    exact ⟨_, results_tmp rfl _ _ _, rb, rd, rfl, HR.out, HBf.out⟩
end Go.Proofs.Ytdpnnmbdbfpaeaa
