/- What is ready of one case, one by one. -/
import Derived.Test.YtjiepdgflfhkcaaMeth
import Derived.Test.YtjiepdgflfhkcaaRange
import Derived.Shelf.Abstract
import Derived.Shelf.RegionOpen
import Derived.WalkKit
import Derived.OwnWalkIn
import Derived.TacticsInMore
import Derived.LoopNIn
import Derived.LoopIn
set_option linter.unusedSimpArgs false
set_option linter.unusedVariables false
namespace Go.Proofs.Ytjiepdgflfhkcaa
open Go.RowKit Go.Proofs.Ytjiepdgflfhkcaa.Kind Go.Proofs.Ytjiepdgflfhkcaa.P7
attribute [local go_sem] Oper.semAt_some

/-- What is ready of case i of goroutine p. -/
def meetL (p i : Nat) (l : List Tk) : List Mt := (l.filter (fun t => decide (t.q ≠ (p : Int)))).map (fun t => ⟨p, i, t.q, t.j⟩)
def caseL (s : Sv) (p i : Nat) (o : Of) : List Mt := if aloneP s.D s.clock o (told s.dl p) (told s.lk p) = true then [⟨p, i, -1, -1⟩] else meetL p i (takP s.D s.R o)
theorem meetL_app (p i : Nat) (l m : List Tk) : meetL p i (l ++ m) = meetL p i l ++ meetL p i m := by simp [meetL]
theorem meetL_take {p i k : Nat} {l : List Tk} {t : Tk} (h : l[k]? = some t) : meetL p i (l.take (k + 1)) = meetL p i (l.take k) ++ (if t.q = (p : Int) then [] else [⟨p, i, t.q, t.j⟩]) := by
  have hlt := (List.getElem?_eq_some_iff.1 h).1
  have e : l.take (k + 1) = l.take k ++ [t] := by
    rw [List.take_add_one, h]
    rfl
  rw [e, meetL_app]
  congr 1
  unfold meetL
  by_cases hq : t.q = (p : Int) <;> simp [hq]
theorem meetL_pre (p i k : Nat) (l : List Tk) : meetL p i (l.take k) <+: meetL p i l := by
  refine ⟨meetL p i (l.drop k), ?_⟩
  rw [← meetL_app, List.take_append_drop]

theorem box1 {w : World} {g : Nat} {x : Value} {t : TypeId} (h : w.heap[g]? = some (.cells #[x] t (0, 0))) : w.cell? ⟨g, 0, none⟩ = some x := (cell1 h).1
theorem turned_block {own : List Nat} {A B : World} {k : Nat} {o : Obj} (h : Turned own A B) (hn : k ∉ own) (hk : A.heap[k]? = some o) : B.heap[k]? = some o := (h.block k (lt_of_block hk) hn).trans hk

set_option maxHeartbeats 16000000 in
set_option maxRecDepth 1000000 in
theorem each_ok (ALONE : AloneSpec) (s : Sv) (p i : Nat) (row : List Of) (o : Of) (hp : s.R[p]? = some row) (hi : row[i]? = some o) (xs : List Mt) (hxs : caseL s p i o = xs) (Bs Bp Bi : Nat) (w1 w : World) (hS : SelOk s w1) (hb : Below w1.heap.size w1 w)
    (hBs : w.heap[Bs]? = some (.cells #[.slice s.a s.hs.length s.c, .slice s.b s.D.length s.d, .int .i64 s.clock, .slice s.e s.dl.length s.g, .slice s.f s.lk.length s.h, .slice (some ⟨s.tg, 0, none⟩) s.D.length s.D.length] 58 (0, 0))) (hBp : w.heap[Bp]? = some (.cells #[.int .i64 p] 3 (0, 0))) (hBi : w.heap[Bi]? = some (.cells #[.int .i64 i] 3 (0, 0)))
    (Keep : Nat → Prop) (hK : ∀ k, (k < w1.heap.size ∨ k = Bs ∨ k = Bp ∨ k = Bi) → Keep k) :
    IterOk Try.prog 34 (fun l => #[] ++ #[.func (.yield l) #[] #[]] ++ #[.pointer (some ⟨Bs, 0, none⟩), .pointer (some ⟨Bp, 0, none⟩), .pointer (some ⟨Bi, 0, none⟩)]) Mt.v xs Keep w := by
  intro l J own0 W hbw hJ hlt hY hkeep h0
  have hdep : Fence.wide.depth = none := rfl
  obtain ⟨r, hr⟩ : ∃ r, aloneP s.D s.clock o (told s.dl p) (told s.lk p) = r := ⟨_, rfl⟩
  obtain ⟨tl, htl⟩ : ∃ tl, takP s.D s.R o = tl := ⟨_, rfl⟩
  have hb2 := hb.trans (hbw.mono hb.size)
  have HSW := Lib.hid (hS.below hb2)
  have HX := Lib.hid (show (if r = true then [(⟨p, i, -1, -1⟩ : Mt)] else meetL p i tl) = xs by rw [← hxs, ← hr, ← htl]; rfl)
  have hBs2 := (hbw.block Bs (lt_of_block hBs)).trans hBs
  have hBp2 := (hbw.block Bp (lt_of_block hBp)).trans hBp
  have hBi2 := (hbw.block Bi (lt_of_block hBi)).trans hBi
  have HBs := Lib.hid hBs2
  have HBp := Lib.hid hBp2
  have HBi := Lib.hid hBi2
  have HAl := Lib.hid (fun W' h => malone_any ALONE s p i row o hp hi r hr W' h)
  have HTk := Lib.hid (fun W' h => mtakers_any s p i row o hp hi tl htl W' h)
  have HJ := Lib.hid hJ
  have HLT := Lib.hid hlt
  have HY := Lib.hid hY
  have H0 := Lib.hid h0
  have HK0 := Lib.hid (show ∀ k ∈ own0, w1.heap.size ≤ k ∧ k ≠ Bs ∧ k ≠ Bp ∧ k ≠ Bi from fun k hk => by
    have h1 := hkeep k hk
    refine ⟨Nat.le_of_not_lt (fun h => h1 (hK k (.inl h))), fun h => h1 (hK k (.inr (.inl h))), fun h => h1 (hK k (.inr (.inr (.inl h)))), fun h => h1 (hK k (.inr (.inr (.inr h))))⟩)
  have HW1 := Lib.hid (Below.size hb2)
  obtain ⟨s0, s1, s2, s3, s4, s5⟩ := box6c hBs2
  have p0 := box1 hBp2
  have i0 := box1 hBi2
  have HAW := Lib.hid (HAl.out W HSW.out)
  have HS1 := Lib.hid hS
  have HB2 := Lib.hid hb2
  clear hr htl hb hbw hb2 hBs hBp hBi hBs2 hBp2 hBi2 hJ hlt hY h0 hkeep hK hxs hp hi hS ALONE HAl
  obtain ⟨sa, sc, shs, sR, sb, sd, sD, sclock, se, sg, sdl, sf, sh, slk, stg, sth⟩ := s
  dsimp only at *
  refine callsIn_of_wp Try.func34 rfl trivial ?_ rfl
  simp only [Try.ntmps34, List.size_toArray, List.length_cons, List.length_nil, Nat.reduceAdd, Nat.reduceSub, Array.replicate_succ, Array.replicate_zero, List.push_toArray, List.append_toArray, List.nil_append, List.cons_append]
  gi_wp2_with fail
  refine ⟨trivial, (callsIn_wide.2 HAW.out).mono ?_⟩
  rintro e w2 ⟨rfl, hq⟩
  have HJ2 := Lib.hid (HJ.out _ _ _ _ H0.out (Quiet.below hq))
  have HT2 := Lib.hid (Turned.below (own := own0) hq)
  have hsz2 : W.heap.size ≤ w2.heap.size := hq.size
  have hBp2 : Bp < w2.heap.size := by have := lt_of_block HBp.out; omega
  have p2 : w2.cell? ⟨Bp, 0, none⟩ = some (.int .i64 p) := (hq.cell (p := ⟨Bp, 0, none⟩) (lt_of_block HBp.out)).trans p0
  have i2 : w2.cell? ⟨Bi, 0, none⟩ = some (.int .i64 i) := (hq.cell (p := ⟨Bi, 0, none⟩) (lt_of_block HBi.out)).trans i0
  have HSel2 := Lib.hid (HSW.out.below hq)
  obtain ⟨z0, z1, z2, z3, z4, z5⟩ := box6c ((hq.block _ (lt_of_block HBs.out)).trans HBs.out)
  have HQ2 := Lib.hid hq
  clear hq HAW p0 i0 s0 s1 s2 s3 s4 s5
  cases r with
  | true =>
    obtain rfl : [(⟨p, i, -1, -1⟩ : Mt)] = xs := by have := HX.out; rwa [if_pos rfl] at this
    obtain ⟨fn, tmps, assign, body, hy, hR⟩ := HY.out 0 [] ⟨p, i, -1, -1⟩ own0 w2 HJ2.out (List.prefix_refl _)
    dsimp only [Mt.v] at hy
    clear HX
    gi_wp2_with fail
    refine hR.mono ?_
    rintro e W3 ⟨rfl, own', hJ3, ht3, hf3⟩
    gi_wp2_with fail
    refine bodyPost_ret (results_none rfl _ _ _) rfl ?_
    exact ⟨⟨_, rfl⟩, own', hJ3, HT2.out.trans (Fewer.refl _ _) ht3, Fewer.atBelow hsz2 hf3⟩
  | false =>
    obtain rfl : meetL p i tl = xs := by have := HX.out; rwa [if_neg (by decide)] at this
    have HTW := Lib.hid (HTk.out w2 HSel2.out)
    clear HX
    gi_wp2_with fail
    refine ⟨trivial, (callsIn_wide.2 HTW.out).mono ?_⟩
    rintro e w3 ⟨ad, cc, rfl, htl, hq⟩
    have HTL := Lib.hid htl
    have HJ3 := Lib.hid (HJ.out _ _ _ _ HJ2.out (Quiet.below hq))
    have HT3 := Lib.hid (HT2.out.ofBelow hq)
    clear hq htl HTW HTk HJ2 HT2 z0 z1 z2 z3 z4 z5 p2 i2 HSel2 HQ2
    gi_wp2_with fail
    gi_loopw [21] (fun u21 wr => ∃ (k : Nat) (own : List Nat), u21 = .int .i64 k ∧ k ≤ tl.length ∧ Hid (J (meetL p i (tl.take k)) own wr) ∧ Hid (Turned own0 W wr) ∧ Hid (Fewer own0 own W)) (fun u _ => tl.length - (intOf u).toNat)
    case atStart => exact ⟨0, own0, rfl, by omega, Lib.hid (by rw [List.take_zero]; exact HJ3.out), HT3, Lib.hid (Fewer.refl _ _)⟩
    case round =>
      obtain ⟨k, own, rfl, hk, hJr, hTr, hFr⟩ := hrel
      have HJr := Lib.hid hJr.out
      have HTr := Lib.hid hTr.out
      have HFr := Lib.hid hFr.out
      clear hJr hTr hFr HJ3 HT3
      by_cases hlt : k < tl.length
      · obtain ⟨⟨tq, tj⟩, ht⟩ : ∃ t, tl[k]? = some t := ⟨_, List.getElem?_eq_getElem hlt⟩
        have hbr : Below w1.heap.size w1 wr := HB2.out.trans (HTr.out.toBelow HW1.out (fun k hk => (HK0.out k hk).1))
        have hrow : TK.RowC w1 ad cc tl := by
          rcases HTL.out with h | ⟨dd, x, h1, h2, rfl, rfl⟩
          · rw [h] at hlt; simp at hlt
          · exact (HS1.out.tab.2.2 dd x tl h1 h2).2
        obtain ⟨b1, o1, hba, hb1, hat⟩ := (hrow.below hbr).2.2.2 (by omega)
        subst hba
        obtain ⟨t0, t1⟩ := TK.two hat ht
        have p1 := box1 (turned_block HTr.out (fun h => (HK0.out _ h).2.2.1 rfl) HBp.out)
        have i1 := box1 (turned_block HTr.out (fun h => (HK0.out _ h).2.2.2 rfl) HBi.out)
        have hBp1 : Bp < wr.heap.size := by have := lt_of_block HBp.out; have := HTr.out.size; omega
        have hBi1 : Bi < wr.heap.size := by have := lt_of_block HBi.out; have := HTr.out.size; omega
        have HM := Lib.hid (meetL_take (p := p) (i := i) ht)
        have HJA := Lib.hid (HJ.out _ _ _ _ HJr.out (Quiet.below (below1 wr (.cells #[.int .i64 tq, .int .i64 tj] 73))))
        have HTA := Lib.hid (HTr.out.ofBelow (below1 wr (.cells #[.int .i64 tq, .int .i64 tj] 73)))
        have hki : (k : Int) < (tl.length : Int) := by omega
        have hszW := HTr.out.size
        have hml : tl.length ≤ 9223372036854775807 := by have h1 := hrow.1; have h2 := hrow.2.1; unfold maxLen at h2; omega
        clear hbr hrow hat ht
        by_cases hqp : tq = (p : Int)
        · have HJB := Lib.hid (show J (meetL p i (tl.take (k + 1))) own (wr.alloc (.cells #[.int .i64 tq, .int .i64 tj] 73)) by rw [HM.out, if_pos hqp, List.append_nil]; exact HJA.out)
          have hq1 : (tq == (p : Int)) = true := by simp [hqp]
          subst hqp
          gi_wp2_with fail
          refine ⟨fun _ h => (by cases h), ?_⟩
          gi_wp2_with fail
          go_roundw
          case rel => exact ⟨k + 1, own, by go_num, by omega, HJB, HTA, HFr⟩
          case measure => simp [intOf]; omega
        · have hq1 : (tq == (p : Int)) = false := by simp [hqp]
          have hE : meetL p i (tl.take (k + 1)) = meetL p i (tl.take k) ++ [⟨p, i, tq, tj⟩] := by rw [HM.out, if_neg hqp]
          obtain ⟨fn, tmps, assign, body, hy, hR⟩ := HY.out 0 _ ⟨p, i, tq, tj⟩ own _ HJA.out (by rw [← hE]; exact meetL_pre p i (k + 1) tl)
          dsimp only [Mt.v] at hy
          have HE := Lib.hid hE
          clear hE
          gi_wp2_with fail
          refine hR.mono ?_
          rintro e W3 ⟨rfl, own', hJ3, ht3, hf3⟩
          have HJ3 := Lib.hid (show J (meetL p i (tl.take (k + 1))) own' W3 by rw [HE.out]; exact hJ3)
          have HT3 := Lib.hid (HTA.out.trans HFr.out ht3)
          have HF3 := Lib.hid (HFr.out.trans (by simp; omega) hf3)
          clear hJ3 ht3 hf3
          gi_wp2_with fail
          go_roundw
          case rel => exact ⟨k + 1, own', by go_num, by omega, HJ3, HT3, HF3⟩
          case measure => simp [intOf]; omega
      · obtain rfl : k = tl.length := by omega
        have HJf := Lib.hid (show J (meetL p i tl) own wr by have := HJr.out; rwa [List.take_length] at this)
        clear HJr
        gi_wp2_with fail
        go_end0
        exact ⟨⟨_, rfl⟩, own, HJf.out, HTr.out, HFr.out⟩
end Go.Proofs.Ytjiepdgflfhkcaa
