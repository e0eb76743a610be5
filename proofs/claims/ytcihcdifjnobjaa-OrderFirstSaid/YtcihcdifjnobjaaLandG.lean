/- The landed order: which one comes, and in which round: the iterator. -/
import Derived.Test.YtcihcdifjnobjaaLandF
import Derived.Test.YtcihcdifjnobjaaRange
import Derived.Shelf.Abstract
import Derived.Shelf.RegionOpen
import Derived.WalkKit
import Derived.OwnWalkIn
import Derived.TacticsInMore
import Derived.LoopNIn
import Derived.LoopIn
set_option linter.unusedSimpArgs false
set_option linter.unusedVariables false
namespace Go.Proofs.Ytcihcdifjnobjaa
open Go.RowKit Go.Proofs.Ytcihcdifjnobjaa.Kind
attribute [local go_sem] Oper.semAt_some

theorem box1 {w : World} {g : Nat} {x : Value} {t : TypeId} (h : w.heap[g]? = some (.cells #[x] t (0, 0))) : w.cell? ⟨g, 0, none⟩ = some x ∧ w.frozen? ⟨g, 0, none⟩ = false := by simp [World.cell?, World.frozen?, h]
theorem turned_block {own : List Nat} {A B : World} {k : Nat} {o : Obj} (h : Turned own A B) (hn : k ∉ own) (hk : A.heap[k]? = some o) : B.heap[k]? = some o := (h.block k (lt_heap' hk) hn).trans hk
section
variable {F : Fence} {n : Nat} {Pr : Program} {α : Type}
theorem Kind.wpListIn_append_loose (K : Kind Pr α) {w : World} {ops : Array Oper} {rest : List Oper} {o : Oper} {act : Act} {Q : Exit → Act → World → Prop} (hgd : o.guard = none) (s x : Operand)
    (ho : o.op = .call { callee := .builtin .append, args := #[s, x], argTypes := #[K.S, K.S] })
    (base : Nat) (a : Option Addr) (q c : Nat) (hs : act.eval s = .slice a q c) (l : List α) (hn : q = l.length) (hD : K.Loose w base a c l) (b : Option Addr) (m d : Nat) (hx : act.eval x = .slice b m d) (k : List α) (hm : m = k.length) (hk : 0 < k.length) (hR : K.RowC w b d k) (hlen : l.length + k.length ≤ 4000000) (hbase : base ≤ w.heap.size)
    (L : List α) (hL : L = l ++ k)
    (h : ∀ a' c' w', K.Loose w' base a' c' L → (∃ row, w.grownBy w' row ∧ ∀ j, row = some j → base ≤ j ∧ 0 < c ∧ ∃ ad, a = some ad ∧ ad.block = j) → ((∃ g, a' = some ⟨g, 0, none⟩ ∧ w.heap.size ≤ g) ∨ (a' = a ∧ 0 < c)) → wpListIn F n Pr ops Q rest (act.put o.dst (.slice a' L.length c')) w') : wpListIn F n Pr ops Q (o :: rest) act w := by
  refine wpListIn_plain hgd fun K' hK' => ?_
  obtain ⟨a', c', w', hrun, r1, r2, r3⟩ := Kind.run_append_loose (K := K) w o.type base a c q l hn hD b d m k hm hk hR hlen hbase
  rw [← hL] at r1 hrun
  unfold Oper.wpIn
  refine ⟨?_, ?_⟩
  · simp [Oper.about, ho, resolve, Target.leads, Sem.run_pure]
  · rw [Oper.semAt_plain F _ _ (by rw [ho]; intro c hc'; cases hc')]
    simp [execOp, ho, resolve, invoke, builtin, hs, hx, hrun, Result.andThen]
    exact hK' _ _ (h a' c' w' r1 r2 r3)
end
/-- The round as it lies in its box. -/
def rOf (p : Value) (w : World) : Nat := match p with
  | .pointer (some ad) => match w.cell? ad with
    | some (.int _ n) => n.toNat
    | _ => 0
  | _ => 0
theorem rOf_box {w : World} {b r : Nat} {t : TypeId} (h : w.heap[b]? = some (.cells #[.int .i64 (r : Int)] t (0, 0))) : rOf (.pointer (some ⟨b, 0, none⟩)) w = r := by
  unfold rOf
  simp [(box1 h).1]
theorem OneB.quiet {g B : Nat} {own : List Nat} {w w' : World} (h : OneB g w w') (h1 : B ≤ g) (h2 : g ∉ own) : Quiet B own w w' := ⟨h.os, h.tape, h.output, Nat.le_of_eq h.size.symm, fun k _ hn => h.block k (fun e => by subst e; rcases hn with hn | hn; omega; exact h2 hn)⟩
theorem OneB.below {g B : Nat} {w w' : World} (h : OneB g w w') (h1 : B ≤ g) : Below B w w' := ⟨h.os, h.tape, h.output, Nat.le_of_eq h.size.symm, fun k hk => h.block k (by omega)⟩
/-- The iterator's own memory between two that are told. -/
structure Mine (W wr : World) (a : Option Addr) (c : Nat) (l : List Nat) (b5 r : Nat) (own : List Nat) : Prop where
  row : IK.Loose wr W.heap.size a c (intsOf l)
  out : 0 < c → ∀ x : Addr, a = some x → x.block ∉ own ∧ x.block ≠ b5
  box : wr.heap[b5]? = some (.cells #[.int .i64 (r : Int)] 3 (0, 0))
  new : W.heap.size ≤ b5 ∧ b5 ∉ own
theorem Mine.turn {W wr w' : World} {a : Option Addr} {c : Nat} {l : List Nat} {b5 r : Nat} {own own' : List Nat} (h : Mine W wr a c l b5 r own) (ht : Turned own wr w') (hf : Fewer own own' wr) : Mine W w' a c l b5 r own' := by
  refine ⟨?_, fun hc x e => ?_, turned_block ht h.new.2 h.box, h.new.1, fun hm => h.new.2 (hf _ hm (lt_heap' h.box))⟩
  · by_cases hc : 0 < c
    · exact loose_same h.row ht.size (fun x e => ht.block _ (h.row.lt hc e).2 (h.out hc x e).1)
    · exact ⟨h.row.1, h.row.2.1, h.row.2.2.1, fun h0 => absurd h0 hc⟩
  · exact ⟨fun hm => (h.out hc x e).1 (hf _ hm (h.row.lt hc e).2), (h.out hc x e).2⟩

theorem Turned.one {own : List Nat} {A B C : World} {g : Nat} (h : Turned own A B) (k : OneB g B C) (hg : A.heap.size ≤ g) : Turned own A C := ⟨k.os.trans h.os, k.tape.trans h.tape, k.output.trans h.output, by rw [k.size]; exact h.size, fun i hi hn => (k.block i (by omega)).trans (h.block i hi hn)⟩
theorem fams_sees {W : World} {base Bx B5 : Nat} {gq : Option Addr} {cq r : Nat} {hs : List Hv} {Q : List (List Ad)} (h : Fams W base gq cq hs Q) (h1 : W.cell? ⟨Bx, 0, none⟩ = some (.slice gq Q.length cq)) (h2 : W.cell? ⟨B5, 0, none⟩ = some (.int .i64 (r : Int))) : Sees W Bx B5 gq cq Q r :=
  ⟨h1, h2, fun n hn => by
    obtain ⟨x, hx⟩ := h.has (List.getElem?_eq_getElem hn)
    obtain ⟨e1, _⟩ := h.el n x _ hx (List.getElem?_eq_getElem hn)
    obtain ⟨g, o, e, _⟩ := h.row.2.2.2 (by have := h.row.1; have := (List.getElem?_eq_some_iff.1 hx).1; omega)
    subst e
    refine ⟨g, o, x.a, x.c, rfl, ?_⟩
    rw [List.getD_eq_getElem?_getD, List.getElem?_eq_getElem hn, Option.getD_some, ← e1]
    exact h.cell hx⟩
theorem Fams.head {w : World} {base : Nat} {a : Option Addr} {c : Nat} {hs : List Hv} {Q : List (List Ad)} (h : Fams w base a c hs Q) (hQ : 0 < Q.length) {g o : Nat} (e : a = some ⟨g, o, none⟩) : g < w.heap.size := (h.row.lt (by have := h.row.1; have := h.len; omega) e).2

set_option maxHeartbeats 16000000 in
set_option maxRecDepth 1000000 in
theorem turn_it (Q : List (List Ad)) (N : Nat) (hN : ∀ q ∈ Q, q.length ≤ N) (hQl : Q.length ≤ 400) (hNl : N ≤ 400) (gq : Option Addr) (cq base Bx : Nat) (hs : List Hv) (w1 w : World) (hFm : Fams w1 base gq cq hs Q) (hb : Below w1.heap.size w1 w)
    (hBx : w.heap[Bx]? = some (.cells #[.slice gq Q.length cq] 42 (0, 0))) (Keep : Nat → Prop) (hK : ∀ k, (k < w1.heap.size ∨ k = Bx) → Keep k) :
    IterOk Try.prog 30 (fun l => #[] ++ #[.func (.yield l) #[] #[]] ++ #[.pointer (some ⟨Bx, 0, none⟩)]) (fun p : Nat × Nat => #[.int .i64 (p.1 : Int), .int .i64 (p.2 : Int)]) (upTo Q N) Keep w := by
  intro l J own0 W hbw hJ hlt hY hkeep h0
  have hdep : Fence.wide.depth = none := rfl
  have hb2 := hb.trans (hbw.mono hb.size)
  have hBx2 := (hbw.block Bx (lt_heap' hBx)).trans hBx
  have HBx := Lib.hid hBx2
  have HJ := Lib.hid hJ
  have HY := Lib.hid hY
  have H0 := Lib.hid h0
  have HFm := Lib.hid hFm
  have HNN := Lib.hid hN
  have HLt := Lib.hid hlt
  have HK0 := Lib.hid (show ∀ k ∈ own0, w1.heap.size ≤ k ∧ k ≠ Bx from fun k hk => by
    have h1 := hkeep k hk
    exact ⟨Nat.le_of_not_lt (fun h => h1 (hK k (.inl h))), fun h => h1 (hK k (.inr h))⟩)
  have HW1 := Lib.hid (Below.size hb2)
  have HB2 := Lib.hid hb2
  clear hb hbw hb2 hBx hBx2 hJ hlt hY h0 hkeep hK hFm hN
  refine callsIn_of_wp Try.func30 rfl trivial ?_ rfl
  simp only [Try.ntmps30, List.size_toArray, List.length_cons, List.length_nil, Nat.reduceAdd, Nat.reduceSub, Array.replicate_succ, Array.replicate_zero, List.push_toArray, List.append_toArray, List.nil_append, List.cons_append]
  obtain ⟨l0, l1⟩ := box1 HBx.out
  gi_wp2_with fail
  gi_loopw [3, 10] (fun o i wr => ∃ (k c : Nat) (a : Option Addr), o = .slice a k c ∧ i = .int .i64 k ∧ k ≤ Q.length ∧ Hid (IK.Loose wr W.heap.size a c (intsOf (List.range k))) ∧ Hid (Below W.heap.size W wr)) (fun _ u _ => Q.length - (intOf u).toNat)
  case atStart => exact ⟨0, 0, none, rfl, rfl, by omega, Lib.hid (loose_nil _ _), Lib.hid (Below.refl _ _)⟩
  case round =>
    obtain ⟨k, c, a, rfl, rfl, hk, hl, hbz⟩ := hrel
    have HL := Lib.hid hl.out
    have HBz := Lib.hid hbz.out
    have hsz := HBz.out.size
    clear hl hbz
    by_cases hlt : k < Q.length
    · have hki : (k : Int) < (Q.length : Int) := by omega
      have HKx := Lib.hid (rowC_at (K := IK) wr 3 [(k : Int)] #[.int .i64 (k : Int)] wr.heap.size 1 rfl rfl rfl (by simp))
      obtain ⟨L, hL⟩ : ∃ L, L = intsOf (List.range (k + 1)) := ⟨_, rfl⟩
      have HLe := Lib.hid (show L = intsOf (List.range k) ++ [(k : Int)] by rw [hL, List.range_succ]; simp [intOf, intsOf])
      have hLl : L.length = k + 1 := by rw [hL, ints_len]; simp
      have HLq := Lib.hid hL
      have HLz := Lib.hid (HL.out.below (below1 wr (.cells #[.int .i64 (k : Int)] 3)))
      clear hL
      gi_wp2_with (gi_at_builtin; refine IK.wpListIn_append_loose rfl _ _ rfl W.heap.size a k c rfl (intsOf (List.range k)) (by rw [ints_len]; simp) HLz.out (some ⟨wr.heap.size, 0, none⟩) 1 1 rfl [(k : Int)] rfl (by simp) HKx.out (by rw [ints_len]; simp; omega) (by simp; omega) L HLe.out ?_; intro a1 c1 w5 r1 r2 r3; obtain ⟨row, hg, hr⟩ := r2; have HL5 := Lib.hid r1; have HB5 := Lib.hid ((HBz.out.trans ((below1 wr (.cells #[.int .i64 (k : Int)] 3)).mono hsz)).grown hg (by simp; omega) (fun j e => (hr j e).1)); clear r1 hg hr r3)
      go_roundw
      case rel => exact ⟨k + 1, c1, a1, rfl, by go_num, by omega, Lib.hid (by rw [← HLq.out]; exact HL5.out), HB5⟩
      case measure => simp [intOf]; omega
    · obtain rfl : k = Q.length := by omega
      have hbA := HBz.out.trans ((below1 wr (.cells #[.int .i64 0] 3)).mono hsz)
      have hnew : ∀ k ∈ own0, k < W.heap.size := HLt.out _ _ _ H0.out
      have HM0 := Lib.hid (show Mine W (wr.alloc (.cells #[.int .i64 0] 3)) a c (befN Q 0) wr.heap.size 0 own0 from ⟨by rw [bef_zero]; exact HL.out.below (below1 wr (.cells #[.int .i64 0] 3)), fun hc x e => ⟨fun hm => by have := hnew _ hm; have := (HL.out.lt hc e).1; omega, fun e2 => by have := (HL.out.lt hc e).2; omega⟩, laid1 wr (.cells #[.int .i64 0] 3), hsz, fun hm => by have := hnew _ hm; omega⟩)
      have HJ0 := Lib.hid (show J (upTo Q 0) own0 (wr.alloc (.cells #[.int .i64 0] 3)) from HJ.out _ _ _ _ H0.out (Quiet.below hbA))
      have HT0 := Lib.hid (show Turned own0 W (wr.alloc (.cells #[.int .i64 0] 3)) from Turned.below hbA)
      have HLen0 := Lib.hid (show Q.length = (befN Q 0).length by rw [bef_zero]; simp)
      clear hbA hnew l0 l1 HL HBz H0
      gi_wp2_with fail
      gi_loopw [3, 5] (fun o p wq => ∃ (r m c2 b5 : Nat) (a2 : Option Addr) (own : List Nat), o = .slice a2 m c2 ∧ p = .pointer (some ⟨b5, 0, none⟩) ∧ m ≤ 400 ∧ r ≤ N + 1 ∧ Hid (m = (befN Q r).length) ∧ Hid (Mine W wq a2 c2 (befN Q r) b5 r own) ∧ Hid (J (upTo Q r) own wq) ∧ Hid (Turned own0 W wq) ∧ Hid (Fewer own0 own W)) (fun _ p wq => N + 1 - rOf p wq)
      case atStart => exact ⟨0, Q.length, c, wr.heap.size, a, own0, rfl, rfl, by omega, by omega, HLen0, HM0, HJ0, HT0, Lib.hid (Fewer.refl _ _)⟩
      case round =>
        obtain ⟨r, m, c2, b5, a2, own, rfl, rfl, hm4, hr, hm, hM, hJr, hTr, hFr⟩ := hrel
        obtain ⟨wo, rfl⟩ : ∃ X : World, X = wr := ⟨_, rfl⟩
        have HMn := Lib.hid hm.out
        have HM := Lib.hid hM.out
        have HJr := Lib.hid hJr.out
        have HTr := Lib.hid hTr.out
        have HFr := Lib.hid hFr.out
        have hro := rOf_box HM.out.box
        have hszW := HTr.out.size
        clear hm hM hJr hTr hFr HM0 HJ0 HT0 HLen0
        by_cases h0m : 0 < m
        · have hQ0 : 0 < Q.length := by
            have h1 := HMn.out
            have h2 := bef_le Q r
            omega
          have hrN : r ≤ N := Nat.le_of_not_lt (fun h => by
            have h1 := HMn.out
            rw [bef_none HNN.out h] at h1
            simp at h1
            omega)
          have hbr : Below w1.heap.size w1 wo := HB2.out.trans (HTr.out.toBelow HW1.out (fun k hk => (HK0.out k hk).1))
          have hBxr := turned_block HTr.out (fun h => (HK0.out _ h).2 rfl) HBx.out
          have hBxW := lt_heap' HBx.out
          have hsees := fams_sees (HFm.out.below hbr) (box1 hBxr).1 (box1 HM.out.box).1
          have hrow := HM.out.row
          have hc2 : 0 < c2 := by have h1 := hrow.1; rw [ints_len, ← HMn.out] at h1; omega
          obtain ⟨ad, had⟩ : ∃ ad, a2 = some ad := by
            obtain ⟨g, o, e, _⟩ := hrow.2.2.2 hc2
            exact ⟨_, e⟩
          have hadl := hrow.lt hc2 had
          have hado := HM.out.out hc2 ad had
          obtain ⟨q, hq⟩ : ∃ q, Q.length = q + 1 := ⟨Q.length - 1, by omega⟩
          obtain ⟨L, hL⟩ : ∃ L, L = befN Q (r + 1) := ⟨_, rfl⟩
          obtain ⟨P, hP⟩ : ∃ P, P = L.length := ⟨_, rfl⟩
          have hP4 : P ≤ 400 := by have := bef_le Q (r + 1); rw [hP, hL]; omega
          have HD := Lib.hid (del_any Q q hq (befN Q r) (fun n hn => bef_lt hn) (by rw [← HMn.out]; exact h0m) (by rw [← HMn.out]; exact hm4) a2 c2 W.heap.size Bx b5 gq cq r wo hrow hsees L (by rw [hL, bef_succ]) (by
            rintro k (rfl | rfl | ⟨g, o, e, rfl⟩)
            · exact ⟨by omega, fun ad2 e2 e3 => by rw [had] at e2; injection e2 with e2; subst e2; omega⟩
            · exact ⟨lt_heap' HM.out.box, fun ad2 e2 e3 => by rw [had] at e2; injection e2 with e2; subst e2; exact hado.2 e3.symm⟩
            · have h1 := HFm.out.head hQ0 e
              have h2 := HW1.out
              exact ⟨by omega, fun ad2 e2 e3 => by rw [had] at e2; injection e2 with e2; subst e2; omega⟩))
          rw [← HMn.out, ← hP] at HD
          have HL := Lib.hid hL
          have HP := Lib.hid hP
          have HAd := Lib.hid had
          have HAl := Lib.hid hadl
          have HAo := Lib.hid hado
          have hmi : (0 : Int) < (m : Int) := by omega
          have HRo := Lib.hid hro
          clear hbr hBxr hBxW hsees hrow hq hL hP had hadl hado hQ0
          gi_wp2_with fail
          refine ⟨trivial, (callsIn_wide.2 HD.out).mono ?_⟩
          rintro e w2 ⟨rfl, hl2, ho2⟩
          have ho := ho2 ad HAd.out
          have HM2 := Lib.hid (show Mine W w2 a2 c2 L b5 r own from ⟨hl2, HM.out.out, (ho.block b5 (fun e => HAo.out.2 e.symm)).trans HM.out.box, HM.out.new⟩)
          have HJ2 := Lib.hid (show J (upTo Q r ++ (rnd Q r).take 0) own w2 by rw [List.take_zero, List.append_nil]; exact HJ.out _ _ _ _ HJr.out (ho.quiet HAl.out.1 HAo.out.1))
          have HT2 := Lib.hid (HTr.out.one ho HAl.out.1)
          clear hl2 ho2 ho HD HM HJr HTr hro hszW HMn HAo HAl
          gi_wp2_with fail
          gi_loopw [28] (fun u wz => ∃ (i : Nat) (own2 : List Nat), u = .int .i64 i ∧ i ≤ P ∧ Hid (Mine W wz a2 c2 L b5 r own2) ∧ Hid (J (upTo Q r ++ (rnd Q r).take i) own2 wz) ∧ Hid (Turned own0 W wz) ∧ Hid (Fewer own0 own2 W)) (fun u _ => P - (intOf u).toNat)
          case atStart => exact ⟨0, own, rfl, by omega, HM2, HJ2, HT2, HFr⟩
          case round =>
            obtain ⟨i, own2, rfl, hi, hM3, hJ3, hT3, hF3⟩ := hrel
            obtain ⟨wz, rfl⟩ : ∃ X : World, X = wr := ⟨_, rfl⟩
            have HM3 := Lib.hid hM3.out
            have HJ3 := Lib.hid hJ3.out
            have HT3 := Lib.hid hT3.out
            have HF3 := Lib.hid hF3.out
            have hszZ := HT3.out.size
            clear hM3 hJ3 hT3 hF3 HM2 HJ2 HT2 HFr
            obtain ⟨z0, z1⟩ := box1 HM3.out.box
            by_cases hiP : i < P
            · obtain ⟨n, hn⟩ : ∃ n, L[i]? = some n := ⟨_, List.getElem?_eq_getElem (by rw [← HP.out]; exact hiP)⟩
              obtain ⟨g, o, rfl, hg, hat⟩ := HM3.out.row.row.2.2.2 (by rw [ints_len, ← HP.out]; omega)
              have y0 := IK.one hat (ints_at hn)
              have hii : (i : Int) < (P : Int) := by omega
              have hi0 : (0 : Int) ≤ (i : Int) := by omega
              rw [HL.out] at hn
              have HPre := Lib.hid (pre_next HNN.out hn)
              have HRn := Lib.hid (rnd_take hn)
              obtain ⟨fn, tmps, assign, body, hy, hR⟩ := HY.out 0 (upTo Q r ++ (rnd Q r).take i) (n, r) own2 _ HJ3.out HPre.out
              clear hn hat
              gi_wp2_with fail
              refine hR.mono ?_
              rintro e W3 ⟨rfl, own3, hJ4, ht4, hf4⟩
              have HJ4 := Lib.hid (show J (upTo Q r ++ (rnd Q r).take (i + 1)) own3 W3 by rw [HRn.out, ← List.append_assoc]; exact hJ4)
              have HM4 := Lib.hid (HM3.out.turn ht4 hf4)
              have HT4 := Lib.hid (HT3.out.trans HF3.out ht4)
              have HF4 := Lib.hid (HF3.out.trans hszZ hf4)
              clear hJ4 ht4 hf4 hR hy HJ3 HM3 y0 z0 z1 HPre HRn
              gi_wp2_with fail
              go_roundw
              case rel => exact ⟨i + 1, own3, by go_num, by omega, HM4, HJ4, HT4, HF4⟩
              case measure => simp [intOf]; omega
            · obtain rfl : i = P := by omega
              gi_wp2_with fail
              have hbz := below1 wz (.cells #[.int .i64 ((r : Int) + 1)] 3)
              have e1 : ((r : Int) + 1) = ((r + 1 : Nat) : Int) := by omega
              have hPl : i = (befN Q (r + 1)).length := by rw [HP.out, HL.out]
              have hM5 : Mine W (wz.alloc (.cells #[.int .i64 ((r : Int) + 1)] 3)) a2 c2 (befN Q (r + 1)) wz.heap.size (r + 1) own2 := ⟨by rw [← HL.out]; exact HM3.out.row.below hbz, fun hc x e => ⟨(HM3.out.out hc x e).1, fun e2 => by have := (HM3.out.row.lt hc e).2; omega⟩, by rw [← e1]; exact laid1 wz _, hszZ, fun hm => by have := HLt.out _ _ _ HJ3.out _ hm; omega⟩
              have hJ5 : J (upTo Q (r + 1)) own2 (wz.alloc (.cells #[.int .i64 ((r : Int) + 1)] 3)) := by
                have h1 := HJ3.out
                rw [hPl, rnd_all] at h1
                exact HJ.out _ _ _ _ h1 (Quiet.below hbz)
              exact ⟨⟨r + 1, i, c2, wz.heap.size, a2, own2, rfl, rfl, by omega, by omega, Lib.hid hPl, Lib.hid hM5, Lib.hid hJ5, Lib.hid (HT3.out.ofBelow hbz), HF3⟩, by rw [rOf_box hM5.box, HRo.out]; omega⟩
        · obtain rfl : m = 0 := by omega
          have hb0 : befN Q r = [] := List.length_eq_zero_iff.1 HMn.out.symm
          have HJf := Lib.hid (show J (upTo Q N) own wo by rw [← upTo_end HNN.out hb0]; exact HJr.out)
          clear hb0 HJr
          gi_wp2_with fail
          go_end0
          exact ⟨⟨_, rfl⟩, own, HJf.out, HTr.out, HFr.out⟩
end Go.Proofs.Ytcihcdifjnobjaa
