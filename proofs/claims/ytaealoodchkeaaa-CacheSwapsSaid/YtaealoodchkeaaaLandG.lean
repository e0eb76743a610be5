/- The landed package cache: put of an entry whose name is not there; Put. -/
import Derived.Test.YtaealoodchkeaaaLandF
set_option linter.unusedSimpArgs false
set_option linter.unusedVariables false
namespace Go.Proofs.Ytaealoodchkeaaa
open R3 Go.RowKit Go.Proofs.Ytaealoodchkeaaa.Kind

theorem not_above (s : ByteArray) (k : Kn) : leS k.name s = !ltS s k.name := by
  cases h : leS k.name s with
  | true =>
    cases h2 : ltS s k.name with
    | true => rw [leS_not.2 h2] at h; cases h
    | false => rfl
  | false => rw [leS_not.1 h]; rfl
theorem one_at {l : List Kn} {x : Kn} (h : l.findIdx? (is x.name) = none) : oneK l x = l.take (l.findIdx (fun k => ltS x.name k.name)) ++ [x] ++ l.drop (l.findIdx (fun k => ltS x.name k.name)) := by
  rw [one_none h]
  have e : (fun k : Kn => leS k.name x.name) = (fun k => !ltS x.name k.name) := funext fun k => not_above _ _
  rw [e, List.takeWhile_eq_take_findIdx_not, List.dropWhile_eq_drop_findIdx_not]
  simp

theorem laid_next {w w' : World} {X S : Obj} (h : w' = (w.alloc X).drew.alloc S) : w'.heap[w.heap.size + 1]? = some S := by
  subst h
  have := laid1 (w.alloc X).drew S
  simpa using this
theorem old_laid {w : World} {g : Nat} {o : Obj} (h : w.heap[g]? = some o) (X : Obj) : (w.alloc X).heap[g]? = some o := (Below.heap_alloc _ _ _ (lt_heap' h)).trans h
theorem alloc_size {w : World} {n : Nat} {X : Obj} (h : n ≤ w.heap.size) : n ≤ (w.alloc X).heap.size := by simp; omega
theorem alloc_lt (w : World) (X : Obj) : w.heap.size < (w.alloc X).heap.size := by simp

set_option maxHeartbeats 8000000 in
set_option maxRecDepth 1000000 in
theorem put_out (l : List Kn) (x : Kn) (L : List Kn) (i : Nat) (hi : i = l.findIdx (fun k => ltS x.name k.name)) (hL : L = l.take i ++ [x] ++ l.drop i) (hf : l.findIdx (is x.name) = l.length) (a : Option Addr) (c base : Nat) (w : World) (hO : KK.Loose w base a c l) (hlen : l.length ≤ 2000) (hbase : base ≤ w.heap.size) :
    Calls Try.prog 34 #[.slice a l.length c, .agg #[.string x.name, .string x.row, .int .i64 x.e, .int .i64 x.until_]] w fun e w' => ∃ a' c', e = .returned (.slice a' L.length c') ∧ KK.Loose w' base a' c' L ∧ Below base w w' := by
  have hile : i ≤ l.length := by rw [hi]; exact List.findIdx_le_length
  have HO := Lib.hid hO
  have hmx : (l.length : Int) ≤ 2000 := by omega
  have hak : ∀ ad, a = some ad → 0 < c → ad.block < w.heap.size := fun ad e hc => by
    obtain ⟨g, o, e2, _, h3, _⟩ := hO.2.2.2 hc
    rw [e] at e2
    injection e2 with e2
    rw [e2]; exact h3
  have HAK := Lib.hid hak
  have hb1 := below1 w (.cells #[.string x.name, .string x.row, .int .i64 x.e, .int .i64 x.until_] 29)
  have HZ := Lib.hid (laid1 w (.cells #[.string x.name, .string x.row, .int .i64 x.e, .int .i64 x.until_] 29))
  have HFi := Lib.hid (fun (W : World) (hb : Below w.heap.size w W) => (by have h := find_any 37 #[.pointer (some ⟨W.heap.size, 0, none⟩)] (is x.name) l a c (W.alloc (.cells #[.string x.name] 9)) enter_named ((hO.row.below hb).below (below1 W _)) (named_tells x.name W.heap.size 9 _ (laid1 W _)); rw [hf] at h; exact h : Calls Try.prog 24 #[.slice a l.length c, .func (.func 37) #[] #[.pointer (some ⟨W.heap.size, 0, none⟩)]] (W.alloc (.cells #[.string x.name] 9)) fun e w' => e = .returned (.int .i64 (l.length : Nat)) ∧ Below (W.alloc (.cells #[.string x.name] 9)).heap.size (W.alloc (.cells #[.string x.name] 9)) w'))
  have HFa := Lib.hid (fun (W : World) (g : Nat) (hb : Below w.heap.size w W) (hg : W.heap[g]? = some (.cells #[.string x.name] 9 (0, 0))) => (by have h := find_any 46 #[.pointer (some ⟨g, 0, none⟩)] (fun k => ltS x.name k.name) l a c W enter_above (hO.row.below hb) (above_tells x.name g 9 _ hg); rw [← hi] at h; exact h : Calls Try.prog 24 #[.slice a l.length c, .func (.func 46) #[] #[.pointer (some ⟨g, 0, none⟩)]] W fun e w' => e = .returned (.int .i64 (i : Nat)) ∧ Below W.heap.size W w'))
  have HIn := Lib.hid (fun (W : World) (vb : Nat) (hb : Below w.heap.size w W) (hv : W.heap[vb]? = some (.cells #[.string x.name, .string x.row, .int .i64 x.e, .int .i64 x.until_] 29 (0, 0))) (hn : w.heap.size ≤ vb) => insert_any l x i L hL hile a c vb base W 29 (hO.below hb) hlen hv (fun ad e hc => by have := hak ad e hc; omega) (Nat.le_trans hbase hb.size))
  clear hL hO hf hi hak
  go_enter Try.func34, Try.ntmps34
  go_wp2_with fail
  have hWs : (w.alloc (.cells #[.string x.name, .string x.row, .int .i64 x.e, .int .i64 x.until_] 29)).heap.size = w.heap.size + 1 := by simp
  obtain ⟨W, hW⟩ : ∃ W, W = w.alloc (.cells #[.string x.name, .string x.row, .int .i64 x.e, .int .i64 x.until_] 29) := ⟨_, rfl⟩
  rw [← hW] at hb1 HZ hWs ⊢
  have HB := Lib.hid hb1
  have HWs := Lib.hid hWs
  clear hW hb1 hWs
  with_reducible refine (named_any x.name W).mono ?_
  rintro e w1 ⟨rfl, hw1⟩
  subst hw1
  go_wp2_with fail
  with_reducible refine (HFi.out W HB.out).mono ?_
  rintro e w1 ⟨rfl, hb1⟩
  have hb2 := (below1 W (.cells #[.string x.name] 9)).trans (hb1.mono (by simp))
  have HZ1 := Lib.hid ((hb2.block w.heap.size (by have := HWs.out; omega)).trans HZ.out)
  have HB1 := Lib.hid (HB.out.trans (hb2.mono (by have := HWs.out; omega)))
  clear hb1 hb2 HFi
  obtain ⟨⟨x0, x1, x2, x3⟩, _⟩ := boxes4 HZ1.out
  go_wp2_with fail
  have HV := Lib.hid (show ∀ (Wv : World), Below w1.heap.size w1 Wv → Below w.heap.size w Wv from fun Wv h => HB1.out.trans (h.mono HB1.out.size))
  have hsz1 : w.heap.size ≤ w1.heap.size := HB1.out.size
  have HAA := Lib.hid (above_any x.name (w1.alloc (.cells #[.string x.name, .string x.row, .int .i64 x.e, .int .i64 x.until_] 29)).drew)
  have HAB := Lib.hid (above_any x.name w1.drew)
  obtain ⟨⟨n0, n1, n2, n3⟩, _⟩ := boxes4 (old_laid HZ1.out (.cells #[.string x.name, .string x.row, .int .i64 x.e, .int .i64 x.until_] 29))
  go_region_law (first
    | (go_simp; go_at_call 43; (with_reducible refine HAB.out.mono ?_); rintro e wS ⟨rfl, hwS⟩; have hbS : Below w1.heap.size w1 wS := ((Below.refl _ w1).drew).trans (below_of_alloc hwS); have HGS := Lib.hid (laid_of_drew hwS); have HVA := Lib.hid True.intro; obtain ⟨⟨s0, s1, s2, s3⟩, _⟩ := boxes4 ((hbS.block _ (lt_of_block HZ1.out)).trans HZ1.out); clear hwS)
    | (go_simp; go_at_call 43; (with_reducible refine HAA.out.mono ?_); rintro e wS ⟨rfl, hwS⟩; have hbS : Below w1.heap.size w1 wS := (((below1 w1 (.cells #[.string x.name, .string x.row, .int .i64 x.e, .int .i64 x.until_] 29)).drew).trans ((below_of_alloc hwS).mono (by simp))); have HGS := Lib.hid (laid_next hwS); have HVA := Lib.hid (((below_of_alloc hwS).block w1.heap.size (by simp)).trans (laid1 w1 (.cells #[.string x.name, .string x.row, .int .i64 x.e, .int .i64 x.until_] 29))); obtain ⟨⟨s0, s1, s2, s3⟩, _⟩ := boxes4 ((hbS.block _ (lt_of_block HZ1.out)).trans HZ1.out); clear hwS)
    | (go_simp; go_at_call 24; (with_reducible refine (HFa.out wS _ (HV.out _ hbS) HGS.out).mono ?_); rintro e w2 ⟨rfl, hb2⟩; have HB2 := Lib.hid (hbS.trans (hb2.mono hbS.size)); obtain ⟨⟨r0, r1, r2, r3⟩, _⟩ := boxes4 ((HB2.out.block _ (lt_of_block HZ1.out)).trans HZ1.out); first | (have HVb := Lib.hid ((hb2.block _ (lt_of_block HVA.out)).trans HVA.out)) | (have HVb := Lib.hid True.intro))
    | (go_simp; go_at_call 24; (with_reducible refine (HFa.out (wS.alloc (.cells #[.string x.name, .string x.row, .int .i64 x.e, .int .i64 x.until_] 29)) _ (HV.out _ ((hbS.alloc hbS.size (.cells #[.string x.name, .string x.row, .int .i64 x.e, .int .i64 x.until_] 29)))) (old_laid HGS.out (.cells #[.string x.name, .string x.row, .int .i64 x.e, .int .i64 x.until_] 29))).mono ?_); rintro e w2 ⟨rfl, hb2⟩; have HB2 := Lib.hid (((hbS.alloc hbS.size (.cells #[.string x.name, .string x.row, .int .i64 x.e, .int .i64 x.until_] 29))).trans (hb2.mono (alloc_size hbS.size))); have HVb := Lib.hid ((hb2.block wS.heap.size (alloc_lt wS (.cells #[.string x.name, .string x.row, .int .i64 x.e, .int .i64 x.until_] 29))).trans (laid1 wS (.cells #[.string x.name, .string x.row, .int .i64 x.e, .int .i64 x.until_] 29))); obtain ⟨⟨r0, r1, r2, r3⟩, _⟩ := boxes4 ((HB2.out.block _ (lt_of_block HZ1.out)).trans HZ1.out))
    | (go_simp; go_at_call 24; (with_reducible refine (HFa.out (wS.alloc (.cells #[.string x.name, .string x.row, .int .i64 x.e, .int .i64 x.until_] 29)).drew _ (HV.out _ ((hbS.alloc hbS.size (.cells #[.string x.name, .string x.row, .int .i64 x.e, .int .i64 x.until_] 29)).drew)) (old_laid HGS.out (.cells #[.string x.name, .string x.row, .int .i64 x.e, .int .i64 x.until_] 29))).mono ?_); rintro e w2 ⟨rfl, hb2⟩; have HB2 := Lib.hid (((hbS.alloc hbS.size (.cells #[.string x.name, .string x.row, .int .i64 x.e, .int .i64 x.until_] 29)).drew).trans (hb2.mono (alloc_size hbS.size))); have HVb := Lib.hid ((hb2.block wS.heap.size (alloc_lt wS (.cells #[.string x.name, .string x.row, .int .i64 x.e, .int .i64 x.until_] 29))).trans (laid1 wS (.cells #[.string x.name, .string x.row, .int .i64 x.e, .int .i64 x.until_] 29))); obtain ⟨⟨r0, r1, r2, r3⟩, _⟩ := boxes4 ((HB2.out.block _ (lt_of_block HZ1.out)).trans HZ1.out))
    | (go_simp; go_at_call 42; (with_reducible refine (HIn.out w2 _ (HV.out _ HB2.out) HVb.out (Nat.le_trans hsz1 (Nat.le_refl _))).mono ?_); rintro e w3 ⟨a3, c3, rfl, h31, h32⟩; have HO3 := Lib.hid h31; have HB3 := Lib.hid (((HV.out _ HB2.out).mono hbase).trans h32); clear h31 h32)
    | (go_simp; go_at_call 42; (with_reducible refine (HIn.out w2 _ (HV.out _ HB2.out) HVb.out (Nat.le_trans hsz1 hbS.size)).mono ?_); rintro e w3 ⟨a3, c3, rfl, h31, h32⟩; have HO3 := Lib.hid h31; have HB3 := Lib.hid (((HV.out _ HB2.out).mono hbase).trans h32); clear h31 h32)
    | (go_simp; go_at_call 42; (with_reducible refine (HIn.out (w2.alloc (.cells #[.string x.name, .string x.row, .int .i64 x.e, .int .i64 x.until_] 29)) _ (HV.out _ ((HB2.out.alloc HB2.out.size (.cells #[.string x.name, .string x.row, .int .i64 x.e, .int .i64 x.until_] 29)))) (laid1 w2 (.cells #[.string x.name, .string x.row, .int .i64 x.e, .int .i64 x.until_] 29)) (Nat.le_trans hsz1 HB2.out.size)).mono ?_); rintro e w3 ⟨a3, c3, rfl, h31, h32⟩; have HO3 := Lib.hid h31; have HB3 := Lib.hid (((HV.out _ ((HB2.out.alloc HB2.out.size (.cells #[.string x.name, .string x.row, .int .i64 x.e, .int .i64 x.until_] 29)))).mono hbase).trans h32); clear h31 h32)
    | (go_simp; go_at_call 42; (with_reducible refine (HIn.out (w2.alloc (.cells #[.string x.name, .string x.row, .int .i64 x.e, .int .i64 x.until_] 29)).drew _ (HV.out _ ((HB2.out.alloc HB2.out.size (.cells #[.string x.name, .string x.row, .int .i64 x.e, .int .i64 x.until_] 29)).drew)) (laidA w2 (.cells #[.string x.name, .string x.row, .int .i64 x.e, .int .i64 x.until_] 29)) (Nat.le_trans hsz1 HB2.out.size)).mono ?_); rintro e w3 ⟨a3, c3, rfl, h31, h32⟩; have HO3 := Lib.hid h31; have HB3 := Lib.hid (((HV.out _ ((HB2.out.alloc HB2.out.size (.cells #[.string x.name, .string x.row, .int .i64 x.e, .int .i64 x.until_] 29)).drew)).mono hbase).trans h32); clear h31 h32))
  all_goals go_wp2_with fail
  all_goals go_ret
  all_goals exact ⟨a3, c3, rfl, HO3.out, HB3.out⟩
end Go.Proofs.Ytaealoodchkeaaa
