/- The document's own answers about what is known: what is fresh, until when, entries made. -/
import Derived.Test.YtaealoodchkeaaaRefK
set_option linter.unusedSimpArgs false
set_option linter.unusedVariables false
namespace Go.Proofs.Ytaealoodchkeaaa
open R3 Go.RowKit Go.Proofs.Ytaealoodchkeaaa.Kind

theorem fresh_step {l : List Kn} {n : Int} {k : Nat} {x : Kn} (hx : l[k]? = some x) : freshK (l.take (k + 1)) n = freshK (l.take k) n ++ (if freshB n x then [x] else []) := by
  have : l.take (k + 1) = l.take k ++ [x] := by rw [List.take_add_one, hx]; rfl
  unfold freshK
  rw [this, List.filter_append]
  simp [List.filter_cons]
theorem fresh_le (l : List Kn) (n : Int) (k : Nat) : (freshK (l.take k) n).length ≤ k := by
  unfold freshK
  refine Nat.le_trans (List.length_filter_le _ _) ?_
  simp; omega

set_option maxHeartbeats 4000000 in
set_option maxRecDepth 1000000 in
theorem rfreshs_any (l : List Kn) (n : Int) (a : Option Addr) (c : Nat) (w : World) (hl : l.length ≤ 1000) (hR : KK.RowC w a c l) :
    Calls Try.prog 20 #[.slice a l.length c, .int .i64 n] w fun e w' => ∃ a1 c1, e = .returned (.slice a1 (freshK l n).length c1) ∧ KK.RowC w' a1 c1 (freshK l n) ∧ Below w.heap.size w w' := by
  have HR := Lib.hid hR
  clear hR
  go_enter Try.func20, Try.ntmps20
  go_wp2_with fail
  go_loopw [5, 6] (fun o i wr => ∃ (k m c1 : Nat) (a1 : Option Addr), o = .slice a1 m c1 ∧ i = .int .i64 k ∧ k ≤ l.length ∧ m ≤ k ∧ Hid (m = (freshK (l.take k) n).length) ∧ Hid (KK.Own wr w.heap.size (.slice a1 m c1) (freshK (l.take k) n)) ∧ Hid (Below w.heap.size w wr)) (fun _ i _ => l.length - (intOf i).toNat)
  case atStart => exact ⟨0, 0, 0, none, rfl, rfl, by omega, by omega, Lib.hid rfl, Lib.hid (own_nil _ _), Lib.hid (Below.refl _ _)⟩
  case round =>
    obtain ⟨k, m, c1, a1, rfl, rfl, hk, hmk, hm, hO, hB⟩ := hrel
    have HM := Lib.hid hm.out
    clear hm
    have HO := Lib.hid hO.out
    have HB := Lib.hid hB.out
    have hsz := HB.out.size
    clear hO hB
    by_cases hlt : k < l.length
    · obtain ⟨b, o, rfl, hb, hat⟩ := HR.out.2.2.2 (by omega)
      obtain ⟨x, hx⟩ : ∃ x, l[k]? = some x := ⟨_, List.getElem?_eq_getElem hlt⟩
      have HC := Lib.hid (fun (W : World) (h : Below w.heap.size w W) => KK.cells (hat.below h hb) hx)
      have hst := fresh_step (n := n) hx
      have hle := fresh_le l n k
      have HF := Lib.hid (fun W => rfresh_any x n W)
      obtain ⟨c0, c1', c2, c3⟩ := HC.out wr HB.out
      clear hat hx
      cases hf : freshB n x with
      | true =>
        rw [hf] at hst HF
        simp only [if_true] at hst
        have HS := Lib.hid hst
        clear hst hf
        go_wp2_with fail
        with_reducible refine (HF.out _).mono ?_
        rintro e w1 ⟨rfl, hb1⟩
        have HB1 := Lib.hid (HB.out.trans (hb1.mono hsz))
        have HO1 := Lib.hid (HO.out.below hb1 (Nat.le_refl _))
        have hsz1 := HB1.out.size
        clear c0 c1' c2 c3 HO HB HF
        obtain ⟨c0, c1', c2, c3⟩ := HC.out w1 HB1.out
        have HC2 := Lib.hid (HC.out)
        clear hb1 HC
        go_wp2_with (at_builtin; refine KK.wpList_append_owned rfl _ _ rfl w.heap.size (.slice a1 m c1) rfl (freshK (l.take k) n) (HO1.out.below (below1 w1 _) (Nat.le_refl _)) (some ⟨w1.heap.size, 0, none⟩) 1 1 rfl [x] rfl (rowC_at (K := KK) w1 29 [x] _ _ 1 rfl rfl rfl (by simp)) (by simp; omega) (by simp; omega) (freshK (l.take (k + 1)) n) HS.out ?_; intro a2 c2' w2 hO2 hG2; have HO2 := Lib.hid hO2; have HB2 := Lib.hid ((HB1.out.trans ((below1 w1 (.cells #[.string x.name, .string x.row, .int .i64 x.e, .int .i64 x.until_] 29)).mono hsz1)).grown hG2 (by simp; omega) (fun j hj => (HO1.out.lt j hj).1)); clear hO2 hG2)
        exact ⟨⟨k + 1, _, c2', a2, rfl, by go_num, by omega, fresh_le _ _ _, Lib.hid rfl, HO2, HB2⟩, by simp [intOf]; omega⟩
      | false =>
        rw [hf] at hst HF
        have HS := Lib.hid hst
        clear hst hf
        go_wp2_with fail
        with_reducible refine (HF.out _).mono ?_
        rintro e w1 ⟨rfl, hb1⟩
        have HB1 := Lib.hid (HB.out.trans (hb1.mono hsz))
        have HO1 := Lib.hid (HO.out.below hb1 (Nat.le_refl _))
        clear hb1
        go_wp2_with fail
        go_roundw
        case rel => exact ⟨k + 1, m, c1, a1, rfl, by go_num, by omega, by omega, Lib.hid (by rw [HS.out]; simpa using HM.out), Lib.hid (by rw [HS.out]; simpa using HO1.out), Lib.hid HB1.out⟩
        case measure => simp [intOf]; omega
    · obtain rfl : k = l.length := by omega
      go_wp2_with fail
      go_ret
      have hm := HM.out
      have hO := HO.out
      rw [List.take_length] at hm hO
      exact ⟨a1, c1, by rw [← hm]; rfl, hO.row, HB.out⟩

theorem until_step {l : List Kn} {k : Nat} {x : Kn} (hx : l[k]? = some x) : (l.take (k + 1)).map (·.until_) = (l.take k).map (·.until_) ++ [x.until_] := by
  have : l.take (k + 1) = l.take k ++ [x] := by rw [List.take_add_one, hx]; rfl
  rw [this]; simp
theorem rowI_of {w : World} {a : Option Addr} {c : Nat} {l : List Int} (h : IK.RowC w a c l) : R3.RowI w a l := fun hl => by
  obtain ⟨b, o, e, hb, hat⟩ := h.2.2.2 hl
  refine ⟨b, o, e, hb, fun j x hx => ?_⟩
  have h1 := hat j x hx 0 _ rfl
  have e : o + j * IK.k + 0 = o + j := by show o + j * 1 + 0 = o + j; omega
  rwa [e] at h1

set_option maxHeartbeats 4000000 in
set_option maxRecDepth 1000000 in
theorem runtil_any (l : List Kn) (a : Option Addr) (c : Nat) (w : World) (hl : l.length ≤ 1000) (hR : KK.RowC w a c l) :
    Calls Try.prog 13 #[.slice a l.length c] w fun e w' => e = .returned (.tuple #[.int .i64 (untilK l).1, .int .i64 (untilK l).2]) ∧ Below w.heap.size w w' := by
  have HR := Lib.hid hR
  clear hR
  go_enter Try.func13, Try.ntmps13
  go_wp2_with fail
  go_loopw [4, 5] (fun o i wr => ∃ (k m c1 : Nat) (a1 : Option Addr), o = .slice a1 m c1 ∧ i = .int .i64 k ∧ k ≤ l.length ∧ m = k ∧ Hid (IK.Own wr w.heap.size (.slice a1 m c1) ((l.take k).map (·.until_))) ∧ Hid (Below w.heap.size w wr)) (fun _ i _ => l.length - (intOf i).toNat)
  case atStart => exact ⟨0, 0, 0, none, rfl, rfl, by omega, rfl, Lib.hid (own_nil _ _), Lib.hid (Below.refl _ _)⟩
  case round =>
    obtain ⟨k, m, c1, a1, rfl, rfl, hk, rfl, hO, hB⟩ := hrel
    have HO := Lib.hid hO.out
    have HB := Lib.hid hB.out
    have hsz := HB.out.size
    clear hO hB
    by_cases hlt : m < l.length
    · obtain ⟨b, o, rfl, hb, hat⟩ := HR.out.2.2.2 (by omega)
      obtain ⟨x, hx⟩ : ∃ x, l[m]? = some x := ⟨_, List.getElem?_eq_getElem hlt⟩
      obtain ⟨c0, c1', c2, c3⟩ := KK.cells (hat.below HB.out hb) hx
      have HS := Lib.hid (until_step hx)
      clear hat hx
      go_wp2_with (at_builtin; refine IK.wpList_append_owned rfl _ _ rfl w.heap.size (.slice a1 m c1) rfl ((l.take m).map (·.until_)) (HO.out.below (below1 wr _) (Nat.le_refl _)) (some ⟨wr.heap.size, 0, none⟩) 1 1 rfl [x.until_] rfl (rowC_at (K := IK) wr 3 [x.until_] _ _ 1 rfl rfl rfl (by simp)) (by simp; omega) (by simp; omega) ((l.take (m + 1)).map (·.until_)) HS.out ?_; intro a2 c2' w2 hO2 hG2; rw [List.length_map, List.length_take, Nat.min_eq_left hlt] at hO2; have HO2 := Lib.hid hO2; have HB2 := Lib.hid ((HB.out.trans ((below1 wr (.cells #[.int .i64 x.until_] 3)).mono hsz)).grown hG2 (by simp; omega) (fun j hj => (HO.out.lt j hj).1)); clear hO2 hG2)
      exact ⟨⟨m + 1, m + 1, c2', a2, by rw [Nat.min_eq_left hlt], by go_num, by omega, rfl, HO2, HB2⟩, by simp [intOf]; omega⟩
    · obtain rfl : m = l.length := by omega
      have hO := HO.out
      rw [List.take_length] at hO
      have HF := Lib.hid (rfirst_any (l.map (·.until_)) a1 c1 wr (by simp; omega) (rowI_of hO.row))
      rw [List.length_map] at HF
      clear hO
      go_wp2_with fail
      with_reducible refine HF.out.mono ?_
      rintro e w1 ⟨rfl, hb1⟩
      go_wp2_with fail
      go_ret2
      exact ⟨rfl, HB.out.trans (hb1.mono hsz)⟩

/-- An iterator of entries put. -/
theorem one_some {l : List Kn} {x : Kn} {k : Nat} (h : l.findIdx? (is x.name) = some k) : oneK l x = l.set k x := by unfold oneK; rw [h]
theorem one_none {l : List Kn} {x : Kn} (h : l.findIdx? (is x.name) = none) : oneK l x = l.takeWhile (fun k => leS k.name x.name) ++ x :: l.dropWhile (fun k => leS k.name x.name) := by unfold oneK; rw [h]
theorem one_len (l : List Kn) (x : Kn) : (oneK l x).length ≤ l.length + 1 := by
  unfold oneK
  cases l.findIdx? (is x.name) with
  | some k => simp
  | none =>
    have h := congrArg List.length (List.takeWhile_append_dropWhile (p := fun k => leS k.name x.name) (l := l))
    simp only [List.length_append] at h
    simp only [List.length_append, List.length_cons]
    omega
theorem entry_ok {ttl neg : Int} {s row : ByteArray} {e now : Int} (h : e = 0) : entryK ttl neg s row e now = ⟨s, row, 0, P.later now [ttl]⟩ := by unfold entryK; rw [if_pos h]
theorem entry_no {ttl neg : Int} {s row : ByteArray} {e now : Int} (h : e ≠ 0) : entryK ttl neg s row e now = ⟨s, .empty, e, P.later now [neg]⟩ := by unfold entryK; rw [if_neg h]
end Go.Proofs.Ytaealoodchkeaaa
