/- The landed package cache: Put. -/
import Derived.Test.YtaealoodchkeaaaLandG
import Derived.Test.YtaealoodchkeaaaWakes
import Derived.Lib.LazyBuf
set_option linter.unusedSimpArgs false
set_option linter.unusedVariables false
namespace Go.Proofs.Ytaealoodchkeaaa
open R3 Go.RowKit Go.Proofs.Ytaealoodchkeaaa.Kind

theorem find_idx {l : List Kn} {s : ByteArray} : (l.findIdx? (is s) = none ∧ l.findIdx (is s) = l.length) ∨ ∃ k, l.findIdx? (is s) = some k ∧ l.findIdx (is s) = k ∧ k < l.length := by
  cases h : l.findIdx? (is s) with
  | none => exact .inl ⟨rfl, by rw [List.findIdx_eq_getD_findIdx?, h]; rfl⟩
  | some k => exact .inr ⟨k, rfl, by rw [List.findIdx_eq_getD_findIdx?, h]; rfl, (List.findIdx?_eq_some_iff_getElem.1 h).1⟩
theorem put_any (l : List Kn) (x : Kn) (L : List Kn) (hL : L = oneK l x) (a : Option Addr) (c base : Nat) (w : World) (hO : KK.Loose w base a c l) (hlen : l.length ≤ 2000) (hbase : base ≤ w.heap.size) :
    Calls Try.prog 34 #[.slice a l.length c, .agg #[.string x.name, .string x.row, .int .i64 x.e, .int .i64 x.until_]] w fun e w' => ∃ a' c', e = .returned (.slice a' L.length c') ∧ KK.Loose w' base a' c' L ∧ Below base w w' := by
  rcases find_idx (l := l) (s := x.name) with ⟨h1, h2⟩ | ⟨k, h1, h2, h3⟩
  · exact put_out l x L _ rfl (by rw [hL, one_at h1]) h2 a c base w hO hlen hbase
  · exact put_in l x k L (by rw [hL, one_some h1]) h2 h3 a c base w hO hlen hbase
theorem dst_loose {base : Nat} {a : Option Addr} {n c : Nat} {w : World} {l : List Kn} (h : KK.Dst w base (.slice a n c) l) : KK.Loose w base a c l := by
  rcases h with h | ⟨rfl, ad, e⟩
  · exact Own.loose h
  · injection e with e1 e2 e3
    subst e1 e3
    exact ⟨by simp, by simp, fun _ => rfl, fun h => by omega⟩

set_option maxHeartbeats 2000000 in
set_option maxRecDepth 1000000 in
theorem clone_kn (l : List Kn) (a : Option Addr) (c : Nat) (w : World) (hR : KK.RowC w a c l) (hl : l.length ≤ 1000) :
    Calls Try.prog 33 #[.slice a l.length c] w fun e w' => ∃ a' c', e = .returned (.slice a' l.length c') ∧ KK.Loose w' w.heap.size a' c' l ∧ Below w.heap.size w w' := by
  have hq : ∀ (a : Option Addr) (n : Nat) (W : World), (binOp .eql 24 (.slice a n c) (.slice none 0 0)).run Try.prog W = .ok (.bool a.isNone) W := fun a n W => Go.run_eql_slice_nil W _ _ a n c Try.underlying24
  cases a with
  | none =>
    obtain rfl : c = 0 := hR.2.2.1 rfl
    obtain rfl : l = [] := List.length_eq_zero_iff.1 (by have := hR.1; omega)
    go_enter Try.func33, Try.ntmps33
    go_wp2_with fail
    go_ret
    exact ⟨none, 0, rfl, loose_nil _ _, Below.refl _ _⟩
  | some ad =>
    have HR := Lib.hid hR
    clear hR
    go_enter Try.func33, Try.ntmps33
    go_wp2_with (at_builtin; refine KK.wpList_append_rows rfl _ _ rfl w.heap.size _ rfl [] (dst_bare _ _ _) (some ad) l.length c rfl l rfl (HR.out.below (below1 w _)) (by simp; omega) (by simp) ?_; intro a' c' w1 hD hM hB; rw [List.nil_append] at hD; have HD := Lib.hid (dst_loose hD); have HB := Lib.hid hB; clear hD hM hB)
    go_ret
    exact ⟨a', c', rfl, HD.out, (below1 w _).trans HB.out⟩

theorem put_step {l more : List Kn} {k : Nat} {x : Kn} (hx : more[k]? = some x) : putK l (more.take (k + 1)) = oneK (putK l (more.take k)) x := by
  have : more.take (k + 1) = more.take k ++ [x] := by rw [List.take_add_one, hx]; rfl
  rw [this]
  unfold putK
  rw [List.foldl_append]
  rfl
set_option maxHeartbeats 4000000 in
set_option maxRecDepth 1000000 in
theorem put_spec : PutSpec := by
  intro l more L a b c d w hl hm hL hA hB
  have HM := Lib.hid hB
  have HL := Lib.hid hL
  have HC := Lib.hid (clone_kn l a c w hA (by omega))
  have hmx : (more.length : Int) ≤ 400 := by omega
  clear hA hB hL
  go_enter Try.func17, Try.ntmps17
  go_wp2_with fail
  with_reducible refine HC.out.mono ?_
  rintro e w1 ⟨a0, c0, rfl, h1, h2⟩
  have H1 := Lib.hid h1
  have H2 := Lib.hid h2
  clear h1 h2 HC
  go_wp2_with fail
  go_loopw [5, 12] (fun u i wr => ∃ (k : Nat) (a2 : Option Addr) (c2 : Nat), u = .slice a2 (putK l (more.take k)).length c2 ∧ i = .int .i64 k ∧ k ≤ more.length ∧ Hid (KK.Loose wr w.heap.size a2 c2 (putK l (more.take k))) ∧ Hid (Below w.heap.size w wr)) (fun _ i _ => more.length - (intOf i).toNat)
  case atStart => exact ⟨0, a0, c0, rfl, rfl, by omega, Lib.hid H1.out, Lib.hid H2.out⟩
  case round =>
    obtain ⟨k, a2, c2, rfl, rfl, hk, hO2, hB2⟩ := hrel
    have HO2 := Lib.hid hO2.out
    have HB2 := Lib.hid hB2.out
    clear hO2 hB2
    by_cases hlt : k < more.length
    · have hki : (k : Int) < (more.length : Int) := by omega
      obtain ⟨x, hx⟩ : ∃ x, more[k]? = some x := ⟨_, List.getElem?_eq_getElem hlt⟩
      obtain ⟨mb, mo, rfl, hmlt, hmat⟩ := HM.out.2.2.2 (by omega)
      obtain ⟨m0, m1, m2, m3⟩ := KK.cells (hmat.below HB2.out hmlt) hx
      have hle := put_le l (more.take k)
      rw [List.length_take] at hle
      obtain ⟨Q, hQ⟩ : ∃ Q, Q = putK l (more.take k) := ⟨_, rfl⟩
      rw [← hQ] at HO2 hle ⊢
      have HQ := Lib.hid (show putK l (more.take (k + 1)) = oneK Q x by rw [put_step hx, hQ])
      have hb1 := below1 wr (.cells #[.string x.name, .string x.row, .int .i64 x.e, .int .i64 x.until_] 29)
      have HB3 := Lib.hid (HB2.out.trans (hb1.mono HB2.out.size))
      have HX := Lib.hid (put_any Q x (oneK Q x) rfl a2 c2 w.heap.size _ (HO2.out.below hb1) (by omega) HB3.out.size)
      clear hx hmat hQ hle hb1
      go_wp2_with fail
      with_reducible refine HX.out.mono ?_
      rintro e w5 ⟨a3, c3, rfl, h3, h5⟩
      have HO3 := Lib.hid h3
      have HB4 := Lib.hid (HB3.out.trans h5)
      clear h3 h5 HX HO2 HB2 HB3 m0 m1 m2 m3
      go_wp2_with fail
      go_roundw
      case rel => exact ⟨k + 1, a3, c3, by rw [HQ.out], by go_num, by omega, Lib.hid (by rw [HQ.out]; exact HO3.out), Lib.hid HB4.out⟩
      case measure => simp [intOf]; omega
    · obtain rfl : k = more.length := by omega
      have hfin := HO2.out
      rw [List.take_length, ← HL.out] at hfin
      have hln : (putK l (more.take more.length)).length = L.length := by rw [List.take_length, ← HL.out]
      obtain ⟨m, hm⟩ : ∃ m, m = (putK l (more.take more.length)).length := ⟨_, rfl⟩
      rw [← hm] at hln ⊢
      have HF := Lib.hid hfin.row
      have HN := Lib.hid hln
      clear hm hfin hln HO2
      go_wp2_with fail
      go_ret
      exact ⟨a2, c2, by rw [← HN.out]; rfl, HF.out, HB2.out⟩
theorem wakes_spec : WakesSpec := wakes_walk entry_spec get_spec put_spec fresh_spec until_spec
end Go.Proofs.Ytaealoodchkeaaa
