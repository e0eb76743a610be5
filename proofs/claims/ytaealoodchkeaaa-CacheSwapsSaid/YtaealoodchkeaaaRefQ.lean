/- The document's own Put, walked. -/
import Derived.Test.YtaealoodchkeaaaRefN
import Derived.Test.YtaealoodchkeaaaRefL
set_option linter.unusedSimpArgs false
set_option linter.unusedVariables false
namespace Go.Proofs.Ytaealoodchkeaaa
open R3 Go.RowKit Go.Proofs.Ytaealoodchkeaaa.Kind

theorem rone_any (l : List Kn) (x : Kn) (L : List Kn) (hL : L = oneK l x) (a : Option Addr) (c : Nat) (w : World) (hl : l.length ≤ 1000) (hpl : ∃ b o, a = some ⟨b, o, none⟩) (hR : KK.RowC w a c l) :
    Calls Try.prog 35 #[.slice a l.length c, .agg #[.string x.name, .string x.row, .int .i64 x.e, .int .i64 x.until_]] w fun e w' => ∃ a1 c1, e = .returned (.slice a1 L.length c1) ∧ KK.RowC w' a1 c1 L ∧ (∃ b o, a1 = some ⟨b, o, none⟩) ∧ Below w.heap.size w w' := by
  rcases place_cases l x.name with ⟨h1, h2, _⟩ | ⟨k, y, h1, h2, hy, _⟩
  · obtain ⟨ad, rfl⟩ : ∃ ad, a = some ad := by obtain ⟨b, o, e⟩ := hpl; exact ⟨_, e⟩
    have hn := one_none h2
    have hlen : L.length = l.length + 1 := by
      rw [hL, hn]
      have := congrArg List.length (List.takeWhile_append_dropWhile (p := fun k => leS k.name x.name) (l := l))
      rw [List.length_append] at this
      rw [List.length_append, List.length_cons]
      omega
    refine (rone_out l x (some ad) c w hl h1 h2 hpl hR).mono ?_
    rintro e w' ⟨a1, c1, rfl, h3, h4, h5⟩
    exact ⟨a1, c1, by rw [hlen], by rw [hL]; exact h3, h4, h5⟩
  · have hn := one_some h2
    have hlen : L.length = l.length := by rw [hL, hn]; simp
    refine (rone_in l x k y a c w hl h1 hy hR).mono ?_
    rintro e w' ⟨a1, c1, rfl, h3, h4, h5⟩
    exact ⟨a1, c1, by rw [hlen], by rw [hL, hn]; exact h3, h4, h5⟩
theorem wpList_append_bare {w : World} {ops : Array Oper} {rest : List Oper} {o : Oper} {act : Act} {Q : Exit → Act → World → Prop} (hgd : o.guard = none) (s x : Operand)
    (ho : o.op = .call { callee := .builtin .append, args := #[s, x], argTypes := #[KK.S, KK.S] }) (a0 ad : Option Addr) (c : Nat) (hs : act.eval s = .slice a0 0 0) (hx : act.eval x = .slice ad 0 c) (hn : ad = none → c = 0)
    (h : wpList Try.prog ops Q rest (act.put o.dst (.slice a0 0 0)) w) : wpList Try.prog ops Q (o :: rest) act w := by
  refine wpList_plain hgd fun K' hK' => ?_
  have hrun := run_append_bare (K := KK) a0 ad c w o.type hn
  unfold Oper.wp
  simp [execOp, ho, resolve, invoke, builtin, hs, hx, hrun, Result.andThen]
  exact hK' _ _ h
theorem put_take {l more : List Kn} {k : Nat} {x : Kn} (hx : more[k]? = some x) : putK l (more.take (k + 1)) = oneK (putK l (more.take k)) x := by
  have : more.take (k + 1) = more.take k ++ [x] := by rw [List.take_add_one, hx]; rfl
  unfold putK
  rw [this, List.foldl_append]
  rfl
theorem put_len_le (l : List Kn) : ∀ more : List Kn, (putK l more).length ≤ l.length + more.length := by
  intro more
  induction more generalizing l with
  | nil => simp [putK]
  | cons x t ih =>
    have h := ih (oneK l x)
    have h2 := one_len l x
    simp only [List.length_cons]
    show (putK (oneK l x) t).length ≤ _
    omega
set_option maxHeartbeats 8000000 in
set_option maxRecDepth 1000000 in
theorem rput_any (l more L : List Kn) (hL : L = putK l more) (a b : Option Addr) (c d : Nat) (w : World) (hl : l.length + more.length ≤ 1000) (hA : KK.RowC w a c l) (hB : KK.RowC w b d more) :
    Calls Try.prog 18 #[.slice a l.length c, .slice b more.length d] w fun e w' => ∃ a1 c1, e = .returned (.slice a1 L.length c1) ∧ KK.RowC w' a1 c1 L ∧ Below w.heap.size w w' := by
  have HA := Lib.hid (fun (W : World) (h : Below w.heap.size w W) => hA.below h)
  have HM := Lib.hid (fun (W : World) (h : Below w.heap.size w W) => hB.below h)
  have HL := Lib.hid hL
  have hmx : (more.length : Int) ≤ 1000 := by omega
  clear hA hB hL
  have hml : (putK l more).length ≤ l.length + more.length := put_len_le l more
  go_enter Try.func18, Try.ntmps18
  by_cases hl0 : l.length = 0
  · obtain rfl : l = [] := List.eq_nil_of_length_eq_zero hl0
    have hn := (HA.out w (Below.refl _ _)).2.2.1
    have HB0 := Lib.hid (below1 w (.cells #[] 29))
    simp only [List.length_nil]
    go_wp2_with (at_builtin; refine wpList_append_bare rfl _ _ rfl (some ⟨w.heap.size, 0, none⟩) a c rfl rfl hn ?_; generalize hw1 : w.alloc (.cells #[] 29) = w1 at HB0 ⊢; have HB1 := Lib.hid HB0.out; have HR0 := Lib.hid (show KK.RowC w1 (some ⟨w.heap.size, 0, none⟩) 0 [] from ⟨Nat.le_refl _, by decide, (fun e => by cases e), fun h => by simp at h⟩); have HP0 := Lib.hid (show ∃ b o, (some ⟨w.heap.size, 0, none⟩ : Option Addr) = some ⟨b, o, none⟩ from ⟨_, _, rfl⟩); clear hw1 HB0 hn)
    go_loopw [5, 6] (fun u5 u6 wr => ∃ (k : Nat) (a2 : Option Addr) (c2 : Nat), u5 = .slice a2 (putK [] (more.take k)).length c2 ∧ u6 = .int .i64 k ∧ k ≤ more.length ∧ Hid (KK.RowC wr a2 c2 (putK [] (more.take k))) ∧ Hid (∃ b o, a2 = some ⟨b, o, none⟩) ∧ Hid (Below w.heap.size w wr)) (fun _ u _ => more.length - (intOf u).toNat)
    case atStart => exact ⟨0, some ⟨w.heap.size, 0, none⟩, 0, by simp [putK], rfl, by omega, by simpa [putK] using HR0, HP0, HB1⟩
    case round =>
      obtain ⟨k, a2, c2, rfl, rfl, hk, HR2, HP2, HB2⟩ := hrel
      have hkw : IntKind.i64.wrap ((k : Int) + 1) = (k : Int) + 1 := by rw [IntKind.wrap_i64]; omega
      by_cases hlt : k < more.length
      · have hki : (k : Int) < (more.length : Int) := by omega
        obtain ⟨x, hx⟩ : ∃ x, more[k]? = some x := ⟨_, List.getElem?_eq_getElem hlt⟩
        obtain ⟨mb, mo, hmb, hmlt, hmat⟩ := (HM.out wr HB2.out).2.2.2 (by omega)
        obtain ⟨c0, c1, c2', c3⟩ := KK.cells hmat hx
        have hle := put_len_le [] (more.take k)
        rw [List.length_take] at hle
        obtain ⟨Q, hQ⟩ : ∃ Q, Q = putK [] (more.take k) := ⟨_, rfl⟩
        rw [← hQ] at HR2 hle ⊢
        obtain ⟨Q2, hQ2⟩ : ∃ Q2, Q2 = oneK Q x := ⟨_, rfl⟩
        have HQ := Lib.hid (show putK [] (more.take (k + 1)) = Q2 by rw [put_take hx, hQ2, hQ])
        have HX := Lib.hid (rone_any Q x Q2 hQ2 a2 c2 wr (by omega) HP2.out HR2.out)
        clear hx hmat hQ hQ2 hle
        subst hmb
        go_wp2_with fail
        with_reducible refine HX.out.mono ?_
        rintro e w5 ⟨a3, c4, rfl, h3, h4, h5⟩
        have HR3 := Lib.hid h3
        have HP3 := Lib.hid h4
        have HB3 := Lib.hid (HB2.out.trans (h5.mono HB2.out.size))
        clear h3 h4 h5 HX HR2 HP2 HB2 c0 c1 c2' c3
        go_wp2_with fail
        go_roundw
        case rel => exact ⟨k + 1, a3, c4, by rw [HQ.out], by go_num, by omega, by rw [HQ.out]; exact HR3, HP3, HB3⟩
        case measure => simp [intOf]; omega
      · obtain rfl : k = more.length := by omega
        have hfin := HR2.out
        rw [List.take_length, ← HL.out] at hfin
        have hbf := HB2.out
        have hln : (putK [] (more.take more.length)).length = L.length := by rw [List.take_length, ← HL.out]
        obtain ⟨m, hm⟩ : ∃ m, m = (putK [] (more.take more.length)).length := ⟨_, rfl⟩
        rw [← hm] at hln ⊢
        clear hm HR2 HP2 HB2
        go_wp2_with fail
        go_ret
        refine ⟨a2, c2, ?_, hfin, hbf⟩
        rw [← hln]
        rfl
  · go_wp2_with (at_builtin; refine KK.wpList_append_rows rfl _ _ rfl w.heap.size _ rfl [] (dst_bare _ _ _) a l.length c rfl l rfl (HA.out _ ?_) (by simp; omega) (by first | (simp; done) | (simp; omega)) ?_; exact below1 w _; intro a1 c1 w1 hD1 hM1 hB1; rw [List.nil_append] at hM1; have HR0 := Lib.hid hM1.row; have HP0 := Lib.hid (show ∃ b o, a1 = some ⟨b, o, none⟩ from by obtain ⟨g, cur, t, e, _⟩ := hM1.2.2.2 (by omega); exact ⟨g, 0, e⟩); have HB1 := Lib.hid ((below1 w (.cells #[] 29)).trans hB1); simp only [List.nil_append]; clear hD1 hM1 hB1)
    go_loopw [5, 6] (fun u5 u6 wr => ∃ (k : Nat) (a2 : Option Addr) (c2 : Nat), u5 = .slice a2 (putK l (more.take k)).length c2 ∧ u6 = .int .i64 k ∧ k ≤ more.length ∧ Hid (KK.RowC wr a2 c2 (putK l (more.take k))) ∧ Hid (∃ b o, a2 = some ⟨b, o, none⟩) ∧ Hid (Below w.heap.size w wr)) (fun _ u _ => more.length - (intOf u).toNat)
    case atStart => exact ⟨0, a1, c1, by simp [putK], rfl, by omega, by simpa [putK] using HR0, HP0, HB1⟩
    case round =>
      obtain ⟨k, a2, c2, rfl, rfl, hk, HR2, HP2, HB2⟩ := hrel
      have hkw : IntKind.i64.wrap ((k : Int) + 1) = (k : Int) + 1 := by rw [IntKind.wrap_i64]; omega
      by_cases hlt : k < more.length
      · have hki : (k : Int) < (more.length : Int) := by omega
        obtain ⟨x, hx⟩ : ∃ x, more[k]? = some x := ⟨_, List.getElem?_eq_getElem hlt⟩
        obtain ⟨mb, mo, hmb, hmlt, hmat⟩ := (HM.out wr HB2.out).2.2.2 (by omega)
        obtain ⟨c0, c1, c2', c3⟩ := KK.cells hmat hx
        have hle := put_len_le l (more.take k)
        rw [List.length_take] at hle
        obtain ⟨Q, hQ⟩ : ∃ Q, Q = putK l (more.take k) := ⟨_, rfl⟩
        rw [← hQ] at HR2 hle ⊢
        obtain ⟨Q2, hQ2⟩ : ∃ Q2, Q2 = oneK Q x := ⟨_, rfl⟩
        have HQ := Lib.hid (show putK l (more.take (k + 1)) = Q2 by rw [put_take hx, hQ2, hQ])
        have HX := Lib.hid (rone_any Q x Q2 hQ2 a2 c2 wr (by omega) HP2.out HR2.out)
        clear hx hmat hQ hQ2 hle
        subst hmb
        go_wp2_with fail
        with_reducible refine HX.out.mono ?_
        rintro e w5 ⟨a3, c4, rfl, h3, h4, h5⟩
        have HR3 := Lib.hid h3
        have HP3 := Lib.hid h4
        have HB3 := Lib.hid (HB2.out.trans (h5.mono HB2.out.size))
        clear h3 h4 h5 HX HR2 HP2 HB2 c0 c1 c2' c3
        go_wp2_with fail
        go_roundw
        case rel => exact ⟨k + 1, a3, c4, by rw [HQ.out], by go_num, by omega, by rw [HQ.out]; exact HR3, HP3, HB3⟩
        case measure => simp [intOf]; omega
      · obtain rfl : k = more.length := by omega
        have hfin := HR2.out
        rw [List.take_length, ← HL.out] at hfin
        have hbf := HB2.out
        have hln : (putK l (more.take more.length)).length = L.length := by rw [List.take_length, ← HL.out]
        obtain ⟨m, hm⟩ : ∃ m, m = (putK l (more.take more.length)).length := ⟨_, rfl⟩
        rw [← hm] at hln ⊢
        clear hm HR2 HP2 HB2
        go_wp2_with fail
        go_ret
        refine ⟨a2, c2, ?_, hfin, hbf⟩
        rw [← hln]
        rfl
end Go.Proofs.Ytaealoodchkeaaa
