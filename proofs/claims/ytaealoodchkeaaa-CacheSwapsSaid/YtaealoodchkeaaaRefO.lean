/- The document's own answers about what is known: entries made, entries that may be. -/
import Derived.Test.YtaealoodchkeaaaRefM
set_option linter.unusedSimpArgs false
set_option linter.unusedVariables false
namespace Go.Proofs.Ytaealoodchkeaaa
open R3 Go.RowKit Go.Proofs.Ytaealoodchkeaaa.Kind

theorem up_nil_take (l : List Kn) : mayK (l.take 0) = true := by simp [mayK, upK]
theorem up_append {x : Kn} : ∀ l : List Kn, upK (l ++ [x]) = (upK l && match l.getLast? with | some y => ltS y.name x.name | none => true)
  | [] => by simp [upK]
  | [y] => by simp [upK]
  | y :: z :: l => by
    have ih := up_append (x := x) (z :: l)
    have e : y :: z :: l ++ [x] = y :: z :: (l ++ [x]) := rfl
    have e2 : z :: l ++ [x] = z :: (l ++ [x]) := rfl
    have e3 : (y :: z :: l).getLast? = (z :: l).getLast? := by simp [List.getLast?_cons_cons]
    rw [e, upK, ← e2, ih, upK, e3, Bool.and_assoc]
theorem may_step {l : List Kn} {k : Nat} {x : Kn} (hx : l[k]? = some x) : mayK (l.take (k + 1)) = (mayK (l.take k) && okK x && match (l.take k).getLast? with | some y => ltS y.name x.name | none => true) := by
  have : l.take (k + 1) = l.take k ++ [x] := by rw [List.take_add_one, hx]; rfl
  unfold mayK
  rw [this, up_append]
  simp only [List.all_append, List.all_cons, List.all_nil, Bool.and_true]
  cases (l.take k).all okK <;> cases okK x <;> cases upK (l.take k) <;> simp
theorem last_take {l : List Kn} {k : Nat} {y : Kn} (h : l[k]? = some y) : (l.take (k + 1)).getLast? = some y := by
  have : l.take (k + 1) = l.take k ++ [y] := by rw [List.take_add_one, h]; rfl
  rw [this]; simp
theorem may_take {l : List Kn} {k : Nat} (h : mayK (l.take k) = false) : mayK l = false := by
  cases hl : mayK l with
  | false => rfl
  | true =>
    have h1 := may_iff.1 hl
    have : mayK (l.take k) = true := may_iff.2 ⟨fun x hx => h1.1 x (List.mem_of_mem_take hx), List.Pairwise.sublist (List.take_sublist _ _) h1.2⟩
    rw [h] at this
    cases this
theorem text_no : (ByteArray.mk #[]).toList = [] := by rw [ByteArray.toList_eq]
theorem text_is (a : ByteArray) : (a.toList == ([] : List UInt8)) = decide (a = .empty) := by rw [← text_no, text_eq]; rfl
theorem text_is' (a : ByteArray) : (a.toList == (ByteArray.mk #[]).toList) = decide (a = .empty) := text_eq _ _
theorem no_name (x : Kn) (h : x.name = .empty) : okK x = false := by unfold okK; simp [h]
theorem ok_cases (x : Kn) (h : x.name ≠ .empty) : okK x = (decide (x.e = 0) || decide (x.row = .empty)) := by unfold okK; simp [h]

set_option maxHeartbeats 8000000 in
set_option maxRecDepth 1000000 in
theorem rmay_any (l : List Kn) (a : Option Addr) (c : Nat) (w : World) (hR : KK.RowC w a c l) :
    Calls Try.prog 22 #[.slice a l.length c] w fun e w' => e = .returned (.bool (mayK l)) ∧ Below w.heap.size w w' := by
  have hmx : (l.length : Int) ≤ 9223372036854775807 := by have h1 := hR.1; have h2 := hR.2.1; unfold maxLen at h2; omega
  have HR := Lib.hid hR
  clear hR
  go_enter Try.func22, Try.ntmps22
  go_wp2_with fail
  go_loopw [3] (fun i wr => ∃ k q : Nat, i = .int .i64 k ∧ k ≤ l.length ∧ Hid (mayK (l.take k) = true) ∧ wr = w.drewN q) (fun i _ => l.length - (intOf i).toNat)
  case atStart => exact ⟨0, 0, rfl, by omega, Lib.hid (up_nil_take l), rfl⟩
  case round =>
    obtain ⟨k, q, rfl, hk, hn, rfl⟩ := hrel
    have HN := Lib.hid hn.out
    clear hn
    by_cases hlt : k < l.length
    · obtain ⟨b, o, rfl, hb, hat⟩ := HR.out.2.2.2 (by omega)
      obtain ⟨x, hx⟩ : ∃ x, l[k]? = some x := ⟨_, List.getElem?_eq_getElem hlt⟩
      obtain ⟨c0, c1, c2, c3⟩ := KK.cells hat hx
      have hst := may_step hx
      rw [HN.out, Bool.true_and] at hst
      have hT := text_is x.name
      have hT' := text_is' x.name
      have hR1 := text_is x.row
      have hR2 := text_is' x.row
      by_cases hno : x.name = .empty
      · rw [decide_eq_true hno] at hT hT'
        have HS := Lib.hid (show mayK l = false from may_take (k := k + 1) (by rw [hst]; rw [no_name x hno]; rfl))
        clear hst hat hx
        go_wp2_with fail
        go_quiet (fail)
        go_wp2_with fail
        go_ret
        exact ⟨by rw [HS.out]; rfl, below_drewN (below_drewN (Below.refl _ _) _) _⟩
      · rw [decide_eq_false hno] at hT hT'
        have hok := ok_cases x hno
        clear hno
        by_cases hE : x.e = 0
        · have hok1 : okK x = true := by rw [hok, decide_eq_true hE]; rfl
          have hE1 : (x.e != 0) = false := by simp [hE]
          clear hok hE
          rcases Nat.eq_zero_or_pos k with hk0 | hkp
          · have hz : (l.take k).getLast? = none := by rw [hk0]; rfl
            rw [hz] at hst
            have hk1 : ¬ (0 : Int) < (k : Int) := by omega
            have hk2 : ¬ 0 < k := by omega
            have hk3 : (k : Int) ≤ 0 := by omega
            clear hk0 hz
            have HS := Lib.hid (show mayK (l.take (k + 1)) = true by rw [hst]; rw [hok1]; rfl)
            clear hst hat hx
            go_wp2_with fail
            go_quiet (fail)
            go_wp2_with fail
            go_roundw
            case rel => exact ⟨k + 1, _, by go_num, by omega, Lib.hid HS.out, rfl⟩
            case measure => simp [intOf]; omega
          · obtain ⟨j, rfl⟩ : ∃ j, k = j + 1 := ⟨k - 1, by omega⟩
            obtain ⟨y, hy⟩ : ∃ y, l[j]? = some y := ⟨_, List.getElem?_eq_getElem (by omega)⟩
            obtain ⟨d0, d1, d2, d3⟩ := KK.cells hat hy
            rw [last_take hy] at hst
            clear hy
            cases hq : leS x.name y.name with
            | true =>
              have hl : ltS y.name x.name = false := by cases h9 : ltS y.name x.name with | false => rfl | true => rw [leS_not.2 h9] at hq; cases hq
              have he : (Op.bytesLess x.name.toList y.name.toList || x.name.toList == y.name.toList) = true := by rw [le_text]; exact hq
              have HS := Lib.hid (show mayK l = false from may_take (k := j + 1 + 1) (by rw [hst]; simp [hl]))
              clear hst hat hx
              go_wp2_with fail
              go_quiet (fail)
              go_wp2_with fail
              go_ret
              exact ⟨by rw [HS.out]; rfl, below_drewN (below_drewN (Below.refl _ _) _) _⟩
            | false =>
              have hl : ltS y.name x.name = true := leS_not.1 hq
              have he : (Op.bytesLess x.name.toList y.name.toList || x.name.toList == y.name.toList) = false := by rw [le_text]; exact hq
              have HS := Lib.hid (show mayK (l.take (j + 1 + 1)) = true by rw [hst]; rw [hok1]; simp [hl])
              clear hst hat hx
              go_wp2_with fail
              go_quiet (fail)
              go_wp2_with fail
              go_roundw
              case rel => exact ⟨j + 1 + 1, _, by go_num, by omega, Lib.hid HS.out, rfl⟩
              case measure => simp [intOf]; omega
        · have hE1 : (x.e != 0) = true := by simp [hE]
          by_cases hW : x.row = .empty
          · rw [decide_eq_true hW] at hR1 hR2
            have hok1 : okK x = true := by rw [hok, decide_eq_true hW]; simp
            clear hok hE hW
            rcases Nat.eq_zero_or_pos k with hk0 | hkp
            · have hz : (l.take k).getLast? = none := by rw [hk0]; rfl
              rw [hz] at hst
              have hk1 : ¬ (0 : Int) < (k : Int) := by omega
              have hk2 : ¬ 0 < k := by omega
              have hk3 : (k : Int) ≤ 0 := by omega
              clear hk0 hz
              have HS := Lib.hid (show mayK (l.take (k + 1)) = true by rw [hst]; rw [hok1]; rfl)
              clear hst hat hx
              go_wp2_with fail
              go_quiet (fail)
              go_wp2_with fail
              go_roundw
              case rel => exact ⟨k + 1, _, by go_num, by omega, Lib.hid HS.out, rfl⟩
              case measure => simp [intOf]; omega
            · obtain ⟨j, rfl⟩ : ∃ j, k = j + 1 := ⟨k - 1, by omega⟩
              obtain ⟨y, hy⟩ : ∃ y, l[j]? = some y := ⟨_, List.getElem?_eq_getElem (by omega)⟩
              obtain ⟨d0, d1, d2, d3⟩ := KK.cells hat hy
              rw [last_take hy] at hst
              clear hy
              cases hq : leS x.name y.name with
              | true =>
                have hl : ltS y.name x.name = false := by cases h9 : ltS y.name x.name with | false => rfl | true => rw [leS_not.2 h9] at hq; cases hq
                have he : (Op.bytesLess x.name.toList y.name.toList || x.name.toList == y.name.toList) = true := by rw [le_text]; exact hq
                have HS := Lib.hid (show mayK l = false from may_take (k := j + 1 + 1) (by rw [hst]; simp [hl]))
                clear hst hat hx
                go_wp2_with fail
                go_quiet (fail)
                go_wp2_with fail
                go_ret
                exact ⟨by rw [HS.out]; rfl, below_drewN (below_drewN (Below.refl _ _) _) _⟩
              | false =>
                have hl : ltS y.name x.name = true := leS_not.1 hq
                have he : (Op.bytesLess x.name.toList y.name.toList || x.name.toList == y.name.toList) = false := by rw [le_text]; exact hq
                have HS := Lib.hid (show mayK (l.take (j + 1 + 1)) = true by rw [hst]; rw [hok1]; simp [hl])
                clear hst hat hx
                go_wp2_with fail
                go_quiet (fail)
                go_wp2_with fail
                go_roundw
                case rel => exact ⟨j + 1 + 1, _, by go_num, by omega, Lib.hid HS.out, rfl⟩
                case measure => simp [intOf]; omega
          · rw [decide_eq_false hW] at hR1 hR2
            have hok1 : okK x = false := by rw [hok, decide_eq_false hW, decide_eq_false hE]; rfl
            clear hok hE hW
            have HS := Lib.hid (show mayK l = false from may_take (k := k + 1) (by rw [hst]; rw [hok1]; rfl))
            clear hst hat hx
            go_wp2_with fail
            go_quiet (fail)
            go_wp2_with fail
            go_ret
            exact ⟨by rw [HS.out]; rfl, below_drewN (below_drewN (Below.refl _ _) _) _⟩
    · obtain rfl : k = l.length := by omega
      have hN := HN.out
      rw [List.take_length] at hN
      go_wp2_with fail
      go_ret
      exact ⟨by rw [hN]; rfl, below_drewN (Below.refl _ _) _⟩
end Go.Proofs.Ytaealoodchkeaaa
