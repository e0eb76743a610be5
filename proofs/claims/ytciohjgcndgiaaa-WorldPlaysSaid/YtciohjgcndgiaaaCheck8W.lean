/- Sockets and a record that go together: the document's own answer, walked. -/
import Derived.Test.YtciohjgcndgiaaaCheck8
import Derived.Test.YtciohjgcndgiaaaSpecs
set_option linter.unusedSimpArgs false
set_option linter.unusedVariables false
namespace Go.Proofs.Ytciohjgcndgiaaa
open Go.RowKit Go.Proofs.Ytciohjgcndgiaaa.Kind

set_option maxHeartbeats 16000000 in
set_option maxRecDepth 1000000 in
theorem check8 (S : List Sk) (M : List Nk) (a b : Option Addr) (c d : Nat) (w : World) (hg : goesB S M = true) (hS : S.length ≤ 400) (hM : M.length ≤ 800) (hA : SK.RowC w a c S) (hB : NK.RowC w b d M) :
    Calls Try.prog 17 #[.slice a S.length c, .slice b M.length d] w (RetI w 0) := by
  obtain ⟨⟨pl, hrun⟩, hcnt⟩ := goesB_iff.1 hg
  have HRun := Lib.hid hrun
  have HCnt := Lib.hid hcnt
  have HA := Lib.hid hA
  have HB := Lib.hid hB
  clear hg hrun hcnt hA hB
  have hmk := run_made_i w S.length (by omega)
  go_enter Try.func17, Try.ntmps17
  go_wp2_with fail
  have hl := laid1 w (.cells (arrI (List.replicate S.length 0)) 3)
  have hb := below1 w (.cells (arrI (List.replicate S.length 0)) 3)
  obtain ⟨w1, hw1⟩ : ∃ w1, w1 = w.alloc (.cells (arrI (List.replicate S.length 0)) 3) := ⟨_, rfl⟩
  rw [← hw1] at hl hb ⊢
  rw [← shutT_nil] at hl
  have HL0 := Lib.hid hl
  have HB0 := Lib.hid hb
  clear hw1 hl hb hmk
  go_loopw [5, 7] (fun u5 u7 wr => ∃ (k o : Nat), u5 = .int .i64 o ∧ u7 = .int .i64 k ∧ k ≤ M.length ∧ o ≤ S.length ∧ Hid (runG (opsOf S) (M.take k) (0, none) = some (o, lastAt M k)) ∧ Hid (wr.heap[w.heap.size]? = some (.cells (arrI (shutT S.length (M.take k))) 3 (0, 0))) ∧ Hid (Below w.heap.size w wr)) (fun _ u _ => M.length - (intOf u).toNat)
  case atStart => exact ⟨0, 0, rfl, rfl, by omega, by omega, Lib.hid (by simp [runG, lastAt]), by rw [List.take_zero]; exact HL0, HB0⟩
  case round =>
    obtain ⟨k, o, rfl, rfl, hk, ho, HR, HL, HBr⟩ := hrel
    by_cases hlt : k < M.length
    · have hki : (k : Int) < (M.length : Int) := by omega
      have hkw : IntKind.i64.wrap ((k : Int) + 1) = (k : Int) + 1 := by rw [IntKind.wrap_i64]; omega
      have how : IntKind.i64.wrap ((o : Int) + 1) = (o : Int) + 1 := by rw [IntKind.wrap_i64]; omega
      obtain ⟨m, hm⟩ : ∃ m, M[k]? = some m := ⟨_, List.getElem?_eq_getElem hlt⟩
      obtain ⟨h1, h2, h3⟩ := runG_step HRun.out HR.out hm
      have HS1 := Lib.hid h1
      have HS2 := Lib.hid h2
      have HS3 := Lib.hid h3
      have HTk := Lib.hid (show M.take (k + 1) = M.take k ++ [m] by rw [List.take_add_one, hm]; rfl)
      obtain ⟨gb, ob, rfl, hgb, hatb⟩ := (HB.out.below HBr.out).2.2.2 (by omega)
      obtain ⟨c0, c1, c2⟩ := NK.cells hatb hm
      have HAT := Lib.hid hatb
      clear h1 h2 h3 hatb hm
      rcases (show k = 0 ∨ 0 < k by omega) with hk0 | hk0
      · subst hk0
        have hz : decide ((0 : Int) < 0) = false := by decide
        go_wp2_with fail
        go_quiet (fail)
        clear hz
        simp only [Nat.zero_mul, Nat.add_zero] at c0 c1 c2
        first | (obtain ⟨W, hW⟩ : ∃ X, X = wr.drewN nq := ⟨_, rfl⟩) | (obtain ⟨W, hW⟩ : ∃ X, X = wr := ⟨_, rfl⟩)
        have hbW : Below wr.heap.size wr W := by rw [hW]; first | exact below_drewN (Below.refl _ _) _ | exact Below.refl _ _
        rw [← hW]
        clear hW
        have HLW := Lib.hid ((hbW.block _ (lt_of_block HL.out)).trans HL.out)
        have HBW := Lib.hid (HBr.out.trans (hbW.mono HBr.out.size))
        have c0 := (hbW.cell (p := ⟨gb, _, none⟩) hgb).trans c0
        have c1 := (hbW.cell (p := ⟨gb, _, none⟩) hgb).trans c1
        have c2 := (hbW.cell (p := ⟨gb, _, none⟩) hgb).trans c2
        cases hsh : m.shut with
        | false =>
          rw [hsh] at c0
          obtain ⟨s1, s2, s3⟩ := HS3.out hsh
          obtain ⟨x, hx, hxo⟩ : ∃ x, S[o]? = some x ∧ x.opened = m.at_ := by
            unfold opsOf at s2
            rw [List.getElem?_map] at s2
            cases hx : S[o]? with
            | none => rw [hx] at s2; cases s2
            | some x => rw [hx] at s2; exact ⟨x, rfl, by simpa using s2⟩
          have hoi := (List.getElem?_eq_some_iff.1 hx).1
          have hoi2 : (o : Int) < (S.length : Int) := by omega
          have hoi3 : ¬ (S.length : Int) ≤ (o : Int) := by omega
          obtain ⟨ga, oa, rfl, hga, hata⟩ := (HA.out.below HBW.out).2.2.2 (by omega)
          have y := SK.cells hata hx
          rw [hxo] at y
          obtain ⟨_, _, _, _, _, _, _, _, _, _, _, y11, _, _⟩ := y
          have HR2 := Lib.hid s3
          have HL2 := Lib.hid (show W.heap[w.heap.size]? = some (.cells (arrI (shutT S.length (M.take (0 + 1)))) 3 (0, 0)) by rw [HTk.out, shutT_open hsh]; exact HLW.out)
          rw [s1] at c1
          clear hsh s1 s2 s3 hx hxo hata
          go_wp2_with fail
          go_quiet (fail)
          first | (obtain ⟨W2, hW2⟩ : ∃ X, X = W.drewN nq := ⟨_, rfl⟩) | (obtain ⟨W2, hW2⟩ : ∃ X, X = W := ⟨_, rfl⟩)
          have hbW2 : Below W.heap.size W W2 := by rw [hW2]; first | exact below_drewN (Below.refl _ _) _ | exact Below.refl _ _
          rw [← hW2]
          clear hW2 c0 c1 c2 y11
          have HL3 := Lib.hid ((hbW2.block _ (lt_of_block HL2.out)).trans HL2.out)
          have HB3 := Lib.hid (HBW.out.trans (hbW2.mono HBW.out.size))
          go_wp2_with fail
          go_roundw
          case rel => exact ⟨0 + 1, o + 1, by go_num, by go_num, by omega, by omega, HR2, HL3, HB3⟩
          case measure => simp [intOf]; omega
        | true =>
          rw [hsh] at c0
          obtain ⟨s1, s2, s3⟩ := HS2.out hsh
          obtain ⟨s, hs⟩ : ∃ s : Nat, m.sock = s := ⟨m.sock.toNat, by omega⟩
          rw [hs] at s1 s2 c1
          have hsn : s < S.length := by omega
          obtain ⟨z0, z1⟩ := arrI_at HLW.out (shutT_at (M := M.take 0) hsn)
          have hso : ¬ (s : Int) < 0 := by omega
          have hso2 : ¬ (o : Int) ≤ (s : Int) := by omega
          have hsl : (s : Int) < (S.length : Int) := by omega
          have hcl : shutsOf (M.take 0) s ≤ 800 := by
            have : shutsOf (M.take 0) s ≤ (M.take 0).length := List.countP_le_length
            have h2 : (M.take 0).length ≤ 800 := by rw [List.length_take]; omega
            omega
          have hT : shutT S.length (M.take (0 + 1)) = (shutT S.length (M.take 0)).set s ((shutsOf (M.take 0) s : Int) + 1) := by rw [HTk.out, shutT_shut hsh (by omega), hs]; simp
          have hset := set_at HLW.out s (.int .i64 ((shutsOf (M.take 0) s : Int) + 1))
          rw [arrI_set, ← hT] at hset
          have hbset := HBW.out.setCell (p := ⟨w.heap.size, s, none⟩) (Nat.le_refl _) (.int .i64 ((shutsOf (M.take 0) s : Int) + 1))
          have hcw : IntKind.i64.wrap ((shutsOf (M.take 0) s : Int) + 1) = (shutsOf (M.take 0) s : Int) + 1 := by rw [IntKind.wrap_i64]; omega
          have HR2 := Lib.hid s3
          have HL3 := Lib.hid hset
          have HB3 := Lib.hid hbset
          generalize hcs : shutsOf (M.take 0) s = sk at *
          clear hsh s1 s2 s3 hT hset hbset hcs
          go_wp2_with fail
          go_roundw
          case rel => exact ⟨0 + 1, o, rfl, by go_num, by omega, by omega, HR2, HL3, HB3⟩
          case measure => simp [intOf]; omega
      · obtain ⟨j, rfl⟩ : ∃ j, k = j + 1 := ⟨k - 1, by omega⟩
        obtain ⟨m0, hm0⟩ : ∃ m, M[j]? = some m := ⟨_, List.getElem?_eq_getElem (by omega)⟩
        obtain ⟨e0, e1, e2⟩ := NK.cells HAT.out hm0
        have hle : ¬ m.at_ < m0.at_ := HS1.out _ (by simp [lastAt, hm0])
        have hz : decide ((0 : Int) < ((j + 1 : Nat) : Int)) = true := by simp <;> omega
        have hjw : IntKind.i64.wrap (((j + 1 : Nat) : Int) - 1) = (j : Int) := by rw [IntKind.wrap_i64]; omega
        have hji : (j : Int) < (M.length : Int) := by omega
        clear hm0
        go_wp2_with fail
        go_quiet (fail)
        clear hz hjw hji e0 e1 e2
        have hj1 : (j : Int) + 1 < (M.length : Int) := by omega
        have hj2 : (0 : Int) ≤ (j : Int) + 1 := by omega
        have hj3 : ((j : Int) + 1).toNat = j + 1 := by omega
        first | (obtain ⟨W, hW⟩ : ∃ X, X = wr.drewN nq := ⟨_, rfl⟩) | (obtain ⟨W, hW⟩ : ∃ X, X = wr := ⟨_, rfl⟩)
        have hbW : Below wr.heap.size wr W := by rw [hW]; first | exact below_drewN (Below.refl _ _) _ | exact Below.refl _ _
        rw [← hW]
        clear hW
        have HLW := Lib.hid ((hbW.block _ (lt_of_block HL.out)).trans HL.out)
        have HBW := Lib.hid (HBr.out.trans (hbW.mono HBr.out.size))
        have c0 := (hbW.cell (p := ⟨gb, _, none⟩) hgb).trans c0
        have c1 := (hbW.cell (p := ⟨gb, _, none⟩) hgb).trans c1
        have c2 := (hbW.cell (p := ⟨gb, _, none⟩) hgb).trans c2
        cases hsh : m.shut with
        | false =>
          rw [hsh] at c0
          obtain ⟨s1, s2, s3⟩ := HS3.out hsh
          obtain ⟨x, hx, hxo⟩ : ∃ x, S[o]? = some x ∧ x.opened = m.at_ := by
            unfold opsOf at s2
            rw [List.getElem?_map] at s2
            cases hx : S[o]? with
            | none => rw [hx] at s2; cases s2
            | some x => rw [hx] at s2; exact ⟨x, rfl, by simpa using s2⟩
          have hoi := (List.getElem?_eq_some_iff.1 hx).1
          have hoi2 : (o : Int) < (S.length : Int) := by omega
          have hoi3 : ¬ (S.length : Int) ≤ (o : Int) := by omega
          obtain ⟨ga, oa, rfl, hga, hata⟩ := (HA.out.below HBW.out).2.2.2 (by omega)
          have y := SK.cells hata hx
          rw [hxo] at y
          obtain ⟨_, _, _, _, _, _, _, _, _, _, _, y11, _, _⟩ := y
          have HR2 := Lib.hid s3
          have HL2 := Lib.hid (show W.heap[w.heap.size]? = some (.cells (arrI (shutT S.length (M.take ((j + 1) + 1)))) 3 (0, 0)) by rw [HTk.out, shutT_open hsh]; exact HLW.out)
          rw [s1] at c1
          clear hsh s1 s2 s3 hx hxo hata
          go_wp2_with fail
          go_quiet (fail)
          first | (obtain ⟨W2, hW2⟩ : ∃ X, X = W.drewN nq := ⟨_, rfl⟩) | (obtain ⟨W2, hW2⟩ : ∃ X, X = W := ⟨_, rfl⟩)
          have hbW2 : Below W.heap.size W W2 := by rw [hW2]; first | exact below_drewN (Below.refl _ _) _ | exact Below.refl _ _
          rw [← hW2]
          clear hW2 c0 c1 c2 y11
          have HL3 := Lib.hid ((hbW2.block _ (lt_of_block HL2.out)).trans HL2.out)
          have HB3 := Lib.hid (HBW.out.trans (hbW2.mono HBW.out.size))
          go_wp2_with fail
          go_roundw
          case rel => exact ⟨(j + 1) + 1, o + 1, by go_num, by go_num, by omega, by omega, HR2, HL3, HB3⟩
          case measure => simp [intOf]; omega
        | true =>
          rw [hsh] at c0
          obtain ⟨s1, s2, s3⟩ := HS2.out hsh
          obtain ⟨s, hs⟩ : ∃ s : Nat, m.sock = s := ⟨m.sock.toNat, by omega⟩
          rw [hs] at s1 s2 c1
          have hsn : s < S.length := by omega
          obtain ⟨z0, z1⟩ := arrI_at HLW.out (shutT_at (M := M.take (j + 1)) hsn)
          have hso : ¬ (s : Int) < 0 := by omega
          have hso2 : ¬ (o : Int) ≤ (s : Int) := by omega
          have hsl : (s : Int) < (S.length : Int) := by omega
          have hcl : shutsOf (M.take (j + 1)) s ≤ 800 := by
            have : shutsOf (M.take (j + 1)) s ≤ (M.take (j + 1)).length := List.countP_le_length
            have h2 : (M.take (j + 1)).length ≤ 800 := by rw [List.length_take]; omega
            omega
          have hT : shutT S.length (M.take ((j + 1) + 1)) = (shutT S.length (M.take (j + 1))).set s ((shutsOf (M.take (j + 1)) s : Int) + 1) := by rw [HTk.out, shutT_shut hsh (by omega), hs]; simp
          have hset := set_at HLW.out s (.int .i64 ((shutsOf (M.take (j + 1)) s : Int) + 1))
          rw [arrI_set, ← hT] at hset
          have hbset := HBW.out.setCell (p := ⟨w.heap.size, s, none⟩) (Nat.le_refl _) (.int .i64 ((shutsOf (M.take (j + 1)) s : Int) + 1))
          have hcw : IntKind.i64.wrap ((shutsOf (M.take (j + 1)) s : Int) + 1) = (shutsOf (M.take (j + 1)) s : Int) + 1 := by rw [IntKind.wrap_i64]; omega
          have HR2 := Lib.hid s3
          have HL3 := Lib.hid hset
          have HB3 := Lib.hid hbset
          generalize hcs : shutsOf (M.take (j + 1)) s = sk at *
          clear hsh s1 s2 s3 hT hset hbset hcs
          go_wp2_with fail
          go_roundw
          case rel => exact ⟨(j + 1) + 1, o, rfl, by go_num, by omega, by omega, HR2, HL3, HB3⟩
          case measure => simp [intOf]; omega
    · obtain rfl : k = M.length := by omega
      have hoS : o = S.length := by
        have h1 := HR.out
        rw [List.take_length, HRun.out] at h1
        simp at h1
        omega
      subst hoS
      have HLF := Lib.hid (show wr.heap[w.heap.size]? = some (.cells (arrI (shutT S.length M)) 3 (0, 0)) by have := HL.out; rwa [List.take_length] at this)
      go_wp2_with fail
      go_loopw [8] (fun u8 wy => ∃ k q : Nat, u8 = .int .i64 k ∧ k ≤ S.length ∧ wy = wr.drewN q) (fun u _ => S.length - (intOf u).toNat)
      case atStart => exact ⟨0, 0, rfl, by omega, rfl⟩
      case round =>
        obtain ⟨k, q, rfl, hk, rfl⟩ := hrel
        by_cases hlt : k < S.length
        · have hki : (k : Int) < (S.length : Int) := by omega
          have hkw : IntKind.i64.wrap ((k : Int) + 1) = (k : Int) + 1 := by rw [IntKind.wrap_i64]; omega
          obtain ⟨x, hx⟩ : ∃ x, S[k]? = some x := ⟨_, List.getElem?_eq_getElem hlt⟩
          have hsh := HCnt.out k x hx
          obtain ⟨ga, oa, rfl, hga, hata⟩ := (HA.out.below HBr.out).2.2.2 (by omega)
          have y := SK.cells hata hx
          rw [hsh] at y
          obtain ⟨_, _, _, _, _, _, _, _, _, _, _, _, y12, _⟩ := y
          have z0 := (arrI_at HLF.out (shutT_at (M := M) hlt)).1
          generalize shutsOf M k = sk at *
          clear hsh hx hata hga
          go_wp2_with fail
          go_quiet (fail)
          go_wp2_with fail
          go_roundw
          case rel => exact ⟨k + 1, _, by go_num, by omega, rfl⟩
          case measure => simp [intOf]; omega
        · obtain rfl : k = S.length := by omega
          go_wp2_with fail
          go_ret
          exact ⟨rfl, below_drewN HBr.out q⟩
end Go.Proofs.Ytciohjgcndgiaaa
