/- A name's parts: the program's and the document's. -/
import Derived.Test.YtpeohgmceadmeaaCount
import Derived.Test.YtpeohgmceadmeaaPieces
namespace Go.Proofs.Ytpeohgmceadmeaa
open Go.RowKit

theorem Try.info9 : (Try.prog.info? 9).map (fun i => (i.zero, i.size, i.bytes)) = some (some (.string ByteArray.empty), 1, 16) := by kernel_rfl
theorem ownsRow_lower {w : World} {base base' : Nat} {e : TypeId} {size : Nat} {v : Value} {n : Nat} {xs : List Value} (h : w.ownsRow base e size v n xs) (hb : base' ≤ base) : w.ownsRow base' e size v n xs := by
  refine ⟨h.1, ?_⟩
  rcases h.2 with h2 | ⟨g, cap, cur, a, b, c⟩
  · exact .inl h2
  · exact .inr ⟨g, cap, cur, a, by omega, c⟩
theorem own_ne {w : World} {base : Nat} {e : TypeId} {size : Nat} {v : Value} {n : Nat} {xs : List Value} (h : w.ownsRow base e size v n xs) {k : Nat} (hk : k < base) : some k ≠ v.ownBlock := by
  intro e
  have := (h.lt k e.symm).1
  omega
theorem seg_str (s : ByteArray) (a b : Nat) : Value.string (s.extract a b) = Value.string ⟨((s.data.toList.drop a).take (b - a)).toArray⟩ := by rw [Lib.extract_eq]

set_option maxHeartbeats 4000000 in
set_option maxRecDepth 1000000 in
theorem rparts_any (s : ByteArray) (w : World) (hs : s.size ≤ 4000) :
    Calls Try.prog 17 #[.string s] w fun e w' =>
      ∃ v, e = .returned v ∧ w'.ownsRow w.heap.size 9 1 v (P.parts s.data.toList).length (P.strs (P.parts s.data.toList)) ∧ Below w.heap.size w w' := by
  obtain ⟨i0, hi, hz0, hz1, hz2⟩ := info_parts Try.info9
  have hlen : s.data.toList.length = s.size := by simp
  have HL := Lib.hid hlen
  clear hlen
  cases hn : P.name s.data.toList
  · have HP := Lib.hid (show P.parts s.data.toList = [] by rw [P.parts, hn]; rfl)
    have HN := Lib.hid hn
    clear hn
    go_enter Try.func17, Try.ntmps17
    go_wp2_with fail
    refine (rvalid_any s _ hs).mono ?_
    rw [HN.out]
    rintro e w1 ⟨rfl, rfl⟩
    go_wp2_with fail
    go_ret
    refine ⟨_, rfl, ?_, Below.refl _ _⟩
    rw [HP.out]
    exact World.ownsRow_nil _ _ _ _
  · have HP := Lib.hid (show P.parts s.data.toList = P.splitDot s.data.toList by rw [P.parts, hn]; rfl)
    have HN := Lib.hid hn
    have HSL := P.split_length s.data.toList
    rw [HL.out] at HSL
    clear hn
    go_enter Try.func17, Try.ntmps17
    go_wp2_with fail
    refine (rvalid_any s _ hs).mono ?_
    rw [HN.out]
    rintro e w1 ⟨rfl, rfl⟩
    go_wp2_with fail
    go_loopw [3, 4, 5] (fun v f i wr => ∃ (a pos : Nat) (acc : List (List UInt8)), pos ≤ s.size ∧ a ≤ pos ∧ acc.length ≤ pos ∧ i = .int .i64 pos ∧ f = .int .i64 a ∧ wr.ownsRow w.heap.size 9 1 v acc.length (P.strs acc) ∧ Below w.heap.size w wr ∧ Hid (acc ++ P.joinHead ((s.data.toList.drop a).take (pos - a)) (P.splitDot (s.data.toList.drop pos)) = P.splitDot s.data.toList)) (fun _ _ i _ => s.size - (intOf i).toNat)
    case atStart => exact ⟨0, 0, [], by omega, by omega, by simp, rfl, rfl, World.ownsRow_nil _ _ _ _, Below.refl _ _, Lib.hid (by simp [P.joinHead_nil _ (P.splitDot_ne _)])⟩
    case round =>
      obtain ⟨a, pos, acc, hp', hap, hal, rfl, rfl, hown, hbw, hacc⟩ := hrel
      have hbs := hbw.size
      by_cases hp : pos < s.size
      · have hdr := drop_at s pos hp
        by_cases hd : s[pos] = 46
        · have hdb : ((s[pos].toNat : Int) == 46) = true := by rw [hd]; rfl
          have HD := Lib.hid (P.parts_dot s.data.toList acc a pos (by rw [hdr, hd]) hacc.out)
          clear hd hdr hacc
          go_wp2_with (at_builtin; refine wpList_append_own _ rfl _ _ 31 rfl w.heap.size 9 i0 (.string ByteArray.empty) 1 16 Try.underlying31 hi hz0 hz1 hz2 rfl (by decide) _ _ _ rfl (hown.alloc _) ⟨wr.heap.size, 0, none⟩ 1 1 _ rfl rfl (cell_one_new _ _ _) (by intro u hu; simp at hu; subst hu; rfl) (by unfold maxLen; omega) (by omega) (by simp; omega) ?_; intro v' w' hown' hgrow' _)
          go_roundw
          case rel =>
            refine ⟨pos + 1, pos + 1, acc ++ [(s.data.toList.drop a).take (pos - a)], by omega, by omega, by simp; omega, by go_num, by go_num, ?_, (hbw.alloc hbw.size _).grown hgrow' (by simp; omega) (fun k hk => (hown.lt k hk).1), Lib.hid HD.out⟩
            rw [P.strs_append, List.length_append]
            rw [seg_str] at hown'
            exact hown'
          case measure => simp [intOf]; omega
        · have hdb : ((s[pos].toNat : Int) == 46) = false := by
            rw [beq_eq_false_iff_ne]
            intro h
            exact hd (UInt8.toNat_inj.1 (by show s[pos].toNat = 46; omega))
          have HD := Lib.hid (P.parts_plain s.data.toList acc a pos 1 hap (by rw [hdr]; simpa using hd) hacc.out)
          clear hd hdr hacc
          go_wp2_with fail
          go_roundw
          case rel => exact ⟨a, pos + 1, acc, by omega, by omega, by omega, by go_num, rfl, hown, hbw, HD⟩
          case measure => simp [intOf]; omega
      · obtain rfl : pos = s.size := by omega
        have HE := Lib.hid (P.parts_end s.data.toList acc a (by rw [HL.out]; exact hacc.out))
        have ha4 : (acc ++ [s.data.toList.drop a]).length ≤ 4001 := by rw [HE.out]; omega
        clear hacc
        go_wp2_with (at_builtin; refine wpList_append_own _ rfl _ _ 31 rfl w.heap.size 9 i0 (.string ByteArray.empty) 1 16 Try.underlying31 hi hz0 hz1 hz2 rfl (by decide) _ _ _ rfl (hown.alloc _) ⟨wr.heap.size, 0, none⟩ 1 1 _ rfl rfl (cell_one_new _ _ _) (by intro u hu; simp at hu; subst hu; rfl) (by unfold maxLen; omega) (by omega) (by simp; omega) ?_; intro v' w' hown' hgrow' _)
        go_ret
        refine ⟨_, rfl, ?_, (hbw.alloc hbw.size _).grown hgrow' (by simp; omega) (fun k hk => (hown.lt k hk).1)⟩
        rw [HP.out, ← HE.out, P.strs_append, List.length_append]
        rw [seg_str, List.take_of_length_le (by simp)] at hown'
        exact hown'
theorem take_plain (s : ByteArray) (pos r n : Nat) (hr : r ≠ 46) (hn : n ≠ 0) (hr' : r ≤ 591) (ho : P.one (s.data.toList.drop pos) = (r, n)) : ∀ b ∈ (s.data.toList.drop pos).take n, b ≠ 46 := by
  obtain ⟨h1, h2⟩ := one_enc _ r n ho hn hr'
  rw [h1]
  rcases h2 with ⟨_, h3⟩ | ⟨_, h3⟩
  · rw [enc_bytes _ (by omega) (by omega)]
    intro b hb h
    subst h
    have h4 : (46 : UInt8).toNat = r := by simpa using congrArg UInt8.toNat (List.mem_singleton.1 hb) |>.trans (by simp; omega)
    simp at h4; omega
  · rw [enc_bytes2 _ (by omega) (by omega)]
    intro b hb h
    subst h
    simp only [List.mem_cons, List.not_mem_nil, or_false] at hb
    rcases hb with hb | hb
    · have h4 := congrArg UInt8.toNat hb
      simp at h4; omega
    · have h4 := congrArg UInt8.toNat hb
      simp at h4; omega
theorem dot_one (s : ByteArray) (pos n : Nat) (hp : pos < s.size) (hn : n ≠ 0) (ho : P.one (s.data.toList.drop pos) = (46, n)) : n = 1 ∧ s.data.toList.drop pos = 46 :: s.data.toList.drop (pos + 1) := by
  obtain ⟨h1, h2⟩ := one_enc _ 46 n ho hn (by omega)
  have hn1 : n = 1 := by omega
  subst hn1
  refine ⟨rfl, ?_⟩
  rw [drop_at s pos hp] at h1 ⊢
  have h3 : [s[pos]] = Lib.encodeRune ((46 : Nat) : Int) := by simpa using h1
  have h4 : s[pos] = 46 := by
    have : Lib.encodeRune ((46 : Nat) : Int) = [46] := by decide
    rw [this] at h3
    simpa using h3
  rw [h4]

set_option maxHeartbeats 4000000 in
set_option maxRecDepth 1000000 in
theorem parts_any (s : ByteArray) (w : World) (hs : s.size ≤ 4000) :
    Calls Try.prog 16 #[.string s] w fun e w' =>
      ∃ v, e = .returned v ∧ w'.ownsRow w.heap.size 9 1 v (P.parts s.data.toList).length (P.strs (P.parts s.data.toList)) ∧ Below w.heap.size w w' := by
  obtain ⟨i0, hi, hz0, hz1, hz2⟩ := info_parts Try.info9
  have hlen : s.data.toList.length = s.size := by simp
  have HL := Lib.hid hlen
  clear hlen
  cases hn : P.name s.data.toList
  · have HP := Lib.hid (show P.parts s.data.toList = [] by rw [P.parts, hn]; rfl)
    have HN := Lib.hid hn
    clear hn
    go_enter Try.func16, Try.ntmps16
    go_wp2_with fail
    refine (valid_one s w.heap.size _ hs (by simp) (by simp [go_sem])).mono ?_
    rw [HN.out]
    rintro e w1 ⟨rfl, hb1⟩
    go_wp2_with fail
    go_ret
    refine ⟨_, rfl, ?_, ((Below.refl _ w).alloc (Nat.le_refl _) _).trans (hb1.mono (by simp))⟩
    rw [HP.out]
    exact World.ownsRow_nil _ _ _ _
  · have HP := Lib.hid (show P.parts s.data.toList = P.splitDot s.data.toList by rw [P.parts, hn]; rfl)
    have HN := Lib.hid hn
    have HV := Lib.hid (name_valid _ hn)
    have HSL := P.split_length s.data.toList
    rw [HL.out] at HSL
    clear hn
    go_enter Try.func16, Try.ntmps16
    go_wp2_with fail
    refine (valid_one s w.heap.size _ hs (by simp) (by simp [go_sem])).mono ?_
    rw [HN.out]
    rintro e w1 ⟨rfl, hb1⟩
    have hb1 : Below w.heap.size w w1 := ((Below.refl _ w).alloc (Nat.le_refl _) _).trans (hb1.mono (by simp))
    have hw1 := hb1.size
    go_wp2_with fail
    go_loopg [3, 4] s.size (fun g v f wr => ∃ (a pos : Nat) (b : Int) (acc : List (List UInt8)), pos + g = s.size ∧ a ≤ pos ∧ acc.length ≤ pos ∧ f = .int .i64 a ∧ wr.heap[w1.heap.size]? = some (.stringIter s pos) ∧ wr.ownsRow (w1.heap.size + 1) 9 1 v acc.length (P.strs acc) ∧ Below w1.heap.size w1 wr ∧ Hid (acc ++ P.joinHead ((s.data.toList.drop a).take (pos - a)) (P.splitDot (s.data.toList.drop pos)) = P.splitDot s.data.toList) ∧ Hid (P.validR b (P.runesOf (s.data.toList.drop pos)) = true))
    case atStart => exact ⟨0, 0, 46, [], by omega, by omega, by simp, rfl, World.iter_heap w1 s 0, World.ownsRow_nil _ _ _ _, (Below.refl _ w1).alloc (Nat.le_refl _) _, Lib.hid (by simp [P.joinHead_nil _ (P.splitDot_ne _)]), Lib.hid HV.out.2⟩
    case round =>
      obtain ⟨a, pos, b, acc, hpg, hap, hal, rfl, hit, hown, hbw, hacc, hvr⟩ := hrel
      have hbs := hbw.size
      have hsz : w1.heap.size < wr.heap.size := (Array.getElem?_eq_some_iff.1 hit).1
      by_cases hp : pos < s.size
      · obtain ⟨r, n, ho⟩ : ∃ r n, P.one (s.data.toList.drop pos) = (r, n) := ⟨_, _, rfl⟩
        obtain ⟨hr1, hr2, hr3⟩ := one_room s pos r n hp ho
        obtain ⟨hn0, hf, hvr2⟩ := valid_on s pos r n b hp ho hvr.out
        have hr4 := (fol_bound b r hf).1
        have hnx : ∀ ty, (Instr.next (.pointer (some ⟨w1.heap.size, 0, none⟩)) true ty).run Try.prog wr = _ := fun ty => Lib.run_next_any_at wr w1.heap.size s pos ty hit hp
        rw [decode_at s pos hp r n ho, if_neg hn0] at hnx
        have hit2 := Lib.iterAt_heap wr w1.heap.size s pos (pos + n) hit
        have hbw2 := Lib.below_iterAt hbw (k := w1.heap.size) (by omega) s (pos + n)
        have hown2 := ownsRow_iterAt hown (Nat.lt_succ_self w1.heap.size) s (pos + n)
        have hsz2 : (wr.iterAt w1.heap.size s (pos + n)).heap.size = wr.heap.size := Lib.iterAt_size _ _ _ _
        have HVR := Lib.hid hvr2
        have hn1 : 1 ≤ n := by omega
        by_cases hd : r = 46
        · subst hd
          obtain ⟨rfl, hdr⟩ := dot_one s pos n hp hn0 ho
          have HD := Lib.hid (P.parts_dot s.data.toList acc a pos hdr hacc.out)
          clear hdr hacc ho hf hvr2 hvr hn0
          generalize hW : wr.iterAt w1.heap.size s (pos + 1) = W at hnx hit2 hbw2 hown2 hsz2
          have HW := Lib.hid hW
          clear hW hit hown hbw
          have hWs : w1.heap.size < W.heap.size := by omega
          clear hsz2
          go_wp2_with (at_builtin; refine wpList_append_own _ rfl _ _ 31 rfl (w1.heap.size + 1) 9 i0 (.string ByteArray.empty) 1 16 Try.underlying31 hi hz0 hz1 hz2 rfl (by decide) _ _ _ rfl (hown2.alloc _) ⟨W.heap.size, 0, none⟩ 1 1 _ rfl rfl (cell_one_new _ _ _) (by intro u hu; simp at hu; subst hu; rfl) (by unfold maxLen; omega) (by omega) (by simp; omega) ?_; intro v' w' hown' hgrow' _)
          go_roundg (s.size - (pos + 1))
          case rel =>
            refine ⟨pos + 1, pos + 1, (46 : Nat), acc ++ [(s.data.toList.drop a).take (pos - a)], by omega, by omega, by simp; omega, by go_num, ?_, ?_, (hbw2.alloc hbw2.size _).grown hgrow' (by simp; omega) (fun k hk => by have := (hown2.lt k hk).1; omega), Lib.hid HD.out, HVR⟩
            · rw [hgrow'.block _ (by simp; omega) (own_ne hown2 (Nat.lt_succ_self _)), Below.heap_alloc _ _ _ hWs]; exact hit2
            · rw [P.strs_append, List.length_append]
              rw [seg_str] at hown'
              exact hown'
          case measure => omega
        · have hdb : ((r : Int) == 46) = false := by rw [beq_eq_false_iff_ne]; omega
          have HD := Lib.hid (P.parts_plain s.data.toList acc a pos n hap (take_plain s pos r n hd hn0 (by omega) ho) hacc.out)
          clear hd hacc ho hf hvr2 hvr hn0
          go_wp2_with fail
          go_roundg (s.size - (pos + n))
          case rel => exact ⟨a, pos + n, r, acc, by omega, by omega, by omega, rfl, hit2, hown2, hbw2, HD, HVR⟩
          case measure => omega
      · obtain rfl : pos = s.size := by omega
        have hnx : ∀ ty, (Instr.next (.pointer (some ⟨w1.heap.size, 0, none⟩)) true ty).run Try.prog wr = _ := fun ty => Lib.run_next_end_at wr w1.heap.size s s.size ty hit hp
        have HE := Lib.hid (P.parts_end s.data.toList acc a (by rw [HL.out]; exact hacc.out))
        clear hacc hvr
        go_wp2_with (at_builtin; refine wpList_append_own _ rfl _ _ 31 rfl (w1.heap.size + 1) 9 i0 (.string ByteArray.empty) 1 16 Try.underlying31 hi hz0 hz1 hz2 rfl (by decide) _ _ _ rfl (hown.alloc _) ⟨wr.heap.size, 0, none⟩ 1 1 _ rfl rfl (cell_one_new _ _ _) (by intro u hu; simp at hu; subst hu; rfl) (by unfold maxLen; omega) (by omega) (by simp; omega) ?_; intro v' w' hown' hgrow' _)
        go_ret
        refine ⟨_, rfl, ?_, hb1.trans (((hbw.alloc hbw.size _).grown hgrow' (by simp; omega) (fun k hk => by have := (hown.lt k hk).1; omega)).mono hw1)⟩
        rw [HP.out, ← HE.out, P.strs_append, List.length_append]
        rw [seg_str, List.take_of_length_le (by simp)] at hown'
        exact ownsRow_lower hown' (by omega)

/-- The document's look at two rows of texts, where they are one and the same. -/
theorem row_cell {w : World} {base : Nat} {e : TypeId} {v : Value} {n : Nat} {xs : List Value} (h : w.ownsRow base e 1 v n xs) (hn : 0 < n) : ∃ g cap, v = .slice (some ⟨g, 0, none⟩) n cap ∧ base ≤ g ∧ g < w.heap.size ∧ ∀ j, j < n → w.cell? ⟨g, j, none⟩ = xs[j]? := by
  rcases h.2 with ⟨_, h2⟩ | ⟨g, cap, cur, rfl, hb, hg, _⟩
  · omega
  · exact ⟨g, cap, rfl, hb, (Array.getElem?_eq_some_iff.1 hg).1, fun j hj => h.cellAt j (by omega)⟩
theorem row_form {w : World} {base : Nat} {e : TypeId} {v : Value} {n : Nat} {xs : List Value} (h : w.ownsRow base e 1 v n xs) : ∃ a cap, v = .slice a n cap := by
  rcases h.2 with ⟨rfl, rfl⟩ | ⟨g, cap, cur, rfl, _⟩
  · exact ⟨_, _, rfl⟩
  · exact ⟨_, _, rfl⟩

set_option maxHeartbeats 1600000 in
set_option maxRecDepth 100000 in
theorem sameTexts_none (a b : Option Addr) (c d : Nat) (w : World) :
    Calls Try.prog 15 #[.slice a 0 c, .slice b 0 d] w fun e w' => e = .returned (.bool true) ∧ ∃ k, w' = w.drewN k := by
  go_enter Try.func15, Try.ntmps15
  go_wp2
  go_loop [5] (fun i => i = .int .i64 0) (fun _ => 0)
  case atStart => rfl
  case round =>
    subst hrel
    go_wp2
    go_ret
    exact ⟨rfl, 0, rfl⟩

set_option maxHeartbeats 1600000 in
set_option maxRecDepth 100000 in
theorem sameTexts_some (ps : List (List UInt8)) (g g' : Nat) (c d : Nat) (w : World) (hl : ps.length ≤ 5000)
    (h1 : ∀ j, j < ps.length → w.cell? ⟨g, j, none⟩ = (P.strs ps)[j]?) (h2 : ∀ j, j < ps.length → w.cell? ⟨g', j, none⟩ = (P.strs ps)[j]?) :
    Calls Try.prog 15 #[.slice (some ⟨g, 0, none⟩) ps.length c, .slice (some ⟨g', 0, none⟩) ps.length d] w fun e w' => e = .returned (.bool true) ∧ ∃ k, w' = w.drewN k := by
  have H1 := Lib.hid h1
  have H2 := Lib.hid h2
  clear h1 h2
  go_enter Try.func15, Try.ntmps15
  go_wp2
  go_loopw [5] (fun i wr => ∃ k q : Nat, k ≤ ps.length ∧ i = .int .i64 k ∧ wr = w.drewN q) (fun i _ => ps.length - (intOf i).toNat)
  case atStart => exact ⟨0, 0, by omega, rfl, rfl⟩
  case round =>
    obtain ⟨k, q, hk, rfl, rfl⟩ := hrel
    by_cases hlt : k < ps.length
    · have hx : (P.strs ps)[k]? = some (.string ⟨(ps[k]).toArray⟩) := by simp [P.strs, hlt]
      have c1 := H1.out k hlt
      have c2 := H2.out k hlt
      rw [hx] at c1 c2
      clear hx
      generalize (⟨(ps[k]).toArray⟩ : ByteArray) = x at c1 c2
      go_wp2
      go_quiet (fail)
      go_wp2
      go_roundw
      case rel => exact ⟨k + 1, _, by omega, by go_num, rfl⟩
      case measure => simp [intOf]; omega
    · obtain rfl : k = ps.length := by omega
      go_wp2
      go_ret
      exact ⟨rfl, _, rfl⟩
end Go.Proofs.Ytpeohgmceadmeaa
