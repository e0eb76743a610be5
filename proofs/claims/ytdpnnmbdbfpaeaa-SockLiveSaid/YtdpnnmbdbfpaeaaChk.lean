/- How a check of a record stands, as plain data and in memory; its closure. -/
import Derived.Test.YtdpnnmbdbfpaeaaNumbers
import Derived.Test.YtdpnnmbdbfpaeaaOpens
set_option linter.unusedSimpArgs false
set_option linter.unusedVariables false
namespace Go.Proofs.Ytdpnnmbdbfpaeaa
open Go.RowKit Go.Proofs.Ytdpnnmbdbfpaeaa.Kind

theorem shuts_snoc (M : List Nk) (m : Nk) (i : Nat) : shutsOf (M ++ [m]) i = shutsOf M i + (if m.shut = true ∧ m.sock = (i : Int) then 1 else 0) := by
  unfold shutsOf
  rw [List.countP_append]
  congr 1
  by_cases h : m.shut = true ∧ m.sock = (i : Int)
  · rw [if_pos h]; simp [h.1, h.2]
  · rw [if_neg h, List.countP_cons]
    simp only [List.countP_nil, Nat.zero_add, Bool.and_eq_true, decide_eq_true_eq]
    rw [if_neg h]
/-- How often each was shut, in cells. -/
def arrS (n : Nat) (M : List Nk) : Array Value := ((List.range n).map (fun (j : Nat) => Value.int .i64 (shutsOf M j))).toArray
theorem arrS_nil (n : Nat) : arrS n [] = (List.replicate n (Value.int .i64 0)).toArray := by
  unfold arrS
  congr 1
  rw [List.eq_replicate_iff]
  refine ⟨by simp, fun b hb => ?_⟩
  obtain ⟨j, _, rfl⟩ := List.mem_map.1 hb
  rfl
theorem arrS_shut (n : Nat) (M : List Nk) (m : Nk) (j : Nat) (h1 : m.shut = true) (h2 : m.sock = (j : Int)) : (arrS n M).setIfInBounds j (.int .i64 ((shutsOf M j : Int) + 1)) = arrS n (M ++ [m]) := by
  apply Array.ext_getElem?
  intro i
  rw [Array.getElem?_setIfInBounds]
  unfold arrS
  simp only [List.getElem?_toArray, List.getElem?_map, List.size_toArray, List.length_map, List.length_range]
  by_cases hij : j = i
  · subst hij
    rw [if_pos rfl]
    by_cases hn : j < n
    · rw [if_pos hn, List.getElem?_range hn]
      simp [shuts_snoc, h1, h2]
    · rw [if_neg hn, List.getElem?_eq_none (by simp; omega)]
      rfl
  · rw [if_neg hij]
    by_cases hn : i < n
    · rw [List.getElem?_range hn]
      simp only [Option.map_some, shuts_snoc, h2]
      rw [if_neg (by omega)]
      rfl
    · rw [List.getElem?_eq_none (by simp; omega)]
      rfl
theorem arrS_open (n : Nat) (M : List Nk) (m : Nk) (h1 : m.shut = false) : arrS n (M ++ [m]) = arrS n M := by
  unfold arrS
  congr 2
  funext i
  rw [shuts_snoc, h1]
  simp
theorem take_snoc {M : List Nk} {k : Nat} {m : Nk} (h : M[k]? = some m) : M.take (k + 1) = M.take k ++ [m] := by
  rw [List.take_add_one, h]
  rfl
theorem run_snoc {ops : List Int} {M : List Nk} {k : Nat} {m : Nk} {st : Nat × Option Int} (hm : M[k]? = some m) (h : runG ops (M.take k) (0, none) = some st) : runG ops (M.take (k + 1)) (0, none) = stepG ops st m := by
  rw [take_snoc hm, runG_append, h]
  show (stepG ops st m).bind (runG ops []) = _
  cases stepG ops st m <;> rfl
theorem goes_dead {S : List Sk} {M : List Nk} {k : Nat} {m : Nk} {st : Nat × Option Int} (hm : M[k]? = some m) (h : runG (opsOf S) (M.take k) (0, none) = some st) (h2 : stepG (opsOf S) st m = none) : goesB S M = false := by
  have h3 := run_snoc hm h
  rw [h2] at h3
  have h4 : runG (opsOf S) M (0, none) = none := by
    rw [← List.take_append_drop (k + 1) M, runG_append, h3]
    rfl
  unfold goesB
  rw [h4]
  rfl
def fChk (M : List Nk) (k : Nat) (x : Sk) : Bool := x.shut != (shutsOf M k : Int)
theorem selN_nil {f : Nat → Sk → Bool} {S : List Sk} : selN f S S.length = [] ↔ ∀ (k : Nat) (x : Sk), S[k]? = some x → f k x = false := by
  unfold selN
  rw [List.filterMap_eq_nil_iff]
  constructor
  · intro h k x hx
    have := h k (List.mem_range.2 (List.getElem?_eq_some_iff.1 hx).1)
    rw [hx] at this
    dsimp only at this
    split at this
    · cases this
    · simpa using (by assumption : ¬ f k x = true)
  · intro h k hk
    cases hx : S[k]? with
    | none => rfl
    | some x =>
      dsimp only
      rw [if_neg (by rw [h k x hx]; decide)]
theorem goes_end {S : List Sk} {M : List Nk} {p : Nat} {lo : Option Int} (h : runG (opsOf S) M (0, none) = some (p, lo)) : goesB S M = true ↔ p = S.length ∧ selN (fChk M) S S.length = [] := by
  rw [goesB_iff, h, selN_nil]
  constructor
  · rintro ⟨⟨q, h1⟩, h2⟩
    injection h1 with h1
    injection h1 with h1 _
    exact ⟨h1, fun k x hx => by simp [fChk, h2 k x hx]⟩
  · rintro ⟨rfl, h2⟩
    exact ⟨⟨lo, rfl⟩, fun k x hx => by simpa [fChk] using h2 k x hx⟩
def lastOf (lo : Option Int) : Int := lo.getD (-9223372036854775808)
theorem step_early {ops : List Int} {p : Nat} {lo : Option Int} {m : Nk} (hl : -9223372036854775808 ≤ m.at_) (h : m.at_ < lastOf lo) : stepG ops (p, lo) m = none := by
  unfold stepG
  rw [if_pos]
  cases lo with
  | none => simp [lastOf] at h; omega
  | some q => exact ⟨q, rfl, h⟩
theorem step_late {ops : List Int} {p : Nat} {lo : Option Int} {m : Nk} (h : ¬ m.at_ < lastOf lo) : stepG ops (p, lo) m = if m.shut = true then (if 0 ≤ m.sock ∧ m.sock < (p : Int) then some (p, some m.at_) else none)
  else if m.sock = (p : Int) ∧ ops[p]? = some m.at_ then some (p + 1, some m.at_) else none := by
  unfold stepG
  rw [if_neg]
  rintro ⟨q, h1, h2⟩
  dsimp only at h1
  subst h1
  exact h h2

/-- The row of numbers that the check keeps, in a variable's block. -/
structure ChkIn (n : Nat) (w0 : World) (B SB : Nat) (M : List Nk) (wr : World) : Prop where
  box : wr.heap[B]? = some (.cells #[.slice (some ⟨SB, 0, none⟩) n n] 42 (0, 0))
  row : wr.heap[SB]? = some (.cells (arrS n M) 3 (0, 0))
  geB : w0.heap.size ≤ B
  geS : w0.heap.size ≤ SB
  ne : B ≠ SB
  below : Below w0.heap.size w0 wr
theorem ChkIn.on {n : Nat} {w0 : World} {B SB : Nat} {M : List Nk} {wr w' : World} (h : ChkIn n w0 B SB M wr) (hb : Below wr.heap.size wr w') : ChkIn n w0 B SB M w' :=
  ⟨(hb.block _ (lt_of_block h.box)).trans h.box, (hb.block _ (lt_of_block h.row)).trans h.row, h.geB, h.geS, h.ne, h.below.trans (hb.mono h.below.size)⟩
theorem arr_cell {n : Nat} {M : List Nk} {wr : World} {SB : Nat} {t : TypeId} (h : wr.heap[SB]? = some (.cells (arrS n M) t (0, 0))) {j : Nat} (hj : j < n) : wr.cell? ⟨SB, j, none⟩ = some (.int .i64 (shutsOf M j)) ∧ wr.frozen? ⟨SB, j, none⟩ = false := by
  have e : (arrS n M)[j]? = some (.int .i64 (shutsOf M j)) := by
    unfold arrS
    simp [hj]
  constructor
  · simp only [World.cell?, h]
    simpa using e
  · simp [World.frozen?, h]
theorem ChkIn.shutted {n : Nat} {w0 : World} {B SB : Nat} {M : List Nk} {wr : World} (h : ChkIn n w0 B SB M wr) (m : Nk) (j : Nat) (h1 : m.shut = true) (h2 : m.sock = (j : Int)) : ChkIn n w0 B SB (M ++ [m]) (wr.setCell ⟨SB, j, none⟩ (.int .i64 ((shutsOf M j : Int) + 1))) := by
  refine ⟨(Below.heap_setCell _ _ _ _ h.ne).trans h.box, ?_, h.geB, h.geS, h.ne, h.below.setCell (p := ⟨SB, j, none⟩) h.geS _⟩
  rw [← arrS_shut n M m j h1 h2]
  exact set_at h.row j _
theorem ChkIn.opened {n : Nat} {w0 : World} {B SB : Nat} {M : List Nk} {wr : World} (h : ChkIn n w0 B SB M wr) (m : Nk) (h1 : m.shut = false) : ChkIn n w0 B SB (M ++ [m]) wr :=
  ⟨h.box, by rw [arrS_open n M m h1]; exact h.row, h.geB, h.geS, h.ne, h.below⟩

theorem run_made_i (w : World) (n : Nat) (hn : n ≤ 1000) : (Instr.makeSlice 42 (.int .i64 n) (.int .i64 n)).run Try.prog w = .ok (.slice (some ⟨w.heap.size, 0, none⟩) n n) (w.alloc (.cells (arrS n []) 3)) := by
  obtain ⟨i0, hi, hz0, hz1, hz2⟩ := info_parts IK.hi
  have h := run_makeSlice (P := Try.prog) (w := w) 42 3 i0 IK.z IK.hu hi hz0 .i64 .i64 n n (by omega) (by omega) (by rw [hz1]; show (n : Int).toNat * 1 ≤ _; omega) (by rw [hz2]; show ((8 : Nat) : Int) * (n : Int) ≤ _; omega) (by omega)
  rw [hz1, Int.toNat_natCast] at h
  have e : madeCells IK.z.cells (n * IK.k) = arrS n [] := by
    rw [arrS_nil]
    show madeCells #[Value.int .i64 0] (n * 1) = _
    rw [Nat.mul_one]
    unfold madeCells
    apply Array.ext
    · simp
    · intro i h1 h2
      simp [Nat.mod_one]
  rw [e] at h
  exact h

set_option maxHeartbeats 4000000 in
set_option maxRecDepth 1000000 in
theorem chk_is (S : List Sk) (n : Nat) (hn : n = S.length) (M : List Nk) (B SB : Nat) (w0 w1 : World) (h : ChkIn n w0 B SB M w1) : Is_check S (fChk M) B w1 := by
  intro W' hb k x hx
  have hk := (List.getElem?_eq_some_iff.1 hx).1
  have h' := h.on hb
  have hq := below1 W' (.cells #[.int .i8 x.ad.f, .int .u16 x.ad.g0, .int .u16 x.ad.g1, .int .u16 x.ad.g2, .int .u16 x.ad.g3, .int .u16 x.ad.g4, .int .u16 x.ad.g5, .int .u16 x.ad.g6, .int .u16 x.ad.g7, .int .i64 x.ad.p, .int .i64 x.by_, .int .i64 x.opened, .int .i64 x.shut, .bool x.dead] 48)
  have hl := laid1 W' (.cells #[.int .i8 x.ad.f, .int .u16 x.ad.g0, .int .u16 x.ad.g1, .int .u16 x.ad.g2, .int .u16 x.ad.g3, .int .u16 x.ad.g4, .int .u16 x.ad.g5, .int .u16 x.ad.g6, .int .u16 x.ad.g7, .int .i64 x.ad.p, .int .i64 x.by_, .int .i64 x.opened, .int .i64 x.shut, .bool x.dead] 48)
  obtain ⟨W1, hW1⟩ : ∃ W1, W1 = W'.alloc (.cells #[.int .i8 x.ad.f, .int .u16 x.ad.g0, .int .u16 x.ad.g1, .int .u16 x.ad.g2, .int .u16 x.ad.g3, .int .u16 x.ad.g4, .int .u16 x.ad.g5, .int .u16 x.ad.g6, .int .u16 x.ad.g7, .int .i64 x.ad.p, .int .i64 x.by_, .int .i64 x.opened, .int .i64 x.shut, .bool x.dead] 48) := ⟨_, rfl⟩
  rw [← hW1] at hq hl
  have h2 := h'.on hq
  have c12 : W1.cell? ⟨W'.heap.size, 12, none⟩ = some (.int .i64 x.shut) := by simp [World.cell?, hl]
  have b0 := (cell1 h2.box).1
  have r0 := (arr_cell h2.row (j := k) (by omega)).1
  have hki : (k : Int) < (n : Int) := by omega
  have hk0 : ¬ (k : Int) < 0 := by omega
  have HB := Lib.hid hq
  have HF := Lib.hid (show fChk M k x = (x.shut != (shutsOf M k : Int)) from rfl)
  clear hn hx h h' hb hq hl h2
  go_enter Try.func23, Try.ntmps23
  go_wp2_with fail
  rw [← hW1]
  clear hW1
  go_quiet (fail)
  go_wp2_with fail
  go_ret
  exact ⟨by rw [HF.out]; rfl, below_drewN HB.out _⟩
end Go.Proofs.Ytdpnnmbdbfpaeaa
