/- Groups told in hexadecimal digits: strconv.FormatUint at base 16. -/
import Derived.Test.YtbejnnkdgcelmaaGreatDoorTextP
import Derived.Lib.LaidTab
import Derived.Lib.UnsafeStr
import Derived.Lib.AppendStr
import Derived.Laws.BytesString
import Derived.Laws.BitsAllLaws
set_option linter.unusedSimpArgs false
set_option linter.unusedVariables false
namespace Go.Proofs.YtbejnnkdgcelmaaGreatDoor
open Go.RowKit

/-- What the walk asks of the package's variables. -/
structure Env (w : World) : Prop where
  pow : Lib.TabIs Tryz.prog w "internal/strconv.uint64pow10" .u64 Lib.pow10Tab
  powLt : 1 < w.heap.size
  bru : w.cell? ⟨3, 15, none⟩ = some (.int .u8 4)
  max : ∃ m, w.cell? ⟨0, 0, none⟩ = some (.int .i64 m)
theorem gPow : Tryz.prog.globalNamed "internal/strconv.uint64pow10" = some 1 := by kernel_rfl
theorem Env.bruLt {w : World} (h : Env w) : 3 < w.heap.size := World.block_lt_of_cell? _ _ h.bru
theorem Env.maxLt {w : World} (h : Env w) : 0 < w.heap.size := by obtain ⟨m, hm⟩ := h.max; exact World.block_lt_of_cell? _ _ hm
theorem Env.below {w w' : World} (h : Env w) (hb : Below w.heap.size w w') : Env w' :=
  ⟨var?_below hb gPow h.powLt h.pow, Nat.lt_of_lt_of_le h.powLt hb.size, (hb.cell (p := ⟨3, 15, none⟩) h.bruLt).trans h.bru, by obtain ⟨m, hm⟩ := h.max; exact ⟨m, (hb.cell (p := ⟨0, 0, none⟩) h.maxLt).trans hm⟩⟩

set_option maxHeartbeats 1000000 in
theorem zeros16 (w : World) (hE : Env w) : Calls Tryz.prog 102 #[.int .u64 16] w fun e w' => e = .returned (.int .i64 4) ∧ w' = w := by
  have hb := hE.bru
  clear hE
  have e1 : (IntKind.u64.wrap (bits BinOp.and IntKind.u64 16 (IntKind.u64.wrap (-16)) * 285870213051353865) / 288230376151711744) = 15 := by decide
  go_enter Tryz.func102, Tryz.ntmps102
  go_wp2
  go_ret
  exact ⟨rfl, rfl⟩

/-- One byte of the digits' own text. -/
theorem hexC_get : ∀ d, d < 16 → ((⟨List.toArray (48 :: 49 :: 50 :: 51 :: 52 :: 53 :: 54 :: 55 :: 56 :: 57 :: 97 :: 98 :: 99 :: 100 :: 101 :: 102 :: 103 :: 104 :: 105 :: 106 :: 107 :: 108 :: 109 :: 110 :: 111 :: 112 :: 113 :: 114 :: 115 :: 116 :: 117 :: 118 :: 119 :: 120 :: 121 :: 122 :: [])⟩ : ByteArray).get! d) = P.hexC d := by decide
theorem hexC_at (d : Nat) (h : d < 16) (h' : d < (⟨List.toArray (48 :: 49 :: 50 :: 51 :: 52 :: 53 :: 54 :: 55 :: 56 :: 57 :: 97 :: 98 :: 99 :: 100 :: 101 :: 102 :: 103 :: 104 :: 105 :: 106 :: 107 :: 108 :: 109 :: 110 :: 111 :: 112 :: 113 :: 114 :: 115 :: 116 :: 117 :: 118 :: 119 :: 120 :: 121 :: 122 :: [])⟩ : ByteArray).size) : (⟨List.toArray (48 :: 49 :: 50 :: 51 :: 52 :: 53 :: 54 :: 55 :: 56 :: 57 :: 97 :: 98 :: 99 :: 100 :: 101 :: 102 :: 103 :: 104 :: 105 :: 106 :: 107 :: 108 :: 109 :: 110 :: 111 :: 112 :: 113 :: 114 :: 115 :: 116 :: 117 :: 118 :: 119 :: 120 :: 121 :: 122 :: [])⟩ : ByteArray)[d]'h' = P.hexC d := by
  rw [← hexC_get d h]
  generalize (⟨List.toArray (48 :: 49 :: 50 :: 51 :: 52 :: 53 :: 54 :: 55 :: 56 :: 57 :: 97 :: 98 :: 99 :: 100 :: 101 :: 102 :: 103 :: 104 :: 105 :: 106 :: 107 :: 108 :: 109 :: 110 :: 111 :: 112 :: 113 :: 114 :: 115 :: 116 :: 117 :: 118 :: 119 :: 120 :: 121 :: 122 :: [])⟩ : ByteArray) = b at *
  rw [ByteArray.getElem_eq_getElem_data]
  have h2 : d < b.data.size := h'
  show _ = b.data[d]!
  rw [getElem!_pos b.data d h2]
theorem and15 (q : Nat) (h : q < 18446744073709551616) : bits .and .u64 (q : Int) 15 = ((q % 16 : Nat) : Int) := by
  have := u64_and_nat q 15 h (by omega)
  rw [show ((15 : Nat) : Int) = 15 from rfl] at this
  rw [this, show (15 : Nat) = 2 ^ 4 - 1 from rfl, Nat.and_two_pow_sub_one_eq_mod]

theorem push_bytes : ∀ (l : List UInt8) (s : ByteArray), (l.map fun b => (b.toNat : Int)).foldl (fun r n => r.push (UInt8.ofNat n.toNat)) s = ⟨s.data ++ l.toArray⟩
  | [], s => by simp
  | b :: l, s => by
    rw [List.map_cons, List.foldl_cons, push_bytes l]
    have : UInt8.ofNat ((b.toNat : Int)).toNat = b := by simp
    rw [this]
    apply ByteArray.ext
    show (s.data.push b) ++ l.toArray = _
    apply Array.ext'
    simp
/-- Bytes that lie in cells, turned into a text. -/
theorem run_bytes_at {Pr : Program} {w : World} (src dst e : TypeId) (hs : Pr.underlying src = some (.slice e)) (he : Pr.underlying e = some (.int .u8)) (hd : Pr.underlying dst = some .string) (b o n cap : Nat) (l : List UInt8) (hl : l.length = n)
    (h : ∀ (j : Nat) (x : UInt8), l[j]? = some x → w.cell? ⟨b, o + j, none⟩ = some (.int .u8 (x.toNat : Int))) :
    (convert src dst (.slice (some ⟨b, o, none⟩) n cap)).run Pr w = .ok (.string ⟨l.toArray⟩) w := by
  rw [run_convert_bytes_string w src dst e _ _ _ hs he hd]
  have hb : Lib.byteCells l = (l.map fun b => (b.toNat : Int)).map (Value.int .u8) := by simp [Lib.byteCells]
  have h1 := run_loadCells_list (P := Pr) (w := w) (⟨b, o, none⟩ : Addr) (Lib.byteCells l) (fun j u hu => by
    simp only [Lib.byteCells, List.getElem?_map, Option.map_eq_some_iff] at hu
    obtain ⟨x, hx, rfl⟩ := hu
    rw [show ((⟨b, o, none⟩ : Addr).add j) = ⟨b, o + j, none⟩ from by unfold Addr.add; split <;> simp_all]
    exact h j x hx)
  rw [show (Lib.byteCells l).length = n from by rw [Lib.byteCells_length]; exact hl, hb] at h1
  rw [run_bytesToString w _ n cap _ h1, push_bytes, show ByteArray.empty.data ++ l.toArray = l.toArray from by apply Array.ext'; simp]

set_option maxHeartbeats 1000000 in
theorem isPow16 (w : World) : Calls Tryz.prog 101 #[.int .i64 16] w fun e w' => e = .returned (.bool true) ∧ w' = w := by
  go_enter Tryz.func101, Tryz.ntmps101
  go_wp2
  go_ret
  exact ⟨rfl, rfl⟩

theorem hexF_step (k q : Nat) (h : 16 ≤ q) : P.hexF (k + 1) q = P.hexF k (q / 16) ++ [P.hexC (q % 16)] := by
  rw [P.hexF, if_neg (by omega)]
theorem addr_ne (b i j : Nat) (h : i ≠ j) : (⟨b, i, none⟩ : Addr) ≠ ⟨b, j, none⟩ := by
  intro e; injection e; contradiction

set_option maxHeartbeats 4000000 in
set_option maxRecDepth 1000000 in
theorem bits16 (n : Nat) (w : World) (hn : n ≤ 65535) (hE : Env w) :
    Calls Tryz.prog 85 #[.slice none 0 0, .int .u64 n, .int .i64 16, .bool false, .bool false] w fun e w' => e = .returned (.tuple #[.slice none 0 0, .string ⟨(P.hexD n).toArray⟩]) ∧ Below w.heap.size w w' := by
  have hZ : ∀ j, j < 65 → (w.alloc (Obj.cells Tryz.zeroCells130 130)).cell? ⟨w.heap.size, j, none⟩ = some (.int .u8 0) ∧ (w.alloc (Obj.cells Tryz.zeroCells130 130)).frozen? ⟨w.heap.size, j, none⟩ = false := by
    intro j hj
    refine ⟨?_, World.frozen?_alloc_new _ _ _ _⟩
    rw [World.cell?_alloc_new]
    have e : Tryz.zeroCells130 = (List.replicate 65 (Value.int .u8 0)).toArray := rfl
    rw [e, List.getElem?_toArray, List.getElem?_replicate, if_pos hj]
  have HZ := Lib.hid hZ
  clear hZ
  go_enter Tryz.func85, Tryz.ntmps85
  go_wp2_with fail
  have HC := isPow16 (w.alloc (Obj.cells Tryz.zeroCells130 130))
  with_reducible refine HC.mono ?_
  clear HC
  rintro e w1 ⟨rfl, rfl⟩
  go_wp2_with fail
  have HC := zeros16 (w.alloc (Obj.cells Tryz.zeroCells130 130)) (hE.below ((Below.refl _ w).alloc (Nat.le_refl _) _))
  with_reducible refine HC.mono ?_
  clear HC
  rintro e w1 ⟨rfl, rfl⟩
  have HE := Lib.hid hE
  clear hE
  go_wp2_with fail
  go_loopw [1, 13] (fun u i wr => ∃ (k r q : Nat) (tl : List UInt8), k + r = 3 ∧ i = .int .i64 (65 - r : Int) ∧ u = .int .u64 q ∧ tl.length = r ∧ q ≤ 65535 ∧ q < 16 ^ (k + 1) ∧ Below w.heap.size w wr ∧ w.heap.size < wr.heap.size ∧
    (∀ j, j < 65 → (∃ v, wr.cell? ⟨w.heap.size, j, none⟩ = some v) ∧ wr.frozen? ⟨w.heap.size, j, none⟩ = false) ∧ (∀ (j : Nat) (x : UInt8), tl[j]? = some x → wr.cell? ⟨w.heap.size, 65 - r + j, none⟩ = some (.int .u8 (x.toNat : Int))) ∧ Hid (P.hexD n = P.hexF k q ++ tl)) (fun u _ _ => (intOf u).toNat)
  case atStart => exact ⟨3, 0, n, [], rfl, rfl, rfl, rfl, hn, by omega, (Below.refl _ w).alloc (Nat.le_refl _) _, by simp, fun j hj => ⟨⟨_, (HZ.out j hj).1⟩, (HZ.out j hj).2⟩, by simp, Lib.hid (by simp [P.hexD])⟩
  case round =>
    obtain ⟨k, r, q, tl, hkr, rfl, rfl, htl, hq, hqk, hbw, hws, hcf, htc, hhex⟩ := hrel
    obtain ⟨⟨v0, hc0⟩, hf0⟩ := hcf (65 - r - 1) (by omega)
    by_cases hlt : 16 ≤ q
    · have hand := and15 q (by omega)
      have hat := hexC_at (q % 16) (by omega) (by show q % 16 < 36; omega)
      have hk : 1 ≤ k := by
        rcases k with _ | k
        · simp at hqk; omega
        · omega
      go_wp2_with fail
      go_roundw
      case rel =>
        obtain ⟨k, rfl⟩ : ∃ m, k = m + 1 := ⟨k - 1, by omega⟩
        refine ⟨k, r + 1, q / 16, P.hexC (q % 16) :: tl, by omega, by go_num, by go_num, by simp [htl], by omega, by rw [Nat.pow_succ] at hqk; omega, hbw.setCell (Nat.le_refl _) _, by simpa using hws, ?_, ?_, Lib.hid (by rw [hhex.out, hexF_step k q hlt]; simp)⟩
        · intro j hj
          refine ⟨?_, by simpa using (hcf j hj).2⟩
          by_cases e : j = 65 - r - 1
          · subst e; exact ⟨_, World.cell?_setCell_same _ _ _ hc0⟩
          · rw [World.cell?_setCell_other _ _ _ _ (addr_ne _ _ _ (Ne.symm e))]; exact (hcf j hj).1
        · intro j x hx
          cases j with
          | zero =>
            simp at hx; subst hx
            rw [show 65 - (r + 1) + 0 = 65 - r - 1 from by omega]
            exact World.cell?_setCell_same _ _ _ hc0
          | succ j =>
            have hj : j < r := by rw [← htl]; simp at hx; exact (List.getElem?_eq_some_iff.1 hx).1
            rw [World.cell?_setCell_other _ _ _ _ (addr_ne _ _ _ (by omega)), show 65 - (r + 1) + (j + 1) = 65 - r + j from by omega]
            exact htc j x (by simpa using hx)
      case measure => simp [intOf]; omega
    · have hand := and15 q (by omega)
      rw [show q % 16 = q from by omega] at hand
      have hat := hexC_at q (by omega) (by show q < 36; omega)
      have hx : P.hexD n = P.hexC q :: tl := by rw [hhex.out, P.hexF_small k q (by omega)]; rfl
      have hsl : ∀ W, (Instr.sliceAt 130 (.pointer (some ⟨w.heap.size, 0, none⟩)) (some (.int .i64 (65 - (r : Int) - 1))) none none).run Tryz.prog W = .ok (.slice (some ⟨w.heap.size, 65 - r - 1, none⟩) (r + 1) (r + 1)) W := fun W => by
        rw [run_sliceAt_array_l W 130 ⟨w.heap.size, 0, none⟩ (by kernel_rfl) .i64 (65 - (r : Int) - 1) (by omega) (by rw [show Tryz.prog.arrayLen 130 = 65 from by kernel_rfl]; omega)]
        rw [show Tryz.prog.arrayLen 130 = 65 from by kernel_rfl, show Tryz.prog.elem 130 = 5 from by kernel_rfl]
        go_simp
        refine ⟨?_, ?_⟩ <;> omega
      have hcv := run_bytes_at (Pr := Tryz.prog) (w := wr.setCell ⟨w.heap.size, 65 - r - 1, none⟩ (.int .u8 ((P.hexC q).toNat : Int))) 104 9 5 Tryz.underlying104 Tryz.underlying5 Tryz.underlying9 w.heap.size (65 - r - 1) (r + 1) (r + 1) (P.hexD n) (by rw [hx]; simp [htl]) (by
        intro j x hj
        rw [hx] at hj
        cases j with
        | zero =>
          simp at hj; subst hj
          exact World.cell?_setCell_same _ _ _ hc0
        | succ j =>
          have hj2 : j < r := by rw [← htl]; simp at hj; exact (List.getElem?_eq_some_iff.1 hj).1
          rw [World.cell?_setCell_other _ _ _ _ (addr_ne _ _ _ (by omega)), show 65 - r - 1 + (j + 1) = 65 - r + j from by omega]
          exact htc j x (by simpa using hj))
      have HX := Lib.hid hx
      generalize hS : (⟨(P.hexD n).toArray⟩ : ByteArray) = S at *
      have HS := Lib.hid hS
      clear hx hS
      go_wp2_with fail
      go_ret2
      exact ⟨by rw [HS.out]; rfl, hbw.setCell (Nat.le_refl _) _⟩

set_option maxHeartbeats 1000000 in
set_option maxRecDepth 1000000 in
theorem formatI (n : Nat) (w : World) (hn : n ≤ 65535) (hE : Env w) :
    Calls Tryz.prog 98 #[.int .u64 n, .int .i64 16] w fun e w' => e = .returned (.string ⟨(P.hexD n).toArray⟩) ∧ Below w.heap.size w w' := by
  have HB := Lib.hid (bits16 n w hn hE)
  generalize (⟨(P.hexD n).toArray⟩ : ByteArray) = S at *
  go_enter Tryz.func98, Tryz.ntmps98
  go_wp2_with fail
  with_reducible refine HB.out.mono ?_
  rintro e w1 ⟨rfl, hb1⟩
  go_wp2_with fail
  go_ret
  exact ⟨rfl, hb1⟩
set_option maxHeartbeats 1000000 in
set_option maxRecDepth 1000000 in
/-- strconv.FormatUint, of a group, at base 16. -/
theorem formatU (n : Nat) (w : World) (hn : n ≤ 65535) (hE : Env w) :
    Calls Tryz.prog 81 #[.int .u64 n, .int .i64 16] w fun e w' => e = .returned (.string ⟨(P.hexD n).toArray⟩) ∧ Below w.heap.size w w' := by
  have HB := Lib.hid (formatI n w hn hE)
  generalize (⟨(P.hexD n).toArray⟩ : ByteArray) = S at *
  go_enter Tryz.func81, Tryz.ntmps81
  go_wp2_with fail
  with_reducible refine HB.out.mono ?_
  rintro e w1 ⟨rfl, hb1⟩
  go_wp2_with fail
  go_ret
  exact ⟨rfl, hb1⟩
end Go.Proofs.YtbejnnkdgcelmaaGreatDoor
