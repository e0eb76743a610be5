/- PLAIN LEAN for layer 2: rows of addresses, told and read. -/
import Derived.Test.YtbejnnkdgcelmaaGreatDoorBackQ
import Derived.Test.YtbejnnkdgcelmaaGreatDoorIn
set_option linter.unusedSimpArgs false
set_option linter.unusedVariables false
namespace Go.Proofs.YtbejnnkdgcelmaaGreatDoor.P
def rowP (l : List Ad) : Option (List UInt8) := if 16 < l.length ∨ l.all mayP = false then none else some (Lib.join (l.map textP) [32])
def adsF : List (List UInt8) → Option (List Ad)
  | [] => some []
  | p :: ps => match parseP ⟨p.toArray⟩ with
    | none => none
    | some a => (adsF ps).map (a :: ·)
def readP (l : List UInt8) : Option (List Ad) := if l = [] then some [] else if 16 < (Lib.splitN l [32] 17).length then none else adsF (Lib.splitN l [32] 17)
theorem adsF_none (p : List UInt8) (ps : List (List UInt8)) (h : parseP ⟨p.toArray⟩ = none) : adsF (p :: ps) = none := by rw [adsF, h]
theorem adsF_some (p : List UInt8) (ps : List (List UInt8)) (a : Ad) (h : parseP ⟨p.toArray⟩ = some a) : adsF (p :: ps) = (adsF ps).map (a :: ·) := by rw [adsF, h]
theorem adsF_texts : ∀ l : List Ad, (∀ a ∈ l, mayP a = true ∧ a.Ok) → adsF (l.map textP) = some l
  | [], _ => rfl
  | a :: l, h => by
    rw [List.map_cons, adsF_some _ _ a (parse_text a (h a (by simp)).1 (h a (by simp)).2), adsF_texts l (fun x hx => h x (List.mem_cons_of_mem _ hx))]
    rfl
theorem join_free (c d : UInt8) (hcd : c ≠ d) : ∀ ts : List (List UInt8), (∀ t ∈ ts, c ∉ t) → c ∉ Lib.join ts [d]
  | [], _ => by simp [Lib.join_nil]
  | [x], h => by rw [Lib.join_one]; exact h x (by simp)
  | x :: y :: r, h => by
    rw [join_two, List.mem_append, List.mem_cons, not_or, not_or]
    exact ⟨h x (by simp), hcd, join_free c d hcd (y :: r) (fun t ht => h t (List.mem_cons_of_mem _ ht))⟩
theorem hexC_blank : ∀ d, d < 16 → hexC d ≠ 32 := by decide
theorem hexF_blank : ∀ (k n : Nat), (32 : UInt8) ∉ hexF k n
  | 0, n => by
    rw [hexF, List.mem_singleton]
    exact fun e => hexC_blank _ (by omega) e.symm
  | k + 1, n => by
    unfold hexF
    split
    · rw [List.mem_singleton]; exact fun e => hexC_blank _ (by omega) e.symm
    · rw [List.mem_append, List.mem_singleton, not_or]
      exact ⟨hexF_blank k _, fun e => hexC_blank _ (by omega) e.symm⟩
theorem tellG_blank (gs : List Nat) : (32 : UInt8) ∉ tellG gs := join_free 32 58 (by decide) _ (fun t ht => by rw [List.mem_map] at ht; obtain ⟨g, _, rfl⟩ := ht; exact hexF_blank 3 g)
theorem text_blank (a : Ad) : (32 : UInt8) ∉ textP a := by
  unfold textP
  rw [List.mem_append, List.mem_cons, not_or, not_or]
  refine ⟨?_, by decide, dec_free _ 32 (by decide)⟩
  unfold hostP
  split
  · exact join_free 32 46 (by decide) _ (fun t ht => by
      simp only [bytes4, List.mem_cons, List.not_mem_nil, or_false] at ht
      rcases ht with rfl | rfl | rfl | rfl <;> exact dec_free _ 32 (by decide))
  · rw [List.mem_cons, List.mem_append, List.mem_singleton, not_or, not_or]
    refine ⟨by decide, ?_, by decide⟩
    unfold tell6
    split
    · exact tellG_blank _
    · rw [List.mem_append, List.mem_cons, List.mem_cons, not_or, not_or, not_or]
      exact ⟨tellG_blank _, by decide, by decide, tellG_blank _⟩
theorem text_ne (a : Ad) : textP a ≠ [] := by unfold textP; simp
/-- A ROW's TEXT READS AS THE ROW. -/
theorem read_row (l : List Ad) (h16 : l.length ≤ 16) (h : ∀ a ∈ l, mayP a = true ∧ a.Ok) : readP (Lib.join (l.map textP) [32]) = some l := by
  cases l with
  | nil => rfl
  | cons a l =>
    have hs := splitN_join 32 ((a :: l).map textP) 17 (by simp) (fun t ht => by rw [List.mem_map] at ht; obtain ⟨x, _, rfl⟩ := ht; exact text_blank x) (by simp at h16 ⊢; omega)
    unfold readP
    rw [hs, if_neg (join_ne 32 _ (by simp) (fun t ht => by rw [List.mem_map] at ht; obtain ⟨x, _, rfl⟩ := ht; exact text_ne x)), if_neg (by simp at h16 ⊢; omega)]
    exact adsF_texts _ h
theorem text_len (a : Ad) (ha : a.Ok) (hm : mayP a = true) : (textP a).length ≤ 125 := by
  obtain ⟨_, hp1, hp2⟩ := mayP_fam a hm
  obtain ⟨x0, x1, x2, x3, x4, x5, x6, x7, e0, e1, e2, e3, e4, e5, e6, e7, hns, hle⟩ := a.nats ha
  have h1 := hostP_len a.f x0 x1 x2 x3 x4 x5 x6 x7 (hle x0 (by rw [hns]; simp)) (hle x1 (by rw [hns]; simp))
  have h2 := dec_len a.p.toNat (by omega)
  unfold textP
  rw [hns]
  simp only [List.length_append, List.length_cons]; omega
theorem join_le (c : UInt8) (m : Nat) : ∀ ts : List (List UInt8), (∀ t ∈ ts, t.length ≤ m) → (Lib.join ts [c]).length ≤ ts.length * (m + 1)
  | [], _ => by simp [Lib.join_nil]
  | [x], h => by
    rw [Lib.join_one]
    have := h x (by simp)
    simp; omega
  | x :: y :: r, h => by
    have h1 := h x (by simp)
    have h2 := join_le c m (y :: r) (fun t ht => h t (List.mem_cons_of_mem _ ht))
    rw [join_two]
    simp only [List.length_append, List.length_cons, Nat.add_mul] at h2 ⊢
    omega
end Go.Proofs.YtbejnnkdgcelmaaGreatDoor.P
namespace Go.Proofs.YtbejnnkdgcelmaaGreatDoor
open Go.RowKit
theorem neq_self (x : Ad) (W : World) : (binOp .neq 26 (.agg #[.int .i8 x.f, .int .u16 x.g0, .int .u16 x.g1, .int .u16 x.g2, .int .u16 x.g3, .int .u16 x.g4, .int .u16 x.g5, .int .u16 x.g6, .int .u16 x.g7, .int .i64 x.p]) (.agg #[.int .i8 x.f, .int .u16 x.g0, .int .u16 x.g1, .int .u16 x.g2, .int .u16 x.g3, .int .u16 x.g4, .int .u16 x.g5, .int .u16 x.g6, .int .u16 x.g7, .int .i64 x.p])).run Tryz.prog W = .ok (.bool false) W := by
  rw [run_neq_struct]
  have h := equalIn_addr W x x
  simp only [Ad.v, Ad.enc] at h
  rw [h]
  simp
set_option maxHeartbeats 4000000 in
set_option maxRecDepth 1000000 in
/-- The document's look at two rows, where they are one and the same. -/
theorem same_eq (l : List Ad) (a b : Option Addr) (c d : Nat) (w : World) (hl : l.length ≤ 100000) (hA : RowAt w a l) (hB : RowAt w b l) :
    Calls Tryz.prog 15 #[.slice a l.length c, .slice b l.length d] w fun e w' => e = .returned (.bool true) ∧ Below w.heap.size w w' := by
  have HA := Lib.hid hA
  have HB := Lib.hid hB
  clear hA hB
  go_enter Tryz.func15, Tryz.ntmps15
  go_wp2_with fail
  go_loopw [5] (fun i wr => ∃ k q : Nat, k ≤ l.length ∧ i = .int .i64 k ∧ wr = w.drewN q) (fun i _ => l.length - (intOf i).toNat)
  case atStart => exact ⟨0, 0, by omega, rfl, rfl⟩
  case round =>
    obtain ⟨k, q, hk, rfl, rfl⟩ := hrel
    by_cases hlt : k < l.length
    · obtain ⟨b1, o1, rfl, hb1, hat1⟩ := HA.out (by omega)
      obtain ⟨b2, o2, rfl, hb2, hat2⟩ := HB.out (by omega)
      obtain ⟨x, hx⟩ : ∃ x, l[k]? = some x := ⟨_, List.getElem?_eq_getElem hlt⟩
      obtain ⟨c0, c1, c2, c3, c4, c5, c6, c7, c8, c9⟩ := hat1.cells k x hx
      obtain ⟨d0, d1, d2, d3, d4, d5, d6, d7, d8, d9⟩ := hat2.cells k x hx
      have hnq := neq_self x
      have hgd := guard_addr
      clear hx hat1 hat2
      go_wp2_with fail
      go_quiet (fail)
      go_wp2_with fail
      go_roundw
      case rel => exact ⟨k + 1, _, by omega, by go_num, rfl⟩
      case measure => simp [intOf]; omega
    · obtain rfl : k = l.length := by omega
      go_wp2_with fail
      go_ret
      exact ⟨rfl, below_drewN (Below.refl _ _) q⟩
end Go.Proofs.YtbejnnkdgcelmaaGreatDoor
