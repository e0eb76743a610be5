/- Each group with all its four digits, great ones, reads as the address. -/
import Derived.Test.YtbejnnkdgcelmaaDoorBackQ
import Derived.Test.YtbejnnkdgcelmaaDoorWakes
import Derived.Lib.LastIndexByte
set_option linter.unusedSimpArgs false
set_option linter.unusedVariables false
namespace Go.Proofs.YtbejnnkdgcelmaaDoor.P
def upC (d : Nat) : UInt8 := if d < 10 then UInt8.ofNat (48 + d) else UInt8.ofNat (55 + d)
def up4 (g : Nat) : List UInt8 := [upC (g / 4096 % 16), upC (g / 256 % 16), upC (g / 16 % 16), upC (g % 16)]
theorem hexB_upC : ∀ d, d < 16 → hexB (upC d) = some d := by decide
theorem upC_colon : ∀ d, d < 16 → upC d ≠ 58 := by decide
theorem grpP_up4 (g : Nat) (h : g ≤ 65535) : grpP (up4 g) = some g := by
  unfold grpP up4
  rw [if_neg (by simp), grpF, hexB_upC _ (by omega)]
  simp only
  rw [grpF, hexB_upC _ (by omega)]
  simp only
  rw [grpF, hexB_upC _ (by omega)]
  simp only
  rw [grpF, hexB_upC _ (by omega)]
  simp only [grpF, Option.some.injEq]
  omega
theorem up4_ok (g : Nat) : up4 g ≠ [] ∧ (58 : UInt8) ∉ up4 g := by
  refine ⟨by simp [up4], ?_⟩
  unfold up4
  simp only [List.mem_cons, List.not_mem_nil, or_false, not_or]
  exact ⟨fun e => upC_colon _ (by omega) e.symm, fun e => upC_colon _ (by omega) e.symm, fun e => upC_colon _ (by omega) e.symm, fun e => upC_colon _ (by omega) e.symm⟩
/-- The text that the law makes. -/
def digT (gs : List Nat) (p : Nat) : List UInt8 := (91 :: (Lib.join (gs.map up4) [58] ++ [93])) ++ 58 :: Lib.decDigits p
theorem parse_dig (a : Ad) (h : mayP a = true) (ha : a.Ok) (h6 : a.f = 6) : parseP ⟨(digT a.ns a.p.toNat).toArray⟩ = some a := by
  obtain ⟨_, hp1, hp2⟩ := mayP_fam a h
  obtain ⟨x0, x1, x2, x3, x4, x5, x6, x7, e0, e1, e2, e3, e4, e5, e6, e7, hns, hle⟩ := a.nats ha
  obtain ⟨p, hp⟩ : ∃ p : Nat, a.p = p := ⟨a.p.toNat, by omega⟩
  have hpt : a.p.toNat = p := by omega
  rw [hpt, hns]
  rw [hns] at hle
  have hR : hostR (91 :: (Lib.join ([x0, x1, x2, x3, x4, x5, x6, x7].map up4) [58] ++ [93])) = (6, some [x0, x1, x2, x3, x4, x5, x6, x7]) := by
    rw [hostR_six, sixP_eight up4 [x0, x1, x2, x3, x4, x5, x6, x7] rfl (fun g hg => grpP_up4 g (hle g hg)) (fun g _ => up4_ok g)]
  have hm : adMk 6 [x0, x1, x2, x3, x4, x5, x6, x7] p = a := by
    have := adMk_ns a x0 x1 x2 x3 x4 x5 x6 x7 e0 e1 e2 e3 e4 e5 e6 e7 p hp
    rwa [h6] at this
  have := parseP_of (91 :: (Lib.join ([x0, x1, x2, x3, x4, x5, x6, x7].map up4) [58] ++ [93])) p [x0, x1, x2, x3, x4, x5, x6, x7] (by omega) (by omega) (by rw [hR]) (by rw [hR, hm]; exact h)
  unfold digT
  rw [this, hR, hm]
/-- The text so far. -/
def digS (gs : List Nat) (k : Nat) : List UInt8 := 91 :: Lib.join ((gs.take k).map up4) [58]
theorem join_snoc (c : UInt8) : ∀ (ts : List (List UInt8)) (x : List UInt8), ts ≠ [] → Lib.join (ts ++ [x]) [c] = Lib.join ts [c] ++ c :: x
  | [], _, h => absurd rfl h
  | [y], x, _ => by rw [List.singleton_append, join_two, Lib.join_one, Lib.join_one]
  | y :: z :: r, x, _ => by
    rw [List.cons_append, List.cons_append, join_two, join_two, ← List.cons_append, join_snoc c (z :: r) x (by simp)]
    simp
theorem digS_step (gs : List Nat) (k g : Nat) (h : gs[k]? = some g) : digS gs (k + 1) = (if 0 < k then digS gs k ++ [58] else digS gs k) ++ up4 g := by
  unfold digS
  rw [List.take_add_one, h, List.map_append]
  by_cases hk : 0 < k
  · rw [if_pos hk]
    show 91 :: Lib.join ((gs.take k).map up4 ++ [up4 g]) [58] = _
    rw [join_snoc 58 _ _ (by
      intro e
      have h2 : k < gs.length := (List.getElem?_eq_some_iff.1 h).1
      rw [List.map_eq_nil_iff, List.take_eq_nil_iff] at e
      rcases e with e | e
      · omega
      · rw [e] at h2; simp at h2)]
    simp
  · rw [if_neg hk]
    have : k = 0 := by omega
    subst this
    simp [Lib.join_one, Lib.join_nil]
theorem digS_len (gs : List Nat) (k : Nat) (hk : k ≤ 8) : (digS gs k).length ≤ 5 * k + 1 := by
  unfold digS
  have h : ∀ ts : List Nat, (Lib.join (ts.map up4) [58]).length ≤ 5 * ts.length := by
    intro ts
    cases ts with
    | nil => simp [Lib.join_nil]
    | cons g ts =>
      rw [List.map_cons, Lib.join_cons]
      have h : ∀ ts : List Nat, (Lib.joinTail [58] (ts.map up4)).length = 5 * ts.length := by
        intro ts
        induction ts with
        | nil => simp [Lib.joinTail]
        | cons g ts ih =>
          simp only [Lib.joinTail, List.map_cons, List.flatten_cons, List.length_append, List.length_cons, List.length_nil] at ih ⊢
          have : (up4 g).length = 4 := rfl
          omega
      have h2 := h ts
      have : (up4 g).length = 4 := rfl
      simp only [List.length_append, List.length_cons]; omega
  have := h (gs.take k)
  rw [List.length_take] at this
  simp only [List.length_cons]; omega
end Go.Proofs.YtbejnnkdgcelmaaDoor.P
namespace Go.Proofs.YtbejnnkdgcelmaaDoor
open Go.RowKit
theorem up_extract : ∀ d, d < 16 → (⟨List.toArray (48 :: 49 :: 50 :: 51 :: 52 :: 53 :: 54 :: 55 :: 56 :: 57 :: 65 :: 66 :: 67 :: 68 :: 69 :: 70 :: [])⟩ : ByteArray).extract d (d + 1) = ⟨#[P.upC d]⟩ := by
  intro d hd
  rcases (show d = 0 ∨ d = 1 ∨ d = 2 ∨ d = 3 ∨ d = 4 ∨ d = 5 ∨ d = 6 ∨ d = 7 ∨ d = 8 ∨ d = 9 ∨ d = 10 ∨ d = 11 ∨ d = 12 ∨ d = 13 ∨ d = 14 ∨ d = 15 by omega) with rfl | rfl | rfl | rfl | rfl | rfl | rfl | rfl | rfl | rfl | rfl | rfl | rfl | rfl | rfl | rfl <;> rfl

/-- Where an address lies, its groups side by side. -/
theorem gsOf_a10 (w : World) (b : Nat) (f p : Int) (x0 x1 x2 x3 x4 x5 x6 x7 : Nat) (h : A10 w b f x0 x1 x2 x3 x4 x5 x6 x7 p) : GsAt w b 1 [x0, x1, x2, x3, x4, x5, x6, x7] := by
  intro j g hg
  have hj : j < 8 := by have := (List.getElem?_eq_some_iff.1 hg).1; simpa using this
  obtain ⟨c0, c1, c2, c3, c4, c5, c6, c7, c8, c9, fz⟩ := h
  rcases (show j = 0 ∨ j = 1 ∨ j = 2 ∨ j = 3 ∨ j = 4 ∨ j = 5 ∨ j = 6 ∨ j = 7 by omega) with rfl | rfl | rfl | rfl | rfl | rfl | rfl | rfl <;> (simp at hg; subst hg; assumption)

set_option maxHeartbeats 16000000 in
set_option maxRecDepth 1000000 in
/-- Where it is no address of family 6. -/
theorem digits_no (a : Ad) (w : World) (h : ¬ (mayP a = true ∧ a.f = 6)) (hE : Env w) :
    Calls Tryd.prog 6 #[a.v] w fun e w' => e = .returned (.bool true) ∧ Below w.heap.size w w' := by
  obtain ⟨m, hm⟩ : ∃ m, mayP a = m := ⟨_, rfl⟩
  have hcase : m = false ∨ m = true ∧ (a.f != 6) = true := by
    cases m with
    | false => exact .inl rfl
    | true => right; refine ⟨rfl, ?_⟩; rw [bne_iff_ne]; exact fun e => h ⟨hm, e⟩
  obtain ⟨f, g0, g1, g2, g3, g4, g5, g6, g7, p⟩ := a
  simp only [Ad.v, Ad.enc] at *
  have HM := Lib.hid hm
  have HE := Lib.hid hE
  clear h hm hE
  have hbw : Below w.heap.size w ((w.alloc (Obj.cells #[.int .i8 f, .int .u16 g0, .int .u16 g1, .int .u16 g2, .int .u16 g3, .int .u16 g4, .int .u16 g5, .int .u16 g6, .int .u16 g7, .int .i64 p] 36)).alloc (Obj.cells #[.int .i8 f, .int .u16 g0, .int .u16 g1, .int .u16 g2, .int .u16 g3, .int .u16 g4, .int .u16 g5, .int .u16 g6, .int .u16 g7, .int .i64 p] 36)) := ((Below.refl _ w).alloc (Nat.le_refl _) _).alloc (by simp) _
  have hf : ((w.alloc (Obj.cells #[.int .i8 f, .int .u16 g0, .int .u16 g1, .int .u16 g2, .int .u16 g3, .int .u16 g4, .int .u16 g5, .int .u16 g6, .int .u16 g7, .int .i64 p] 36)).alloc (Obj.cells #[.int .i8 f, .int .u16 g0, .int .u16 g1, .int .u16 g2, .int .u16 g3, .int .u16 g4, .int .u16 g5, .int .u16 g6, .int .u16 g7, .int .i64 p] 36)).cell? ⟨w.heap.size, 0, none⟩ = some (.int .i8 f) := by
    rw [World.cell?_alloc_old _ _ _ (by simp), World.cell?_alloc_new]; rfl
  have HB := Lib.hid hbw
  have HF := Lib.hid hf
  clear hbw hf
  rcases hcase with rfl | ⟨rfl, h6⟩
  all_goals
    go_enter Tryd.func6, Tryd.ntmps6
    go_wp2_with fail
    have HC := may_one f g0 g1 g2 g3 g4 g5 g6 g7 p (w.alloc (Obj.cells #[.int .i8 f, .int .u16 g0, .int .u16 g1, .int .u16 g2, .int .u16 g3, .int .u16 g4, .int .u16 g5, .int .u16 g6, .int .u16 g7, .int .i64 p] 36)) (w.heap.size + 1) (by simp)
    rw [HM.out] at HC
    with_reducible refine HC.mono ?_
    clear HC
    rintro e w1 ⟨rfl, hb1⟩
    have c0 := (hb1.cell (p := ⟨w.heap.size, 0, none⟩) (by simp <;> omega)).trans HF.out
    have hb1' := HB.out.trans (hb1.mono HB.out.size)
    have HW := Lib.hid (wakes_any w1 (HE.out.below hb1'))
    clear hb1
    go_wp2_with fail
    with_reducible refine HW.out.mono ?_
    rintro e w2 ⟨rfl, hb2⟩
    go_wp2_with fail
    go_ret
    exact ⟨rfl, hb1'.trans (hb2.mono hb1'.size)⟩

set_option maxHeartbeats 16000000 in
set_option maxRecDepth 1000000 in
theorem digits_yes (a : Ad) (w : World) (hm : mayP a = true) (h6 : a.f = 6) (ha : a.Ok) (hE : Env w) :
    Calls Tryd.prog 6 #[a.v] w fun e w' => e = .returned (.bool true) ∧ Below w.heap.size w w' := by
  obtain ⟨hfam, hp1, hp2⟩ := mayP_fam a hm
  obtain ⟨x0, x1, x2, x3, x4, x5, x6, x7, e0, e1, e2, e3, e4, e5, e6, e7, hns, hle⟩ := a.nats ha
  have hT := fun W (hb : Below w.heap.size w W) => text_yes a W hm ha (hE.below hb)
  have hPD := P.parse_dig a hm ha h6
  rw [hns] at hPD hle
  have htx : (⟨(P.textP a).toArray⟩ : ByteArray).data.toList = P.hostP a.f a.ns ++ 58 :: Lib.decDigits a.p.toNat := by simp [P.textP]
  have hlast := P.last_colon ⟨(P.textP a).toArray⟩ _ _ htx (P.dec_free _ 58 (by decide))
  have hlen := P.hostP_len a.f x0 x1 x2 x3 x4 x5 x6 x7 (hle x0 (by simp)) (hle x1 (by simp))
  rw [← hns] at hlen
  have hdl := dec_len a.p.toNat (by omega)
  have hsz : (⟨(P.textP a).toArray⟩ : ByteArray).size = (P.hostP a.f a.ns).length + 1 + (Lib.decDigits a.p.toNat).length := by rw [size_of_list, P.textP]; simp; omega
  have htail : (⟨(P.textP a).toArray⟩ : ByteArray).extract (P.hostP a.f a.ns).length (⟨(P.textP a).toArray⟩ : ByteArray).size = ⟨(58 :: Lib.decDigits a.p.toNat).toArray⟩ := by
    apply ByteArray.ext
    apply Array.ext'
    rw [Lib.extract_data, List.take_of_length_le (by simp; rw [size_of_list]; omega), htx, List.drop_left]
  obtain ⟨T, hTT⟩ : ∃ T : ByteArray, (⟨(P.textP a).toArray⟩ : ByteArray) = T := ⟨_, rfl⟩
  obtain ⟨h, hh⟩ : ∃ h : Nat, (P.hostP a.f a.ns).length = h := ⟨_, rfl⟩
  obtain ⟨D, hD⟩ : ∃ D : ByteArray, (⟨(58 :: Lib.decDigits a.p.toNat).toArray⟩ : ByteArray) = D := ⟨_, rfl⟩
  have hDz : D.size ≤ 30 := by rw [← hD, size_of_list]; simp; omega
  rw [hTT, hh] at hsz hlast htail
  rw [hh] at hlen
  rw [hTT] at hT
  have hTz : T.size ≤ 200 := by omega
  have hhT : h < T.size := by omega
  have hDig : (⟨(P.digT [x0, x1, x2, x3, x4, x5, x6, x7] a.p.toNat).toArray⟩ : ByteArray) = ⟨(P.digS [x0, x1, x2, x3, x4, x5, x6, x7] 8).toArray⟩ ++ ⟨#[93]⟩ ++ D := by
    rw [← hD, show (⟨#[93]⟩ : ByteArray) = ⟨([93] : List UInt8).toArray⟩ from rfl, str_app, str_app]
    simp [P.digT, P.digS]
  rw [hD] at htail
  have hPA := fun W (hb : Below w.heap.size w W) (hz : (⟨(P.digT [x0, x1, x2, x3, x4, x5, x6, x7] a.p.toNat).toArray⟩ : ByteArray).size ≤ 4000) => parse_any ⟨(P.digT [x0, x1, x2, x3, x4, x5, x6, x7] a.p.toNat).toArray⟩ W hz (hE.below hb)
  rw [hPD] at hPA
  have heq := fun W => equalIn_addr W a a
  obtain ⟨f, g0, g1, g2, g3, g4, g5, g6, g7, p⟩ := a
  simp only at *
  subst e0 e1 e2 e3 e4 e5 e6 e7 h6
  simp only [P.parseV, Ad.v, Ad.enc, Option.getD_some, Option.isSome_some, if_true] at *
  have HM := Lib.hid hm
  have HT := Lib.hid hT
  have HPA := Lib.hid hPA
  have HDig := Lib.hid hDig
  have HTail := Lib.hid htail
  have HLast := Lib.hid hlast
  have HE := Lib.hid hE
  have HLE := Lib.hid hle
  have HQ := Lib.hid heq
  clear hm hT hPA hDig htail hlast hE hle heq hfam hns htx hlen hdl hsz hTT hh hD hPD ha
  have hA0 : A10 ((w.alloc (Obj.cells #[.int .i8 6, .int .u16 (x0 : Int), .int .u16 (x1 : Int), .int .u16 (x2 : Int), .int .u16 (x3 : Int), .int .u16 (x4 : Int), .int .u16 (x5 : Int), .int .u16 (x6 : Int), .int .u16 (x7 : Int), .int .i64 p] 36)).alloc (Obj.cells #[.int .i8 6, .int .u16 (x0 : Int), .int .u16 (x1 : Int), .int .u16 (x2 : Int), .int .u16 (x3 : Int), .int .u16 (x4 : Int), .int .u16 (x5 : Int), .int .u16 (x6 : Int), .int .u16 (x7 : Int), .int .i64 p] 36)) w.heap.size 6 x0 x1 x2 x3 x4 x5 x6 x7 p := by
    have h1 : A10 (w.alloc (Obj.cells #[.int .i8 6, .int .u16 (x0 : Int), .int .u16 (x1 : Int), .int .u16 (x2 : Int), .int .u16 (x3 : Int), .int .u16 (x4 : Int), .int .u16 (x5 : Int), .int .u16 (x6 : Int), .int .u16 (x7 : Int), .int .i64 p] 36)) w.heap.size 6 x0 x1 x2 x3 x4 x5 x6 x7 p := by
      constructor
      all_goals first | (rw [World.cell?_alloc_new]; rfl) | (intro j; exact World.frozen?_alloc_new _ _ _ _)
    exact h1.below ((Below.refl (w.heap.size + 1) _).alloc (by simp) _) (by omega)
  have hbw : Below w.heap.size w ((w.alloc (Obj.cells #[.int .i8 6, .int .u16 (x0 : Int), .int .u16 (x1 : Int), .int .u16 (x2 : Int), .int .u16 (x3 : Int), .int .u16 (x4 : Int), .int .u16 (x5 : Int), .int .u16 (x6 : Int), .int .u16 (x7 : Int), .int .i64 p] 36)).alloc (Obj.cells #[.int .i8 6, .int .u16 (x0 : Int), .int .u16 (x1 : Int), .int .u16 (x2 : Int), .int .u16 (x3 : Int), .int .u16 (x4 : Int), .int .u16 (x5 : Int), .int .u16 (x6 : Int), .int .u16 (x7 : Int), .int .i64 p] 36)) := ((Below.refl _ w).alloc (Nat.le_refl _) _).alloc (by simp) _
  have hst : ∀ k, (hk : k < T.size) → Lib.lastIdx T 58 (k + 1) = if (T[k].toNat : Int) = 58 then (k : Int) else Lib.lastIdx T 58 k := by
    intro k hk
    rw [Lib.lastIdx]
    have e : T.data[k]! = T[k] := by
      have h' : k < T.data.size := hk
      rw [getElem!_pos T.data k h']; rfl
    rw [e]
  have HST := Lib.hid hst
  have HRG := Lib.hid (show ∀ k, k ≤ T.size → -1 ≤ Lib.lastIdx T 58 k ∧ Lib.lastIdx T 58 k ≤ 4000 by
    intro k hk
    rcases Lib.lastIdx_spec T 58 k with ⟨h, _⟩ | ⟨i, hi, h, _⟩ <;> omega)
  have HAT := Lib.hid (show Lib.lastIdx T 58 T.size = (h : Int) from HLast.out)
  have HA0 := Lib.hid hA0
  have HB := Lib.hid hbw
  clear hA0 hbw hst
  go_enter Tryd.func6, Tryd.ntmps6
  go_wp2_with fail
  have HC := may_one 6 x0 x1 x2 x3 x4 x5 x6 x7 p (w.alloc (Obj.cells #[.int .i8 6, .int .u16 (x0 : Int), .int .u16 (x1 : Int), .int .u16 (x2 : Int), .int .u16 (x3 : Int), .int .u16 (x4 : Int), .int .u16 (x5 : Int), .int .u16 (x6 : Int), .int .u16 (x7 : Int), .int .i64 p] 36)) (w.heap.size + 1) (by simp)
  rw [HM.out] at HC
  with_reducible refine HC.mono ?_
  clear HC
  rintro e w1 ⟨rfl, hb1⟩
  have hA1 := HA0.out.below hb1 (by simp <;> omega)
  have hb1' := HB.out.trans (hb1.mono HB.out.size)
  have hs1 : w.heap.size + 2 ≤ w1.heap.size := by have := hb1.size; simpa using this
  have HA1 := Lib.hid hA1
  have HC1 := Lib.hid (HT.out w1 hb1')
  obtain ⟨c0, c1, c2, c3, c4, c5, c6, c7, c8, c9, fz⟩ := hA1
  clear hb1
  go_wp2_with fail
  with_reducible refine HC1.out.mono ?_
  rintro e w2 ⟨rfl, hb2⟩
  have hA2 := HA1.out.below hb2 (by omega)
  have hs2 := hb2.size
  have hb2' := hb1'.trans (hb2.mono hb1'.size)
  have HA2 := Lib.hid hA2
  have HB2 := Lib.hid hb2'
  clear c0 c1 c2 c3 c4 c5 c6 c7 c8 c9 fz hA2 hb2 hb2' hb1'
  go_wp2_with fail
  go_loop [5, 6] (fun x i => ∃ k : Nat, ∃ q : Int, k ≤ T.size ∧ i = .int .i64 k ∧ x = .int .i64 q ∧ Hid (q = Lib.lastIdx T 58 k)) (fun _ i => T.size - (intOf i).toNat)
  case atStart => exact ⟨0, -1, by omega, rfl, rfl, Lib.hid rfl⟩
  case round =>
    obtain ⟨k, q, hk, rfl, rfl, hq⟩ := hrel
    by_cases hlt : k < T.size
    · have HS2 := Lib.hid (HST.out k hlt)
      go_wp2_with fail
      all_goals go_round
      all_goals first
        | (case rel => exact ⟨k + 1, k, by omega, by go_num, rfl, Lib.hid (by rw [HS2.out, if_pos (by simp_all)])⟩)
        | (case rel => exact ⟨k + 1, q, by omega, by go_num, rfl, Lib.hid (by rw [HS2.out, if_neg (by simp_all)]; exact hq.out)⟩)
        | (case measure => simp [intOf]; omega)
    · obtain rfl : k = T.size := by omega
      obtain rfl : q = (h : Int) := by rw [hq.out, HAT.out]
      clear hq
      have HGS := Lib.hid (gsOf_a10 _ _ _ _ _ _ _ _ _ _ _ _ HA2.out)
      have HL8 := Lib.hid (show [x0, x1, x2, x3, x4, x5, x6, x7].length = 8 from rfl)
      obtain ⟨L, hL⟩ : ∃ L, [x0, x1, x2, x3, x4, x5, x6, x7] = L := ⟨_, rfl⟩
      rw [hL] at HDig HPA HLE HGS HL8
      have HQL := Lib.hid hL
      clear hL
      go_wp2_with fail
      go_loopw [7, 8] (fun u7 u8 wr => ∃ (k q : Nat) (S : ByteArray), u8 = .int .i64 k ∧ u7 = .string S ∧ k ≤ 8 ∧ wr = w2.drewN q ∧ S.size ≤ 50 ∧ Hid (S = ⟨(P.digS L k).toArray⟩)) (fun _ u8 _ => 8 - (intOf u8).toNat)
      case atStart => exact ⟨0, 0, ⟨#[91]⟩, rfl, rfl, by omega, rfl, by decide, Lib.hid (by simp [P.digS, Lib.join_nil])⟩
      case round =>
        obtain ⟨k, q, S, rfl, rfl, hk, rfl, hS, hSe⟩ := hrel
        by_cases hk8 : k < 8
        · obtain ⟨g, hg⟩ : ∃ g, L[k]? = some g := ⟨_, List.getElem?_eq_getElem (by rw [HL8.out]; omega)⟩
          have hcg := HGS.out k g hg
          have hg16 := HLE.out g (List.mem_of_getElem? hg)
          have hstep := P.digS_step L k g hg
          have hdl := P.digS_len L k (by omega)
          have HSt := Lib.hid hstep
          clear hg hstep
          have hS' : S.size ≤ 41 := by rw [hSe.out, size_of_list]; omega
          obtain ⟨base, hbase, hbl⟩ : ∃ base : List UInt8, (if 0 < k then P.digS L k ++ [58] else P.digS L k) = base ∧ base.length ≤ 45 := ⟨_, rfl, by split <;> first | (simp; omega) | omega⟩
          rw [hbase] at HSt
          have HBa := Lib.hid hbase
          clear hbase
          by_cases h0 : 0 < k
          · have HSb := Lib.hid (show S ++ ⟨#[58]⟩ = ⟨base.toArray⟩ by
              rw [hSe.out, show (⟨#[58]⟩ : ByteArray) = ⟨([58] : List UInt8).toArray⟩ from rfl, str_app, ← HBa.out, if_pos h0])
            have h58 : (⟨#[58]⟩ : ByteArray).size = 1 := rfl
            go_wp2_with fail
            go_loopw [7, 9] (fun u7 u9 wr => ∃ (r q : Nat) (S2 : ByteArray), u9 = .int .i64 (12 - 4 * r : Int) ∧ r ≤ 4 ∧ u7 = .string S2 ∧ wr = w2.drewN q ∧ S2.size ≤ 46 + r ∧ Hid (S2 = ⟨(base ++ (P.up4 g).take r).toArray⟩)) (fun _ u9 _ => (intOf u9 + 4).toNat)
            case atStart => exact ⟨0, q, _, rfl, by omega, rfl, rfl, by first | omega | (rw [ByteArray.size_append, h58]; omega), Lib.hid (by rw [HSb.out]; simp)⟩
            case round =>
              obtain ⟨r, q2, S2, rfl, hr, rfl, rfl, hz2, hS2⟩ := hrel
              rcases (show r = 4 ∨ r = 0 ∨ r = 1 ∨ r = 2 ∨ r = 3 by omega) with rfl | rfl | rfl | rfl | rfl
              · have hS3 := hS2.out
                rw [show (P.up4 g).take 4 = P.up4 g from rfl, ← HSt.out] at hS3
                have HS3 := Lib.hid hS3
                clear hS3 hS2
                go_wp2_with fail
                go_roundw
                case rel => exact ⟨k + 1, q2, S2, by go_num, rfl, by omega, rfl, by omega, HS3⟩
                case measure => simp [intOf]; omega
              · go_wp2_with fail
                go_quiet (fail)
                go_wp2_with fail
                rw [up_extract (g / 4096 % 16) (by omega)]
                refine ⟨⟨1, _, _, rfl, by omega, rfl, rfl, by rw [ByteArray.size_append]; show S2.size + 1 ≤ 46 + 1; omega, Lib.hid (by
                  rw [hS2.out, show (⟨#[P.upC (g / 4096 % 16)]⟩ : ByteArray) = ⟨([P.upC (g / 4096 % 16)] : List UInt8).toArray⟩ from rfl, str_app]
                  simp [P.up4])⟩, by simp [intOf]⟩
              · go_wp2_with fail
                go_quiet (fail)
                go_wp2_with fail
                rw [up_extract (g / 256 % 16) (by omega)]
                refine ⟨⟨2, _, _, rfl, by omega, rfl, rfl, by rw [ByteArray.size_append]; show S2.size + 1 ≤ 46 + 2; omega, Lib.hid (by
                  rw [hS2.out, show (⟨#[P.upC (g / 256 % 16)]⟩ : ByteArray) = ⟨([P.upC (g / 256 % 16)] : List UInt8).toArray⟩ from rfl, str_app]
                  simp [P.up4])⟩, by simp [intOf]⟩
              · go_wp2_with fail
                go_quiet (fail)
                go_wp2_with fail
                rw [up_extract (g / 16 % 16) (by omega)]
                refine ⟨⟨3, _, _, rfl, by omega, rfl, rfl, by rw [ByteArray.size_append]; show S2.size + 1 ≤ 46 + 3; omega, Lib.hid (by
                  rw [hS2.out, show (⟨#[P.upC (g / 16 % 16)]⟩ : ByteArray) = ⟨([P.upC (g / 16 % 16)] : List UInt8).toArray⟩ from rfl, str_app]
                  simp [P.up4])⟩, by simp [intOf]⟩
              · go_wp2_with fail
                go_quiet (fail)
                go_wp2_with fail
                rw [up_extract (g % 16) (by omega)]
                refine ⟨⟨4, _, _, rfl, by omega, rfl, rfl, by rw [ByteArray.size_append]; show S2.size + 1 ≤ 46 + 4; omega, Lib.hid (by
                  rw [hS2.out, show (⟨#[P.upC (g % 16)]⟩ : ByteArray) = ⟨([P.upC (g % 16)] : List UInt8).toArray⟩ from rfl, str_app]
                  simp [P.up4])⟩, by simp [intOf]⟩
          · have HSb := Lib.hid (show S = ⟨base.toArray⟩ by rw [hSe.out, ← HBa.out, if_neg h0])
            go_wp2_with fail
            go_loopw [7, 9] (fun u7 u9 wr => ∃ (r q : Nat) (S2 : ByteArray), u9 = .int .i64 (12 - 4 * r : Int) ∧ r ≤ 4 ∧ u7 = .string S2 ∧ wr = w2.drewN q ∧ S2.size ≤ 46 + r ∧ Hid (S2 = ⟨(base ++ (P.up4 g).take r).toArray⟩)) (fun _ u9 _ => (intOf u9 + 4).toNat)
            case atStart => exact ⟨0, q, _, rfl, by omega, rfl, rfl, by first | omega | (rw [ByteArray.size_append, h58]; omega), Lib.hid (by rw [HSb.out]; simp)⟩
            case round =>
              obtain ⟨r, q2, S2, rfl, hr, rfl, rfl, hz2, hS2⟩ := hrel
              rcases (show r = 4 ∨ r = 0 ∨ r = 1 ∨ r = 2 ∨ r = 3 by omega) with rfl | rfl | rfl | rfl | rfl
              · have hS3 := hS2.out
                rw [show (P.up4 g).take 4 = P.up4 g from rfl, ← HSt.out] at hS3
                have HS3 := Lib.hid hS3
                clear hS3 hS2
                go_wp2_with fail
                go_roundw
                case rel => exact ⟨k + 1, q2, S2, by go_num, rfl, by omega, rfl, by omega, HS3⟩
                case measure => simp [intOf]; omega
              · go_wp2_with fail
                go_quiet (fail)
                go_wp2_with fail
                rw [up_extract (g / 4096 % 16) (by omega)]
                refine ⟨⟨1, _, _, rfl, by omega, rfl, rfl, by rw [ByteArray.size_append]; show S2.size + 1 ≤ 46 + 1; omega, Lib.hid (by
                  rw [hS2.out, show (⟨#[P.upC (g / 4096 % 16)]⟩ : ByteArray) = ⟨([P.upC (g / 4096 % 16)] : List UInt8).toArray⟩ from rfl, str_app]
                  simp [P.up4])⟩, by simp [intOf]⟩
              · go_wp2_with fail
                go_quiet (fail)
                go_wp2_with fail
                rw [up_extract (g / 256 % 16) (by omega)]
                refine ⟨⟨2, _, _, rfl, by omega, rfl, rfl, by rw [ByteArray.size_append]; show S2.size + 1 ≤ 46 + 2; omega, Lib.hid (by
                  rw [hS2.out, show (⟨#[P.upC (g / 256 % 16)]⟩ : ByteArray) = ⟨([P.upC (g / 256 % 16)] : List UInt8).toArray⟩ from rfl, str_app]
                  simp [P.up4])⟩, by simp [intOf]⟩
              · go_wp2_with fail
                go_quiet (fail)
                go_wp2_with fail
                rw [up_extract (g / 16 % 16) (by omega)]
                refine ⟨⟨3, _, _, rfl, by omega, rfl, rfl, by rw [ByteArray.size_append]; show S2.size + 1 ≤ 46 + 3; omega, Lib.hid (by
                  rw [hS2.out, show (⟨#[P.upC (g / 16 % 16)]⟩ : ByteArray) = ⟨([P.upC (g / 16 % 16)] : List UInt8).toArray⟩ from rfl, str_app]
                  simp [P.up4])⟩, by simp [intOf]⟩
              · go_wp2_with fail
                go_quiet (fail)
                go_wp2_with fail
                rw [up_extract (g % 16) (by omega)]
                refine ⟨⟨4, _, _, rfl, by omega, rfl, rfl, by rw [ByteArray.size_append]; show S2.size + 1 ≤ 46 + 4; omega, Lib.hid (by
                  rw [hS2.out, show (⟨#[P.upC (g % 16)]⟩ : ByteArray) = ⟨([P.upC (g % 16)] : List UInt8).toArray⟩ from rfl, str_app]
                  simp [P.up4])⟩, by simp [intOf]⟩
        · obtain rfl : k = 8 := by omega
          have hbw := below_drewN HB2.out q
          have hA4 := HA2.out.below (below_drewN (Below.refl w2.heap.size w2) q) (by omega)
          have hs4 : w2.heap.size ≤ (w2.drewN q).heap.size := Nat.le_refl _
          have htl := HTail.out
          generalize w2.drewN q = W4 at *
          have h93 : (⟨#[93]⟩ : ByteArray).size = 1 := rfl
          have HFin := Lib.hid (show S ++ ⟨#[93]⟩ ++ D = (⟨(P.digT L p.toNat).toArray⟩ : ByteArray) by rw [HDig.out, hSe.out])
          have HCP := Lib.hid (HPA.out W4 hbw (by rw [← HFin.out, ByteArray.size_append, ByteArray.size_append, h93]; omega))
          rw [← HFin.out] at HCP
          clear hSe
          go_wp2_with fail
          with_reducible refine HCP.out.mono ?_
          rintro e w5 ⟨rfl, hb5⟩
          have hA5 := hA4.below hb5 (by omega)
          have hs5 := hb5.size
          have hbw5 := hbw.trans (hb5.mono hbw.size)
          have heql : ∀ W, (binOp .eql 36 (.agg #[.int .i8 6, .int .u16 (x0 : Int), .int .u16 (x1 : Int), .int .u16 (x2 : Int), .int .u16 (x3 : Int), .int .u16 (x4 : Int), .int .u16 (x5 : Int), .int .u16 (x6 : Int), .int .u16 (x7 : Int), .int .i64 p]) (.agg #[.int .i8 6, .int .u16 (x0 : Int), .int .u16 (x1 : Int), .int .u16 (x2 : Int), .int .u16 (x3 : Int), .int .u16 (x4 : Int), .int .u16 (x5 : Int), .int .u16 (x6 : Int), .int .u16 (x7 : Int), .int .i64 p])).run Tryd.prog W = .ok (.bool true) W := by
            intro W
            rw [run_eql_struct, HQ.out W]
            simp
          have hgd := guard_addr
          have HEQ := Lib.hid heql
          have HGD := Lib.hid hgd
          clear heql hgd hA4
          go_upto_region 26 with fail
          have hT6 : A10 (w5.alloc (Obj.cells #[.int .i8 6, .int .u16 (x0 : Int), .int .u16 (x1 : Int), .int .u16 (x2 : Int), .int .u16 (x3 : Int), .int .u16 (x4 : Int), .int .u16 (x5 : Int), .int .u16 (x6 : Int), .int .u16 (x7 : Int), .int .i64 p] 36)) w5.heap.size 6 x0 x1 x2 x3 x4 x5 x6 x7 p := by
            constructor
            all_goals first | (rw [World.cell?_alloc_new]; rfl) | (intro j; exact World.frozen?_alloc_new _ _ _ _)
          have hA6 : A10 (w5.alloc (Obj.cells #[.int .i8 6, .int .u16 (x0 : Int), .int .u16 (x1 : Int), .int .u16 (x2 : Int), .int .u16 (x3 : Int), .int .u16 (x4 : Int), .int .u16 (x5 : Int), .int .u16 (x6 : Int), .int .u16 (x7 : Int), .int .i64 p] 36)) w.heap.size 6 x0 x1 x2 x3 x4 x5 x6 x7 p := hA5.below ((Below.refl w5.heap.size w5).alloc (Nat.le_refl _) _) (by omega)
          have hbw6 : Below w.heap.size w (w5.alloc (Obj.cells #[.int .i8 6, .int .u16 (x0 : Int), .int .u16 (x1 : Int), .int .u16 (x2 : Int), .int .u16 (x3 : Int), .int .u16 (x4 : Int), .int .u16 (x5 : Int), .int .u16 (x6 : Int), .int .u16 (x7 : Int), .int .i64 p] 36)) := hbw5.alloc hbw5.size _
          generalize w5.alloc (Obj.cells #[.int .i8 6, .int .u16 (x0 : Int), .int .u16 (x1 : Int), .int .u16 (x2 : Int), .int .u16 (x3 : Int), .int .u16 (x4 : Int), .int .u16 (x5 : Int), .int .u16 (x6 : Int), .int .u16 (x7 : Int), .int .i64 p] 36) = W6 at *
          have HW := Lib.hid (wakes_any W6 (HE.out.below hbw6))
          have heql := HEQ.out
          have hgd := HGD.out
          clear hA5
          obtain ⟨d0, d1, d2, d3, d4, d5, d6, d7, d8, d9, dz⟩ := hT6
          obtain ⟨c0, c1, c2, c3, c4, c5, c6, c7, c8, c9, fz⟩ := hA6
          go_wp2_with fail
          with_reducible refine HW.out.mono ?_
          rintro e w7 ⟨rfl, hb7⟩
          go_wp2_with fail
          go_ret
          exact ⟨rfl, hbw6.trans (hb7.mono hbw6.size)⟩

theorem digits_walk (a : Ad) (w : World) (ha : a.Ok) (hE : Env w) :
    Calls Tryd.prog 6 #[a.v] w fun e w' => e = .returned (.bool true) ∧ Below w.heap.size w w' := by
  by_cases h : mayP a = true ∧ a.f = 6
  · exact digits_yes a w h.1 h.2 ha hE
  · exact digits_no a w h hE
end Go.Proofs.YtbejnnkdgcelmaaDoor
