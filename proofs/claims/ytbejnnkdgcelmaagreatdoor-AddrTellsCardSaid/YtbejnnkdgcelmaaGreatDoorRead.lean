/- Groups of family 6 and bytes of family 4 read. -/
import Derived.Test.YtbejnnkdgcelmaaGreatDoorNum
import Derived.Lib.Split
set_option linter.unusedSimpArgs false
set_option linter.unusedVariables false
namespace Go.Proofs.YtbejnnkdgcelmaaGreatDoor.P
def grpsF : List (List UInt8) → Option (List Nat)
  | [] => some []
  | p :: ps => match grpP p with
    | none => none
    | some g => (grpsF ps).map (g :: ·)
def grpsP (l : List UInt8) : Option (List Nat) := if l = [] then some [] else grpsF (Lib.splitN l [58] 9)
def fourF : Nat → Nat → Nat → List (List UInt8) → Option (Nat × Nat)
  | _, x, y, [] => some (x, y)
  | k, x, y, p :: ps => match numP 255 p with
    | none => none
    | some n => if k < 2 then fourF (k + 1) (x * 256 + n) y ps else fourF (k + 1) x (y * 256 + n) ps
def fourP (l : List UInt8) : Option (Nat × Nat) := if (Lib.splitN l [46] 5).length = 4 then fourF 0 0 0 (Lib.splitN l [46] 5) else none
theorem grpF_le : ∀ (l : List UInt8) (n g : Nat), grpF n l = some g → g < 16 ^ l.length * (n + 1)
  | [], n, g, h => by simp [grpF] at h; subst h; simp
  | b :: l, n, g, h => by
    unfold grpF at h
    cases hb : hexB b with
    | none => rw [hb] at h; cases h
    | some d =>
      rw [hb] at h
      have h1 := grpF_le l _ g h
      have hd : d ≤ 15 := by
        unfold hexB at hb
        split at hb
        · simp at hb; omega
        · split at hb
          · simp at hb; omega
          · split at hb
            · simp at hb; omega
            · cases hb
      have h2 : 16 ^ l.length * (16 * n + d + 1) ≤ 16 ^ l.length * (16 * (n + 1)) := Nat.mul_le_mul_left _ (by omega)
      rw [List.length_cons, Nat.pow_succ, Nat.mul_assoc]
      omega
theorem grpP_le (l : List UInt8) (g : Nat) (h : grpP l = some g) : g ≤ 65535 := by
  unfold grpP at h
  split at h
  · cases h
  · rename_i hn
    have h1 := grpF_le l 0 g h
    have h2 : 16 ^ l.length ≤ 16 ^ 4 := Nat.pow_le_pow_right (by omega) (by
      by_cases h : 4 < l.length
      · exact absurd (.inr h) hn
      · omega)
    omega
theorem numF_le (most : Nat) : ∀ (l : List UInt8) (n g : Nat), n ≤ most → numF most n l = some g → g ≤ most
  | [], n, g, h0, h => by simp [numF] at h; omega
  | b :: l, n, g, h0, h => by
    unfold numF at h
    split at h
    · split at h
      · exact numF_le most l _ g (by assumption) h
      · cases h
    · cases h
theorem numP_le (most : Nat) (l : List UInt8) (g : Nat) (h : numP most l = some g) : g ≤ most := by
  unfold numP at h
  split at h
  · cases h
  · split at h
    · cases h
    · exact numF_le most l 0 g (by omega) h
theorem splitK_len (sep : List UInt8) : ∀ (k : Nat) (s : List UInt8), 1 ≤ (Lib.splitK sep 0 k s).length ∧ (Lib.splitK sep 0 k s).length ≤ k + 1
  | 0, s => by simp [Lib.splitK]
  | k + 1, s => by
    unfold Lib.splitK
    split
    · simp
    · have := splitK_len sep k (s.drop ((Lib.index s sep).toNat + sep.length))
      simp; omega
theorem splitN_len (l sep : List UInt8) (n : Nat) (hn : 1 ≤ n) : 1 ≤ (Lib.splitN l sep n).length ∧ (Lib.splitN l sep n).length ≤ n := by
  have := splitK_len sep (min n (l.length + 1) - 1) l
  unfold Lib.splitN
  omega
theorem splitK_sub (sep : List UInt8) : ∀ (k : Nat) (s : List UInt8), ∀ p ∈ Lib.splitK sep 0 k s, p.length ≤ s.length
  | 0, s, p, h => by simp [Lib.splitK] at h; subst h; exact Nat.le_refl _
  | k + 1, s, p, h => by
    unfold Lib.splitK at h
    split at h
    · simp at h; subst h; exact Nat.le_refl _
    · rw [List.mem_cons] at h
      rcases h with rfl | h
      · simp; omega
      · have := splitK_sub sep k _ p h
        simp at this; omega
end Go.Proofs.YtbejnnkdgcelmaaGreatDoor.P
namespace Go.Proofs.YtbejnnkdgcelmaaGreatDoor
open Go.RowKit

/-- Texts lie in cells. -/
def TsAt (w : World) (b o : Nat) (ps : List (List UInt8)) : Prop := ∀ (j : Nat) (p : List UInt8), ps[j]? = some p → w.cell? ⟨b, o + j, none⟩ = some (.string ⟨p.toArray⟩)
theorem TsAt.below {w w' : World} {b o n : Nat} {l : List (List UInt8)} (h : TsAt w b o l) (hb : Below n w w') (hn : b < n) : TsAt w' b o l :=
  fun j g hg => (hb.cell hn).trans (h j g hg)

/-- strings.SplitN at a sign of one byte. -/
theorem splitN_any (s : ByteArray) (c : UInt8) (n : Nat) (w : World) (hs : s.size ≤ 4000) (hn : 1 ≤ n) (hn' : n ≤ 1000) (hE : Env w) :
    Calls Tryz.prog 65 #[.string s, .string ⟨#[c]⟩, .int .i64 n] w fun e w' =>
      ∃ cap, e = .returned (.slice (some ⟨w.heap.size, 0, none⟩) (Lib.splitN s.data.toList [c] n).length cap) ∧ TsAt w' w.heap.size 0 (Lib.splitN s.data.toList [c] n) ∧ w.heap.size < w'.heap.size ∧ Below w.heap.size w w' := by
  obtain ⟨m, hm⟩ := hE.max
  have hsz : s.data.toList.length = s.size := by simp
  have e0 := Lib.splitB_data ⟨#[c]⟩ 0 (min n (s.size + 1) - 1) s
  have e1 : (Lib.splitB ⟨#[c]⟩ 0 (min n (s.size + 1) - 1) s).map (·.data.toList) = Lib.splitN s.data.toList [c] n := by
    rw [e0, Lib.splitN, hsz]
  have e2 : (Lib.splitB ⟨#[c]⟩ 0 (min n (s.size + 1) - 1) s).length = (Lib.splitN s.data.toList [c] n).length := by rw [← e1, List.length_map]
  refine (Tryz.strings_SplitN s ⟨#[c]⟩ n m w (by omega) hm (by show 1 ≤ 1; omega) hn (by omega)).mono fun e w' ⟨he, hw⟩ => ⟨min n (s.size + 1), by rw [he, e2], ?_, by rw [hw]; simp, by rw [hw]; exact (Below.refl _ w).alloc (Nat.le_refl _) _⟩
  intro j p hp
  rw [← e1, List.getElem?_map, Option.map_eq_some_iff] at hp
  obtain ⟨x, hx, rfl⟩ := hp
  have hj : j < (Lib.splitB ⟨#[c]⟩ 0 (min n (s.size + 1) - 1) s).length := (List.getElem?_eq_some_iff.1 hx).1
  rw [hw, World.cell?_alloc_new, Nat.zero_add]
  unfold Lib.cellsOf
  rw [List.getElem?_toArray, List.getElem?_append_left (by simpa using hj), List.getElem?_map, hx]
  simp

theorem grpsF_cons (p : List UInt8) (ps : List (List UInt8)) (g : Nat) (h : P.grpP p = some g) : P.grpsF (p :: ps) = (P.grpsF ps).map (g :: ·) := by rw [P.grpsF, h]
theorem grpsF_none (p : List UInt8) (ps : List (List UInt8)) (h : P.grpP p = none) : P.grpsF (p :: ps) = none := by rw [P.grpsF, h]
def P.u16s (l : List Nat) : List Value := l.map fun (g : Nat) => Value.int .u16 g

set_option maxHeartbeats 4000000 in
set_option maxRecDepth 1000000 in
theorem readGroups_any (s : ByteArray) (w : World) (hs : s.size ≤ 4000) (hE : Env w) :
    Calls Tryz.prog 64 #[.string s] w fun e w' => ∃ v, e = .returned (.tuple #[v, .bool (P.grpsP s.data.toList).isSome]) ∧
      w'.ownsRow w.heap.size 23 1 v ((P.grpsP s.data.toList).getD []).length (P.u16s ((P.grpsP s.data.toList).getD [])) ∧ Below w.heap.size w w' := by
  obtain ⟨i0, hi, hz0, hz1, hz2⟩ := info_parts iU16
  have hlen : s.data.toList.length = s.size := by simp
  by_cases hz : s.size = 0
  · have hnil : s.data.toList = [] := List.length_eq_zero_iff.1 (by omega)
    have HN := Lib.hid (show P.grpsP s.data.toList = some [] by rw [hnil]; rfl)
    have he : s.toList.isEmpty = true := by rw [ByteArray.toList_eq, hnil]; rfl
    clear hnil
    go_enter Tryz.func64, Tryz.ntmps64
    go_wp2_with fail
    go_ret2
    rw [HN.out]
    exact ⟨_, rfl, World.ownsRow_nil _ _ _ _, Below.refl _ _⟩
  · have he : s.toList.isEmpty = false := by
      rw [ByteArray.toList_eq]
      cases h : s.data.toList with
      | nil => rw [h] at hlen; simp at hlen; omega
      | cons _ _ => rfl
    have hne : s.data.toList ≠ [] := by intro h; rw [h] at hlen; simp at hlen; omega
    obtain ⟨ps, hps⟩ : ∃ ps, Lib.splitN s.data.toList [58] 9 = ps := ⟨_, rfl⟩
    have HN := Lib.hid (show P.grpsP s.data.toList = P.grpsF ps by unfold P.grpsP; rw [if_neg hne, hps])
    have HS := splitN_any s 58 9 w hs (by omega) (by omega) hE
    have hpl := P.splitN_len s.data.toList [58] 9 (by omega)
    have hsub : ∀ p ∈ ps, p.length ≤ 4000 := by
      intro p hp
      rw [← hps] at hp
      have := P.splitK_sub [58] _ _ p hp
      omega
    rw [hps, show ((9 : Nat) : Int) = 9 from rfl] at HS
    rw [hps] at hpl
    have HSub := Lib.hid hsub
    have HS2 := Lib.hid HS
    have HE := Lib.hid hE
    clear hne hlen hps HS hsub hE
    go_enter Tryz.func64, Tryz.ntmps64
    go_wp2_with fail
    with_reducible refine HS2.out.mono ?_
    rintro e w1 ⟨cap, rfl, hTS, hB1, hb1⟩
    have HTS := Lib.hid hTS
    have hbs1 := hb1.size
    clear hTS HS2
    go_wp2_with fail
    go_loopw [2, 13] (fun u2 i wr => ∃ (k : Nat) (gs : List Nat), i = .int .i64 k ∧ k ≤ ps.length ∧ gs.length = k ∧ Below w1.heap.size w1 wr ∧ wr.ownsRow w1.heap.size 23 1 u2 k (P.u16s gs) ∧ Hid ((P.grpsF (ps.drop k)).map (gs ++ ·) = P.grpsF ps)) (fun _ i _ => ps.length - (intOf i).toNat)
    case atStart => exact ⟨0, [], rfl, by omega, rfl, Below.refl _ _, World.ownsRow_nil _ _ _ _, Lib.hid (by simp)⟩
    case round =>
      obtain ⟨k, gs, rfl, hk, hgl, hbw, hown, hc⟩ := hrel
      have hbs := hbw.size
      have hb2 := hb1.trans (hbw.mono hbs1)
      by_cases hlt : k < ps.length
      · obtain ⟨p, hp⟩ : ∃ p, ps[k]? = some p := ⟨_, List.getElem?_eq_getElem hlt⟩
        have hcell := (HTS.out.below hbw hB1) k p hp
        rw [Nat.zero_add] at hcell
        have hpd : ps.drop k = p :: ps.drop (k + 1) := by rw [List.drop_eq_getElem_cons hlt, (List.getElem?_eq_some_iff.1 hp).2]
        have hD := hc.out
        rw [hpd] at hD
        have HR := Lib.hid (readGroup_any ⟨p.toArray⟩ wr (by rw [show (⟨p.toArray⟩ : ByteArray).size = p.length from by simp [ByteArray.size]]; exact HSub.out p (List.mem_of_getElem? hp)))
        rw [show (⟨p.toArray⟩ : ByteArray).data.toList = p from by simp] at HR
        clear hp hpd hc
        generalize (⟨p.toArray⟩ : ByteArray) = S at *
        cases hg : P.grpP p with
        | none =>
          rw [hg] at HR
          rw [grpsF_none _ _ hg] at hD
          have HD := Lib.hid hD
          clear hD hg
          go_wp2_with fail
          with_reducible refine HR.out.mono ?_
          rintro e w2 ⟨rfl, hb3⟩
          go_wp2_with fail
          go_ret2
          refine ⟨.slice none 0 0, ?_, ?_, hb2.trans (hb3.mono hb2.size)⟩
          · rw [HN.out, ← HD.out]; rfl
          · rw [HN.out, ← HD.out]; exact World.ownsRow_nil _ _ _ _
        | some g =>
          rw [hg] at HR
          rw [grpsF_cons _ _ _ hg] at hD
          have HD := Lib.hid (show (P.grpsF (ps.drop (k + 1))).map ((gs ++ [g]) ++ ·) = P.grpsF ps by
            rw [← hD, Option.map_map]; congr 1; funext x; simp)
          have HT := Lib.hid (show P.u16s (gs ++ [g]) = P.u16s gs ++ [.int .u16 g] by simp [P.u16s])
          clear hD hg
          go_wp2_with fail
          with_reducible refine HR.out.mono ?_
          rintro e w2 ⟨rfl, hb3⟩
          have hown2 := own_below' hown hb3
          have hb4 := hbw.trans (hb3.mono hbs)
          have hbs4 := hb4.size
          simp only [Option.getD_some, Option.isSome_some]
          go_wp2_with (at_builtin; refine wpList_append_own _ rfl _ _ 62 rfl w1.heap.size 23 i0 (.int .u16 0) 1 2 Tryz.underlying62 hi hz0 hz1 hz2 rfl (by decide) _ _ _ rfl (hown2.alloc _) ⟨w2.heap.size, 0, none⟩ 1 1 _ rfl rfl (cell_one_new _ _ _) (by intro u hu; simp at hu; subst hu; rfl) (by unfold maxLen; omega) (by omega) (by simp; omega) ?_; intro v' w' hown' hgrow' _)
          go_roundw
          case rel => exact ⟨k + 1, gs ++ [g], by go_num, by omega, by simp [hgl], (hb4.alloc hb4.size _).grown hgrow' (by simp; omega) (fun k hk => (hown2.lt k hk).1), by rw [HT.out]; exact hown', HD⟩
          case measure => simp [intOf]; omega
      · obtain rfl : k = ps.length := by omega
        have hD := hc.out
        rw [List.drop_length, P.grpsF] at hD
        have HD := Lib.hid hD
        clear hD hc
        go_wp2_with fail
        go_ret2
        refine ⟨u2, by rw [HN.out, ← HD.out]; rfl, ?_, hb2⟩
        rw [HN.out, ← HD.out]
        simp only [Option.map_some, List.append_nil, Option.getD_some]
        rw [hgl]
        exact hown.mono hbs1
end Go.Proofs.YtbejnnkdgcelmaaGreatDoor
