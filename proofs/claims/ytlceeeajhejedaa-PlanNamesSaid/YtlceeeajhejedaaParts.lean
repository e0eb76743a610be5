/- A plan's parts: zones and rows of fates as values of one kind. -/
import Derived.Test.YtlceeeajhejedaaCounts
import Derived.Laws.Build
set_option linter.unusedSimpArgs false
set_option linter.unusedVariables false
namespace Go.Proofs.Ytlceeeajhejedaa
open Go.RowKit Go.Proofs.Ytlceeeajhejedaa.Kind

inductive Pt where
  | z (x : Zv)
  | f (x : Fv)
def Zv.v (x : Zv) : Value := .agg #[.string x.name, .slice x.h.a x.h.n x.h.c]
def Fv.v (x : Fv) : Value := .agg #[.int .i8 x.ad.f, .int .u16 x.ad.g0, .int .u16 x.ad.g1, .int .u16 x.ad.g2, .int .u16 x.ad.g3, .int .u16 x.ad.g4, .int .u16 x.ad.g5, .int .u16 x.ad.g6, .int .u16 x.ad.g7, .int .i64 x.ad.p, .slice x.h.a x.h.n x.h.c]
def Pt.v : Pt → Value
  | .z x => .iface 36 x.v
  | .f x => .iface 39 x.v
def PK : Kind Try.prog Pt where
  enc := fun x => [x.v]
  k := 1
  T := 76
  S := 71
  z := .nilIface
  bytes := 16
  hk := fun _ => rfl
  h1 := by
    intro x v hv
    simp only [List.mem_cons, List.not_mem_nil, or_false] at hv
    subst hv
    cases x <;> rfl
  hu := Try.underlying71
  hi := by kernel_rfl
  hz := rfl
  hk0 := by decide
  hb := by decide
theorem PK.one {w : World} {b o : Nat} {l : List Pt} (h : PK.At w b o l) {j : Nat} {x : Pt} (hx : l[j]? = some x) : w.cell? ⟨b, o + j, none⟩ = some x.v := by
  have h1 := h j x hx 0 _ rfl
  have e : o + j * PK.k + 0 = o + j := by show o + j * 1 + 0 = o + j; omega
  rwa [e] at h1

theorem cells2 {w : World} {g : Nat} {x y : Value} {t : TypeId} (h : w.heap[g]? = some (.cells #[x, y] t (0, 0))) : w.cell? ⟨g, 0, none⟩ = some x ∧ w.cell? ⟨g, 1, none⟩ = some y := by
  simp [World.cell?, h]
theorem take_next {α : Type} {l : List α} {k : Nat} {x : α} (hx : l[k]? = some x) : l.take (k + 1) = l.take k ++ [x] := by rw [List.take_add_one, hx]; rfl
theorem map_take_next {α β : Type} (f : α → β) {l : List α} {k : Nat} {x : α} (hx : l[k]? = some x) : (l.take (k + 1)).map f = (l.take k).map f ++ [f x] := by rw [take_next hx]; simp

set_option maxHeartbeats 8000000 in
set_option maxRecDepth 1000000 in
theorem parts_any (P : Pl) (v : Pv) (zs : List Zv) (fs : List Fv) (w : World) (hz : ZK.RowC w v.za v.zc zs) (hf : FK.RowC w v.fa v.fc fs) (hzl : P.zones.length = zs.length) (hfl : P.fates.length = fs.length) (hz8 : zs.length ≤ 8) (hf32 : fs.length ≤ 32) :
    Calls Try.prog 28 #[v.val P] w fun e w' => ∃ a c, e = .returned (.slice a (zs.map Pt.z ++ fs.map Pt.f).length c) ∧ PK.RowC w' a c (zs.map Pt.z ++ fs.map Pt.f) ∧ Below w.heap.size w w' := by
  obtain ⟨za, zc, fa, fc, da, dc⟩ := v
  obtain ⟨Zs, Fs, t, ds⟩ := P
  simp only [Pv.val]
  dsimp only at hz hf hzl hfl
  rw [hzl, hfl]
  clear hzl hfl
  obtain ⟨o1, ho1⟩ : ∃ o1 : Obj, o1 = .cells #[.slice za zs.length zc, .slice fa fs.length fc, .int .i64 t, .slice da ds.length dc] 26 := ⟨_, rfl⟩
  have HB := Lib.hid (below1 w o1)
  have HL := Lib.hid (laid1 w o1)
  have HZ := Lib.hid (hz.below (below1 w o1))
  have HF := Lib.hid (hf.below (below1 w o1))
  rw [ho1] at HB HL HZ HF
  clear ho1 hz hf
  obtain ⟨W1, hW1⟩ : ∃ W1, W1 = w.alloc (.cells #[.slice za zs.length zc, .slice fa fs.length fc, .int .i64 t, .slice da ds.length dc] 26) := ⟨_, rfl⟩
  have hN : W1.heap.size = w.heap.size + 1 := by rw [hW1]; simp
  rw [← hW1] at HB HL HZ HF
  go_enter Try.func28, Try.ntmps28
  go_upto_region 1 with fail
  rw [← hW1]
  clear hW1
  obtain ⟨⟨x0, x1, x2, x3⟩, _⟩ := box4 HL.out
  go_wp2_with fail
  go_loopw [3, 11] (fun r i wr => ∃ (k : Nat) (a : Option Addr) (c : Nat), r = .slice a k c ∧ i = .int .i64 k ∧ k ≤ zs.length ∧ PK.Dst wr W1.heap.size (.slice a k c) ((zs.take k).map Pt.z) ∧ Below W1.heap.size W1 wr) (fun _ i _ => zs.length - (intOf i).toNat)
  case atStart => exact ⟨0, none, 0, rfl, rfl, by omega, dst_nil _ _, Below.refl _ _⟩
  case round =>
    obtain ⟨k, a, c, rfl, rfl, hk, hd, hb⟩ := hrel
    have HD := Lib.hid hd
    have HBr := Lib.hid hb
    have hbs := hb.size
    clear hd hb
    by_cases hki : k < zs.length
    · obtain ⟨x, hx⟩ : ∃ x, zs[k]? = some x := ⟨_, List.getElem?_eq_getElem hki⟩
      obtain ⟨b, o, rfl, hbl, hat⟩ := HZ.out.2.2.2 (by omega)
      obtain ⟨y0, y1⟩ := ZK.two (hat.below HBr.out hbl) hx
      have HX := Lib.hid hx
      clear hx hat
      have hln : ((zs.take k).map Pt.z ++ [Pt.z x]).length = k + 1 := by simp; omega
      have HMT := Lib.hid (map_take_next Pt.z HX.out)
      go_wp2_with (at_builtin; refine PK.wpList_append_rows rfl _ _ rfl W1.heap.size (.slice a k c) rfl ((zs.take k).map Pt.z) (HD.out.below (below2 wr _ _) (Nat.le_refl _)) (some ⟨wr.heap.size + 1, 0, none⟩) 1 1 rfl [Pt.z x] rfl (rowC_at (K := PK) _ 76 [Pt.z x] _ _ 1 (by simp) rfl rfl (by simp)) (by simp; omega) (by simp; omega) ?_; intro a1 c1 w2 hD hM hB; rw [hln] at hD ⊢; have HD2 := Lib.hid hD; have HB2 := Lib.hid (HBr.out.trans (((below2 wr _ _).mono hbs).trans hB)); clear hD hM hB)
      go_roundw
      case rel => exact ⟨k + 1, a1, c1, rfl, by go_num, by omega, by rw [HMT.out]; exact HD2.out, HB2.out⟩
      case measure => simp [intOf]; omega
    · obtain rfl : k = zs.length := by omega
      have HD0 := Lib.hid (show PK.Dst wr W1.heap.size (.slice a zs.length c) (zs.map Pt.z) by have := HD.out; rwa [List.take_of_length_le (Nat.le_refl _)] at this)
      have hlt : w.heap.size < W1.heap.size := by omega
      have HL2 := Lib.hid ((HBr.out.block w.heap.size hlt).trans HL.out)
      clear x0 x1 x2 x3 HD
      obtain ⟨⟨x0, x1, x2, x3⟩, _⟩ := box4 HL2.out
      obtain ⟨w3, hw3⟩ : ∃ w3 : World, w3 = wr := ⟨_, rfl⟩
      go_wp2_with fail
      go_loopw [3, 24] (fun r i wr' => ∃ (k a c : _) (hk : k ≤ fs.length), r = .slice a (zs.length + k) c ∧ i = .int .i64 (k : Nat) ∧ PK.Dst wr' W1.heap.size (.slice a (zs.length + k) c) (zs.map Pt.z ++ (fs.take k).map Pt.f) ∧ Below W1.heap.size W1 wr') (fun _ i _ => fs.length - (intOf i).toNat)
      case atStart => exact ⟨0, a, c, by omega, by simp, rfl, by simpa using HD0.out, HBr.out⟩
      case round =>
        obtain ⟨k, a, c, hk, rfl, rfl, hd, hb⟩ := hrel
        have HD := Lib.hid hd
        have HBr := Lib.hid hb
        have hbs := hb.size
        clear hd hb
        by_cases hki : k < fs.length
        · obtain ⟨x, hx⟩ : ∃ x, fs[k]? = some x := ⟨_, List.getElem?_eq_getElem hki⟩
          obtain ⟨b, o, rfl, hbl, hat⟩ := HF.out.2.2.2 (by omega)
          obtain ⟨⟨y0, y1, y2, y3, y4, y5⟩, y6, y7, y8, y9, y10⟩ := FK.row11 (hat.below HBr.out hbl) hx
          have HX := Lib.hid hx
          have HMT := Lib.hid (map_take_next Pt.f hx)
          clear hx hat
          have hln : ((zs.map Pt.z ++ (fs.take k).map Pt.f) ++ [Pt.f x]).length = zs.length + (k + 1) := by simp; omega
          go_wp2_with (at_builtin; refine PK.wpList_append_rows rfl _ _ rfl W1.heap.size (.slice a (zs.length + k) c) rfl (zs.map Pt.z ++ (fs.take k).map Pt.f) (HD.out.below (below2 wr _ _) (Nat.le_refl _)) (some ⟨wr.heap.size + 1, 0, none⟩) 1 1 rfl [Pt.f x] rfl (rowC_at (K := PK) _ 76 [Pt.f x] _ _ 1 (by simp) rfl rfl (by simp)) (by simp; omega) (by simp; omega) ?_; intro a1 c1 w2 hD hM hB; rw [hln] at hD ⊢; have HD2 := Lib.hid hD; have HB2 := Lib.hid (HBr.out.trans (((below2 wr _ _).mono hbs).trans hB)); clear hD hM hB)
          go_roundw
          case rel => exact ⟨k + 1, a1, c1, by omega, rfl, by go_num, by rw [HMT.out, ← List.append_assoc]; exact HD2.out, HB2.out⟩
          case measure => simp [intOf]; omega
        · obtain rfl : k = fs.length := by omega
          go_wp2_with fail
          go_ret
          have h1 := HD.out
          rw [List.take_of_length_le (Nat.le_refl _)] at h1
          obtain ⟨a2, c2, e, hm⟩ := h1.mine
          injection e with e1 e2 e3
          subst e1 e3
          exact ⟨a, c, by simp, hm.row, HB.out.trans (HBr.out.mono (by omega))⟩
end Go.Proofs.Ytlceeeajhejedaa
