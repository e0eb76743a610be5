/- Rows of bytes that a call owns; the bytes of a rune. -/
import Derived.Test.YtpeohgmceadmeaaDoorValid
import Derived.Lib.AppendStr
import Derived.Lib.UnsafeStr
import Derived.Laws.BytesString
import Derived.Laws.OwnMore
import Derived.OwnWalk
namespace Go.Proofs.YtpeohgmceadmeaaDoor
open Go.RowKit

theorem push_bytes : ∀ (l : List UInt8) (s : ByteArray), (l.map fun b => (b.toNat : Int)).foldl (fun r n => r.push (UInt8.ofNat n.toNat)) s = ⟨s.data ++ l.toArray⟩
  | [], s => by simp
  | b :: l, s => by
    rw [List.map_cons, List.foldl_cons, push_bytes l]
    have : UInt8.ofNat ((b.toNat : Int)).toNat = b := by simp
    rw [this]
    apply ByteArray.ext
    show (s.data.push b) ++ l.toArray = _
    apply Array.ext'
    simp

/-- A row of bytes that a call owns, turned into a text. -/
theorem run_own_string {Pr : Program} {w : World} {base : Nat} {e : TypeId} {v : Value} {n : Nat} {l : List UInt8} (src dst : TypeId)
    (hs : Pr.underlying src = some (.slice e)) (he : Pr.underlying e = some (.int .u8)) (hd : Pr.underlying dst = some .string) (h : w.ownsRow base e 1 v n (Lib.byteCells l)) :
    (convert src dst v).run Pr w = .ok (.string ⟨l.toArray⟩) w := by
  have hc : ∀ g, v.ownBlock = some g → ∀ j u, (Lib.byteCells l)[j]? = some u → w.cell? ((⟨g, 0, none⟩ : Addr).add j) = some u := fun g => World.ownsRow.cells h
  rcases h.2 with ⟨rfl, hn⟩ | ⟨g, cap, cur, rfl, _⟩
  · rw [run_convert_bytes_string w src dst e none 0 0 hs he hd]
    have : l = [] := by
      have h1 := h.1
      rw [hn] at h1
      simpa [Lib.byteCells] using h1
    subst this
    rfl
  · rw [run_convert_bytes_string w src dst e _ _ _ hs he hd]
    have hlen : l.length = n := by have h1 := h.1; simpa [Lib.byteCells] using h1
    have hl := run_loadCells_list (P := Pr) (w := w) (⟨g, 0, none⟩ : Addr) (Lib.byteCells l) (fun j u hu => hc g rfl j u hu)
    have hb : Lib.byteCells l = (l.map fun b => (b.toNat : Int)).map (Value.int .u8) := by simp [Lib.byteCells]
    have hl2 : (Lib.byteCells l).length = n := by simpa [Lib.byteCells] using hlen
    rw [hl2, hb] at hl
    rw [run_bytesToString w _ n cap _ hl, push_bytes, show ByteArray.empty.data ++ l.toArray = l.toArray from by apply Array.ext'; simp]

theorem enc_bytes (r : Int) (h0 : 0 ≤ r) (h1 : r ≤ 127) : Lib.encodeRune r = [r.toNat.toUInt8] := by
  rw [Lib.encodeRune, Lib.encodeRuneZ_one h0 h1]; rfl
theorem enc_bytes2 (r : Int) (h0 : 128 ≤ r) (h1 : r ≤ 2047) : Lib.encodeRune r = [(192 + r / 64).toNat.toUInt8, (128 + r % 64).toNat.toUInt8] := by
  rw [Lib.encodeRune, Lib.encodeRuneZ_two h0 h1]; rfl

/-- A rune of one or two bytes is those bytes. -/
theorem one_enc (l : List UInt8) (r n : Nat) (h : P.one l = (r, n)) (hn : n ≠ 0) (hr : r ≤ 591) :
    l.take n = Lib.encodeRune r ∧ (n = 1 ∧ r ≤ 127 ∨ n = 2 ∧ 128 ≤ r) := by
  cases l with
  | nil => simp [P.one] at h; omega
  | cons a l =>
    have ha := a.toNat_lt
    rw [P.one_cons] at h
    have hl : ∀ m q least, (P.long (a :: l) m q least = (r, n)) → least ≤ r ∧ P.acc (m - 1) l q = some r ∧ n = m := by
      intro m q least h1
      rcases P.long_cases (a :: l) m q least with h2 | ⟨x, h2, h3, h4, _⟩
      · rw [h2] at h1; simp at h1; omega
      · rw [h3] at h1
        obtain ⟨rfl, rfl⟩ : x = r ∧ m = n := by simpa using h1
        exact ⟨h4, by simpa using h2, rfl⟩
    split at h
    · obtain ⟨rfl, rfl⟩ : a.toNat = r ∧ 1 = n := by simpa using h
      refine ⟨?_, .inl ⟨rfl, by omega⟩⟩
      rw [enc_bytes _ (by omega) (by omega)]
      simp
    · split at h
      · obtain ⟨h1, h2, rfl⟩ := hl 2 _ _ h
        refine ⟨?_, .inr ⟨rfl, h1⟩⟩
        cases l with
        | nil => simp [P.acc] at h2
        | cons b l =>
          have hb := b.toNat_lt
          rw [enc_bytes2 _ (by omega) (by omega)]
          simp only [P.acc, P.cb] at h2
          by_cases hc : b.toNat / 64 = 2
          · simp [hc] at h2
            have e1 : (192 + (r : Int) / 64).toNat = a.toNat := by omega
            have e2 : (128 + (r : Int) % 64).toNat = b.toNat := by omega
            rw [e1, e2]
            simp
          · simp [hc] at h2
      · split at h
        · obtain ⟨h1, _⟩ := hl 3 _ _ h
          omega
        · split at h
          · obtain ⟨h1, _⟩ := hl 4 _ _ h
            omega
          · simp at h; omega
theorem fol_bound (b r : Int) (h : P.fol b r = true) : r ≤ 591 ∧ r ≠ 215 ∧ (192 ≤ r → P.letB r = true) := by
  unfold P.fol P.letB P.digB at h
  unfold P.letB
  split at h
  · simp; omega
  · split at h
    · simp; omega
    · simp at h ⊢; omega
end Go.Proofs.YtpeohgmceadmeaaDoor
