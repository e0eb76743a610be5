/- The text of a row of addresses: the landed one's, the document's own. -/
import Derived.Test.YtciohjgcndgiaaaGreatDoorRowA3
import Derived.Test.YtciohjgcndgiaaaGreatDoorAnswersLaw
set_option linter.unusedSimpArgs false
set_option linter.unusedVariables false
namespace Go.Proofs.YtciohjgcndgiaaaGreatDoor
open Go.RowKit Go.Proofs.YtciohjgcndgiaaaGreatDoor.Kind

def toR (x : Ad) : R2.Ad := ⟨x.f, x.g0, x.g1, x.g2, x.g3, x.g4, x.g5, x.g6, x.g7, x.p⟩
theorem toR_ok {x : Ad} (h : okA x) : (toR x).Ok := h
theorem rowAt_of {w : World} {a : Option Addr} {c : Nat} {l : List Ad} (h : AK.RowC w a c l) : R2.RowAt w a (l.map toR) := fun hl => by
  obtain ⟨b, o, e, hb, hat⟩ := h.2.2.2 (by simpa using hl)
  refine ⟨b, o, e, hb, fun j x hx i v hv => ?_⟩
  rw [List.getElem?_map] at hx
  obtain ⟨y, hy, rfl⟩ := Option.map_eq_some_iff.1 hx
  exact hat j y hy i v hv
theorem oks_of {l : List Ad} (h : ∀ x ∈ l, okA x) : ∀ x ∈ l.map toR, x.Ok := fun x hx => by
  obtain ⟨y, hy, rfl⟩ := List.mem_map.1 hx
  exact h y hy
def theX : Texts where
  txt := fun l => ⟨((R2.P.rowP (l.map toR)).getD []).toArray⟩
  nil := by decide
  env := R2.Env
  keep := fun h hb => h.below hb
theorem refrow_real : RefRowSpec theX := by
  intro l a c w hl hok hR
  have h := R2.refRow_any (l.map toR) a c w (by simp; omega) (rowAt_of hR) (oks_of hok)
  rw [List.length_map] at h
  exact h.mono fun e w' ⟨he, hb⟩ => ⟨_, he, hb⟩
/-- The landed Row. -/
theorem addrow_real (l : List Ad) (a : Option Addr) (c : Nat) (w : World) (hl : l.length ≤ 100000) (hok : ∀ x ∈ l, okA x) (hR : AK.RowC w a c l) (hE : R2.Env w) :
    Calls Tryz.prog 54 #[.slice a l.length c] w fun e w' => e = .returned (.tuple #[.string (theX.txt l), .int .i64 (if (R2.P.rowP (l.map toR)).isSome then 0 else 20)]) ∧ Below w.heap.size w w' := by
  have h := R2.row_any (l.map toR) a c w (by simp; omega) (rowAt_of hR) (oks_of hok) hE
  rw [List.length_map] at h
  exact h
/-- A row of an answer that may be has a text. -/
theorem row_some {l : List Ad} (h16 : l.length ≤ 16) (h : (l.map toR).all R2.mayP = true) : (R2.P.rowP (l.map toR)).isSome = true := by
  rw [R2.P.rowP_yes _ (by simpa using h16) h]
  rfl
end Go.Proofs.YtciohjgcndgiaaaGreatDoor
