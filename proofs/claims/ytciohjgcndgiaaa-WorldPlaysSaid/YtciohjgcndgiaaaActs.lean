/- Acts. -/
import Derived.Test.YtciohjgcndgiaaaPure
set_option linter.unusedSimpArgs false
set_option linter.unusedVariables false
namespace Go.Proofs.Ytciohjgcndgiaaa
open Go.RowKit Go.Proofs.Ytciohjgcndgiaaa.Kind

/-- switchboardlaw10.Act. -/
structure Ac where
  do_ : Int
  by_ : Int
  n : Int
  ad : Ad
  deriving DecidableEq, Inhabited
def Ac.enc (x : Ac) : List Value := [.int .i64 x.do_, .int .i64 x.by_, .int .i64 x.n, .int .i8 x.ad.f, .int .u16 x.ad.g0, .int .u16 x.ad.g1, .int .u16 x.ad.g2, .int .u16 x.ad.g3, .int .u16 x.ad.g4, .int .u16 x.ad.g5, .int .u16 x.ad.g6, .int .u16 x.ad.g7, .int .i64 x.ad.p]
def Ac.v (x : Ac) : Value := .agg #[.int .i64 x.do_, .int .i64 x.by_, .int .i64 x.n, .int .i8 x.ad.f, .int .u16 x.ad.g0, .int .u16 x.ad.g1, .int .u16 x.ad.g2, .int .u16 x.ad.g3, .int .u16 x.ad.g4, .int .u16 x.ad.g5, .int .u16 x.ad.g6, .int .u16 x.ad.g7, .int .i64 x.ad.p]
def CK : Kind Try.prog Ac where
  enc := Ac.enc
  k := 13
  T := 45
  S := 27
  z := .agg #[.int .i64 0, .int .i64 0, .int .i64 0, .int .i8 0, .int .u16 0, .int .u16 0, .int .u16 0, .int .u16 0, .int .u16 0, .int .u16 0, .int .u16 0, .int .u16 0, .int .i64 0]
  bytes := 56
  hk := fun _ => rfl
  h1 := by
    intro x v hv
    simp only [Ac.enc, List.mem_cons, List.not_mem_nil, or_false] at hv
    rcases hv with rfl | rfl | rfl | rfl | rfl | rfl | rfl | rfl | rfl | rfl | rfl | rfl | rfl <;> rfl
  hu := Try.underlying27
  hi := by kernel_rfl
  hz := rfl
  hk0 := by decide
  hb := by decide
theorem CK.cells {w : World} {b o : Nat} {l : List Ac} (h : CK.At w b o l) {j : Nat} {x : Ac} (hx : l[j]? = some x) :
    w.cell? ⟨b, o + j * 13, none⟩ = some (.int .i64 x.do_) ∧ w.cell? ⟨b, o + j * 13 + 1, none⟩ = some (.int .i64 x.by_) ∧ w.cell? ⟨b, o + j * 13 + 2, none⟩ = some (.int .i64 x.n) ∧ w.cell? ⟨b, o + j * 13 + 3, none⟩ = some (.int .i8 x.ad.f) ∧ w.cell? ⟨b, o + j * 13 + 4, none⟩ = some (.int .u16 x.ad.g0) ∧ w.cell? ⟨b, o + j * 13 + 5, none⟩ = some (.int .u16 x.ad.g1) ∧ w.cell? ⟨b, o + j * 13 + 6, none⟩ = some (.int .u16 x.ad.g2) ∧ w.cell? ⟨b, o + j * 13 + 7, none⟩ = some (.int .u16 x.ad.g3) ∧ w.cell? ⟨b, o + j * 13 + 8, none⟩ = some (.int .u16 x.ad.g4) ∧ w.cell? ⟨b, o + j * 13 + 9, none⟩ = some (.int .u16 x.ad.g5) ∧ w.cell? ⟨b, o + j * 13 + 10, none⟩ = some (.int .u16 x.ad.g6) ∧ w.cell? ⟨b, o + j * 13 + 11, none⟩ = some (.int .u16 x.ad.g7) ∧ w.cell? ⟨b, o + j * 13 + 12, none⟩ = some (.int .i64 x.ad.p) :=
  ⟨h j x hx 0 _ rfl, h j x hx 1 _ rfl, h j x hx 2 _ rfl, h j x hx 3 _ rfl, h j x hx 4 _ rfl, h j x hx 5 _ rfl, h j x hx 6 _ rfl, h j x hx 7 _ rfl, h j x hx 8 _ rfl, h j x hx 9 _ rfl, h j x hx 10 _ rfl, h j x hx 11 _ rfl, h j x hx 12 _ rfl⟩
theorem boxes13 {w : World} {g : Nat} {x0 x1 x2 x3 x4 x5 x6 x7 x8 x9 x10 x11 x12 : Value} {t : TypeId} (h : w.heap[g]? = some (.cells #[x0, x1, x2, x3, x4, x5, x6, x7, x8, x9, x10, x11, x12] t (0, 0))) :
    (w.cell? ⟨g, 0, none⟩ = some x0 ∧ w.cell? ⟨g, 1, none⟩ = some x1 ∧ w.cell? ⟨g, 2, none⟩ = some x2 ∧ w.cell? ⟨g, 3, none⟩ = some x3 ∧ w.cell? ⟨g, 4, none⟩ = some x4 ∧ w.cell? ⟨g, 5, none⟩ = some x5 ∧ w.cell? ⟨g, 6, none⟩ = some x6 ∧ w.cell? ⟨g, 7, none⟩ = some x7 ∧ w.cell? ⟨g, 8, none⟩ = some x8 ∧ w.cell? ⟨g, 9, none⟩ = some x9 ∧ w.cell? ⟨g, 10, none⟩ = some x10 ∧ w.cell? ⟨g, 11, none⟩ = some x11 ∧ w.cell? ⟨g, 12, none⟩ = some x12) ∧ (w.frozen? ⟨g, 0, none⟩ = false ∧ w.frozen? ⟨g, 1, none⟩ = false ∧ w.frozen? ⟨g, 2, none⟩ = false ∧ w.frozen? ⟨g, 3, none⟩ = false ∧ w.frozen? ⟨g, 4, none⟩ = false ∧ w.frozen? ⟨g, 5, none⟩ = false ∧ w.frozen? ⟨g, 6, none⟩ = false ∧ w.frozen? ⟨g, 7, none⟩ = false ∧ w.frozen? ⟨g, 8, none⟩ = false ∧ w.frozen? ⟨g, 9, none⟩ = false ∧ w.frozen? ⟨g, 10, none⟩ = false ∧ w.frozen? ⟨g, 11, none⟩ = false ∧ w.frozen? ⟨g, 12, none⟩ = false) := by
  simp [World.cell?, World.frozen?, h]
theorem load_Ac {w : World} {b : Nat} {x : Ac} {t : TypeId} (h : w.heap[b]? = some (.cells #[.int .i64 x.do_, .int .i64 x.by_, .int .i64 x.n, .int .i8 x.ad.f, .int .u16 x.ad.g0, .int .u16 x.ad.g1, .int .u16 x.ad.g2, .int .u16 x.ad.g3, .int .u16 x.ad.g4, .int .u16 x.ad.g5, .int .u16 x.ad.g6, .int .u16 x.ad.g7, .int .i64 x.ad.p] t (0, 0))) :
    (loadVar 45 ⟨b, 0, none⟩).run Try.prog w = .ok (.agg #[.int .i64 x.do_, .int .i64 x.by_, .int .i64 x.n, .int .i8 x.ad.f, .int .u16 x.ad.g0, .int .u16 x.ad.g1, .int .u16 x.ad.g2, .int .u16 x.ad.g3, .int .u16 x.ad.g4, .int .u16 x.ad.g5, .int .u16 x.ad.g6, .int .u16 x.ad.g7, .int .i64 x.ad.p]) w := by
  obtain ⟨⟨h0, h1, h2, h3, h4, h5, h6, h7, h8, h9, h10, h11, h12⟩, _⟩ := boxes13 h
  have ag1 := Try.isAgg45
  have sz1 := Try.sizeOf45
  have ag2 := Try.isAgg43
  have sz2 := Try.sizeOf43
  have agA := Try.isAgg41
  have szA := Try.sizeOf41
  clear h
  simp [loadVar, go_sem, *]
end Go.Proofs.Ytciohjgcndgiaaa
