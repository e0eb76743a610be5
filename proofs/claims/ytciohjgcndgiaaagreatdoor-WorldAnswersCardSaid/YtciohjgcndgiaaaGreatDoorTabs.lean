/- What the listed tables give to a walk. -/
import Derived.Test.YtciohjgcndgiaaaGreatDoorRows
import Derived.Test.YtciohjgcndgiaaaGreatDoorTexts
import Derived.Lib.LaidTab
namespace Go.Proofs.YtciohjgcndgiaaaGreatDoor
open Go.RowKit
theorem laidMet_tail {Pr : Program} {x : String × DataW Unit} {rest : List (String × DataW Unit)} {W : World} (h : laidMet Pr (x :: rest) W) : laidMet Pr rest W := by
  obtain ⟨ps, ⟨g', t', cs, fuel, p, q, hg', ht', hvar, hd, hrest, rfl⟩, hn, hc⟩ := h
  exact ⟨q, hrest, (List.nodup_append.1 hn).2.1, fun b off hm => hc b off (List.mem_append_right _ hm)⟩
theorem gBru : Tryz.prog.globalNamed "math/bits.deBruijn64tab" = some 3 := by kernel_rfl
def bruTab : List Int := [0, 1, 56, 2, 57, 49, 28, 3, 61, 58, 42, 50, 38, 29, 17, 4, 62, 47, 59, 36, 45, 43, 51, 22, 53, 39, 33, 30, 24, 18, 12, 5, 63, 55, 48, 27, 60, 41, 37, 16, 46, 35, 44, 21, 52, 32, 23, 11, 54, 26, 40, 15, 34, 20, 31, 10, 25, 14, 19, 9, 13, 8, 7, 6]
def laidList : List (String × DataW Unit) := [("math/bits.deBruijn32tab", Rows.laid_math_bits_deBruijn32tab), ("math/bits.deBruijn64tab", Rows.laid_math_bits_deBruijn64tab), ("internal/strconv.uint64pow10", Rows.laid_internal_strconv_uint64pow10)]
theorem env_of {W : World} (h : laidMetH Tryz.prog laidList W) : R2.Env W := by
  have h1 : laidMet Tryz.prog laidList W := h
  have h2 := laidMet_tail h1
  have h3 := laidMet_tail h2
  have tB : Lib.TabIs Tryz.prog W "math/bits.deBruijn64tab" .u8 bruTab :=
    Lib.tabIs_of_head gBru (t := 188) (by kernel_rfl) Tryz.underlying188 Tryz.underlying5 (by kernel_rfl) (by kernel_rfl) h2
  have tP : Lib.TabIs Tryz.prog W "internal/strconv.uint64pow10" .u64 Lib.pow10Tab :=
    Lib.tabIs_of_head R2.gPow (t := 183) (by kernel_rfl) Tryz.underlying183 Tryz.underlying176 (by kernel_rfl) (by kernel_rfl) h3
  refine ⟨tP, World.block_lt_of_cell? W _ (tP.cell R2.gPow 0 (by decide)), ?_⟩
  have := tB.cell gBru 15 (by decide)
  simpa [bruTab] using this
end Go.Proofs.YtciohjgcndgiaaaGreatDoor
