/- What the listed tables give to a walk. -/
import Derived.Test.YtpeohgmceadmeaaDoorRows
import Derived.Test.YtpeohgmceadmeaaDoorJoin
namespace Go.Proofs.YtpeohgmceadmeaaDoor
open Go.RowKit
theorem laidMet_tail {Pr : Program} {x : String × DataW Unit} {rest : List (String × DataW Unit)} {W : World} (h : laidMet Pr (x :: rest) W) : laidMet Pr rest W := by
  obtain ⟨ps, ⟨g', t', cs, fuel, p, q, hg', ht', hvar, hd, hrest, rfl⟩, hn, hc⟩ := h
  exact ⟨q, hrest, (List.nodup_append.1 hn).2.1, fun b off hm => hc b off (List.mem_append_right _ hm)⟩
theorem tab_of {W : World} (h : laidMetH Tryd.prog [("math/bits.deBruijn32tab", Rows.laid_math_bits_deBruijn32tab), ("math/bits.deBruijn64tab", Rows.laid_math_bits_deBruijn64tab), ("internal/strconv.uint64pow10", Rows.laid_internal_strconv_uint64pow10)] W) : Tab W := by
  have h1 : laidMet Tryd.prog [("math/bits.deBruijn32tab", Rows.laid_math_bits_deBruijn32tab), ("math/bits.deBruijn64tab", Rows.laid_math_bits_deBruijn64tab), ("internal/strconv.uint64pow10", Rows.laid_internal_strconv_uint64pow10)] W := h
  have h2 : laidMet Tryd.prog [("internal/strconv.uint64pow10", Lib.tabData .u64 Lib.pow10Tab)] W := laidMet_tail (laidMet_tail h1)
  have h3 : Lib.TabIs Tryd.prog W "internal/strconv.uint64pow10" .u64 Lib.pow10Tab :=
    Lib.tabIs_of_head (rest := []) gPow (t := 68) (by kernel_rfl) Tryd.underlying68 Tryd.underlying61 (by kernel_rfl) (by kernel_rfl) h2
  exact ⟨h3, World.block_lt_of_cell? W _ (h3.cell gPow 0 (by decide))⟩
end Go.Proofs.YtpeohgmceadmeaaDoor
