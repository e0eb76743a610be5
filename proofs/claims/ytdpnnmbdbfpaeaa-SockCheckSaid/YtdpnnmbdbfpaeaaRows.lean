/-
  No cell of these rows narrows 'for every input' (looked for: loops, veiled, ifaces, maps, wideKeys, modest, calm, conditions, laid).
  DERIVED. THE GIVEN ROWS OF THIS SEAT. 4 by the template 'for every input the law returns true; each argument reads behind the call as it read before'; 0 by the template 'total and deterministic' (their statements: YtdpnnmbdbfpaeaaTotals.lean).
  GIVEN WITH THE SEED: the statements are not yours to turn. If you find one false, say at which input.
  Laid BY PROGRAM, IN A SANDBOX (cutbox-rows.mjs): the forced cells as the released guide's own fill.sh prints them over the translation d5ecaf2ac7cba064… (all of the seat's roots in one cut). By AI agents, Wed Nov 11 2026. No macro, syntax, notation, axiom, sorry.
-/
import Derived.Test.YtdpnnmbdbfpaeaaChecked
import GoSem.Claim
import GoSem.ClaimJoined
import GoSem.ClaimMapViews
import Derived.JoinedTies
import Derived.KernelRfl
namespace Go.Proofs.Ytdpnnmbdbfpaeaa
/- THE CELL 'sum', in the pinned program and in every row, IS THE sha256 OF THE DUMP (.gsa) THAT YtdpnnmbdbfpaeaaProg.lean LOADS. Nothing in Lean hashes anything: it is a label: what it is worth is what the hold of that sum in a sandbox is worth. -/
noncomputable def Try.pinned : Pinned := { name := "ytdpnnmbdbfpaeaa", sum := "d5ecaf2ac7cba06496544526879f9ddfc8ac555808ab029cf1f18cd0c0414b29", checked := Try.checked }
namespace Rows
def none {H : Type} : Left H := { results := [], args := [] }

/-- 'switchboardlaw08.SockPlays': WHATEVER THE INPUT: true; the input reads as it did. -/
def sockPlaysSpec : ChangeSpec := { name := "sockPlays", fn := fun _ => fun
  | [d] => { results := [.lit (.bool true)], args := [d] }
  | _ => none }
def sockPlaysRow : OpenClaim := { program := "ytdpnnmbdbfpaeaa", sum := "d5ecaf2ac7cba06496544526879f9ddfc8ac555808ab029cf1f18cd0c0414b29", func := "switchboard/switchboardlaw08.SockPlays", spec := "sockPlays", unfollowed := true, recurses := true, apart := false }
def SockPlaysSaid : Prop := sockPlaysRow.holds Try.pinned (OpenSpec.ofChange sockPlaysSpec)

/-- ITS FALSE NEIGHBOUR: 'it returns false'. Refute it at one input. -/
def sockPlaysWrong : ChangeSpec := { name := "sockPlays", fn := fun _ => fun
  | [d] => { results := [.lit (.bool false)], args := [d] }
  | _ => none }
def SockPlaysWrongFalsely : Prop := sockPlaysRow.holds Try.pinned (OpenSpec.ofChange sockPlaysWrong)

/-- 'switchboardlaw08.SockOwn': WHATEVER THE INPUT: true; the input reads as it did. -/
def sockOwnSpec : ChangeSpec := { name := "sockOwn", fn := fun _ => fun
  | [d1, d2, d3] => { results := [.lit (.bool true)], args := [d1, d2, d3] }
  | _ => none }
def sockOwnRow : OpenClaim := { program := "ytdpnnmbdbfpaeaa", sum := "d5ecaf2ac7cba06496544526879f9ddfc8ac555808ab029cf1f18cd0c0414b29", func := "switchboard/switchboardlaw08.SockOwn", spec := "sockOwn", unfollowed := true, recurses := true, apart := false }
def SockOwnSaid : Prop := sockOwnRow.holds Try.pinned (OpenSpec.ofChange sockOwnSpec)

/-- ITS FALSE NEIGHBOUR: 'it returns false'. Refute it at one input. -/
def sockOwnWrong : ChangeSpec := { name := "sockOwn", fn := fun _ => fun
  | [d1, d2, d3] => { results := [.lit (.bool false)], args := [d1, d2, d3] }
  | _ => none }
def SockOwnWrongFalsely : Prop := sockOwnRow.holds Try.pinned (OpenSpec.ofChange sockOwnWrong)

/-- 'switchboardlaw08.SockCheck': WHATEVER THE INPUT: true; the input reads as it did. -/
def sockCheckSpec : ChangeSpec := { name := "sockCheck", fn := fun _ => fun
  | [d1, d2, d3] => { results := [.lit (.bool true)], args := [d1, d2, d3] }
  | _ => none }
def sockCheckRow : OpenClaim := { program := "ytdpnnmbdbfpaeaa", sum := "d5ecaf2ac7cba06496544526879f9ddfc8ac555808ab029cf1f18cd0c0414b29", func := "switchboard/switchboardlaw08.SockCheck", spec := "sockCheck", unfollowed := true, recurses := true, apart := false }
def SockCheckSaid : Prop := sockCheckRow.holds Try.pinned (OpenSpec.ofChange sockCheckSpec)

/-- ITS FALSE NEIGHBOUR: 'it returns false'. Refute it at one input. -/
def sockCheckWrong : ChangeSpec := { name := "sockCheck", fn := fun _ => fun
  | [d1, d2, d3] => { results := [.lit (.bool false)], args := [d1, d2, d3] }
  | _ => none }
def SockCheckWrongFalsely : Prop := sockCheckRow.holds Try.pinned (OpenSpec.ofChange sockCheckWrong)

/-- 'switchboardlaw08.SockLive': WHATEVER THE INPUT: true; the input reads as it did. -/
def sockLiveSpec : ChangeSpec := { name := "sockLive", fn := fun _ => fun
  | [d] => { results := [.lit (.bool true)], args := [d] }
  | _ => none }
def sockLiveRow : OpenClaim := { program := "ytdpnnmbdbfpaeaa", sum := "d5ecaf2ac7cba06496544526879f9ddfc8ac555808ab029cf1f18cd0c0414b29", func := "switchboard/switchboardlaw08.SockLive", spec := "sockLive", unfollowed := true, recurses := true, apart := false }
def SockLiveSaid : Prop := sockLiveRow.holds Try.pinned (OpenSpec.ofChange sockLiveSpec)

/-- ITS FALSE NEIGHBOUR: 'it returns false'. Refute it at one input. -/
def sockLiveWrong : ChangeSpec := { name := "sockLive", fn := fun _ => fun
  | [d] => { results := [.lit (.bool false)], args := [d] }
  | _ => none }
def SockLiveWrongFalsely : Prop := sockLiveRow.holds Try.pinned (OpenSpec.ofChange sockLiveWrong)

/- THE SECOND FORM. 'bulk': how many values and letters a reading holds, each counted each time it is reached (what is shared counts as often as it is met; a slice's spare places count too). A statement '..UptoSaid' is the law's where the arguments, and the package variables that the reading takes, are together of bulk at most 1048576: NARROWER than '..Said'. Prove '..Said' where nothing that the law and all that it calls make is longer than what came in: it says more and counts as full. Else prove '..UptoSaid'. A law counts once. -/
mutual
def uptoBulk {H : Type} : DataW H → Nat
  | .lit (.string bytes) => bytes.length + 1
  | .lit _ => 1
  | .nil => 1
  | .ptr d => uptoBulk d + 1
  | .slice elems spare => uptoBulkAll elems + uptoBulkAll spare + 1
  | .agg parts => uptoBulkAll parts + 1
  | .iface _ d => uptoBulk d + 1
  | .map entries => uptoBulkEntries entries + 1
  | .held _ => 1
def uptoBulkAll {H : Type} : List (DataW H) → Nat
  | [] => 0
  | d :: r => uptoBulk d + uptoBulkAll r
def uptoBulkEntries {H : Type} : List (Lit × DataW H) → Nat
  | [] => 0
  | x :: r => uptoBulkEntry x + uptoBulkEntries r
def uptoBulkEntry {H : Type} : Lit × DataW H → Nat
  | (.string bytes, d) => bytes.length + uptoBulk d + 1
  | (_, d) => uptoBulk d + 1
 end
def uptoSmall : (H : Type) → List (DataW H) → Bool := fun _ ds => decide (uptoBulkAll ds ≤ 1048576)
def OpenSpec.upto (s : _root_.Go.ChangeSpec) : _root_.Go.OpenSpec := { _root_.Go.OpenSpec.ofChange s with cond := some uptoSmall }

/-- 'switchboardlaw08.SockPlays', WHERE WHAT IT READS IS OF BULK AT MOST 1048576: true; the input reads as it did. -/
def sockPlaysUptoRow : OpenClaim := { program := "ytdpnnmbdbfpaeaa", sum := "d5ecaf2ac7cba06496544526879f9ddfc8ac555808ab029cf1f18cd0c0414b29", func := "switchboard/switchboardlaw08.SockPlays", spec := "sockPlays", unfollowed := true, recurses := true, apart := false, narrowed := true }
def SockPlaysUptoSaid : Prop := sockPlaysUptoRow.holds Try.pinned (OpenSpec.upto sockPlaysSpec)

/-- 'switchboardlaw08.SockOwn', WHERE WHAT IT READS IS OF BULK AT MOST 1048576: true; the input reads as it did. -/
def sockOwnUptoRow : OpenClaim := { program := "ytdpnnmbdbfpaeaa", sum := "d5ecaf2ac7cba06496544526879f9ddfc8ac555808ab029cf1f18cd0c0414b29", func := "switchboard/switchboardlaw08.SockOwn", spec := "sockOwn", unfollowed := true, recurses := true, apart := false, narrowed := true }
def SockOwnUptoSaid : Prop := sockOwnUptoRow.holds Try.pinned (OpenSpec.upto sockOwnSpec)

/-- 'switchboardlaw08.SockCheck', WHERE WHAT IT READS IS OF BULK AT MOST 1048576: true; the input reads as it did. -/
def sockCheckUptoRow : OpenClaim := { program := "ytdpnnmbdbfpaeaa", sum := "d5ecaf2ac7cba06496544526879f9ddfc8ac555808ab029cf1f18cd0c0414b29", func := "switchboard/switchboardlaw08.SockCheck", spec := "sockCheck", unfollowed := true, recurses := true, apart := false, narrowed := true }
def SockCheckUptoSaid : Prop := sockCheckUptoRow.holds Try.pinned (OpenSpec.upto sockCheckSpec)

/-- 'switchboardlaw08.SockLive', WHERE WHAT IT READS IS OF BULK AT MOST 1048576: true; the input reads as it did. -/
def sockLiveUptoRow : OpenClaim := { program := "ytdpnnmbdbfpaeaa", sum := "d5ecaf2ac7cba06496544526879f9ddfc8ac555808ab029cf1f18cd0c0414b29", func := "switchboard/switchboardlaw08.SockLive", spec := "sockLive", unfollowed := true, recurses := true, apart := false, narrowed := true }
def SockLiveUptoSaid : Prop := sockLiveUptoRow.holds Try.pinned (OpenSpec.upto sockLiveSpec)

end Rows
end Go.Proofs.Ytdpnnmbdbfpaeaa
