/-
  No cell of these rows narrows 'for every input' (looked for: loops, veiled, ifaces, maps, wideKeys, modest, calm, conditions, laid).
  DERIVED. THE GIVEN ROWS OF THIS SEAT. 8 by the template 'for every input the law returns true; each argument reads behind the call as it read before'; 0 by the template 'total and deterministic' (their statements: YtgechpchbenanacTotals.lean).
  GIVEN WITH THE SEED: the statements are not yours to turn. If you find one false, say at which input.
  Laid BY PROGRAM, IN A SANDBOX (cutbox-rows.mjs): the forced cells as the released guide's own fill.sh prints them over the translation 23e15439c6c68178… (all of the seat's roots in one cut). By AI agents, Wed Nov 11 2026. No macro, syntax, notation, axiom, sorry.
-/
import Derived.Test.YtgechpchbenanacChecked
import GoSem.Claim
import GoSem.ClaimJoined
import GoSem.ClaimMapViews
import Derived.JoinedTies
import Derived.KernelRfl
namespace Go.Proofs.Ytgechpchbenanac
/- THE CELL 'sum', in the pinned program and in every row, IS THE sha256 OF THE DUMP (.gsa) THAT YtgechpchbenanacProg.lean LOADS. Nothing in Lean hashes anything: it is a label: what it is worth is what the hold of that sum in a sandbox is worth. -/
noncomputable def Try.pinned : Pinned := { name := "ytgechpchbenanac", sum := "23e15439c6c681782f447418cf33b716bc97da954c90c045e1095e57e8647ef7", checked := Try.checked }
namespace Rows
def none {H : Type} : Left H := { results := [], args := [] }

/-- 'lklaw9.WorldApart': WHATEVER THE INPUT: true; the input reads as it did. -/
def worldApartSpec : ChangeSpec := { name := "worldApart", fn := fun _ => fun
  | [d1, d2, d3, d4] => { results := [.lit (.bool true)], args := [d1, d2, d3, d4] }
  | _ => none }
def worldApartRow : OpenClaim := { program := "ytgechpchbenanac", sum := "23e15439c6c681782f447418cf33b716bc97da954c90c045e1095e57e8647ef7", func := "lanekeeper/lklaw9.WorldApart", spec := "worldApart", inPlace := ["slices.overlaps[int]"], unfollowed := true, recurses := true, apart := false }
def WorldApartSaid : Prop := worldApartRow.holds Try.pinned (OpenSpec.ofChange worldApartSpec)

/-- ITS FALSE NEIGHBOUR: 'it returns false'. Refute it at one input. -/
def worldApartWrong : ChangeSpec := { name := "worldApart", fn := fun _ => fun
  | [d1, d2, d3, d4] => { results := [.lit (.bool false)], args := [d1, d2, d3, d4] }
  | _ => none }
def WorldApartWrongFalsely : Prop := worldApartRow.holds Try.pinned (OpenSpec.ofChange worldApartWrong)

/-- 'lklaw9.WorldOne': WHATEVER THE INPUT: true; the input reads as it did. -/
def worldOneSpec : ChangeSpec := { name := "worldOne", fn := fun _ => fun
  | [d1, d2, d3] => { results := [.lit (.bool true)], args := [d1, d2, d3] }
  | _ => none }
def worldOneRow : OpenClaim := { program := "ytgechpchbenanac", sum := "23e15439c6c681782f447418cf33b716bc97da954c90c045e1095e57e8647ef7", func := "lanekeeper/lklaw9.WorldOne", spec := "worldOne", inPlace := ["slices.overlaps[int]"], unfollowed := true, recurses := true, apart := false }
def WorldOneSaid : Prop := worldOneRow.holds Try.pinned (OpenSpec.ofChange worldOneSpec)

/-- ITS FALSE NEIGHBOUR: 'it returns false'. Refute it at one input. -/
def worldOneWrong : ChangeSpec := { name := "worldOne", fn := fun _ => fun
  | [d1, d2, d3] => { results := [.lit (.bool false)], args := [d1, d2, d3] }
  | _ => none }
def WorldOneWrongFalsely : Prop := worldOneRow.holds Try.pinned (OpenSpec.ofChange worldOneWrong)

/-- 'lklaw10.ViewTells': WHATEVER THE INPUT: true; the input reads as it did. -/
def viewTellsSpec : ChangeSpec := { name := "viewTells", fn := fun _ => fun
  | [d1, d2, d3] => { results := [.lit (.bool true)], args := [d1, d2, d3] }
  | _ => none }
def viewTellsRow : OpenClaim := { program := "ytgechpchbenanac", sum := "23e15439c6c681782f447418cf33b716bc97da954c90c045e1095e57e8647ef7", func := "lanekeeper/lklaw10.ViewTells", spec := "viewTells", unfollowed := true, recurses := true, apart := false }
def ViewTellsSaid : Prop := viewTellsRow.holds Try.pinned (OpenSpec.ofChange viewTellsSpec)

/-- ITS FALSE NEIGHBOUR: 'it returns false'. Refute it at one input. -/
def viewTellsWrong : ChangeSpec := { name := "viewTells", fn := fun _ => fun
  | [d1, d2, d3] => { results := [.lit (.bool false)], args := [d1, d2, d3] }
  | _ => none }
def ViewTellsWrongFalsely : Prop := viewTellsRow.holds Try.pinned (OpenSpec.ofChange viewTellsWrong)

/-- 'lklaw10.ViewAlone': WHATEVER THE INPUT: true; the input reads as it did. -/
def viewAloneSpec : ChangeSpec := { name := "viewAlone", fn := fun _ => fun
  | [d1, d2, d3] => { results := [.lit (.bool true)], args := [d1, d2, d3] }
  | _ => none }
def viewAloneRow : OpenClaim := { program := "ytgechpchbenanac", sum := "23e15439c6c681782f447418cf33b716bc97da954c90c045e1095e57e8647ef7", func := "lanekeeper/lklaw10.ViewAlone", spec := "viewAlone", unfollowed := true, recurses := true, apart := false }
def ViewAloneSaid : Prop := viewAloneRow.holds Try.pinned (OpenSpec.ofChange viewAloneSpec)

/-- ITS FALSE NEIGHBOUR: 'it returns false'. Refute it at one input. -/
def viewAloneWrong : ChangeSpec := { name := "viewAlone", fn := fun _ => fun
  | [d1, d2, d3] => { results := [.lit (.bool false)], args := [d1, d2, d3] }
  | _ => none }
def ViewAloneWrongFalsely : Prop := viewAloneRow.holds Try.pinned (OpenSpec.ofChange viewAloneWrong)

/-- 'lklaw10.ViewSwap': WHATEVER THE INPUT: true; the input reads as it did. -/
def viewSwapSpec : ChangeSpec := { name := "viewSwap", fn := fun _ => fun
  | [d1, d2, d3, d4, d5] => { results := [.lit (.bool true)], args := [d1, d2, d3, d4, d5] }
  | _ => none }
def viewSwapRow : OpenClaim := { program := "ytgechpchbenanac", sum := "23e15439c6c681782f447418cf33b716bc97da954c90c045e1095e57e8647ef7", func := "lanekeeper/lklaw10.ViewSwap", spec := "viewSwap", unfollowed := true, recurses := true, apart := false }
def ViewSwapSaid : Prop := viewSwapRow.holds Try.pinned (OpenSpec.ofChange viewSwapSpec)

/-- ITS FALSE NEIGHBOUR: 'it returns false'. Refute it at one input. -/
def viewSwapWrong : ChangeSpec := { name := "viewSwap", fn := fun _ => fun
  | [d1, d2, d3, d4, d5] => { results := [.lit (.bool false)], args := [d1, d2, d3, d4, d5] }
  | _ => none }
def ViewSwapWrongFalsely : Prop := viewSwapRow.holds Try.pinned (OpenSpec.ofChange viewSwapWrong)

/-- 'lklaw11.LookTells': WHATEVER THE INPUT: true; the input reads as it did. -/
def lookTellsSpec : ChangeSpec := { name := "lookTells", fn := fun _ => fun
  | [d1, d2] => { results := [.lit (.bool true)], args := [d1, d2] }
  | _ => none }
def lookTellsRow : OpenClaim := { program := "ytgechpchbenanac", sum := "23e15439c6c681782f447418cf33b716bc97da954c90c045e1095e57e8647ef7", func := "lanekeeper/lklaw11.LookTells", spec := "lookTells", unfollowed := true, recurses := true, apart := false }
def LookTellsSaid : Prop := lookTellsRow.holds Try.pinned (OpenSpec.ofChange lookTellsSpec)

/-- ITS FALSE NEIGHBOUR: 'it returns false'. Refute it at one input. -/
def lookTellsWrong : ChangeSpec := { name := "lookTells", fn := fun _ => fun
  | [d1, d2] => { results := [.lit (.bool false)], args := [d1, d2] }
  | _ => none }
def LookTellsWrongFalsely : Prop := lookTellsRow.holds Try.pinned (OpenSpec.ofChange lookTellsWrong)

/-- 'lklaw11.LookBound': WHATEVER THE INPUT: true; the input reads as it did. -/
def lookBoundSpec : ChangeSpec := { name := "lookBound", fn := fun _ => fun
  | [d1, d2] => { results := [.lit (.bool true)], args := [d1, d2] }
  | _ => none }
def lookBoundRow : OpenClaim := { program := "ytgechpchbenanac", sum := "23e15439c6c681782f447418cf33b716bc97da954c90c045e1095e57e8647ef7", func := "lanekeeper/lklaw11.LookBound", spec := "lookBound", unfollowed := true, recurses := true, apart := false }
def LookBoundSaid : Prop := lookBoundRow.holds Try.pinned (OpenSpec.ofChange lookBoundSpec)

/-- ITS FALSE NEIGHBOUR: 'it returns false'. Refute it at one input. -/
def lookBoundWrong : ChangeSpec := { name := "lookBound", fn := fun _ => fun
  | [d1, d2] => { results := [.lit (.bool false)], args := [d1, d2] }
  | _ => none }
def LookBoundWrongFalsely : Prop := lookBoundRow.holds Try.pinned (OpenSpec.ofChange lookBoundWrong)

/-- 'lklaw11.LookKnows': WHATEVER THE INPUT: true; the input reads as it did. -/
def lookKnowsSpec : ChangeSpec := { name := "lookKnows", fn := fun _ => fun
  | [d1, d2] => { results := [.lit (.bool true)], args := [d1, d2] }
  | _ => none }
def lookKnowsRow : OpenClaim := { program := "ytgechpchbenanac", sum := "23e15439c6c681782f447418cf33b716bc97da954c90c045e1095e57e8647ef7", func := "lanekeeper/lklaw11.LookKnows", spec := "lookKnows", unfollowed := true, recurses := true, apart := false }
def LookKnowsSaid : Prop := lookKnowsRow.holds Try.pinned (OpenSpec.ofChange lookKnowsSpec)

/-- ITS FALSE NEIGHBOUR: 'it returns false'. Refute it at one input. -/
def lookKnowsWrong : ChangeSpec := { name := "lookKnows", fn := fun _ => fun
  | [d1, d2] => { results := [.lit (.bool false)], args := [d1, d2] }
  | _ => none }
def LookKnowsWrongFalsely : Prop := lookKnowsRow.holds Try.pinned (OpenSpec.ofChange lookKnowsWrong)

/- THE SECOND FORM. 'bulk': how many values and letters a reading holds, each counted each time it is reached (what is shared counts as often as it is met; a slice's spare places count too). A statement '..UptoSaid' is the law's where the arguments, and the package variables that the reading takes, are together of bulk at most 1048576: NARROWER than '..Said'. Prove '..Said' where nothing that the law and all that it calls make is longer than what came in: it says more and counts as full. Else prove '..UptoSaid'. A law counts once. -/
mutual
def uptoBulk {H : Type} : DataW H → Nat
  | .lit (.string bytes) => bytes.length + 1
  | .lit _ => 1
  | .nil => 1
  | .ptr d => uptoBulk d + 1
  | .slice elems spare => uptoBulkAll elems + uptoBulkAll spare + 1
  | .agg parts => uptoBulkAll parts + 1
  | .iface _ d => uptoBulk d + 1
  | .map entries => uptoBulkEntries entries + 1
  | .held _ => 1
def uptoBulkAll {H : Type} : List (DataW H) → Nat
  | [] => 0
  | d :: r => uptoBulk d + uptoBulkAll r
def uptoBulkEntries {H : Type} : List (Lit × DataW H) → Nat
  | [] => 0
  | x :: r => uptoBulkEntry x + uptoBulkEntries r
def uptoBulkEntry {H : Type} : Lit × DataW H → Nat
  | (.string bytes, d) => bytes.length + uptoBulk d + 1
  | (_, d) => uptoBulk d + 1
 end
def uptoSmall : (H : Type) → List (DataW H) → Bool := fun _ ds => decide (uptoBulkAll ds ≤ 1048576)
def OpenSpec.upto (s : _root_.Go.ChangeSpec) : _root_.Go.OpenSpec := { _root_.Go.OpenSpec.ofChange s with cond := some uptoSmall }

/-- 'lklaw9.WorldApart', WHERE WHAT IT READS IS OF BULK AT MOST 1048576: true; the input reads as it did. -/
def worldApartUptoRow : OpenClaim := { program := "ytgechpchbenanac", sum := "23e15439c6c681782f447418cf33b716bc97da954c90c045e1095e57e8647ef7", func := "lanekeeper/lklaw9.WorldApart", spec := "worldApart", inPlace := ["slices.overlaps[int]"], unfollowed := true, recurses := true, apart := false, narrowed := true }
def WorldApartUptoSaid : Prop := worldApartUptoRow.holds Try.pinned (OpenSpec.upto worldApartSpec)

/-- 'lklaw9.WorldOne', WHERE WHAT IT READS IS OF BULK AT MOST 1048576: true; the input reads as it did. -/
def worldOneUptoRow : OpenClaim := { program := "ytgechpchbenanac", sum := "23e15439c6c681782f447418cf33b716bc97da954c90c045e1095e57e8647ef7", func := "lanekeeper/lklaw9.WorldOne", spec := "worldOne", inPlace := ["slices.overlaps[int]"], unfollowed := true, recurses := true, apart := false, narrowed := true }
def WorldOneUptoSaid : Prop := worldOneUptoRow.holds Try.pinned (OpenSpec.upto worldOneSpec)

/-- 'lklaw10.ViewTells', WHERE WHAT IT READS IS OF BULK AT MOST 1048576: true; the input reads as it did. -/
def viewTellsUptoRow : OpenClaim := { program := "ytgechpchbenanac", sum := "23e15439c6c681782f447418cf33b716bc97da954c90c045e1095e57e8647ef7", func := "lanekeeper/lklaw10.ViewTells", spec := "viewTells", unfollowed := true, recurses := true, apart := false, narrowed := true }
def ViewTellsUptoSaid : Prop := viewTellsUptoRow.holds Try.pinned (OpenSpec.upto viewTellsSpec)

/-- 'lklaw10.ViewAlone', WHERE WHAT IT READS IS OF BULK AT MOST 1048576: true; the input reads as it did. -/
def viewAloneUptoRow : OpenClaim := { program := "ytgechpchbenanac", sum := "23e15439c6c681782f447418cf33b716bc97da954c90c045e1095e57e8647ef7", func := "lanekeeper/lklaw10.ViewAlone", spec := "viewAlone", unfollowed := true, recurses := true, apart := false, narrowed := true }
def ViewAloneUptoSaid : Prop := viewAloneUptoRow.holds Try.pinned (OpenSpec.upto viewAloneSpec)

/-- 'lklaw10.ViewSwap', WHERE WHAT IT READS IS OF BULK AT MOST 1048576: true; the input reads as it did. -/
def viewSwapUptoRow : OpenClaim := { program := "ytgechpchbenanac", sum := "23e15439c6c681782f447418cf33b716bc97da954c90c045e1095e57e8647ef7", func := "lanekeeper/lklaw10.ViewSwap", spec := "viewSwap", unfollowed := true, recurses := true, apart := false, narrowed := true }
def ViewSwapUptoSaid : Prop := viewSwapUptoRow.holds Try.pinned (OpenSpec.upto viewSwapSpec)

/-- 'lklaw11.LookTells', WHERE WHAT IT READS IS OF BULK AT MOST 1048576: true; the input reads as it did. -/
def lookTellsUptoRow : OpenClaim := { program := "ytgechpchbenanac", sum := "23e15439c6c681782f447418cf33b716bc97da954c90c045e1095e57e8647ef7", func := "lanekeeper/lklaw11.LookTells", spec := "lookTells", unfollowed := true, recurses := true, apart := false, narrowed := true }
def LookTellsUptoSaid : Prop := lookTellsUptoRow.holds Try.pinned (OpenSpec.upto lookTellsSpec)

/-- 'lklaw11.LookBound', WHERE WHAT IT READS IS OF BULK AT MOST 1048576: true; the input reads as it did. -/
def lookBoundUptoRow : OpenClaim := { program := "ytgechpchbenanac", sum := "23e15439c6c681782f447418cf33b716bc97da954c90c045e1095e57e8647ef7", func := "lanekeeper/lklaw11.LookBound", spec := "lookBound", unfollowed := true, recurses := true, apart := false, narrowed := true }
def LookBoundUptoSaid : Prop := lookBoundUptoRow.holds Try.pinned (OpenSpec.upto lookBoundSpec)

/-- 'lklaw11.LookKnows', WHERE WHAT IT READS IS OF BULK AT MOST 1048576: true; the input reads as it did. -/
def lookKnowsUptoRow : OpenClaim := { program := "ytgechpchbenanac", sum := "23e15439c6c681782f447418cf33b716bc97da954c90c045e1095e57e8647ef7", func := "lanekeeper/lklaw11.LookKnows", spec := "lookKnows", unfollowed := true, recurses := true, apart := false, narrowed := true }
def LookKnowsUptoSaid : Prop := lookKnowsUptoRow.holds Try.pinned (OpenSpec.upto lookKnowsSpec)

end Rows
end Go.Proofs.Ytgechpchbenanac
