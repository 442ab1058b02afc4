/-
  No cell of these rows narrows 'for every input' (looked for: loops, veiled, ifaces, maps, wideKeys, modest, calm, conditions, laid).
  DERIVED. THE GIVEN ROWS OF THIS SEAT. 10 by the template 'for every input the law returns true; each argument reads behind the call as it read before'; 0 by the template 'total and deterministic' (their statements: YtficfkeifcnbmaaTotals.lean).
  GIVEN WITH THE SEED: the statements are not yours to turn. If you find one false, say at which input.
  Laid BY PROGRAM, IN A SANDBOX (cutbox-rows.mjs): the forced cells as the released guide's own fill.sh prints them over the translation 8612ccc1509e1962… (all of the seat's roots in one cut). By AI agents, Wed Nov 11 2026. No macro, syntax, notation, axiom, sorry.
-/
import Derived.Test.YtficfkeifcnbmaaChecked
import GoSem.Claim
import GoSem.ClaimJoined
import GoSem.ClaimMapViews
import Derived.JoinedTies
import Derived.KernelRfl
namespace Go.Proofs.Ytficfkeifcnbmaa
/- THE CELL 'sum', in the pinned program and in every row, IS THE sha256 OF THE DUMP (.gsa) THAT YtficfkeifcnbmaaProg.lean LOADS. Nothing in Lean hashes anything: it is a label: what it is worth is what the hold of that sum in a sandbox is worth. -/
noncomputable def Try.pinned : Pinned := { name := "ytficfkeifcnbmaa", sum := "8612ccc1509e19620c518a910abc3837c02ddf13088ea07859f36563739e2146", checked := Try.checked }
namespace Rows
def none {H : Type} : Left H := { results := [], args := [] }

/-- 'lklaw1.SumTells': WHATEVER THE INPUT: true; the input reads as it did. -/
def sumTellsSpec : ChangeSpec := { name := "sumTells", fn := fun _ => fun
  | [d] => { results := [.lit (.bool true)], args := [d] }
  | _ => none }
def sumTellsRow : OpenClaim := { program := "ytficfkeifcnbmaa", sum := "8612ccc1509e19620c518a910abc3837c02ddf13088ea07859f36563739e2146", func := "lanekeeper/lklaw1.SumTells", spec := "sumTells", apart := false }
def SumTellsSaid : Prop := sumTellsRow.holds Try.pinned (OpenSpec.ofChange sumTellsSpec)

/-- ITS FALSE NEIGHBOUR: 'it returns false'. Refute it at one input. -/
def sumTellsWrong : ChangeSpec := { name := "sumTells", fn := fun _ => fun
  | [d] => { results := [.lit (.bool false)], args := [d] }
  | _ => none }
def SumTellsWrongFalsely : Prop := sumTellsRow.holds Try.pinned (OpenSpec.ofChange sumTellsWrong)

/-- 'lklaw1.SumByte': WHATEVER THE INPUT: true; the input reads as it did. -/
def sumByteSpec : ChangeSpec := { name := "sumByte", fn := fun _ => fun
  | [d1, d2, d3] => { results := [.lit (.bool true)], args := [d1, d2, d3] }
  | _ => none }
def sumByteRow : OpenClaim := { program := "ytficfkeifcnbmaa", sum := "8612ccc1509e19620c518a910abc3837c02ddf13088ea07859f36563739e2146", func := "lanekeeper/lklaw1.SumByte", spec := "sumByte", apart := false }
def SumByteSaid : Prop := sumByteRow.holds Try.pinned (OpenSpec.ofChange sumByteSpec)

/-- ITS FALSE NEIGHBOUR: 'it returns false'. Refute it at one input. -/
def sumByteWrong : ChangeSpec := { name := "sumByte", fn := fun _ => fun
  | [d1, d2, d3] => { results := [.lit (.bool false)], args := [d1, d2, d3] }
  | _ => none }
def SumByteWrongFalsely : Prop := sumByteRow.holds Try.pinned (OpenSpec.ofChange sumByteWrong)

/-- 'lklaw2.ChunkTells': WHATEVER THE INPUT: true; the input reads as it did. -/
def chunkTellsSpec : ChangeSpec := { name := "chunkTells", fn := fun _ => fun
  | [d1, d2, d3] => { results := [.lit (.bool true)], args := [d1, d2, d3] }
  | _ => none }
def chunkTellsRow : OpenClaim := { program := "ytficfkeifcnbmaa", sum := "8612ccc1509e19620c518a910abc3837c02ddf13088ea07859f36563739e2146", func := "lanekeeper/lklaw2.ChunkTells", spec := "chunkTells", unfollowed := true, recurses := true, apart := false }
def ChunkTellsSaid : Prop := chunkTellsRow.holds Try.pinned (OpenSpec.ofChange chunkTellsSpec)

/-- ITS FALSE NEIGHBOUR: 'it returns false'. Refute it at one input. -/
def chunkTellsWrong : ChangeSpec := { name := "chunkTells", fn := fun _ => fun
  | [d1, d2, d3] => { results := [.lit (.bool false)], args := [d1, d2, d3] }
  | _ => none }
def ChunkTellsWrongFalsely : Prop := chunkTellsRow.holds Try.pinned (OpenSpec.ofChange chunkTellsWrong)

/-- 'lklaw2.ChunkUnlike': WHATEVER THE INPUT: true; the input reads as it did. -/
def chunkUnlikeSpec : ChangeSpec := { name := "chunkUnlike", fn := fun _ => fun
  | [d1, d2] => { results := [.lit (.bool true)], args := [d1, d2] }
  | _ => none }
def chunkUnlikeRow : OpenClaim := { program := "ytficfkeifcnbmaa", sum := "8612ccc1509e19620c518a910abc3837c02ddf13088ea07859f36563739e2146", func := "lanekeeper/lklaw2.ChunkUnlike", spec := "chunkUnlike", apart := false }
def ChunkUnlikeSaid : Prop := chunkUnlikeRow.holds Try.pinned (OpenSpec.ofChange chunkUnlikeSpec)

/-- ITS FALSE NEIGHBOUR: 'it returns false'. Refute it at one input. -/
def chunkUnlikeWrong : ChangeSpec := { name := "chunkUnlike", fn := fun _ => fun
  | [d1, d2] => { results := [.lit (.bool false)], args := [d1, d2] }
  | _ => none }
def ChunkUnlikeWrongFalsely : Prop := chunkUnlikeRow.holds Try.pinned (OpenSpec.ofChange chunkUnlikeWrong)

/-- 'lklaw2.ChunkTurns': WHATEVER THE INPUT: true; the input reads as it did. -/
def chunkTurnsSpec : ChangeSpec := { name := "chunkTurns", fn := fun _ => fun
  | [d1, d2] => { results := [.lit (.bool true)], args := [d1, d2] }
  | _ => none }
def chunkTurnsRow : OpenClaim := { program := "ytficfkeifcnbmaa", sum := "8612ccc1509e19620c518a910abc3837c02ddf13088ea07859f36563739e2146", func := "lanekeeper/lklaw2.ChunkTurns", spec := "chunkTurns", apart := false }
def ChunkTurnsSaid : Prop := chunkTurnsRow.holds Try.pinned (OpenSpec.ofChange chunkTurnsSpec)

/-- ITS FALSE NEIGHBOUR: 'it returns false'. Refute it at one input. -/
def chunkTurnsWrong : ChangeSpec := { name := "chunkTurns", fn := fun _ => fun
  | [d1, d2] => { results := [.lit (.bool false)], args := [d1, d2] }
  | _ => none }
def ChunkTurnsWrongFalsely : Prop := chunkTurnsRow.holds Try.pinned (OpenSpec.ofChange chunkTurnsWrong)

/-- 'lklaw2.ChunkByte': WHATEVER THE INPUT: true; the input reads as it did. -/
def chunkByteSpec : ChangeSpec := { name := "chunkByte", fn := fun _ => fun
  | [d1, d2, d3] => { results := [.lit (.bool true)], args := [d1, d2, d3] }
  | _ => none }
def chunkByteRow : OpenClaim := { program := "ytficfkeifcnbmaa", sum := "8612ccc1509e19620c518a910abc3837c02ddf13088ea07859f36563739e2146", func := "lanekeeper/lklaw2.ChunkByte", spec := "chunkByte", apart := false }
def ChunkByteSaid : Prop := chunkByteRow.holds Try.pinned (OpenSpec.ofChange chunkByteSpec)

/-- ITS FALSE NEIGHBOUR: 'it returns false'. Refute it at one input. -/
def chunkByteWrong : ChangeSpec := { name := "chunkByte", fn := fun _ => fun
  | [d1, d2, d3] => { results := [.lit (.bool false)], args := [d1, d2, d3] }
  | _ => none }
def ChunkByteWrongFalsely : Prop := chunkByteRow.holds Try.pinned (OpenSpec.ofChange chunkByteWrong)

/-- 'lklaw4.PlainTells': WHATEVER THE INPUT: true; the input reads as it did. -/
def plainTellsSpec : ChangeSpec := { name := "plainTells", fn := fun _ => fun
  | [d1, d2, d3] => { results := [.lit (.bool true)], args := [d1, d2, d3] }
  | _ => none }
def plainTellsRow : OpenClaim := { program := "ytficfkeifcnbmaa", sum := "8612ccc1509e19620c518a910abc3837c02ddf13088ea07859f36563739e2146", func := "lanekeeper/lklaw4.PlainTells", spec := "plainTells", apart := false }
def PlainTellsSaid : Prop := plainTellsRow.holds Try.pinned (OpenSpec.ofChange plainTellsSpec)

/-- ITS FALSE NEIGHBOUR: 'it returns false'. Refute it at one input. -/
def plainTellsWrong : ChangeSpec := { name := "plainTells", fn := fun _ => fun
  | [d1, d2, d3] => { results := [.lit (.bool false)], args := [d1, d2, d3] }
  | _ => none }
def PlainTellsWrongFalsely : Prop := plainTellsRow.holds Try.pinned (OpenSpec.ofChange plainTellsWrong)

/-- 'lklaw4.PlainFirst': WHATEVER THE INPUT: true; the input reads as it did. -/
def plainFirstSpec : ChangeSpec := { name := "plainFirst", fn := fun _ => fun
  | [d1, d2, d3] => { results := [.lit (.bool true)], args := [d1, d2, d3] }
  | _ => none }
def plainFirstRow : OpenClaim := { program := "ytficfkeifcnbmaa", sum := "8612ccc1509e19620c518a910abc3837c02ddf13088ea07859f36563739e2146", func := "lanekeeper/lklaw4.PlainFirst", spec := "plainFirst", apart := false }
def PlainFirstSaid : Prop := plainFirstRow.holds Try.pinned (OpenSpec.ofChange plainFirstSpec)

/-- ITS FALSE NEIGHBOUR: 'it returns false'. Refute it at one input. -/
def plainFirstWrong : ChangeSpec := { name := "plainFirst", fn := fun _ => fun
  | [d1, d2, d3] => { results := [.lit (.bool false)], args := [d1, d2, d3] }
  | _ => none }
def PlainFirstWrongFalsely : Prop := plainFirstRow.holds Try.pinned (OpenSpec.ofChange plainFirstWrong)

/-- 'lklaw5.SendTells': WHATEVER THE INPUT: true; the input reads as it did. -/
def sendTellsSpec : ChangeSpec := { name := "sendTells", fn := fun _ => fun
  | [d1, d2, d3, d4] => { results := [.lit (.bool true)], args := [d1, d2, d3, d4] }
  | _ => none }
def sendTellsRow : OpenClaim := { program := "ytficfkeifcnbmaa", sum := "8612ccc1509e19620c518a910abc3837c02ddf13088ea07859f36563739e2146", func := "lanekeeper/lklaw5.SendTells", spec := "sendTells", unfollowed := true, recurses := true, apart := false }
def SendTellsSaid : Prop := sendTellsRow.holds Try.pinned (OpenSpec.ofChange sendTellsSpec)

/-- ITS FALSE NEIGHBOUR: 'it returns false'. Refute it at one input. -/
def sendTellsWrong : ChangeSpec := { name := "sendTells", fn := fun _ => fun
  | [d1, d2, d3, d4] => { results := [.lit (.bool false)], args := [d1, d2, d3, d4] }
  | _ => none }
def SendTellsWrongFalsely : Prop := sendTellsRow.holds Try.pinned (OpenSpec.ofChange sendTellsWrong)

/-- 'lklaw5.SendHeard': WHATEVER THE INPUT: true; the input reads as it did. -/
def sendHeardSpec : ChangeSpec := { name := "sendHeard", fn := fun _ => fun
  | [d1, d2, d3, d4] => { results := [.lit (.bool true)], args := [d1, d2, d3, d4] }
  | _ => none }
def sendHeardRow : OpenClaim := { program := "ytficfkeifcnbmaa", sum := "8612ccc1509e19620c518a910abc3837c02ddf13088ea07859f36563739e2146", func := "lanekeeper/lklaw5.SendHeard", spec := "sendHeard", unfollowed := true, recurses := true, apart := false }
def SendHeardSaid : Prop := sendHeardRow.holds Try.pinned (OpenSpec.ofChange sendHeardSpec)

/-- ITS FALSE NEIGHBOUR: 'it returns false'. Refute it at one input. -/
def sendHeardWrong : ChangeSpec := { name := "sendHeard", fn := fun _ => fun
  | [d1, d2, d3, d4] => { results := [.lit (.bool false)], args := [d1, d2, d3, d4] }
  | _ => none }
def SendHeardWrongFalsely : Prop := sendHeardRow.holds Try.pinned (OpenSpec.ofChange sendHeardWrong)

/- THE SECOND FORM. 'bulk': how many values and letters a reading holds, each counted each time it is reached (what is shared counts as often as it is met; a slice's spare places count too). A statement '..UptoSaid' is the law's where the arguments, and the package variables that the reading takes, are together of bulk at most 1048576: NARROWER than '..Said'. Prove '..Said' where nothing that the law and all that it calls make is longer than what came in: it says more and counts as full. Else prove '..UptoSaid'. A law counts once. -/
mutual
def uptoBulk {H : Type} : DataW H → Nat
  | .lit (.string bytes) => bytes.length + 1
  | .lit _ => 1
  | .nil => 1
  | .ptr d => uptoBulk d + 1
  | .slice elems spare => uptoBulkAll elems + uptoBulkAll spare + 1
  | .agg parts => uptoBulkAll parts + 1
  | .iface _ d => uptoBulk d + 1
  | .map entries => uptoBulkEntries entries + 1
  | .held _ => 1
def uptoBulkAll {H : Type} : List (DataW H) → Nat
  | [] => 0
  | d :: r => uptoBulk d + uptoBulkAll r
def uptoBulkEntries {H : Type} : List (Lit × DataW H) → Nat
  | [] => 0
  | x :: r => uptoBulkEntry x + uptoBulkEntries r
def uptoBulkEntry {H : Type} : Lit × DataW H → Nat
  | (.string bytes, d) => bytes.length + uptoBulk d + 1
  | (_, d) => uptoBulk d + 1
 end
def uptoSmall : (H : Type) → List (DataW H) → Bool := fun _ ds => decide (uptoBulkAll ds ≤ 1048576)
def OpenSpec.upto (s : _root_.Go.ChangeSpec) : _root_.Go.OpenSpec := { _root_.Go.OpenSpec.ofChange s with cond := some uptoSmall }

/-- 'lklaw1.SumTells', WHERE WHAT IT READS IS OF BULK AT MOST 1048576: true; the input reads as it did. -/
def sumTellsUptoRow : OpenClaim := { program := "ytficfkeifcnbmaa", sum := "8612ccc1509e19620c518a910abc3837c02ddf13088ea07859f36563739e2146", func := "lanekeeper/lklaw1.SumTells", spec := "sumTells", apart := false, narrowed := true }
def SumTellsUptoSaid : Prop := sumTellsUptoRow.holds Try.pinned (OpenSpec.upto sumTellsSpec)

/-- 'lklaw1.SumByte', WHERE WHAT IT READS IS OF BULK AT MOST 1048576: true; the input reads as it did. -/
def sumByteUptoRow : OpenClaim := { program := "ytficfkeifcnbmaa", sum := "8612ccc1509e19620c518a910abc3837c02ddf13088ea07859f36563739e2146", func := "lanekeeper/lklaw1.SumByte", spec := "sumByte", apart := false, narrowed := true }
def SumByteUptoSaid : Prop := sumByteUptoRow.holds Try.pinned (OpenSpec.upto sumByteSpec)

/-- 'lklaw2.ChunkTells', WHERE WHAT IT READS IS OF BULK AT MOST 1048576: true; the input reads as it did. -/
def chunkTellsUptoRow : OpenClaim := { program := "ytficfkeifcnbmaa", sum := "8612ccc1509e19620c518a910abc3837c02ddf13088ea07859f36563739e2146", func := "lanekeeper/lklaw2.ChunkTells", spec := "chunkTells", unfollowed := true, recurses := true, apart := false, narrowed := true }
def ChunkTellsUptoSaid : Prop := chunkTellsUptoRow.holds Try.pinned (OpenSpec.upto chunkTellsSpec)

/-- 'lklaw2.ChunkUnlike', WHERE WHAT IT READS IS OF BULK AT MOST 1048576: true; the input reads as it did. -/
def chunkUnlikeUptoRow : OpenClaim := { program := "ytficfkeifcnbmaa", sum := "8612ccc1509e19620c518a910abc3837c02ddf13088ea07859f36563739e2146", func := "lanekeeper/lklaw2.ChunkUnlike", spec := "chunkUnlike", apart := false, narrowed := true }
def ChunkUnlikeUptoSaid : Prop := chunkUnlikeUptoRow.holds Try.pinned (OpenSpec.upto chunkUnlikeSpec)

/-- 'lklaw2.ChunkTurns', WHERE WHAT IT READS IS OF BULK AT MOST 1048576: true; the input reads as it did. -/
def chunkTurnsUptoRow : OpenClaim := { program := "ytficfkeifcnbmaa", sum := "8612ccc1509e19620c518a910abc3837c02ddf13088ea07859f36563739e2146", func := "lanekeeper/lklaw2.ChunkTurns", spec := "chunkTurns", apart := false, narrowed := true }
def ChunkTurnsUptoSaid : Prop := chunkTurnsUptoRow.holds Try.pinned (OpenSpec.upto chunkTurnsSpec)

/-- 'lklaw2.ChunkByte', WHERE WHAT IT READS IS OF BULK AT MOST 1048576: true; the input reads as it did. -/
def chunkByteUptoRow : OpenClaim := { program := "ytficfkeifcnbmaa", sum := "8612ccc1509e19620c518a910abc3837c02ddf13088ea07859f36563739e2146", func := "lanekeeper/lklaw2.ChunkByte", spec := "chunkByte", apart := false, narrowed := true }
def ChunkByteUptoSaid : Prop := chunkByteUptoRow.holds Try.pinned (OpenSpec.upto chunkByteSpec)

/-- 'lklaw4.PlainTells', WHERE WHAT IT READS IS OF BULK AT MOST 1048576: true; the input reads as it did. -/
def plainTellsUptoRow : OpenClaim := { program := "ytficfkeifcnbmaa", sum := "8612ccc1509e19620c518a910abc3837c02ddf13088ea07859f36563739e2146", func := "lanekeeper/lklaw4.PlainTells", spec := "plainTells", apart := false, narrowed := true }
def PlainTellsUptoSaid : Prop := plainTellsUptoRow.holds Try.pinned (OpenSpec.upto plainTellsSpec)

/-- 'lklaw4.PlainFirst', WHERE WHAT IT READS IS OF BULK AT MOST 1048576: true; the input reads as it did. -/
def plainFirstUptoRow : OpenClaim := { program := "ytficfkeifcnbmaa", sum := "8612ccc1509e19620c518a910abc3837c02ddf13088ea07859f36563739e2146", func := "lanekeeper/lklaw4.PlainFirst", spec := "plainFirst", apart := false, narrowed := true }
def PlainFirstUptoSaid : Prop := plainFirstUptoRow.holds Try.pinned (OpenSpec.upto plainFirstSpec)

/-- 'lklaw5.SendTells', WHERE WHAT IT READS IS OF BULK AT MOST 1048576: true; the input reads as it did. -/
def sendTellsUptoRow : OpenClaim := { program := "ytficfkeifcnbmaa", sum := "8612ccc1509e19620c518a910abc3837c02ddf13088ea07859f36563739e2146", func := "lanekeeper/lklaw5.SendTells", spec := "sendTells", unfollowed := true, recurses := true, apart := false, narrowed := true }
def SendTellsUptoSaid : Prop := sendTellsUptoRow.holds Try.pinned (OpenSpec.upto sendTellsSpec)

/-- 'lklaw5.SendHeard', WHERE WHAT IT READS IS OF BULK AT MOST 1048576: true; the input reads as it did. -/
def sendHeardUptoRow : OpenClaim := { program := "ytficfkeifcnbmaa", sum := "8612ccc1509e19620c518a910abc3837c02ddf13088ea07859f36563739e2146", func := "lanekeeper/lklaw5.SendHeard", spec := "sendHeard", unfollowed := true, recurses := true, apart := false, narrowed := true }
def SendHeardUptoSaid : Prop := sendHeardUptoRow.holds Try.pinned (OpenSpec.upto sendHeardSpec)

end Rows
end Go.Proofs.Ytficfkeifcnbmaa
