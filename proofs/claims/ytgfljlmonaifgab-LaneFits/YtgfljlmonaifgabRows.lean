/-
  No cell of these rows narrows 'for every input' (looked for: loops, veiled, ifaces, maps, wideKeys, modest, calm, conditions, laid).
  DERIVED. THE GIVEN ROWS OF THIS SEAT. 12 by the template 'for every input the law returns true; each argument reads behind the call as it read before'; 0 by the template 'total and deterministic' (their statements: YtgfljlmonaifgabTotals.lean).
  GIVEN WITH THE SEED: the statements are not yours to turn. If you find one false, say at which input.
  Laid BY PROGRAM, IN A SANDBOX (cutbox-rows.mjs): the forced cells as the released guide's own fill.sh prints them over the translation 2af653c4153b73c1… (all of the seat's roots in one cut). By AI agents, Wed Nov 11 2026. No macro, syntax, notation, axiom, sorry.
-/
import Derived.Test.YtgfljlmonaifgabChecked
import GoSem.Claim
import GoSem.ClaimJoined
import GoSem.ClaimMapViews
import Derived.JoinedTies
import Derived.KernelRfl
namespace Go.Proofs.Ytgfljlmonaifgab
/- THE CELL 'sum', in the pinned program and in every row, IS THE sha256 OF THE DUMP (.gsa) THAT YtgfljlmonaifgabProg.lean LOADS. Nothing in Lean hashes anything: it is a label: what it is worth is what the hold of that sum in a sandbox is worth. -/
noncomputable def Try.pinned : Pinned := { name := "ytgfljlmonaifgab", sum := "2af653c4153b73c1946039e8df7a241a4351343f92e92bc0640e9d56a8ae8d91", checked := Try.checked }
namespace Rows
def none {H : Type} : Left H := { results := [], args := [] }

/-- 'lklaw5.SendEach': WHATEVER THE INPUT: true; the input reads as it did. -/
def sendEachSpec : ChangeSpec := { name := "sendEach", fn := fun _ => fun
  | [d1, d2, d3] => { results := [.lit (.bool true)], args := [d1, d2, d3] }
  | _ => none }
def sendEachRow : OpenClaim := { program := "ytgfljlmonaifgab", sum := "2af653c4153b73c1946039e8df7a241a4351343f92e92bc0640e9d56a8ae8d91", func := "lanekeeper/lklaw5.SendEach", spec := "sendEach", unfollowed := true, recurses := true, apart := false }
def SendEachSaid : Prop := sendEachRow.holds Try.pinned (OpenSpec.ofChange sendEachSpec)

/-- ITS FALSE NEIGHBOUR: 'it returns false'. Refute it at one input. -/
def sendEachWrong : ChangeSpec := { name := "sendEach", fn := fun _ => fun
  | [d1, d2, d3] => { results := [.lit (.bool false)], args := [d1, d2, d3] }
  | _ => none }
def SendEachWrongFalsely : Prop := sendEachRow.holds Try.pinned (OpenSpec.ofChange sendEachWrong)

/-- 'lklaw6.RecvTells': WHATEVER THE INPUT: true; the input reads as it did. -/
def recvTellsSpec : ChangeSpec := { name := "recvTells", fn := fun _ => fun
  | [d1, d2] => { results := [.lit (.bool true)], args := [d1, d2] }
  | _ => none }
def recvTellsRow : OpenClaim := { program := "ytgfljlmonaifgab", sum := "2af653c4153b73c1946039e8df7a241a4351343f92e92bc0640e9d56a8ae8d91", func := "lanekeeper/lklaw6.RecvTells", spec := "recvTells", inPlace := ["slices.overlaps[int]"], unfollowed := true, recurses := true, apart := false }
def RecvTellsSaid : Prop := recvTellsRow.holds Try.pinned (OpenSpec.ofChange recvTellsSpec)

/-- ITS FALSE NEIGHBOUR: 'it returns false'. Refute it at one input. -/
def recvTellsWrong : ChangeSpec := { name := "recvTells", fn := fun _ => fun
  | [d1, d2] => { results := [.lit (.bool false)], args := [d1, d2] }
  | _ => none }
def RecvTellsWrongFalsely : Prop := recvTellsRow.holds Try.pinned (OpenSpec.ofChange recvTellsWrong)

/-- 'lklaw6.RecvSays': WHATEVER THE INPUT: true; the input reads as it did. -/
def recvSaysSpec : ChangeSpec := { name := "recvSays", fn := fun _ => fun
  | [d] => { results := [.lit (.bool true)], args := [d] }
  | _ => none }
def recvSaysRow : OpenClaim := { program := "ytgfljlmonaifgab", sum := "2af653c4153b73c1946039e8df7a241a4351343f92e92bc0640e9d56a8ae8d91", func := "lanekeeper/lklaw6.RecvSays", spec := "recvSays", inPlace := ["slices.overlaps[int]"], unfollowed := true, recurses := true, apart := false }
def RecvSaysSaid : Prop := recvSaysRow.holds Try.pinned (OpenSpec.ofChange recvSaysSpec)

/-- ITS FALSE NEIGHBOUR: 'it returns false'. Refute it at one input. -/
def recvSaysWrong : ChangeSpec := { name := "recvSays", fn := fun _ => fun
  | [d] => { results := [.lit (.bool false)], args := [d] }
  | _ => none }
def RecvSaysWrongFalsely : Prop := recvSaysRow.holds Try.pinned (OpenSpec.ofChange recvSaysWrong)

/-- 'lklaw6.RecvTwice': WHATEVER THE INPUT: true; the input reads as it did. -/
def recvTwiceSpec : ChangeSpec := { name := "recvTwice", fn := fun _ => fun
  | [d1, d2] => { results := [.lit (.bool true)], args := [d1, d2] }
  | _ => none }
def recvTwiceRow : OpenClaim := { program := "ytgfljlmonaifgab", sum := "2af653c4153b73c1946039e8df7a241a4351343f92e92bc0640e9d56a8ae8d91", func := "lanekeeper/lklaw6.RecvTwice", spec := "recvTwice", inPlace := ["slices.overlaps[int]"], unfollowed := true, recurses := true, apart := false }
def RecvTwiceSaid : Prop := recvTwiceRow.holds Try.pinned (OpenSpec.ofChange recvTwiceSpec)

/-- ITS FALSE NEIGHBOUR: 'it returns false'. Refute it at one input. -/
def recvTwiceWrong : ChangeSpec := { name := "recvTwice", fn := fun _ => fun
  | [d1, d2] => { results := [.lit (.bool false)], args := [d1, d2] }
  | _ => none }
def RecvTwiceWrongFalsely : Prop := recvTwiceRow.holds Try.pinned (OpenSpec.ofChange recvTwiceWrong)

/-- 'lklaw6.RecvOrder': WHATEVER THE INPUT: true; the input reads as it did. -/
def recvOrderSpec : ChangeSpec := { name := "recvOrder", fn := fun _ => fun
  | [d1, d2] => { results := [.lit (.bool true)], args := [d1, d2] }
  | _ => none }
def recvOrderRow : OpenClaim := { program := "ytgfljlmonaifgab", sum := "2af653c4153b73c1946039e8df7a241a4351343f92e92bc0640e9d56a8ae8d91", func := "lanekeeper/lklaw6.RecvOrder", spec := "recvOrder", inPlace := ["slices.overlaps[int]"], unfollowed := true, recurses := true, apart := false }
def RecvOrderSaid : Prop := recvOrderRow.holds Try.pinned (OpenSpec.ofChange recvOrderSpec)

/-- ITS FALSE NEIGHBOUR: 'it returns false'. Refute it at one input. -/
def recvOrderWrong : ChangeSpec := { name := "recvOrder", fn := fun _ => fun
  | [d1, d2] => { results := [.lit (.bool false)], args := [d1, d2] }
  | _ => none }
def RecvOrderWrongFalsely : Prop := recvOrderRow.holds Try.pinned (OpenSpec.ofChange recvOrderWrong)

/-- 'lklaw7.LaneTells': WHATEVER THE INPUT: true; the input reads as it did. -/
def laneTellsSpec : ChangeSpec := { name := "laneTells", fn := fun _ => fun
  | [d1, d2, d3, d4, d5] => { results := [.lit (.bool true)], args := [d1, d2, d3, d4, d5] }
  | _ => none }
def laneTellsRow : OpenClaim := { program := "ytgfljlmonaifgab", sum := "2af653c4153b73c1946039e8df7a241a4351343f92e92bc0640e9d56a8ae8d91", func := "lanekeeper/lklaw7.LaneTells", spec := "laneTells", inPlace := ["slices.overlaps[int]"], unfollowed := true, recurses := true, apart := false }
def LaneTellsSaid : Prop := laneTellsRow.holds Try.pinned (OpenSpec.ofChange laneTellsSpec)

/-- ITS FALSE NEIGHBOUR: 'it returns false'. Refute it at one input. -/
def laneTellsWrong : ChangeSpec := { name := "laneTells", fn := fun _ => fun
  | [d1, d2, d3, d4, d5] => { results := [.lit (.bool false)], args := [d1, d2, d3, d4, d5] }
  | _ => none }
def LaneTellsWrongFalsely : Prop := laneTellsRow.holds Try.pinned (OpenSpec.ofChange laneTellsWrong)

/-- 'lklaw7.LaneSpoilt': WHATEVER THE INPUT: true; the input reads as it did. -/
def laneSpoiltSpec : ChangeSpec := { name := "laneSpoilt", fn := fun _ => fun
  | [d1, d2, d3, d4, d5] => { results := [.lit (.bool true)], args := [d1, d2, d3, d4, d5] }
  | _ => none }
def laneSpoiltRow : OpenClaim := { program := "ytgfljlmonaifgab", sum := "2af653c4153b73c1946039e8df7a241a4351343f92e92bc0640e9d56a8ae8d91", func := "lanekeeper/lklaw7.LaneSpoilt", spec := "laneSpoilt", inPlace := ["slices.overlaps[int]"], unfollowed := true, recurses := true, apart := false }
def LaneSpoiltSaid : Prop := laneSpoiltRow.holds Try.pinned (OpenSpec.ofChange laneSpoiltSpec)

/-- ITS FALSE NEIGHBOUR: 'it returns false'. Refute it at one input. -/
def laneSpoiltWrong : ChangeSpec := { name := "laneSpoilt", fn := fun _ => fun
  | [d1, d2, d3, d4, d5] => { results := [.lit (.bool false)], args := [d1, d2, d3, d4, d5] }
  | _ => none }
def LaneSpoiltWrongFalsely : Prop := laneSpoiltRow.holds Try.pinned (OpenSpec.ofChange laneSpoiltWrong)

/-- 'lklaw7.LaneFits': WHATEVER THE INPUT: true; the input reads as it did. -/
def laneFitsSpec : ChangeSpec := { name := "laneFits", fn := fun _ => fun
  | [d1, d2, d3, d4] => { results := [.lit (.bool true)], args := [d1, d2, d3, d4] }
  | _ => none }
def laneFitsRow : OpenClaim := { program := "ytgfljlmonaifgab", sum := "2af653c4153b73c1946039e8df7a241a4351343f92e92bc0640e9d56a8ae8d91", func := "lanekeeper/lklaw7.LaneFits", spec := "laneFits", inPlace := ["slices.overlaps[int]"], unfollowed := true, recurses := true, apart := false }
def LaneFitsSaid : Prop := laneFitsRow.holds Try.pinned (OpenSpec.ofChange laneFitsSpec)

/-- ITS FALSE NEIGHBOUR: 'it returns false'. Refute it at one input. -/
def laneFitsWrong : ChangeSpec := { name := "laneFits", fn := fun _ => fun
  | [d1, d2, d3, d4] => { results := [.lit (.bool false)], args := [d1, d2, d3, d4] }
  | _ => none }
def LaneFitsWrongFalsely : Prop := laneFitsRow.holds Try.pinned (OpenSpec.ofChange laneFitsWrong)

/-- 'lklaw8.SlotTells': WHATEVER THE INPUT: true; the input reads as it did. -/
def slotTellsSpec : ChangeSpec := { name := "slotTells", fn := fun _ => fun
  | [d1, d2, d3, d4] => { results := [.lit (.bool true)], args := [d1, d2, d3, d4] }
  | _ => none }
def slotTellsRow : OpenClaim := { program := "ytgfljlmonaifgab", sum := "2af653c4153b73c1946039e8df7a241a4351343f92e92bc0640e9d56a8ae8d91", func := "lanekeeper/lklaw8.SlotTells", spec := "slotTells", apart := false }
def SlotTellsSaid : Prop := slotTellsRow.holds Try.pinned (OpenSpec.ofChange slotTellsSpec)

/-- ITS FALSE NEIGHBOUR: 'it returns false'. Refute it at one input. -/
def slotTellsWrong : ChangeSpec := { name := "slotTells", fn := fun _ => fun
  | [d1, d2, d3, d4] => { results := [.lit (.bool false)], args := [d1, d2, d3, d4] }
  | _ => none }
def SlotTellsWrongFalsely : Prop := slotTellsRow.holds Try.pinned (OpenSpec.ofChange slotTellsWrong)

/-- 'lklaw8.SlotSoon': WHATEVER THE INPUT: true; the input reads as it did. -/
def slotSoonSpec : ChangeSpec := { name := "slotSoon", fn := fun _ => fun
  | [d1, d2, d3] => { results := [.lit (.bool true)], args := [d1, d2, d3] }
  | _ => none }
def slotSoonRow : OpenClaim := { program := "ytgfljlmonaifgab", sum := "2af653c4153b73c1946039e8df7a241a4351343f92e92bc0640e9d56a8ae8d91", func := "lanekeeper/lklaw8.SlotSoon", spec := "slotSoon", apart := false }
def SlotSoonSaid : Prop := slotSoonRow.holds Try.pinned (OpenSpec.ofChange slotSoonSpec)

/-- ITS FALSE NEIGHBOUR: 'it returns false'. Refute it at one input. -/
def slotSoonWrong : ChangeSpec := { name := "slotSoon", fn := fun _ => fun
  | [d1, d2, d3] => { results := [.lit (.bool false)], args := [d1, d2, d3] }
  | _ => none }
def SlotSoonWrongFalsely : Prop := slotSoonRow.holds Try.pinned (OpenSpec.ofChange slotSoonWrong)

/-- 'lklaw8.SlotShare': WHATEVER THE INPUT: true; the input reads as it did. -/
def slotShareSpec : ChangeSpec := { name := "slotShare", fn := fun _ => fun
  | [d1, d2, d3] => { results := [.lit (.bool true)], args := [d1, d2, d3] }
  | _ => none }
def slotShareRow : OpenClaim := { program := "ytgfljlmonaifgab", sum := "2af653c4153b73c1946039e8df7a241a4351343f92e92bc0640e9d56a8ae8d91", func := "lanekeeper/lklaw8.SlotShare", spec := "slotShare", apart := false }
def SlotShareSaid : Prop := slotShareRow.holds Try.pinned (OpenSpec.ofChange slotShareSpec)

/-- ITS FALSE NEIGHBOUR: 'it returns false'. Refute it at one input. -/
def slotShareWrong : ChangeSpec := { name := "slotShare", fn := fun _ => fun
  | [d1, d2, d3] => { results := [.lit (.bool false)], args := [d1, d2, d3] }
  | _ => none }
def SlotShareWrongFalsely : Prop := slotShareRow.holds Try.pinned (OpenSpec.ofChange slotShareWrong)

/-- 'lklaw9.WorldTells': WHATEVER THE INPUT: true; the input reads as it did. -/
def worldTellsSpec : ChangeSpec := { name := "worldTells", fn := fun _ => fun
  | [d1, d2, d3] => { results := [.lit (.bool true)], args := [d1, d2, d3] }
  | _ => none }
def worldTellsRow : OpenClaim := { program := "ytgfljlmonaifgab", sum := "2af653c4153b73c1946039e8df7a241a4351343f92e92bc0640e9d56a8ae8d91", func := "lanekeeper/lklaw9.WorldTells", spec := "worldTells", inPlace := ["slices.overlaps[int]"], unfollowed := true, recurses := true, apart := false }
def WorldTellsSaid : Prop := worldTellsRow.holds Try.pinned (OpenSpec.ofChange worldTellsSpec)

/-- ITS FALSE NEIGHBOUR: 'it returns false'. Refute it at one input. -/
def worldTellsWrong : ChangeSpec := { name := "worldTells", fn := fun _ => fun
  | [d1, d2, d3] => { results := [.lit (.bool false)], args := [d1, d2, d3] }
  | _ => none }
def WorldTellsWrongFalsely : Prop := worldTellsRow.holds Try.pinned (OpenSpec.ofChange worldTellsWrong)

/- THE SECOND FORM. 'bulk': how many values and letters a reading holds, each counted each time it is reached (what is shared counts as often as it is met; a slice's spare places count too). A statement '..UptoSaid' is the law's where the arguments, and the package variables that the reading takes, are together of bulk at most 1048576: NARROWER than '..Said'. Prove '..Said' where nothing that the law and all that it calls make is longer than what came in: it says more and counts as full. Else prove '..UptoSaid'. A law counts once. -/
mutual
def uptoBulk {H : Type} : DataW H → Nat
  | .lit (.string bytes) => bytes.length + 1
  | .lit _ => 1
  | .nil => 1
  | .ptr d => uptoBulk d + 1
  | .slice elems spare => uptoBulkAll elems + uptoBulkAll spare + 1
  | .agg parts => uptoBulkAll parts + 1
  | .iface _ d => uptoBulk d + 1
  | .map entries => uptoBulkEntries entries + 1
  | .held _ => 1
def uptoBulkAll {H : Type} : List (DataW H) → Nat
  | [] => 0
  | d :: r => uptoBulk d + uptoBulkAll r
def uptoBulkEntries {H : Type} : List (Lit × DataW H) → Nat
  | [] => 0
  | x :: r => uptoBulkEntry x + uptoBulkEntries r
def uptoBulkEntry {H : Type} : Lit × DataW H → Nat
  | (.string bytes, d) => bytes.length + uptoBulk d + 1
  | (_, d) => uptoBulk d + 1
 end
def uptoSmall : (H : Type) → List (DataW H) → Bool := fun _ ds => decide (uptoBulkAll ds ≤ 1048576)
def OpenSpec.upto (s : _root_.Go.ChangeSpec) : _root_.Go.OpenSpec := { _root_.Go.OpenSpec.ofChange s with cond := some uptoSmall }

/-- 'lklaw5.SendEach', WHERE WHAT IT READS IS OF BULK AT MOST 1048576: true; the input reads as it did. -/
def sendEachUptoRow : OpenClaim := { program := "ytgfljlmonaifgab", sum := "2af653c4153b73c1946039e8df7a241a4351343f92e92bc0640e9d56a8ae8d91", func := "lanekeeper/lklaw5.SendEach", spec := "sendEach", unfollowed := true, recurses := true, apart := false, narrowed := true }
def SendEachUptoSaid : Prop := sendEachUptoRow.holds Try.pinned (OpenSpec.upto sendEachSpec)

/-- 'lklaw6.RecvTells', WHERE WHAT IT READS IS OF BULK AT MOST 1048576: true; the input reads as it did. -/
def recvTellsUptoRow : OpenClaim := { program := "ytgfljlmonaifgab", sum := "2af653c4153b73c1946039e8df7a241a4351343f92e92bc0640e9d56a8ae8d91", func := "lanekeeper/lklaw6.RecvTells", spec := "recvTells", inPlace := ["slices.overlaps[int]"], unfollowed := true, recurses := true, apart := false, narrowed := true }
def RecvTellsUptoSaid : Prop := recvTellsUptoRow.holds Try.pinned (OpenSpec.upto recvTellsSpec)

/-- 'lklaw6.RecvSays', WHERE WHAT IT READS IS OF BULK AT MOST 1048576: true; the input reads as it did. -/
def recvSaysUptoRow : OpenClaim := { program := "ytgfljlmonaifgab", sum := "2af653c4153b73c1946039e8df7a241a4351343f92e92bc0640e9d56a8ae8d91", func := "lanekeeper/lklaw6.RecvSays", spec := "recvSays", inPlace := ["slices.overlaps[int]"], unfollowed := true, recurses := true, apart := false, narrowed := true }
def RecvSaysUptoSaid : Prop := recvSaysUptoRow.holds Try.pinned (OpenSpec.upto recvSaysSpec)

/-- 'lklaw6.RecvTwice', WHERE WHAT IT READS IS OF BULK AT MOST 1048576: true; the input reads as it did. -/
def recvTwiceUptoRow : OpenClaim := { program := "ytgfljlmonaifgab", sum := "2af653c4153b73c1946039e8df7a241a4351343f92e92bc0640e9d56a8ae8d91", func := "lanekeeper/lklaw6.RecvTwice", spec := "recvTwice", inPlace := ["slices.overlaps[int]"], unfollowed := true, recurses := true, apart := false, narrowed := true }
def RecvTwiceUptoSaid : Prop := recvTwiceUptoRow.holds Try.pinned (OpenSpec.upto recvTwiceSpec)

/-- 'lklaw6.RecvOrder', WHERE WHAT IT READS IS OF BULK AT MOST 1048576: true; the input reads as it did. -/
def recvOrderUptoRow : OpenClaim := { program := "ytgfljlmonaifgab", sum := "2af653c4153b73c1946039e8df7a241a4351343f92e92bc0640e9d56a8ae8d91", func := "lanekeeper/lklaw6.RecvOrder", spec := "recvOrder", inPlace := ["slices.overlaps[int]"], unfollowed := true, recurses := true, apart := false, narrowed := true }
def RecvOrderUptoSaid : Prop := recvOrderUptoRow.holds Try.pinned (OpenSpec.upto recvOrderSpec)

/-- 'lklaw7.LaneTells', WHERE WHAT IT READS IS OF BULK AT MOST 1048576: true; the input reads as it did. -/
def laneTellsUptoRow : OpenClaim := { program := "ytgfljlmonaifgab", sum := "2af653c4153b73c1946039e8df7a241a4351343f92e92bc0640e9d56a8ae8d91", func := "lanekeeper/lklaw7.LaneTells", spec := "laneTells", inPlace := ["slices.overlaps[int]"], unfollowed := true, recurses := true, apart := false, narrowed := true }
def LaneTellsUptoSaid : Prop := laneTellsUptoRow.holds Try.pinned (OpenSpec.upto laneTellsSpec)

/-- 'lklaw7.LaneSpoilt', WHERE WHAT IT READS IS OF BULK AT MOST 1048576: true; the input reads as it did. -/
def laneSpoiltUptoRow : OpenClaim := { program := "ytgfljlmonaifgab", sum := "2af653c4153b73c1946039e8df7a241a4351343f92e92bc0640e9d56a8ae8d91", func := "lanekeeper/lklaw7.LaneSpoilt", spec := "laneSpoilt", inPlace := ["slices.overlaps[int]"], unfollowed := true, recurses := true, apart := false, narrowed := true }
def LaneSpoiltUptoSaid : Prop := laneSpoiltUptoRow.holds Try.pinned (OpenSpec.upto laneSpoiltSpec)

/-- 'lklaw7.LaneFits', WHERE WHAT IT READS IS OF BULK AT MOST 1048576: true; the input reads as it did. -/
def laneFitsUptoRow : OpenClaim := { program := "ytgfljlmonaifgab", sum := "2af653c4153b73c1946039e8df7a241a4351343f92e92bc0640e9d56a8ae8d91", func := "lanekeeper/lklaw7.LaneFits", spec := "laneFits", inPlace := ["slices.overlaps[int]"], unfollowed := true, recurses := true, apart := false, narrowed := true }
def LaneFitsUptoSaid : Prop := laneFitsUptoRow.holds Try.pinned (OpenSpec.upto laneFitsSpec)

/-- 'lklaw8.SlotTells', WHERE WHAT IT READS IS OF BULK AT MOST 1048576: true; the input reads as it did. -/
def slotTellsUptoRow : OpenClaim := { program := "ytgfljlmonaifgab", sum := "2af653c4153b73c1946039e8df7a241a4351343f92e92bc0640e9d56a8ae8d91", func := "lanekeeper/lklaw8.SlotTells", spec := "slotTells", apart := false, narrowed := true }
def SlotTellsUptoSaid : Prop := slotTellsUptoRow.holds Try.pinned (OpenSpec.upto slotTellsSpec)

/-- 'lklaw8.SlotSoon', WHERE WHAT IT READS IS OF BULK AT MOST 1048576: true; the input reads as it did. -/
def slotSoonUptoRow : OpenClaim := { program := "ytgfljlmonaifgab", sum := "2af653c4153b73c1946039e8df7a241a4351343f92e92bc0640e9d56a8ae8d91", func := "lanekeeper/lklaw8.SlotSoon", spec := "slotSoon", apart := false, narrowed := true }
def SlotSoonUptoSaid : Prop := slotSoonUptoRow.holds Try.pinned (OpenSpec.upto slotSoonSpec)

/-- 'lklaw8.SlotShare', WHERE WHAT IT READS IS OF BULK AT MOST 1048576: true; the input reads as it did. -/
def slotShareUptoRow : OpenClaim := { program := "ytgfljlmonaifgab", sum := "2af653c4153b73c1946039e8df7a241a4351343f92e92bc0640e9d56a8ae8d91", func := "lanekeeper/lklaw8.SlotShare", spec := "slotShare", apart := false, narrowed := true }
def SlotShareUptoSaid : Prop := slotShareUptoRow.holds Try.pinned (OpenSpec.upto slotShareSpec)

/-- 'lklaw9.WorldTells', WHERE WHAT IT READS IS OF BULK AT MOST 1048576: true; the input reads as it did. -/
def worldTellsUptoRow : OpenClaim := { program := "ytgfljlmonaifgab", sum := "2af653c4153b73c1946039e8df7a241a4351343f92e92bc0640e9d56a8ae8d91", func := "lanekeeper/lklaw9.WorldTells", spec := "worldTells", inPlace := ["slices.overlaps[int]"], unfollowed := true, recurses := true, apart := false, narrowed := true }
def WorldTellsUptoSaid : Prop := worldTellsUptoRow.holds Try.pinned (OpenSpec.upto worldTellsSpec)

end Rows
end Go.Proofs.Ytgfljlmonaifgab
