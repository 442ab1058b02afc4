/-
  Several texts in one.
-/
import Derived.Test.YtgechpchbenanacM26
import Derived.Test.YtgechpchbenanacProg
import Derived.Test.YtgechpchbenanacChecked
import Derived.Test.YtgechpchbenanacM25
import Derived.WalkKit
import Derived.ProofKit
import Derived.WalkSpells
import Derived.Laws.CopyOwn
import Derived.Laws.IdiomStrings
import Derived.Laws.AppendOwnNone
import Derived.Outline
import Derived.Deep.DeepMust

/-
  Functions as plain code (written by wip/abs/ir.py): lkref6.SameBytes, lkref6.SameLane, lkref6.put, lkref6.way, lkref6.with, lkref6.without, lkref6.Speak, lkref6.New.
-/
namespace Go.Proofs.Ytgechpchbenanac.ab
set_option linter.unusedSimpArgs false
set_option linter.unusedVariables false
set_option maxRecDepth 100000
open Go Go.RowKit

def r6_put_r0 : IC := cReg Try.prog [
    ⟨some 4, none, iMov 4 (.const (.slice none 0 0)) true⟩] [0, 1] []
def r6_put_r1 : IC := cReg Try.prog [
    xM 5 0,
    xN 6 5,
    xC 7 .gtr 6 5] [0, 1, 7] []
def r6_put_r2 : IC := cReg Try.prog [
    xM 8 0,
    xT 4 8] [4] []
def r6_put_c1a : IC := (cSeq r6_put_r2 cRet)
def r6_put_c1 : IC := cCond (.tmp 7) r6_put_c1a cSkip
def r6_put_r3 : IC := cReg Try.prog [
    ⟨some 9, none, iRow 9 23 1 []⟩,
    xM 10 0,
    xW 11 23 1 24 9 10,
    xM 12 1,
    xR 13 23 1 12,
    xW 14 23 1 24 11 13,
    xT 4 14] [4] []
def r6_put : IC := (cSeq r6_put_r0 (cSeq (cSeq r6_put_r1 r6_put_c1) (cSeq r6_put_r3 cRet)))
theorem told_r6_put {args r : List D} (hl : args.length = 2) (h : r6_put (start args) (fin [(4, none)] r)) : Told Try.prog 60 args r :=
  told_of follows Try.func60 rfl (an := [([], [0, 1], [], []), ([], [0, 1, 7], [], []), ([], [4], [], []), ([], [4], [], [])]) (by kernel_rfl) (by kernel_rfl) (by rw [hl]; decide +kernel) h

def r6_way_r0 : IC := cReg Try.prog [
    xX 2 0,
    ⟨some 4, none, iMov 4 (.const (.slice none 0 0)) true⟩] [1, 2] [2]
def r6_way_r1 : IC := cReg Try.prog [
    xM 5 1] [2, 5] [2]
def r6_way_r2 : IC := cReg Try.prog [
    xF 6 16 2,
    xL 7 1 6,
    xT 4 7] [4] []
def r6_way_c1a : IC := (cSeq r6_way_r2 cRet)
def r6_way_c1 : IC := cCond (.tmp 5) r6_way_c1a cSkip
def r6_way_r3 : IC := cReg Try.prog [
    xF 8 15 2,
    xL 9 1 8,
    xT 4 9] [4] []
def r6_way : IC := (cSeq r6_way_r0 (cSeq (cSeq r6_way_r1 r6_way_c1) (cSeq r6_way_r3 cRet)))
theorem told_r6_way {args r : List D} (hl : args.length = 2) (h : r6_way (start args) (fin [(4, none)] r)) : Told Try.prog 64 args r :=
  told_of follows Try.func64 rfl (an := [([], [1, 2], [2], []), ([], [2, 5], [2], []), ([], [4], [], []), ([], [4], [], [])]) (by kernel_rfl) (by kernel_rfl) (by rw [hl]; decide +kernel) h

def r6_with_r0 : IC := cReg Try.prog [
    xX 3 0,
    ⟨some 6, none, iAlo 6 [zS, zI, zI, zI, zI, zS, zI, zI, zS, zI, zI, zI, zS, zS, zF, zS, zS]⟩] [1, 2, 3, 6] [3, 6]
def r6_with_r1 : IC := cReg Try.prog [
    xM 7 1] [2, 3, 6, 7] [3, 6]
def r6_with_r2 : IC := cReg Try.prog [
    xM 8 2,
    xF 9 16 3,
    xS 1 9 8] [3, 6] [3, 6]
def r6_with_r3 : IC := cReg Try.prog [
    xM 10 2,
    xF 11 15 3,
    xS 1 11 10] [3, 6] [3, 6]
def r6_with_c1 : IC := cCond (.tmp 7) r6_with_r2 r6_with_r3
def r6_with_r4 : IC := cReg Try.prog [
    xA 12 17 3,
    xS 17 6 12] [6] [6]
def r6_with : IC := (cSeq r6_with_r0 (cSeq (cSeq r6_with_r1 r6_with_c1) (cSeq r6_with_r4 cRet)))
theorem told_r6_with {args r : List D} (hl : args.length = 3) (h : r6_with (start args) (fin [(6, some (17, true))] r)) : Told Try.prog 65 args r :=
  told_of follows Try.func65 rfl (an := [([], [1, 2, 3, 6], [3, 6], []), ([], [2, 3, 6, 7], [3, 6], []), ([], [3, 6], [3, 6], []), ([], [3, 6], [3, 6], []), ([], [6], [6], [])]) (by kernel_rfl) (by kernel_rfl) (by rw [hl]; decide +kernel) h

def r6_without_r0 : IC := cReg Try.prog [
    ⟨some 4, none, iMov 4 (.const (.slice none 0 0)) true⟩] [0, 1] []
def r6_without_r1 : IC := cRegD Try.prog [
    ⟨some 5, none, iRow 5 23 1 []⟩,
    xM 6 0,
    xM 7 1,
    ⟨some 8, none, iSlc 8 1 (.tmp 6) none (some (.tmp 7))⟩,
    xW 9 23 1 24 5 8,
    xM 10 0,
    xM 11 1,
    xC 12 .add 11 1,
    ⟨some 13, none, iSlc 13 1 (.tmp 10) (some (.tmp 12)) none⟩,
    xW 14 23 1 24 9 13,
    xT 4 14] [[], [], [], [1, 2], [0, 3, 1, 2], [], [], [6], [5, 7, 6], [4, 8, 0, 3, 1, 2, 5, 7, 6], [9, 0, 1, 2, 3, 4, 5, 6, 7, 8]] [4] []
def r6_without : IC := (cSeq r6_without_r0 (cSeq r6_without_r1 cRet))
theorem told_r6_without {args r : List D} (hl : args.length = 2) (h : r6_without (start args) (fin [(4, none)] r)) : Told Try.prog 66 args r :=
  told_of follows Try.func66 rfl (an := [([], [0, 1], [], []), ([], [4], [], [])]) (by kernel_rfl) (by kernel_rfl) (by rw [hl]; decide +kernel) h

def r6_Speak_r0 : IC := cReg Try.prog [
    xX 1 0,
    ⟨some 2, none, iAlo 2 [zS, zI, zI, zI, zI, zS, zI, zI, zS, zI, zI, zI, zS, zS, zF, zS, zS]⟩] [1, 2] [1, 2]
def r6_Speak_r1 : IC := cReg Try.prog [
    xF 8 0 1,
    xA 9 7 8,
    xV1 10 59 9,
    xM 7 10,
    xE 11 7 0,
    xE 12 7 1,
    xE 13 7 2,
    ⟨some 3, none, iAlo 3 [zS, zI, zI, zI, zI, zS, zI]⟩,
    ⟨some 4, none, iAlo 4 [zI, zI, zI, zI, zS, zS]⟩,
    xS 7 3 11,
    xS 6 4 12,
    xT 5 13] [1, 2, 3, 4, 5] [1, 2, 3, 4]
def r6_Speak_r2 : IC := cReg Try.prog [
    xA 14 7 3,
    xF 15 0 1,
    xS 7 15 14] [1, 2, 4, 5] [1, 2, 4]
def r6_Speak_r3 : IC := cReg Try.prog [
    xM 16 5] [1, 2, 4, 16] [1, 2, 4]
def r6_Speak_r4 : IC := cRegD Try.prog [
    xF 17 15 1,
    xL 18 1 17,
    xA 19 6 4,
    xV1 20 61 19,
    xV2 21 60 18 20,
    xF 22 15 1,
    xS 1 22 21] [[], [0], [], [2], [1, 3, 0, 2], [0, 1, 2, 3, 4], [5, 4, 0, 1, 2, 3]] [1, 2, 4] [1, 2, 4]
def r6_Speak_c1 : IC := cCond (.tmp 16) r6_Speak_r4 cSkip
def r6_Speak_r5 : IC := cReg Try.prog [
    xF 24 7 1,
    xA 25 8 24,
    xV1 26 62 25,
    xM 23 26,
    xE 27 23 0,
    xE 28 23 1,
    xE 29 23 2,
    ⟨some 6, none, iAlo 6 [zI, zS, zI, zI, zI, zS, zS, zF]⟩,
    xS 8 6 27,
    xS 6 4 28,
    xT 5 29] [1, 2, 4, 5, 6] [1, 2, 4, 6]
def r6_Speak_r6 : IC := cReg Try.prog [
    xA 30 8 6,
    xF 31 7 1,
    xS 8 31 30] [1, 2, 4, 5] [1, 2, 4]
def r6_Speak_r7 : IC := cReg Try.prog [
    xM 32 5] [1, 2, 4, 32] [1, 2, 4]
def r6_Speak_r8 : IC := cRegD Try.prog [
    xF 33 16 1,
    xL 34 1 33,
    xA 35 6 4,
    xV1 36 61 35,
    xV2 37 60 34 36,
    xF 38 16 1,
    xS 1 38 37] [[], [0], [], [2], [1, 3, 0, 2], [0, 1, 2, 3, 4], [5, 4, 0, 1, 2, 3]] [1, 2] [1, 2]
def r6_Speak_c2 : IC := cCond (.tmp 32) r6_Speak_r8 cSkip
def r6_Speak_r9 : IC := cReg Try.prog [
    xA 39 17 1,
    xS 17 2 39] [2] [2]
def r6_Speak : IC := (cSeq r6_Speak_r0 (cSeq r6_Speak_r1 (cSeq r6_Speak_r2 (cSeq (cSeq r6_Speak_r3 r6_Speak_c1) (cSeq r6_Speak_r5 (cSeq r6_Speak_r6 (cSeq (cSeq r6_Speak_r7 r6_Speak_c2) (cSeq r6_Speak_r9 cRet))))))))
theorem told_r6_Speak {args r : List D} (hl : args.length = 1) (h : r6_Speak (start args) (fin [(2, some (17, true))] r)) : Told Try.prog 43 args r :=
  told_of follows Try.func43 rfl (an := [([], [1, 2], [1, 2], []), ([], [1, 2, 3, 4, 5], [1, 2, 3, 4], []), ([], [1, 2, 4, 5], [1, 2, 4], []), ([], [1, 2, 4, 16], [1, 2, 4], []), ([], [1, 2, 4], [1, 2, 4], []), ([], [1, 2, 4, 5, 6], [1, 2, 4, 6], []), ([], [1, 2, 4, 5], [1, 2, 4], []), ([], [1, 2, 4, 32], [1, 2, 4], []), ([], [1, 2], [1, 2], []), ([], [2], [2], [])]) (by kernel_rfl) (by kernel_rfl) (by rw [hl]; decide +kernel) h

end Go.Proofs.Ytgechpchbenanac.ab

/-
  The contracts of the two functions that sum bytes.
-/
namespace Go.Proofs.Ytgechpchbenanac.leaf
set_option linter.unusedSimpArgs false
set_option linter.unusedVariables false
open Go.RowKit
open mth

/-- A byte as the model's cell. -/
def B (x : UInt8) : Value := .int .u8 (x.toNat : Int)
/-- The slice value v holds the bytes xs. -/
def Bs (w : World) (v : Value) (xs : List UInt8) : Prop :=
  ∃ (a : Option Addr) (cap : Nat), v = .slice a xs.length cap ∧ xs.length ≤ cap ∧ (a = none → cap = 0) ∧ ∀ i, i < xs.length → ∃ x, a = some x ∧ w.cell? (x.add i) = some (.int .u8 ((xs.getD i 0).toNat : Int))

end Go.Proofs.Ytgechpchbenanac.leaf

/-
  The contracts of the two functions that seal bytes.
-/
namespace Go.Proofs.Ytgechpchbenanac.leaf
set_option maxRecDepth 10000
set_option linter.unusedSimpArgs false
set_option linter.unusedVariables false
open Go.RowKit
open mth

/-- Nothing old has turned: what a slice holds it holds still. -/
theorem Bs.later {w w' : World} {v : Value} {xs : List UInt8} (h : Bs w v xs) (hb : Below w.heap.size w w') : Bs w' v xs := by
  obtain ⟨a, cap, rfl, hlc, hno, hc⟩ := h
  refine ⟨a, cap, rfl, hlc, hno, fun i hi => ?_⟩
  obtain ⟨x, rfl, hcc⟩ := hc i hi
  exact ⟨x, rfl, (hb.cell (World.block_lt_of_cell? w _ hcc)).trans hcc⟩

end Go.Proofs.Ytgechpchbenanac.leaf
