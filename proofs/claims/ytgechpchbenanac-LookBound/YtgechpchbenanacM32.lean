/-
  Several texts in one.
-/
import Derived.Test.YtgechpchbenanacM26
import Derived.Test.YtgechpchbenanacProg

/-
  Functions as plain code (written by wip/abs/ir.py): lkref1.WrongMsg, lkref1.SameMsg, lkref1.SameMsgs.
-/
namespace Go.Proofs.Ytgechpchbenanac.ab
set_option linter.unusedSimpArgs false
set_option linter.unusedVariables false
set_option maxRecDepth 100000
open Go Go.RowKit

def r1_WrongMsg_r0 : IC := cReg Try.prog [
    xX 1 0,
    ⟨some 2, none, iMov 2 (.const (.int .i64 0)) true⟩] [1] [1]
def r1_WrongMsg_r1 : IC := cReg Try.prog [
    xF 3 0 1,
    xL 4 1 3,
    xC 5 .lss 4 0,
    xM 6 5,
    xG 6 false (xF 7 0 1),
    xG 6 false (xL 8 1 7),
    xG 6 false (xC 9 .gtr 8 2),
    xP 10 6 9] [1, 10] [1]
def r1_WrongMsg_r2 : IC := cReg Try.prog [
    ⟨some 2, none, iMov 2 (.const (.int .i64 3)) true⟩] [2] []
def r1_WrongMsg_c1a : IC := (cSeq r1_WrongMsg_r2 cRet)
def r1_WrongMsg_c1 : IC := cCond (.tmp 10) r1_WrongMsg_c1a cSkip
def r1_WrongMsg_r3 : IC := cReg Try.prog [
    xF 11 1 1,
    xL 12 1 11,
    xN 13 12,
    xC 14 .gtr 13 6] [14] []
def r1_WrongMsg_r4 : IC := cReg Try.prog [
    ⟨some 2, none, iMov 2 (.const (.int .i64 4)) true⟩] [2] []
def r1_WrongMsg_c2a : IC := (cSeq r1_WrongMsg_r4 cRet)
def r1_WrongMsg_c2 : IC := cCond (.tmp 14) r1_WrongMsg_c2a cSkip
def r1_WrongMsg_r5 : IC := cReg Try.prog [
    ⟨some 2, none, iMov 2 (.const (.int .i64 0)) true⟩] [2] []
def r1_WrongMsg : IC := (cSeq r1_WrongMsg_r0 (cSeq (cSeq r1_WrongMsg_r1 r1_WrongMsg_c1) (cSeq (cSeq r1_WrongMsg_r3 r1_WrongMsg_c2) (cSeq r1_WrongMsg_r5 cRet))))
theorem told_r1_WrongMsg {args r : List D} (hl : args.length = 1) (h : r1_WrongMsg (start args) (fin [(2, none)] r)) : Told Try.prog 63 args r :=
  told_of follows Try.func63 rfl (an := [([], [1], [1], []), ([], [1, 10], [1], []), ([], [2], [], []), ([], [14], [], []), ([], [2], [], []), ([], [2], [], [])]) (by kernel_rfl) (by kernel_rfl) (by rw [hl]; decide +kernel) h

end Go.Proofs.Ytgechpchbenanac.ab

/-
  Plain mathematics for lists of messages: those of a stream, the first ones. Nothing of the program.
-/
namespace Go.Proofs.Ytgechpchbenanac.mth
set_option linter.unusedSimpArgs false
set_option linter.unusedVariables false

/-- Those of a stream. -/
def ofS (l : List Ms) (s : Int) : List Ms := l.filter (fun m => m.stream == s)
theorem ofS_app (a b : List Ms) (s : Int) : ofS (a ++ b) s = ofS a s ++ ofS b s := List.filter_append ..
/-- Lists that are the same; the first ones of a list. -/
def sameL : List Ms → List Ms → Bool
  | [], [] => true
  | a :: r, b :: t => sameM a b && sameL r t
  | _, _ => false
theorem sameL_iff : ∀ (a b : List Ms), sameL a b = true ↔ a = b
  | [], [] => by simp [sameL]
  | [], _ :: _ => by simp [sameL]
  | _ :: _, [] => by simp [sameL]
  | a :: r, b :: t => by simp only [sameL, Bool.and_eq_true, sameM_iff, sameL_iff r t, List.cons.injEq]
def preS (a b : List Ms) : Bool := decide (a.length ≤ b.length) && sameL a (b.take a.length)
theorem preS_iff (a b : List Ms) : preS a b = true ↔ ∃ c, b = a ++ c := by
  simp only [preS, Bool.and_eq_true, decide_eq_true_eq, sameL_iff]
  constructor
  · rintro ⟨h1, h2⟩
    refine ⟨b.drop a.length, ?_⟩
    have h3 := List.take_append_drop a.length b
    rw [← h2] at h3
    exact h3.symm
  · rintro ⟨c, rfl⟩
    simp
def fitsS (told put : List Ms) : Bool := preS (ofS told 0) (ofS put 0) && (preS (ofS told 1) (ofS put 1) && preS (ofS told 2) (ofS put 2))
end Go.Proofs.Ytgechpchbenanac.mth

/-
  What the answer's functions on messages tell.
-/
namespace Go.Proofs.Ytgechpchbenanac.ab
set_option linter.unusedVariables false
set_option linter.unusedSimpArgs false
open Go Go.RowKit
open mth

set_option maxHeartbeats 1000000 in
theorem wrongMsg_told (m : Ms) : Told Try.prog 63 [aD (encMs m)] [vI (wrongMsgL m.stream m.data)] := by
  refine told_r1_WrongMsg rfl ?_
  unfold wrongMsgL
  simp only [encMs]
  by_cases h1 : m.stream < 0 ∨ 2 < m.stream
  · rw [if_pos h1]
    by_cases h2 : m.stream < 0
    · refine wk @h2 ?_
      exact ValsLe.refl _
    · have h3 : 2 < m.stream := by omega
      refine wk (an2 @h2 @h3) ?_
      exact ValsLe.refl _
  · have h2 : ¬ m.stream < 0 := by omega
    have h3 : ¬ 2 < m.stream := by omega
    rw [if_neg h1]
    by_cases h4 : 6 < m.data.length
    · have h5 : 6 < ((m.data.length : Int)) := by omega
      rw [if_pos h4]
      refine wk (an4 @h2 @h3 @h5 @zmap) ?_
      exact ValsLe.refl _
    · have h5 : ¬ 6 < ((m.data.length : Int)) := by omega
      rw [if_neg h4]
      refine wk (an4 @h2 @h3 @h5 @zmap) ?_
      exact ValsLe.refl _
def right (l : List Ms) : Prop := ∀ m ∈ l, wrongMsgL m.stream m.data = 0
end Go.Proofs.Ytgechpchbenanac.ab

/-
  Plain mathematics for senders. Nothing of the program.
-/
namespace Go.Proofs.Ytgechpchbenanac.mth
set_option linter.unusedSimpArgs false
structure Sd where
  queue : List Ms
  next : Int
  p0 : Int
  p1 : Int
  p2 : Int
  flight : List Ch
  turn : Int
def putE (s : Sd) (m : Ms) : Int := if wrongMsgL m.stream m.data ≠ 0 then wrongMsgL m.stream m.data else if 5 < s.queue.length then 9 else if 39 < s.next + s.queue.length then 4 else 0
def putS (s : Sd) (m : Ms) : Sd := if putE s m = 0 then { s with queue := s.queue ++ [m] } else s
def cameL (c : Ch) (n : Int) : Bool := decide (n < c.number) || c.early.contains n
def hearS (s : Sd) (c : Ch) : Sd := if c.kind = 2 then { s with flight := s.flight.filter (fun x => !cameL c x.number) } else s
def placeOf (s : Sd) (k : Int) : Int := if k = 0 then s.p0 else if k = 1 then s.p1 else s.p2
def newC (s : Sd) (m : Ms) : Ch := ⟨1, s.next, m.stream, placeOf s m.stream, m.data, []⟩
def newS (s : Sd) (m : Ms) (r : List Ms) : Sd :=
  { s with queue := r, next := s.next + 1, p0 := if m.stream = 0 then s.p0 + 1 else s.p0, p1 := if m.stream = 1 then s.p1 + 1 else s.p1, p2 := if m.stream = 2 then s.p2 + 1 else s.p2, flight := s.flight ++ [newC s m] }
def againK (s : Sd) : Int := s.turn % s.flight.length
def sayL (s : Sd) : Sd × Ch × Bool :=
  match s.queue with
  | [] => if s.flight.length = 0 then (s, zeroC, false) else ({ s with turn := againK s + 1 }, s.flight.getD (againK s).toNat zeroC, true)
  | m :: r => if 3 < s.flight.length then ({ s with turn := againK s + 1 }, s.flight.getD (againK s).toNat zeroC, true) else (newS s m r, newC s m, true)
end Go.Proofs.Ytgechpchbenanac.mth

/-
  Plain mathematics for lists of chunks. Nothing of the program.
-/
namespace Go.Proofs.Ytgechpchbenanac.mth
set_option linter.unusedSimpArgs false
set_option linter.unusedVariables false

end Go.Proofs.Ytgechpchbenanac.mth
