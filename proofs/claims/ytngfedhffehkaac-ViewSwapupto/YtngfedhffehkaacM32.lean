/-
  Several texts in one.
-/
import Derived.Test.YtngfedhffehkaacM23
import Derived.Test.YtngfedhffehkaacProg
import Derived.Test.YtngfedhffehkaacM31

/-
  Functions as plain code (written by wip/abs/ir.py): lkref1.WrongMsg, lkref1.SameMsg, lkref1.SameMsgs.
-/
namespace Go.Proofs.Ytngfedhffehkaac.ab
set_option linter.unusedSimpArgs false
set_option linter.unusedVariables false
set_option maxRecDepth 100000
open Go Go.RowKit

def r1_WrongMsg_r0 : IC := cReg Try.prog [
    ⟨some 1, none, iBox 1 (.tmp 0)⟩,
    ⟨some 2, none, iMov 2 (.const (.int .i64 0)) true⟩] [1] [1]
def r1_WrongMsg_r1 : IC := cReg Try.prog [
    ⟨some 3, none, iFad 3 0 (.tmp 1)⟩,
    ⟨some 4, none, iLoad 4 1 false (.tmp 3) false⟩,
    ⟨some 5, none, iBin 5 .lss (.tmp 4) (.const (.int .i64 0))⟩,
    ⟨some 6, none, iMov 6 (.tmp 5) false⟩,
    ⟨some 7, some (6, false), iFad 7 0 (.tmp 1)⟩,
    ⟨some 8, some (6, false), iLoad 8 1 false (.tmp 7) false⟩,
    ⟨some 9, some (6, false), iBin 9 .gtr (.tmp 8) (.const (.int .i64 2))⟩,
    ⟨some 10, none, iPick 10 (.tmp 6) (.const (.bool true)) (.tmp 9)⟩] [1, 10] [1]
def r1_WrongMsg_r2 : IC := cReg Try.prog [
    ⟨some 2, none, iMov 2 (.const (.int .i64 3)) true⟩] [2] []
def r1_WrongMsg_c1a : IC := (cSeq r1_WrongMsg_r2 cRet)
def r1_WrongMsg_c1 : IC := cCond (.tmp 10) r1_WrongMsg_c1a cSkip
def r1_WrongMsg_r3 : IC := cReg Try.prog [
    ⟨some 11, none, iFad 11 1 (.tmp 1)⟩,
    ⟨some 12, none, iLoad 12 1 false (.tmp 11) false⟩,
    ⟨some 13, none, iLen 13 false (.tmp 12)⟩,
    ⟨some 14, none, iBin 14 .gtr (.tmp 13) (.const (.int .i64 6))⟩] [14] []
def r1_WrongMsg_r4 : IC := cReg Try.prog [
    ⟨some 2, none, iMov 2 (.const (.int .i64 4)) true⟩] [2] []
def r1_WrongMsg_c2a : IC := (cSeq r1_WrongMsg_r4 cRet)
def r1_WrongMsg_c2 : IC := cCond (.tmp 14) r1_WrongMsg_c2a cSkip
def r1_WrongMsg_r5 : IC := cReg Try.prog [
    ⟨some 2, none, iMov 2 (.const (.int .i64 0)) true⟩] [2] []
def r1_WrongMsg : IC := (cSeq r1_WrongMsg_r0 (cSeq (cSeq r1_WrongMsg_r1 r1_WrongMsg_c1) (cSeq (cSeq r1_WrongMsg_r3 r1_WrongMsg_c2) (cSeq r1_WrongMsg_r5 cRet))))
theorem told_r1_WrongMsg {args r : List D} (hl : args.length = 1) (h : r1_WrongMsg (start args) (fin [(2, none)] r)) : Told Try.prog 52 args r :=
  told_of follows Try.func52 rfl (an := [([], [1], [1], []), ([], [1, 10], [1], []), ([], [2], [], []), ([], [14], [], []), ([], [2], [], []), ([], [2], [], [])]) (by kernel_rfl) (by kernel_rfl) (by rw [hl]; decide +kernel) h

def r1_SameMsg_r0 : IC := cReg Try.prog [
    ⟨some 2, none, iBox 2 (.tmp 0)⟩,
    ⟨some 3, none, iBox 3 (.tmp 1)⟩,
    ⟨some 4, none, iMov 4 (.const (.bool false)) true⟩] [2, 3] [2, 3]
def r1_SameMsg_r1_0 : IC := cReg Try.prog [
    ⟨some 5, none, iFad 5 0 (.tmp 2)⟩,
    ⟨some 6, none, iLoad 6 1 false (.tmp 5) false⟩,
    ⟨some 7, none, iFad 7 0 (.tmp 3)⟩,
    ⟨some 8, none, iLoad 8 1 false (.tmp 7) false⟩,
    ⟨some 9, none, iBin 9 .eql (.tmp 6) (.tmp 8)⟩,
    ⟨some 10, none, iMov 10 (.tmp 9) false⟩,
    ⟨some 11, some (10, true), iFad 11 1 (.tmp 2)⟩,
    ⟨some 12, some (10, true), iLoad 12 1 false (.tmp 11) false⟩,
    ⟨some 13, some (10, true), iStr 13 (.tmp 12)⟩,
    ⟨some 14, some (10, true), iFad 14 1 (.tmp 3)⟩] [10, 13, 14] [3]
def r1_SameMsg_r1_1 : IC := cReg Try.prog [
    ⟨some 15, some (10, true), iLoad 15 1 false (.tmp 14) false⟩,
    ⟨some 16, some (10, true), iStr 16 (.tmp 15)⟩,
    ⟨some 17, some (10, true), iBin 17 .eql (.tmp 13) (.tmp 16)⟩,
    ⟨some 18, none, iPick 18 (.tmp 10) (.tmp 17) (.const (.bool false))⟩,
    ⟨some 4, none, iMov 4 (.tmp 18) true⟩] [4] []
def r1_SameMsg_r1 : IC := (cSeq r1_SameMsg_r1_0 r1_SameMsg_r1_1)
def r1_SameMsg : IC := (cSeq r1_SameMsg_r0 (cSeq r1_SameMsg_r1 cRet))
theorem told_r1_SameMsg {args r : List D} (hl : args.length = 2) (h : r1_SameMsg (start args) (fin [(4, none)] r)) : Told Try.prog 15 args r :=
  told_of follows Try.func15 rfl (an := [([], [2, 3], [2, 3], []), ([(10, [10, 13, 14], [3])], [4], [], [])]) (by kernel_rfl) (by kernel_rfl) (by rw [hl]; decide +kernel) h

def r1_SameMsgs_r0 : IC := cReg Try.prog [
    ⟨some 4, none, iMov 4 (.const (.bool false)) true⟩] [0, 1] []
def r1_SameMsgs_r1 : IC := cReg Try.prog [
    ⟨some 6, none, iMov 6 (.tmp 0) false⟩,
    ⟨some 7, none, iLen 7 false (.tmp 6)⟩,
    ⟨some 8, none, iMov 8 (.tmp 1) false⟩,
    ⟨some 9, none, iLen 9 false (.tmp 8)⟩,
    ⟨some 10, none, iBin 10 .neq (.tmp 7) (.tmp 9)⟩] [0, 1, 10] []
def r1_SameMsgs_r2 : IC := cReg Try.prog [
    ⟨some 4, none, iMov 4 (.const (.bool false)) true⟩] [4] []
def r1_SameMsgs_c1a : IC := (cSeq r1_SameMsgs_r2 cRet)
def r1_SameMsgs_c1 : IC := cCond (.tmp 10) r1_SameMsgs_c1a cSkip
def r1_SameMsgs_r3 : IC := cReg Try.prog [
    ⟨some 11, none, iMov 11 (.tmp 0) false⟩,
    ⟨some 12, none, iLen 12 false (.tmp 11)⟩,
    ⟨some 13, none, iMov 13 (.const (.int .i64 0)) false⟩] [0, 1, 12, 13] []
def r1_SameMsgs_r4 : IC := cReg Try.prog [
    ⟨some 14, none, iBin 14 .lss (.tmp 13) (.tmp 12)⟩] [0, 1, 12, 13, 14] []
def r1_SameMsgs_c4 : IC := cCond (.tmp 14) cSkip (cExit 0)
def r1_SameMsgs_r5 : IC := cReg Try.prog [
    ⟨some 15, none, iMov 15 (.tmp 13) false⟩,
    ⟨some 5, none, iMov 5 (.tmp 15) true⟩] [0, 1, 5, 12, 13] []
def r1_SameMsgs_r6 : IC := cRegD Try.prog [
    ⟨some 16, none, iMov 16 (.tmp 0) false⟩,
    ⟨some 17, none, iMov 17 (.tmp 5) false⟩,
    ⟨some 18, none, iIaS 18 2 (.tmp 16) (.tmp 17)⟩,
    ⟨some 19, none, iLoad 19 2 true (.tmp 18) false⟩,
    ⟨some 20, none, iMov 20 (.tmp 1) false⟩,
    ⟨some 21, none, iMov 21 (.tmp 5) false⟩,
    ⟨some 22, none, iIaS 22 2 (.tmp 20) (.tmp 21)⟩,
    ⟨some 23, none, iLoad 23 2 true (.tmp 22) false⟩,
    ⟨some 24, none, iCall 24 15 [(.tmp 19), (.tmp 23)]⟩,
    ⟨some 25, none, iNot 25 (.tmp 24)⟩] [[], [], [0, 1], [2, 0, 1], [], [], [4, 5], [6, 4, 5], [3, 7, 2, 0, 1, 6, 4, 5], [8, 3, 7, 2, 0, 1, 6, 4, 5]] [0, 1, 12, 13, 25] []
def r1_SameMsgs_r7 : IC := cReg Try.prog [
    ⟨some 4, none, iMov 4 (.const (.bool false)) true⟩] [4] []
def r1_SameMsgs_c6a : IC := (cSeq r1_SameMsgs_r7 cRet)
def r1_SameMsgs_c6 : IC := cCond (.tmp 25) r1_SameMsgs_c6a cSkip
def r1_SameMsgs_b5 : IC := cBlock 1 (cSeq r1_SameMsgs_r5 (cSeq r1_SameMsgs_r6 r1_SameMsgs_c6))
def r1_SameMsgs_r8 : IC := cReg Try.prog [
    ⟨some 26, none, iBin 26 .add (.tmp 13) (.const (.int .i64 1))⟩,
    ⟨some 13, none, iMov 13 (.tmp 26) false⟩] [0, 1, 12, 13] []
def r1_SameMsgs_l3a : IC := (cSeq r1_SameMsgs_r4 (cSeq r1_SameMsgs_c4 (cSeq r1_SameMsgs_b5 r1_SameMsgs_r8)))
def r1_SameMsgs_l3 : IC := cLoop r1_SameMsgs_l3a
def r1_SameMsgs_b2 : IC := cBlock 0 r1_SameMsgs_l3
def r1_SameMsgs_r9 : IC := cReg Try.prog [
    ⟨some 4, none, iMov 4 (.const (.bool true)) true⟩] [4] []
def r1_SameMsgs : IC := (cSeq r1_SameMsgs_r0 (cSeq (cSeq r1_SameMsgs_r1 r1_SameMsgs_c1) (cSeq (cSeq r1_SameMsgs_r3 r1_SameMsgs_b2) (cSeq r1_SameMsgs_r9 cRet))))
theorem told_r1_SameMsgs {args r : List D} (hl : args.length = 2) (h : r1_SameMsgs (start args) (fin [(4, none)] r)) : Told Try.prog 16 args r :=
  told_of follows Try.func16 rfl (an := [([], [0, 1], [], []), ([], [0, 1, 10], [], []), ([], [4], [], []), ([], [0, 1, 12, 13], [], []), ([], [0, 1, 12, 13, 14], [], []), ([], [0, 1, 5, 12, 13], [], []), ([], [0, 1, 12, 13, 25], [], []), ([], [4], [], []), ([], [0, 1, 12, 13], [], []), ([], [4], [], [])]) (by kernel_rfl) (by kernel_rfl) (by rw [hl]; decide +kernel) h

end Go.Proofs.Ytngfedhffehkaac.ab

/-
  Plain mathematics for lists of messages: those of a stream, the first ones. Nothing of the program.
-/
namespace Go.Proofs.Ytngfedhffehkaac.mth
set_option linter.unusedSimpArgs false
set_option linter.unusedVariables false

/-- Those of a stream. -/
def ofS (l : List Ms) (s : Int) : List Ms := l.filter (fun m => m.stream == s)
theorem ofS_app (a b : List Ms) (s : Int) : ofS (a ++ b) s = ofS a s ++ ofS b s := List.filter_append ..
/-- Lists that are the same; the first ones of a list. -/
def sameL : List Ms → List Ms → Bool
  | [], [] => true
  | a :: r, b :: t => sameM a b && sameL r t
  | _, _ => false
theorem sameL_iff : ∀ (a b : List Ms), sameL a b = true ↔ a = b
  | [], [] => by simp [sameL]
  | [], _ :: _ => by simp [sameL]
  | _ :: _, [] => by simp [sameL]
  | a :: r, b :: t => by simp only [sameL, Bool.and_eq_true, sameM_iff, sameL_iff r t, List.cons.injEq]
theorem sameL_refl (a : List Ms) : sameL a a = true := (sameL_iff a a).2 rfl
def preS (a b : List Ms) : Bool := decide (a.length ≤ b.length) && sameL a (b.take a.length)
theorem preS_iff (a b : List Ms) : preS a b = true ↔ ∃ c, b = a ++ c := by
  simp only [preS, Bool.and_eq_true, decide_eq_true_eq, sameL_iff]
  constructor
  · rintro ⟨h1, h2⟩
    refine ⟨b.drop a.length, ?_⟩
    have h3 := List.take_append_drop a.length b
    rw [← h2] at h3
    exact h3.symm
  · rintro ⟨c, rfl⟩
    simp
def fitsS (told put : List Ms) : Bool := preS (ofS told 0) (ofS put 0) && (preS (ofS told 1) (ofS put 1) && preS (ofS told 2) (ofS put 2))
end Go.Proofs.Ytngfedhffehkaac.mth

/-
  What the answer's functions on messages tell.
-/
namespace Go.Proofs.Ytngfedhffehkaac.ab
set_option linter.unusedVariables false
set_option linter.unusedSimpArgs false
open Go Go.RowKit
open mth

theorem ba_list (a : List UInt8) : (⟨a.toArray⟩ : ByteArray).toList = a := by
  rw [ByteArray.toList_eq]
set_option maxHeartbeats 1000000 in
theorem sameMsg_told (a b : Ms) : Told Try.prog 15 [aD (encMs a), aD (encMs b)] [vB (sameM a b)] := by
  refine told_r1_SameMsg rfl ?_
  simp only [encMs, sameM]
  by_cases h : a.stream = b.stream
  · have h1 : (a.stream == b.stream) = true := by simpa using h
    rw [h1, Bool.true_and]
    refine wk (an3 @h1 @bytesOf_enc @ba_list) ?_
    exact ValsLe.refl _
  · have h1 : (a.stream == b.stream) = false := by simpa using h
    rw [h1, Bool.false_and]
    refine wk @h1 ?_
    exact ValsLe.refl _
set_option maxHeartbeats 1000000 in
theorem wrongMsg_told (m : Ms) : Told Try.prog 52 [aD (encMs m)] [vI (wrongMsgL m.stream m.data)] := by
  refine told_r1_WrongMsg rfl ?_
  unfold wrongMsgL
  simp only [encMs]
  by_cases h1 : m.stream < 0 ∨ 2 < m.stream
  · rw [if_pos h1]
    by_cases h2 : m.stream < 0
    · refine wk @h2 ?_
      exact ValsLe.refl _
    · have h3 : 2 < m.stream := by omega
      refine wk (an2 @h2 @h3) ?_
      exact ValsLe.refl _
  · have h2 : ¬ m.stream < 0 := by omega
    have h3 : ¬ 2 < m.stream := by omega
    rw [if_neg h1]
    by_cases h4 : 6 < m.data.length
    · have h5 : 6 < ((m.data.length : Int)) := by omega
      rw [if_pos h4]
      refine wk (an4 @h2 @h3 @h5 @zmap) ?_
      exact ValsLe.refl _
    · have h5 : ¬ 6 < ((m.data.length : Int)) := by omega
      rw [if_neg h4]
      refine wk (an4 @h2 @h3 @h5 @zmap) ?_
      exact ValsLe.refl _
def smSt (a b : List Ms) (k : Nat) : St := ⟨[(0, sD 2 (encMl a)), (1, sD 2 (encMl b)), (12, vI a.length), (13, vI k)], [], []⟩
theorem sameL_step {a b : List Ms} {k : Nat} {x y : Ms} (hx : a[k]? = some x) (hy : b[k]? = some y) : sameL (a.drop k) (b.drop k) = (sameM x y && sameL (a.drop (k + 1)) (b.drop (k + 1))) := by
  obtain ⟨h1, rfl⟩ := List.getElem?_eq_some_iff.1 hx
  obtain ⟨h2, rfl⟩ := List.getElem?_eq_some_iff.1 hy
  rw [List.drop_eq_getElem_cons h1, List.drop_eq_getElem_cons h2, sameL]
set_option maxHeartbeats 2000000 in
theorem sameMsgs_told (a b : List Ms) (hl : a.length ≤ 1048576) : Told Try.prog 16 [sD 2 (encMl a), sD 2 (encMl b)] [vB (sameL a b)] := by
  refine told_r1_SameMsgs rfl ?_
  by_cases hlen : a.length = b.length
  · have l1 : ((a.length : Int) != (b.length : Int)) = false := by simp; omega
    refine wk (an2 @len_ml @l1) ?_
    refine aw_loop (fun n st => ∃ k, k ≤ a.length ∧ n = a.length - k ∧ sameL a b = sameL (a.drop k) (b.drop k) ∧ st = smSt a b k) a.length (smSt a b 0) (Le.refl _) ⟨0, by omega, by omega, rfl, rfl⟩ ?_
    rintro n st ⟨k, hk, hn, hs, rfl⟩
    by_cases hlt : k < a.length
    · obtain ⟨x, hx⟩ : ∃ m, a[k]? = some m := ⟨a[k], List.getElem?_eq_getElem hlt⟩
      obtain ⟨y, hy⟩ : ∃ m, b[k]? = some m := ⟨b[k]'(by omega), List.getElem?_eq_getElem (by omega)⟩
      have g1 : (k : Int) < (a.length : Int) := by omega
      have g2 : (0 : Int) ≤ (k : Int) := by omega
      have g3 := at_ml hx
      have g3' := at_ml hy
      have g4 : inR .i64 ((k : Int) + 1) = true := inR_of (by omega)
      have hst := sameL_step hx hy
      rw [← hs] at hst
      simp only [smSt]
      refine wk (an5 @g1 @g2 @g3 @g3' @g4) ?_
      refine cd [[vB (sameM x y)]] (an3 @g2 @g3 @g3') ?_ ?_
      · exact obl_cons (sameMsg_told x y) obl_nil
      cases hxy : sameM x y with
      | true =>
        rw [hxy, Bool.true_and] at hst
        refine wk @g4 ?_
        exact ⟨a.length - (k + 1), _, by omega, Le.refl _, k + 1, by omega, rfl, hst, by simp only [smSt, Int.natCast_add, Int.cast_ofNat_Int]⟩
      | false =>
        rw [hxy, Bool.false_and] at hst
        rw [hst]
        refine wk0 ?_
        exact ValsLe.refl _
    · have hk' : k = a.length := by omega
      subst hk'
      have hs' : sameL a b = true := by rw [hs, hlen, List.drop_length, ← hlen, List.drop_length]; rfl
      have g1 : ¬ (a.length : Int) < (a.length : Int) := by omega
      rw [hs']
      simp only [smSt]
      refine wk @g1 ?_
      exact ValsLe.refl _
  · have l1 : ((a.length : Int) != (b.length : Int)) = true := by simp; omega
    have : sameL a b = false := by
      rw [Bool.eq_false_iff]
      intro h
      exact hlen (congrArg List.length ((sameL_iff a b).1 h))
    rw [this]
    refine wk (an2 @len_ml @l1) ?_
    exact ValsLe.refl _
def right (l : List Ms) : Prop := ∀ m ∈ l, wrongMsgL m.stream m.data = 0
end Go.Proofs.Ytngfedhffehkaac.ab

/-
  Plain mathematics for senders. Nothing of the program.
-/
namespace Go.Proofs.Ytngfedhffehkaac.mth
set_option linter.unusedSimpArgs false
structure Sd where
  queue : List Ms
  next : Int
  p0 : Int
  p1 : Int
  p2 : Int
  flight : List Ch
  turn : Int
def putE (s : Sd) (m : Ms) : Int := if wrongMsgL m.stream m.data ≠ 0 then wrongMsgL m.stream m.data else if 5 < s.queue.length then 9 else if 39 < s.next + s.queue.length then 4 else 0
def putS (s : Sd) (m : Ms) : Sd := if putE s m = 0 then { s with queue := s.queue ++ [m] } else s
def cameL (c : Ch) (n : Int) : Bool := decide (n < c.number) || c.early.contains n
def hearS (s : Sd) (c : Ch) : Sd := if c.kind = 2 then { s with flight := s.flight.filter (fun x => !cameL c x.number) } else s
def placeOf (s : Sd) (k : Int) : Int := if k = 0 then s.p0 else if k = 1 then s.p1 else s.p2
def newC (s : Sd) (m : Ms) : Ch := ⟨1, s.next, m.stream, placeOf s m.stream, m.data, []⟩
def newS (s : Sd) (m : Ms) (r : List Ms) : Sd :=
  { s with queue := r, next := s.next + 1, p0 := if m.stream = 0 then s.p0 + 1 else s.p0, p1 := if m.stream = 1 then s.p1 + 1 else s.p1, p2 := if m.stream = 2 then s.p2 + 1 else s.p2, flight := s.flight ++ [newC s m] }
def againK (s : Sd) : Int := s.turn % s.flight.length
def sayL (s : Sd) : Sd × Ch × Bool :=
  match s.queue with
  | [] => if s.flight.length = 0 then (s, zeroC, false) else ({ s with turn := againK s + 1 }, s.flight.getD (againK s).toNat zeroC, true)
  | m :: r => if 3 < s.flight.length then ({ s with turn := againK s + 1 }, s.flight.getD (againK s).toNat zeroC, true) else (newS s m r, newC s m, true)
end Go.Proofs.Ytngfedhffehkaac.mth

/-
  Plain mathematics for lists of chunks. Nothing of the program.
-/
namespace Go.Proofs.Ytngfedhffehkaac.mth
set_option linter.unusedSimpArgs false
set_option linter.unusedVariables false

def sameCs : List Ch → List Ch → Bool
  | [], [] => true
  | a :: r, b :: t => sameC a b && sameCs r t
  | _, _ => false
theorem sameCs_iff : ∀ (a b : List Ch), sameCs a b = true ↔ a = b
  | [], [] => by simp [sameCs]
  | [], _ :: _ => by simp [sameCs]
  | _ :: _, [] => by simp [sameCs]
  | a :: r, b :: t => by simp [sameCs, sameC_iff, sameCs_iff r t]
theorem sameCs_refl (a : List Ch) : sameCs a a = true := (sameCs_iff a a).2 rfl
theorem sameCs_step {a b : List Ch} {k : Nat} {x y : Ch} (hx : a[k]? = some x) (hy : b[k]? = some y) : sameCs (a.drop k) (b.drop k) = (sameC x y && sameCs (a.drop (k + 1)) (b.drop (k + 1))) := by
  obtain ⟨h1, rfl⟩ := List.getElem?_eq_some_iff.1 hx
  obtain ⟨h2, rfl⟩ := List.getElem?_eq_some_iff.1 hy
  rw [List.drop_eq_getElem_cons h1, List.drop_eq_getElem_cons h2, sameCs]
theorem eqI_step {a b : List Int} {k : Nat} {x y : Int} (hx : a[k]? = some x) (hy : b[k]? = some y) : (a.drop k == b.drop k) = ((x == y) && (a.drop (k + 1) == b.drop (k + 1))) := by
  obtain ⟨h1, rfl⟩ := List.getElem?_eq_some_iff.1 hx
  obtain ⟨h2, rfl⟩ := List.getElem?_eq_some_iff.1 hy
  rw [List.drop_eq_getElem_cons h1, List.drop_eq_getElem_cons h2, List.cons_beq_cons]
end Go.Proofs.Ytngfedhffehkaac.mth

/-
  What the answer's functions on chunks tell.
-/
namespace Go.Proofs.Ytngfedhffehkaac.ab
set_option linter.unusedVariables false
set_option linter.unusedSimpArgs false
open Go Go.RowKit
open mth

theorem at_il {l : List Int} {i : Nat} {x : Int} (h : l[i]? = some x) : (l.map vI)[i]? = some (vI x) := by simp [h]
theorem len_cl (l : List Ch) : (encCl l).length = l.length := by simp [encCl]
theorem at_cl {l : List Ch} {i : Nat} {c : Ch} (h : l[i]? = some c) : (encCl l)[i]? = some (aD [vI c.kind, vI c.number, vI c.stream, vI c.place, sD 1 (c.data.map encB), sD 1 (c.early.map vI)]) := by simp [encCl, h, encCh]
def siSt (a b : List Int) (k : Nat) : St := ⟨[(0, sD 1 (a.map vI)), (1, sD 1 (b.map vI)), (12, vI a.length), (13, vI k)], [], []⟩
set_option maxHeartbeats 2000000 in
theorem sameInts_told (a b : List Int) (hl : a.length ≤ 9223372036854775807) : Told Try.prog 43 [sD 1 (a.map vI), sD 1 (b.map vI)] [vB (a == b)] := by
  refine told_r1_SameInts rfl ?_
  by_cases hlen : a.length = b.length
  · have l1 : ((a.length : Int) != (b.length : Int)) = false := by simp; omega
    refine wk (an2 @zmap @l1) ?_
    refine aw_loop (fun n st => ∃ k, k ≤ a.length ∧ n = a.length - k ∧ (a == b) = (a.drop k == b.drop k) ∧ st = siSt a b k) a.length (siSt a b 0) (Le.refl _) ⟨0, by omega, by omega, rfl, rfl⟩ ?_
    rintro n st ⟨k, hk, hn, hs, rfl⟩
    by_cases hlt : k < a.length
    · obtain ⟨x, hx⟩ : ∃ m, a[k]? = some m := ⟨a[k], List.getElem?_eq_getElem hlt⟩
      obtain ⟨y, hy⟩ : ∃ m, b[k]? = some m := ⟨b[k]'(by omega), List.getElem?_eq_getElem (by omega)⟩
      have g1 : (k : Int) < (a.length : Int) := by omega
      have g2 : (0 : Int) ≤ (k : Int) := by omega
      have g3 := at_il hx
      have g3' := at_il hy
      have g4 : inR .i64 ((k : Int) + 1) = true := inR_of (by omega)
      have hst := eqI_step hx hy
      rw [← hs] at hst
      simp only [siSt]
      by_cases hxy : x = y
      · have e1 : (x != y) = false := by simpa using hxy
        rw [show (x == y) = true by simpa using hxy, Bool.true_and] at hst
        refine wk (an6 @g1 @g2 @g3 @g3' @g4 @e1) ?_
        exact ⟨a.length - (k + 1), _, by omega, Le.refl _, k + 1, by omega, rfl, hst, by simp only [siSt, Int.natCast_add, Int.cast_ofNat_Int]⟩
      · have e1 : (x != y) = true := by simpa using hxy
        rw [show (x == y) = false by simpa using hxy, Bool.false_and] at hst
        rw [hst]
        refine wk (an6 @g1 @g2 @g3 @g3' @g4 @e1) ?_
        exact ValsLe.refl _
    · have hk' : k = a.length := by omega
      subst hk'
      have hs' : (a == b) = true := by rw [hs, hlen, List.drop_length, ← hlen, List.drop_length]; rfl
      have g1 : ¬ (a.length : Int) < (a.length : Int) := by omega
      rw [hs']
      simp only [siSt]
      refine wk @g1 ?_
      exact ValsLe.refl _
  · have l1 : ((a.length : Int) != (b.length : Int)) = true := by simp; omega
    have : (a == b) = false := by
      rw [Bool.eq_false_iff]
      intro h
      exact hlen (congrArg List.length (by simpa using h))
    rw [this]
    refine wk (an2 @zmap @l1) ?_
    exact ValsLe.refl _
set_option maxHeartbeats 4000000 in
theorem sameC_told (a b : Ch) (hl : a.early.length ≤ 9223372036854775807) : Told Try.prog 71 [aD (encCh a), aD (encCh b)] [vB (sameC a b)] := by
  refine told_r1_Same rfl ?_
  have hI := sameInts_told a.early b.early hl
  simp only [encCh, sameC]
  generalize (a.early == b.early) = q at *
  cases h1 : (a.kind == b.kind) with
  | false =>
    rw [Bool.false_and]
    refine wk (an3 @h1 @bytesOf_enc @ba_list) ?_
    exact ValsLe.refl _
  | true =>
    cases h2 : (a.number == b.number) with
    | false =>
      simp only [Bool.true_and, Bool.false_and]
      refine wk (an4 @h1 @h2 @bytesOf_enc @ba_list) ?_
      exact ValsLe.refl _
    | true =>
      cases h3 : (a.stream == b.stream) with
      | false =>
        simp only [Bool.true_and, Bool.false_and]
        refine wk (an5 @h1 @h2 @h3 @bytesOf_enc @ba_list) ?_
        exact ValsLe.refl _
      | true =>
        cases h4 : (a.place == b.place) with
        | false =>
          simp only [Bool.true_and, Bool.false_and]
          refine wk (an6 @h1 @h2 @h3 @h4 @bytesOf_enc @ba_list) ?_
          exact ValsLe.refl _
        | true =>
          cases h5 : (a.data == b.data) with
          | false =>
            simp only [Bool.true_and, Bool.false_and]
            refine wk (an7 @h1 @h2 @h3 @h4 @h5 @bytesOf_enc @ba_list) ?_
            exact ValsLe.refl _
          | true =>
            simp only [Bool.true_and]
            refine wk (an7 @h1 @h2 @h3 @h4 @h5 @bytesOf_enc @ba_list) ?_
            refine cg [[vB q]] (an7 @h1 @h2 @h3 @h4 @h5 @bytesOf_enc @ba_list) ?_ ?_
            · exact obl_cons hI obl_nil
            refine wk0 ?_
            exact ValsLe.refl _
def saSt (a b : List Ch) (k : Nat) : St := ⟨[(0, sD 6 (encCl a)), (1, sD 6 (encCl b)), (12, vI a.length), (13, vI k)], [], []⟩
set_option maxHeartbeats 2000000 in
theorem sameAll_told (a b : List Ch) (hl : a.length ≤ 1048576) (he : ∀ c ∈ a, c.early.length ≤ 9223372036854775807) : Told Try.prog 42 [sD 6 (encCl a), sD 6 (encCl b)] [vB (sameCs a b)] := by
  refine told_r1_SameAll rfl ?_
  by_cases hlen : a.length = b.length
  · have l1 : ((a.length : Int) != (b.length : Int)) = false := by simp; omega
    refine wk (an2 @len_cl @l1) ?_
    refine aw_loop (fun n st => ∃ k, k ≤ a.length ∧ n = a.length - k ∧ sameCs a b = sameCs (a.drop k) (b.drop k) ∧ st = saSt a b k) a.length (saSt a b 0) (Le.refl _) ⟨0, by omega, by omega, rfl, rfl⟩ ?_
    rintro n st ⟨k, hk, hn, hs, rfl⟩
    by_cases hlt : k < a.length
    · obtain ⟨x, hx⟩ : ∃ m, a[k]? = some m := ⟨a[k], List.getElem?_eq_getElem hlt⟩
      obtain ⟨y, hy⟩ : ∃ m, b[k]? = some m := ⟨b[k]'(by omega), List.getElem?_eq_getElem (by omega)⟩
      have g1 : (k : Int) < (a.length : Int) := by omega
      have g2 : (0 : Int) ≤ (k : Int) := by omega
      have g3 := at_cl hx
      have g3' := at_cl hy
      have g4 : inR .i64 ((k : Int) + 1) = true := inR_of (by omega)
      have hst := sameCs_step hx hy
      rw [← hs] at hst
      have hsm := sameC_told x y (he x (List.mem_of_getElem? hx))
      simp only [encCh] at hsm
      simp only [saSt]
      refine wk (an5 @g1 @g2 @g3 @g3' @g4) ?_
      refine cd [[vB (sameC x y)]] (an3 @g2 @g3 @g3') ?_ ?_
      · exact obl_cons hsm obl_nil
      cases hxy : sameC x y with
      | true =>
        rw [hxy, Bool.true_and] at hst
        refine wk @g4 ?_
        exact ⟨a.length - (k + 1), _, by omega, Le.refl _, k + 1, by omega, rfl, hst, by simp only [saSt, Int.natCast_add, Int.cast_ofNat_Int]⟩
      | false =>
        rw [hxy, Bool.false_and] at hst
        rw [hst]
        refine wk0 ?_
        exact ValsLe.refl _
    · have hk' : k = a.length := by omega
      subst hk'
      have hs' : sameCs a b = true := by rw [hs, hlen, List.drop_length, ← hlen, List.drop_length]; rfl
      have g1 : ¬ (a.length : Int) < (a.length : Int) := by omega
      rw [hs']
      simp only [saSt]
      refine wk @g1 ?_
      exact ValsLe.refl _
  · have l1 : ((a.length : Int) != (b.length : Int)) = true := by simp; omega
    have : sameCs a b = false := by
      rw [Bool.eq_false_iff]
      intro h
      exact hlen (congrArg List.length ((sameCs_iff a b).1 h))
    rw [this]
    refine wk (an2 @len_cl @l1) ?_
    exact ValsLe.refl _
end Go.Proofs.Ytngfedhffehkaac.ab
