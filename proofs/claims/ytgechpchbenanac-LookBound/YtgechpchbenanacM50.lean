/-
  Several texts in one.
-/
import Derived.Test.YtgechpchbenanacM26
import Derived.Test.YtgechpchbenanacM44
import Derived.Test.YtgechpchbenanacM49
import Derived.ChangeOld
import Derived.SizedLaws
import Derived.Test.YtgechpchbenanacProg
import Derived.Test.YtgechpchbenanacM48
import Derived.Test.YtgechpchbenanacM42

/-
  The row of LookBound out of what the functions are held to.
-/
namespace Go.Proofs.Ytgechpchbenanac.lookBound
set_option linter.unusedSimpArgs false
open Go Go.ChangeShapes Go.WideShapes Go.ChangeAt Go.RowKit
set_option linter.unusedVariables false
open ab mth

set_option maxRecDepth 100000 in
theorem lifted (hS : CSpoilR 45) (hI : CKIdle 24) (hW : CKWithin 25) (hN : CKSent 23) (hT : CKStill 26) (os : Os) (started : os.Started) (H : Type) (enc : TypeId × Value → H) :
    ReturnsInHanded {} Try.checked os 9 .any (Rows.lookBoundSpec.pre6 enc Try.prog Try.f9 Rows.lookBoundRow.domain false) (Rows.lookBoundSpec.post enc Try.prog Try.f9 false true false false) := by
  refine returnsInHanded_of_change_sized (C := Try.checked) own started (by kernel_rfl) Try.func9
    (ChangeSpec.witness6 (enc := enc) (C := Try.checked) false ⟨#[], #[.int .i64 0, .slice none 0 0], []⟩ 8 (by kernel_rfl) (by kernel_rfl) (by kernel_rfl) (by kernel_rfl)) ?_
  intro W base args ds gs before hval0 hW0 hcnd hsz0 _
  have hval : ∀ (j : Nat) t v, Try.f9.params[j]? = some t → args[j]? = some v → Value.okWide Try.prog W .any base t v := hval0
  have hW' := hW0
  obtain ⟨p, q, hA0, hV, rfl, hfz, hnd⟩ := hW0
  have hA : DataW.TrodAll enc Try.prog W 0 (fun _ => true) true Try.f9.params.toList args.toList ds p := hA0
  rw [Try.params9] at hA hval
  obtain ⟨v0, vs0, d0, ds0, p0, q0, hargs, rfl, rfl, h0, r0⟩ := trodAll_cons hA
  obtain ⟨v1, vs1, d1, ds1, p1, q1, rfl, rfl, rfl, h1, r1⟩ := trodAll_cons r0
  obtain ⟨rfl, rfl, rfl⟩ := trodAll_nil r1
  obtain rfl : args = #[v0, v1] := by cases args; simp_all
  obtain ⟨rfl, rfl⟩ := trodVars_none hV
  have lt0 : ∀ x ∈ p0, x.block < W.heap.size := by obtain ⟨m, hm⟩ := h0; exact DataW.trod_lt m _ _ _ hm
  have lt1 : ∀ x ∈ p1, x.block < W.heap.size := by obtain ⟨m, hm⟩ := h1; exact DataW.trod_lt m _ _ _ hm
  obtain ⟨n0, rfl⟩ := okWide_int Try.underlying3 (hval 0 3 v0 rfl rfl)
  obtain ⟨a1, len1, cap1, rfl⟩ := okWide_slice Try.underlying22 (hval 1 22 v1 rfl rfl)
  obtain ⟨x1, hM1, hu1, _⟩ := (by obtain ⟨fuel, hf⟩ := h1; exact in_steps hf : ∃ cs : List Sp, CRep (AllOf W) W (sD 7 (encSl cs)) (.slice a1 len1 cap1) ∧ cs.length ≤ Rows.uptoBulk d1 ∧ ∀ c ∈ cs, True)
  have hl1 := hM1.len
  rw [len_sl] at hl1
  clear hA0 hval0
  refine ((lookBound_told hS hI hW hN hT n0 x1 hl1).yes (W := W) (vs := [.int .i64 n0, .slice a1 len1 cap1]) (Vals.cons (.inl (CRep.v rfl)) (Vals.cons (.inl hM1) Vals.nil))).mono fun e W' ⟨he, bel⟩ => ?_
  subst he
  exact ⟨_, rfl, _, _, _, [], _, [], hW', trodAll_mk1 (shut_bool Try.underlying4 _), (trodAll_cons_mk (Below.trod laidOut (by kernel_rfl) (of_decide_eq_true (by kernel_rfl)) h0 bel lt0) (trodAll_cons_mk (Below.trod laidOut (by kernel_rfl) (of_decide_eq_true (by kernel_rfl)) h1 bel lt1) trodAll_mk0)), rfl, bel.frame _, fun h => by cases h⟩

theorem over (hS : CSpoilR 45) (hI : CKIdle 24) (hW : CKWithin 25) (hN : CKSent 23) (hT : CKStill 26) : Rows.lookBoundRow.holds Try.pinned (OpenSpec.ofChange Rows.lookBoundSpec) :=
  OpenClaim.holds_of_wide 9 Try.f9 rfl rfl rfl rfl rfl rfl rfl ⟨rfl, rfl, rfl, rfl, rfl⟩ rfl rfl rfl rfl rfl (by kernel_rfl) Try.func9 (by kernel_rfl)
    (of_decide_eq_true (by kernel_rfl)) (by unfold Func.isWrapper; first | (rw [if_pos (by decide +kernel)]; kernel_rfl) | (rw [if_neg (by decide +kernel)]; exact ⟨rfl, rfl⟩))
    (fun os started H enc _ => lifted hS hI hW hN hT os started H enc)
end Go.Proofs.Ytgechpchbenanac.lookBound

/-
  Functions as plain code (written by wip/abs/ir.py): look.Idle, look.Still, look.senderWithin, look.receiverWithin, look.Within, look.Sent.
-/
namespace Go.Proofs.Ytgechpchbenanac.ab
set_option linter.unusedSimpArgs false
set_option linter.unusedVariables false
set_option maxRecDepth 100000
open Go Go.RowKit

def look_Idle_r0 : IC := cReg Try.prog [
    xX 1 0,
    ⟨some 2, none, iMov 2 (.const (.bool false)) true⟩] [1] [1]
def look_Idle_r1 : IC := cReg Try.prog [
    xF 3 0 1,
    xF 4 0 3,
    xL 5 1 4,
    xN 6 5,
    xC 7 .eql 6 0,
    xM 8 7,
    xG 8 true (xF 9 0 1),
    xG 8 true (xF 10 5 9),
    xG 8 true (xL 11 1 10),
    xG 8 true (xN 12 11),
    xG 8 true (xC 13 .eql 12 0),
    xQ 14 8 13,
    xT 2 14] [2] []
def look_Idle : IC := (cSeq look_Idle_r0 (cSeq look_Idle_r1 cRet))
theorem told_look_Idle {args r : List D} (hl : args.length = 1) (h : look_Idle (start args) (fin [(2, none)] r)) : Told Try.prog 24 args r :=
  told_of follows Try.func24 rfl (an := [([], [1], [1], []), ([], [2], [], [])]) (by kernel_rfl) (by kernel_rfl) (by rw [hl]; decide +kernel) h

def look_Still_r0 : IC := cReg Try.prog [
    xX 1 0,
    ⟨some 2, none, iMov 2 (.const (.bool false)) true⟩] [1] [1]
def look_Still_r1 : IC := cReg Try.prog [
    xF 5 0 1,
    xL 6 1 5,
    xN 7 6,
    ⟨some 8, none, iMov 8 (.const (.int .i64 0)) false⟩] [6, 7, 8] []
def look_Still_r2 : IC := cReg Try.prog [
    xB 9 .lss 8 7] [6, 7, 8, 9] []
def look_Still_c3 : IC := cCond (.tmp 9) cSkip (cExit 0)
def look_Still_r3 : IC := cReg Try.prog [
    xI 10 17 6 8,
    xA 11 17 10,
    ⟨some 4, none, iAlo 4 [zS, zI, zI, zI, zI, zS, zI, zI, zS, zI, zI, zI, zS, zS, zF, zS, zS]⟩,
    xS 17 4 11] [4, 6, 7, 8] [4]
def look_Still_r4 : IC := cReg Try.prog [
    xA 12 17 4,
    xV1 13 24 12,
    xO 14 13] [6, 7, 8, 14] []
def look_Still_r5 : IC := cReg Try.prog [
    ⟨some 2, none, iMov 2 (.const (.bool false)) true⟩] [2] []
def look_Still_c5a : IC := (cSeq look_Still_r5 cRet)
def look_Still_c5 : IC := cCond (.tmp 14) look_Still_c5a cSkip
def look_Still_b4 : IC := cBlock 1 (cSeq look_Still_r3 (cSeq look_Still_r4 look_Still_c5))
def look_Still_r6 : IC := cReg Try.prog [
    xC 15 .add 8 1,
    xM 8 15] [6, 7, 8] []
def look_Still_l2a : IC := (cSeq look_Still_r2 (cSeq look_Still_c3 (cSeq look_Still_b4 look_Still_r6)))
def look_Still_l2 : IC := cLoop look_Still_l2a
def look_Still_b1 : IC := cBlock 0 look_Still_l2
def look_Still_r7 : IC := cReg Try.prog [
    ⟨some 2, none, iMov 2 (.const (.bool true)) true⟩] [2] []
def look_Still : IC := (cSeq look_Still_r0 (cSeq (cSeq look_Still_r1 look_Still_b1) (cSeq look_Still_r7 cRet)))
theorem told_look_Still {args r : List D} (hl : args.length = 1) (h : look_Still (start args) (fin [(2, none)] r)) : Told Try.prog 26 args r :=
  told_of follows Try.func26 rfl (an := [([], [1], [1], []), ([], [6, 7, 8], [], []), ([], [6, 7, 8, 9], [], []), ([], [4, 6, 7, 8], [4], []), ([], [6, 7, 8, 14], [], []), ([], [2], [], []), ([], [6, 7, 8], [], []), ([], [2], [], [])]) (by kernel_rfl) (by kernel_rfl) (by rw [hl]; decide +kernel) h

def look_senderWithin_r0 : IC := cReg Try.prog [
    xX 1 0,
    ⟨some 2, none, iMov 2 (.const (.bool false)) true⟩] [1] [1]
def look_senderWithin_r1_0 : IC := cReg Try.prog [
    xF 3 0 1,
    xL 4 1 3,
    xN 5 4,
    xC 6 .leq 5 6,
    xM 7 6,
    xG 7 true (xF 8 5 1),
    xG 7 true (xL 9 1 8),
    xG 7 true (xN 10 9),
    xG 7 true (xC 11 .leq 10 4),
    xQ 12 7 11] [1, 12] [1]
def look_senderWithin_r1_1 : IC := cReg Try.prog [
    xM 13 12,
    xG 13 true (xF 14 1 1),
    xG 13 true (xL 15 1 14),
    xG 13 true (xC 16 .leq 15 40),
    xQ 17 13 16,
    xT 2 17] [2] []
def look_senderWithin_r1 : IC := (cSeq look_senderWithin_r1_0 look_senderWithin_r1_1)
def look_senderWithin : IC := (cSeq look_senderWithin_r0 (cSeq look_senderWithin_r1 cRet))
theorem told_look_senderWithin {args r : List D} (hl : args.length = 1) (h : look_senderWithin (start args) (fin [(2, none)] r)) : Told Try.prog 40 args r :=
  told_of follows Try.func40 rfl (an := [([], [1], [1], []), ([(10, [1, 12], [1])], [2], [], [])]) (by kernel_rfl) (by kernel_rfl) (by rw [hl]; decide +kernel) h

def look_receiverWithin_r0 : IC := cReg Try.prog [
    xX 1 0,
    ⟨some 2, none, iMov 2 (.const (.bool false)) true⟩] [1] [1]
def look_receiverWithin_r1_0 : IC := cReg Try.prog [
    xF 3 1 1,
    xL 4 1 3,
    xN 5 4,
    xC 6 .leq 5 3,
    xM 7 6,
    xG 7 true (xF 8 6 1),
    xG 7 true (xL 9 1 8),
    xG 7 true (xN 10 9),
    xG 7 true (xF 11 5 1),
    xG 7 true (xL 12 1 11)] [7, 10, 12] []
def look_receiverWithin_r1_1 : IC := cReg Try.prog [
    xG 7 true (xN 13 12),
    xG 7 true (xB 14 .add 10 13),
    xG 7 true (xC 15 .leq 14 40),
    xQ 16 7 15,
    xT 2 16] [2] []
def look_receiverWithin_r1 : IC := (cSeq look_receiverWithin_r1_0 look_receiverWithin_r1_1)
def look_receiverWithin : IC := (cSeq look_receiverWithin_r0 (cSeq look_receiverWithin_r1 cRet))
theorem told_look_receiverWithin {args r : List D} (hl : args.length = 1) (h : look_receiverWithin (start args) (fin [(2, none)] r)) : Told Try.prog 41 args r :=
  told_of follows Try.func41 rfl (an := [([], [1], [1], []), ([(10, [7, 10, 12], [])], [2], [], [])]) (by kernel_rfl) (by kernel_rfl) (by rw [hl]; decide +kernel) h

def look_Within_r0 : IC := cReg Try.prog [
    xX 1 0,
    ⟨some 2, none, iMov 2 (.const (.bool false)) true⟩] [1] [1]
def look_Within_r1_0 : IC := cReg Try.prog [
    xF 3 0 1,
    xA 4 7 3,
    xV1 5 40 4,
    xM 6 5,
    xG 6 true (xF 7 7 1),
    xG 6 true (xA 8 8 7),
    xG 6 true (xV1 9 41 8),
    xQ 10 6 9,
    xM 11 10,
    xG 11 true (xF 12 15 1)] [1, 11, 12] [1]
def look_Within_r1_1 : IC := cReg Try.prog [
    xG 11 true (xL 13 1 12),
    xG 11 true (xN 14 13),
    xG 11 true (xC 15 .leq 14 6),
    xQ 16 11 15,
    xM 17 16,
    xG 17 true (xF 18 16 1),
    xG 17 true (xL 19 1 18),
    xG 17 true (xN 20 19),
    xG 17 true (xC 21 .leq 20 6),
    xQ 22 17 21,
    xT 2 22] [2] []
def look_Within_r1 : IC := (cSeq look_Within_r1_0 look_Within_r1_1)
def look_Within : IC := (cSeq look_Within_r0 (cSeq look_Within_r1 cRet))
theorem told_look_Within {args r : List D} (hl : args.length = 1) (h : look_Within (start args) (fin [(2, none)] r)) : Told Try.prog 25 args r :=
  told_of follows Try.func25 rfl (an := [([], [1], [1], []), ([(10, [1, 11, 12], [1])], [2], [], [])]) (by kernel_rfl) (by kernel_rfl) (by rw [hl]; decide +kernel) h

def look_Sent_r0 : IC := cReg Try.prog [
    xX 1 0,
    ⟨some 2, none, iMov 2 (.const (.int .i64 0)) true⟩,
    ⟨some 3, none, iMov 3 (.const (.int .i64 0)) true⟩] [1] [1]
def look_Sent_r1 : IC := cRegD Try.prog [
    xF 4 0 1,
    xF 5 1 4,
    xL 6 1 5,
    xF 7 7 1,
    xF 8 6 7,
    xL 9 1 8,
    xN 10 9,
    xT 2 6,
    xT 3 10] [[], [0], [1, 0], [], [3], [4, 3], [5, 4, 3], [2, 0, 1], [6, 7, 0, 1, 2, 3, 4, 5]] [2, 3] []
def look_Sent : IC := (cSeq look_Sent_r0 (cSeq look_Sent_r1 cRet))
theorem told_look_Sent {args r : List D} (hl : args.length = 1) (h : look_Sent (start args) (fin [(2, none), (3, none)] r)) : Told Try.prog 23 args r :=
  told_of follows Try.func23 rfl (an := [([], [1], [1], []), ([], [2, 3], [], [])]) (by kernel_rfl) (by kernel_rfl) (by rw [hl]; decide +kernel) h

end Go.Proofs.Ytgechpchbenanac.ab

/-
  What the landed package look tells.
-/
namespace Go.Proofs.Ytgechpchbenanac.ab
set_option linter.unusedVariables false
set_option linter.unusedSimpArgs false
open Go Go.RowKit
open mth

set_option maxHeartbeats 4000000 in
theorem landK_idle : CKIdle 24 := by
  intro l hs
  refine told_look_Idle rfl ?_
  have b1 := hs.q
  have b2 := hs.f
  have e : idleL l = (decide (l.s.queue.length = 0) && decide (l.s.flight.length = 0)) := by
    unfold idleL
    cases l.s.queue <;> cases l.s.flight <;> rfl
  rw [e]
  simp only [encLn]
  by_cases h1 : l.s.queue.length = 0
  · have g1 : ((l.s.queue.length : Int) == 0) = true := by rw [h1]; rfl
    by_cases h2 : l.s.flight.length = 0
    · have g2 : ((l.s.flight.length : Int) == 0) = true := by rw [h2]; rfl
      rw [decide_eq_true h1, decide_eq_true h2]
      clear h1 h2
      refine wk (an4 @g1 @g2 @len_ml @len_cl) ?_
      exact ValsLe.refl _
    · have g2 : ((l.s.flight.length : Int) == 0) = false := by rw [beq_eq_false_iff_ne]; omega
      rw [decide_eq_true h1, decide_eq_false h2]
      clear h1 h2
      refine wk (an4 @g1 @g2 @len_ml @len_cl) ?_
      exact ValsLe.refl _
  · have g1 : ((l.s.queue.length : Int) == 0) = false := by rw [beq_eq_false_iff_ne]; omega
    rw [decide_eq_false h1]
    clear h1
    refine wk (an2 @g1 @len_ml) ?_
    exact ValsLe.refl _
set_option maxHeartbeats 4000000 in
theorem landK_sent : CKSent 23 := by
  intro l hs
  refine told_look_Sent rfl ?_
  have b1 := hs.t
  simp only [encLn]
  refine wk @len_ml ?_
  exact ValsLe.refl _
def lstSt (w : Wd) (k : Nat) : St := ⟨[(6, sD 17 (encLl w.lanes)), (7, vI w.lanes.length), (8, vI k)], [], []⟩
set_option maxHeartbeats 8000000 in
theorem landK_still : CKStill 26 := by
  intro w hn hs
  refine told_look_Still rfl ?_
  simp only [encWd]
  refine wk @len_ll ?_
  refine aw_loop (fun m st => ∃ k : Nat, k ≤ w.lanes.length ∧ m = w.lanes.length - k ∧ (w.lanes.take k).all idleL = true ∧ st = lstSt w k) w.lanes.length (lstSt w 0) (Le.refl _) ⟨0, by omega, by omega, by simp, rfl⟩ ?_
  rintro m st ⟨k, hk, hm, hall, rfl⟩
  by_cases hlt : k < w.lanes.length
  · obtain ⟨x, hx⟩ : ∃ x, w.lanes[k]? = some x := ⟨w.lanes[k], List.getElem?_eq_getElem hlt⟩
    have hxm := List.mem_of_getElem? hx
    have g1 : (k : Int) < (w.lanes.length : Int) := by omega
    have g2 : (0 : Int) ≤ (k : Int) := by omega
    have g3 := at_ll hx
    have g4 : inR .i64 ((k : Int) + 1) = true := inR_of (by omega)
    have h1 := landK_idle x (hs x hxm)
    cases hi : idleL x with
    | true =>
      rw [hi] at h1
      have hnx : Next (fun m st => ∃ k : Nat, k ≤ w.lanes.length ∧ m = w.lanes.length - k ∧ (w.lanes.take k).all idleL = true ∧ st = lstSt w k) m (lstSt w (k + 1)) := ⟨w.lanes.length - (k + 1), _, by omega, Le.refl _, k + 1, by omega, rfl, by
        rw [List.take_add_one, hx, List.all_append, hall]; simp [hi], rfl⟩
      generalize (fun m st => ∃ k : Nat, k ≤ w.lanes.length ∧ m = w.lanes.length - k ∧ (w.lanes.take k).all idleL = true ∧ st = lstSt w k) = J at *
      simp only [lstSt, encLn, Int.natCast_add, Int.cast_ofNat_Int] at g3 h1 hnx ⊢
      refine wk (an5 @g1 @g2 @g3 @len_ll @Int.toNat_natCast) ?_
      refine cg [[vB true]] Bool.not_true ?_ ?_
      · exact obl_cons h1 obl_nil
      refine wk @g4 ?_
      exact hnx
    | false =>
      rw [hi] at h1
      have hf : stillW w = false := by
        unfold stillW
        rw [List.all_eq_false]
        exact ⟨x, hxm, by rw [hi]; simp⟩
      rw [hf]
      generalize (fun m st => ∃ k : Nat, k ≤ w.lanes.length ∧ m = w.lanes.length - k ∧ (w.lanes.take k).all idleL = true ∧ st = lstSt w k) = J at *
      simp only [lstSt, encLn] at g3 h1 ⊢
      refine wk (an5 @g1 @g2 @g3 @len_ll @Int.toNat_natCast) ?_
      refine cg [[vB false]] Bool.not_false ?_ ?_
      · exact obl_cons h1 obl_nil
      refine wk0 ?_
      exact ValsLe.refl _
  · have hkn : k = w.lanes.length := by omega
    subst hkn
    rw [List.take_length] at hall
    have hf : stillW w = true := hall
    rw [hf]
    have g1 : ¬ (w.lanes.length : Int) < (w.lanes.length : Int) := by omega
    generalize (fun m st => ∃ k : Nat, k ≤ w.lanes.length ∧ m = w.lanes.length - k ∧ (w.lanes.take k).all idleL = true ∧ st = lstSt w k) = J at *
    simp only [lstSt]
    refine wk @g1 ?_
    exact ValsLe.refl _
/-! ### Within -/
def sWithin (s : Sd) : Bool := decide (s.queue.length ≤ 6 ∧ s.flight.length ≤ 4 ∧ s.next ≤ 40)
def rWithin (r : Rv) : Bool := decide (r.early.length ≤ 3 ∧ r.told.length + r.hold.length ≤ 40)
set_option maxHeartbeats 4000000 in
theorem landK_sWithin (s : Sd) (b1 : s.queue.length ≤ 1048576) (b2 : s.flight.length ≤ 1048576) : Told Try.prog 40 [aD (encSd s)] [vB (sWithin s)] := by
  refine told_look_senderWithin rfl ?_
  simp only [encSd]
  by_cases h1 : s.queue.length ≤ 6
  · have g1 : (s.queue.length : Int) ≤ 6 := by omega
    by_cases h2 : s.flight.length ≤ 4
    · have g2 : (s.flight.length : Int) ≤ 4 := by omega
      by_cases h3 : s.next ≤ 40
      · rw [show sWithin s = true from decide_eq_true ⟨h1, h2, h3⟩]
        refine wk (an5 @g1 @g2 @h3 @len_ml @len_cl) ?_
        exact ValsLe.refl _
      · rw [show sWithin s = false from decide_eq_false fun q => h3 q.2.2]
        refine wk (an5 @g1 @g2 @h3 @len_ml @len_cl) ?_
        exact ValsLe.refl _
    · have g2 : ¬ (s.flight.length : Int) ≤ 4 := by omega
      rw [show sWithin s = false from decide_eq_false fun q => h2 q.2.1]
      refine wk (an4 @g1 @g2 @len_ml @len_cl) ?_
      exact ValsLe.refl _
  · have g1 : ¬ (s.queue.length : Int) ≤ 6 := by omega
    rw [show sWithin s = false from decide_eq_false fun q => h1 q.1]
    refine wk (an2 @g1 @len_ml) ?_
    exact ValsLe.refl _
set_option maxHeartbeats 4000000 in
theorem landK_rWithin (r : Rv) (b1 : r.early.length ≤ 1048576) (b2 : r.told.length ≤ 1048576) (b3 : r.hold.length ≤ 1048576) : Told Try.prog 41 [aD (encRv r)] [vB (rWithin r)] := by
  refine told_look_receiverWithin rfl ?_
  simp only [encRv]
  have g0 : inR .i64 ((r.told.length : Int) + (r.hold.length : Int)) = true := inR_of (by omega)
  by_cases h1 : r.early.length ≤ 3
  · have g1 : (r.early.length : Int) ≤ 3 := by omega
    by_cases h2 : r.told.length + r.hold.length ≤ 40
    · have g2 : (r.told.length : Int) + (r.hold.length : Int) ≤ 40 := by omega
      rw [show rWithin r = true from decide_eq_true ⟨h1, h2⟩]
      refine wk (an6 @g0 @g1 @g2 @zmap @len_ml @len_cl) ?_
      exact ValsLe.refl _
    · have g2 : ¬ (r.told.length : Int) + (r.hold.length : Int) ≤ 40 := by omega
      rw [show rWithin r = false from decide_eq_false fun q => h2 q.2]
      refine wk (an6 @g0 @g1 @g2 @zmap @len_ml @len_cl) ?_
      exact ValsLe.refl _
  · have g1 : ¬ (r.early.length : Int) ≤ 3 := by omega
    rw [show rWithin r = false from decide_eq_false fun q => h1 q.1]
    refine wk (an2 @g1 @zmap) ?_
    exact ValsLe.refl _
theorem within_and (l : Ln) : withinL l = (sWithin l.s && rWithin l.r && decide (l.there.length ≤ 6) && decide (l.back.length ≤ 6)) := by
  unfold withinL sWithin rWithin
  rw [Bool.eq_iff_iff]
  simp only [Bool.and_eq_true, decide_eq_true_eq]
  omega
set_option maxHeartbeats 8000000 in
theorem landK_within : CKWithin 25 := by
  intro l hs
  refine told_look_Within rfl ?_
  have h1 := landK_sWithin l.s hs.q hs.f
  have h2 := landK_rWithin l.r hs.e hs.t hs.h
  have b1 := hs.th
  have b2 := hs.b
  rw [within_and]
  simp only [encLn, encSd, encRv] at h1 h2 ⊢
  cases e1 : sWithin l.s with
  | false =>
    rw [e1] at h1
    refine wk0 ?_
    refine cg0 [[vB false]] ?_ ?_
    · exact obl_cons h1 obl_nil
    refine wk0 ?_
    exact ValsLe.refl _
  | true =>
    rw [e1] at h1
    cases e2 : rWithin l.r with
    | false =>
      rw [e2] at h2
      refine wk0 ?_
      refine cg0 [[vB true], [vB false]] ?_ ?_
      · exact obl_cons h1 (obl_cons h2 obl_nil)
      refine wk0 ?_
      exact ValsLe.refl _
    | true =>
      rw [e2] at h2
      by_cases h3 : l.there.length ≤ 6
      · have g3 : (l.there.length : Int) ≤ 6 := by omega
        by_cases h4 : l.back.length ≤ 6
        · have g4 : (l.back.length : Int) ≤ 6 := by omega
          rw [decide_eq_true h3, decide_eq_true h4]
          refine wk0 ?_
          refine cg [[vB true], [vB true]] (an3 @g3 @g4 @len_pk) ?_ ?_
          · exact obl_cons h1 (obl_cons h2 obl_nil)
          refine wk (an3 @g3 @g4 @len_pk) ?_
          exact ValsLe.refl _
        · have g4 : ¬ (l.back.length : Int) ≤ 6 := by omega
          rw [decide_eq_true h3, decide_eq_false h4]
          refine wk0 ?_
          refine cg [[vB true], [vB true]] (an3 @g3 @g4 @len_pk) ?_ ?_
          · exact obl_cons h1 (obl_cons h2 obl_nil)
          refine wk (an3 @g3 @g4 @len_pk) ?_
          exact ValsLe.refl _
      · have g3 : ¬ (l.there.length : Int) ≤ 6 := by omega
        rw [decide_eq_false h3]
        refine wk0 ?_
        refine cg [[vB true], [vB true]] (an2 @g3 @len_pk) ?_ ?_
        · exact obl_cons h1 (obl_cons h2 obl_nil)
        refine wk (an2 @g3 @len_pk) ?_
        exact ValsLe.refl _
end Go.Proofs.Ytgechpchbenanac.ab

/-
  What the answer's Packet tells: what is spoilt.
-/
namespace Go.Proofs.Ytgechpchbenanac.ab
set_option linter.unusedVariables false
set_option linter.unusedSimpArgs false
open Go Go.RowKit
open mth

theorem turn_even {b : UInt8} (h : b.toNat % 2 = 0) : (turnB b).toNat = b.toNat + 1 := by
  have hb : b.toNat < 256 := b.toNat_lt
  unfold turnB
  rw [if_pos (by unfold i8; omega)]
  unfold i8 b8
  rw [show ((b.toNat : Int) + 1) = ((b.toNat + 1 : Nat) : Int) by omega]
  simp [UInt8.toNat_ofNat']; omega
theorem turn_odd {b : UInt8} (h : ¬ b.toNat % 2 = 0) : ((turnB b).toNat : Int) = (b.toNat : Int) - 1 := by
  have hb : b.toNat < 256 := b.toNat_lt
  unfold turnB
  rw [if_neg (by unfold i8; omega)]
  unfold i8 b8
  rw [show ((b.toNat : Int) - 1) = ((b.toNat - 1 : Nat) : Int) by omega]
  simp [UInt8.toNat_ofNat']; omega
theorem enc_spoil {p : List (List UInt8)} {n k : Nat} {x : List UInt8} {b : UInt8} (hx : p[n]? = some x) (hb : x[k]? = some b) : encPk (spoilP p n k) = (encPk p).set n (sD 1 ((x.map encB).set k (encB (turnB b)))) := by
  have e0 : p.getD n [] = x := by rw [List.getD_eq_getElem?_getD, hx]; rfl
  have e1 : x.getD k 0 = b := by rw [List.getD_eq_getElem?_getD, hb]; rfl
  unfold spoilP
  rw [e0, e1]
  simp [encPk, List.map_set]
set_option maxHeartbeats 8000000 in
theorem packet_spoil : CSpoilR 45 := by
  intro l n k back x hg hx hk
  refine told_r6_Packet rfl ?_
  obtain ⟨w1, w2⟩ := hg.way back
  have hlt : n < (wayP l back).length := (List.getElem?_eq_some_iff.1 hx).1
  have hxl := w2 x (List.mem_of_getElem? hx)
  obtain ⟨b, hb⟩ : ∃ b, x[k]? = some b := ⟨_, List.getElem?_eq_getElem hk⟩
  have h1 := wayP_told l back
  have h3 := withP_told l back (spoilP (wayP l back) n k)
  have he := enc_spoil hx hb
  generalize hl' : withP l back (spoilP (wayP l back) n k) = l' at *
  clear hl'
  generalize spoilP (wayP l back) n k = q at *
  generalize wayP l back = p at *
  have hbl : b.toNat < 256 := b.toNat_lt
  have g0 : ¬ (n : Int) < 0 := by omega
  have g1 : ¬ (p.length : Int) ≤ (n : Int) := by omega
  have g2 : (0 : Int) ≤ (n : Int) := by omega
  have g3 : (n : Int) < (p.length : Int) := by omega
  have g4 := at_pk hx
  have hEl := len_pk p
  have k0 : ¬ (k : Int) < 0 := by omega
  have k1 : ¬ (x.length : Int) ≤ (k : Int) := by omega
  have k2 : (0 : Int) ≤ (k : Int) := by omega
  have k3 : (k : Int) < (x.length : Int) := by omega
  have k4 : (x.map encB)[k]? = some (vD (.int .u8 (b.toNat : Int))) := by rw [List.getElem?_map, hb]; rfl
  have k5 : 0 < p.length := by omega
  have k6 : 0 < x.length := by omega
  have k7 : p.length * 24 ≤ 140737488355328 := by omega
  have k8 : x.length * 1 ≤ 140737488355328 := by omega
  have k9 : (2 : Int) ≠ 0 := by decide
  have k10 : (b.toNat : Int).tmod 2 = ((b.toNat % 2 : Nat) : Int) := by rw [Int.tmod_eq_emod_of_nonneg (by omega)]; omega
  by_cases hev : b.toNat % 2 = 0
  · have e1 : (((b.toNat % 2 : Nat) : Int) == 0) = true := by simp; omega
    have e2 : inR .u8 ((b.toNat : Int) + 1) = true := inR_u8.2 (by omega)
    have e3 : encB (turnB b) = vD (.int .u8 ((b.toNat : Int) + 1)) := by unfold encB; rw [turn_even hev]; rfl
    rw [e3] at he
    rw [he] at h3
    generalize encPk p = E at *
    simp only [encLn] at h1 h3 ⊢
    refine wk0 ?_
    refine cg0 [[sD 1 E]] ?_ ?_
    · exact obl_cons h1 obl_nil
    refine wk (an23 @g0 @g1 @g2 @g3 @g4 @hEl @k0 @k1 @k2 @k3 @k4 @k5 @k6 @k7 @k8 @k9 @k10 @e1 @e2 @zmap @zset @zss @Int.toNat_natCast) ?_
    refine cg [[aD (encLn l')]] @encLn.eq_1 ?_ ?_
    · exact obl_cons h3 obl_nil
    refine wk0 ?_
    exact ValsLe.refl _
  · have e1 : (((b.toNat % 2 : Nat) : Int) == 0) = false := by simp; omega
    have e2 : inR .u8 ((b.toNat : Int) - 1) = true := inR_u8.2 (by omega)
    have e3 : encB (turnB b) = vD (.int .u8 ((b.toNat : Int) - 1)) := by unfold encB; rw [turn_odd hev]
    rw [e3] at he
    rw [he] at h3
    generalize encPk p = E at *
    simp only [encLn] at h1 h3 ⊢
    refine wk0 ?_
    refine cg0 [[sD 1 E]] ?_ ?_
    · exact obl_cons h1 obl_nil
    refine wk (an23 @g0 @g1 @g2 @g3 @g4 @hEl @k0 @k1 @k2 @k3 @k4 @k5 @k6 @k7 @k8 @k9 @k10 @e1 @e2 @zmap @zset @zss @Int.toNat_natCast) ?_
    refine cg [[aD (encLn l')]] @encLn.eq_1 ?_ ?_
    · exact obl_cons h3 obl_nil
    refine wk0 ?_
    exact ValsLe.refl _
end Go.Proofs.Ytgechpchbenanac.ab
