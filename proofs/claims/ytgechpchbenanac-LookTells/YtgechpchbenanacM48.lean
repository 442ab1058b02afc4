/-
  Several texts in one.
-/
import Derived.Test.YtgechpchbenanacM47
import Derived.Test.YtgechpchbenanacM44
import Derived.Test.YtgechpchbenanacM26
import Derived.Test.YtgechpchbenanacProg
import Derived.Test.YtgechpchbenanacAbsEval

/-
  Plain mathematics: rounds of a world. Nothing of the program.
-/
namespace Go.Proofs.Ytgechpchbenanac.mth
set_option linter.unusedSimpArgs false
set_option linter.unusedVariables false
/-! ### Worlds nothing of which was spoilt -/
theorem KInv.lane {p : List Ms} {l : Ln} (h : KInv p l) (s : Sp) (h6 : s.kind ≠ 6) : KInv (p ++ (if (laneW l s).2 = 0 ∧ s.kind = 2 then [s.msg] else [])) (laneW l s).1 := by
  unfold laneW
  by_cases h1 : s.kind = 1
  · rw [if_pos h1, if_neg (by omega), List.append_nil]
    exact h.speak
  rw [if_neg h1]
  by_cases h2 : s.kind = 2
  · rw [if_pos h2]
    have := h.put s.msg
    by_cases he : putE l.s s.msg = 0
    · rw [if_pos he] at this
      rw [if_pos ⟨he, h2⟩]
      exact this
    · rw [if_neg he] at this
      rw [if_neg (fun w => he w.1), List.append_nil]
      exact this
  · rw [if_neg h2, if_neg (fun w => h2 w.2), List.append_nil]
    exact h.packet _ _ _ _ h6
def WKnow (p : Int → List Ms) (w : Wd) : Prop := ∀ (j : Nat) (x : Ln), w.lanes[j]? = some x → KInv (p j) x
theorem WKnow.step {p : Int → List Ms} {w : Wd} (h : WKnow p w) (s : Sp) (h6 : s.kind ≠ 6) : WKnow (fun t => p t ++ (if (doW w s).2 = 0 ∧ s.kind = 2 ∧ s.tenant = t then [s.msg] else [])) (doW w s).1 := by
  unfold doW
  split
  · intro j x hx
    simp only
    rw [if_neg (by simp), List.append_nil]
    exact h j x hx
  split
  · intro j x hx
    simp only
    rw [if_neg (by simp), List.append_nil]
    exact h j x hx
  · rename_i h1 h2
    intro j x hx
    simp only at hx ⊢
    have hlt : (whoW w s).toNat < w.lanes.length := by omega
    have hg : w.lanes.getD (whoW w s).toNat zeroL = w.lanes[(whoW w s).toNat] := by rw [List.getD_eq_getElem?_getD, List.getElem?_eq_getElem hlt, Option.getD_some]
    rw [hg] at hx ⊢
    have hl := h (whoW w s).toNat _ (List.getElem?_eq_getElem hlt)
    by_cases hj : (whoW w s).toNat = j
    · subst hj
      rw [List.getElem?_set_self (by omega)] at hx
      cases hx
      have := hl.lane s h6
      by_cases hk : (laneW w.lanes[(whoW w s).toNat] s).2 = 0 ∧ s.kind = 2
      · have ht : s.tenant = ((whoW w s).toNat : Int) := by
          have : whoW w s = s.tenant := by unfold whoW; rw [if_neg (by omega)]
          omega
        rw [if_pos hk] at this
        rw [if_pos ⟨hk.1, hk.2, ht⟩]
        exact this
      · rw [if_neg hk] at this
        rw [if_neg (fun w => hk ⟨w.1, w.2.1⟩)]
        exact this
    · rw [List.getElem?_set_ne hj] at hx
      rw [if_neg, List.append_nil]
      · exact h j x hx
      · rintro ⟨w1, w2, w3⟩
        have : whoW w s = s.tenant := by unfold whoW; rw [if_neg (by omega)]
        omega
theorem idle_iff {l : Ln} : idleL l = true ↔ l.s.queue = [] ∧ l.s.flight = [] := by
  unfold idleL
  rw [Bool.and_eq_true, List.isEmpty_iff, List.isEmpty_iff]
/-! ### Rounds -/
def drainW (w : Wd) : Wd := ⟨w.lanes.map drainL, w.ticks⟩
def stillW (w : Wd) : Bool := w.lanes.all idleL
theorem GoodL.there_all : ∀ (q : List (List UInt8)) {l : Ln}, GoodL l → l.there = q → GoodL { l with r := q.foldl hearP l.r, there := [] }
  | [], l, h, e => by
    obtain ⟨s, r, t, b⟩ := l
    simp only at e
    subst e
    exact h
  | x :: q, l, h, e => by
    have h1 := h.come 0 false
    rw [come_there e] at h1
    exact GoodL.there_all q h1 rfl
theorem GoodL.back_all : ∀ (q : List (List UInt8)) {l : Ln}, GoodL l → l.back = q → GoodL { l with s := q.foldl hearQ l.s, back := [] }
  | [], l, h, e => by
    obtain ⟨s, r, t, b⟩ := l
    simp only at e
    subst e
    exact h
  | x :: q, l, h, e => by
    have h1 := h.come 0 true
    rw [come_back e] at h1
    exact GoodL.back_all q h1 rfl
theorem GoodL.drain {l : Ln} (h : GoodL l) : GoodL (drainL l) := GoodL.back_all l.back (GoodL.there_all l.there h rfl) rfl
theorem GoodW.drain {w : Wd} (h : GoodW w) : GoodW (drainW w) := ⟨by simpa [drainW] using h.n, h.t, fun l hl => by
  obtain ⟨x, hx, e⟩ := List.mem_map.1 hl
  rw [← e]; exact (h.l x hx).drain⟩
end Go.Proofs.Ytgechpchbenanac.mth

/-
  What the functions of package look are held to.
-/
namespace Go.Proofs.Ytgechpchbenanac.ab
set_option linter.unusedVariables false
set_option linter.unusedSimpArgs false
open Go Go.RowKit
open mth

/-- No list of it is too long to be counted. -/
structure SmallN (l : Ln) : Prop where
  q : l.s.queue.length ≤ 1048576
  f : l.s.flight.length ≤ 1048576
  e : l.r.early.length ≤ 1048576
  h : l.r.hold.length ≤ 1048576
  t : l.r.told.length ≤ 1048576
  th : l.there.length ≤ 1048576
  b : l.back.length ≤ 1048576
def withinL (l : Ln) : Bool := decide (l.s.queue.length ≤ 6 ∧ l.s.flight.length ≤ 4 ∧ l.s.next ≤ 40 ∧ l.r.early.length ≤ 3 ∧ l.r.told.length + l.r.hold.length ≤ 40 ∧ l.there.length ≤ 6 ∧ l.back.length ≤ 6)
def CKIdle (f : Nat) : Prop := ∀ l, SmallN l → Told Try.prog f [aD (encLn l)] [vB (idleL l)]
def CKWithin (f : Nat) : Prop := ∀ l, SmallN l → Told Try.prog f [aD (encLn l)] [vB (withinL l)]
def CKSent (f : Nat) : Prop := ∀ l, SmallN l → Told Try.prog f [aD (encLn l)] [vI l.s.next, vI l.r.told.length]
def CKStill (f : Nat) : Prop := ∀ w : Wd, w.lanes.length ≤ 1048576 → (∀ l ∈ w.lanes, SmallN l) → Told Try.prog f [aD (encWd w)] [vB (stillW w)]
theorem good_40 {r : Rv} (h : GoodR r) : r.next + r.early.length ≤ 40 := by
  have hn := h.n
  by_cases h40 : r.next = 40
  · have : r.early = [] := by rw [h.e, h40]; unfold earlyR; rw [rangeI_nil (by omega)]; rfl
    rw [this, h40]; decide
  · have hl : r.early.length ≤ (rangeI (r.next + 1) 40).length := by
      have e := h.e
      unfold earlyR at e
      rw [rangeI_cons (by omega), List.filter_cons_of_neg (by rw [h.x]; simp)] at e
      rw [e]
      exact List.length_filter_le _ _
    have h2 : (rangeI (r.next + 1) 40).length = (40 - (r.next + 1)).toNat := by unfold rangeI; simp
    omega
theorem good_within {l : Ln} (h : GoodL l) : withinL l = true := by
  have h1 := good_40 h.r
  have h2 := h.r.t
  have h3 := h.s.n
  have h4 := h.s.q
  have h5 := h.s.f
  have h6 := h.t
  have h7 := h.b
  have h8 := h.r.l
  unfold withinL
  rw [decide_eq_true_eq]
  refine ⟨h4, h5, by omega, h8, by omega, h6, h7⟩
theorem good_smallN {l : Ln} (h : GoodL l) : SmallN l := by
  have h1 := good_sizes h.r
  have h4 := h.s.q
  have h5 := h.s.f
  have h6 := h.t
  have h7 := h.b
  exact ⟨by omega, by omega, by omega, by omega, by omega, by omega, by omega⟩
end Go.Proofs.Ytgechpchbenanac.ab

/-
  Functions as plain code (written by wip/abs/ir.py): lkref6.Still.
-/
namespace Go.Proofs.Ytgechpchbenanac.ab
set_option linter.unusedSimpArgs false
set_option linter.unusedSimpArgs false
set_option linter.unusedVariables false
set_option maxRecDepth 100000
open Go Go.RowKit

def r6_Still_r0 : IC := cReg Try.prog [
    xX 1 0,
    ⟨some 2, none, iMov 2 (.const (.bool false)) true⟩] [1] [1]
def r6_Still_r1 : IC := cReg Try.prog [
    xF 5 0 1,
    xL 6 1 5,
    xN 7 6,
    ⟨some 8, none, iMov 8 (.const (.int .i64 0)) false⟩] [6, 7, 8] []
def r6_Still_r2 : IC := cReg Try.prog [
    xB 9 .lss 8 7] [6, 7, 8, 9] []
def r6_Still_c3 : IC := cCond (.tmp 9) cSkip (cExit 0)
def r6_Still_r3 : IC := cReg Try.prog [
    xI 10 17 6 8,
    xA 11 17 10,
    ⟨some 4, none, iAlo 4 [zS, zI, zI, zI, zI, zS, zI, zI, zS, zI, zI, zI, zS, zS, zF, zS, zS]⟩,
    xS 17 4 11] [4, 6, 7, 8] [4]
def r6_Still_r4 : IC := cReg Try.prog [
    xF 12 0 4,
    xF 13 0 12,
    xL 14 1 13,
    xN 15 14,
    xF 16 0 4,
    xF 17 5 16,
    xL 18 1 17,
    xN 19 18,
    xB 20 .add 15 19,
    xC 21 .gtr 20 0] [6, 7, 8, 21] []
def r6_Still_r5 : IC := cReg Try.prog [
    ⟨some 2, none, iMov 2 (.const (.bool false)) true⟩] [2] []
def r6_Still_c5a : IC := (cSeq r6_Still_r5 cRet)
def r6_Still_c5 : IC := cCond (.tmp 21) r6_Still_c5a cSkip
def r6_Still_b4 : IC := cBlock 1 (cSeq r6_Still_r3 (cSeq r6_Still_r4 r6_Still_c5))
def r6_Still_r6 : IC := cReg Try.prog [
    xC 22 .add 8 1,
    xM 8 22] [6, 7, 8] []
def r6_Still_l2a : IC := (cSeq r6_Still_r2 (cSeq r6_Still_c3 (cSeq r6_Still_b4 r6_Still_r6)))
def r6_Still_l2 : IC := cLoop r6_Still_l2a
def r6_Still_b1 : IC := cBlock 0 r6_Still_l2
def r6_Still_r7 : IC := cReg Try.prog [
    ⟨some 2, none, iMov 2 (.const (.bool true)) true⟩] [2] []
def r6_Still : IC := (cSeq r6_Still_r0 (cSeq (cSeq r6_Still_r1 r6_Still_b1) (cSeq r6_Still_r7 cRet)))
theorem told_r6_Still {args r : List D} (hl : args.length = 1) (h : r6_Still (start args) (fin [(2, none)] r)) : Told Try.prog 27 args r :=
  told_of follows Try.func27 rfl (an := [([], [1], [1], []), ([], [6, 7, 8], [], []), ([], [6, 7, 8, 9], [], []), ([], [4, 6, 7, 8], [4], []), ([], [6, 7, 8, 21], [], []), ([], [2], [], []), ([], [6, 7, 8], [], []), ([], [2], [], [])]) (by kernel_rfl) (by kernel_rfl) (by rw [hl]; decide +kernel) h

end Go.Proofs.Ytgechpchbenanac.ab

/-
  What the answer's Still tells.
-/
namespace Go.Proofs.Ytgechpchbenanac.ab
set_option linter.unusedVariables false
set_option linter.unusedSimpArgs false
open Go Go.RowKit
open mth

/-! ### Still -/
def slSt (w : Wd) (k : Nat) : St := ⟨[(6, sD 17 (encLl w.lanes)), (7, vI w.lanes.length), (8, vI k)], [], []⟩
set_option maxHeartbeats 8000000 in
theorem still_told (w : Wd) (hw : GoodW w) : Told Try.prog 27 [aD (encWd w)] [vB (stillW w)] := by
  refine told_r6_Still rfl ?_
  have hn := hw.n
  simp only [encWd]
  refine wk @len_ll ?_
  refine aw_loop (fun m st => ∃ k : Nat, k ≤ w.lanes.length ∧ m = w.lanes.length - k ∧ (w.lanes.take k).all idleL = true ∧ st = slSt w k) w.lanes.length (slSt w 0) (Le.refl _) ⟨0, by omega, by omega, by simp, rfl⟩ ?_
  rintro m st ⟨k, hk, hm, hall, rfl⟩
  by_cases hlt : k < w.lanes.length
  · obtain ⟨x, hx⟩ : ∃ x, w.lanes[k]? = some x := ⟨w.lanes[k], List.getElem?_eq_getElem hlt⟩
    have hxm := List.mem_of_getElem? hx
    have hg := hw.l x hxm
    have g1 : (k : Int) < (w.lanes.length : Int) := by omega
    have g2 : (0 : Int) ≤ (k : Int) := by omega
    have g3 := at_ll hx
    have g4 : inR .i64 ((k : Int) + 1) = true := inR_of (by omega)
    have g5 : inR .i64 ((x.s.queue.length : Int) + (x.s.flight.length : Int)) = true := inR_of (by have := hg.s.q; have := hg.s.f; omega)
    cases hi : idleL x with
    | true =>
      obtain ⟨q1, q2⟩ := idle_iff.1 hi
      have g6 : ¬ 0 < (x.s.queue.length : Int) + (x.s.flight.length : Int) := by rw [q1, q2]; simp
      have hnx : Next (fun m st => ∃ k : Nat, k ≤ w.lanes.length ∧ m = w.lanes.length - k ∧ (w.lanes.take k).all idleL = true ∧ st = slSt w k) m (slSt w (k + 1)) := ⟨w.lanes.length - (k + 1), _, by omega, Le.refl _, k + 1, by omega, rfl, by
        rw [List.take_add_one, hx, List.all_append, hall]; simp [hi], rfl⟩
      generalize (fun m st => ∃ k : Nat, k ≤ w.lanes.length ∧ m = w.lanes.length - k ∧ (w.lanes.take k).all idleL = true ∧ st = slSt w k) = J at *
      simp only [slSt, encLn, Int.natCast_add, Int.cast_ofNat_Int] at g3 hnx ⊢
      refine wk (an10 @g1 @g2 @g3 @g4 @g5 @g6 @len_ll @len_ml @len_cl @Int.toNat_natCast) ?_
      exact hnx
    | false =>
      have g6 : 0 < (x.s.queue.length : Int) + (x.s.flight.length : Int) := by
        unfold idleL at hi
        cases h1 : x.s.queue with
        | cons a b => simp only [List.length_cons]; omega
        | nil =>
          cases h2 : x.s.flight with
          | cons a b => simp only [List.length_cons]; omega
          | nil => rw [h1, h2] at hi; cases hi
      have hs : stillW w = false := by
        unfold stillW
        rw [List.all_eq_false]
        exact ⟨x, hxm, by rw [hi]; simp⟩
      rw [hs]
      generalize (fun m st => ∃ k : Nat, k ≤ w.lanes.length ∧ m = w.lanes.length - k ∧ (w.lanes.take k).all idleL = true ∧ st = slSt w k) = J at *
      simp only [slSt, encLn] at g3 ⊢
      refine wk (an9 @g1 @g2 @g3 @g5 @g6 @len_ll @len_ml @len_cl @Int.toNat_natCast) ?_
      exact ValsLe.refl _
  · have hkn : k = w.lanes.length := by omega
    subst hkn
    rw [List.take_length] at hall
    have hs : stillW w = true := hall
    rw [hs]
    have g1 : ¬ (w.lanes.length : Int) < (w.lanes.length : Int) := by omega
    generalize (fun m st => ∃ k : Nat, k ≤ w.lanes.length ∧ m = w.lanes.length - k ∧ (w.lanes.take k).all idleL = true ∧ st = slSt w k) = J at *
    simp only [slSt]
    refine wk @g1 ?_
    exact ValsLe.refl _
end Go.Proofs.Ytgechpchbenanac.ab

/-
  A drawn region, one operation after another.
-/
namespace Go.Proofs.Ytgechpchbenanac.ab
set_option linter.unusedSimpArgs false
open Go Go.RowKit

/-- An operation, reckoned out first. -/
def onS (x : Option (Ev × Option (Nat × List D × List D))) (K : Ev → Prop) : Prop := ∃ ev, x = some (ev, none) ∧ K ev
/-- A state and what was looked at, reckoned out first. -/
def onE (x : St) (f : Foot) (K : St → Foot → Prop) : Prop := K x f
def onK (x : Option St) (K : St → Prop) : Prop := ∃ st, x = some st ∧ K st

section
variable {P : Program} {st st' : St} {Q : AX → St → Prop} {K : St → Prop} {ops : List IOp} {anc : List (List Nat)} {lv lb : List Nat} {fs : List Foot}
theorem on_s {ev : Ev} {K : Ev → Prop} (h : K ev) : onS (some (ev, none)) K := ⟨ev, rfl, h⟩
theorem on_e {f : Foot} {K : St → Foot → Prop} (h : K st f) : onE st f K := h
theorem on_k (h : K st) : onK (some st) K := ⟨st, rfl, h⟩
end
end Go.Proofs.Ytgechpchbenanac.ab

/-
  A drawn region, one operation after another, calls among them.
-/
namespace Go.Proofs.Ytgechpchbenanac.ab
set_option linter.unusedSimpArgs false
open Go Go.RowKit

/-- What is left of a region; `fs` is what the operations behind have looked at, `rs` what the calls ahead tell. -/
def goC (P : Program) (fs : List Foot) (rs : List (List D)) (ops : List IOp) (anc : List (List Nat)) (lv lb : List Nat) (st : St) (K : St → Prop) : Prop := ∃ st' fs' st'' q, evalD ops rs st = some (st', fs', q) ∧ st'.keep lv lb = some st'' ∧ pairsOk anc (fs ++ fs') = true ∧ Obl P q ∧ K st''
/-- A call, reckoned out first. -/
def onC (x : Option (Ev × Option (Nat × List D × List D))) (K : Ev → Nat → List D → List D → Prop) : Prop := ∃ ev f cs ro, x = some (ev, some (f, cs, ro)) ∧ K ev f cs ro

section
variable {P : Program} {st st' : St} {Q : AX → St → Prop} {K : St → Prop} {ops : List IOp} {anc : List (List Nat)} {lv lb : List Nat} {fs : List Foot}
theorem aw_oneC (rs : List (List D)) (h : goC P [] rs ops anc lv lb st (Q none)) : cRegD P ops anc lv lb st Q := by
  obtain ⟨st1, fs1, st2, q, h1, h2, h3, h5, h4⟩ := h
  refine ⟨rs, st2, q, ?_, h5, h4⟩
  rw [List.nil_append] at h3
  simp only [evalRD, h1, h2, h3]
theorem goC_op {rs : List (List D)} {o : IOp} (h : onS (stepI o st (rs.headD [])) fun ev => onE (st.app ev) ev.fp fun st' f => goC P (fs ++ [f]) rs ops anc lv lb st' K) : goC P fs rs (o :: ops) anc lv lb st K := by
  obtain ⟨ev, he, st1, fs1, st2, q, h1, h2, h3, h5, h4⟩ := h
  refine ⟨st1, ev.fp :: fs1, st2, q, ?_, h2, ?_, h5, h4⟩
  · simp only [evalD, he, h1]
  · rw [List.append_assoc] at h3
    exact h3
theorem goC_call {rs : List (List D)} {o : IOp} (h : onC (stepI o st (rs.headD [])) fun ev f cs ro => Obl P [(f, cs, ro)] ∧ onE (st.app ev) ev.fp fun st' f => goC P (fs ++ [f]) rs.tail ops anc lv lb st' K) : goC P fs rs (o :: ops) anc lv lb st K := by
  obtain ⟨ev, f, cs, ro, he, hO, st1, fs1, st2, q, h1, h2, h3, h5, h4⟩ := h
  refine ⟨st1, ev.fp :: fs1, st2, (f, cs, ro) :: q, ?_, h2, ?_, ⟨hO.1, h5⟩, h4⟩
  · simp only [evalD, he, h1]
  · rw [List.append_assoc] at h3
    exact h3
theorem goC_end {rs : List (List D)} (hp : pairsOk anc fs = true) (h : onK (st.keep lv lb) K) : goC P fs rs [] anc lv lb st K := by
  obtain ⟨st2, h2, h4⟩ := h
  exact ⟨st, [], st2, [], rfl, h2, by rw [List.append_nil]; exact hp, trivial, h4⟩
theorem on_c {ev : Ev} {f : Nat} {cs ro : List D} {K : Ev → Nat → List D → List D → Prop} (h : K ev f cs ro) : onC (some (ev, some (f, cs, ro))) K := ⟨ev, f, cs, ro, rfl, h⟩
end
end Go.Proofs.Ytgechpchbenanac.ab
