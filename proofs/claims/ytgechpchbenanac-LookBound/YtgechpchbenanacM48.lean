/-
  Several texts in one.
-/
import Derived.Test.YtgechpchbenanacM47
import Derived.Test.YtgechpchbenanacM44
import Derived.Test.YtgechpchbenanacM26
import Derived.Test.YtgechpchbenanacProg

/-
  Plain mathematics: rounds of a world. Nothing of the program.
-/
namespace Go.Proofs.Ytgechpchbenanac.mth
set_option linter.unusedSimpArgs false
set_option linter.unusedVariables false
/-! ### Worlds nothing of which was spoilt -/
theorem KInv.lane {p : List Ms} {l : Ln} (h : KInv p l) (s : Sp) (h6 : s.kind ≠ 6) : KInv (p ++ (if (laneW l s).2 = 0 ∧ s.kind = 2 then [s.msg] else [])) (laneW l s).1 := by
  unfold laneW
  by_cases h1 : s.kind = 1
  · rw [if_pos h1, if_neg (by omega), List.append_nil]
    exact h.speak
  rw [if_neg h1]
  by_cases h2 : s.kind = 2
  · rw [if_pos h2]
    have := h.put s.msg
    by_cases he : putE l.s s.msg = 0
    · rw [if_pos he] at this
      rw [if_pos ⟨he, h2⟩]
      exact this
    · rw [if_neg he] at this
      rw [if_neg (fun w => he w.1), List.append_nil]
      exact this
  · rw [if_neg h2, if_neg (fun w => h2 w.2), List.append_nil]
    exact h.packet _ _ _ _ h6
def WKnow (p : Int → List Ms) (w : Wd) : Prop := ∀ (j : Nat) (x : Ln), w.lanes[j]? = some x → KInv (p j) x
theorem WKnow.step {p : Int → List Ms} {w : Wd} (h : WKnow p w) (s : Sp) (h6 : s.kind ≠ 6) : WKnow (fun t => p t ++ (if (doW w s).2 = 0 ∧ s.kind = 2 ∧ s.tenant = t then [s.msg] else [])) (doW w s).1 := by
  unfold doW
  split
  · intro j x hx
    simp only
    rw [if_neg (by simp), List.append_nil]
    exact h j x hx
  split
  · intro j x hx
    simp only
    rw [if_neg (by simp), List.append_nil]
    exact h j x hx
  · rename_i h1 h2
    intro j x hx
    simp only at hx ⊢
    have hlt : (whoW w s).toNat < w.lanes.length := by omega
    have hg : w.lanes.getD (whoW w s).toNat zeroL = w.lanes[(whoW w s).toNat] := by rw [List.getD_eq_getElem?_getD, List.getElem?_eq_getElem hlt, Option.getD_some]
    rw [hg] at hx ⊢
    have hl := h (whoW w s).toNat _ (List.getElem?_eq_getElem hlt)
    by_cases hj : (whoW w s).toNat = j
    · subst hj
      rw [List.getElem?_set_self (by omega)] at hx
      cases hx
      have := hl.lane s h6
      by_cases hk : (laneW w.lanes[(whoW w s).toNat] s).2 = 0 ∧ s.kind = 2
      · have ht : s.tenant = ((whoW w s).toNat : Int) := by
          have : whoW w s = s.tenant := by unfold whoW; rw [if_neg (by omega)]
          omega
        rw [if_pos hk] at this
        rw [if_pos ⟨hk.1, hk.2, ht⟩]
        exact this
      · rw [if_neg hk] at this
        rw [if_neg (fun w => hk ⟨w.1, w.2.1⟩)]
        exact this
    · rw [List.getElem?_set_ne hj] at hx
      rw [if_neg, List.append_nil]
      · exact h j x hx
      · rintro ⟨w1, w2, w3⟩
        have : whoW w s = s.tenant := by unfold whoW; rw [if_neg (by omega)]
        omega
/-! ### Rounds -/
def drainW (w : Wd) : Wd := ⟨w.lanes.map drainL, w.ticks⟩
def stillW (w : Wd) : Bool := w.lanes.all idleL
theorem GoodL.there_all : ∀ (q : List (List UInt8)) {l : Ln}, GoodL l → l.there = q → GoodL { l with r := q.foldl hearP l.r, there := [] }
  | [], l, h, e => by
    obtain ⟨s, r, t, b⟩ := l
    simp only at e
    subst e
    exact h
  | x :: q, l, h, e => by
    have h1 := h.come 0 false
    rw [come_there e] at h1
    exact GoodL.there_all q h1 rfl
theorem GoodL.back_all : ∀ (q : List (List UInt8)) {l : Ln}, GoodL l → l.back = q → GoodL { l with s := q.foldl hearQ l.s, back := [] }
  | [], l, h, e => by
    obtain ⟨s, r, t, b⟩ := l
    simp only at e
    subst e
    exact h
  | x :: q, l, h, e => by
    have h1 := h.come 0 true
    rw [come_back e] at h1
    exact GoodL.back_all q h1 rfl
theorem GoodL.drain {l : Ln} (h : GoodL l) : GoodL (drainL l) := GoodL.back_all l.back (GoodL.there_all l.there h rfl) rfl
theorem GoodW.drain {w : Wd} (h : GoodW w) : GoodW (drainW w) := ⟨by simpa [drainW] using h.n, h.t, fun l hl => by
  obtain ⟨x, hx, e⟩ := List.mem_map.1 hl
  rw [← e]; exact (h.l x hx).drain⟩
end Go.Proofs.Ytgechpchbenanac.mth

/-
  What the functions of package look are held to.
-/
namespace Go.Proofs.Ytgechpchbenanac.ab
set_option linter.unusedVariables false
set_option linter.unusedSimpArgs false
open Go Go.RowKit
open mth

/-- No list of it is too long to be counted. -/
structure SmallN (l : Ln) : Prop where
  q : l.s.queue.length ≤ 1048576
  f : l.s.flight.length ≤ 1048576
  e : l.r.early.length ≤ 1048576
  h : l.r.hold.length ≤ 1048576
  t : l.r.told.length ≤ 1048576
  th : l.there.length ≤ 1048576
  b : l.back.length ≤ 1048576
def withinL (l : Ln) : Bool := decide (l.s.queue.length ≤ 6 ∧ l.s.flight.length ≤ 4 ∧ l.s.next ≤ 40 ∧ l.r.early.length ≤ 3 ∧ l.r.told.length + l.r.hold.length ≤ 40 ∧ l.there.length ≤ 6 ∧ l.back.length ≤ 6)
def CKIdle (f : Nat) : Prop := ∀ l, SmallN l → Told Try.prog f [aD (encLn l)] [vB (idleL l)]
def CKWithin (f : Nat) : Prop := ∀ l, SmallN l → Told Try.prog f [aD (encLn l)] [vB (withinL l)]
def CKSent (f : Nat) : Prop := ∀ l, SmallN l → Told Try.prog f [aD (encLn l)] [vI l.s.next, vI l.r.told.length]
def CKStill (f : Nat) : Prop := ∀ w : Wd, w.lanes.length ≤ 1048576 → (∀ l ∈ w.lanes, SmallN l) → Told Try.prog f [aD (encWd w)] [vB (stillW w)]
theorem good_40 {r : Rv} (h : GoodR r) : r.next + r.early.length ≤ 40 := by
  have hn := h.n
  by_cases h40 : r.next = 40
  · have : r.early = [] := by rw [h.e, h40]; unfold earlyR; rw [rangeI_nil (by omega)]; rfl
    rw [this, h40]; decide
  · have hl : r.early.length ≤ (rangeI (r.next + 1) 40).length := by
      have e := h.e
      unfold earlyR at e
      rw [rangeI_cons (by omega), List.filter_cons_of_neg (by rw [h.x]; simp)] at e
      rw [e]
      exact List.length_filter_le _ _
    have h2 : (rangeI (r.next + 1) 40).length = (40 - (r.next + 1)).toNat := by unfold rangeI; simp
    omega
theorem good_within {l : Ln} (h : GoodL l) : withinL l = true := by
  have h1 := good_40 h.r
  have h2 := h.r.t
  have h3 := h.s.n
  have h4 := h.s.q
  have h5 := h.s.f
  have h6 := h.t
  have h7 := h.b
  have h8 := h.r.l
  unfold withinL
  rw [decide_eq_true_eq]
  refine ⟨h4, h5, by omega, h8, by omega, h6, h7⟩
theorem good_smallN {l : Ln} (h : GoodL l) : SmallN l := by
  have h1 := good_sizes h.r
  have h4 := h.s.q
  have h5 := h.s.f
  have h6 := h.t
  have h7 := h.b
  exact ⟨by omega, by omega, by omega, by omega, by omega, by omega, by omega⟩
end Go.Proofs.Ytgechpchbenanac.ab

/-
  Functions as plain code (written by wip/abs/ir.py): lklaw11.alive;Q1.1+Q3.10+Q3.19+Q3.24, lklaw11.LookBound, lklaw11.LookKnows.
-/
namespace Go.Proofs.Ytgechpchbenanac.ab
set_option linter.unusedSimpArgs false
set_option linter.unusedSimpArgs false
set_option linter.unusedVariables false
set_option maxRecDepth 100000
open Go Go.RowKit

def w11_alive_r0 : IC := cReg Try.prog [
    ⟨some 0, none, iMov 0 (.const (.bool false)) true⟩] [] []
def w11_alive_r1_0 : IC := cReg Try.prog [
    ⟨some 4, none, iMkS 4 6 80 (aD [zI, zI, zI, zI, zS, zS]) (.const (.int .i64 1)) (.const (.int .i64 1))⟩] [4] []
def w11_alive_r1_1 : IC := cReg Try.prog [
    ⟨some 5, none, iBld 5 [zS, zI, zI, zI, zI, zS, zI] [(1, 1), (5, 1)] [(.const (.int .i64 2)), (.tmp 4)]⟩,
    ⟨some 6, none, iBld 6 [zS, zI, zI, zI, zI, zS, zI, zI, zS, zI, zI, zI, zS, zS, zF, zS, zS] [(0, 7)] [(.tmp 5)]⟩,
    ⟨some 1, none, iAlo 1 [zS, zI, zI, zI, zI, zS, zI, zI, zS, zI, zI, zI, zS, zS, zF, zS, zS]⟩,
    xS 17 1 6] [1] [1]
def w11_alive_r1 : IC := (cSeq w11_alive_r1_0 w11_alive_r1_1)
def w11_alive_r2 : IC := cReg Try.prog [
    xA 8 17 1,
    xV1 9 23 8,
    xM 7 9,
    xE 10 7 0,
    xE 11 7 1,
    xT 2 10,
    xT 3 11] [1, 2, 3] [1]
def w11_alive_r3_0 : IC := cReg Try.prog [
    ⟨some 12, none, iBld 12 [zS, zI, zI, zI, zI, zS, zI, zI, zS, zI, zI, zI, zS, zS, zF, zS, zS] [] []⟩,
    xV1 13 24 12,
    xM 14 13,
    xG 14 true (xA 15 17 1),
    xG 14 true (xV1 16 24 15),
    xG 14 true (xO 17 16),
    xQ 18 14 17,
    xM 19 18,
    ⟨some 20, some (19, true), iBld 20 [zS, zI] [] []⟩,
    xG 19 true (xV1 21 26 20)] [1, 2, 3, 19, 21] [1]
def w11_alive_r3_1 : IC := cReg Try.prog [
    xQ 22 19 21,
    xM 23 22,
    xG 23 true (xA 24 17 1),
    xG 23 true (xR 25 51 17 24),
    ⟨some 26, some (23, true), iBld 26 [zS, zI] [(0, 1)] [(.tmp 25)]⟩,
    xG 23 true (xV1 27 26 26),
    xG 23 true (xO 28 27),
    xQ 29 23 28,
    xM 30 29] [1, 2, 3, 30] [1]
def w11_alive_r3_2 : IC := cReg Try.prog [
    xG 30 true (xA 31 17 1),
    xG 30 true (xV1 32 25 31),
    xQ 33 30 32,
    xM 34 33,
    ⟨some 35, some (34, true), iMkS 35 1 24 (zS) (.const (.int .i64 99)) (.const (.int .i64 99))⟩] [2, 3, 34, 35] []
def w11_alive_r3_3 : IC := cReg Try.prog [
    ⟨some 36, some (34, true), iBld 36 [zS, zI, zI, zI, zI, zS, zI, zI, zS, zI, zI, zI, zS, zS, zF, zS, zS] [(15, 1)] [(.tmp 35)]⟩,
    xG 34 true (xV1 37 25 36),
    xG 34 true (xO 38 37),
    xQ 39 34 38,
    xM 40 39,
    xG 40 true (xM 41 2),
    xG 40 true (xC 42 .eql 41 2),
    xQ 43 40 42,
    xM 44 43,
    xG 44 true (xM 45 3),
    xG 44 true (xC 46 .eql 45 0),
    xQ 47 44 46,
    xT 0 47] [0] []
def w11_alive_r3 : IC := (cSeq w11_alive_r3_0 (cSeq w11_alive_r3_1 (cSeq w11_alive_r3_2 w11_alive_r3_3)))
def w11_alive : IC := (cSeq w11_alive_r0 (cSeq w11_alive_r1 (cSeq w11_alive_r2 (cSeq w11_alive_r3 cRet))))
theorem told_w11_alive {args r : List D} (hl : args.length = 0) (h : w11_alive (start args) (fin [(0, none)] r)) : Told Try.prog 28 args r :=
  told_of follows Try.func28 rfl (an := [([], [], [], []), ([(1, [4], [])], [1], [1], []), ([], [1, 2, 3], [1], []), ([(10, [1, 2, 3, 19, 21], [1]), (9, [1, 2, 3, 30], [1]), (5, [2, 3, 34, 35], [])], [0], [], [])]) (by kernel_rfl) (by kernel_rfl) (by rw [hl]; decide +kernel) h

def w11_LookBound_r0 : IC := cReg Try.prog [
    ⟨some 4, none, iMov 4 (.const (.bool false)) true⟩] [0, 1] []
def w11_LookBound_r1 : IC := cReg Try.prog [
    ⟨some 9, none, iCall 9 28 []⟩,
    xO 10 9] [0, 1, 10] []
def w11_LookBound_r2 : IC := cReg Try.prog [
    ⟨some 4, none, iMov 4 (.const (.bool false)) true⟩] [4] []
def w11_LookBound_c1a : IC := (cSeq w11_LookBound_r2 cRet)
def w11_LookBound_c1 : IC := cCond (.tmp 10) w11_LookBound_c1a cSkip
def w11_LookBound_r3 : IC := cReg Try.prog [
    xM 11 0,
    xC 12 .lss 11 1,
    xM 13 12,
    xG 13 false (xM 14 0),
    xG 13 false (xC 15 .gtr 14 3),
    xP 16 13 15] [0, 1, 16] []
def w11_LookBound_r4 : IC := cReg Try.prog [
    ⟨some 4, none, iMov 4 (.const (.bool true)) true⟩] [4] []
def w11_LookBound_c2a : IC := (cSeq w11_LookBound_r4 cRet)
def w11_LookBound_c2 : IC := cCond (.tmp 16) w11_LookBound_c2a cSkip
def w11_LookBound_r5 : IC := cReg Try.prog [
    xM 18 0,
    xM 19 1,
    xV2 20 12 18 19,
    xM 17 20,
    xE 21 17 0,
    xE 22 17 1,
    ⟨some 5, none, iAlo 5 [zS, zI]⟩,
    xS 2 5 21,
    xT 6 22] [5] [5]
def w11_LookBound_r6 : IC := cReg Try.prog [
    xF 23 0 5,
    xL 24 1 23,
    xN 25 24,
    ⟨some 26, none, iMov 26 (.const (.int .i64 0)) false⟩] [24, 25, 26] []
def w11_LookBound_r7 : IC := cReg Try.prog [
    xB 27 .lss 26 25] [24, 25, 26, 27] []
def w11_LookBound_c5 : IC := cCond (.tmp 27) cSkip (cExit 0)
def w11_LookBound_r8 : IC := cReg Try.prog [
    xI 28 17 24 26,
    xA 29 17 28,
    ⟨some 8, none, iAlo 8 [zS, zI, zI, zI, zI, zS, zI, zI, zS, zI, zI, zI, zS, zS, zF, zS, zS]⟩,
    xS 17 8 29] [8, 24, 25, 26] [8]
def w11_LookBound_r9_0 : IC := cReg Try.prog [
    xA 30 17 8,
    xV1 31 25 30,
    xO 32 31,
    xM 33 32,
    xG 33 false (xF 34 0 8),
    xG 33 false (xF 35 0 34),
    xG 33 false (xL 36 1 35),
    xG 33 false (xN 37 36),
    xG 33 false (xC 38 .gtr 37 6),
    xP 39 33 38] [8, 24, 25, 26, 39] [8]
def w11_LookBound_r9_1 : IC := cReg Try.prog [
    xM 40 39,
    xG 40 false (xF 41 0 8),
    xG 40 false (xF 42 5 41),
    xG 40 false (xL 43 1 42),
    xG 40 false (xN 44 43),
    xG 40 false (xC 45 .gtr 44 4),
    xP 46 40 45,
    xM 47 46,
    xG 47 false (xF 48 15 8),
    xG 47 false (xL 49 1 48)] [8, 24, 25, 26, 47, 49] [8]
def w11_LookBound_r9_2 : IC := cReg Try.prog [
    xG 47 false (xN 50 49),
    xG 47 false (xC 51 .gtr 50 6),
    xP 52 47 51,
    xM 53 52,
    xG 53 false (xF 54 16 8),
    xG 53 false (xL 55 1 54),
    xG 53 false (xN 56 55),
    xG 53 false (xC 57 .gtr 56 6),
    xP 58 53 57,
    xM 59 58] [8, 24, 25, 26, 59] [8]
def w11_LookBound_r9_3 : IC := cReg Try.prog [
    xG 59 false (xF 60 7 8),
    xG 59 false (xF 61 1 60),
    xG 59 false (xL 62 1 61),
    xG 59 false (xN 63 62),
    xG 59 false (xC 64 .gtr 63 3),
    xP 65 59 64] [24, 25, 26, 65] []
def w11_LookBound_r9 : IC := (cSeq w11_LookBound_r9_0 (cSeq w11_LookBound_r9_1 (cSeq w11_LookBound_r9_2 w11_LookBound_r9_3)))
def w11_LookBound_r10 : IC := cReg Try.prog [
    ⟨some 4, none, iMov 4 (.const (.bool false)) true⟩] [4] []
def w11_LookBound_c7a : IC := (cSeq w11_LookBound_r10 cRet)
def w11_LookBound_c7 : IC := cCond (.tmp 65) w11_LookBound_c7a cSkip
def w11_LookBound_b6 : IC := cBlock 1 (cSeq w11_LookBound_r8 (cSeq w11_LookBound_r9 w11_LookBound_c7))
def w11_LookBound_r11 : IC := cReg Try.prog [
    xC 66 .add 26 1,
    xM 26 66] [24, 25, 26] []
def w11_LookBound_l4a : IC := (cSeq w11_LookBound_r7 (cSeq w11_LookBound_c5 (cSeq w11_LookBound_b6 w11_LookBound_r11)))
def w11_LookBound_l4 : IC := cLoop w11_LookBound_l4a
def w11_LookBound_b3 : IC := cBlock 0 w11_LookBound_l4
def w11_LookBound_r12 : IC := cReg Try.prog [
    ⟨some 4, none, iMov 4 (.const (.bool true)) true⟩] [4] []
def w11_LookBound : IC := (cSeq w11_LookBound_r0 (cSeq (cSeq w11_LookBound_r1 w11_LookBound_c1) (cSeq (cSeq w11_LookBound_r3 w11_LookBound_c2) (cSeq w11_LookBound_r5 (cSeq (cSeq w11_LookBound_r6 w11_LookBound_b3) (cSeq w11_LookBound_r12 cRet))))))
theorem told_w11_LookBound {args r : List D} (hl : args.length = 2) (h : w11_LookBound (start args) (fin [(4, none)] r)) : Told Try.prog 9 args r :=
  told_of follows Try.func9 rfl (an := [([], [0, 1], [], []), ([], [0, 1, 10], [], []), ([], [4], [], []), ([], [0, 1, 16], [], []), ([], [4], [], []), ([], [5], [5], []), ([], [24, 25, 26], [], []), ([], [24, 25, 26, 27], [], []), ([], [8, 24, 25, 26], [8], []), ([(10, [8, 24, 25, 26, 39], [8]), (10, [8, 24, 25, 26, 47, 49], [8]), (10, [8, 24, 25, 26, 59], [8])], [24, 25, 26, 65], [], []), ([], [4], [], []), ([], [24, 25, 26], [], []), ([], [4], [], [])]) (by kernel_rfl) (by kernel_rfl) (by rw [hl]; decide +kernel) h

end Go.Proofs.Ytgechpchbenanac.ab
