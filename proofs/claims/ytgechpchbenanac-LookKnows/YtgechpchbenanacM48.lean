/-
  Several texts in one.
-/
import Derived.Test.YtgechpchbenanacM47
import Derived.Test.YtgechpchbenanacM44
import Derived.Test.YtgechpchbenanacM26
import Derived.Test.YtgechpchbenanacProg

/-
  Plain mathematics: rounds of a world. Nothing of the program.
-/
namespace Go.Proofs.Ytgechpchbenanac.mth
set_option linter.unusedSimpArgs false
set_option linter.unusedVariables false
/-! ### Worlds nothing of which was spoilt -/
theorem KInv.lane {p : List Ms} {l : Ln} (h : KInv p l) (s : Sp) (h6 : s.kind ≠ 6) : KInv (p ++ (if (laneW l s).2 = 0 ∧ s.kind = 2 then [s.msg] else [])) (laneW l s).1 := by
  unfold laneW
  by_cases h1 : s.kind = 1
  · rw [if_pos h1, if_neg (by omega), List.append_nil]
    exact h.speak
  rw [if_neg h1]
  by_cases h2 : s.kind = 2
  · rw [if_pos h2]
    have := h.put s.msg
    by_cases he : putE l.s s.msg = 0
    · rw [if_pos he] at this
      rw [if_pos ⟨he, h2⟩]
      exact this
    · rw [if_neg he] at this
      rw [if_neg (fun w => he w.1), List.append_nil]
      exact this
  · rw [if_neg h2, if_neg (fun w => h2 w.2), List.append_nil]
    exact h.packet _ _ _ _ h6
def WKnow (p : Int → List Ms) (w : Wd) : Prop := ∀ (j : Nat) (x : Ln), w.lanes[j]? = some x → KInv (p j) x
theorem wknow_new (n : Nat) : WKnow (fun _ => []) (newW n) := fun j x hx => by
  have : x ∈ (newW n).lanes := List.mem_of_getElem? hx
  rw [(List.mem_replicate.1 this).2]
  exact kinv_zero
theorem WKnow.step {p : Int → List Ms} {w : Wd} (h : WKnow p w) (s : Sp) (h6 : s.kind ≠ 6) : WKnow (fun t => p t ++ (if (doW w s).2 = 0 ∧ s.kind = 2 ∧ s.tenant = t then [s.msg] else [])) (doW w s).1 := by
  unfold doW
  split
  · intro j x hx
    simp only
    rw [if_neg (by simp), List.append_nil]
    exact h j x hx
  split
  · intro j x hx
    simp only
    rw [if_neg (by simp), List.append_nil]
    exact h j x hx
  · rename_i h1 h2
    intro j x hx
    simp only at hx ⊢
    have hlt : (whoW w s).toNat < w.lanes.length := by omega
    have hg : w.lanes.getD (whoW w s).toNat zeroL = w.lanes[(whoW w s).toNat] := by rw [List.getD_eq_getElem?_getD, List.getElem?_eq_getElem hlt, Option.getD_some]
    rw [hg] at hx ⊢
    have hl := h (whoW w s).toNat _ (List.getElem?_eq_getElem hlt)
    by_cases hj : (whoW w s).toNat = j
    · subst hj
      rw [List.getElem?_set_self (by omega)] at hx
      cases hx
      have := hl.lane s h6
      by_cases hk : (laneW w.lanes[(whoW w s).toNat] s).2 = 0 ∧ s.kind = 2
      · have ht : s.tenant = ((whoW w s).toNat : Int) := by
          have : whoW w s = s.tenant := by unfold whoW; rw [if_neg (by omega)]
          omega
        rw [if_pos hk] at this
        rw [if_pos ⟨hk.1, hk.2, ht⟩]
        exact this
      · rw [if_neg hk] at this
        rw [if_neg (fun w => hk ⟨w.1, w.2.1⟩)]
        exact this
    · rw [List.getElem?_set_ne hj] at hx
      rw [if_neg, List.append_nil]
      · exact h j x hx
      · rintro ⟨w1, w2, w3⟩
        have : whoW w s = s.tenant := by unfold whoW; rw [if_neg (by omega)]
        omega
theorem wknow_run (n : Nat) (l : List Sp) (hs : ∀ s ∈ l, s.kind ≠ 6) : ∀ k, k ≤ l.length → WKnow (fun t => putsW (l.take k) (runW (newW n) (l.take k)).2 t) (runW (newW n) (l.take k)).1 := by
  intro k
  induction k with
  | zero => intro _; exact wknow_new n
  | succ k ih =>
    intro hk
    have hi := ih (by omega)
    have hlen := run_len (newW n) l k (by omega)
    rw [List.take_add_one, List.getElem?_eq_getElem (by omega), Option.toList_some]
    have hst := hi.step l[k] (hs _ (List.getElem_mem (by omega)))
    rw [runW_snoc]
    intro j x hx
    have := hst j x hx
    simp only
    rw [putsW_snoc (by rw [hlen, List.length_take]; omega)]
    exact this
theorem idle_iff {l : Ln} : idleL l = true ↔ l.s.queue = [] ∧ l.s.flight = [] := by
  unfold idleL
  rw [Bool.and_eq_true, List.isEmpty_iff, List.isEmpty_iff]
/-! ### Rounds -/
def drainW (w : Wd) : Wd := ⟨w.lanes.map drainL, w.ticks⟩
def stillW (w : Wd) : Bool := w.lanes.all idleL
theorem GoodL.there_all : ∀ (q : List (List UInt8)) {l : Ln}, GoodL l → l.there = q → GoodL { l with r := q.foldl hearP l.r, there := [] }
  | [], l, h, e => by
    obtain ⟨s, r, t, b⟩ := l
    simp only at e
    subst e
    exact h
  | x :: q, l, h, e => by
    have h1 := h.come 0 false
    rw [come_there e] at h1
    exact GoodL.there_all q h1 rfl
theorem GoodL.back_all : ∀ (q : List (List UInt8)) {l : Ln}, GoodL l → l.back = q → GoodL { l with s := q.foldl hearQ l.s, back := [] }
  | [], l, h, e => by
    obtain ⟨s, r, t, b⟩ := l
    simp only at e
    subst e
    exact h
  | x :: q, l, h, e => by
    have h1 := h.come 0 true
    rw [come_back e] at h1
    exact GoodL.back_all q h1 rfl
theorem GoodL.drain {l : Ln} (h : GoodL l) : GoodL (drainL l) := GoodL.back_all l.back (GoodL.there_all l.there h rfl) rfl
theorem GoodW.drain {w : Wd} (h : GoodW w) : GoodW (drainW w) := ⟨by simpa [drainW] using h.n, h.t, fun l hl => by
  obtain ⟨x, hx, e⟩ := List.mem_map.1 hl
  rw [← e]; exact (h.l x hx).drain⟩
end Go.Proofs.Ytgechpchbenanac.mth

/-
  What the functions of package look are held to.
-/
namespace Go.Proofs.Ytgechpchbenanac.ab
set_option linter.unusedVariables false
set_option linter.unusedSimpArgs false
open Go Go.RowKit
open mth

/-- No list of it is too long to be counted. -/
structure SmallN (l : Ln) : Prop where
  q : l.s.queue.length ≤ 1048576
  f : l.s.flight.length ≤ 1048576
  e : l.r.early.length ≤ 1048576
  h : l.r.hold.length ≤ 1048576
  t : l.r.told.length ≤ 1048576
  th : l.there.length ≤ 1048576
  b : l.back.length ≤ 1048576
def withinL (l : Ln) : Bool := decide (l.s.queue.length ≤ 6 ∧ l.s.flight.length ≤ 4 ∧ l.s.next ≤ 40 ∧ l.r.early.length ≤ 3 ∧ l.r.told.length + l.r.hold.length ≤ 40 ∧ l.there.length ≤ 6 ∧ l.back.length ≤ 6)
def CKIdle (f : Nat) : Prop := ∀ l, SmallN l → Told Try.prog f [aD (encLn l)] [vB (idleL l)]
def CKWithin (f : Nat) : Prop := ∀ l, SmallN l → Told Try.prog f [aD (encLn l)] [vB (withinL l)]
def CKSent (f : Nat) : Prop := ∀ l, SmallN l → Told Try.prog f [aD (encLn l)] [vI l.s.next, vI l.r.told.length]
def CKStill (f : Nat) : Prop := ∀ w : Wd, w.lanes.length ≤ 1048576 → (∀ l ∈ w.lanes, SmallN l) → Told Try.prog f [aD (encWd w)] [vB (stillW w)]
theorem good_smallN {l : Ln} (h : GoodL l) : SmallN l := by
  have h1 := good_sizes h.r
  have h4 := h.s.q
  have h5 := h.s.f
  have h6 := h.t
  have h7 := h.b
  exact ⟨by omega, by omega, by omega, by omega, by omega, by omega, by omega⟩
end Go.Proofs.Ytgechpchbenanac.ab

/-
  Functions as plain code (written by wip/abs/ir.py): lklaw11.alive;Q1.1+Q3.10+Q3.19+Q3.24, lklaw11.LookBound, lklaw11.LookKnows.
-/
namespace Go.Proofs.Ytgechpchbenanac.ab
set_option linter.unusedSimpArgs false
set_option linter.unusedSimpArgs false
set_option linter.unusedVariables false
set_option maxRecDepth 100000
open Go Go.RowKit

def w11_alive_r0 : IC := cReg Try.prog [
    ⟨some 0, none, iMov 0 (.const (.bool false)) true⟩] [] []
def w11_alive_r1_0 : IC := cReg Try.prog [
    ⟨some 4, none, iMkS 4 6 80 (aD [zI, zI, zI, zI, zS, zS]) (.const (.int .i64 1)) (.const (.int .i64 1))⟩] [4] []
def w11_alive_r1_1 : IC := cReg Try.prog [
    ⟨some 5, none, iBld 5 [zS, zI, zI, zI, zI, zS, zI] [(1, 1), (5, 1)] [(.const (.int .i64 2)), (.tmp 4)]⟩,
    ⟨some 6, none, iBld 6 [zS, zI, zI, zI, zI, zS, zI, zI, zS, zI, zI, zI, zS, zS, zF, zS, zS] [(0, 7)] [(.tmp 5)]⟩,
    ⟨some 1, none, iAlo 1 [zS, zI, zI, zI, zI, zS, zI, zI, zS, zI, zI, zI, zS, zS, zF, zS, zS]⟩,
    xS 17 1 6] [1] [1]
def w11_alive_r1 : IC := (cSeq w11_alive_r1_0 w11_alive_r1_1)
def w11_alive_r2 : IC := cReg Try.prog [
    xA 8 17 1,
    xV1 9 23 8,
    xM 7 9,
    xE 10 7 0,
    xE 11 7 1,
    xT 2 10,
    xT 3 11] [1, 2, 3] [1]
def w11_alive_r3_0 : IC := cReg Try.prog [
    ⟨some 12, none, iBld 12 [zS, zI, zI, zI, zI, zS, zI, zI, zS, zI, zI, zI, zS, zS, zF, zS, zS] [] []⟩,
    xV1 13 24 12,
    xM 14 13,
    xG 14 true (xA 15 17 1),
    xG 14 true (xV1 16 24 15),
    xG 14 true (xO 17 16),
    xQ 18 14 17,
    xM 19 18,
    ⟨some 20, some (19, true), iBld 20 [zS, zI] [] []⟩,
    xG 19 true (xV1 21 26 20)] [1, 2, 3, 19, 21] [1]
def w11_alive_r3_1 : IC := cReg Try.prog [
    xQ 22 19 21,
    xM 23 22,
    xG 23 true (xA 24 17 1),
    xG 23 true (xR 25 51 17 24),
    ⟨some 26, some (23, true), iBld 26 [zS, zI] [(0, 1)] [(.tmp 25)]⟩,
    xG 23 true (xV1 27 26 26),
    xG 23 true (xO 28 27),
    xQ 29 23 28,
    xM 30 29] [1, 2, 3, 30] [1]
def w11_alive_r3_2 : IC := cReg Try.prog [
    xG 30 true (xA 31 17 1),
    xG 30 true (xV1 32 25 31),
    xQ 33 30 32,
    xM 34 33,
    ⟨some 35, some (34, true), iMkS 35 1 24 (zS) (.const (.int .i64 99)) (.const (.int .i64 99))⟩] [2, 3, 34, 35] []
def w11_alive_r3_3 : IC := cReg Try.prog [
    ⟨some 36, some (34, true), iBld 36 [zS, zI, zI, zI, zI, zS, zI, zI, zS, zI, zI, zI, zS, zS, zF, zS, zS] [(15, 1)] [(.tmp 35)]⟩,
    xG 34 true (xV1 37 25 36),
    xG 34 true (xO 38 37),
    xQ 39 34 38,
    xM 40 39,
    xG 40 true (xM 41 2),
    xG 40 true (xC 42 .eql 41 2),
    xQ 43 40 42,
    xM 44 43,
    xG 44 true (xM 45 3),
    xG 44 true (xC 46 .eql 45 0),
    xQ 47 44 46,
    xT 0 47] [0] []
def w11_alive_r3 : IC := (cSeq w11_alive_r3_0 (cSeq w11_alive_r3_1 (cSeq w11_alive_r3_2 w11_alive_r3_3)))
def w11_alive : IC := (cSeq w11_alive_r0 (cSeq w11_alive_r1 (cSeq w11_alive_r2 (cSeq w11_alive_r3 cRet))))
theorem told_w11_alive {args r : List D} (hl : args.length = 0) (h : w11_alive (start args) (fin [(0, none)] r)) : Told Try.prog 28 args r :=
  told_of follows Try.func28 rfl (an := [([], [], [], []), ([(1, [4], [])], [1], [1], []), ([], [1, 2, 3], [1], []), ([(10, [1, 2, 3, 19, 21], [1]), (9, [1, 2, 3, 30], [1]), (5, [2, 3, 34, 35], [])], [0], [], [])]) (by kernel_rfl) (by kernel_rfl) (by rw [hl]; decide +kernel) h

def w11_LookKnows_r0 : IC := cReg Try.prog [
    ⟨some 4, none, iMov 4 (.const (.bool false)) true⟩] [0, 1] []
def w11_LookKnows_r1 : IC := cReg Try.prog [
    ⟨some 13, none, iCall 13 28 []⟩,
    xO 14 13] [0, 1, 14] []
def w11_LookKnows_r2 : IC := cReg Try.prog [
    ⟨some 4, none, iMov 4 (.const (.bool false)) true⟩] [4] []
def w11_LookKnows_c1a : IC := (cSeq w11_LookKnows_r2 cRet)
def w11_LookKnows_c1 : IC := cCond (.tmp 14) w11_LookKnows_c1a cSkip
def w11_LookKnows_r3 : IC := cReg Try.prog [
    xM 15 1,
    xN 16 15,
    ⟨some 17, none, iMov 17 (.const (.int .i64 0)) false⟩] [0, 1, 15, 16, 17] []
def w11_LookKnows_r4 : IC := cReg Try.prog [
    xB 18 .lss 17 16] [0, 1, 15, 16, 17, 18] []
def w11_LookKnows_c4 : IC := cCond (.tmp 18) cSkip (cExit 0)
def w11_LookKnows_r5 : IC := cReg Try.prog [
    xI 19 7 15 17,
    xA 20 7 19,
    ⟨some 6, none, iAlo 6 [zI, zI, zI, zI, zF, zI, zS]⟩,
    xS 7 6 20] [0, 1, 6, 15, 16, 17] [6]
def w11_LookKnows_r6 : IC := cReg Try.prog [
    xF 21 0 6,
    xL 22 1 21,
    xC 23 .eql 22 6] [0, 1, 15, 16, 17, 23] []
def w11_LookKnows_r7 : IC := cReg Try.prog [
    ⟨some 4, none, iMov 4 (.const (.bool true)) true⟩] [4] []
def w11_LookKnows_c6a : IC := (cSeq w11_LookKnows_r7 cRet)
def w11_LookKnows_c6 : IC := cCond (.tmp 23) w11_LookKnows_c6a cSkip
def w11_LookKnows_b5 : IC := cBlock 1 (cSeq w11_LookKnows_r5 (cSeq w11_LookKnows_r6 w11_LookKnows_c6))
def w11_LookKnows_r8 : IC := cReg Try.prog [
    xC 24 .add 17 1,
    xM 17 24] [0, 1, 15, 16, 17] []
def w11_LookKnows_l3a : IC := (cSeq w11_LookKnows_r4 (cSeq w11_LookKnows_c4 (cSeq w11_LookKnows_b5 w11_LookKnows_r8)))
def w11_LookKnows_l3 : IC := cLoop w11_LookKnows_l3a
def w11_LookKnows_b2 : IC := cBlock 0 w11_LookKnows_l3
def w11_LookKnows_r9 : IC := cReg Try.prog [
    xM 25 0,
    xC 26 .lss 25 1,
    xM 27 26,
    xG 27 false (xM 28 0),
    xG 27 false (xC 29 .gtr 28 3),
    xP 30 27 29] [0, 1, 30] []
def w11_LookKnows_r10 : IC := cReg Try.prog [
    ⟨some 4, none, iMov 4 (.const (.bool true)) true⟩] [4] []
def w11_LookKnows_c7a : IC := (cSeq w11_LookKnows_r10 cRet)
def w11_LookKnows_c7 : IC := cCond (.tmp 30) w11_LookKnows_c7a cSkip
def w11_LookKnows_r11 : IC := cReg Try.prog [
    xM 32 0,
    xM 33 1,
    xV2 34 12 32 33,
    xM 31 34,
    xE 35 31 0,
    xE 36 31 1,
    ⟨some 7, none, iAlo 7 [zS, zI]⟩,
    xS 2 7 35,
    xT 8 36] [7] [7]
def w11_LookKnows_r12 : IC := cReg Try.prog [
    xF 37 0 7,
    xL 38 1 37,
    xN 39 38,
    ⟨some 40, none, iMov 40 (.const (.int .i64 0)) false⟩] [38, 39, 40] []
def w11_LookKnows_r13 : IC := cReg Try.prog [
    xB 41 .lss 40 39] [38, 39, 40, 41] []
def w11_LookKnows_c10 : IC := cCond (.tmp 41) cSkip (cExit 2)
def w11_LookKnows_r14 : IC := cReg Try.prog [
    xI 42 17 38 40,
    xA 43 17 42,
    ⟨some 10, none, iAlo 10 [zS, zI, zI, zI, zI, zS, zI, zI, zS, zI, zI, zI, zS, zS, zF, zS, zS]⟩,
    xS 17 10 43] [10, 38, 39, 40] [10]
def w11_LookKnows_r15 : IC := cReg Try.prog [
    xA 45 17 10,
    xV1 46 23 45,
    xM 44 46,
    xE 47 44 0,
    xE 48 44 1,
    xT 11 47,
    xT 12 48] [10, 11, 12, 38, 39, 40] [10]
def w11_LookKnows_r16 : IC := cReg Try.prog [
    xM 49 12,
    xM 50 11,
    xB 51 .gtr 49 50,
    xM 52 51,
    xG 52 false (xA 53 17 10),
    xG 52 false (xV1 54 24 53),
    xG 52 false (xM 55 54),
    xG 55 true (xM 56 11),
    xG 55 true (xM 57 12),
    xG 55 true (xB 58 .neq 56 57),
    xG 52 false (xQ 59 55 58),
    xP 60 52 59] [38, 39, 40, 60] []
def w11_LookKnows_r17 : IC := cReg Try.prog [
    ⟨some 4, none, iMov 4 (.const (.bool false)) true⟩] [4] []
def w11_LookKnows_c12a : IC := (cSeq w11_LookKnows_r17 cRet)
def w11_LookKnows_c12 : IC := cCond (.tmp 60) w11_LookKnows_c12a cSkip
def w11_LookKnows_b11 : IC := cBlock 3 (cSeq w11_LookKnows_r14 (cSeq w11_LookKnows_r15 (cSeq w11_LookKnows_r16 w11_LookKnows_c12)))
def w11_LookKnows_r18 : IC := cReg Try.prog [
    xC 61 .add 40 1,
    xM 40 61] [38, 39, 40] []
def w11_LookKnows_l9a : IC := (cSeq w11_LookKnows_r13 (cSeq w11_LookKnows_c10 (cSeq w11_LookKnows_b11 w11_LookKnows_r18)))
def w11_LookKnows_l9 : IC := cLoop w11_LookKnows_l9a
def w11_LookKnows_b8 : IC := cBlock 2 w11_LookKnows_l9
def w11_LookKnows_r19 : IC := cReg Try.prog [
    ⟨some 4, none, iMov 4 (.const (.bool true)) true⟩] [4] []
def w11_LookKnows : IC := (cSeq w11_LookKnows_r0 (cSeq (cSeq w11_LookKnows_r1 w11_LookKnows_c1) (cSeq (cSeq w11_LookKnows_r3 w11_LookKnows_b2) (cSeq (cSeq w11_LookKnows_r9 w11_LookKnows_c7) (cSeq w11_LookKnows_r11 (cSeq (cSeq w11_LookKnows_r12 w11_LookKnows_b8) (cSeq w11_LookKnows_r19 cRet)))))))
theorem told_w11_LookKnows {args r : List D} (hl : args.length = 2) (h : w11_LookKnows (start args) (fin [(4, none)] r)) : Told Try.prog 10 args r :=
  told_of follows Try.func10 rfl (an := [([], [0, 1], [], []), ([], [0, 1, 14], [], []), ([], [4], [], []), ([], [0, 1, 15, 16, 17], [], []), ([], [0, 1, 15, 16, 17, 18], [], []), ([], [0, 1, 6, 15, 16, 17], [6], []), ([], [0, 1, 15, 16, 17, 23], [], []), ([], [4], [], []), ([], [0, 1, 15, 16, 17], [], []), ([], [0, 1, 30], [], []), ([], [4], [], []), ([], [7], [7], []), ([], [38, 39, 40], [], []), ([], [38, 39, 40, 41], [], []), ([], [10, 38, 39, 40], [10], []), ([], [10, 11, 12, 38, 39, 40], [10], []), ([], [38, 39, 40, 60], [], []), ([], [4], [], []), ([], [38, 39, 40], [], []), ([], [4], [], [])]) (by kernel_rfl) (by kernel_rfl) (by rw [hl]; decide +kernel) h

end Go.Proofs.Ytgechpchbenanac.ab
