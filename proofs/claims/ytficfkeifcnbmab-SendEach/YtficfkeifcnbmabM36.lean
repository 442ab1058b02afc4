/-
  Several texts in one.
-/
import Derived.Test.YtficfkeifcnbmabM29
import Derived.Test.YtficfkeifcnbmabM27
import Derived.Test.YtficfkeifcnbmabProg

/-
  Plain mathematics for senders: what a sender is that came of puts, sayings and answers. Nothing of the program.
-/
namespace Go.Proofs.Ytficfkeifcnbmab.mth
set_option linter.unusedVariables false

def zeroS : Sd := ⟨[], 0, 0, 0, 0, [], 0⟩
/-- A sender that came of puts, sayings and answers. -/
structure GoodS (s : Sd) : Prop where
  q : s.queue.length ≤ 6
  f : s.flight.length ≤ 4
  n : 0 ≤ s.next ∧ s.next + s.queue.length ≤ 40
  p : 0 ≤ s.p0 ∧ 0 ≤ s.p1 ∧ 0 ≤ s.p2 ∧ s.p0 + s.p1 + s.p2 = s.next
  t : 0 ≤ s.turn ∧ s.turn ≤ 4
  m : ∀ m ∈ s.queue, wrongMsgL m.stream m.data = 0
  c : ∀ c ∈ s.flight, c.kind = 1 ∧ wrongL c = 0 ∧ c.number < s.next
  r : s.flight.Pairwise (fun a b => a.number < b.number)
theorem good_zero : GoodS zeroS := ⟨by simp [zeroS], by simp [zeroS], by simp [zeroS], by simp [zeroS], by simp [zeroS], by simp [zeroS], by simp [zeroS], by simp [zeroS]⟩
theorem GoodS.put {s : Sd} (h : GoodS s) (m : Ms) : GoodS (putS s m) := by
  unfold putS
  split
  · rename_i he
    unfold putE at he
    split at he
    · rename_i hw; exact absurd he hw
    · rename_i hw
      split at he
      · cases he
      · rename_i hq
        split at he
        · cases he
        · rename_i hn
          refine ⟨by simp; omega, h.f, by have := h.n; simp; omega, h.p, h.t, fun x hx => ?_, h.c, h.r⟩
          rcases List.mem_append.1 hx with hx | hx
          · exact h.m x hx
          · simp at hx; subst hx; simpa using hw
  · exact h
theorem GoodS.hear {s : Sd} (h : GoodS s) (c : Ch) : GoodS (hearS s c) := by
  unfold hearS
  split
  · exact ⟨h.q, Nat.le_trans (List.length_filter_le _ _) h.f, h.n, h.p, h.t, h.m, fun x hx => h.c x (List.mem_filter.1 hx).1, h.r.filter _⟩
  · exact h
theorem right_ms {s : Int} {d : List UInt8} (h : wrongMsgL s d = 0) : (0 ≤ s ∧ s ≤ 2) ∧ d.length ≤ 6 := by
  unfold wrongMsgL at h
  split at h
  · cases h
  · split at h
    · cases h
    · omega
theorem placeOf_le {s : Sd} (h : GoodS s) (k : Int) : 0 ≤ placeOf s k ∧ placeOf s k ≤ s.next := by
  have := h.p
  unfold placeOf
  split
  · omega
  · split
    · omega
    · omega
theorem newC_right {s : Sd} {m : Ms} (h : GoodS s) (hm : wrongMsgL m.stream m.data = 0) (hn : s.next ≤ 39) : wrongL (newC s m) = 0 := by
  have hp := placeOf_le h m.stream
  have := h.n
  unfold newC
  rw [wrongL_one, if_neg (by omega), if_neg (by omega), if_neg (by simp), hm]
theorem againK_lt {s : Sd} (h : GoodS s) (hf : 0 < s.flight.length) : 0 ≤ againK s ∧ againK s < s.flight.length := by
  unfold againK
  exact ⟨Int.emod_nonneg _ (by omega), Int.emod_lt_of_pos _ (by omega)⟩
theorem GoodS.again {s : Sd} (h : GoodS s) (hf : 0 < s.flight.length) : GoodS { s with turn := againK s + 1 } := by
  have := againK_lt h hf
  have := h.f
  exact ⟨h.q, h.f, h.n, h.p, by simp only; omega, h.m, h.c, h.r⟩
theorem GoodS.new {s : Sd} {m : Ms} {r : List Ms} (h : GoodS s) (hq : s.queue = m :: r) (hf : s.flight.length ≤ 3) : GoodS (newS s m r) := by
  have h1 := h.q
  have h2 := h.n
  have h3 := h.p
  rw [hq] at h1 h2
  simp only [List.length_cons] at h1 h2
  have hm := h.m m (by rw [hq]; simp)
  have hs := (right_ms hm).1
  refine ⟨by simp only [newS]; omega, by simp only [newS, List.length_append, List.length_cons, List.length_nil]; omega, by simp only [newS]; omega, ?_, h.t, fun x hx => h.m x (by rw [hq]; exact List.mem_cons_of_mem _ hx), fun x hx => ?_, ?_⟩
  · simp only [newS]
    rcases (by omega : m.stream = 0 ∨ m.stream = 1 ∨ m.stream = 2) with e | e | e <;> simp only [e, if_true, Int.reduceEq, if_false] <;> omega
  · rcases List.mem_append.1 hx with hx | hx
    · have := h.c x hx
      exact ⟨this.1, this.2.1, by simp only [newS]; omega⟩
    · simp at hx
      subst hx
      exact ⟨rfl, newC_right h hm (by omega), by simp only [newS, newC]; omega⟩
  · refine List.pairwise_append.2 ⟨h.r, by simp, fun a ha b hb => ?_⟩
    simp at hb
    subst hb
    exact (h.c a ha).2.2
theorem GoodS.say {s : Sd} (h : GoodS s) : GoodS (sayL s).1 := by
  unfold sayL
  split
  · rename_i hq
    split
    · exact h
    · exact h.again (by omega)
  · rename_i m r hq
    split
    · exact h.again (by omega)
    · exact h.new hq (by omega)
def sayN : Nat → Sd → Sd
  | 0, s => s
  | n + 1, s => sayN n (sayL s).1
theorem sayN_succ : ∀ (n : Nat) (s : Sd), sayN (n + 1) s = (sayL (sayN n s)).1
  | 0, s => rfl
  | n + 1, s => by rw [sayN, sayN_succ n]; rfl
theorem GoodS.sayN {s : Sd} (h : GoodS s) : ∀ n, GoodS (sayN n s)
  | 0 => h
  | n + 1 => by rw [sayN_succ]; exact (GoodS.sayN h n).say
def stepB (s : Sd) (m : Ms) (d : Option Int) : Sd := match d with
  | none => putS s m
  | some d => if d < 0 then putS s m else if d < 50 then sayN (d.tmod 5).toNat (putS s m) else if d < 90 then hearS (putS s m) ⟨2, d - 50, 0, 0, [], []⟩ else putS s m
def buildS (l : List Ms) (does : List Int) : Nat → Sd
  | 0 => zeroS
  | k + 1 => match l[k]? with
    | some m => stepB (buildS l does k) m does[k]?
    | none => buildS l does k
theorem GoodS.stepB {s : Sd} (h : GoodS s) (m : Ms) (d : Option Int) : GoodS (stepB s m d) := by
  unfold mth.stepB
  split
  · exact h.put m
  · split
    · exact h.put m
    · split
      · exact (h.put m).sayN _
      · split
        · exact (h.put m).hear _
        · exact h.put m
theorem good_build (l : List Ms) (does : List Int) : ∀ k, GoodS (buildS l does k)
  | 0 => good_zero
  | k + 1 => by
    simp only [buildS]
    split
    · exact (good_build l does k).stepB _ _
    · exact good_build l does k
theorem GoodS.early {s : Sd} (h : GoodS s) : ∀ c ∈ s.flight, c.early = [] := by
  intro c hc
  obtain ⟨h1, h2, _⟩ := h.c c hc
  unfold wrongL at h2
  rw [if_neg (by omega)] at h2
  split at h2
  · cases h2
  · split at h2
    · cases h2
    · split at h2
      · cases h2
      · rename_i he; exact List.eq_nil_of_length_eq_zero (by omega)
end Go.Proofs.Ytficfkeifcnbmab.mth

/-
  Functions as plain code (written by wip/abs/ir.py): lklaw5.build, lklaw5.alive.
-/
namespace Go.Proofs.Ytficfkeifcnbmab.ab
set_option linter.unusedVariables false
set_option maxRecDepth 100000
open Go Go.RowKit

def w5_build_r0 : IC := cReg Try.prog [
    ⟨some 4, none, iAlo 4 [vD (.slice none 0 0), vD (.int .i64 0), vD (.int .i64 0), vD (.int .i64 0), vD (.int .i64 0), vD (.slice none 0 0), vD (.int .i64 0)]⟩] [0, 1, 4] [4]
def w5_build_r1 : IC := cReg Try.prog [
    ⟨some 5, none, iAlo 5 [vD (.slice none 0 0), vD (.int .i64 0), vD (.int .i64 0), vD (.int .i64 0), vD (.int .i64 0), vD (.slice none 0 0), vD (.int .i64 0)]⟩] [0, 1, 4, 5] [4, 5]
def w5_build_r2 : IC := cReg Try.prog [
    ⟨some 9, none, iMov 9 (.tmp 0) false⟩,
    ⟨some 10, none, iLen 10 false (.tmp 9)⟩,
    ⟨some 11, none, iMov 11 (.const (.int .i64 0)) false⟩] [1, 4, 5, 9, 10, 11] [4, 5]
def w5_build_r3 : IC := cReg Try.prog [
    ⟨some 12, none, iBin 12 .lss (.tmp 11) (.tmp 10)⟩] [1, 4, 5, 9, 10, 11, 12] [4, 5]
def w5_build_c3 : IC := cCond (.tmp 12) cSkip (cExit 0)
def w5_build_r4 : IC := cReg Try.prog [
    ⟨some 13, none, iMov 13 (.tmp 11) false⟩,
    ⟨some 14, none, iIaS 14 2 (.tmp 9) (.tmp 11)⟩,
    ⟨some 15, none, iLoad 15 2 true (.tmp 14) false⟩,
    ⟨some 7, none, iAlo 7 [vD (.int .i64 0), vD (.slice none 0 0)]⟩,
    ⟨some 6, none, iMov 6 (.tmp 13) true⟩,
    ⟨none, none, iStor 2 (.tmp 7) (.tmp 15)⟩] [1, 4, 5, 6, 7, 9, 10, 11] [4, 5, 7]
def w5_build_r5 : IC := cReg Try.prog [
    ⟨some 17, none, iLoad 17 7 true (.tmp 5) false⟩,
    ⟨some 18, none, iLoad 18 2 true (.tmp 7) false⟩,
    ⟨some 19, none, iCall 19 13 [(.tmp 17), (.tmp 18)]⟩,
    ⟨some 16, none, iMov 16 (.tmp 19) false⟩,
    ⟨some 20, none, iExt 20 (.tmp 16) 0⟩,
    ⟨some 21, none, iExt 21 (.tmp 16) 1⟩,
    ⟨none, none, iStor 7 (.tmp 5) (.tmp 20)⟩] [1, 4, 5, 6, 9, 10, 11] [4, 5]
def w5_build_r6 : IC := cReg Try.prog [
    ⟨some 22, none, iMov 22 (.tmp 6) false⟩,
    ⟨some 23, none, iMov 23 (.tmp 1) false⟩,
    ⟨some 24, none, iLen 24 false (.tmp 23)⟩,
    ⟨some 25, none, iBin 25 .lss (.tmp 22) (.tmp 24)⟩] [1, 4, 5, 6, 9, 10, 11, 25] [4, 5]
def w5_build_r7 : IC := cReg Try.prog [
    ⟨some 26, none, iMov 26 (.tmp 1) false⟩,
    ⟨some 27, none, iMov 27 (.tmp 6) false⟩,
    ⟨some 28, none, iIaS 28 1 (.tmp 26) (.tmp 27)⟩,
    ⟨some 29, none, iLoad 29 1 false (.tmp 28) false⟩,
    ⟨some 8, none, iMov 8 (.tmp 29) true⟩] [1, 4, 5, 8, 9, 10, 11] [4, 5]
def w5_build_r8 : IC := cReg Try.prog [
    ⟨some 31, none, iMov 31 (.tmp 8) false⟩,
    ⟨some 32, none, iBin 32 .lss (.tmp 31) (.const (.int .i64 0))⟩,
    ⟨some 30, none, iMov 30 (.tmp 32) true⟩] [1, 4, 5, 8, 9, 10, 11, 30] [4, 5]
def w5_build_r9 : IC := cReg Try.prog [
    ⟨some 34, none, iMov 34 (.tmp 8) false⟩,
    ⟨some 35, none, iBin 35 .lss (.tmp 34) (.const (.int .i64 50))⟩,
    ⟨some 33, none, iMov 33 (.tmp 35) true⟩] [1, 4, 5, 8, 9, 10, 11, 33] [4, 5]
def w5_build_r10 : IC := cReg Try.prog [
    ⟨some 36, none, iMov 36 (.tmp 8) false⟩,
    ⟨some 37, none, iBin 37 .rem (.tmp 36) (.const (.int .i64 5))⟩,
    ⟨some 38, none, iMov 38 (.const (.int .i64 0)) false⟩] [1, 4, 5, 9, 10, 11, 37, 38] [4, 5]
def w5_build_r11 : IC := cReg Try.prog [
    ⟨some 39, none, iBin 39 .lss (.tmp 38) (.tmp 37)⟩] [1, 4, 5, 9, 10, 11, 37, 38, 39] [4, 5]
def w5_build_c11 : IC := cCond (.tmp 39) cSkip (cExit 3)
def w5_build_r12 : IC := cReg Try.prog [
    ⟨some 41, none, iLoad 41 7 true (.tmp 5) false⟩,
    ⟨some 42, none, iCall 42 14 [(.tmp 41)]⟩,
    ⟨some 40, none, iMov 40 (.tmp 42) false⟩,
    ⟨some 43, none, iExt 43 (.tmp 40) 0⟩,
    ⟨some 44, none, iExt 44 (.tmp 40) 1⟩,
    ⟨some 45, none, iExt 45 (.tmp 40) 2⟩,
    ⟨none, none, iStor 7 (.tmp 5) (.tmp 43)⟩] [1, 4, 5, 9, 10, 11, 37, 38] [4, 5]
def w5_build_b12 : IC := cBlock 4 w5_build_r12
def w5_build_r13 : IC := cReg Try.prog [
    ⟨some 46, none, iBin 46 .add (.tmp 38) (.const (.int .i64 1))⟩,
    ⟨some 38, none, iMov 38 (.tmp 46) false⟩] [1, 4, 5, 9, 10, 11, 37, 38] [4, 5]
def w5_build_l10a : IC := (cSeq w5_build_r11 (cSeq w5_build_c11 (cSeq w5_build_b12 w5_build_r13)))
def w5_build_l10 : IC := cLoop w5_build_l10a
def w5_build_b9 : IC := cBlock 3 w5_build_l10
def w5_build_r14 : IC := cReg Try.prog [
    ⟨some 48, none, iMov 48 (.tmp 8) false⟩,
    ⟨some 49, none, iBin 49 .lss (.tmp 48) (.const (.int .i64 90))⟩,
    ⟨some 47, none, iMov 47 (.tmp 49) true⟩] [1, 4, 5, 8, 9, 10, 11, 47] [4, 5]
def w5_build_r15 : IC := cReg Try.prog [
    ⟨some 50, none, iLoad 50 7 true (.tmp 5) false⟩,
    ⟨some 51, none, iMov 51 (.tmp 8) false⟩,
    ⟨some 52, none, iBin 52 .sub (.tmp 51) (.const (.int .i64 50))⟩,
    ⟨some 53, none, iBld 53 [vD (.int .i64 0), vD (.int .i64 0), vD (.int .i64 0), vD (.int .i64 0), vD (.slice none 0 0), vD (.slice none 0 0)] [(0, 1), (1, 1)] [(.const (.int .i64 2)), (.tmp 52)]⟩,
    ⟨some 54, none, iCall 54 15 [(.tmp 50), (.tmp 53)]⟩,
    ⟨none, none, iStor 7 (.tmp 5) (.tmp 54)⟩] [1, 4, 5, 9, 10, 11] [4, 5]
def w5_build_c13 : IC := cCond (.tmp 47) w5_build_r15 cSkip
def w5_build_c8a : IC := (cSeq w5_build_r10 w5_build_b9)
def w5_build_c8b : IC := (cSeq w5_build_r14 w5_build_c13)
def w5_build_c8 : IC := cCond (.tmp 33) w5_build_c8a w5_build_c8b
def w5_build_c7b : IC := (cSeq w5_build_r9 w5_build_c8)
def w5_build_c7 : IC := cCond (.tmp 30) cSkip w5_build_c7b
def w5_build_b6 : IC := cBlock 2 (cSeq w5_build_r8 w5_build_c7)
def w5_build_c5a : IC := (cSeq w5_build_r7 w5_build_b6)
def w5_build_c5 : IC := cCond (.tmp 25) w5_build_c5a cSkip
def w5_build_b4 : IC := cBlock 1 (cSeq w5_build_r4 (cSeq w5_build_r5 (cSeq w5_build_r6 w5_build_c5)))
def w5_build_r16 : IC := cReg Try.prog [
    ⟨some 55, none, iBin 55 .add (.tmp 11) (.const (.int .i64 1))⟩,
    ⟨some 11, none, iMov 11 (.tmp 55) false⟩] [1, 4, 5, 9, 10, 11] [4, 5]
def w5_build_l2a : IC := (cSeq w5_build_r3 (cSeq w5_build_c3 (cSeq w5_build_b4 w5_build_r16)))
def w5_build_l2 : IC := cLoop w5_build_l2a
def w5_build_b1 : IC := cBlock 0 w5_build_l2
def w5_build_r17 : IC := cReg Try.prog [
    ⟨some 56, none, iLoad 56 7 true (.tmp 5) false⟩,
    ⟨none, none, iStor 7 (.tmp 4) (.tmp 56)⟩] [4] [4]
def w5_build : IC := (cSeq w5_build_r0 (cSeq w5_build_r1 (cSeq (cSeq w5_build_r2 w5_build_b1) (cSeq w5_build_r17 cRet))))
theorem told_w5_build {args r : List D} (hl : args.length = 2) (h : w5_build (start args) (fin [(4, some (7, true))] r)) : Told Try.prog 5 args r :=
  told_of follows Try.func5 rfl (an := [([], [0, 1, 4], [4], []), ([], [0, 1, 4, 5], [4, 5], []), ([], [1, 4, 5, 9, 10, 11], [4, 5], []), ([], [1, 4, 5, 9, 10, 11, 12], [4, 5], []), ([], [1, 4, 5, 6, 7, 9, 10, 11], [4, 5, 7], []), ([], [1, 4, 5, 6, 9, 10, 11], [4, 5], []), ([], [1, 4, 5, 6, 9, 10, 11, 25], [4, 5], []), ([], [1, 4, 5, 8, 9, 10, 11], [4, 5], []), ([], [1, 4, 5, 8, 9, 10, 11, 30], [4, 5], []), ([], [1, 4, 5, 8, 9, 10, 11, 33], [4, 5], []), ([], [1, 4, 5, 9, 10, 11, 37, 38], [4, 5], []), ([], [1, 4, 5, 9, 10, 11, 37, 38, 39], [4, 5], []), ([], [1, 4, 5, 9, 10, 11, 37, 38], [4, 5], []), ([], [1, 4, 5, 9, 10, 11, 37, 38], [4, 5], []), ([], [1, 4, 5, 8, 9, 10, 11, 47], [4, 5], []), ([], [1, 4, 5, 9, 10, 11], [4, 5], []), ([], [1, 4, 5, 9, 10, 11], [4, 5], []), ([], [4], [4], [])]) (by kernel_rfl) (by kernel_rfl) (by rw [hl]; decide +kernel) h

def w5_alive_r0 : IC := cReg Try.prog [
    ⟨some 0, none, iMov 0 (.const (.bool false)) true⟩] [] []
def w5_alive_r1 : IC := cReg Try.prog [
    ⟨some 11, none, iBld 11 [vD (.slice none 0 0), vD (.int .i64 0), vD (.int .i64 0), vD (.int .i64 0), vD (.int .i64 0), vD (.slice none 0 0), vD (.int .i64 0)] [] []⟩,
    ⟨some 12, none, iRow 12 5 1 [(.const (.int .u8 97))]⟩,
    ⟨some 13, none, iCst 13 12⟩,
    ⟨some 14, none, iBld 14 [vD (.int .i64 0), vD (.slice none 0 0)] [(0, 1), (1, 1)] [(.const (.int .i64 1)), (.tmp 13)]⟩,
    ⟨some 15, none, iCall 15 10 [(.tmp 11), (.tmp 14)]⟩,
    ⟨some 10, none, iMov 10 (.tmp 15) false⟩,
    ⟨some 16, none, iExt 16 (.tmp 10) 0⟩,
    ⟨some 17, none, iExt 17 (.tmp 10) 1⟩,
    ⟨some 1, none, iAlo 1 [vD (.slice none 0 0), vD (.int .i64 0), vD (.int .i64 0), vD (.int .i64 0), vD (.int .i64 0), vD (.slice none 0 0), vD (.int .i64 0)]⟩,
    ⟨none, none, iStor 7 (.tmp 1) (.tmp 16)⟩,
    ⟨some 2, none, iMov 2 (.tmp 17) true⟩] [1, 2] [1]
def w5_alive_r2 : IC := cReg Try.prog [
    ⟨some 19, none, iLoad 19 7 true (.tmp 1) false⟩,
    ⟨some 20, none, iCall 20 6 [(.tmp 19)]⟩,
    ⟨some 18, none, iMov 18 (.tmp 20) false⟩,
    ⟨some 21, none, iExt 21 (.tmp 18) 0⟩,
    ⟨some 22, none, iExt 22 (.tmp 18) 1⟩,
    ⟨some 23, none, iExt 23 (.tmp 18) 2⟩,
    ⟨some 3, none, iAlo 3 [vD (.slice none 0 0), vD (.int .i64 0), vD (.int .i64 0), vD (.int .i64 0), vD (.int .i64 0), vD (.slice none 0 0), vD (.int .i64 0)]⟩,
    ⟨some 4, none, iAlo 4 [vD (.int .i64 0), vD (.int .i64 0), vD (.int .i64 0), vD (.int .i64 0), vD (.slice none 0 0), vD (.slice none 0 0)]⟩,
    ⟨none, none, iStor 7 (.tmp 3) (.tmp 21)⟩,
    ⟨none, none, iStor 6 (.tmp 4) (.tmp 22)⟩,
    ⟨some 5, none, iMov 5 (.tmp 23) true⟩] [1, 2, 3, 4, 5] [1, 3, 4]
def w5_alive_r3 : IC := cReg Try.prog [
    ⟨some 25, none, iLoad 25 7 true (.tmp 3) false⟩,
    ⟨some 26, none, iCall 26 6 [(.tmp 25)]⟩,
    ⟨some 24, none, iMov 24 (.tmp 26) false⟩,
    ⟨some 27, none, iExt 27 (.tmp 24) 0⟩,
    ⟨some 28, none, iExt 28 (.tmp 24) 1⟩,
    ⟨some 29, none, iExt 29 (.tmp 24) 2⟩,
    ⟨some 6, none, iAlo 6 [vD (.slice none 0 0), vD (.int .i64 0), vD (.int .i64 0), vD (.int .i64 0), vD (.int .i64 0), vD (.slice none 0 0), vD (.int .i64 0)]⟩,
    ⟨some 7, none, iAlo 7 [vD (.int .i64 0), vD (.int .i64 0), vD (.int .i64 0), vD (.int .i64 0), vD (.slice none 0 0), vD (.slice none 0 0)]⟩,
    ⟨none, none, iStor 7 (.tmp 6) (.tmp 27)⟩,
    ⟨none, none, iStor 6 (.tmp 7) (.tmp 28)⟩,
    ⟨some 8, none, iMov 8 (.tmp 29) true⟩] [1, 2, 3, 4, 5, 6, 7, 8] [1, 3, 4, 6, 7]
def w5_alive_r4 : IC := cReg Try.prog [
    ⟨some 30, none, iLoad 30 7 true (.tmp 6) false⟩,
    ⟨some 31, none, iBld 31 [vD (.int .i64 0), vD (.int .i64 0), vD (.int .i64 0), vD (.int .i64 0), vD (.slice none 0 0), vD (.slice none 0 0)] [(0, 1), (1, 1)] [(.const (.int .i64 2)), (.const (.int .i64 1))]⟩,
    ⟨some 32, none, iCall 32 11 [(.tmp 30), (.tmp 31)]⟩,
    ⟨some 9, none, iAlo 9 [vD (.slice none 0 0), vD (.int .i64 0), vD (.int .i64 0), vD (.int .i64 0), vD (.int .i64 0), vD (.slice none 0 0), vD (.int .i64 0)]⟩,
    ⟨none, none, iStor 7 (.tmp 9) (.tmp 32)⟩] [1, 2, 3, 4, 5, 7, 8, 9] [1, 3, 4, 7, 9]
def w5_alive_r5_0 : IC := cReg Try.prog [
    ⟨some 33, none, iMov 33 (.tmp 2) false⟩,
    ⟨some 34, none, iBin 34 .eql (.tmp 33) (.const (.int .i64 0))⟩,
    ⟨some 35, none, iMov 35 (.tmp 34) false⟩,
    ⟨some 36, some (35, true), iMov 36 (.tmp 5) false⟩,
    ⟨some 37, none, iPick 37 (.tmp 35) (.tmp 36) (.const (.bool false))⟩,
    ⟨some 38, none, iMov 38 (.tmp 37) false⟩,
    ⟨some 39, some (38, true), iMov 39 (.tmp 8) false⟩,
    ⟨some 40, none, iPick 40 (.tmp 38) (.tmp 39) (.const (.bool false))⟩,
    ⟨some 41, none, iMov 41 (.tmp 40) false⟩,
    ⟨some 42, some (41, true), iFad 42 2 (.tmp 4)⟩] [1, 3, 4, 7, 9, 41, 42] [1, 3, 4, 7, 9]
def w5_alive_r5_1 : IC := cReg Try.prog [
    ⟨some 43, some (41, true), iLoad 43 1 false (.tmp 42) false⟩,
    ⟨some 44, some (41, true), iBin 44 .eql (.tmp 43) (.const (.int .i64 1))⟩,
    ⟨some 45, none, iPick 45 (.tmp 41) (.tmp 44) (.const (.bool false))⟩,
    ⟨some 46, none, iMov 46 (.tmp 45) false⟩,
    ⟨some 47, some (46, true), iLoad 47 6 true (.tmp 4) false⟩,
    ⟨some 48, some (46, true), iLoad 48 6 true (.tmp 7) false⟩,
    ⟨some 49, some (46, true), iCall 49 8 [(.tmp 47), (.tmp 48)]⟩,
    ⟨some 50, none, iPick 50 (.tmp 46) (.tmp 49) (.const (.bool false))⟩,
    ⟨some 51, none, iMov 51 (.tmp 50) false⟩,
    ⟨some 52, some (51, true), iFad 52 5 (.tmp 3)⟩] [1, 9, 51, 52] [1, 3, 9]
def w5_alive_r5_2 : IC := cReg Try.prog [
    ⟨some 53, some (51, true), iLoad 53 1 false (.tmp 52) false⟩,
    ⟨some 54, some (51, true), iLen 54 false (.tmp 53)⟩,
    ⟨some 55, some (51, true), iBin 55 .eql (.tmp 54) (.const (.int .i64 1))⟩,
    ⟨some 56, none, iPick 56 (.tmp 51) (.tmp 55) (.const (.bool false))⟩,
    ⟨some 57, none, iMov 57 (.tmp 56) false⟩,
    ⟨some 58, some (57, true), iFad 58 5 (.tmp 9)⟩,
    ⟨some 59, some (57, true), iLoad 59 1 false (.tmp 58) false⟩,
    ⟨some 60, some (57, true), iLen 60 false (.tmp 59)⟩,
    ⟨some 61, some (57, true), iBin 61 .eql (.tmp 60) (.const (.int .i64 0))⟩,
    ⟨some 62, none, iPick 62 (.tmp 57) (.tmp 61) (.const (.bool false))⟩] [1, 62] [1]
def w5_alive_r5_3 : IC := cReg Try.prog [
    ⟨some 63, none, iMov 63 (.tmp 62) false⟩,
    ⟨some 64, some (63, true), iLoad 64 7 true (.tmp 1) false⟩,
    ⟨some 65, some (63, true), iCall 65 12 [(.tmp 64)]⟩,
    ⟨some 66, some (63, true), iFld 66 0 1 false (.tmp 65)⟩,
    ⟨some 67, some (63, true), iLen 67 false (.tmp 66)⟩,
    ⟨some 68, some (63, true), iBin 68 .eql (.tmp 67) (.const (.int .i64 1))⟩,
    ⟨some 69, none, iPick 69 (.tmp 63) (.tmp 68) (.const (.bool false))⟩,
    ⟨some 0, none, iMov 0 (.tmp 69) true⟩] [0] []
def w5_alive_r5 : IC := (cSeq w5_alive_r5_0 (cSeq w5_alive_r5_1 (cSeq w5_alive_r5_2 w5_alive_r5_3)))
def w5_alive : IC := (cSeq w5_alive_r0 (cSeq w5_alive_r1 (cSeq w5_alive_r2 (cSeq w5_alive_r3 (cSeq w5_alive_r4 (cSeq w5_alive_r5 cRet))))))
theorem told_w5_alive {args r : List D} (hl : args.length = 0) (h : w5_alive (start args) (fin [(0, none)] r)) : Told Try.prog 4 args r :=
  told_of follows Try.func4 rfl (an := [([], [], [], []), ([], [1, 2], [1], []), ([], [1, 2, 3, 4, 5], [1, 3, 4], []), ([], [1, 2, 3, 4, 5, 6, 7, 8], [1, 3, 4, 6, 7], []), ([], [1, 2, 3, 4, 5, 7, 8, 9], [1, 3, 4, 7, 9], []), ([(10, [1, 3, 4, 7, 9, 41, 42], [1, 3, 4, 7, 9]), (10, [1, 9, 51, 52], [1, 3, 9]), (10, [1, 62], [1])], [0], [], [])]) (by kernel_rfl) (by kernel_rfl) (by rw [hl]; decide +kernel) h

end Go.Proofs.Ytficfkeifcnbmab.ab
