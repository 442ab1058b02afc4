/-
  Several texts in one.
-/
import Derived.Test.YtgechpchbenanacM40
import Derived.Test.YtgechpchbenanacM41
import Derived.Test.YtgechpchbenanacM39
import Derived.Test.YtgechpchbenanacM26
import Derived.Test.YtgechpchbenanacProg

/-
  What the answer's Packet tells: what is lost, what comes twice, what comes, and what there is not.
-/
namespace Go.Proofs.Ytgechpchbenanac.ab
set_option linter.unusedVariables false
set_option linter.unusedSimpArgs false
open Go Go.RowKit
open mth

set_option maxHeartbeats 4000000 in
theorem packet_none (l : Ln) (kind n at' : Int) (back : Bool) (h : n < 0 ∨ (wayP l back).length ≤ n) : Told Try.prog 45 [aD (encLn l), vI kind, vI n, vI at', vB back] [aD (encLn l), vI 6] := by
  refine told_r6_Packet rfl ?_
  have h1 := wayP_told l back
  generalize wayP l back = p at *
  by_cases hn : n < 0
  · simp only [encLn] at h1 ⊢
    refine wk0 ?_
    refine cg0 [[sD 1 (encPk p)]] ?_ ?_
    · exact obl_cons h1 obl_nil
    refine wk (an2 @hn @len_pk) ?_
    exact ValsLe.refl _
  · have g1 : (p.length : Int) ≤ n := by omega
    simp only [encLn] at h1 ⊢
    refine wk0 ?_
    refine cg0 [[sD 1 (encPk p)]] ?_ ?_
    · exact obl_cons h1 obl_nil
    refine wk (an3 @hn @g1 @len_pk) ?_
    exact ValsLe.refl _
set_option maxHeartbeats 4000000 in
theorem packet_lose (l : Ln) (n : Nat) (at' : Int) (back : Bool) (h : n < (wayP l back).length) (hp : (wayP l back).length ≤ 1048576) : Told Try.prog 45 [aD (encLn l), vI 4, vI n, vI at', vB back] [aD (encLn (withP l back (cutP (wayP l back) n))), vI 0] := by
  refine told_r6_Packet rfl ?_
  have h1 := wayP_told l back
  have h2 := without_told (wayP l back) n h hp
  have h3 := withP_told l back (cutP (wayP l back) n)
  generalize wayP l back = p at *
  generalize withP l back (cutP p n) = l' at *
  generalize cutP p n = q at *
  have g0 : ¬ (n : Int) < 0 := by omega
  have g1 : ¬ (p.length : Int) ≤ (n : Int) := by omega
  simp only [encLn] at h1 h3 ⊢
  refine wk0 ?_
  refine cg0 [[sD 1 (encPk p)]] ?_ ?_
  · exact obl_cons h1 obl_nil
  refine wk (an3 @g0 @g1 @len_pk) ?_
  refine cd [[sD 1 (encPk q)], [aD (encLn l')]] @encLn.eq_1 ?_ ?_
  · exact obl_cons h2 (obl_cons h3 obl_nil)
  refine wk0 ?_
  exact ValsLe.refl _
set_option maxHeartbeats 4000000 in
theorem packet_twice (l : Ln) (n : Nat) (at' : Int) (back : Bool) (x : List UInt8) (hx : (wayP l back)[n]? = some x) : Told Try.prog 45 [aD (encLn l), vI 5, vI n, vI at', vB back] [aD (encLn (withP l back (joinP (wayP l back) x))), vI 0] := by
  refine told_r6_Packet rfl ?_
  have h1 := wayP_told l back
  have h2 := putP_told (wayP l back) x
  have h3 := withP_told l back (joinP (wayP l back) x)
  have hlt : n < (wayP l back).length := (List.getElem?_eq_some_iff.1 hx).1
  generalize wayP l back = p at *
  generalize withP l back (joinP p x) = l' at *
  generalize joinP p x = q at *
  have g0 : ¬ (n : Int) < 0 := by omega
  have g1 : ¬ (p.length : Int) ≤ (n : Int) := by omega
  have g2 : (0 : Int) ≤ (n : Int) := by omega
  have g3 : (n : Int) < (p.length : Int) := by omega
  have g4 := at_pk hx
  simp only [encLn] at h1 h3 ⊢
  refine wk0 ?_
  refine cg0 [[sD 1 (encPk p)]] ?_ ?_
  · exact obl_cons h1 obl_nil
  refine wk (an7 @g0 @g1 @g2 @g3 @g4 @len_pk @Int.toNat_natCast) ?_
  refine cd [[sD 1 (encPk q)], [aD (encLn l')]] (an8 @encLn.eq_1 @g0 @g1 @g2 @g3 @g4 @len_pk @Int.toNat_natCast) ?_ ?_
  · exact obl_cons h2 (obl_cons h3 obl_nil)
  refine wk0 ?_
  exact ValsLe.refl _
set_option maxHeartbeats 8000000 in
theorem packet_come (l : Ln) (hg : GoodL l) (n : Nat) (at' : Int) (back : Bool) (x : List UInt8) (hx : (wayP l back)[n]? = some x) : Told Try.prog 45 [aD (encLn l), vI 3, vI n, vI at', vB back] [aD (encLn (comeL l n back)), vI 0] := by
  refine told_r6_Packet rfl ?_
  obtain ⟨w1, w2⟩ := hg.way back
  have hlt : n < (wayP l back).length := (List.getElem?_eq_some_iff.1 hx).1
  have hxl := w2 x (List.mem_of_getElem? hx)
  have h1 := wayP_told l back
  have h2 := without_told (wayP l back) n hlt (by omega)
  have h3 := withP_told l back (cutP (wayP l back) n)
  have h4 := refRead_told x (by omega)
  obtain ⟨k1, k2⟩ := cutP_ok n w1 w2
  have hg' := hg.with back k1 k2
  have hr := readC_right (xs := x)
  have e0 : (wayP l back).getD n [] = x := by rw [List.getD_eq_getElem?_getD, hx]; rfl
  unfold comeL
  simp only [e0]
  have g0 : ¬ (n : Int) < 0 := by omega
  have g1 : ¬ ((wayP l back).length : Int) ≤ (n : Int) := by omega
  have g2 : (0 : Int) ≤ (n : Int) := by omega
  have g3 : (n : Int) < ((wayP l back).length : Int) := by omega
  have g4 := at_pk hx
  generalize wayP l back = p at *
  generalize withP l back (cutP p n) = l' at *
  generalize cutP p n = q at *
  by_cases hE : readE x = 0
  · have e1 : (readE x == 0) = true := by simpa using hE
    have hc := hr hE
    rw [if_pos hE]
    have hec : (readC x).early.length ≤ 9223372036854775807 := by
      rcases right_cases _ hc with ⟨_, _, _, _, _, q⟩ | ⟨_, _, _, _, _, q, _⟩
      · rw [q]; simp
      · omega
    have h5 := hear_told l'.s (readC x) (by have := hg'.s.f; omega) hec
    have h6 := recvHear_told hg'.r hc
    generalize readC x = c at *
    generalize readE x = e at *
    subst hE
    cases back with
    | true =>
      rw [if_pos rfl]
      generalize hearS l'.s c = s' at *
      simp only [encLn, encSd, encRv, encCh] at h1 h3 h4 h5 ⊢
      refine wk0 ?_
      refine cg0 [[sD 1 (encPk p)]] ?_ ?_
      · exact obl_cons h1 obl_nil
      refine wk (an3 @g0 @g1 @len_pk) ?_
      refine cd [[sD 1 (encPk q)], [aD (encLn l')]] @encLn.eq_1 ?_ ?_
      · exact obl_cons h2 (obl_cons h3 obl_nil)
      refine wk (an7 @g0 @g1 @g2 @g3 @g4 @len_pk @Int.toNat_natCast) ?_
      refine cg [[aD (encCh c), vI 0]] (an8 @encCh.eq_1 @g0 @g1 @g2 @g3 @g4 @len_pk @Int.toNat_natCast) ?_ ?_
      · exact obl_cons h4 obl_nil
      refine wk Bool.not_true ?_
      refine cg [[aD (encSd s')]] @encSd.eq_1 ?_ ?_
      · exact obl_cons h5 obl_nil
      refine wk Bool.not_true ?_
      exact ValsLe.refl _
    | false =>
      rw [if_neg (by simp)]
      generalize hearR l'.r c = r' at *
      simp only [encLn, encSd, encRv, encCh] at h1 h3 h4 h6 ⊢
      refine wk0 ?_
      refine cg0 [[sD 1 (encPk p)]] ?_ ?_
      · exact obl_cons h1 obl_nil
      refine wk (an3 @g0 @g1 @len_pk) ?_
      refine cd [[sD 1 (encPk q)], [aD (encLn l')]] @encLn.eq_1 ?_ ?_
      · exact obl_cons h2 (obl_cons h3 obl_nil)
      refine wk (an7 @g0 @g1 @g2 @g3 @g4 @len_pk @Int.toNat_natCast) ?_
      refine cg [[aD (encCh c), vI 0]] (an8 @encCh.eq_1 @g0 @g1 @g2 @g3 @g4 @len_pk @Int.toNat_natCast) ?_ ?_
      · exact obl_cons h4 obl_nil
      refine wk Bool.not_false ?_
      refine cg [[aD (encRv r')]] @encRv.eq_1 ?_ ?_
      · exact obl_cons h6 obl_nil
      refine wk0 ?_
      exact ValsLe.refl _
  · have e1 : (readE x == 0) = false := by simpa using hE
    rw [if_neg hE]
    generalize readC x = c at *
    generalize readE x = e at *
    simp only [encLn, encCh] at h1 h3 h4 ⊢
    refine wk0 ?_
    refine cg0 [[sD 1 (encPk p)]] ?_ ?_
    · exact obl_cons h1 obl_nil
    refine wk (an3 @g0 @g1 @len_pk) ?_
    refine cd [[sD 1 (encPk q)], [aD (encLn l')]] @encLn.eq_1 ?_ ?_
    · exact obl_cons h2 (obl_cons h3 obl_nil)
    refine wk (an7 @g0 @g1 @g2 @g3 @g4 @len_pk @Int.toNat_natCast) ?_
    refine cg [[aD (encCh c), vI e]] (an8 @encCh.eq_1 @g0 @g1 @g2 @g3 @g4 @len_pk @Int.toNat_natCast) ?_ ?_
    · exact obl_cons h4 obl_nil
    refine wk @e1 ?_
    exact ValsLe.refl _
set_option maxHeartbeats 4000000 in
theorem packet_range (l : Ln) (n : Nat) (k : Int) (back : Bool) (x : List UInt8) (hx : (wayP l back)[n]? = some x) (hk : k < 0 ∨ (x.length : Int) ≤ k) : Told Try.prog 45 [aD (encLn l), vI 6, vI n, vI k, vB back] [aD (encLn l), vI 3] := by
  refine told_r6_Packet rfl ?_
  have h1 := wayP_told l back
  have hlt : n < (wayP l back).length := (List.getElem?_eq_some_iff.1 hx).1
  generalize wayP l back = p at *
  have g0 : ¬ (n : Int) < 0 := by omega
  have g1 : ¬ (p.length : Int) ≤ (n : Int) := by omega
  have g2 : (0 : Int) ≤ (n : Int) := by omega
  have g3 : (n : Int) < (p.length : Int) := by omega
  have g4 := at_pk hx
  by_cases hk0 : k < 0
  · simp only [encLn] at h1 ⊢
    refine wk0 ?_
    refine cg0 [[sD 1 (encPk p)]] ?_ ?_
    · exact obl_cons h1 obl_nil
    refine wk (an4 @g0 @g1 @len_pk @hk0) ?_
    exact ValsLe.refl _
  · have g5 : (x.length : Int) ≤ k := by omega
    simp only [encLn] at h1 ⊢
    refine wk0 ?_
    refine cg0 [[sD 1 (encPk p)]] ?_ ?_
    · exact obl_cons h1 obl_nil
    refine wk (an10 @g0 @g1 @g2 @g3 @g4 @g5 @len_pk @hk0 @zmap @Int.toNat_natCast) ?_
    exact ValsLe.refl _
/-- What is spoilt (not yet proved of the answer: a row of one's own in a row of one's own). -/
def CSpoilR (f : Nat) : Prop := ∀ (l : Ln) (n k : Nat) (back : Bool) (x : List UInt8), GoodL l → (wayP l back)[n]? = some x → k < x.length → Told Try.prog f [aD (encLn l), vI 6, vI n, vI k, vB back] [aD (encLn (withP l back (spoilP (wayP l back) n k))), vI 0]
theorem packet_told (hS : CSpoilR 45) (l : Ln) (hg : GoodL l) (kind n k : Int) (hk : 3 ≤ kind ∧ kind ≤ 6) (back : Bool) : Told Try.prog 45 [aD (encLn l), vI kind, vI n, vI k, vB back] [aD (encLn (packetL l kind n k back).1), vI (packetL l kind n k back).2] := by
  unfold packetL
  by_cases hn : n < 0 ∨ ((wayP l back).length : Int) ≤ n
  · rw [if_pos hn]
    exact packet_none l kind n k back hn
  rw [if_neg hn]
  obtain ⟨m, rfl⟩ : ∃ m : Nat, n = m := ⟨n.toNat, by omega⟩
  have hlt : m < (wayP l back).length := by omega
  obtain ⟨x, hx⟩ : ∃ x, (wayP l back)[m]? = some x := ⟨_, List.getElem?_eq_getElem hlt⟩
  have e0 : (wayP l back).getD m [] = x := by rw [List.getD_eq_getElem?_getD, hx]; rfl
  have hw := (hg.way back).1
  simp only [Int.toNat_natCast, e0]
  by_cases h4 : kind = 4
  · rw [if_pos h4, h4]
    exact packet_lose l m k back hlt (by omega)
  rw [if_neg h4]
  by_cases h5 : kind = 5
  · rw [if_pos h5, h5]
    exact packet_twice l m k back x hx
  rw [if_neg h5]
  by_cases h6 : kind = 6
  · rw [if_pos h6, h6]
    by_cases hk : k < 0 ∨ (x.length : Int) ≤ k
    · rw [if_pos hk]
      exact packet_range l m k back x hx hk
    · rw [if_neg hk]
      obtain ⟨j, rfl⟩ : ∃ j : Nat, k = j := ⟨k.toNat, by omega⟩
      exact hS l m j back x hg hx (by omega)
  · rw [if_neg h6, show kind = 3 by omega]
    exact packet_come l hg m k back x hx
end Go.Proofs.Ytgechpchbenanac.ab

/-
  Functions as plain code (written by wip/abs/ir.py): lkref6.Do, lkref6.Play.
-/
namespace Go.Proofs.Ytgechpchbenanac.ab
set_option linter.unusedSimpArgs false
set_option linter.unusedVariables false
set_option maxRecDepth 100000
open Go Go.RowKit

def r6_Do_r0 : IC := cReg Try.prog [
    xX 2 0,
    xX 3 1,
    ⟨some 4, none, iAlo 4 [zS, zI]⟩,
    ⟨some 5, none, iMov 5 (.const (.int .i64 0)) true⟩] [2, 3, 4] [2, 3, 4]
def r6_Do_r1 : IC := cReg Try.prog [
    xF 9 0 3,
    xL 10 1 9,
    xC 11 .lss 10 1,
    xM 12 11,
    xG 12 false (xF 13 0 3),
    xG 12 false (xL 14 1 13),
    xG 12 false (xC 15 .gtr 14 6),
    xP 16 12 15] [2, 3, 4, 16] [2, 3, 4]
def r6_Do_r2 : IC := cReg Try.prog [
    xA 17 2 2,
    xS 2 4 17,
    ⟨some 5, none, iMov 5 (.const (.int .i64 1)) true⟩] [4, 5] [4]
def r6_Do_c1a : IC := (cSeq r6_Do_r2 cRet)
def r6_Do_c1 : IC := cCond (.tmp 16) r6_Do_c1a cSkip
def r6_Do_r3 : IC := cReg Try.prog [
    xF 18 1 3,
    xL 19 1 18,
    xT 6 19] [2, 3, 4, 6] [2, 3, 4]
def r6_Do_r4 : IC := cReg Try.prog [
    xF 20 0 3,
    xL 21 1 20,
    xC 22 .eql 21 1] [2, 3, 4, 6, 22] [2, 3, 4]
def r6_Do_r5 : IC := cReg Try.prog [
    xF 23 1 2,
    xL 24 1 23,
    xF 25 0 2,
    xL 26 1 25,
    xN 27 26,
    xB 28 .rem 24 27,
    xT 6 28] [2, 3, 4, 6] [2, 3, 4]
def r6_Do_r6 : IC := cReg Try.prog [
    xF 29 1 2,
    xL 30 1 29,
    xC 31 .add 30 1,
    xF 32 1 2,
    xS 1 32 31] [2, 3, 4, 6] [2, 3, 4]
def r6_Do_c2a : IC := (cSeq r6_Do_r5 r6_Do_r6)
def r6_Do_c2 : IC := cCond (.tmp 22) r6_Do_c2a cSkip
def r6_Do_r7 : IC := cReg Try.prog [
    xM 33 6,
    xC 34 .lss 33 0,
    xM 35 34,
    xG 35 false (xM 36 6),
    xG 35 false (xF 37 0 2),
    xG 35 false (xL 38 1 37),
    xG 35 false (xN 39 38),
    xG 35 false (xB 40 .geq 36 39),
    xP 41 35 40] [2, 3, 4, 6, 41] [2, 3, 4]
def r6_Do_r8 : IC := cReg Try.prog [
    xA 42 2 2,
    xS 2 4 42,
    ⟨some 5, none, iMov 5 (.const (.int .i64 6)) true⟩] [4, 5] [4]
def r6_Do_c3a : IC := (cSeq r6_Do_r8 cRet)
def r6_Do_c3 : IC := cCond (.tmp 41) r6_Do_c3a cSkip
def r6_Do_r9 : IC := cReg Try.prog [
    xF 43 0 2,
    xL 44 1 43,
    xM 45 6,
    xI 46 17 44 45,
    xA 47 17 46,
    ⟨some 7, none, iAlo 7 [zS, zI, zI, zI, zI, zS, zI, zI, zS, zI, zI, zI, zS, zS, zF, zS, zS]⟩,
    xS 17 7 47,
    ⟨some 8, none, iMov 8 (.const (.int .i64 0)) true⟩] [2, 3, 4, 6, 7, 8] [2, 3, 4, 7]
def r6_Do_r10 : IC := cReg Try.prog [
    xF 48 0 3,
    xL 49 1 48] [2, 3, 4, 6, 7, 8, 49] [2, 3, 4, 7]
def r6_Do_r12 : IC := cReg Try.prog [
    xC 64 .eql 49 1,
    xT 63 64] [2, 3, 4, 6, 7, 8, 49, 63] [2, 3, 4, 7]
def r6_Do_r13 : IC := cReg Try.prog [
    xA 65 17 7,
    xV1 66 43 65,
    xS 17 7 66] [2, 4, 6, 7, 8] [2, 4, 7]
def r6_Do_r14 : IC := cReg Try.prog [
    xC 68 .eql 49 2,
    xT 67 68] [2, 3, 4, 6, 7, 67] [2, 3, 4, 7]
def r6_Do_r15 : IC := cReg Try.prog [
    xF 70 0 7,
    xA 71 7 70,
    xF 72 5 3,
    xA 73 2 72,
    xV2 74 44 71 73,
    xM 69 74,
    xE 75 69 0,
    xE 76 69 1,
    xF 77 0 7,
    xS 7 77 75,
    xT 8 76] [2, 4, 6, 7, 8] [2, 4, 7]
def r6_Do_r11_0 : IC := cReg Try.prog [
    xA 51 17 7,
    xF 52 0 3,
    xL 53 1 52,
    xF 54 2 3,
    xL 55 1 54,
    xF 56 3 3,
    xL 57 1 56,
    xF 58 4 3,
    xL 59 1 58,
    ⟨some 60, none, iCall 60 45 [(.tmp 51), (.tmp 53), (.tmp 55), (.tmp 57), (.tmp 59)]⟩] [2, 4, 6, 7, 60] [2, 4, 7, 100081]
def r6_Do_r11_1 : IC := cReg Try.prog [
    xM 50 60,
    xE 61 50 0,
    xE 62 50 1,
    xS 17 7 61,
    xT 8 62] [2, 4, 6, 7, 8] [2, 4, 7]
def r6_Do_r11 : IC := (cSeq r6_Do_r11_0 r6_Do_r11_1)
def r6_Do_c6 : IC := cCond (.tmp 67) r6_Do_r15 r6_Do_r11
def r6_Do_c5b : IC := (cSeq r6_Do_r14 r6_Do_c6)
def r6_Do_c5 : IC := cCond (.tmp 63) r6_Do_r13 r6_Do_c5b
def r6_Do_b4 : IC := cBlock 0 (cSeq r6_Do_r12 r6_Do_c5)
def r6_Do_r16 : IC := cReg Try.prog [
    ⟨some 78, none, iRow 78 51 17 []⟩,
    xF 79 0 2,
    xL 80 1 79,
    ⟨some 81, none, iApr 81 51 17 248 78 (.tmp 80)⟩,
    xF 82 0 2,
    xS 1 82 81] [2, 4, 6, 7, 8] [2, 4, 7, 100081]
def r6_Do_r17 : IC := cReg Try.prog [
    xF 83 0 2,
    xL 84 1 83,
    xM 85 6,
    xA 86 17 7,
    xI 87 17 84 85,
    xS 17 87 86] [2, 4, 8] [2, 4]
def r6_Do_r18 : IC := cReg Try.prog [
    xA 88 2 2,
    xM 89 8,
    xS 2 4 88,
    xT 5 89] [4, 5] [4]
def r6_Do : IC := (cSeq r6_Do_r0 (cSeq (cSeq r6_Do_r1 r6_Do_c1) (cSeq r6_Do_r3 (cSeq (cSeq r6_Do_r4 r6_Do_c2) (cSeq (cSeq r6_Do_r7 r6_Do_c3) (cSeq r6_Do_r9 (cSeq (cSeq r6_Do_r10 r6_Do_b4) (cSeq r6_Do_r16 (cSeq r6_Do_r17 (cSeq r6_Do_r18 cRet))))))))))
theorem told_r6_Do {args r : List D} (hl : args.length = 2) (h : r6_Do (start args) (fin [(4, some (2, true)), (5, none)] r)) : Told Try.prog 32 args r :=
  told_of follows Try.func32 rfl (an := [([], [2, 3, 4], [2, 3, 4], []), ([], [2, 3, 4, 16], [2, 3, 4], []), ([], [4, 5], [4], []), ([], [2, 3, 4, 6], [2, 3, 4], []), ([], [2, 3, 4, 6, 22], [2, 3, 4], []), ([], [2, 3, 4, 6], [2, 3, 4], []), ([], [2, 3, 4, 6], [2, 3, 4], []), ([], [2, 3, 4, 6, 41], [2, 3, 4], []), ([], [4, 5], [4], []), ([], [2, 3, 4, 6, 7, 8], [2, 3, 4, 7], []), ([], [2, 3, 4, 6, 7, 8, 49], [2, 3, 4, 7], []), ([], [2, 3, 4, 6, 7, 8, 49, 63], [2, 3, 4, 7], []), ([], [2, 4, 6, 7, 8], [2, 4, 7], []), ([], [2, 3, 4, 6, 7, 67], [2, 3, 4, 7], []), ([], [2, 4, 6, 7, 8], [2, 4, 7], []), ([(10, [2, 4, 6, 7, 60], [2, 4, 7, 100081])], [2, 4, 6, 7, 8], [2, 4, 7], []), ([], [2, 4, 6, 7, 8], [2, 4, 7, 100081], [81]), ([], [2, 4, 8], [2, 4], []), ([], [4, 5], [4], [])]) (by kernel_rfl) (by kernel_rfl) (by rw [hl]; decide +kernel) h

def r6_Play_r0 : IC := cReg Try.prog [
    ⟨some 4, none, iAlo 4 [zS, zI]⟩,
    ⟨some 5, none, iMov 5 (.const (.slice none 0 0)) true⟩] [0, 1, 4] [4]
def r6_Play_r1 : IC := cReg Try.prog [
    xM 14 0,
    xV1 15 31 14,
    xM 13 15,
    xE 16 13 0,
    xE 17 13 1,
    ⟨some 6, none, iAlo 6 [zS, zI]⟩,
    xS 2 6 16,
    xT 7 17] [1, 4, 6] [4, 6]
def r6_Play_r2 : IC := cReg Try.prog [
    ⟨some 8, none, iMov 8 (.const (.slice none 0 0)) true⟩] [1, 4, 6, 8] [4, 6]
def r6_Play_r3 : IC := cReg Try.prog [
    xM 18 1,
    xN 19 18,
    ⟨some 20, none, iMov 20 (.const (.int .i64 0)) false⟩] [4, 6, 8, 18, 19, 20] [4, 6]
def r6_Play_r4 : IC := cReg Try.prog [
    xB 21 .lss 20 19] [4, 6, 8, 18, 19, 20, 21] [4, 6]
def r6_Play_c3 : IC := cCond (.tmp 21) cSkip (cExit 0)
def r6_Play_r5 : IC := cReg Try.prog [
    xM 22 20,
    xI 23 7 18 20,
    xA 24 7 23,
    ⟨some 10, none, iAlo 10 [zI, zI, zI, zI, zF, zI, zS]⟩,
    xT 9 22,
    xS 7 10 24] [4, 6, 8, 9, 10, 18, 19, 20] [4, 6, 10]
def r6_Play_r6 : IC := cReg Try.prog [
    xM 25 9,
    xC 26 .eql 25 160] [4, 6, 8, 10, 18, 19, 20, 26] [4, 6, 10]
def r6_Play_c5 : IC := cCond (.tmp 26) (cExit 0) cSkip
def r6_Play_r7 : IC := cReg Try.prog [
    xA 28 2 6,
    xA 29 7 10,
    xV2 30 32 28 29,
    xM 27 30,
    xE 31 27 0,
    xE 32 27 1,
    ⟨some 11, none, iAlo 11 [zS, zI]⟩,
    xS 2 11 31,
    xT 12 32] [4, 6, 8, 11, 12, 18, 19, 20] [4, 6, 11]
def r6_Play_r8 : IC := cReg Try.prog [
    xA 33 2 11,
    xS 2 6 33] [4, 6, 8, 12, 18, 19, 20] [4, 6]
def r6_Play_r9 : IC := cReg Try.prog [
    xT 34 8,
    xM 35 12,
    xR 36 35 1 35,
    xW 37 35 1 8 34 36,
    xT 8 37] [4, 6, 8, 18, 19, 20] [4, 6]
def r6_Play_b4 : IC := cBlock 1 (cSeq r6_Play_r5 (cSeq (cSeq r6_Play_r6 r6_Play_c5) (cSeq r6_Play_r7 (cSeq r6_Play_r8 r6_Play_r9))))
def r6_Play_r10 : IC := cReg Try.prog [
    xC 38 .add 20 1,
    xM 20 38] [4, 6, 8, 18, 19, 20] [4, 6]
def r6_Play_l2a : IC := (cSeq r6_Play_r4 (cSeq r6_Play_c3 (cSeq r6_Play_b4 r6_Play_r10)))
def r6_Play_l2 : IC := cLoop r6_Play_l2a
def r6_Play_b1 : IC := cBlock 0 r6_Play_l2
def r6_Play_r11 : IC := cReg Try.prog [
    xA 39 2 6,
    xM 40 8,
    xS 2 4 39,
    xT 5 40] [4, 5] [4]
def r6_Play : IC := (cSeq r6_Play_r0 (cSeq r6_Play_r1 (cSeq r6_Play_r2 (cSeq (cSeq r6_Play_r3 r6_Play_b1) (cSeq r6_Play_r11 cRet)))))
theorem told_r6_Play {args r : List D} (hl : args.length = 2) (h : r6_Play (start args) (fin [(4, some (2, true)), (5, none)] r)) : Told Try.prog 12 args r :=
  told_of follows Try.func12 rfl (an := [([], [0, 1, 4], [4], []), ([], [1, 4, 6], [4, 6], []), ([], [1, 4, 6, 8], [4, 6], []), ([], [4, 6, 8, 18, 19, 20], [4, 6], []), ([], [4, 6, 8, 18, 19, 20, 21], [4, 6], []), ([], [4, 6, 8, 9, 10, 18, 19, 20], [4, 6, 10], []), ([], [4, 6, 8, 10, 18, 19, 20, 26], [4, 6, 10], []), ([], [4, 6, 8, 11, 12, 18, 19, 20], [4, 6, 11], []), ([], [4, 6, 8, 12, 18, 19, 20], [4, 6], []), ([], [4, 6, 8, 18, 19, 20], [4, 6], []), ([], [4, 6, 8, 18, 19, 20], [4, 6], []), ([], [4, 5], [4], [])]) (by kernel_rfl) (by kernel_rfl) (by rw [hl]; decide +kernel) h

end Go.Proofs.Ytgechpchbenanac.ab

/-
  Plain mathematics for worlds. Nothing of the program.
-/
namespace Go.Proofs.Ytgechpchbenanac.mth
set_option linter.unusedSimpArgs false
set_option linter.unusedVariables false
structure Sp where
  kind : Int
  tenant : Int
  n : Int
  m : Int
  back : Bool
  msg : Ms
structure Wd where
  lanes : List Ln
  ticks : Int
def zeroL : Ln := ⟨zeroS, zeroR, [], []⟩
def whoW (w : Wd) (s : Sp) : Int := if s.kind = 1 then w.ticks.tmod w.lanes.length else s.tenant
def ticksW (w : Wd) (s : Sp) : Int := if s.kind = 1 then w.ticks + 1 else w.ticks
def laneW (l : Ln) (s : Sp) : Ln × Int :=
  if s.kind = 1 then (speakL l, 0) else if s.kind = 2 then ({ l with s := putS l.s s.msg }, putE l.s s.msg) else packetL l s.kind s.n s.m s.back
/-- A step. -/
def doW (w : Wd) (s : Sp) : Wd × Int :=
  if s.kind < 1 ∨ 6 < s.kind then (w, 1) else
  if whoW w s < 0 ∨ (w.lanes.length : Int) ≤ whoW w s then (⟨w.lanes, ticksW w s⟩, 6) else
  (⟨w.lanes.set (whoW w s).toNat (laneW (w.lanes.getD (whoW w s).toNat zeroL) s).1, ticksW w s⟩, (laneW (w.lanes.getD (whoW w s).toNat zeroL) s).2)
/-- A world that came of steps. -/
structure GoodW (w : Wd) : Prop where
  n : 1 ≤ w.lanes.length ∧ w.lanes.length ≤ 3
  t : 0 ≤ w.ticks
  l : ∀ l ∈ w.lanes, GoodL l
theorem good_zeroL : GoodL zeroL := ⟨good_zero, good_zeroR, by simp [zeroL], by simp [zeroL], by simp [zeroL], by simp [zeroL]⟩
theorem GoodL.lane {l : Ln} (h : GoodL l) (s : Sp) : GoodL (laneW l s).1 := by
  unfold laneW
  split
  · exact h.speak
  split
  · exact ⟨h.s.put _, h.r, h.t, h.b, h.tn, h.bn⟩
  · exact h.packet _ _ _ _
theorem GoodW.step {w : Wd} (h : GoodW w) (s : Sp) : GoodW (doW w s).1 := by
  have ht : 0 ≤ ticksW w s := by have := h.t; unfold ticksW; split <;> omega
  unfold doW
  split
  · exact h
  split
  · exact ⟨h.n, ht, h.l⟩
  · refine ⟨by simpa using h.n, ht, fun l hl => ?_⟩
    rcases List.mem_or_eq_of_mem_set hl with q | q
    · exact h.l l q
    · rw [q]
      refine GoodL.lane ?_ s
      rw [List.getD_eq_getElem?_getD]
      cases hq : w.lanes[(whoW w s).toNat]? with
      | none => exact good_zeroL
      | some y => exact h.l y (List.mem_of_getElem? hq)
def newW (n : Nat) : Wd := ⟨List.replicate n zeroL, 0⟩
/-- Steps, one behind another: the world, the errors. -/
def runW (w : Wd) (l : List Sp) : Wd × List Int := l.foldl (fun x s => ((doW x.1 s).1, x.2 ++ [(doW x.1 s).2])) (w, [])
theorem runW_nil (w : Wd) : runW w [] = (w, []) := rfl
theorem runW_snoc (w : Wd) (l : List Sp) (s : Sp) : runW w (l ++ [s]) = ((doW (runW w l).1 s).1, (runW w l).2 ++ [(doW (runW w l).1 s).2]) := by simp [runW, List.foldl_append]
theorem good_new {n : Nat} (h : 1 ≤ n ∧ n ≤ 3) : GoodW (newW n) := ⟨by simpa [newW] using h, by simp [newW], fun l hl => by
  rw [(List.mem_replicate.1 hl).2]; exact good_zeroL⟩
theorem ticks_do (w : Wd) (s : Sp) : (doW w s).1.ticks ≤ w.ticks + 1 := by
  have h : ticksW w s ≤ w.ticks + 1 := by unfold ticksW; split <;> omega
  unfold doW
  split
  · simp only; omega
  · split
    · exact h
    · exact h
theorem good_run {w : Wd} (h : GoodW w) (l : List Sp) : ∀ k, GoodW (runW w (l.take k)).1 ∧ (runW w (l.take k)).1.ticks ≤ w.ticks + k ∧ (runW w (l.take k)).2.length ≤ k := by
  intro k
  induction k with
  | zero => simp [runW_nil, h]
  | succ k ih =>
    by_cases hk : k < l.length
    · rw [List.take_add_one, List.getElem?_eq_getElem hk, Option.toList_some, runW_snoc]
      refine ⟨ih.1.step _, ?_, ?_⟩
      · have := ticks_do (runW w (l.take k)).1 l[k]
        simp only
        omega
      · simp only [List.length_append, List.length_singleton]
        omega
    · rw [List.take_of_length_le (by omega)] at ih ⊢
      exact ⟨ih.1, by omega, by omega⟩
end Go.Proofs.Ytgechpchbenanac.mth

/-
  Functions as plain code (written by wip/abs/ir.py): lkref6.New=r6_NewQ;Q3.2.
-/
namespace Go.Proofs.Ytgechpchbenanac.ab
set_option linter.unusedSimpArgs false
set_option linter.unusedVariables false
set_option maxRecDepth 100000
open Go Go.RowKit

def r6_NewQ_r0 : IC := cReg Try.prog [
    ⟨some 2, none, iAlo 2 [zS, zI]⟩,
    ⟨some 3, none, iMov 3 (.const (.int .i64 0)) true⟩] [0, 2] [2]
def r6_NewQ_r1 : IC := cReg Try.prog [
    xM 4 0,
    xC 5 .lss 4 1,
    xM 6 5,
    xG 6 false (xM 7 0),
    xG 6 false (xC 8 .gtr 7 3),
    xP 9 6 8] [0, 2, 9] [2]
def r6_NewQ_r2 : IC := cReg Try.prog [
    ⟨some 10, none, iBld 10 [zS, zI] [] []⟩,
    xS 2 2 10,
    ⟨some 3, none, iMov 3 (.const (.int .i64 3)) true⟩] [2, 3] [2]
def r6_NewQ_c1a : IC := (cSeq r6_NewQ_r2 cRet)
def r6_NewQ_c1 : IC := cCond (.tmp 9) r6_NewQ_c1a cSkip
def r6_NewQ_r3_0 : IC := cReg Try.prog [
    xM 11 0,
    ⟨some 12, none, iMkS 12 17 248 (aD [zS, zI, zI, zI, zI, zS, zI, zI, zS, zI, zI, zI, zS, zS, zF, zS, zS]) (.tmp 11) (.tmp 11)⟩] [2, 12] [2]
def r6_NewQ_r3_1 : IC := cReg Try.prog [
    ⟨some 13, none, iBld 13 [zS, zI] [(0, 1)] [(.tmp 12)]⟩,
    xS 2 2 13,
    ⟨some 3, none, iMov 3 (.const (.int .i64 0)) true⟩] [2, 3] [2]
def r6_NewQ_r3 : IC := (cSeq r6_NewQ_r3_0 r6_NewQ_r3_1)
def r6_NewQ : IC := (cSeq r6_NewQ_r0 (cSeq (cSeq r6_NewQ_r1 r6_NewQ_c1) (cSeq r6_NewQ_r3 cRet)))
theorem told_r6_NewQ {args r : List D} (hl : args.length = 1) (h : r6_NewQ (start args) (fin [(2, some (2, true)), (3, none)] r)) : Told Try.prog 31 args r :=
  told_of follows Try.func31 rfl (an := [([], [0, 2], [2], []), ([], [0, 2, 9], [2], []), ([], [2, 3], [2], []), ([(2, [2, 12], [2])], [2, 3], [2], [])]) (by kernel_rfl) (by kernel_rfl) (by rw [hl]; decide +kernel) h

end Go.Proofs.Ytgechpchbenanac.ab
