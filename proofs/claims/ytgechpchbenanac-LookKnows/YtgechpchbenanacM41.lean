/-
  Several texts in one.
-/
import Derived.Test.YtgechpchbenanacM26
import Derived.Test.YtgechpchbenanacProg
import Derived.Test.YtgechpchbenanacM35

/-
  Functions as plain code (written by wip/abs/ir.py): lkref6.Packet=r6_Packet;L100064:12:13:14.
-/
namespace Go.Proofs.Ytgechpchbenanac.ab
set_option linter.unusedSimpArgs false
set_option linter.unusedVariables false
set_option maxRecDepth 100000
open Go Go.RowKit

def r6_Packet_r0 : IC := cReg Try.prog [
    xX 5 0,
    ⟨some 10, none, iAlo 10 [zS, zI, zI, zI, zI, zS, zI, zI, zS, zI, zI, zI, zS, zS, zF, zS, zS]⟩,
    ⟨some 11, none, iMov 11 (.const (.int .i64 0)) true⟩] [1, 2, 3, 4, 5, 10] [5, 10]
def r6_Packet_r1 : IC := cReg Try.prog [
    xA 16 17 5,
    xM 17 4,
    xV2 18 64 16 17,
    xT 12 18] [1, 2, 3, 4, 5, 10, 12] [5, 10]
def r6_Packet_r2 : IC := cReg Try.prog [
    xM 19 2,
    xC 20 .lss 19 0,
    xM 21 20,
    xG 21 false (xM 22 2),
    xG 21 false (xM 23 12),
    xG 21 false (xN 24 23),
    xG 21 false (xB 25 .geq 22 24),
    xP 26 21 25] [1, 2, 3, 4, 5, 10, 12, 26] [5, 10]
def r6_Packet_r3 : IC := cReg Try.prog [
    xA 27 17 5,
    xS 17 10 27,
    ⟨some 11, none, iMov 11 (.const (.int .i64 6)) true⟩] [10, 11] [10]
def r6_Packet_c1a : IC := (cSeq r6_Packet_r3 cRet)
def r6_Packet_c1 : IC := cCond (.tmp 26) r6_Packet_c1a cSkip
def r6_Packet_r4 : IC := cReg Try.prog [
    xM 28 1] [2, 3, 4, 5, 10, 12, 28] [5, 10]
def r6_Packet_r5 : IC := cReg Try.prog [
    xC 30 .eql 28 4,
    xT 29 30] [2, 3, 4, 5, 10, 12, 28, 29] [5, 10]
def r6_Packet_r6 : IC := cRegD Try.prog [
    xA 31 17 5,
    xM 32 4,
    xM 33 12,
    xM 34 2,
    xV2 35 66 33 34,
    ⟨some 36, none, iCall 36 65 [(.tmp 31), (.tmp 32), (.tmp 35)]⟩,
    xS 17 10 36,
    ⟨some 11, none, iMov 11 (.const (.int .i64 0)) true⟩] [[], [], [], [], [2, 3], [0, 1, 4, 2, 3], [5, 0, 1, 2, 3, 4], [6, 0, 1, 2, 3, 4, 5]] [10, 11] [10]
def r6_Packet_r7 : IC := cReg Try.prog [
    xC 38 .eql 28 5,
    xT 37 38] [2, 3, 4, 5, 10, 12, 28, 37] [5, 10]
def r6_Packet_r8 : IC := cRegD Try.prog [
    xA 39 17 5,
    xM 40 4,
    xM 41 12,
    xM 42 12,
    xM 43 2,
    xI 44 1 42 43,
    xL 45 1 44,
    xV2 46 60 41 45,
    ⟨some 47, none, iCall 47 65 [(.tmp 39), (.tmp 40), (.tmp 46)]⟩,
    xS 17 10 47,
    ⟨some 11, none, iMov 11 (.const (.int .i64 0)) true⟩] [[], [], [], [], [], [3, 4], [5, 3, 4], [2, 6, 5, 3, 4], [0, 1, 7, 2, 6, 5, 3, 4], [8, 0, 1, 2, 3, 4, 5, 6, 7], [9, 0, 1, 2, 3, 4, 5, 6, 7, 8]] [10, 11] [10]
def r6_Packet_r9 : IC := cReg Try.prog [
    xC 49 .eql 28 6,
    xT 48 49] [2, 3, 4, 5, 10, 12, 48] [5, 10]
def r6_Packet_r10 : IC := cReg Try.prog [
    xM 50 3,
    xC 51 .lss 50 0,
    xM 52 51,
    xG 52 false (xM 53 3),
    xG 52 false (xM 54 12),
    xG 52 false (xM 55 2),
    xG 52 false (xI 56 1 54 55),
    xG 52 false (xL 57 1 56),
    xG 52 false (xN 58 57),
    xG 52 false (xB 59 .geq 53 58),
    xP 60 52 59] [2, 3, 4, 5, 10, 12, 60] [5, 10]
def r6_Packet_r11 : IC := cReg Try.prog [
    xA 61 17 5,
    xS 17 10 61,
    ⟨some 11, none, iMov 11 (.const (.int .i64 3)) true⟩] [10, 11] [10]
def r6_Packet_c6a : IC := (cSeq r6_Packet_r11 cRet)
def r6_Packet_c6 : IC := cCond (.tmp 60) r6_Packet_c6a cSkip
def r6_Packet_r12 : IC := cReg Try.prog [
    ⟨some 62, none, iRow 62 23 1 []⟩,
    xM 63 12,
    ⟨some 64, none, iApr 64 23 1 24 62 (.tmp 63)⟩,
    xT 13 64] [2, 3, 4, 5, 10, 12, 13] [5, 10, 100064]
def r6_Packet_r13 : IC := cReg Try.prog [
    xM 65 13,
    xM 66 2,
    ⟨some 67, none, iRow 67 5 1 []⟩,
    xM 68 12,
    xM 69 2,
    xI 70 1 68 69,
    xL 71 1 70,
    ⟨some 72, none, iApr 72 5 1 1 67 (.tmp 71)⟩,
    xI 73 1 65 66,
    xS 1 73 72] [2, 3, 4, 5, 10, 13] [5, 10, 100072, 100064]
def r6_Packet_r14 : IC := cReg Try.prog [
    xM 74 13,
    xM 75 2,
    xI 76 1 74 75,
    xL 77 1 76,
    xM 78 3,
    xI 79 1 77 78,
    xL 80 1 79,
    ⟨some 81, none, iBin 81 .rem (.tmp 80) (.const (.int .u8 2))⟩,
    ⟨some 82, none, iBin 82 .eql (.tmp 81) (.const (.int .u8 0))⟩] [2, 3, 4, 5, 10, 13, 82] [5, 10, 100072, 100064]
def r6_Packet_r15 : IC := cReg Try.prog [
    xM 83 13,
    xM 84 2,
    xI 85 1 83 84,
    xL 86 1 85,
    xM 87 3,
    xI 88 1 86 87,
    xL 89 1 88,
    ⟨some 90, none, iBin 90 .add (.tmp 89) (.const (.int .u8 1))⟩,
    xI 91 1 86 87,
    xS 1 91 90] [4, 5, 10, 13] [5, 10]
def r6_Packet_r16 : IC := cReg Try.prog [
    xM 92 13,
    xM 93 2,
    xI 94 1 92 93,
    xL 95 1 94,
    xM 96 3,
    xI 97 1 95 96,
    xL 98 1 97,
    ⟨some 99, none, iBin 99 .sub (.tmp 98) (.const (.int .u8 1))⟩,
    xI 100 1 95 96,
    xS 1 100 99] [4, 5, 10, 13] [5, 10]
def r6_Packet_c7 : IC := cCond (.tmp 82) r6_Packet_r15 r6_Packet_r16
def r6_Packet_r17 : IC := cReg Try.prog [
    xA 101 17 5,
    xM 102 4,
    xM 103 13,
    ⟨some 104, none, iCall 104 65 [(.tmp 101), (.tmp 102), (.tmp 103)]⟩,
    xS 17 10 104,
    ⟨some 11, none, iMov 11 (.const (.int .i64 0)) true⟩] [10, 11] [10]
def r6_Packet_c5a : IC := (cSeq (cSeq r6_Packet_r10 r6_Packet_c6) (cSeq r6_Packet_r12 (cSeq r6_Packet_r13 (cSeq (cSeq r6_Packet_r14 r6_Packet_c7) (cSeq r6_Packet_r17 cRet)))))
def r6_Packet_c5 : IC := cCond (.tmp 48) r6_Packet_c5a cSkip
def r6_Packet_c4a : IC := (cSeq r6_Packet_r8 cRet)
def r6_Packet_c4b : IC := (cSeq r6_Packet_r9 r6_Packet_c5)
def r6_Packet_c4 : IC := cCond (.tmp 37) r6_Packet_c4a r6_Packet_c4b
def r6_Packet_c3a : IC := (cSeq r6_Packet_r6 cRet)
def r6_Packet_c3b : IC := (cSeq r6_Packet_r7 r6_Packet_c4)
def r6_Packet_c3 : IC := cCond (.tmp 29) r6_Packet_c3a r6_Packet_c3b
def r6_Packet_b2 : IC := cBlock 0 (cSeq r6_Packet_r5 r6_Packet_c3)
def r6_Packet_r18 : IC := cRegD Try.prog [
    xA 105 17 5,
    xM 106 4,
    xM 107 12,
    xM 108 2,
    xV2 109 66 107 108,
    ⟨some 110, none, iCall 110 65 [(.tmp 105), (.tmp 106), (.tmp 109)]⟩,
    xS 17 5 110] [[], [], [], [], [2, 3], [0, 1, 4, 2, 3], [5, 0, 1, 2, 3, 4]] [2, 4, 5, 10, 12] [5, 10]
def r6_Packet_r19 : IC := cReg Try.prog [
    xM 112 12,
    xM 113 2,
    xI 114 1 112 113,
    xL 115 1 114,
    xV1 116 67 115,
    xM 111 116,
    xE 117 111 0,
    xE 118 111 1,
    ⟨some 14, none, iAlo 14 [zI, zI, zI, zI, zS, zS]⟩,
    xS 6 14 117,
    xT 15 118] [4, 5, 10, 14, 15] [5, 10, 14]
def r6_Packet_r20 : IC := cReg Try.prog [
    xM 119 15,
    xC 120 .eql 119 0,
    xM 121 120,
    xG 121 true (xM 122 4),
    xQ 123 121 122] [4, 5, 10, 14, 15, 123] [5, 10, 14]
def r6_Packet_r21 : IC := cReg Try.prog [
    xF 124 0 5,
    xA 125 7 124,
    xA 126 6 14,
    xV2 127 68 125 126,
    xF 128 0 5,
    xS 7 128 127] [4, 5, 10, 14, 15] [5, 10, 14]
def r6_Packet_c8 : IC := cCond (.tmp 123) r6_Packet_r21 cSkip
def r6_Packet_r22 : IC := cReg Try.prog [
    xM 129 15,
    xC 130 .eql 129 0,
    xM 131 130,
    xG 131 true (xM 132 4),
    xG 131 true (xO 133 132),
    xQ 134 131 133] [5, 10, 14, 134] [5, 10, 14]
def r6_Packet_r23 : IC := cReg Try.prog [
    xF 135 7 5,
    xA 136 8 135,
    xA 137 6 14,
    xV2 138 69 136 137,
    xF 139 7 5,
    xS 8 139 138] [5, 10] [5, 10]
def r6_Packet_c9 : IC := cCond (.tmp 134) r6_Packet_r23 cSkip
def r6_Packet_r24 : IC := cReg Try.prog [
    xA 140 17 5,
    xS 17 10 140,
    ⟨some 11, none, iMov 11 (.const (.int .i64 0)) true⟩] [10, 11] [10]
def r6_Packet : IC := (cSeq r6_Packet_r0 (cSeq r6_Packet_r1 (cSeq (cSeq r6_Packet_r2 r6_Packet_c1) (cSeq (cSeq r6_Packet_r4 r6_Packet_b2) (cSeq r6_Packet_r18 (cSeq r6_Packet_r19 (cSeq (cSeq r6_Packet_r20 r6_Packet_c8) (cSeq (cSeq r6_Packet_r22 r6_Packet_c9) (cSeq r6_Packet_r24 cRet)))))))))
theorem told_r6_Packet {args r : List D} (hl : args.length = 5) (h : r6_Packet (start args) (fin [(10, some (17, true)), (11, none)] r)) : Told Try.prog 45 args r :=
  told_of follows Try.func45 rfl (an := [([], [1, 2, 3, 4, 5, 10], [5, 10], []), ([], [1, 2, 3, 4, 5, 10, 12], [5, 10], []), ([], [1, 2, 3, 4, 5, 10, 12, 26], [5, 10], []), ([], [10, 11], [10], []), ([], [2, 3, 4, 5, 10, 12, 28], [5, 10], []), ([], [2, 3, 4, 5, 10, 12, 28, 29], [5, 10], []), ([], [10, 11], [10], []), ([], [2, 3, 4, 5, 10, 12, 28, 37], [5, 10], []), ([], [10, 11], [10], []), ([], [2, 3, 4, 5, 10, 12, 48], [5, 10], []), ([], [2, 3, 4, 5, 10, 12, 60], [5, 10], []), ([], [10, 11], [10], []), ([], [2, 3, 4, 5, 10, 12, 13], [5, 10, 100064], [64]), ([], [2, 3, 4, 5, 10, 13], [5, 10, 100072, 100064], [72]), ([], [2, 3, 4, 5, 10, 13, 82], [5, 10, 100072, 100064], []), ([], [4, 5, 10, 13], [5, 10], []), ([], [4, 5, 10, 13], [5, 10], []), ([], [10, 11], [10], []), ([], [2, 4, 5, 10, 12], [5, 10], []), ([], [4, 5, 10, 14, 15], [5, 10, 14], []), ([], [4, 5, 10, 14, 15, 123], [5, 10, 14], []), ([], [4, 5, 10, 14, 15], [5, 10, 14], []), ([], [5, 10, 14, 134], [5, 10, 14], []), ([], [5, 10], [5, 10], []), ([], [10, 11], [10], [])]) (by kernel_rfl) (by kernel_rfl) (by rw [hl]; decide +kernel) h

end Go.Proofs.Ytgechpchbenanac.ab

/-
  What the answer's SendHear and SameSender tell.
-/
namespace Go.Proofs.Ytgechpchbenanac.ab
set_option linter.unusedVariables false
set_option linter.unusedSimpArgs false
open Go Go.RowKit
open mth

/-- At the head of the inner loop. -/
def hIn (b2 : List D) (c x : Ch) (L F : List D) (e17 e18 : Int) (b : Bool) (i : Int) : St :=
  ⟨[(2, pD 2 0), (3, pD 3 0), (4, pD 4 0), (5, sD 6 L), (7, pD 7 0), (8, vB b), (16, sD 6 F), (17, vI e17), (18, vI e18), (28, sD 1 (c.early.map vI)), (29, vI c.early.length), (30, vI i)],
    [(2, b2), (3, [vI c.kind, vI c.number, vI c.stream, vI c.place, sD 1 (c.data.map encB), sD 1 (c.early.map vI)]), (4, [vD (.slice none 0 0), vI 0, vI 0, vI 0, vI 0, vD (.slice none 0 0), vI 0]), (7, [vI x.kind, vI x.number, vI x.stream, vI x.place, sD 1 (x.data.map encB), sD 1 (x.early.map vI)])], [((5, none), (93, 6, none))]⟩
def hOut (b2 : List D) (c x : Ch) (L F : List D) (e17 e18 : Int) (b : Bool) (i : Int) : St :=
  ⟨[(2, pD 2 0), (3, pD 3 0), (4, pD 4 0), (5, sD 6 L), (7, pD 7 0), (8, vB b), (16, sD 6 F), (17, vI e17), (18, vI e18), (28, sD 1 (c.early.map vI)), (29, vI c.early.length), (30, vI i), (31, vB false)],
    [(2, b2), (3, [vI c.kind, vI c.number, vI c.stream, vI c.place, sD 1 (c.data.map encB), sD 1 (c.early.map vI)]), (4, [vD (.slice none 0 0), vI 0, vI 0, vI 0, vI 0, vD (.slice none 0 0), vI 0]), (7, [vI x.kind, vI x.number, vI x.stream, vI x.place, sD 1 (x.data.map encB), sD 1 (x.early.map vI)])], [((5, none), (93, 6, none))]⟩
theorem take_has {l : List Int} {j : Nat} {y n : Int} (h : l[j]? = some y) : (l.take (j + 1)).contains n = ((l.take j).contains n || (y == n)) := by
  rw [List.take_add_one, h, Bool.eq_iff_iff]
  simp only [Option.toList_some, List.contains_iff_mem, List.mem_append, List.mem_singleton, Bool.or_eq_true, beq_iff_eq]
  constructor
  · rintro (h | h)
    · exact .inl h
    · exact .inr h.symm
  · rintro (h | h)
    · exact .inl h
    · exact .inr h.symm
set_option maxHeartbeats 2000000 in
theorem hear_in (b2 : List D) (c x : Ch) (L F : List D) (e17 e18 : Int) (b : Bool) (he : c.early.length ≤ 9223372036854775807) (Q : AX → St → Prop)
    (hQ : Q none (hOut b2 c x L F e17 e18 (b || c.early.contains x.number) c.early.length)) : r1_SendHear_b6 (hIn b2 c x L F e17 e18 b 0) Q := by
  refine aw_block ?_
  refine aw_loop (fun m st => ∃ j : Nat, j ≤ c.early.length ∧ m = c.early.length - j ∧ st = hIn b2 c x L F e17 e18 (b || (c.early.take j).contains x.number) j) c.early.length _ (Le.refl _) ⟨0, by omega, by omega, by simp⟩ ?_
  rintro m st ⟨j, hj, hm, rfl⟩
  by_cases hlt : j < c.early.length
  · obtain ⟨y, hy⟩ : ∃ m, c.early[j]? = some m := ⟨c.early[j], List.getElem?_eq_getElem hlt⟩
    have g1 : (j : Int) < (c.early.length : Int) := by omega
    have g2 : (0 : Int) ≤ (j : Int) := by omega
    have g3 := at_il hy
    have g4 : inR .i64 ((j : Int) + 1) = true := inR_of (by omega)
    have hc := take_has (n := x.number) hy
    have hnx : ∀ b', b' = ((b || (c.early.take j).contains x.number) || (y == x.number)) → Next (fun m st => ∃ j : Nat, j ≤ c.early.length ∧ m = c.early.length - j ∧ st = hIn b2 c x L F e17 e18 (b || (c.early.take j).contains x.number) j) m (hIn b2 c x L F e17 e18 b' ((j : Int) + 1)) := by
      rintro b' rfl
      exact ⟨c.early.length - (j + 1), _, by omega, Le.refl _, j + 1, by omega, rfl, by rw [hc, Bool.or_assoc, Int.natCast_add, Int.cast_ofNat_Int]⟩
    generalize (fun m st => ∃ j : Nat, j ≤ c.early.length ∧ m = c.early.length - j ∧ st = hIn b2 c x L F e17 e18 (b || (c.early.take j).contains x.number) j) = J at *
    generalize (b || (c.early.take j).contains x.number) = q at *
    simp only [hIn] at hnx ⊢
    cases q with
    | true =>
      refine wk (an4 @g1 @g2 @g3 @g4) ?_
      exact hnx _ rfl
    | false =>
      refine wk (an4 @g1 @g2 @g3 @g4) ?_
      exact hnx _ rfl
  · have hj' : j = c.early.length := by omega
    subst hj'
    have g1 : ¬ (c.early.length : Int) < (c.early.length : Int) := by omega
    rw [List.take_length]
    simp only [hIn, hOut] at hQ ⊢
    refine wk @g1 ?_
    exact hQ
/-- At the head of the outer loop. -/
def hSt (s : Sd) (c : Ch) (k : Nat) : St :=
  ⟨[(2, pD 2 0), (3, pD 3 0), (4, pD 4 0), (5, sD 6 (encCl ((s.flight.take k).filter fun x => !cameL c x.number))), (16, sD 6 (encCl s.flight)), (17, vI s.flight.length), (18, vI k)],
    [(2, [sD 2 (encMl s.queue), vI s.next, vI s.p0, vI s.p1, vI s.p2, sD 6 (encCl s.flight), vI s.turn]), (3, [vI c.kind, vI c.number, vI c.stream, vI c.place, sD 1 (c.data.map encB), sD 1 (c.early.map vI)]), (4, [vD (.slice none 0 0), vI 0, vI 0, vI 0, vI 0, vD (.slice none 0 0), vI 0])], [((5, none), (93, 6, none))]⟩
theorem filter_snoc {l : List Ch} {f : Ch → Bool} {k : Nat} {m : Ch} (h : l[k]? = some m) : (l.take (k + 1)).filter f = if f m = true then (l.take k).filter f ++ [m] else (l.take k).filter f := by
  rw [List.take_add_one, h]
  simp only [List.filter_append, Option.toList_some, List.filter_cons, List.filter_nil]
  split <;> simp
set_option maxHeartbeats 4000000 in
theorem hear_told (s : Sd) (c : Ch) (hf : s.flight.length ≤ 1048576) (he : c.early.length ≤ 9223372036854775807) : Told Try.prog 68 [aD (encSd s), aD (encCh c)] [aD (encSd (hearS s c))] := by
  refine told_r1_SendHear rfl ?_
  simp only [encSd, encCh]
  by_cases hk : c.kind = 2
  · have k1 : (c.kind != 2) = false := by simpa using hk
    rw [hearS, if_pos hk]
    refine wk (an2 @k1 @len_cl) ?_
    refine aw_loop (fun n st => ∃ k, k ≤ s.flight.length ∧ n = s.flight.length - k ∧ st = hSt s c k) s.flight.length (hSt s c 0) ((Le.nilS 5 93 6 rfl).trans (Le.keep (lv := [2, 3, 4, 5, 16, 17, 18]) (lb := [2, 3, 4]) (by simp only [ev0, ev1, ev2, look, lookF, cellsFrom, offT, offP, List.tail_nil, List.length_nil, Int.cast_ofNat_Int, Nat.reduceEqDiff, Nat.reduceAdd, Nat.reduceMul, Nat.reduceLeDiff, Nat.reduceLT, ↓reduceIte, reduceCtorEq, Int.reduceBEq, Int.reduceBNe, Int.reduceLT, Int.reduceLE, Int.reduceToNat]; rfl))) ⟨0, by omega, by omega, rfl⟩ ?_
    rintro n st ⟨k, hk', hn, rfl⟩
    by_cases hlt : k < s.flight.length
    · obtain ⟨x, hx⟩ : ∃ m, s.flight[k]? = some m := ⟨s.flight[k], List.getElem?_eq_getElem hlt⟩
      have g1 : (k : Int) < (s.flight.length : Int) := by omega
      have g2 : (0 : Int) ≤ (k : Int) := by omega
      have g3 := at_cl hx
      have g4 : inR .i64 ((k : Int) + 1) = true := inR_of (by omega)
      have hsn := filter_snoc (f := fun x => !cameL c x.number) hx
      have hlen : ((s.flight.take k).filter fun x => !cameL c x.number).length ≤ k := Nat.le_trans (List.length_filter_le _ _) (by rw [List.length_take]; omega)
      have hb1 : (((s.flight.take k).filter fun x => !cameL c x.number).length + 1) * 80 ≤ 140737488355328 := by omega
      have hnx : ∀ L, L = (s.flight.take (k + 1)).filter (fun x => !cameL c x.number) → Next (fun n st => ∃ k, k ≤ s.flight.length ∧ n = s.flight.length - k ∧ st = hSt s c k) n
          ⟨[(2, pD 2 0), (3, pD 3 0), (4, pD 4 0), (5, sD 6 (encCl L)), (16, sD 6 (encCl s.flight)), (17, vI s.flight.length), (18, vI ((k : Int) + 1))],
            [(2, [sD 2 (encMl s.queue), vI s.next, vI s.p0, vI s.p1, vI s.p2, sD 6 (encCl s.flight), vI s.turn]), (3, [vI c.kind, vI c.number, vI c.stream, vI c.place, sD 1 (c.data.map encB), sD 1 (c.early.map vI)]), (4, [vD (.slice none 0 0), vI 0, vI 0, vI 0, vI 0, vD (.slice none 0 0), vI 0])], [((5, none), (93, 6, none))]⟩ := by
        rintro L rfl
        exact ⟨s.flight.length - (k + 1), _, by omega, Le.refl _, k + 1, by omega, rfl, by simp only [hSt, Int.natCast_add, Int.cast_ofNat_Int]⟩
      generalize (fun n st => ∃ k, k ≤ s.flight.length ∧ n = s.flight.length - k ∧ st = hSt s c k) = J at *
      simp only [hSt]
      generalize ((s.flight.take k).filter fun x => !cameL c x.number) = G at *
      refine wk (an4 @g1 @g2 @g3 @zmap) ?_
      refine hear_in _ c x _ _ _ _ (decide (x.number < c.number)) he _ ?_
      refine thn_normal ?_
      cases hc : cameL c x.number with
      | true =>
        have hc' : (decide (x.number < c.number) || c.early.contains x.number) = true := hc
        rw [hc']
        simp only [hOut]
        refine wk @g4 ?_
        refine hnx G ?_
        rw [hsn, hc]; rfl
      | false =>
        have hc' : (decide (x.number < c.number) || c.early.contains x.number) = false := hc
        rw [hc']
        simp only [hOut]
        refine wk (an3 @g4 @hb1 @len_cl) ?_
        rw [← cl_snoc]
        refine hnx (G ++ [x]) ?_
        rw [hsn, hc]; rfl
    · have hk'' : k = s.flight.length := by omega
      subst hk''
      have g1 : ¬ (s.flight.length : Int) < (s.flight.length : Int) := by omega
      simp only [hSt, List.take_length]
      refine wk @g1 ?_
      exact ValsLe.refl _
  · have k1 : (c.kind != 2) = true := by simpa using hk
    rw [hearS, if_neg hk]
    refine wk @k1 ?_
    exact ValsLe.refl _
end Go.Proofs.Ytgechpchbenanac.ab
