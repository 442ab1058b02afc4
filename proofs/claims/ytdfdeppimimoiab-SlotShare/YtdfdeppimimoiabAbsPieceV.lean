/-
  Pieces by their kinds. Nothing of the program.
-/
import Derived.Test.YtdfdeppimimoiabAbsPieceI
namespace Go.Proofs.Ytdfdeppimimoiab.ab
set_option linter.unusedSimpArgs false
set_option linter.unusedVariables false
open Go Go.RowKit

/-- 'x.f': what lies ahead of a call. -/
def compPre (P : Program) (N : Nat) (oA oB : Oper) : Option (Nat × Nat × Nat × Nat) := match oA.op, oA.dst, oB.op, oB.dst with
  | .fieldAddr T (.tmp tc) fld, some dA, .load TB (.tmp dA'), some dB => match P.underlying T with
    | some (.struct fds) => match fds[fld]? with
      | some fd => match sizeT P fd.type, sizeT P TB, aggT P TB with
        | some n, some 1, some false => if (oA.guard.isNone = true ∧ oB.guard.isNone = true) ∧ (dA' = dA ∧ n ≠ 0) ∧ dA < N ∧ dB < N then some (tc, fd.offset, dA, dB) else none
        | _, _, _ => none
      | none => none
    | _ => none
  | _, _, _, _ => none
def tmpsOf : List Operand → Option (List Nat)
  | [] => some []
  | .tmp t :: r => (tmpsOf r).map (t :: ·)
  | _ => none
theorem tmpsOf_eq : ∀ {xs : List Operand} {ts : List Nat}, tmpsOf xs = some ts → xs = ts.map Operand.tmp
  | [], ts, h => by simp [tmpsOf] at h; subst h; rfl
  | x :: r, ts, h => by
    unfold tmpsOf at h
    split at h
    · rename_i heq; cases heq
    · rename_i t r' heq
      cases heq
      obtain ⟨ts', h1, rfl⟩ := Option.map_eq_some_iff.1 h
      rw [tmpsOf_eq h1]; rfl
    · cases h
def preTmp : Pre → List Nat
  | none => []
  | some (_, _, _, dB) => [dB]
theorem preTmp_eq (pre : Pre) : (preTmp pre).map Operand.tmp = preArgs pre := by cases pre <;> rfl
def preSep (pre : Pre) (tb d1 : Nat) : Bool := match pre with
  | none => true
  | some (tc, _, dA, dB) => d1 != dA && (d1 != dB && (tb != dA && (tb != dB && tc != d1)))
/-- The load of a struct out of a box, and the call that is handed it. -/
def compLC (P : Program) (N : Nat) (o1 o2 : Oper) (pre : Pre) : Option (Nat × Nat × Nat × Nat × Nat × Nat) := match o1.op, o1.dst, o2.op, o2.dst with
  | .load T (.tmp tb), some d1, .call c, some d2 => match c.callee, sizeT P T, aggT P T with
    | .value (.func f), some n, some true => if (o1.guard.isNone = true ∧ o2.guard.isNone = true) ∧ tmpsOf c.args.toList = some (d1 :: preTmp pre) ∧ callableB P f = true ∧ (d1 < N ∧ d2 < N ∧ tb ≠ d1 ∧ tb ≠ d2) ∧ preSep pre tb d1 = true then some (T, tb, d1, d2, f, n) else none
    | _, _, _ => none
  | _, _, _, _ => none
def compSt (o3 : Oper) (T tb d2 : Nat) : Bool := match o3.op with
  | .store T' (.tmp tb') (.tmp d2') => o3.guard.isNone && (o3.dst.isNone && (T' == T && (tb' == tb && d2' == d2)))
  | _ => false
def compLf (P : Program) (N : Nat) (oA oB oC oD : Oper) : Option IC := match compPre P N oA oB, oC.op, oC.dst, oD.op, oD.dst with
  | some (tb, off, d1, d2), .move (.tmp t3), some d3, .call c, some d4 => match c.callee, c.args.toList with
    | .value (.func f), [.tmp d2', .tmp d3'] => if (oC.guard.isNone = true ∧ oD.guard.isNone = true) ∧ (d2' = d2 ∧ d3' = d3) ∧ callableB P f = true ∧ (d3 < N ∧ d4 < N) ∧ t3 ≠ d1 ∧ t3 ≠ d2 ∧ d2 ≠ d3 then some (cLf P tb off d1 d2 t3 d3 f d4) else none
    | _, _ => none
  | _, _, _, _, _ => none
def compIns (P : Program) (N : Nat) (oA oB oC oD oE oF : Oper) : Option IC := match compPre P N oA oB, oC.op, oC.dst, oD.op, oD.dst with
  | some (tb, off, d1, d2), .move (.tmp t3), some d3, .move (.tmp t4), some d4 => match oE.op, oE.dst, oF.op, oF.dst with
    | .buildSlice TS n ps, some d5, .call c, some d6 => match ps.toList, c.callee, tmpsOf c.args.toList, P.underlying TS with
      | [(0, .tmp d4')], .value (.func f), some ts, some (.slice TE) => match P.info? TE with
        | some i => match i.zero with
          | some zv => if (oC.guard.isNone = true ∧ oD.guard.isNone = true ∧ oE.guard.isNone = true ∧ oF.guard.isNone = true) ∧ (n = 1 ∧ d4' = d4 ∧ ts = [d2, d3, d5]) ∧ (i.size = 1 ∧ zv.cells.size = 1) ∧ callableB P f = true ∧ (d3 < N ∧ d4 < N ∧ d5 < N ∧ d6 < N) ∧ ((t3 ≠ d1 ∧ t3 ≠ d2) ∧ (t4 ≠ d1 ∧ t4 ≠ d2 ∧ t4 ≠ d3) ∧ (d2 ≠ d3 ∧ d2 ≠ d4 ∧ d2 ≠ d5) ∧ (d3 ≠ d4 ∧ d3 ≠ d5)) then some (cIns P tb off d1 d2 t3 d3 t4 d4 d5 f d6) else none
          | none => none
        | none => none
      | _, _, _, _ => none
    | _, _, _, _ => none
  | _, _, _, _, _ => none
/-- Less is known from here on. -/
def cLe : IC := fun st Q => ∃ st', (∀ (base : Nat → Prop) (w0 : World) (I0 : Still) (N : Nat) (a : Act) (w : World), Rel base w0 I0 N st.F a w → Rel base w0 I0 N st'.F a w) ∧ Q none st'
def compY (P : Program) (N : Nat) (k : Nat) (l : List Oper) : Option IC := match k, l with
  | 4, [o1, o2, o3] => match compLC P N o1 o2 none with
    | some (T, tb, d1, d2, f, n) => if compSt o3 T tb d2 = true then some (cXs P tb d1 d2 f n none) else none
    | none => none
  | 5, [o1, oA, oB, o2, o3] => match compPre P N oA oB with
    | some p => match compLC P N o1 o2 (some p) with
      | some (T, tb, d1, d2, f, n) => if compSt o3 T tb d2 = true then some (cXs P tb d1 d2 f n (some p)) else none
      | none => none
    | none => none
  | 6, [o1, o2] => match compLC P N o1 o2 none with
    | some (T, tb, d1, d2, f, n) => some (cXn P tb d1 d2 f n none)
    | none => none
  | 7, [o1, oA, oB, o2] => match compPre P N oA oB with
    | some p => match compLC P N o1 o2 (some p) with
      | some (T, tb, d1, d2, f, n) => some (cLn P tb d1 d2 f n (some p))
      | none => none
    | none => none
  | 8, [o1, o2] => match o1.op, o1.dst, o2.op with
    | .load T (.tmp tb), some d1, .store T' (.tmp tb') (.tmp d1') => match sizeT P T, aggT P T with
      | some n, some true => if ((o1.guard.isNone = true ∧ o2.guard.isNone = true ∧ o2.dst.isNone = true) ∧ (T' = T ∧ d1' = d1)) ∧ (d1 < N ∧ tb' ≠ d1) then some (cCpX tb tb' d1 n) else none
      | _, _ => none
    | _, _, _ => none
  | 9, [oA, oB, oC, oD] => compLf P N oA oB oC oD
  | 11, [oA, oB, oC, oD, oE, oF] => compIns P N oA oB oC oD oE oF
  | 12, [] => some cLe
  | k, l => compX P N k l

section
variable {P : Program} {N : Nat} {ops : Array Oper} {base : Nat → Prop} {w0 : World} {I0 : Still}
theorem compPre_ok {oA oB : Oper} {p : Nat × Nat × Nat × Nat} (h : compPre P N oA oB = some p) : preOps P N (some p) [oA, oB] := by
  unfold compPre at h
  split at h
  · rename_i k1 k2 k3 k4
    split at h
    · rename_i q1
      split at h
      · rename_i q2
        split at h
        · rename_i q3 q4 q5
          split at h
          · rename_i hq
            cases h
            obtain ⟨⟨g1, g2⟩, ⟨rfl, hn⟩, hA, hB⟩ := hq
            exact ⟨_, _, _, _, _, k1, k2, Option.isNone_iff_eq_none.1 g1, q1, q2, rfl, ⟨_, q3, hn⟩, k3, k4, Option.isNone_iff_eq_none.1 g2, q4, q5, hA, hB⟩
          · cases h
        · cases h
      · cases h
    · cases h
  · cases h
theorem call_eqs {c : Call} {f : Nat} {xs : List Operand} (h1 : c.callee = .value (.func f)) (h2 : c.args.toList = xs) : c = { callee := .value (.func f), args := xs.toArray, argTypes := c.argTypes } := by
  cases c
  simp only at h1 h2
  rw [h1, ← h2, Array.toArray_toList]
theorem compLC_ok {o1 o2 : Oper} {pre : Pre} {T tb d1 d2 f n : Nat} (h : compLC P N o1 o2 pre = some (T, tb, d1, d2, f, n)) : ∃ ats, o1.op = .load T (.tmp tb) ∧ o1.dst = some d1 ∧ o1.guard = none ∧ o2.op = .call { callee := .value (.func f), args := (.tmp d1 :: preArgs pre).toArray, argTypes := ats } ∧ o2.dst = some d2 ∧ o2.guard = none ∧
    sizeT P T = some n ∧ aggT P T = some true ∧ callableB P f = true ∧ d1 < N ∧ d2 < N ∧ tb ≠ d1 ∧ tb ≠ d2 ∧ preKeeps pre d1 ∧ preKeeps pre tb ∧ ∀ tc off dA dB, pre = some (tc, off, dA, dB) → tc ≠ d1 := by
  unfold compLC at h
  split at h
  · rename_i k1 k2 k3 k4
    split at h
    · rename_i q1 q2 q3
      split at h
      · rename_i hq
        cases h
        obtain ⟨⟨g1, g2⟩, ha, hc, ⟨n1, n2, n3, n4⟩, hp⟩ := hq
        refine ⟨_, k1, k2, Option.isNone_iff_eq_none.1 g1, k3.trans (by rw [call_eqs q1 (tmpsOf_eq ha), List.map_cons, preTmp_eq]), k4, Option.isNone_iff_eq_none.1 g2, q2, q3, hc, n1, n2, n3, n4, ?_⟩
        cases pre with
        | none => exact ⟨trivial, trivial, fun _ _ _ _ e => by cases e⟩
        | some p =>
          obtain ⟨tc, off, dA, dB⟩ := p
          simp only [preSep, Bool.and_eq_true, bne_iff_ne, ne_eq] at hp
          exact ⟨⟨hp.1, hp.2.1⟩, ⟨hp.2.2.1, hp.2.2.2.1⟩, fun _ _ _ _ e => by cases e; exact hp.2.2.2.2⟩
      · cases h
    · cases h
  · cases h
theorem compSt_ok {o3 : Oper} {T tb d2 : Nat} (h : compSt o3 T tb d2 = true) : o3.op = .store T (.tmp tb) (.tmp d2) ∧ o3.dst = none ∧ o3.guard = none := by
  unfold compSt at h
  split at h
  · rename_i k1
    simp only [Bool.and_eq_true, beq_iff_eq] at h
    obtain ⟨g1, g2, rfl, rfl, rfl⟩ := h
    exact ⟨k1, Option.isNone_iff_eq_none.1 g2, Option.isNone_iff_eq_none.1 g1⟩
  · cases h
theorem compLf_ok {oA oB oC oD : Oper} {l2 : List Oper} {ic : IC} (hc : compLf P N oA oB oC oD = some ic) {st : St} {R : AX → St → Prop} {Q : Exit → Act → World → Prop} {a : Act} {w : World} (h : ic st R) (hr : Rel base w0 I0 N st.F a w)
    (hK : ∀ st' a' w', R none st' → Rel base w0 I0 N st'.F a' w' → wpList P ops Q l2 a' w') : wpList P ops Q (oA :: oB :: oC :: oD :: l2) a w := by
  unfold compLf at hc
  split at hc
  · rename_i k0 k1 k2 k3 k4
    split at hc
    · rename_i q1 q2
      split at hc
      · rename_i hq
        cases hc
        obtain ⟨⟨g1, g2⟩, ⟨rfl, rfl⟩, hcf, ⟨n1, n2⟩, n3, n4, n5⟩ := hq
        obtain ⟨T, fds, fd, fld, TB, r1, r2, r3, r4, r5, r6, ⟨n, r7, r8⟩, r9, r10, r11, r12, r13, r14, r15⟩ := compPre_ok k0
        exact run_Lf r1 r2 r3 r4 r5 r6 r7 r8 r9 r10 r11 r12 r13 k1 k2 (Option.isNone_iff_eq_none.1 g1) (k3.trans (by rw [call_eqs q1 q2])) k4 (Option.isNone_iff_eq_none.1 g2) hcf ⟨r14, r15, n1, n2⟩ ⟨n3, n4, n5⟩ h hr hK
      · cases hc
    · cases hc
  · cases hc
theorem compIns_ok {oA oB oC oD oE oF : Oper} {l2 : List Oper} {ic : IC} (hc : compIns P N oA oB oC oD oE oF = some ic) {st : St} {R : AX → St → Prop} {Q : Exit → Act → World → Prop} {a : Act} {w : World} (h : ic st R) (hr : Rel base w0 I0 N st.F a w)
    (hK : ∀ st' a' w', R none st' → Rel base w0 I0 N st'.F a' w' → wpList P ops Q l2 a' w') : wpList P ops Q (oA :: oB :: oC :: oD :: oE :: oF :: l2) a w := by
  unfold compIns at hc
  split at hc
  · rename_i k0 k1 k2 k3 k4
    split at hc
    · rename_i k5 k6 k7 k8
      split at hc
      · rename_i q1 q2 q3 q4
        split at hc
        · rename_i q5
          split at hc
          · rename_i q6
            split at hc
            · rename_i hq
              cases hc
              obtain ⟨⟨g1, g2, g3, g4⟩, ⟨rfl, rfl, rfl⟩, ⟨z1, z2⟩, hcf, ⟨n1, n2, n3, n4⟩, hne⟩ := hq
              obtain ⟨T, fds, fd, fld, TB, r1, r2, r3, r4, r5, r6, ⟨n, r7, r8⟩, r9, r10, r11, r12, r13, r14, r15⟩ := compPre_ok k0
              exact run_Ins r1 r2 r3 r4 r5 r6 r7 r8 r9 r10 r11 r12 r13 k1 k2 (Option.isNone_iff_eq_none.1 g1) k3 k4 (Option.isNone_iff_eq_none.1 g2) (k5.trans (by rw [Array.toList_inj.1 (q1.trans rfl : _ = (#[(0, Operand.tmp _)] : Array (Nat × Operand)).toList)])) k6 (Option.isNone_iff_eq_none.1 g3) q4 q5 z1 q6 z2
                (k7.trans (by rw [call_eqs q2 (tmpsOf_eq q3)]; rfl)) k8 (Option.isNone_iff_eq_none.1 g4) hcf ⟨r14, r15, n1, n2, n3, n4⟩ hne h hr hK
            · cases hc
          · cases hc
        · cases hc
      · cases hc
    · cases hc
  · cases hc
theorem compY_ok {k : Nat} {l l2 : List Oper} {ic : IC} (hc : compY P N k l = some ic) {st : St} {R : AX → St → Prop} {Q : Exit → Act → World → Prop} {a : Act} {w : World} (h : ic st R) (hr : Rel base w0 I0 N st.F a w)
    (hK : ∀ st' a' w', R none st' → Rel base w0 I0 N st'.F a' w' → wpList P ops Q l2 a' w') : wpList P ops Q (l ++ l2) a w := by
  unfold compY at hc
  split at hc
  · split at hc
    · rename_i h1
      split at hc
      · rename_i h2
        cases hc
        obtain ⟨ats, r1, r2, r3, r4, r5, r6, r7, r8, r9, r10, r11, r12, r13, r14, r15, r16⟩ := compLC_ok h1
        obtain ⟨s1, s2, s3⟩ := compSt_ok h2
        exact run_Xs (pre := none) (lp := []) trivial r1 r2 r3 r4 r5 r6 s1 s2 s3 r7 r8 r9 r10 r11 r12 r13 r14 r15 r16 h hr hK
      · cases hc
    · cases hc
  · split at hc
    · rename_i h0
      split at hc
      · rename_i h1
        split at hc
        · rename_i h2
          cases hc
          obtain ⟨ats, r1, r2, r3, r4, r5, r6, r7, r8, r9, r10, r11, r12, r13, r14, r15, r16⟩ := compLC_ok h1
          obtain ⟨s1, s2, s3⟩ := compSt_ok h2
          exact run_Xs (compPre_ok h0) r1 r2 r3 r4 r5 r6 s1 s2 s3 r7 r8 r9 r10 r11 r12 r13 r14 r15 r16 h hr hK
        · cases hc
      · cases hc
    · cases hc
  · split at hc
    · rename_i h1
      cases hc
      obtain ⟨ats, r1, r2, r3, r4, r5, r6, r7, r8, r9, r10, r11, r12, r13, r14, r15, r16⟩ := compLC_ok h1
      exact run_Xn (pre := none) (lp := []) trivial r1 r2 r3 r4 r5 r6 r7 r8 r9 r10 r11 r14 r16 h hr hK
    · cases hc
  · split at hc
    · rename_i h0
      split at hc
      · rename_i h1
        cases hc
        obtain ⟨ats, r1, r2, r3, r4, r5, r6, r7, r8, r9, r10, r11, r12, r13, r14, r15, r16⟩ := compLC_ok h1
        exact run_Ln (compPre_ok h0) r1 r2 r3 r4 r5 r6 r7 r8 r9 r10 r11 r14 r16 h hr hK
      · cases hc
    · cases hc
  · split at hc
    · rename_i k1 k2 k3
      split at hc
      · rename_i q3 q4
        split at hc
        · rename_i hq
          cases hc
          obtain ⟨⟨⟨g1, g2, g4⟩, rfl, rfl⟩, hN1, n1⟩ := hq
          exact run_CpX k1 k2 (Option.isNone_iff_eq_none.1 g1) k3 (Option.isNone_iff_eq_none.1 g4) (Option.isNone_iff_eq_none.1 g2) q3 q4 hN1 n1 h hr hK
        · cases hc
      · cases hc
    · cases hc
  · exact compLf_ok hc h hr hK
  · exact compIns_ok hc h hr hK
  · cases hc
    obtain ⟨st', hle, hq⟩ := h
    exact hK st' a w hq (hle _ _ _ _ _ _ hr)
  · exact compX_ok hc h hr hK
end
end Go.Proofs.Ytdfdeppimimoiab.ab
