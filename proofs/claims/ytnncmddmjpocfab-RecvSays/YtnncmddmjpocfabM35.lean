/-
  Several texts in one.
-/
import Derived.Test.YtnncmddmjpocfabM34
import Derived.Test.YtnncmddmjpocfabM21
import Derived.Test.YtnncmddmjpocfabProg

/-
  Plain code with 'range' over maps of one's own. Nothing of the program.
-/
namespace Go.Proofs.Ytnncmddmjpocfab.ab
set_option linter.unusedVariables false
set_option linter.unusedSimpArgs false
open Go Go.RowKit

def opMv (o : Oper) : Option (Nat × Nat) := match o.op, o.dst, o.guard with | .move (.tmp t), some d, none => some (t, d) | _, _, _ => none
def opRg (P : Program) (o : Oper) : Option (Nat × Nat) := match o.op, o.dst, o.guard with
  | .range ty (.tmp t), some d, none => match P.underlying ty with | some (.map _ _) => some (t, d) | _ => none
  | _, _, _ => none
def opNx (o : Oper) : Option (Nat × Nat) := match o.op, o.dst, o.guard with | .next (.tmp t) false, some d, none => some (t, d) | _, _, _ => none
def opEx (o : Oper) : Option (Nat × Nat) := match o.op, o.dst, o.guard with | .extract (.tmp t) 0, some d, none => some (t, d) | _, _, _ => none
def opEn (o : Oper) : Option (Nat × Nat) := match o.op, o.dst, o.guard with | .entry (.tmp t), some d, none => some (t, d) | _, _, _ => none
def opAs (o : Oper) : Option (Nat × Nat) := match o.op, o.dst, o.guard with | .assign (.tmp t), some d, none => some (t, d) | _, _, _ => none
theorem opMv_ok {o : Oper} {t d : Nat} (h : opMv o = some (t, d)) : o.op = .move (.tmp t) ∧ o.dst = some d ∧ o.guard = none := by
  unfold opMv at h; split at h
  · rename_i h1 h2 h3; cases h; exact ⟨h1, h2, h3⟩
  · cases h
theorem opRg_ok {P : Program} {o : Oper} {t d : Nat} (h : opRg P o = some (t, d)) : (∃ ty k e, o.op = .range ty (.tmp t) ∧ P.underlying ty = some (.map k e)) ∧ o.dst = some d ∧ o.guard = none := by
  unfold opRg at h; split at h
  · rename_i h1 h2 h3; split at h
    · rename_i h4; cases h; exact ⟨⟨_, _, _, h1, h4⟩, h2, h3⟩
    · cases h
  · cases h
theorem opNx_ok {o : Oper} {t d : Nat} (h : opNx o = some (t, d)) : o.op = .next (.tmp t) false ∧ o.dst = some d ∧ o.guard = none := by
  unfold opNx at h; split at h
  · rename_i h1 h2 h3; cases h; exact ⟨h1, h2, h3⟩
  · cases h
theorem opEx_ok {o : Oper} {t d : Nat} (h : opEx o = some (t, d)) : o.op = .extract (.tmp t) 0 ∧ o.dst = some d ∧ o.guard = none := by
  unfold opEx at h; split at h
  · rename_i h1 h2 h3; cases h; exact ⟨h1, h2, h3⟩
  · cases h
theorem opEn_ok {o : Oper} {t d : Nat} (h : opEn o = some (t, d)) : o.op = .entry (.tmp t) ∧ o.dst = some d ∧ o.guard = none := by
  unfold opEn at h; split at h
  · rename_i h1 h2 h3; cases h; exact ⟨h1, h2, h3⟩
  · cases h
theorem opAs_ok {o : Oper} {t d : Nat} (h : opAs o = some (t, d)) : o.op = .assign (.tmp t) ∧ o.dst = some d ∧ o.guard = none := by
  unfold opAs at h; split at h
  · rename_i h1 h2 h3; cases h; exact ⟨h1, h2, h3⟩
  · cases h
/-- The slots of such a loop. -/
def rngOf (P : Program) (N : Nat) (l1 l2 l3 : List Oper) (c : Nat) : Option RngP := match l1, l2, l3 with
  | [o1, o2], [o3, o4], [o5, o6, o7] => match opMv o1, opRg P o2, opNx o3, opEx o4, opEn o5, opEx o6, opAs o7 with
    | some (t, d1), some (s1, d2), some (s2, d3), some (s3, d4), some (s4, d5), some (s5, d6), some (s6, v) =>
      if (s1 = d1 ∧ s2 = d2 ∧ s3 = d3 ∧ s4 = d2 ∧ s5 = d5 ∧ s6 = d6 ∧ c = d4) ∧ (d1 < N ∧ d2 < N ∧ d3 < N ∧ d4 < N ∧ d5 < N ∧ d6 < N ∧ v < N) ∧ (t ≠ d1 ∧ t ≠ d2 ∧ t ≠ d3 ∧ t ≠ d4 ∧ d2 ≠ d3 ∧ d2 ≠ d4 ∧ v ≠ d5) then some ⟨t, d1, d2, d3, d4, d5, d6, v⟩ else none
    | _, _, _, _, _, _, _ => none
  | _, _, _ => none
theorem rngOf_ok {P : Program} {N : Nat} {l1 l2 l3 : List Oper} {c : Nat} {p : RngP} (h : rngOf P N l1 l2 l3 c = some p) : ∃ o1 o2 o3 o4 o5 o6 o7, l1 = [o1, o2] ∧ l2 = [o3, o4] ∧ l3 = [o5, o6, o7] ∧ c = p.d4 ∧ RngOps P N p o1 o2 o3 o4 o5 o6 o7 := by
  unfold rngOf at h
  split at h
  · rename_i o1 o2 o3 o4 o5 o6 o7
    split at h
    · rename_i h1 h2 h3 h4 h5 h6 h7
      split at h
      · rename_i hq
        cases h
        obtain ⟨⟨rfl, rfl, rfl, rfl, rfl, rfl, rfl⟩, q2, q3⟩ := hq
        exact ⟨_, _, _, _, _, _, _, rfl, rfl, rfl, rfl, ⟨opMv_ok h1, opRg_ok h2, opNx_ok h3, opEx_ok h4, opEn_ok h5, opEx_ok h6, opAs_ok h7, q2, q3⟩⟩
      · cases h
    · cases h
  · cases h
def rngNode (P : Program) (N : Nat) (a b : Code) : Option (RngP × Code) := match a, b with
  | .region _ ops1 false, .block id (.loop (.seq (.region _ ops2 false) (.seq (.cond (.tmp c) .skip (.exit id')) (.block _ (.seq (.region _ ops3 false) x))))) =>
    if id' = id then (match rngOf P N ops1.toList ops2.toList ops3.toList c with
      | some p => some (p, x)
      | none => none) else none
  | _, _ => none
def compC2 (P : Program) (N : Nat) : Code → List Ann → Option (IC × List Ann)
  | .seq a b, an => match rngNode P N a b with
    | some (p, x) => (match compC P N x an with
      | some (ix, an) => some (cRng p ix, an)
      | none => none)
    | none => match compC2 P N a an with
      | some (x, an) => match compC2 P N b an with
        | some (y, an) => some (cSeq x y, an)
        | none => none
      | none => none
  | .cond c a b, an => match compC2 P N a an with
    | some (x, an) => match compC2 P N b an with
      | some (y, an) => some (cCond c x y, an)
      | none => none
    | none => none
  | .block id a, an => match compC2 P N a an with
    | some (x, an) => some (cBlock id x, an)
    | none => none
  | .loop a, an => match compC2 P N a an with
    | some (x, an) => some (cLoop x, an)
    | none => none
  | .skip, an => compC P N .skip an
  | .region i ops d, an => compC P N (.region i ops d) an
  | .exit id, an => compC P N (.exit id) an
  | .ret, an => compC P N .ret an
  | _, _ => none

set_option maxHeartbeats 2000000 in
theorem awp2_sound {P : Program} {N : Nat} (hm : P.follows .mixedOrders = true) : ∀ (c : Code) (an an' : List Ann) (ic : IC), compC2 P N c an = some (ic, an') → ∀ (base : Nat → Prop) (w0 : World) (I0 : Still) (st : St) (R : AX → St → Prop) (Q : Exit → Act → World → Prop) (a : Act) (w : World),
    ic st R → Rel base w0 I0 N st.F a w → (∀ e st' a' w', R e st' → Rel base w0 I0 N st'.F a' w' → Q (exitOf e) a' w') → c.wp P Q a w := by
  intro c
  induction c with
  | skip => intro an an' ic hc base w0 I0 st R Q a w h hr hQ; exact awp_sound hm _ an an' ic hc st R Q a w h hr hQ
  | region id ops draw => intro an an' ic hc base w0 I0 st R Q a w h hr hQ; exact awp_sound hm _ an an' ic hc st R Q a w h hr hQ
  | exit id => intro an an' ic hc base w0 I0 st R Q a w h hr hQ; exact awp_sound hm _ an an' ic hc st R Q a w h hr hQ
  | ret => intro an an' ic hc base w0 I0 st R Q a w h hr hQ; exact awp_sound hm _ an an' ic hc st R Q a w h hr hQ
  | seq x y ihx ihy =>
    intro an an' ic hc base w0 I0 st R Q a w h hr hQ
    simp only [compC2] at hc
    split at hc
    · rename_i p bd hn
      split at hc
      · rename_i ix an1 h1
        cases hc
        unfold rngNode at hn
        split at hn
        · split at hn
          · rename_i hid
            subst hid
            split at hn
            · rename_i p' hp
              cases hn
              obtain ⟨o1, o2, o3, o4, o5, o6, o7, e1, e2, e3, rfl, ho⟩ := rngOf_ok hp
              exact rng_sound ho e1 e2 e3 (fun base w0 I0 st R Q a w h hr hQ => awp_sound hm _ an an' ix h1 st R Q a w h hr hQ) h hr hQ
            · cases hn
          · cases hn
        · cases hn
      · cases hc
    · split at hc
      · rename_i ix an1 h1
        split at hc
        · rename_i iy an2 h2
          cases hc
          refine wp_seq (ihx an an1 ix h1 _ _ _ st _ _ a w h hr fun e st' a' w' hR hr' => ?_)
          match e, hR with
          | none, hR => exact ihy an1 an' iy h2 _ _ _ st' R Q a' w' hR hr' hQ
          | some (some i), hR => exact hQ (some (some i)) st' a' w' hR hr'
          | some none, hR => exact hQ (some none) st' a' w' hR hr'
        · cases hc
      · cases hc
  | cond c x y ihx ihy =>
    intro an an' ic hc base w0 I0 st R Q a w h hr hQ
    simp only [compC2] at hc
    split at hc
    · rename_i ix an1 h1
      split at hc
      · rename_i iy an2 h2
        cases hc
        obtain ⟨q, hq, h⟩ := h
        have he : a.eval c = .bool q := by
          obtain ⟨I, ρ, hr⟩ := hr
          exact plain_of (rd_rep hq (fun y hy => hr.tm y.1 y.2 (rd_ok hq y hy)))
        refine wp_cond he ?_
        split at h
        · rename_i e; rw [if_pos e]; exact ihx an an1 ix h1 _ _ _ st R Q a w h hr hQ
        · rename_i e; rw [if_neg e]; exact ihy an1 an' iy h2 _ _ _ st R Q a w h hr hQ
      · cases hc
    · cases hc
  | block id x ihx =>
    intro an an' ic hc base w0 I0 st R Q a w h hr hQ
    simp only [compC2] at hc
    split at hc
    · rename_i ix an1 h1
      cases hc
      refine wp_block (ihx an an' ix h1 _ _ _ st _ _ a w h hr fun e st' a' w' hR hr' => ?_)
      match e, hR with
      | none, hR => exact hQ none st' a' w' hR hr'
      | some (some i), hR =>
        simp only [blk] at hR
        show Exit.inBlock id Q (.exit i) a' w'
        simp only [Exit.inBlock]
        split at hR
        · rename_i e; rw [if_pos e]; exact hQ none st' a' w' hR hr'
        · rename_i e; rw [if_neg e]; exact hQ (some (some i)) st' a' w' hR hr'
      | some none, hR => exact hQ (some none) st' a' w' hR hr'
    · cases hc
  | loop x ihx =>
    intro an an' ic hc base w0 I0 st R Q a w h hr hQ
    simp only [compC2] at hc
    split at hc
    · rename_i ix an1 h1
      cases hc
      obtain ⟨J, ⟨n0, st0, hle0, hJ0⟩, hround⟩ := h
      refine wp_loop_of (M := fun a w n => ∃ st, J n st ∧ Rel base w0 I0 N st.F a w) ?_ ⟨st0, hJ0, hle0 _ _ _ _ _ _ hr⟩
      rintro n a w ⟨st, hJ, hr⟩
      refine ihx an an' ix h1 _ _ _ st _ _ a w (hround n st hJ) hr (fun e st' a' w' hR hr' => ?_)
      match e, hR with
      | none, hR => obtain ⟨m, st'', hmn, hle, hJm⟩ := hR; exact ⟨m, hmn, st'', hJm, hle _ _ _ _ _ _ hr'⟩
      | some (some i), hR => exact hQ (some (some i)) st' a' w' hR hr'
      | some none, hR => exact hQ (some none) st' a' w' hR hr'
    · cases hc
  | _ => intro an an' ic hc; simp [compC2] at hc

section
variable {P : Program}
set_option maxHeartbeats 1000000 in
/-- A function tells what its code, as plain data, tells. -/
theorem told_of2 (hm : P.follows .mixedOrders = true) {f : FuncId} {fn : Func} {c : Code} {ic : IC} {an : List Ann} {rvs : List RV} {args r : List D} (hf : P.funcs[f]? = some fn) (hb : fn.body = some c) (hc : compC2 P fn.ntmps c an = some (ic, [])) (hrv : compR P fn.results.toList = some rvs) (hl : args.length ≤ fn.ntmps ∧ fn.ntmps ≤ 100000)
    (h : ic (start args) (fin rvs r)) : Told P f args r := by
  intro w I vs hv hlt
  have hvl : vs.length = args.length := hv.1.symm
  refine calls_of_wp hf hb ?_
  have hsz : (vs.toArray ++ Array.replicate (fn.ntmps - vs.toArray.size) undef).size = fn.ntmps := by simp; have := hl.1; omega
  have hstart : Rel (fun b => b < w.heap.size) w I fn.ntmps (start args).F { tmps := vs.toArray ++ Array.replicate (fn.ntmps - vs.toArray.size) undef, defers := [] } w := by
    refine ⟨I, fun _ => none, ⟨rfl, hsz, fun s v hs => ?_, hl.2, (fun b off x hx => by simp [start, St.F, lookF] at hx), (fun b cs hb => by simp [start, St.F, look] at hb), (fun b b' g h => by cases h), fun _ _ => rfl, (fun s o e z hx => by simp [start, St.F, lookF] at hx), (fun s o s' o' x x' u u' g hx => by simp [start, St.F, lookF] at hx), hlt, fun b j h => .inl h, Kept.refl _ _, fun _ h => h, fun b j h => ⟨h, rfl⟩⟩⟩
    obtain ⟨c, rfl, _, h3⟩ := look_startT args 0 s v hs
    rw [Nat.sub_zero] at h3
    obtain ⟨u, h4, h5⟩ := hv.at h3
    refine ⟨u, ?_, .inl h5⟩
    have hsl : s < vs.length := (List.getElem?_eq_some_iff.1 h4).1
    rw [Array.getElem?_append_left (by simpa using hsl)]
    simpa using h4
  refine awp2_sound hm c an [] ic hc _ _ _ (start args) _ _ _ w h hstart fun e st' a' w' hR hr' => ?_
  obtain ⟨he, cs, h1, h2⟩ : (e = none ∨ e = some none) ∧ ∃ cs, resA st' rvs = some cs ∧ ValsLe cs r := by
    match e, hR with
    | none, hR => exact ⟨.inl rfl, hR⟩
    | some (some i), hR => exact hR.elim
    | some none, hR => exact ⟨.inr rfl, hR⟩
  obtain ⟨I', ρ, hr⟩ := hr'
  obtain ⟨us, q1, q2⟩ := run_results (P := P) hr fn.results.toList rvs cs hrv h1
  have q3 := h2.rep q2
  have hrun : (results fn a'.tmps).run P w' = .ok (if h : us.toArray.size = 1 then us.toArray[0] else .tuple us.toArray) w' := by
    unfold results
    rw [Sem.run_bind, Array.mapM_eq_mapM_toList]
    refine (congrArg (fun r => Result.andThen r _) (run_toArray q1)).trans ?_
    rfl
  have hfin : RRep (fun b j => I b j ∨ (w.heap.size ≤ b ∧ b < w'.heap.size)) w' r (if h : us.toArray.size = 1 then us.toArray[0] else .tuple us.toArray) := by
    refine RRep.keep (I := I') ?_ (fun b j hi => ?_)
    · unfold RRep
      split
      · rename_i c0
        have hus : us.length = 1 := by rw [← q3.1]; rfl
        rw [dif_pos (by simpa using hus)]
        exact q3.2 0 c0 _ rfl (by simp [List.getElem?_eq_getElem (show 0 < us.length by omega)])
      · rename_i hne
        have hus : us.length ≠ 1 := by
          rw [← q3.1]
          intro e
          match r, e with
          | [c0], _ => exact hne c0 rfl
        rw [dif_neg (by simpa using hus)]
        exact ⟨us, rfl, q3⟩
    · rcases hr.sub b j hi with q | q
      · exact .inl q
      · exact .inr ⟨Nat.le_of_not_lt q, hr.lt b j hi⟩
  have hgoal : a'.defers = [] ∧ ∃ v, (results fn a'.tmps).run P w' = .ok v w' ∧ ∃ v', Ending.returned v = .returned v' ∧ RRep (fun b j => I b j ∨ (w.heap.size ≤ b ∧ b < w'.heap.size)) w' r v' ∧ Below w.heap.size w w' := ⟨hr.defers, _, hrun, _, rfl, hfin, hr.below.below⟩
  rcases he with rfl | rfl
  · exact hgoal
  · exact hgoal
end
end Go.Proofs.Ytnncmddmjpocfab.ab

/-
  Functions as plain code (written by wip/abs/ir.py): lklaw6.RecvSays.
-/
namespace Go.Proofs.Ytnncmddmjpocfab.ab
set_option linter.unusedSimpArgs false
set_option linter.unusedVariables false
set_option maxRecDepth 100000
open Go Go.RowKit

def w6_RecvSays_r0 : IC := cReg Try.prog [
    ⟨some 2, none, iMov 2 (.const (.bool false)) true⟩] [0] []
def w6_RecvSays_r1 : IC := cReg Try.prog [
    ⟨some 16, none, iCall 16 24 []⟩,
    ⟨some 17, none, iNot 17 (.tmp 16)⟩] [0, 17] []
def w6_RecvSays_r2 : IC := cReg Try.prog [
    ⟨some 2, none, iMov 2 (.const (.bool false)) true⟩] [2] []
def w6_RecvSays_c1a : IC := (cSeq w6_RecvSays_r2 cRet)
def w6_RecvSays_c1 : IC := cCond (.tmp 17) w6_RecvSays_c1a cSkip
def w6_RecvSays_r3 : IC := cReg Try.prog [
    ⟨some 18, none, iMkM 18⟩,
    ⟨some 3, none, iMov 3 (.tmp 18) true⟩] [0, 3] [200018]
def w6_RecvSays_r4 : IC := cReg Try.prog [
    ⟨some 4, none, iAlo 4 [vD (.int .i64 0), vD (.slice none 0 0), vD (.int .i64 0), vD (.int .i64 0), vD (.int .i64 0), vD (.slice none 0 0), vD (.slice none 0 0), vD (.bool false)]⟩] [0, 3, 4] [4, 200018]
def w6_RecvSays_r5 : IC := cReg Try.prog [
    ⟨some 19, none, iMov 19 (.tmp 0) false⟩,
    ⟨some 20, none, iLen 20 false (.tmp 19)⟩,
    ⟨some 21, none, iMov 21 (.const (.int .i64 0)) false⟩] [3, 4, 19, 20, 21] [4, 200018]
def w6_RecvSays_r6 : IC := cReg Try.prog [
    ⟨some 22, none, iBin 22 .lss (.tmp 21) (.tmp 20)⟩] [3, 4, 19, 20, 21, 22] [4, 200018]
def w6_RecvSays_c4 : IC := cCond (.tmp 22) cSkip (cExit 0)
def w6_RecvSays_r7 : IC := cReg Try.prog [
    ⟨some 23, none, iIaS 23 6 (.tmp 19) (.tmp 21)⟩,
    ⟨some 24, none, iLoad 24 6 true (.tmp 23) false⟩,
    ⟨some 6, none, iAlo 6 [vD (.int .i64 0), vD (.int .i64 0), vD (.int .i64 0), vD (.int .i64 0), vD (.slice none 0 0), vD (.slice none 0 0)]⟩,
    ⟨none, none, iStor 6 (.tmp 6) (.tmp 24)⟩] [3, 4, 6, 19, 20, 21] [4, 6, 200018]
def w6_RecvSays_r8 : IC := cReg Try.prog [
    ⟨some 25, none, iLoad 25 6 true (.tmp 6) false⟩,
    ⟨some 26, none, iCall 26 16 [(.tmp 25)]⟩,
    ⟨some 27, none, iBin 27 .neq (.tmp 26) (.const (.int .i64 0))⟩,
    ⟨some 28, none, iMov 28 (.tmp 27) false⟩,
    ⟨some 29, some (28, false), iFad 29 0 (.tmp 6)⟩,
    ⟨some 30, some (28, false), iLoad 30 1 false (.tmp 29) false⟩,
    ⟨some 31, some (28, false), iBin 31 .neq (.tmp 30) (.const (.int .i64 1))⟩,
    ⟨some 32, none, iPick 32 (.tmp 28) (.const (.bool true)) (.tmp 31)⟩] [3, 4, 6, 19, 20, 21, 32] [4, 6, 200018]
def w6_RecvSays_r9 : IC := cReg Try.prog [
    ⟨some 2, none, iMov 2 (.const (.bool true)) true⟩] [2] []
def w6_RecvSays_c6a : IC := (cSeq w6_RecvSays_r9 cRet)
def w6_RecvSays_c6 : IC := cCond (.tmp 32) w6_RecvSays_c6a cSkip
def w6_RecvSays_r10 : IC := cReg Try.prog [
    ⟨some 33, none, iFad 33 1 (.tmp 6)⟩,
    ⟨some 34, none, iLoad 34 1 false (.tmp 33) false⟩,
    ⟨some 35, none, iFad 35 0 (.tmp 4)⟩,
    ⟨some 36, none, iLoad 36 1 false (.tmp 35) false⟩,
    ⟨some 37, none, iBin 37 .eql (.tmp 34) (.tmp 36)⟩,
    ⟨some 38, none, iMov 38 (.tmp 37) false⟩,
    ⟨some 39, some (38, false), iFad 39 1 (.tmp 4)⟩,
    ⟨some 40, some (38, false), iLoad 40 1 false (.tmp 39) false⟩,
    ⟨some 41, some (38, false), iLen 41 false (.tmp 40)⟩,
    ⟨some 42, some (38, false), iBin 42 .lss (.tmp 41) (.const (.int .i64 3))⟩,
    ⟨some 43, none, iPick 43 (.tmp 38) (.const (.bool true)) (.tmp 42)⟩,
    ⟨some 7, none, iMov 7 (.tmp 43) true⟩] [3, 4, 6, 7, 19, 20, 21] [4, 6, 200018]
def w6_RecvSays_r11 : IC := cReg Try.prog [
    ⟨some 44, none, iMov 44 (.tmp 3) false⟩,
    ⟨some 45, none, iFad 45 1 (.tmp 6)⟩,
    ⟨some 46, none, iLoad 46 1 false (.tmp 45) false⟩,
    ⟨none, none, iUpd (.tmp 44) (.tmp 46) (.const (.bool true))⟩] [3, 4, 6, 7, 19, 20, 21] [4, 6, 200018]
def w6_RecvSays_r12 : IC := cReg Try.prog [
    ⟨some 47, none, iLoad 47 8 true (.tmp 4) false⟩,
    ⟨some 48, none, iLoad 48 6 true (.tmp 6) false⟩,
    ⟨some 49, none, iCall 49 22 [(.tmp 47), (.tmp 48)]⟩,
    ⟨none, none, iStor 8 (.tmp 4) (.tmp 49)⟩] [3, 4, 6, 7, 19, 20, 21] [4, 6, 200018]
def w6_RecvSays_r13 : IC := cReg Try.prog [
    ⟨some 51, none, iLoad 51 8 true (.tmp 4) false⟩,
    ⟨some 52, none, iCall 52 18 [(.tmp 51)]⟩,
    ⟨some 50, none, iMov 50 (.tmp 52) false⟩,
    ⟨some 53, none, iExt 53 (.tmp 50) 0⟩,
    ⟨some 54, none, iExt 54 (.tmp 50) 1⟩,
    ⟨some 55, none, iExt 55 (.tmp 50) 2⟩,
    ⟨some 8, none, iAlo 8 [vD (.int .i64 0), vD (.slice none 0 0), vD (.int .i64 0), vD (.int .i64 0), vD (.int .i64 0), vD (.slice none 0 0), vD (.slice none 0 0), vD (.bool false)]⟩,
    ⟨some 9, none, iAlo 9 [vD (.int .i64 0), vD (.int .i64 0), vD (.int .i64 0), vD (.int .i64 0), vD (.slice none 0 0), vD (.slice none 0 0)]⟩,
    ⟨none, none, iStor 8 (.tmp 8) (.tmp 53)⟩,
    ⟨none, none, iStor 6 (.tmp 9) (.tmp 54)⟩,
    ⟨some 10, none, iMov 10 (.tmp 55) true⟩] [3, 4, 6, 7, 8, 9, 10, 19, 20, 21] [4, 6, 8, 9, 200018]
def w6_RecvSays_r14 : IC := cReg Try.prog [
    ⟨some 56, none, iMov 56 (.tmp 10) false⟩,
    ⟨some 57, none, iNot 57 (.tmp 56)⟩,
    ⟨some 58, none, iMov 58 (.tmp 57) false⟩,
    ⟨some 59, some (58, false), iFad 59 0 (.tmp 9)⟩,
    ⟨some 60, some (58, false), iLoad 60 1 false (.tmp 59) false⟩,
    ⟨some 61, some (58, false), iBin 61 .neq (.tmp 60) (.const (.int .i64 2))⟩,
    ⟨some 62, none, iPick 62 (.tmp 58) (.const (.bool true)) (.tmp 61)⟩,
    ⟨some 63, none, iMov 63 (.tmp 62) false⟩,
    ⟨some 64, some (63, false), iFad 64 7 (.tmp 8)⟩,
    ⟨some 65, some (63, false), iLoad 65 1 false (.tmp 64) false⟩,
    ⟨some 66, none, iPick 66 (.tmp 63) (.const (.bool true)) (.tmp 65)⟩] [3, 4, 6, 7, 9, 19, 20, 21, 66] [4, 6, 9, 200018]
def w6_RecvSays_r15 : IC := cReg Try.prog [
    ⟨some 2, none, iMov 2 (.const (.bool false)) true⟩] [2] []
def w6_RecvSays_c7a : IC := (cSeq w6_RecvSays_r15 cRet)
def w6_RecvSays_c7 : IC := cCond (.tmp 66) w6_RecvSays_c7a cSkip
def w6_RecvSays_r16 : IC := cReg Try.prog [
    ⟨some 67, none, iMkM 67⟩,
    ⟨some 11, none, iMov 11 (.tmp 67) true⟩] [3, 4, 6, 7, 9, 11, 19, 20, 21] [4, 6, 9, 200018, 200067]
def w6_RecvSays_r17 : IC := cReg Try.prog [
    ⟨some 68, none, iFad 68 1 (.tmp 9)⟩,
    ⟨some 69, none, iLoad 69 1 false (.tmp 68) false⟩,
    ⟨some 70, none, iMov 70 (.const (.int .i64 0)) false⟩] [3, 4, 6, 7, 9, 11, 19, 20, 21, 69, 70] [4, 6, 9, 200018, 200067]
def w6_RecvSays_r18 : IC := cReg Try.prog [
    ⟨some 71, none, iBin 71 .lss (.tmp 70) (.tmp 69)⟩] [3, 4, 6, 7, 9, 11, 19, 20, 21, 69, 70, 71] [4, 6, 9, 200018, 200067]
def w6_RecvSays_c10 : IC := cCond (.tmp 71) cSkip (cExit 2)
def w6_RecvSays_r19 : IC := cReg Try.prog [
    ⟨some 72, none, iMov 72 (.tmp 70) false⟩,
    ⟨some 12, none, iMov 12 (.tmp 72) true⟩] [3, 4, 6, 7, 9, 11, 12, 19, 20, 21, 69, 70] [4, 6, 9, 200018, 200067]
def w6_RecvSays_r20 : IC := cReg Try.prog [
    ⟨some 73, none, iMov 73 (.tmp 11) false⟩,
    ⟨some 74, none, iMov 74 (.tmp 12) false⟩,
    ⟨none, none, iUpd (.tmp 73) (.tmp 74) (.const (.bool true))⟩] [3, 4, 6, 7, 9, 11, 19, 20, 21, 69, 70] [4, 6, 9, 200018, 200067]
def w6_RecvSays_b11 : IC := cBlock 3 (cSeq w6_RecvSays_r19 w6_RecvSays_r20)
def w6_RecvSays_r21 : IC := cReg Try.prog [
    ⟨some 75, none, iBin 75 .add (.tmp 70) (.const (.int .i64 1))⟩,
    ⟨some 70, none, iMov 70 (.tmp 75) false⟩] [3, 4, 6, 7, 9, 11, 19, 20, 21, 69, 70] [4, 6, 9, 200018, 200067]
def w6_RecvSays_l9a : IC := (cSeq w6_RecvSays_r18 (cSeq w6_RecvSays_c10 (cSeq w6_RecvSays_b11 w6_RecvSays_r21)))
def w6_RecvSays_l9 : IC := cLoop w6_RecvSays_l9a
def w6_RecvSays_b8 : IC := cBlock 2 w6_RecvSays_l9
def w6_RecvSays_r22 : IC := cReg Try.prog [
    ⟨some 76, none, iFad 76 5 (.tmp 9)⟩,
    ⟨some 77, none, iLoad 77 1 false (.tmp 76) false⟩,
    ⟨some 78, none, iLen 78 false (.tmp 77)⟩,
    ⟨some 79, none, iMov 79 (.const (.int .i64 0)) false⟩] [3, 4, 6, 7, 11, 19, 20, 21, 77, 78, 79] [4, 6, 200018, 200067]
def w6_RecvSays_r23 : IC := cReg Try.prog [
    ⟨some 80, none, iBin 80 .lss (.tmp 79) (.tmp 78)⟩] [3, 4, 6, 7, 11, 19, 20, 21, 77, 78, 79, 80] [4, 6, 200018, 200067]
def w6_RecvSays_c14 : IC := cCond (.tmp 80) cSkip (cExit 4)
def w6_RecvSays_r24 : IC := cReg Try.prog [
    ⟨some 81, none, iIaS 81 1 (.tmp 77) (.tmp 79)⟩,
    ⟨some 82, none, iLoad 82 1 false (.tmp 81) false⟩,
    ⟨some 14, none, iMov 14 (.tmp 82) true⟩] [3, 4, 6, 7, 11, 14, 19, 20, 21, 77, 78, 79] [4, 6, 200018, 200067]
def w6_RecvSays_r25 : IC := cReg Try.prog [
    ⟨some 83, none, iMov 83 (.tmp 11) false⟩,
    ⟨some 84, none, iMov 84 (.tmp 14) false⟩,
    ⟨none, none, iUpd (.tmp 83) (.tmp 84) (.const (.bool true))⟩] [3, 4, 6, 7, 11, 19, 20, 21, 77, 78, 79] [4, 6, 200018, 200067]
def w6_RecvSays_b15 : IC := cBlock 5 (cSeq w6_RecvSays_r24 w6_RecvSays_r25)
def w6_RecvSays_r26 : IC := cReg Try.prog [
    ⟨some 85, none, iBin 85 .add (.tmp 79) (.const (.int .i64 1))⟩,
    ⟨some 79, none, iMov 79 (.tmp 85) false⟩] [3, 4, 6, 7, 11, 19, 20, 21, 77, 78, 79] [4, 6, 200018, 200067]
def w6_RecvSays_l13a : IC := (cSeq w6_RecvSays_r23 (cSeq w6_RecvSays_c14 (cSeq w6_RecvSays_b15 w6_RecvSays_r26)))
def w6_RecvSays_l13 : IC := cLoop w6_RecvSays_l13a
def w6_RecvSays_b12 : IC := cBlock 4 w6_RecvSays_l13
def w6_RecvSays_r30 : IC := cReg Try.prog [
    ⟨some 92, none, iMov 92 (.tmp 3) false⟩,
    ⟨some 93, none, iMov 93 (.tmp 15) false⟩,
    ⟨some 94, none, iLku 94 (.bool false) (.tmp 92) (.tmp 93)⟩,
    ⟨some 95, none, iNot 95 (.tmp 94)⟩] [3, 4, 6, 7, 11, 19, 20, 21, 87, 95] [4, 6, 200018, 200067]
def w6_RecvSays_r31 : IC := cReg Try.prog [
    ⟨some 2, none, iMov 2 (.const (.bool false)) true⟩] [2] []
def w6_RecvSays_c16a : IC := (cSeq w6_RecvSays_r31 cRet)
def w6_RecvSays_c16 : IC := cCond (.tmp 95) w6_RecvSays_c16a cSkip
def w6_RecvSays_g1a : IC := (cSeq w6_RecvSays_r30 w6_RecvSays_c16)
def w6_RecvSays_g1 : IC := cRng ⟨11, 86, 87, 88, 89, 90, 91, 15⟩ w6_RecvSays_g1a
def w6_RecvSays_r32 : IC := cReg Try.prog [
    ⟨some 96, none, iMov 96 (.tmp 7) false⟩,
    ⟨some 97, none, iMov 97 (.tmp 96) false⟩,
    ⟨some 98, some (97, true), iMov 98 (.tmp 11) false⟩,
    ⟨some 99, some (97, true), iFad 99 1 (.tmp 6)⟩,
    ⟨some 100, some (97, true), iLoad 100 1 false (.tmp 99) false⟩,
    ⟨some 101, some (97, true), iLku 101 (.bool false) (.tmp 98) (.tmp 100)⟩,
    ⟨some 102, some (97, true), iNot 102 (.tmp 101)⟩,
    ⟨some 103, none, iPick 103 (.tmp 97) (.tmp 102) (.const (.bool false))⟩] [3, 4, 19, 20, 21, 103] [4, 200018]
def w6_RecvSays_r33 : IC := cReg Try.prog [
    ⟨some 2, none, iMov 2 (.const (.bool false)) true⟩] [2] []
def w6_RecvSays_c17a : IC := (cSeq w6_RecvSays_r33 cRet)
def w6_RecvSays_c17 : IC := cCond (.tmp 103) w6_RecvSays_c17a cSkip
def w6_RecvSays_b5 : IC := cBlock 1 (cSeq w6_RecvSays_r7 (cSeq (cSeq w6_RecvSays_r8 w6_RecvSays_c6) (cSeq w6_RecvSays_r10 (cSeq w6_RecvSays_r11 (cSeq w6_RecvSays_r12 (cSeq w6_RecvSays_r13 (cSeq (cSeq w6_RecvSays_r14 w6_RecvSays_c7) (cSeq w6_RecvSays_r16 (cSeq (cSeq w6_RecvSays_r17 w6_RecvSays_b8) (cSeq (cSeq w6_RecvSays_r22 w6_RecvSays_b12) (cSeq w6_RecvSays_g1 (cSeq w6_RecvSays_r32 w6_RecvSays_c17))))))))))))
def w6_RecvSays_r34 : IC := cReg Try.prog [
    ⟨some 104, none, iBin 104 .add (.tmp 21) (.const (.int .i64 1))⟩,
    ⟨some 21, none, iMov 21 (.tmp 104) false⟩] [3, 4, 19, 20, 21] [4, 200018]
def w6_RecvSays_l3a : IC := (cSeq w6_RecvSays_r6 (cSeq w6_RecvSays_c4 (cSeq w6_RecvSays_b5 w6_RecvSays_r34)))
def w6_RecvSays_l3 : IC := cLoop w6_RecvSays_l3a
def w6_RecvSays_b2 : IC := cBlock 0 w6_RecvSays_l3
def w6_RecvSays_r35 : IC := cReg Try.prog [
    ⟨some 2, none, iMov 2 (.const (.bool true)) true⟩] [2] []
def w6_RecvSays : IC := (cSeq w6_RecvSays_r0 (cSeq (cSeq w6_RecvSays_r1 w6_RecvSays_c1) (cSeq w6_RecvSays_r3 (cSeq w6_RecvSays_r4 (cSeq (cSeq w6_RecvSays_r5 w6_RecvSays_b2) (cSeq w6_RecvSays_r35 cRet))))))
theorem told_w6_RecvSays {args r : List D} (hl : args.length = 1) (h : w6_RecvSays (start args) (fin [(2, none)] r)) : Told Try.prog 5 args r :=
  told_of2 follows Try.func5 rfl (an := [([], [0], [], []), ([], [0, 17], [], []), ([], [2], [], []), ([], [0, 3], [200018], []), ([], [0, 3, 4], [4, 200018], []), ([], [3, 4, 19, 20, 21], [4, 200018], []), ([], [3, 4, 19, 20, 21, 22], [4, 200018], []), ([], [3, 4, 6, 19, 20, 21], [4, 6, 200018], []), ([], [3, 4, 6, 19, 20, 21, 32], [4, 6, 200018], []), ([], [2], [], []), ([], [3, 4, 6, 7, 19, 20, 21], [4, 6, 200018], []), ([], [3, 4, 6, 7, 19, 20, 21], [4, 6, 200018], []), ([], [3, 4, 6, 7, 19, 20, 21], [4, 6, 200018], []), ([], [3, 4, 6, 7, 8, 9, 10, 19, 20, 21], [4, 6, 8, 9, 200018], []), ([], [3, 4, 6, 7, 9, 19, 20, 21, 66], [4, 6, 9, 200018], []), ([], [2], [], []), ([], [3, 4, 6, 7, 9, 11, 19, 20, 21], [4, 6, 9, 200018, 200067], []), ([], [3, 4, 6, 7, 9, 11, 19, 20, 21, 69, 70], [4, 6, 9, 200018, 200067], []), ([], [3, 4, 6, 7, 9, 11, 19, 20, 21, 69, 70, 71], [4, 6, 9, 200018, 200067], []), ([], [3, 4, 6, 7, 9, 11, 12, 19, 20, 21, 69, 70], [4, 6, 9, 200018, 200067], []), ([], [3, 4, 6, 7, 9, 11, 19, 20, 21, 69, 70], [4, 6, 9, 200018, 200067], []), ([], [3, 4, 6, 7, 9, 11, 19, 20, 21, 69, 70], [4, 6, 9, 200018, 200067], []), ([], [3, 4, 6, 7, 11, 19, 20, 21, 77, 78, 79], [4, 6, 200018, 200067], []), ([], [3, 4, 6, 7, 11, 19, 20, 21, 77, 78, 79, 80], [4, 6, 200018, 200067], []), ([], [3, 4, 6, 7, 11, 14, 19, 20, 21, 77, 78, 79], [4, 6, 200018, 200067], []), ([], [3, 4, 6, 7, 11, 19, 20, 21, 77, 78, 79], [4, 6, 200018, 200067], []), ([], [3, 4, 6, 7, 11, 19, 20, 21, 77, 78, 79], [4, 6, 200018, 200067], []), ([], [3, 4, 6, 7, 11, 19, 20, 21, 87, 95], [4, 6, 200018, 200067], []), ([], [2], [], []), ([], [3, 4, 19, 20, 21, 103], [4, 200018], []), ([], [2], [], []), ([], [3, 4, 19, 20, 21], [4, 200018], []), ([], [2], [], [])]) (by kernel_rfl) (by kernel_rfl) (by rw [hl]; decide +kernel) h

end Go.Proofs.Ytnncmddmjpocfab.ab
