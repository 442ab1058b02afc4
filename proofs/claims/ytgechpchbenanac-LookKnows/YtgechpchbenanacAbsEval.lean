/-
  Plain code, carried out step by step. Nothing of the program.
-/
import Derived.Test.YtgechpchbenanacAbsHand
namespace Go.Proofs.Ytgechpchbenanac.ab
set_option linter.unusedSimpArgs false
set_option linter.unusedVariables false
open Go Go.RowKit

/-- The slot of an operand. -/
def osl : Operand → List Nat
  | .tmp t => [t]
  | _ => []
theorem rds_sl (x : Operand) (v : D) : (rds x v).map (·.1) = osl x := by cases x <;> rfl

section
variable {tm : List (Nat × D)} {bx : List (Nat × List D)} {fl : List ((Nat × Option Nat) × (Nat × Pay))}
theorem stepI_n (d : Option Nat) (i : Ins) (st : St) (r : List D) : stepI ⟨d, none, i⟩ st r = i st r := rfl
theorem stepI_g (d : Option Nat) (g : Nat) (want : Bool) (i : Ins) (st : St) (r : List D) : stepI ⟨d, some (g, want), i⟩ st r = (match look st.tm g with
    | some (.held (.inl (.bool b))) => if b = want then (match i st r with
      | some (ev, c) => some (ev.wait g (vB b), c)
      | none => none) else some (skipEv d [(g, vB b)], none)
    | some (.ptr (.agg [])) => some (skipEv d [(g, tD [])], none)
    | _ => none) := rfl
theorem app_v (d : Nat) (rs : List (Nat × D)) (v : D) : St.app ⟨tm, bx, fl⟩ (vEv d rs v) = ⟨(d, v) :: tm, bx, offP fl [(d, none)]⟩ := rfl
theorem app_b (d : Nat) (rs : List (Nat × D)) (rb : List (Nat × List D)) (v : D) : St.app ⟨tm, bx, fl⟩ (bEv d rs rb v) = ⟨(d, v) :: tm, bx, offP fl [(d, none)]⟩ := rfl
theorem app_h (d : Nat) (rs : List (Nat × D)) (rb : List (Nat × List D)) (s : Nat) (p : Option Nat) (x : Nat × Pay) (v : D) : St.app ⟨tm, bx, fl⟩ (hEv d rs rb s p x v) = ⟨(d, v) :: tm, bx, ((d, none), x) :: offP fl [(s, p), (d, none)]⟩ := rfl
theorem app_a (d s : Nat) (rs : List (Nat × D)) (e z : Nat) (es : List D) : St.app ⟨tm, bx, fl⟩ (appEv d s rs e z es) = ⟨(d, sD z es) :: tm, bx, ((d, none), (e, z, none)) :: offP fl [(s, none), (d, none)]⟩ := rfl
theorem app_a0 (d : Nat) (rs : List (Nat × D)) (e z : Nat) (es : List D) : St.app ⟨tm, bx, fl⟩ (app0Ev d rs e z es) = ⟨(d, sD z es) :: tm, bx, ((d, none), (e, z, none)) :: offP fl [(d, none)]⟩ := rfl
theorem app_s (d : Nat) (rs : List (Nat × D)) : St.app ⟨tm, bx, fl⟩ (skipEv (some d) rs) = ⟨(d, tD []) :: tm, bx, offP fl [(d, none)]⟩ := rfl
theorem app_u (rs : List (Nat × D)) (b : Nat) (cs cs' : List D) : St.app ⟨tm, bx, fl⟩ (updEv rs b cs cs') = ⟨tm, (b, cs') :: bx, offP fl []⟩ := rfl
theorem app_c (d s : Nat) (l : D) (f : Nat × Pay) (es : List D) : St.app ⟨tm, bx, fl⟩ (cstEv d s l f es) = ⟨(d, sD 1 es) :: tm, bx, offP fl [(s, none), (d, none)]⟩ := rfl
theorem fp_c (d s : Nat) (l : D) (f : Nat × Pay) (es : List D) : (cstEv d s l f es).fp = ⟨[s], [d], [], [], [(s, none), (s, none), (d, none)]⟩ := rfl
theorem app_k (d : Nat) : St.app ⟨tm, bx, fl⟩ (mkmEv d) = ⟨(d, hD (200000 + d)) :: tm, (200000 + d, []) :: bx, offP fl [(d, none)]⟩ := rfl
theorem app_ks (d z n : Nat) (rs : List (Nat × D)) (e : D) : St.app ⟨tm, bx, fl⟩ (mksEv d z n rs e) = ⟨(d, oD (100000 + d) n) :: tm, (100000 + d, [sD z (List.replicate n e)]) :: bx, offP fl [(d, none)]⟩ := rfl
theorem app_r (d s z : Nat) (rs : List (Nat × D)) (f : Nat × Pay) (fs : List D) : St.app ⟨tm, bx, fl⟩ (aprEv d s z rs (some f) fs) = ⟨(d, oD (100000 + d) fs.length) :: tm, (100000 + d, [sD z fs]) :: bx, offP fl [(s, none), (d, none)]⟩ := rfl
theorem fp_u (rs : List (Nat × D)) (b : Nat) (cs cs' : List D) : (updEv rs b cs cs').fp = ⟨rs.map (·.1), [], [b], [b], []⟩ := rfl
theorem fp_k (d : Nat) : (mkmEv d).fp = ⟨[], [d], [200000 + d], [200000 + d], [(d, none)]⟩ := rfl
theorem fp_ks (d z n : Nat) (rs : List (Nat × D)) (e : D) : (mksEv d z n rs e).fp = ⟨rs.map (·.1), [d], [100000 + d], [100000 + d], [(d, none)]⟩ := rfl
theorem fp_r (d s z : Nat) (rs : List (Nat × D)) (f : Nat × Pay) (fs : List D) : (aprEv d s z rs (some f) fs).fp = ⟨rs.map (·.1), [d], [100000 + d], [100000 + d], [(s, none), (s, none), (d, none)]⟩ := rfl
theorem frzP_r (b z z1 : Nat) (es es1 : List D) : frzP b z es [sD z1 es1] = some [sD z1 es1] := by rcases z1 with _ | _ | z1 <;> rfl
theorem frzP_n (b z : Nat) (es : List D) : frzP b z es [] = some [] := rfl
theorem frzP_a (b z : Nat) (es cs r : List D) : frzP b z es (aD cs :: r) = some (aD cs :: r) := rfl
theorem frzP_p (b z m b' n : Nat) (es es1 : List D) : frzP b z es [sD 1 es1, pD m 0, oD b' n] = if b' = b then (if n = es.length then some [sD 1 (es1.set m (sD z es))] else none) else some [sD 1 es1, pD m 0, oD b' n] := rfl
theorem refD_v (x : Value) : refD (vD x) = none := rfl
theorem refD_s (es l : List D) : refD (.slice es l) = none := rfl
theorem refD_a (cs : List D) : refD (aD cs) = none := rfl
theorem refD_t (xs : List D) : refD (tD xs) = none := rfl
theorem refD_e (cs : List D) (off : Nat) : refD (eD cs off) = none := by cases cs <;> rfl
theorem refD_p (b off : Nat) : refD (pD b off) = some b := rfl
theorem refD_o (b n : Nat) : refD (oD b n) = some b := rfl
theorem refD_h (b : Nat) : refD (hD b) = some b := rfl
theorem refD_x : refD xD = none := rfl
theorem refD_j (k f : Nat) (cs : List D) : refD (jD k f cs) = none := rfl
theorem refD_f (b f : Nat) : refD (fD b f) = some b := rfl
theorem dimC_v (x : Value) : dimC (vD x) = vD x := rfl
theorem dimC_s (es l : List D) : dimC (.slice es l) = .slice es l := rfl
theorem dimC_x : dimC xD = xD := rfl
theorem dimC_o (b n : Nat) : dimC (oD b n) = xD := rfl
theorem app_aN (d : Nat) (rs : List (Nat × D)) (e z : Nat) (es : List D) : St.app ⟨tm, bx, fl⟩ (app0HEv d rs e z es) = ⟨(d, xD) :: tm, bx, ((d, none), (e, z, some es)) :: offP fl [(d, none)]⟩ := rfl
theorem fp_aN (d : Nat) (rs : List (Nat × D)) (e z : Nat) (es : List D) : (app0HEv d rs e z es).fp = ⟨rs.map (·.1), [d], [], [], [(d, none), (d, none)]⟩ := rfl
theorem app_cu (d : Nat) (rs : List (Nat × D)) (b z : Nat) (es es' : List D) : St.app ⟨tm, bx, fl⟩ (callUEv d rs b z es es') = ⟨(d, oD b es'.length) :: tm, (b, [sD z es']) :: bx, offP fl [(d, none)]⟩ := rfl
theorem fp_cu (d : Nat) (rs : List (Nat × D)) (b z : Nat) (es es' : List D) : (callUEv d rs b z es es').fp = ⟨rs.map (·.1), [d], [b], [b], [(d, none)]⟩ := rfl
theorem refD_r (b lo z n : Nat) : refD (rD b lo z n) = some b := rfl
theorem app_aH (d s : Nat) (rs : List (Nat × D)) (e z : Nat) (es fs : List D) : St.app ⟨tm, bx, fl⟩ (apHEv d s rs e z es fs) = ⟨(d, xD) :: tm, bx, ((d, none), (e, z, some (es ++ fs))) :: offP fl [(s, none), (d, none)]⟩ := rfl
theorem app_o (d : Nat) (rs : List (Nat × D)) (r : D) (e z : Nat) (c : D) : St.app ⟨tm, bx, fl⟩ (outEv d rs r e z c) = ⟨(d, r) :: tm, bx, ((d, none), (e, z, unC c)) :: offP fl [(d, none)]⟩ := rfl
theorem app_i (d s : Nat) (rs : List (Nat × D)) (r : List D) (e z : Nat) (c : D) : St.app ⟨tm, bx, fl⟩ (innEv d s rs r e z c) = ⟨(d, res r) :: tm, bx, offP fl [(s, none), (d, none)]⟩ := rfl
theorem fp_aH (d s : Nat) (rs : List (Nat × D)) (e z : Nat) (es fs : List D) : (apHEv d s rs e z es fs).fp = ⟨rs.map (·.1), [d], [], [], [(s, none), (s, none), (d, none), (d, none)]⟩ := rfl
theorem fp_o (d : Nat) (rs : List (Nat × D)) (r : D) (e z : Nat) (c : D) : (outEv d rs r e z c).fp = ⟨rs.map (·.1), [d], [], [], [(d, none), (d, none)]⟩ := rfl
theorem fp_i (d s : Nat) (rs : List (Nat × D)) (r : List D) (e z : Nat) (c : D) : (innEv d s rs r e z c).fp = ⟨rs.map (·.1), [d], [], [], [(s, none), (s, none), (d, none)]⟩ := rfl
theorem funOf_p (f : Nat) : funOf (vD (.func (.func f) #[] #[])) = some (f, []) := rfl
theorem funOf_j (f : Nat) (cs : List D) : funOf (jD 1 f cs) = some (f, [jD 0 0 cs]) := rfl
theorem refD_q (b i z off : Nat) : refD (qD b i z off) = some b := rfl
/-- A step whose test came out: its test is read too. -/
theorem app_g (st : St) (ev : Ev) (g : Nat) (v : D) : St.app st (ev.wait g v) = St.app st ev := rfl
theorem app_m (rs : List (Nat × D)) (rb : List (Nat × List D)) (nb : List Nat) (rf : List ((Nat × Option Nat) × (Nat × Pay))) (ws : Option (Nat × Option D)) (wb : Option (Nat × List D)) (cf : List (Nat × Option Nat)) (sf : Option ((Nat × Option Nat) × (Nat × Pay))) :
    St.app ⟨tm, bx, fl⟩ ⟨rs, rb, nb, rf, ws, wb, cf, sf⟩ = ⟨(match ws with | some (d, some v) => (d, v) :: tm | some (d, none) => offT tm d | none => tm), (match wb with | some x => x :: bx | none => bx), (match sf with | some x => x :: offP fl cf | none => offP fl cf)⟩ := rfl
theorem fp_v (d : Nat) (rs : List (Nat × D)) (v : D) : (vEv d rs v).fp = ⟨rs.map (·.1), [d], [], [], [(d, none)]⟩ := rfl
theorem fp_b (d : Nat) (rs : List (Nat × D)) (rb : List (Nat × List D)) (v : D) : (bEv d rs rb v).fp = ⟨rs.map (·.1), [d], rb.map (·.1) ++ [], [], [(d, none)]⟩ := rfl
theorem fp_h (d : Nat) (rs : List (Nat × D)) (rb : List (Nat × List D)) (s : Nat) (p : Option Nat) (x : Nat × Pay) (v : D) : (hEv d rs rb s p x v).fp = ⟨rs.map (·.1), [d], rb.map (·.1) ++ [], [], [(s, p), (s, p), (d, none), (d, none)]⟩ := rfl
theorem fp_a (d s : Nat) (rs : List (Nat × D)) (e z : Nat) (es : List D) : (appEv d s rs e z es).fp = ⟨rs.map (·.1), [d], [], [], [(s, none), (s, none), (d, none), (d, none)]⟩ := rfl
theorem fp_a0 (d : Nat) (rs : List (Nat × D)) (e z : Nat) (es : List D) : (app0Ev d rs e z es).fp = ⟨rs.map (·.1), [d], [], [], [(d, none), (d, none)]⟩ := rfl
theorem fp_s (d : Nat) (rs : List (Nat × D)) : (skipEv (some d) rs).fp = ⟨rs.map (·.1), [d], [], [], [(d, none)]⟩ := rfl
theorem fp_g (ev : Ev) (g : Nat) (v : D) : (ev.wait g v).fp = ⟨g :: ev.fp.sr, ev.fp.sw, ev.fp.br, ev.fp.bw, ev.fp.fr⟩ := rfl
theorem fp_m (rs : List (Nat × D)) (rb : List (Nat × List D)) (nb : List Nat) (rf : List ((Nat × Option Nat) × (Nat × Pay))) (ws : Option (Nat × Option D)) (wb : Option (Nat × List D)) (cf : List (Nat × Option Nat)) (sf : Option ((Nat × Option Nat) × (Nat × Pay))) :
    Ev.fp ⟨rs, rb, nb, rf, ws, wb, cf, sf⟩ = ⟨rs.map (·.1), (match ws with | some x => [x.1] | none => []), rb.map (·.1) ++ nb, (match wb with | some x => [x.1] | none => []), rf.map (·.1) ++ cf ++ (match sf with | some x => [x.1] | none => [])⟩ := rfl
theorem mov_k (st : St) (d : Nat) (c : Value) (tr : Bool) (v : D) : movEv st d (.const c) tr v = vEv d [] v := rfl
theorem mov_fn (st : St) (d f : Nat) (tr : Bool) (v : D) : movEv st d (.func f) tr v = vEv d [] v := rfl
theorem mov_f (st : St) (d t : Nat) (v : D) : movEv st d (.tmp t) false v = vEv d [(t, v)] v := by simp [movEv]
theorem mov_t (st : St) (d t : Nat) (v : D) : movEv st d (.tmp t) true v = if t = d then vEv d [(t, v)] v else (match lookF st.fl (t, none) with | some f => hEv d [(t, v)] [] t none f v | none => vEv d [(t, v)] v) := by
  by_cases h : t = d
  · simp [movEv, h]
  · simp only [movEv, h, ne_eq, not_false_eq_true, and_self, if_true, if_false]
    cases lookF st.fl (t, none) <;> rfl
theorem load_f (st : St) (d : Nat) (x : Operand) (b off : Nat) (cs : List D) (r : D) : loadEv st d x b off cs false r = bEv d (rds x (pD b off)) [(b, cs)] r := by simp [loadEv]
theorem load_t (st : St) (d : Nat) (x : Operand) (b off : Nat) (cs : List D) (r : D) : loadEv st d x b off cs true r = if isL r = true then (match lookF st.fl (b, some off) with | some f => hEv d (rds x (pD b off)) [(b, cs)] b (some off) f r | none => bEv d (rds x (pD b off)) [(b, cs)] r) else bEv d (rds x (pD b off)) [(b, cs)] r := by
  by_cases h : isL r = true
  · simp only [loadEv, h, and_self, if_true]
    cases lookF st.fl (b, some off) <;> rfl
  · simp [loadEv, h]
end

section
variable {P : Program} {st st' : St} {Q : AX → St → Prop}
/-- The code, carried out. -/
theorem aw_reg {ops : List IOp} {lv lb : List Nat} (rs : List (List D)) {q : List (Nat × List D × List D)} (h : evalR ops lv lb rs st = some (st', q)) (ho : Obl P q) (hQ : Q none st') : cReg P ops lv lb st Q := ⟨rs, st', q, h, ho, hQ⟩
def evalRK (ops : List IOp) (lv lb : List Nat) (rs : List (List D)) (st : St) : Option (St × List Foot × List (Nat × List D × List D)) := match evalD ops rs st with
  | some (st', fs, q) => match st'.keep lv lb with
    | some st'' => some (st'', fs, q)
    | none => none
  | none => none
theorem aw_regD {ops : List IOp} {anc : List (List Nat)} {lv lb : List Nat} (rs : List (List D)) {fs : List Foot} {q : List (Nat × List D × List D)} (h : evalRK ops lv lb rs st = some (st', fs, q)) (hp : pairsOk anc fs = true) (ho : Obl P q) (hQ : Q none st') : cRegD P ops anc lv lb st Q := by
  refine ⟨rs, st', q, ?_, ho, hQ⟩
  unfold evalRK at h
  unfold evalRD
  split at h
  · rename_i st1 fs1 q1 he
    split at h
    · rename_i st2 hk
      cases h
      simp only [he, hk, hp]
    · cases h
  · cases h
theorem aw_seq {a b : IC} (h : a st (thn (fun st' => b st' Q) Q)) : cSeq a b st Q := h
theorem aw_block {id : Nat} {a : IC} (h : a st (blk id Q)) : cBlock id a st Q := h
theorem aw_ret (h : Q (some none) st) : cRet st Q := h
theorem aw_skip (h : Q none st) : cSkip st Q := h
theorem aw_exit {id : Nat} (h : Q (some (some id)) st) : cExit id st Q := h
theorem thn_normal {K : St → Prop} (h : K st) : thn K Q none st := h
theorem thn_out {K : St → Prop} {x : Option Nat} (h : Q (some x) st) : thn K Q (some x) st := h
theorem blk_normal {id : Nat} (h : Q none st) : blk id Q none st := h
theorem blk_ret {id : Nat} (h : Q (some none) st) : blk id Q (some none) st := h
theorem blk_exit {id : Nat} (h : Q none st) : blk id Q (some (some id)) st := by simp only [blk, if_true]; exact h
theorem aw_loop {a : IC} (J : Nat → St → Prop) (n0 : Nat) (st0 : St) (h0 : Le st st0) (hJ : J n0 st0) (h : ∀ n st, J n st → a st (thn (Next J n) Q)) : cLoop a st Q := ⟨J, ⟨n0, st0, h0, hJ⟩, h⟩
theorem le_loop {a : IC} {st st' : St} {Q : AX → St → Prop} (h : Le st st') (hl : cLoop a st' Q) : cLoop a st Q := by
  obtain ⟨J, ⟨n0, st0, h0, hJ⟩, h'⟩ := hl
  exact ⟨J, ⟨n0, st0, h.trans h0, hJ⟩, h'⟩
theorem vals_nil : ValsLe [] [] := trivial
theorem vals_cons {x y : D} {r r' : List D} (h : CVLe x y) (hr : ValsLe r r') : ValsLe (x :: r) (y :: r') := ⟨h, hr⟩
theorem row_nil : RowLe [] [] := trivial
theorem row_cons {x y : D} {r r' : List D} (h : LfLe x y) (hr : RowLe r r') : RowLe (x :: r) (y :: r') := ⟨h, hr⟩
theorem es_nil : EsLe [] [] := trivial
theorem es_cons {x y : D} {r r' : List D} (h : RowLe (cellsD x) (cellsD y)) (hr : EsLe r r') : EsLe (x :: r) (y :: r') := ⟨h, hr⟩
theorem obl_nil : Obl P [] := trivial
theorem bq_t (b : Bool) : (b == true) = b := by cases b <;> rfl
theorem bq_f (b : Bool) : (b == false) = !b := by cases b <;> rfl
/-- Something is reckoned out first. -/
def onR (x : Option (St × List (Nat × List D × List D))) (K : St → Prop) : Prop := ∃ st', x = some (st', []) ∧ K st'
def onD (x : Option (St × List Foot × List (Nat × List D × List D))) (anc : List (List Nat)) (K : St → Prop) : Prop := ∃ st' fs, x = some (st', fs, []) ∧ pairsOk anc fs = true ∧ K st'
def onB (x : Option Bool) (p r : Prop) : Prop := ∃ q, x = some q ∧ if q = true then p else r
def onF (x : Option (List D)) (r : List D) : Prop := ∃ cs, x = some cs ∧ ValsLe cs r
theorem aw_regO {ops : List IOp} {lv lb : List Nat} (h : onR (evalR ops lv lb [] st) (Q none)) : cReg P ops lv lb st Q := by
  obtain ⟨st', h1, h2⟩ := h
  exact ⟨[], st', [], h1, trivial, h2⟩
theorem aw_regDO {ops : List IOp} {anc : List (List Nat)} {lv lb : List Nat} (h : onD (evalRK ops lv lb [] st) anc (Q none)) : cRegD P ops anc lv lb st Q := by
  obtain ⟨st', fs, h1, h2, h3⟩ := h
  exact aw_regD [] h1 h2 trivial h3
theorem on_reg {K : St → Prop} (h : K st') : onR (some (st', [])) K := ⟨_, rfl, h⟩
theorem on_regD {anc : List (List Nat)} {fs : List Foot} {K : St → Prop} (hp : pairsOk anc fs = true) (h : K st') : onD (some (st', fs, [])) anc K := ⟨_, _, rfl, hp, h⟩
def asB : Option D → Option Bool
  | some (.held (.inl (.bool b))) => some b
  | _ => none
theorem aw_condO {c : Operand} {a b : IC} (h : onB (asB (rd st c)) (a st Q) (b st Q)) : cCond c a b st Q := by
  obtain ⟨q, h1, h2⟩ := h
  refine ⟨q, ?_, h2⟩
  unfold asB at h1
  split at h1
  · rename_i x hx; cases h1; exact hx
  · cases h1
theorem on_yes {p r : Prop} (h : p) : onB (some true) p r := ⟨true, rfl, by simpa using h⟩
theorem on_no {p r : Prop} (h : r) : onB (some false) p r := ⟨false, rfl, by simpa using h⟩
theorem fin_retO {rvs : List RV} {r : List D} (h : onF (resA st rvs) r) : fin rvs r (some none) st := h
theorem on_fin {cs r : List D} (h : ValsLe cs r) : onF (some cs) r := ⟨cs, rfl, h⟩
theorem obl_cons {f : Nat} {cs r : List D} {l : List (Nat × List D × List D)} (h : Told P f cs r) (hl : Obl P l) (hp : kindR r = none := by rfl) : Obl P ((f, cs, r) :: l) := ⟨⟨cs, ValsLe.refl cs, by unfold TellG; rw [hp]; exact h⟩, hl⟩
end
end Go.Proofs.Ytgechpchbenanac.ab
