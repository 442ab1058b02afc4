import Derived.Test.YtgaofjiidedcbadM17
import Derived.Test.YtgaofjiidedcbadM12
set_option linter.unusedVariables false
set_option linter.unusedSimpArgs false
namespace Go.Proofs.Ytgaofjiidedcbad.ab
open Go Go.RowKit
def osl : Operand → List Nat
 | .tmp t => [t]
 | _ => []
theorem rds_sl (x : Operand) (v : D) : (rds x v).map (·.1) = osl x:=by cases x <;> rfl
section
variable {tm : List (Nat × D)} {bx : List (Nat × List D)} {fl : List ((Nat × Option Nat) × (Nat × Pay))}
theorem stepI_n (d : Option Nat) (i : Ins) (st : St) (r : List D) : stepI ⟨d,none,i⟩ st r = i st r:=rfl
theorem stepI_g (d : Option Nat) (g : Nat) (want : Bool) (i : Ins) (st : St) (r : List D) : stepI ⟨d,some (g,want),i⟩ st r = (match look st.tm g with
  | some (.held (.inl (.bool b))) => if b = want then (match i st r with
   | some (ev,c) => some (ev.wait g (vB b),c)
   | none => none) else some (skipEv d [(g,vB b)],none)
  | some (.ptr (.agg [])) => some (skipEv d [(g,tD [])],none)
  | _ => none):=rfl
theorem app_v (d : Nat) (rs : List (Nat × D)) (v : D) : St.app ⟨tm,bx,fl⟩ (vEv d rs v) = ⟨(d,v) :: tm,bx,offP fl [(d,none)]⟩:=rfl
theorem app_b (d : Nat) (rs : List (Nat × D)) (rb : List (Nat × List D)) (v : D) : St.app ⟨tm,bx,fl⟩ (bEv d rs rb v) = ⟨(d,v) :: tm,bx,offP fl [(d,none)]⟩:=rfl
theorem app_h (d : Nat) (rs : List (Nat × D)) (rb : List (Nat × List D)) (s : Nat) (p : Option Nat) (x : Nat × Pay) (v : D) : St.app ⟨tm,bx,fl⟩ (hEv d rs rb s p x v) = ⟨(d,v) :: tm,bx,((d,none),x) :: offP fl [(s,p),(d,none)]⟩:=rfl
theorem app_a (d s : Nat) (rs : List (Nat × D)) (e z : Nat) (es : List D) : St.app ⟨tm,bx,fl⟩ (appEv d s rs e z es) = ⟨(d,sD z es) :: tm,bx,((d,none),(e,z,none)) :: offP fl [(s,none),(d,none)]⟩:=rfl
theorem app_a0 (d : Nat) (rs : List (Nat × D)) (e z : Nat) (es : List D) : St.app ⟨tm,bx,fl⟩ (app0Ev d rs e z es) = ⟨(d,sD z es) :: tm,bx,((d,none),(e,z,none)) :: offP fl [(d,none)]⟩:=rfl
theorem app_s (d : Nat) (rs : List (Nat × D)) : St.app ⟨tm,bx,fl⟩ (skipEv (some d) rs) = ⟨(d,tD []) :: tm,bx,offP fl [(d,none)]⟩:=rfl
theorem app_u (rs : List (Nat × D)) (b : Nat) (cs cs' : List D) : St.app ⟨tm,bx,fl⟩ (updEv rs b cs cs') = ⟨tm,(b,cs') :: bx,offP fl []⟩:=rfl
theorem app_c (d s : Nat) (l : D) (f : Nat × Pay) (es : List D) : St.app ⟨tm,bx,fl⟩ (cstEv d s l f es) = ⟨(d,sD 1 es) :: tm,bx,offP fl [(s,none),(d,none)]⟩:=rfl
theorem fp_c (d s : Nat) (l : D) (f : Nat × Pay) (es : List D) : (cstEv d s l f es).fp = ⟨[s],[d],[],[],[(s,none),(s,none),(d,none)]⟩:=rfl
theorem app_k (d : Nat) : St.app ⟨tm,bx,fl⟩ (mkmEv d) = ⟨(d,hD (200000 + d)) :: tm,(200000 + d,[]) :: bx,offP fl [(d,none)]⟩:=rfl
theorem app_ks (d z n : Nat) (rs : List (Nat × D)) (e : D) : St.app ⟨tm,bx,fl⟩ (mksEv d z n rs e) = ⟨(d,oD (100000 + d) n) :: tm,(100000 + d,[sD z (List.replicate n e)]) :: bx,offP fl [(d,none)]⟩:=rfl
theorem app_r (d s z : Nat) (rs : List (Nat × D)) (f : Nat × Pay) (fs : List D) : St.app ⟨tm,bx,fl⟩ (aprEv d s z rs (some f) fs) = ⟨(d,oD (100000 + d) fs.length) :: tm,(100000 + d,[sD z fs]) :: bx,offP fl [(s,none),(d,none)]⟩:=rfl
theorem fp_u (rs : List (Nat × D)) (b : Nat) (cs cs' : List D) : (updEv rs b cs cs').fp = ⟨rs.map (·.1),[],[b],[b],[]⟩:=rfl
theorem fp_k (d : Nat) : (mkmEv d).fp = ⟨[],[d],[200000 + d],[200000 + d],[(d,none)]⟩:=rfl
theorem fp_ks (d z n : Nat) (rs : List (Nat × D)) (e : D) : (mksEv d z n rs e).fp = ⟨rs.map (·.1),[d],[100000 + d],[100000 + d],[(d,none)]⟩:=rfl
theorem fp_r (d s z : Nat) (rs : List (Nat × D)) (f : Nat × Pay) (fs : List D) : (aprEv d s z rs (some f) fs).fp = ⟨rs.map (·.1),[d],[100000 + d],[100000 + d],[(s,none),(s,none),(d,none)]⟩:=rfl
theorem frzP_r (b z z1 : Nat) (es es1 : List D) : frzP b z es [sD z1 es1] = some [sD z1 es1]:=by rcases z1 with _ | _ | z1 <;> rfl
theorem frzP_n (b z : Nat) (es : List D) : frzP b z es [] = some []:=rfl
theorem frzP_a (b z : Nat) (es cs r : List D) : frzP b z es (aD cs :: r) = some (aD cs :: r):=rfl
theorem frzP_p (b z m b' n : Nat) (es es1 : List D) : frzP b z es [sD 1 es1,pD m 0,oD b' n] = if b' = b then (if n = es.length then some [sD 1 (es1.set m (sD z es))] else none) else some [sD 1 es1,pD m 0,oD b' n]:=rfl
theorem refD_v (x : Value) : refD (vD x) = none:=rfl
theorem refD_s (es l : List D) : refD (.slice es l) = none:=rfl
theorem refD_a (cs : List D) : refD (aD cs) = none:=rfl
theorem refD_t (xs : List D) : refD (tD xs) = none:=rfl
theorem refD_e (cs : List D) (off : Nat) : refD (eD cs off) = none:=by cases cs <;> rfl
theorem refD_p (b off : Nat) : refD (pD b off) = some b:=rfl
theorem refD_o (b n : Nat) : refD (oD b n) = some b:=rfl
theorem refD_h (b : Nat) : refD (hD b) = some b:=rfl
theorem refD_x : refD xD = none:=rfl
theorem refD_j (k f : Nat) (cs : List D) : refD (jD k f cs) = none:=rfl
theorem refD_f (b f : Nat) : refD (fD b f) = some b:=rfl
theorem dimC_v (x : Value) : dimC (vD x) = vD x:=rfl
theorem dimC_s (es l : List D) : dimC (.slice es l) = .slice es l:=rfl
theorem dimC_x : dimC xD = xD:=rfl
theorem dimC_o (b n : Nat) : dimC (oD b n) = xD:=rfl
theorem app_aN (d : Nat) (rs : List (Nat × D)) (e z : Nat) (es : List D) : St.app ⟨tm,bx,fl⟩ (app0HEv d rs e z es) = ⟨(d,xD) :: tm,bx,((d,none),(e,z,some es)) :: offP fl [(d,none)]⟩:=rfl
theorem fp_aN (d : Nat) (rs : List (Nat × D)) (e z : Nat) (es : List D) : (app0HEv d rs e z es).fp = ⟨rs.map (·.1),[d],[],[],[(d,none),(d,none)]⟩:=rfl
theorem app_cu (d : Nat) (rs : List (Nat × D)) (b z : Nat) (es es' : List D) : St.app ⟨tm,bx,fl⟩ (callUEv d rs b z es es') = ⟨(d,oD b es'.length) :: tm,(b,[sD z es']) :: bx,offP fl [(d,none)]⟩:=rfl
theorem fp_cu (d : Nat) (rs : List (Nat × D)) (b z : Nat) (es es' : List D) : (callUEv d rs b z es es').fp = ⟨rs.map (·.1),[d],[b],[b],[(d,none)]⟩:=rfl
theorem refD_r (b lo z n : Nat) : refD (rD b lo z n) = some b:=rfl
theorem app_aH (d s : Nat) (rs : List (Nat × D)) (e z : Nat) (es fs : List D) : St.app ⟨tm,bx,fl⟩ (apHEv d s rs e z es fs) = ⟨(d,xD) :: tm,bx,((d,none),(e,z,some (es ++ fs))) :: offP fl [(s,none),(d,none)]⟩:=rfl
theorem app_o (d : Nat) (rs : List (Nat × D)) (r : D) (e z : Nat) (c : D) : St.app ⟨tm,bx,fl⟩ (outEv d rs r e z c) = ⟨(d,r) :: tm,bx,((d,none),(e,z,unC c)) :: offP fl [(d,none)]⟩:=rfl
theorem app_i (d s : Nat) (rs : List (Nat × D)) (r : List D) (e z : Nat) (c : D) : St.app ⟨tm,bx,fl⟩ (innEv d s rs r e z c) = ⟨(d,res r) :: tm,bx,offP fl [(s,none),(d,none)]⟩:=rfl
theorem fp_aH (d s : Nat) (rs : List (Nat × D)) (e z : Nat) (es fs : List D) : (apHEv d s rs e z es fs).fp = ⟨rs.map (·.1),[d],[],[],[(s,none),(s,none),(d,none),(d,none)]⟩:=rfl
theorem fp_o (d : Nat) (rs : List (Nat × D)) (r : D) (e z : Nat) (c : D) : (outEv d rs r e z c).fp = ⟨rs.map (·.1),[d],[],[],[(d,none),(d,none)]⟩:=rfl
theorem fp_i (d s : Nat) (rs : List (Nat × D)) (r : List D) (e z : Nat) (c : D) : (innEv d s rs r e z c).fp = ⟨rs.map (·.1),[d],[],[],[(s,none),(s,none),(d,none)]⟩:=rfl
theorem funOf_p (f : Nat) : funOf (vD (.func (.func f) #[] #[])) = some (f,[]):=rfl
theorem funOf_j (f : Nat) (cs : List D) : funOf (jD 1 f cs) = some (f,[jD 0 0 cs]):=rfl
theorem refD_q (b i z off : Nat) : refD (qD b i z off) = some b:=rfl
theorem app_g (st : St) (ev : Ev) (g : Nat) (v : D) : St.app st (ev.wait g v) = St.app st ev:=rfl
theorem app_m (rs : List (Nat × D)) (rb : List (Nat × List D)) (nb : List Nat) (rf : List ((Nat × Option Nat) × (Nat × Pay))) (ws : Option (Nat × Option D)) (wb : Option (Nat × List D)) (cf : List (Nat × Option Nat)) (sf : Option ((Nat × Option Nat) × (Nat × Pay))) :
  St.app ⟨tm,bx,fl⟩ ⟨rs,rb,nb,rf,ws,wb,cf,sf⟩ = ⟨(match ws with | some (d,some v) => (d,v) :: tm | some (d,none) => offT tm d | none => tm),(match wb with | some x => x :: bx | none => bx),(match sf with | some x => x :: offP fl cf | none => offP fl cf)⟩:=rfl
theorem fp_v (d : Nat) (rs : List (Nat × D)) (v : D) : (vEv d rs v).fp = ⟨rs.map (·.1),[d],[],[],[(d,none)]⟩:=rfl
theorem fp_b (d : Nat) (rs : List (Nat × D)) (rb : List (Nat × List D)) (v : D) : (bEv d rs rb v).fp = ⟨rs.map (·.1),[d],rb.map (·.1) ++ [],[],[(d,none)]⟩:=rfl
theorem fp_h (d : Nat) (rs : List (Nat × D)) (rb : List (Nat × List D)) (s : Nat) (p : Option Nat) (x : Nat × Pay) (v : D) : (hEv d rs rb s p x v).fp = ⟨rs.map (·.1),[d],rb.map (·.1) ++ [],[],[(s,p),(s,p),(d,none),(d,none)]⟩:=rfl
theorem fp_a (d s : Nat) (rs : List (Nat × D)) (e z : Nat) (es : List D) : (appEv d s rs e z es).fp = ⟨rs.map (·.1),[d],[],[],[(s,none),(s,none),(d,none),(d,none)]⟩:=rfl
theorem fp_a0 (d : Nat) (rs : List (Nat × D)) (e z : Nat) (es : List D) : (app0Ev d rs e z es).fp = ⟨rs.map (·.1),[d],[],[],[(d,none),(d,none)]⟩:=rfl
theorem fp_s (d : Nat) (rs : List (Nat × D)) : (skipEv (some d) rs).fp = ⟨rs.map (·.1),[d],[],[],[(d,none)]⟩:=rfl
theorem fp_g (ev : Ev) (g : Nat) (v : D) : (ev.wait g v).fp = ⟨g :: ev.fp.sr,ev.fp.sw,ev.fp.br,ev.fp.bw,ev.fp.fr⟩:=rfl
theorem fp_m (rs : List (Nat × D)) (rb : List (Nat × List D)) (nb : List Nat) (rf : List ((Nat × Option Nat) × (Nat × Pay))) (ws : Option (Nat × Option D)) (wb : Option (Nat × List D)) (cf : List (Nat × Option Nat)) (sf : Option ((Nat × Option Nat) × (Nat × Pay))) :
  Ev.fp ⟨rs,rb,nb,rf,ws,wb,cf,sf⟩ = ⟨rs.map (·.1),(match ws with | some x => [x.1] | none => []),rb.map (·.1) ++ nb,(match wb with | some x => [x.1] | none => []),rf.map (·.1) ++ cf ++ (match sf with | some x => [x.1] | none => [])⟩:=rfl
theorem mov_k (st : St) (d : Nat) (c : Value) (tr : Bool) (v : D) : movEv st d (.const c) tr v = vEv d [] v:=rfl
theorem mov_fn (st : St) (d f : Nat) (tr : Bool) (v : D) : movEv st d (.func f) tr v = vEv d [] v:=rfl
theorem mov_f (st : St) (d t : Nat) (v : D) : movEv st d (.tmp t) false v = vEv d [(t,v)] v:=by simp [movEv]
theorem mov_t (st : St) (d t : Nat) (v : D) : movEv st d (.tmp t) true v = if t = d then vEv d [(t,v)] v else (match lookF st.fl (t,none) with | some f => hEv d [(t,v)] [] t none f v | none => vEv d [(t,v)] v):=by
 by_cases h : t = d
 ·simp [movEv,h]
 ·simp only [movEv,h,ne_eq,not_false_eq_true,and_self,if_true,if_false]
  cases lookF st.fl (t,none) <;> rfl
theorem load_f (st : St) (d : Nat) (x : Operand) (b off : Nat) (cs : List D) (r : D) : loadEv st d x b off cs false r = bEv d (rds x (pD b off)) [(b,cs)] r:=by simp [loadEv]
theorem load_t (st : St) (d : Nat) (x : Operand) (b off : Nat) (cs : List D) (r : D) : loadEv st d x b off cs true r = if isL r = true then (match lookF st.fl (b,some off) with | some f => hEv d (rds x (pD b off)) [(b,cs)] b (some off) f r | none => bEv d (rds x (pD b off)) [(b,cs)] r) else bEv d (rds x (pD b off)) [(b,cs)] r:=by
 by_cases h : isL r = true
 ·simp only [loadEv,h,and_self,if_true]
  cases lookF st.fl (b,some off) <;> rfl
 ·simp [loadEv,h]
end
section
variable {P : Program} {st st' : St} {Q : AX → St → Prop}
theorem aw_reg {ops : List IOp} {lv lb : List Nat} (rs : List (List D)) {q : List (Nat × List D × List D)} (h : evalR ops lv lb rs st = some (st',q)) (ho : Obl P q) (hQ : Q none st') : cReg P ops lv lb st Q:=⟨rs,st',q,h,ho,hQ⟩
def evalRK (ops : List IOp) (lv lb : List Nat) (rs : List (List D)) (st : St) : Option (St × List Foot × List (Nat × List D × List D)):=match evalD ops rs st with
 | some (st',fs,q) => match st'.keep lv lb with
  | some st'' => some (st'',fs,q)
  | none => none
 | none => none
theorem aw_regD {ops : List IOp} {anc : List (List Nat)} {lv lb : List Nat} (rs : List (List D)) {fs : List Foot} {q : List (Nat × List D × List D)} (h : evalRK ops lv lb rs st = some (st',fs,q)) (hp : pairsOk anc fs = true) (ho : Obl P q) (hQ : Q none st') : cRegD P ops anc lv lb st Q:=by
 refine ⟨rs,st',q,?_,ho,hQ⟩
 unfold evalRK at h
 unfold evalRD
 split at h
 ·rename_i st1 fs1 q1 he
  split at h
  ·rename_i st2 hk
   cases h
   simp only [he,hk,hp]
  ·cases h
 ·cases h
theorem aw_seq {a b : IC} (h : a st (thn (fun st' => b st' Q) Q)) : cSeq a b st Q:=h
theorem aw_block {id : Nat} {a : IC} (h : a st (blk id Q)) : cBlock id a st Q:=h
theorem aw_ret (h : Q (some none) st) : cRet st Q:=h
theorem aw_skip (h : Q none st) : cSkip st Q:=h
theorem aw_exit {id : Nat} (h : Q (some (some id)) st) : cExit id st Q:=h
theorem thn_normal {K : St → Prop} (h : K st) : thn K Q none st:=h
theorem thn_out {K : St → Prop} {x : Option Nat} (h : Q (some x) st) : thn K Q (some x) st:=h
theorem blk_normal {id : Nat} (h : Q none st) : blk id Q none st:=h
theorem blk_ret {id : Nat} (h : Q (some none) st) : blk id Q (some none) st:=h
theorem blk_exit {id : Nat} (h : Q none st) : blk id Q (some (some id)) st:=by simp only [blk,if_true]; exact h
theorem aw_loop {a : IC} (J : Nat → St → Prop) (n0 : Nat) (st0 : St) (h0 : Le st st0) (hJ : J n0 st0) (h : ∀ n st,J n st → a st (thn (Next J n) Q)) : cLoop a st Q:=⟨J,⟨n0,st0,h0,hJ⟩,h⟩
theorem le_loop {a : IC} {st st' : St} {Q : AX → St → Prop} (h : Le st st') (hl : cLoop a st' Q) : cLoop a st Q:=by
 obtain ⟨J,⟨n0,st0,h0,hJ⟩,h'⟩:=hl
 exact ⟨J,⟨n0,st0,h.trans h0,hJ⟩,h'⟩
theorem vals_nil : ValsLe [] []:=trivial
theorem vals_cons {x y : D} {r r' : List D} (h : CVLe x y) (hr : ValsLe r r') : ValsLe (x :: r) (y :: r'):=⟨h,hr⟩
theorem row_nil : RowLe [] []:=trivial
theorem row_cons {x y : D} {r r' : List D} (h : LfLe x y) (hr : RowLe r r') : RowLe (x :: r) (y :: r'):=⟨h,hr⟩
theorem es_nil : EsLe [] []:=trivial
theorem es_cons {x y : D} {r r' : List D} (h : RowLe (cellsD x) (cellsD y)) (hr : EsLe r r') : EsLe (x :: r) (y :: r'):=⟨h,hr⟩
theorem obl_nil : Obl P []:=trivial
theorem bq_t (b : Bool) : (b == true) = b:=by cases b <;> rfl
theorem bq_f (b : Bool) : (b == false) = !b:=by cases b <;> rfl
def onR (x : Option (St × List (Nat × List D × List D))) (K : St → Prop) : Prop:=∃ st',x = some (st',[]) ∧ K st'
def onD (x : Option (St × List Foot × List (Nat × List D × List D))) (anc : List (List Nat)) (K : St → Prop) : Prop:=∃ st' fs,x = some (st',fs,[]) ∧ pairsOk anc fs = true ∧ K st'
def onB (x : Option Bool) (p r : Prop) : Prop:=∃ q,x = some q ∧ if q = true then p else r
def onF (x : Option (List D)) (r : List D) : Prop:=∃ cs,x = some cs ∧ ValsLe cs r
theorem aw_regO {ops : List IOp} {lv lb : List Nat} (h : onR (evalR ops lv lb [] st) (Q none)) : cReg P ops lv lb st Q:=by
 obtain ⟨st',h1,h2⟩:=h
 exact ⟨[],st',[],h1,trivial,h2⟩
theorem aw_regDO {ops : List IOp} {anc : List (List Nat)} {lv lb : List Nat} (h : onD (evalRK ops lv lb [] st) anc (Q none)) : cRegD P ops anc lv lb st Q:=by
 obtain ⟨st',fs,h1,h2,h3⟩:=h
 exact aw_regD [] h1 h2 trivial h3
theorem on_reg {K : St → Prop} (h : K st') : onR (some (st',[])) K:=⟨_,rfl,h⟩
theorem on_regD {anc : List (List Nat)} {fs : List Foot} {K : St → Prop} (hp : pairsOk anc fs = true) (h : K st') : onD (some (st',fs,[])) anc K:=⟨_,_,rfl,hp,h⟩
def asB : Option D → Option Bool
 | some (.held (.inl (.bool b))) => some b
 | _ => none
theorem aw_condO {c : Operand} {a b : IC} (h : onB (asB (rd st c)) (a st Q) (b st Q)) : cCond c a b st Q:=by
 obtain ⟨q,h1,h2⟩:=h
 refine ⟨q,?_,h2⟩
 unfold asB at h1
 split at h1
 ·rename_i x hx; cases h1; exact hx
 ·cases h1
theorem on_yes {p r : Prop} (h : p) : onB (some true) p r:=⟨true,rfl,by simpa using h⟩
theorem on_no {p r : Prop} (h : r) : onB (some false) p r:=⟨false,rfl,by simpa using h⟩
theorem fin1_ret {R : St → Prop} (h : R st) : fin1 R (some none) st:=h
theorem fin_eq (rvs : List RV) (r : List D) : fin1 (fun st => ∃ cs,resA st rvs = some cs ∧ ValsLe cs r) = fin rvs r:=by
 funext e st
 match e with
 | none => rfl
 | some none => rfl
 | some (some _) => rfl
theorem fin_retO {rvs : List RV} {r : List D} (h : onF (resA st rvs) r) : fin rvs r (some none) st:=h
theorem on_fin {cs r : List D} (h : ValsLe cs r) : onF (some cs) r:=⟨cs,rfl,h⟩
theorem obl_cons {f : Nat} {cs r : List D} {l : List (Nat × List D × List D)} (h : Told P f cs r) (hl : Obl P l) (hp : kindR r = none:=by rfl) : Obl P ((f,cs,r) :: l):=⟨⟨cs,ValsLe.refl cs,by unfold TellG; rw [hp]; exact h⟩,hl⟩
theorem obl_out {f : Nat} {cs l' : List D} {r : D} {e z : Nat} {c : D} {l : List (Nat × List D × List D)} (h : ToldO P f cs [r] none e (z,unC c)) (hl : Obl P l) : Obl P ((f,cs,mO r e z c :: l') :: l):=⟨⟨cs,ValsLe.refl cs,h⟩,hl⟩
theorem obl_in {f : Nat} {cs r : List D} {i e z : Nat} {c : D} {l : List (Nat × List D × List D)} (h : ToldI P f cs i none e (z,unC c) r) (hl : Obl P l) : Obl P ((f,cs,mI i e z c :: r) :: l):=⟨⟨cs,ValsLe.refl cs,h⟩,hl⟩
end
abbrev zI : D:=vD (.int .i64 0)
abbrev zS : D:=vD (.slice none 0 0)
abbrev zF : D:=vD (.bool false)
abbrev xM (d x : Nat) : IOp:=⟨some d,none,iMov d (.tmp x) false⟩
abbrev xT (d x : Nat) : IOp:=⟨some d,none,iMov d (.tmp x) true⟩
abbrev xL (d n x : Nat) : IOp:=⟨some d,none,iLoad d n false (.tmp x) false⟩
abbrev xA (d n x : Nat) : IOp:=⟨some d,none,iLoad d n true (.tmp x) false⟩
abbrev xU (d n x : Nat) : IOp:=⟨some d,none,iLoad d n false (.tmp x) true⟩
abbrev xF (d o x : Nat) : IOp:=⟨some d,none,iFad d o (.tmp x)⟩
abbrev xB (d : Nat) (op : BinOp) (x y : Nat) : IOp:=⟨some d,none,iBin d op (.tmp x) (.tmp y)⟩
abbrev xC (d : Nat) (op : BinOp) (x : Nat) (c : Int) : IOp:=⟨some d,none,iBin d op (.tmp x) (.const (.int .i64 c))⟩
abbrev xS (n x y : Nat) : IOp:=⟨none,none,iStor n (.tmp x) (.tmp y)⟩
abbrev xE (d x k : Nat) : IOp:=⟨some d,none,iExt d (.tmp x) k⟩
abbrev xN (d x : Nat) : IOp:=⟨some d,none,iLen d false (.tmp x)⟩
abbrev xI (d z x i : Nat) : IOp:=⟨some d,none,iIaS d z (.tmp x) (.tmp i)⟩
abbrev xO (d x : Nat) : IOp:=⟨some d,none,iNot d (.tmp x)⟩
abbrev xX (d x : Nat) : IOp:=⟨some d,none,iBox d (.tmp x)⟩
abbrev xP (d c y : Nat) : IOp:=⟨some d,none,iPick d (.tmp c) (.const (.bool true)) (.tmp y)⟩
abbrev xQ (d c y : Nat) : IOp:=⟨some d,none,iPick d (.tmp c) (.tmp y) (.const (.bool false))⟩
abbrev xV1 (d f a : Nat) : IOp:=⟨some d,none,iCall d f [.tmp a]⟩
abbrev xV2 (d f a b : Nat) : IOp:=⟨some d,none,iCall d f [.tmp a,.tmp b]⟩
abbrev xR (d e z a : Nat) : IOp:=⟨some d,none,iRow d e z [.tmp a]⟩
abbrev xW (d e z b x y : Nat) : IOp:=⟨some d,none,iApp d e z b (.tmp x) (.tmp y)⟩
abbrev xG (g : Nat) (b : Bool) (o : IOp) : IOp:=⟨o.dst,some (g,b),o.ins⟩
set_option maxRecDepth 10000
def evs:=PLift.up <| And.intro @app_aH <| And.intro @app_o <| And.intro @app_i <| And.intro @fp_aH <| And.intro @fp_o <| And.intro @fp_i <|
 And.intro @refD_x <| And.intro @refD_j <| And.intro @refD_r <| And.intro @ab.iCallV.eq_1 <| And.intro @ab.iCallL.eq_1 <| And.intro @ab.rdL.eq_1 <|
 And.intro @ab.rdLs.eq_1 <| And.intro @ab.rdLs.eq_2 <| And.intro @ab.plainR.eq_1 <| And.intro @ab.plainR.eq_2 <| And.intro @ab.iBoxF.eq_1 <|
 And.intro @ab.iMkf.eq_1 <| And.intro @ab.iClr.eq_1 <| And.intro @funOf_p <| And.intro @funOf_j <| And.intro @ab.asB.eq_1 <|
 And.intro @ab.asB.eq_2 <| And.intro @bq_t <| And.intro @bq_f <| And.intro @ab.evalR.eq_1 <| And.intro @ab.evalRK.eq_1 <|
 And.intro @ab.evalOps.eq_1 <| And.intro @ab.evalOps.eq_2 <| And.intro @ab.evalD.eq_1 <| And.intro @ab.evalD.eq_2 <| And.intro @stepI_n <|
 And.intro @stepI_g <| And.intro @ab.zI.eq_1 <| And.intro @ab.zS.eq_1 <| And.intro @ab.zF.eq_1 <| And.intro @ab.xM.eq_1 <| And.intro @ab.xT.eq_1 <| And.intro @ab.xL.eq_1 <| And.intro @ab.xA.eq_1 <| And.intro @ab.xU.eq_1 <| And.intro @ab.xF.eq_1 <| And.intro @ab.xB.eq_1 <| And.intro @ab.xC.eq_1 <| And.intro @ab.xS.eq_1 <| And.intro @ab.xE.eq_1 <| And.intro @ab.xN.eq_1 <| And.intro @ab.xI.eq_1 <| And.intro @ab.xO.eq_1 <| And.intro @ab.xX.eq_1 <| And.intro @ab.xP.eq_1 <| And.intro @ab.xQ.eq_1 <| And.intro @ab.xV1.eq_1 <| And.intro @ab.xV2.eq_1 <| And.intro @ab.xR.eq_1 <| And.intro @ab.xW.eq_1 <| And.intro @ab.xG.eq_1 <|
 And.intro @ab.iMov.eq_1 <| And.intro @ab.iPick.eq_1 <| And.intro @ab.iBin.eq_1 <| And.intro @ab.iBinB.eq_1 <|
 And.intro @ab.iEqA.eq_1 <| And.intro @ab.iNot.eq_1 <| And.intro @ab.iCvi.eq_1 <| And.intro @ab.iStr.eq_1 <| And.intro @ab.iFld.eq_1 <|
 And.intro @ab.iFad.eq_1 <| And.intro @ab.iIaA.eq_1 <| And.intro @ab.iIaS.eq_1 <| And.intro @ab.iExt.eq_1 <| And.intro @ab.iLen.eq_1 <|
 And.intro @ab.iSlc.eq_1 <| And.intro @ab.iBld.eq_1 <| And.intro @ab.iLoad.eq_1 <| And.intro @ab.iBox.eq_1 <| And.intro @ab.iAlo.eq_1 <|
 And.intro @ab.iRow.eq_1 <| And.intro @ab.iApp.eq_1 <| And.intro @ab.iCall.eq_1 <| And.intro @ab.iNil.eq_1 <| And.intro @ab.nilL.eq_1 <|
 And.intro @ab.nilL.eq_2 <| And.intro @ab.nilL.eq_3 <| And.intro @ab.nilL.eq_4 <| And.intro @ab.iBts.eq_1 <| And.intro @ab.iCst.eq_1 <|
 And.intro @app_c <| And.intro @fp_c <| And.intro @ab.iMkM.eq_1 <| And.intro @ab.iLku.eq_1 <| And.intro @ab.iUpd.eq_1 <| And.intro @ab.mlk.eq_1 <|
 And.intro @ab.mlk.eq_2 <| And.intro @ab.mlk.eq_3 <| And.intro @ab.iMkS.eq_1 <| And.intro @ab.iMkB.eq_1 <| And.intro @ab.iApr.eq_1 <| And.intro @ab.isCO.eq_1 <|
 And.intro @ab.isCO.eq_2 <| And.intro @ab.setE.eq_1 <| And.intro @ab.clR.eq_1 <| And.intro @ab.clR.eq_2 <| And.intro @ab.isL.eq_1 <|
 And.intro @ab.isL.eq_2 <| And.intro @ab.isL.eq_3 <| And.intro @ab.isL.eq_4 <| And.intro @ab.isL.eq_5 <| And.intro @app_u <| And.intro @app_k <|
 And.intro @app_ks <| And.intro @app_r <| And.intro @fp_u <| And.intro @fp_k <| And.intro @fp_ks <| And.intro @fp_r <| And.intro @refD_v <|
 And.intro @refD_s <| And.intro @refD_a <| And.intro @refD_t <| And.intro @refD_e <| And.intro @refD_p <| And.intro @refD_o <| And.intro @refD_h <|
 And.intro @refD_q <| And.intro @ab.St.keep0.eq_1 <| And.intro @ab.rowsB.eq_1 <| And.intro @ab.rowsB.eq_2 <| And.intro @ab.frzAll.eq_1 <|
 And.intro @ab.frzAll.eq_2 <| And.intro @ab.St.frz.eq_1 <| And.intro @ab.frzT.eq_1 <| And.intro @ab.frzT.eq_2 <| And.intro @ab.frzB.eq_1 <|
 And.intro @ab.frzB.eq_2 <| And.intro @ab.frzC.eq_1 <| And.intro @ab.frzC.eq_2 <| And.intro @ab.frzV.eq_1 <| And.intro @ab.frzV.eq_2 <|
 And.intro @ab.iStor.eq_1 <| And.intro @storEv.eq_def <| And.intro @app_v <| And.intro @app_b <| And.intro @app_h <| And.intro @app_a <|
 And.intro @app_a0 <| And.intro @app_s <| And.intro @app_g <| And.intro @app_m <| And.intro @fp_v <| And.intro @fp_b <| And.intro @fp_h <|
 And.intro @fp_a <| And.intro @fp_a0 <| And.intro @fp_s <| And.intro @fp_g <| And.intro @fp_m <| And.intro @mov_k <| And.intro @mov_fn <| And.intro @mov_f <|
 And.intro @mov_t <| And.intro @load_f <| And.intro @load_t <| And.intro @rds_sl <| And.intro @ab.rdsC.eq_1 <| And.intro @ab.rdsC.eq_2 <|
 And.intro @ab.osl.eq_1 <| And.intro @ab.osl.eq_2 <| And.intro @ab.rd.eq_1 <| And.intro @ab.rd.eq_2 <| And.intro @ab.rd.eq_3 <|
 And.intro @ab.rd.eq_4 <| And.intro @ab.rdC.eq_1 <| And.intro @ab.rdC.eq_2 <| And.intro @ab.lbin.eq_1 <| And.intro @ab.lbin.eq_2 <|
 And.intro @ab.lbin.eq_3 <| And.intro @ab.lbin.eq_4 <| And.intro @ab.lbin.eq_5 <| And.intro @ab.lbin.eq_6 <| And.intro @ab.lbin.eq_7 <|
 And.intro @ab.lbin.eq_8 <| And.intro @ab.lbin.eq_9 <| And.intro @ab.lbin.eq_10 <| And.intro @ab.lbin.eq_11 <| And.intro @ab.lbin.eq_12 <|
 And.intro @ab.lbin.eq_13 <| And.intro @ab.lbin.eq_14 <| And.intro @ab.lbin.eq_15 <| And.intro @ab.lbin.eq_16 <| And.intro @ab.lbin.eq_17 <| And.intro @ab.sub.eq_1 <|
 And.intro @ab.over.eq_1 <| And.intro @ab.moveA.eq_1 <| And.intro @ab.moveA.eq_2 <| And.intro @ab.moveA.eq_3 <| And.intro @ab.moveA.eq_4 <|
 And.intro @ab.moveA.eq_5 <| And.intro @ab.asS.eq_1 <| And.intro @ab.asS.eq_2 <| And.intro @ab.asS.eq_3 <| And.intro @ab.asS.eq_4 <|
 And.intro @ab.bnd.eq_1 <| And.intro @ab.bnd.eq_2 <| And.intro @ab.fillA.eq_1 <| And.intro @ab.fillA.eq_2 <| And.intro @ab.fillA.eq_3 <|
 And.intro @ab.cellsD.eq_1 <| And.intro @ab.cellsD.eq_2 <| And.intro @ab.isC.eq_1 <| And.intro @ab.isC.eq_2 <| And.intro @ab.isC.eq_3 <|
 And.intro @ab.isC.eq_4 <| And.intro @ab.isC.eq_5 <| And.intro @ab.isC.eq_6 <| And.intro @ab.strL.eq_1 <| And.intro @ab.strL.eq_2 <|
 And.intro @ab.lenL.eq_1 <| And.intro @ab.lenL.eq_2 <| And.intro @ab.lenL.eq_3 <| And.intro @ab.lenL.eq_4 <| And.intro @ab.lenL.eq_5 <|
 And.intro @ab.lenL.eq_6 <| And.intro @ab.res.eq_1 <| And.intro @ab.res.eq_2 <| And.intro @ab.St.keep.eq_1 <| And.intro @ab.keepT.eq_1 <|
 And.intro @ab.keepT.eq_2 <| And.intro @ab.keepB.eq_1 <| And.intro @ab.keepB.eq_2 <| And.intro @ab.keepF.eq_1 <| And.intro @ab.keepF.eq_2 <|
 And.intro @ab.inL.eq_1 <| And.intro @ab.plainV.eq_1 <| And.intro @ab.plainV.eq_2 <| And.intro @ab.plainV.eq_3 <| And.intro @ab.plainV.eq_4 <|
 And.intro @ab.plainV.eq_5 <| And.intro @ab.plainV.eq_6 <| And.intro @ab.plainV.eq_7 <| And.intro @ab.plainV.eq_8 <| And.intro @ab.plainV.eq_9 <|
 And.intro @ab.ints3.eq_1 <| And.intro @ab.ints3.eq_2 <| And.intro @ab.start.eq_1 <| And.intro @ab.startT.eq_1 <| And.intro @ab.startT.eq_2 <|
 And.intro @ab.resA.eq_1 <| And.intro @ab.resA.eq_2 <| And.intro @ab.resA.eq_3 <| And.intro @Nat.zero_add <| And.intro @Nat.add_zero <|
 And.intro @and_true <| And.intro @true_and <| And.intro @and_self <| And.intro @not_true_eq_false <| And.intro @not_false_eq_true <|
 And.intro @Bool.false_eq_true <| And.intro @Bool.not_true <| And.intro @Bool.not_false <| And.intro @or_false <| And.intro @false_or <|
 And.intro @or_true <| And.intro @true_or <| And.intro @decide_true <| And.intro @decide_false <| And.intro @Bool.and_true <|
 And.intro @Int.toNat_zero <| And.intro @Int.toNat_one <| And.intro @Int.toNat_natCast <| And.intro @kindR_nil <| And.intro @kindR_v <|
 And.intro @kindR_a <| And.intro @kindR_s <| And.intro @kindR_x <| And.intro @kindR_j <| And.intro @kindR_o <| And.intro @kindR_i <|
 And.intro @unC_a <| And.intro @unC_x <| And.intro @ofC_n <| And.intro @ofC_s <| And.intro @refD_f <| And.intro @dimC_v <| And.intro @dimC_s <|
 And.intro @dimC_x <| And.intro @dimC_o <| And.intro @app_aN <| And.intro @fp_aN <| And.intro @app_cu <| And.intro @fp_cu <| And.intro @kindL_s <|
 And.intro @kindL_v <| And.intro @kindR_u <| And.intro @ab.iAppH.eq_1 <| And.intro @ab.iMm.eq_1 <| And.intro @ab.mmI.eq_1 <|
 And.intro @ab.mmI.eq_2 <| And.intro @ab.iXor.eq_1 <| And.intro @ab.iCallP.eq_1 <| And.intro @ab.iCallP.eq_2 <| And.intro @ab.iNck.eq_1 <|
 And.intro @kindR_p <| And.intro @frzP_r <| And.intro @frzP_n <| And.intro @frzP_a <| @frzP_p
theorem ev0 : type_of% evs.down:=evs.down
theorem ev1.{u} :
  (∀ {α : Type u} {a b : α},Option.getD (some a) b = a) ∧
  (∀ {α : Type u} {a : α},Option.getD none a = a) ∧
  (∀ {α : Type u} {a : α} {l : List α} {d : α},List.headD (a :: l) d = a) ∧
  (∀ {α : Type u} {d : α},List.headD [] d = d) ∧
  (∀ {α : Type u} {a : α} {as : List α},List.tail (a :: as) = as) ∧
  (∀ {α : Type u} {a : α} {as : List α} {i : Nat},
   List.take (i + 1) (a :: as) = a :: List.take i as) ∧
  (∀ {α : Type u} {l : List α},List.take 0 l = []) ∧
  (∀ {α : Type u} {a : α} {l : List α} {i : Nat},List.drop (i + 1) (a :: l) = List.drop i l) ∧
  (∀ {α : Type u} {l : List α},List.drop 0 l = l) ∧
  (∀ {α : Type u} (as : List α),[] ++ as = as) ∧
  (∀ {α : Type u} {a : α} {as bs : List α},a :: as ++ bs = a :: (as ++ bs)) ∧
  (∀ {α : Type u} (as : List α),as ++ [] = as) ∧
  (∀ {α : Type u} {a : α} {as : List α},List.length (a :: as) = List.length as + 1) ∧
  (∀ {α : Type u} {a : α} {l : List α},(a :: l)[0]? = some a) ∧
  (∀ {α : Type u} {a : α} {i : Nat} {l : List α},(a :: l)[i + 1]? = l[i]?) ∧
  (∀ {α : Sort u} (a b : α),(a ≠ b) = ¬a = b) ∧
  (∀ {α : Sort u} {x : Decidable True} (t e : α),(if True then t else e) = t) ∧
  (∀ {α : Sort u} {x : Decidable False} (t e : α),(if False then t else e) = e) ∧
  (∀ {α : Type u} {b : α} {l : List α} {a : α},a ∈ b :: l ↔ a = b ∨ a ∈ l) ∧
  (∀ {α : Type u} {a : α},¬a ∈ []) ∧
  (∀ {α : Type u} (val val_1 : α),(some val = some val_1) = (val = val_1)) ∧
  (∀ {α : Type u} {a : α} {l : List α} {f : α → Bool},List.all (a :: l) f = (f a && List.all l f)) ∧
  (∀ {α : Type u} {f : α → Bool},List.all [] f = true) ∧
  (∀ {α : Type u} [inst : BEq α] [ReflBEq α] (a : α),(a == a) = true) ∧
  (∀ {α : Type u} [inst : BEq α] [ReflBEq α] {a : α},(a == a) = true) ∧
  (∀ {α : Type u} [inst : BEq α] [LawfulBEq α] (a : α),(a != a) = false) ∧
  (∀ {α : Type u} [inst : LT α] {x y : α},x > y ↔ y < x) ∧
  (∀ {α : Type u} [inst : LE α] {x y : α},x ≥ y ↔ y ≤ x) :=
 ⟨@Option.getD_some,@Option.getD_none,@List.headD_cons,@List.headD_nil,@List.tail_cons,@List.take_succ_cons,@List.take_zero,@List.drop_succ_cons,@List.drop_zero,@List.nil_append,@List.cons_append,@List.append_nil,@List.length_cons,@List.getElem?_cons_zero,@List.getElem?_cons_succ,@ne_eq,@if_true,@if_false,@List.mem_cons,@List.not_mem_nil,@Option.some.injEq,@List.all_cons,@List.all_nil,@beq_self_eq_true,@BEq.rfl,@bne_self_eq_false,@gt_iff_lt,@ge_iff_le⟩
theorem ev2.{u,v} :
  (∀ {α : Type u} {β : Type v} (a : α) (f : α → β),Option.map f (some a) = some (f a)) ∧
  (∀ {α : Type u} {β : Type v} (f : α → β),Option.map f none = none) ∧
  (∀ {α : Type u} {β : Type v} (fst : α) (snd : β) (fst_1 : α) (snd_1 : β),
   ((fst,snd) = (fst_1,snd_1)) = (fst = fst_1 ∧ snd = snd_1)) ∧
  (∀ {α : Type u} {β : Type v} {f : α → β} {a : α} {l : List α},
   List.map f (a :: l) = f a :: List.map f l) ∧
  (∀ {α : Type u} {β : Type v} {f : α → β},List.map f [] = []) ∧
  (∀ {α : Type u} {β : Type v} {f : α → β} {l₁ l₂ : List α},
   List.map f (l₁ ++ l₂) = List.map f l₁ ++ List.map f l₂) :=
 ⟨@Option.map_some,@Option.map_none,@Prod.mk.injEq,@List.map_cons,@List.map_nil,@List.map_append⟩
theorem wk0 {p q : Prop} (hq : q) (h : q → p:=by (intro h; (repeat (first | refine aw_seq ?_ | refine aw_block ?_ | with_reducible refine aw_ret ?_ | with_reducible refine aw_skip ?_ | with_reducible refine aw_exit ?_ | refine thn_normal ?_ | refine thn_out ?_ | refine blk_normal ?_ | refine blk_ret ?_ | refine blk_exit ?_ | ((first | refine aw_regO ?_ | refine aw_regDO ?_ | refine aw_condO ?_ | refine fin_retO ?_); (conv => (arg 1; simp (maxSteps:=30000) only [ev0,ev1,ev2,look,lookF,cellsFrom,offT,offP,List.tail_nil,List.length_nil,Int.cast_ofNat_Int,Nat.reduceEqDiff,Nat.reduceAdd,Nat.reduceMul,Nat.reduceLeDiff,Nat.reduceLT,↓reduceIte,reduceCtorEq,Int.reduceBEq,Int.reduceBNe,Int.reduceLT,Int.reduceLE,Int.reduceToNat])); (first | with_reducible refine on_yes ?_ | with_reducible refine on_no ?_ | with_reducible refine on_reg ?_ | (with_reducible refine on_regD (by decide +kernel) ?_) | with_reducible refine on_fin ?_)))); exact h)) : p:=h hq
theorem wk {p q F : Prop} (f : F) (hq : q) (h : F → q → p:=by (intro f h; (repeat (first | refine aw_seq ?_ | refine aw_block ?_ | with_reducible refine aw_ret ?_ | with_reducible refine aw_skip ?_ | with_reducible refine aw_exit ?_ | refine thn_normal ?_ | refine thn_out ?_ | refine blk_normal ?_ | refine blk_ret ?_ | refine blk_exit ?_ | ((first | refine aw_regO ?_ | refine aw_regDO ?_ | refine aw_condO ?_ | refine fin_retO ?_); (conv => (arg 1; simp (maxSteps:=30000) only [ev0,ev1,ev2,look,lookF,cellsFrom,offT,offP,List.tail_nil,List.length_nil,Int.cast_ofNat_Int,Nat.reduceEqDiff,Nat.reduceAdd,Nat.reduceMul,Nat.reduceLeDiff,Nat.reduceLT,↓reduceIte,reduceCtorEq,Int.reduceBEq,Int.reduceBNe,Int.reduceLT,Int.reduceLE,Int.reduceToNat,f])); (first | with_reducible refine on_yes ?_ | with_reducible refine on_no ?_ | with_reducible refine on_reg ?_ | (with_reducible refine on_regD (by decide +kernel) ?_) | with_reducible refine on_fin ?_)))); exact h)) : p:=h f hq
section
variable {P : Program} {st st' : St} {Q : AX → St → Prop}
theorem cg0 {ops : List IOp} {lv lb : List Nat} (rs : List (List D)) {q : List (Nat × List D × List D)} (ho : Obl P q) (hQ : Q none st') (h : evalR ops lv lb rs st = some (st',q):=by (simp only [ev0,ev1,ev2,look,lookF,cellsFrom,offT,offP,List.tail_nil,List.length_nil,Int.cast_ofNat_Int,Nat.reduceEqDiff,Nat.reduceAdd,Nat.reduceMul,Nat.reduceLeDiff,Nat.reduceLT,↓reduceIte,reduceCtorEq,Int.reduceBEq,Int.reduceBNe,Int.reduceLT,Int.reduceLE,Int.reduceToNat]; first | rfl | exact ⟨rfl,rfl⟩)) : cReg P ops lv lb st Q:=aw_reg rs h ho hQ
theorem cg {ops : List IOp} {lv lb : List Nat} {F : Prop} (rs : List (List D)) {q : List (Nat × List D × List D)} (f : F) (ho : Obl P q) (hQ : Q none st') (h : F → evalR ops lv lb rs st = some (st',q):=by (intro f; simp only [ev0,ev1,ev2,look,lookF,cellsFrom,offT,offP,List.tail_nil,List.length_nil,Int.cast_ofNat_Int,Nat.reduceEqDiff,Nat.reduceAdd,Nat.reduceMul,Nat.reduceLeDiff,Nat.reduceLT,↓reduceIte,reduceCtorEq,Int.reduceBEq,Int.reduceBNe,Int.reduceLT,Int.reduceLE,Int.reduceToNat,f]; first | rfl | exact ⟨rfl,rfl⟩)) : cReg P ops lv lb st Q:=aw_reg rs (h f) ho hQ
theorem cd0 {ops : List IOp} {anc : List (List Nat)} {lv lb : List Nat} (rs : List (List D)) {fs : List Foot} {q : List (Nat × List D × List D)} (ho : Obl P q) (hQ : Q none st') (h : evalRK ops lv lb rs st = some (st',fs,q):=by (simp only [ev0,ev1,ev2,look,lookF,cellsFrom,offT,offP,List.tail_nil,List.length_nil,Int.cast_ofNat_Int,Nat.reduceEqDiff,Nat.reduceAdd,Nat.reduceMul,Nat.reduceLeDiff,Nat.reduceLT,↓reduceIte,reduceCtorEq,Int.reduceBEq,Int.reduceBNe,Int.reduceLT,Int.reduceLE,Int.reduceToNat]; first | exact ⟨rfl,rfl⟩ | exact ⟨rfl,rfl,rfl⟩)) (hp : pairsOk anc fs = true:=by decide +kernel) : cRegD P ops anc lv lb st Q:=aw_regD rs h hp ho hQ
theorem cd {ops : List IOp} {anc : List (List Nat)} {lv lb : List Nat} {F : Prop} (rs : List (List D)) {fs : List Foot} {q : List (Nat × List D × List D)} (f : F) (ho : Obl P q) (hQ : Q none st') (h : F → evalRK ops lv lb rs st = some (st',fs,q):=by (intro f; simp only [ev0,ev1,ev2,look,lookF,cellsFrom,offT,offP,List.tail_nil,List.length_nil,Int.cast_ofNat_Int,Nat.reduceEqDiff,Nat.reduceAdd,Nat.reduceMul,Nat.reduceLeDiff,Nat.reduceLT,↓reduceIte,reduceCtorEq,Int.reduceBEq,Int.reduceBNe,Int.reduceLT,Int.reduceLE,Int.reduceToNat,f]; first | exact ⟨rfl,rfl⟩ | exact ⟨rfl,rfl,rfl⟩)) (hp : pairsOk anc fs = true:=by decide +kernel) : cRegD P ops anc lv lb st Q:=aw_regD rs (h f) hp ho hQ
end
theorem an2 {a b : Prop} (ha : a) (hb : b) : a ∧ b:=⟨ha,hb⟩
theorem an3 {a b c : Prop} (ha : a) (hb : b) (hc : c) : a ∧ b ∧ c:=⟨ha,hb,hc⟩
theorem an4 {a b c d : Prop} (ha : a) (hb : b) (hc : c) (hd : d) : a ∧ b ∧ c ∧ d:=⟨ha,hb,hc,hd⟩
theorem an5 {a b c d e : Prop} (ha : a) (hb : b) (hc : c) (hd : d) (he : e) : a ∧ b ∧ c ∧ d ∧ e:=⟨ha,hb,hc,hd,he⟩
theorem an6 {a b c d e f : Prop} (ha : a) (hb : b) (hc : c) (hd : d) (he : e) (hf : f) : a ∧ b ∧ c ∧ d ∧ e ∧ f:=⟨ha,hb,hc,hd,he,hf⟩
theorem an7 {a b c d e f g : Prop} (ha : a) (hb : b) (hc : c) (hd : d) (he : e) (hf : f) (hg : g) : a ∧ b ∧ c ∧ d ∧ e ∧ f ∧ g:=⟨ha,hb,hc,hd,he,hf,hg⟩
theorem an8 {a b c d e f g h : Prop} (ha : a) (hb : b) (hc : c) (hd : d) (he : e) (hf : f) (hg : g) (hh : h) : a ∧ b ∧ c ∧ d ∧ e ∧ f ∧ g ∧ h:=⟨ha,hb,hc,hd,he,hf,hg,hh⟩
theorem an10 {a b c d e f g h i j : Prop} (ha : a) (hb : b) (hc : c) (hd : d) (he : e) (hf : f) (hg : g) (hh : h) (hi : i) (hj : j) : a ∧ b ∧ c ∧ d ∧ e ∧ f ∧ g ∧ h ∧ i ∧ j:=⟨ha,hb,hc,hd,he,hf,hg,hh,hi,hj⟩
theorem an11 {a b c d e f g h i j k : Prop} (ha : a) (hb : b) (hc : c) (hd : d) (he : e) (hf : f) (hg : g) (hh : h) (hi : i) (hj : j) (hk : k) : a ∧ b ∧ c ∧ d ∧ e ∧ f ∧ g ∧ h ∧ i ∧ j ∧ k:=⟨ha,hb,hc,hd,he,hf,hg,hh,hi,hj,hk⟩
theorem an12 {a b c d e f g h i j k l : Prop} (ha : a) (hb : b) (hc : c) (hd : d) (he : e) (hf : f) (hg : g) (hh : h) (hi : i) (hj : j) (hk : k) (hl : l) : a ∧ b ∧ c ∧ d ∧ e ∧ f ∧ g ∧ h ∧ i ∧ j ∧ k ∧ l:=⟨ha,hb,hc,hd,he,hf,hg,hh,hi,hj,hk,hl⟩
theorem an15 {a b c d e f g h i j k l m n o : Prop} (ha : a) (hb : b) (hc : c) (hd : d) (he : e) (hf : f) (hg : g) (hh : h) (hi : i) (hj : j) (hk : k) (hl : l) (hm : m) (hn : n) (ho : o) : a ∧ b ∧ c ∧ d ∧ e ∧ f ∧ g ∧ h ∧ i ∧ j ∧ k ∧ l ∧ m ∧ n ∧ o:=⟨ha,hb,hc,hd,he,hf,hg,hh,hi,hj,hk,hl,hm,hn,ho⟩
theorem an18 {a b c d e f g h i j k l m n o r s t : Prop} (ha : a) (hb : b) (hc : c) (hd : d) (he : e) (hf : f) (hg : g) (hh : h) (hi : i) (hj : j) (hk : k) (hl : l) (hm : m) (hn : n) (ho : o) (hr : r) (hs : s) (ht : t) : a ∧ b ∧ c ∧ d ∧ e ∧ f ∧ g ∧ h ∧ i ∧ j ∧ k ∧ l ∧ m ∧ n ∧ o ∧ r ∧ s ∧ t:=⟨ha,hb,hc,hd,he,hf,hg,hh,hi,hj,hk,hl,hm,hn,ho,hr,hs,ht⟩
theorem zmap {α β : Type} {f : α → β} {l : List α} : (l.map f).length = l.length:=List.length_map ..
theorem zset {α : Type} {l : List α} {i : Nat} {a : α} : (l.set i a).length = l.length:=List.length_set ..
theorem zss {α : Type} (a : α) {b : α} {l : List α} {i : Nat} : (l.set i a).set i b = l.set i b:=List.set_set ..
theorem zrep {α : Type} {n : Nat} {a : α} : (List.replicate n a).length = n:=List.length_replicate ..
theorem zapp {α : Type} {l m : List α} : (l ++ m).length = l.length + m.length:=List.length_append ..
theorem zcons {α : Type} {a : α} {l : List α} : (a :: l).length = l.length + 1:=List.length_cons ..
theorem znil {α : Type} : ([] : List α).length = 0:=rfl
theorem zrs {α : Type} {n : Nat} {a : α} : List.replicate (n + 1) a = a :: List.replicate n a:=rfl
theorem zr0 {α : Type} {a : α} : List.replicate 0 a = []:=rfl
theorem zbeq {α : Type} [BEq α] [ReflBEq α] (a : α) : (a == a) = true:=beq_self_eq_true a
theorem zbne {α : Type} [BEq α] [ReflBEq α] [LawfulBEq α] (a : α) : (a != a) = false:=bne_self_eq_false a
end Go.Proofs.Ytgaofjiidedcbad.ab
