import Derived.Test.YtgaofjiidedcbadM14
set_option maxHeartbeats 2000000
set_option linter.unusedVariables false
set_option linter.unusedSimpArgs false
namespace Go.Proofs.Ytgaofjiidedcbad.ab
open Go Go.RowKit
def ToldD (P : Program) (f : FuncId) (args rs : List D) (off : Nat) (es : List D) (i : Nat) (bs : List D) : Prop :=
 ∀ (w : World) (I : Still) (vs : List Value),Vals I w args vs → (∀ b j,I b j → b < w.heap.size) →
  Calls P f vs.toArray w fun x w' => ∃ (us : List Value) (I' : Still) (g cap g' cap' : Nat) (cur cur' : Array Value) (t t' : TypeId),x = .returned (.agg us.toArray) ∧ (∀ b j,I b j → I' b j ∧ w'.cell? ⟨b,j,none⟩ = w.cell? ⟨b,j,none⟩) ∧ (∀ b j,I' b j → I b j ∨ (w.heap.size ≤ b ∧ b < w'.heap.size)) ∧ Row I' w' rs us ∧
   us[off]? = some (.slice (some ⟨g,0,none⟩) es.length cap) ∧ (es.length ≤ cap ∧ cap ≤ maxLen) ∧ w'.heap[g]? = some (.cells cur t (0,0)) ∧ ElemsAt I' w' 1 es cur.toList ∧ es[i]? = some xD ∧ cur.toList[i]? = some (.slice (some ⟨g',0,none⟩) bs.length cap') ∧ (bs.length ≤ cap' ∧ cap' ≤ maxLen) ∧
   w'.heap[g']? = some (.cells cur' t' (0,0)) ∧ ElemsAt I' w' 1 bs cur'.toList ∧ (∀ j,¬ I' g j) ∧ (∀ j,¬ I' g' j) ∧ g ≠ g' ∧ w.heap.size ≤ g ∧ w.heap.size ≤ g' ∧ Below w.heap.size w w'
def cXd (P : Program) (tb d1 d2 f n : Nat) : IC:=fun st Q => cXs P tb d1 d2 f n none st Q ∨ ∃ b cs cs' rs off es i bs k k',boxHas st tb n b cs cs' [] ∧ st.fl = [] ∧ ToldD P f [aD cs'] rs off es i bs ∧ rs.length = n ∧ off < n ∧ (100000 ≤ k ∧ k < 200000) ∧ (100000 ≤ k' ∧ k' < 200000) ∧ k ≠ k' ∧ look st.bx k = none ∧ look st.bx k' = none ∧
 Q none ⟨offT (offT st.tm d1) d2,(b,over rs off [oD k es.length]) :: (k',[sD 1 bs]) :: (k,[sD 1 es,pD i 0,oD k' bs.length]) :: st.bx,[]⟩
section
variable {P : Program} {N : Nat} {ops : Array Oper} {base : Nat → Prop} {w0 : World} {I0 : Still} {I : Still} {ρ : Nat → Option Nat} {fs : FS} {a : Act} {w : World}
theorem RelI.nameB (h : RelI base w0 I0 N I ρ fs a w) {k g : Nat} {cs : List D} (hk : 100000 ≤ k ∧ k < 200000) (hb : fs.bx k = none) (hnb : ¬ base g) (hnI : ∀ j,¬ I g j) (hnρ : ∀ c,ρ c ≠ some g) (hfl : ∀ s o,fs.fl s o = none)
  (hbox : BoxAt I (fun c => if c = k then some g else ρ c) w k g cs) : RelI base w0 I0 N I (fun c => if c = k then some g else ρ c) { fs with bx:=fun c => if c = k then some cs else fs.bx c } a w:=by
 have hρk : ρ k = none:=h.nob k hb
 have hup : ∀ c g',ρ c = some g' → (if c = k then some g else ρ c) = some g':=fun c g' hc => by
  rw [if_neg (fun e => by rw [e,hρk] at hc; cases hc)]; exact hc
 refine ⟨h.defers,h.size,fun s v hv => ?_,h.cap,h.flc,fun c ds hc => ?_,fun c c' g' h1 h2 => ?_,fun c hc => ?_,fun s o e z hx => (by rw [hfl] at hx; cases hx),fun s o s' o' x x' y y' g' h1 => (by rw [hfl] at h1; cases h1),h.lt,h.sub,h.below,h.room,h.mon⟩
 ·obtain ⟨y,q1,q2⟩:=h.tm s v hv
  exact ⟨y,q1,q2.keep (fun _ _ h => h) (fun c g' _ h => hup c g' h) (fun _ _ _ => rfl)⟩
 ·simp only at hc
  split at hc
  ·rename_i e; cases hc; subst e
   exact ⟨g,by simp,hnb,hbox,hnI⟩
  ·obtain ⟨g',q1,q2,q3,q4⟩:=h.bx c ds hc
   exact ⟨g',hup _ _ q1,q2,q3.keep (fun _ _ h => h) (fun c g' _ h => hup c g' h) (fun _ _ _ => rfl) rfl,q4⟩
 ·by_cases e1 : c = k
  ·by_cases e2 : c' = k
   ·rw [e1,e2]
   ·rw [if_pos e1] at h1; cases h1
    rw [if_neg e2] at h2
    exact absurd h2 (hnρ c')
  ·rw [if_neg e1] at h1
   by_cases e2 : c' = k
   ·rw [if_pos e2] at h2; cases h2
    exact absurd h1 (hnρ c)
   ·rw [if_neg e2] at h2
    exact h.inj c c' g' h1 h2
 ·simp only at hc
  split at hc
  ·cases hc
  ·rename_i hne; show (if c = k then some g else ρ c) = none; rw [if_neg hne]; exact h.nob c hc
theorem RelI.recell (h : RelI base w0 I0 N I ρ fs a w) {b off : Nat} {cs : List D} {l : D} {u : Value} (hlt : b < 100000) (hb : fs.bx b = some cs) (hoff : off < cs.length) (hl : cellsD l = [l]) (hu : ∀ g us t,ρ b = some g → w.heap[g]? = some (.cells us t (0,0)) → us[off]? = some u) (hlr : LRep I ρ w l u) :
  RelI base w0 I0 N I ρ { fs with bx:=fun c => if c = b then some (over cs off [l]) else fs.bx c } a w:=by
 refine ⟨h.defers,h.size,h.tm,h.cap,h.flc,fun c ds hc => ?_,h.inj,fun c hc => ?_,h.fl,h.apart,h.lt,h.sub,h.below,h.room,h.mon⟩
 ·simp only at hc
  split at hc
  ·rename_i e; cases hc; subst e
   obtain ⟨g,q1,q2,q3,q4⟩:=h.bx c cs hb
   obtain ⟨us,t,r1,r2⟩:=q3.cells hlt
   refine ⟨g,q1,q2,.inl ⟨hlt,us,t,r1,by rw [over_len (by simp; omega)]; exact r2.1,fun j c' y hj hy => ?_⟩,q4⟩
   by_cases hjo : j = off
   ·subst hjo
    have:=over_in (cs:=cs) (ds:=[l]) (off:=j) (j:=0) (by simp; omega) (by simp)
    rw [Nat.add_zero] at this
    rw [this] at hj
    simp at hj; subst hj
    have:=hu g us.toArray t q1 r1
    rw [List.getElem?_toArray,hy] at this; cases this
    exact hlr
   ·rw [over_out (by simp; omega) (by simp; omega)] at hj
    exact r2.2 j c' y hj hy
  ·exact h.bx c ds hc
 ·simp only at hc
  split at hc
  ·cases hc
  ·exact h.nob c hc
theorem run_Xd {o1 o2 o3 : Oper} {l2 : List Oper} {T tb d1 d2 f n : Nat} {ats : Array TypeId} (ho1 : o1.op = .load T (.tmp tb)) (hd1 : o1.dst = some d1) (hg1 : o1.guard = none) (ho2 : o2.op = .call { callee:=.value (.func f),args:=(.tmp d1 :: preArgs none).toArray,argTypes:=ats }) (hd2 : o2.dst = some d2) (hg2 : o2.guard = none)
  (ho3 : o3.op = .store T (.tmp tb) (.tmp d2)) (hd3 : o3.dst = none) (hg3 : o3.guard = none) (hn : sizeT P T = some n) (ha : aggT P T = some true) (hc : callableB P f = true) (hN1 : d1 < N) (hN2 : d2 < N) (hne1 : tb ≠ d1) (hne2 : tb ≠ d2) (hk1 : preKeeps none d1) (hkb : preKeeps none tb) (htc : ∀ tc off dA dB,(none : Pre) = some (tc,off,dA,dB) → tc ≠ d1) {st : St} {R : AX → St → Prop} {Q : Exit → Act → World → Prop} {a : Act} {w : World}
  (h : cXd P tb d1 d2 f n st R) (hr : Rel base w0 I0 N st.F a w) (hK : ∀ st' a' w',R none st' → Rel base w0 I0 N st'.F a' w' → wpList P ops Q l2 a' w') : wpList P ops Q (o1 :: o2 :: o3 :: l2) a w:=by
 rcases h with h | ⟨b,cs,cs',rs,off,es,i,bs,k,k',hbh,hfl0,ht,hrl,hoff,hk,hk',hkk,hbk,hbk',hq⟩
 ·exact run_Xs (pre:=none) (lp:=[]) trivial ho1 hd1 hg1 ho2 hd2 hg2 ho3 hd3 hg3 hn ha hc hN1 hN2 hne1 hne2 hk1 hkb htc h hr hK
 obtain ⟨I,ρ,hr⟩:=hr
 have hflN : ∀ s o,st.F.fl s o = none:=fun s o => by show lookF st.fl (s,o) = none; rw [hfl0]; rfl
 obtain ⟨g,us,tyB,hlt,hg,hblk,hul,hrow,htb,hload⟩:=box_load ho1 hn ha hbh hr
 obtain ⟨h1,h2,hl,hL,hle,hri⟩:=hbh
 -- the load
 refine wpList_step fun K1 hK1 => ?_
 rw [if_pos (wanted_none hg1 _)]
 unfold Oper.wp
 rw [hload]
 show K1 (a.put o1.dst _) w
 rw [hd1]
 refine hK1 _ _ ?_
 have hr1:=hr.put hN1 (v:=none) (u:=.agg us.toArray) (fun x hx => by cases hx)
 have e1 : (a.put (some d1) (.agg us.toArray)).eval (.tmp d1) = .agg us.toArray:=eval_put_same (by rw [hr.size]; exact hN1)
 have etb : (a.put (some d1) (.agg us.toArray)).eval (.tmp tb) = .pointer (some ⟨g,0,none⟩):=by rw [eval_put hne1,htb]
 generalize a.put (some d1) (.agg us.toArray) = a1 at *
 -- the call
 refine wpList_step fun K2 hK2 => ?_
 rw [if_pos (wanted_none hg2 _)]
 unfold Oper.wp
 rw [run_callFs hc ho2,List.map_cons,e1]
 refine (ht w I _ (Vals.cons (.inr ⟨cs',us,rfl,rfl,hle.rep hrow⟩) Vals.nil) hr.lt).mono fun x w' ⟨vs,I',g1,cap,g2,cap',cur,cur',t,t',he,hI,hs,hv,q1,q2,q3,q4,q5,q6,q7,q8,q9,q10,q11,q12,q13,q14,hbel⟩ => ?_
 subst he
 show K2 (Act.put _ o2.dst _) w'
 rw [hd2]
 refine hK2 _ _ ?_
 have hkept : Kept (fun b => b < w.heap.size ∧ ¬ False) w w':=⟨hbel.os,hbel.tape,hbel.output,hbel.size,fun k hk => hbel.block k hk.1⟩
 obtain ⟨hr4,_⟩:=hr1.laterX (H:=fun _ => False) (fun b q => q.elim) hI (fun b j hi => (hs b j hi).imp id (fun q => ⟨.inl q.1,q.2⟩)) hkept
 have hr5:=hr4.put hN2 (v:=none) (u:=.agg vs.toArray) (fun x hx => by cases hx)
 have etb3 : (a1.put (some d2) (.agg vs.toArray)).eval (.tmp tb) = .pointer (some ⟨g,0,none⟩):=by rw [eval_put hne2,etb]
 have e3 : (a1.put (some d2) (.agg vs.toArray)).eval (.tmp d2) = .agg vs.toArray:=eval_put_same (by rw [hr1.size]; exact hN2)
 -- the store
 have hb3 : ((st.F.setT d1 none).setT d2 none).bx b = some cs:=h2
 obtain ⟨g3,us3,t3,hg3',hblk3,hul3,hr6⟩:=hr5.store hlt hb3 (off:=0) (ds:=rs) (vs:=vs) (by omega) hv.L
 rw [hg] at hg3'; cases hg3'
 have hvn : vs.length = n:=by rw [← hv.1,hrl]
 refine wpList_step fun K3 hK3 => ?_
 rw [if_pos (wanted_none hg3 _)]
 unfold Oper.wp
 have hst:=run_storeP (P:=P) hn hblk3 (u:=.agg vs.toArray) (off:=0) (by simpa [Value.cells] using hvn) (by intro x hx; exact hv.one x (by simpa [Value.cells] using hx)) (by rw [hul3]; omega)
 rw [show (execOp (Act.eval (a1.put (some d2) (.agg vs.toArray))) o3).run P w' = .ok .skip (w'.setRow g (over us3 0 vs).toArray) by
  simp only [execOp,ho3,etb3,e3,Sem.run_bind,hst,Result.andThen_ok,Value.cells,List.toList_toArray,Sem.run_pure]]
 show K3 (Act.put _ o3.dst undef) _
 rw [hd3]
 refine hK3 _ _ (hK _ _ _ hq ?_)
 -- the names
 have hov : over us3 0 vs = vs:=by simp [over]; omega
 have hovr : over cs 0 rs = rs:=by simp [over]; omega
 have hglt : g < w.heap.size:=(Array.getElem?_eq_some_iff.1 hblk).1
 rw [hov] at hr6 ⊢
 have hnρ : ∀ c x,w.heap.size ≤ x → ρ c ≠ some x:=fun c x hx hc' => by have:=(hr.boxLt hc').2; omega
 have hnb : ∀ x,w.heap.size ≤ x → ¬ base x:=fun x hx hb' => by have:=hr.room x hb'; omega
 have hcell : ∀ c j,I' c j → (w'.setRow g vs.toArray).cell? ⟨c,j,none⟩ = w'.cell? ⟨c,j,none⟩:=fun c j hi => by
  refine cell_setRow_other w' g _ ⟨c,j,none⟩ (fun e => ?_)
  obtain ⟨g5,r1,_,_,r4⟩:=hr5.bx b cs hb3
  rw [hg] at r1; cases r1
  exact r4 j (by rw [← e]; exact hi)
 have hs1 : (w'.setRow g vs.toArray).heap[g1]? = some (.cells cur t (0,0)):=by rw [setRow_other w' g g1 _ (by omega)]; exact q3
 have hs2 : (w'.setRow g vs.toArray).heap[g2]? = some (.cells cur' t' (0,0)):=by rw [setRow_other w' g g2 _ (by omega)]; exact q8
 have hfl6 : ∀ s o,((((st.F.setT d1 none).setT d2 none).setB b (over cs 0 rs)).offR b 0 rs.length).fl s o = none:=fun s o => by
  simp only [FS.offR,FS.setB,FS.setT]
  split
  ·rfl
  ·split
   ·rfl
   ·split
    ·rfl
    ·exact hflN s o
 have hbx6 : ∀ c,c ≠ b → ((((st.F.setT d1 none).setT d2 none).setB b (over cs 0 rs)).offR b 0 rs.length).bx c = look st.bx c:=fun c hc => by
  simp only [FS.offR,FS.setB,FS.setT]
  rw [if_neg hc]; rfl
 have hr7:=hr6.nameB (k:=k') (g:=g2) (cs:=[sD 1 bs]) hk' (by rw [hbx6 k' (by omega)]; exact hbk') (hnb g2 q14) q11 (fun c => hnρ c g2 q14) hfl6 (.inr (.inl ⟨hk',1,bs,cur'.toList,t',rfl,by rw [Array.toArray_toList]; exact hs2,q9.keep (fun _ _ h => h) hcell⟩))
 have hr8:=hr7.nameB (k:=k) (g:=g1) (cs:=[sD 1 es,pD i 0,oD k' bs.length]) hk (by simp only; rw [if_neg hkk,hbx6 k (by omega)]; exact hbk) (hnb g1 q13) q10 (fun c => by
  by_cases e : c = k'
  ·rw [if_pos e]; exact fun q => q12 (Option.some.inj q).symm
  ·rw [if_neg e]; exact hnρ c g1 q13) hfl6 (.inr (.inr (.inr ⟨hk,es,cur.toList,t,i,k',bs.length,_,rfl,by rw [Array.toArray_toList]; exact hs1,q4.keep (fun _ _ h => h) hcell,q5,q6,g2,cap',hk',by show (if k' = k then some g1 else if k' = k' then some g2 else ρ k') = some g2; rw [if_neg (fun e => hkk e.symm),if_pos rfl],rfl,q7.1,q7.2⟩)))
 have hr9:=hr8.recell (b:=b) (off:=off) (cs:=rs) (l:=oD k es.length) (u:=.slice (some ⟨g1,0,none⟩) es.length cap) hlt (by
  simp only
  rw [if_neg (by omega),if_neg (by omega)]
  simp only [FS.offR,FS.setB]
  simp [hovr]) (by omega) rfl (fun gg uu tt hgg huu => by
  rw [if_neg (by omega),if_neg (by omega),hg] at hgg
  cases hgg
  rw [setRow_heap w' g us3.toArray _ t3 (0,0) hblk3] at huu
  injection huu with huu
  injection huu with huu
  rw [← huu,List.getElem?_toArray]
  exact q1) (.inr ⟨k,es.length,rfl,g1,cap,hk,by simp,rfl,q2.1,q2.2⟩)
 refine ⟨_,_,hr9.less (fun s x hx => ?_) ?_ (fun s p x hx => ?_)⟩
 ·have hx' : look (offT (offT st.tm d1) d2) s = some x:=hx
  simp only [look_off] at hx'
  show (if s = d2 then _ else _) = _
  split at hx'
  ·cases hx'
  ·rename_i n2
   split at hx'
   ·cases hx'
   ·rename_i n1
    rw [if_neg n2]
    show (if s = d1 then _ else _) = _
    rw [if_neg n1]; exact hx'
 ·funext c
  show (if b = c then _ else if k' = c then _ else if k = c then _ else look st.bx c) = (if c = b then _ else if c = k then _ else if c = k' then _ else (_ : FS).bx c)
  by_cases e1 : b = c
  ·rw [if_pos e1,if_pos e1.symm]
  ·rw [if_neg e1,if_neg (fun e : c = b => e1 e.symm)]
   by_cases e3 : k' = c
   ·rw [if_pos e3,if_neg (fun e : c = k => hkk (e3.trans e).symm),if_pos e3.symm]
   ·rw [if_neg e3]
    by_cases e2 : k = c
    ·rw [if_pos e2,if_pos e2.symm]
    ·rw [if_neg e2,if_neg (fun e : c = k => e2 e.symm),if_neg (fun e : c = k' => e3 e.symm)]
     exact (hbx6 c (fun e => e1 e.symm)).symm
 ·have hx' : lookF [] (s,p) = some x:=hx
  simp [lookF] at hx'
end
def compPre (P : Program) (N : Nat) (oA oB : Oper) : Option (Nat × Nat × Nat × Nat):=match oA.op,oA.dst,oB.op,oB.dst with
 | .fieldAddr T (.tmp tc) fld,some dA,.load TB (.tmp dA'),some dB => match P.underlying T with
  | some (.struct fds) => match fds[fld]? with
   | some fd => match sizeT P fd.type,sizeT P TB,aggT P TB with
    | some n,some 1,some false => if (oA.guard.isNone = true ∧ oB.guard.isNone = true) ∧ (dA' = dA ∧ n ≠ 0) ∧ dA < N ∧ dB < N then some (tc,fd.offset,dA,dB) else none
    | _,_,_ => none
   | none => none
  | _ => none
 | _,_,_,_ => none
def tmpsOf : List Operand → Option (List Nat)
 | [] => some []
 | .tmp t :: r => (tmpsOf r).map (t :: ·)
 | _ => none
theorem tmpsOf_eq : ∀ {xs : List Operand} {ts : List Nat},tmpsOf xs = some ts → xs = ts.map Operand.tmp
 | [],ts,h => by simp [tmpsOf] at h; subst h; rfl
 | x :: r,ts,h => by
  unfold tmpsOf at h
  split at h
  ·rename_i heq; cases heq
  ·rename_i t r' heq
   cases heq
   obtain ⟨ts',h1,rfl⟩:=Option.map_eq_some_iff.1 h
   rw [tmpsOf_eq h1]; rfl
  ·cases h
def preTmp : Pre → List Nat
 | none => []
 | some (_,_,_,dB) => [dB]
theorem preTmp_eq (pre : Pre) : (preTmp pre).map Operand.tmp = preArgs pre:=by cases pre <;> rfl
def preSep (pre : Pre) (tb d1 : Nat) : Bool:=match pre with
 | none => true
 | some (tc,_,dA,dB) => d1 != dA && (d1 != dB && (tb != dA && (tb != dB && tc != d1)))
def compLC (P : Program) (N : Nat) (o1 o2 : Oper) (pre : Pre) : Option (Nat × Nat × Nat × Nat × Nat × Nat):=match o1.op,o1.dst,o2.op,o2.dst with
 | .load T (.tmp tb),some d1,.call c,some d2 => match c.callee,sizeT P T,aggT P T with
  | .value (.func f),some n,some true => if (o1.guard.isNone = true ∧ o2.guard.isNone = true) ∧ tmpsOf c.args.toList = some (d1 :: preTmp pre) ∧ callableB P f = true ∧ (d1 < N ∧ d2 < N ∧ tb ≠ d1 ∧ tb ≠ d2) ∧ preSep pre tb d1 = true then some (T,tb,d1,d2,f,n) else none
  | _,_,_ => none
 | _,_,_,_ => none
def compSt (o3 : Oper) (T tb d2 : Nat) : Bool:=match o3.op with
 | .store T' (.tmp tb') (.tmp d2') => o3.guard.isNone && (o3.dst.isNone && (T' == T && (tb' == tb && d2' == d2)))
 | _ => false
def compLf (P : Program) (N : Nat) (oA oB oC oD : Oper) : Option IC:=match compPre P N oA oB,oC.op,oC.dst,oD.op,oD.dst with
 | some (tb,off,d1,d2),.move (.tmp t3),some d3,.call c,some d4 => match c.callee,c.args.toList with
  | .value (.func f),[.tmp d2',.tmp d3'] => if (oC.guard.isNone = true ∧ oD.guard.isNone = true) ∧ (d2' = d2 ∧ d3' = d3) ∧ callableB P f = true ∧ (d3 < N ∧ d4 < N) ∧ t3 ≠ d1 ∧ t3 ≠ d2 ∧ d2 ≠ d3 then some (cLf P tb off d1 d2 t3 d3 f d4) else none
  | _,_ => none
 | _,_,_,_,_ => none
def compIns (P : Program) (N : Nat) (oA oB oC oD oE oF : Oper) : Option IC:=match compPre P N oA oB,oC.op,oC.dst,oD.op,oD.dst with
 | some (tb,off,d1,d2),.move (.tmp t3),some d3,.move (.tmp t4),some d4 => match oE.op,oE.dst,oF.op,oF.dst with
  | .buildSlice TS n ps,some d5,.call c,some d6 => match ps.toList,c.callee,tmpsOf c.args.toList,P.underlying TS with
   | [(0,.tmp d4')],.value (.func f),some ts,some (.slice TE) => match P.info? TE with
    | some i => match i.zero with
     | some zv => if (oC.guard.isNone = true ∧ oD.guard.isNone = true ∧ oE.guard.isNone = true ∧ oF.guard.isNone = true) ∧ (n = 1 ∧ d4' = d4 ∧ ts = [d2,d3,d5]) ∧ (i.size = 1 ∧ zv.cells.size = 1) ∧ callableB P f = true ∧ (d3 < N ∧ d4 < N ∧ d5 < N ∧ d6 < N) ∧ ((t3 ≠ d1 ∧ t3 ≠ d2) ∧ (t4 ≠ d1 ∧ t4 ≠ d2 ∧ t4 ≠ d3) ∧ (d2 ≠ d3 ∧ d2 ≠ d4 ∧ d2 ≠ d5) ∧ (d3 ≠ d4 ∧ d3 ≠ d5)) then some (cIns P tb off d1 d2 t3 d3 t4 d4 d5 f d6) else none
     | none => none
    | none => none
   | _,_,_,_ => none
  | _,_,_,_ => none
 | _,_,_,_,_ => none
def cLe : IC:=fun st Q => ∃ st',(∀ (base : Nat → Prop) (w0 : World) (I0 : Still) (N : Nat) (a : Act) (w : World),Rel base w0 I0 N st.F a w → Rel base w0 I0 N st'.F a w) ∧ Q none st'
def compY (P : Program) (N : Nat) (k : Nat) (l : List Oper) : Option IC:=match k,l with
 | 4,[o1,o2,o3] => match compLC P N o1 o2 none with
  | some (T,tb,d1,d2,f,n) => if compSt o3 T tb d2 = true then some (cXs P tb d1 d2 f n none) else none
  | none => none
 | 5,[o1,oA,oB,o2,o3] => match compPre P N oA oB with
  | some p => match compLC P N o1 o2 (some p) with
   | some (T,tb,d1,d2,f,n) => if compSt o3 T tb d2 = true then some (cXs P tb d1 d2 f n (some p)) else none
   | none => none
  | none => none
 | 6,[o1,o2] => match compLC P N o1 o2 none with
  | some (T,tb,d1,d2,f,n) => some (cXn P tb d1 d2 f n none)
  | none => none
 | 7,[o1,oA,oB,o2] => match compPre P N oA oB with
  | some p => match compLC P N o1 o2 (some p) with
   | some (T,tb,d1,d2,f,n) => some (cLn P tb d1 d2 f n (some p))
   | none => none
  | none => none
 | 8,[o1,o2] => match o1.op,o1.dst,o2.op with
  | .load T (.tmp tb),some d1,.store T' (.tmp tb') (.tmp d1') => match sizeT P T,aggT P T with
   | some n,some true => if ((o1.guard.isNone = true ∧ o2.guard.isNone = true ∧ o2.dst.isNone = true) ∧ (T' = T ∧ d1' = d1)) ∧ (d1 < N ∧ tb' ≠ d1) then some (cCpX tb tb' d1 n) else none
   | _,_ => none
  | _,_,_ => none
 | 9,[oA,oB,oC,oD] => compLf P N oA oB oC oD
 | 11,[oA,oB,oC,oD,oE,oF] => compIns P N oA oB oC oD oE oF
 | 12,[] => some cLe
 | 13,[o1,o2,o3] => match compLC P N o1 o2 none with
  | some (T,tb,d1,d2,f,n) => if compSt o3 T tb d2 = true then some (cXd P tb d1 d2 f n) else none
  | none => none
 | k,l => compX P N k l
section
variable {P : Program} {N : Nat} {ops : Array Oper} {base : Nat → Prop} {w0 : World} {I0 : Still}
theorem compPre_ok {oA oB : Oper} {p : Nat × Nat × Nat × Nat} (h : compPre P N oA oB = some p) : preOps P N (some p) [oA,oB]:=by
 unfold compPre at h
 split at h
 ·rename_i k1 k2 k3 k4
  split at h
  ·rename_i q1
   split at h
   ·rename_i q2
    split at h
    ·rename_i q3 q4 q5
     split at h
     ·rename_i hq
      cases h
      obtain ⟨⟨g1,g2⟩,⟨rfl,hn⟩,hA,hB⟩:=hq
      exact ⟨_,_,_,_,_,k1,k2,Option.isNone_iff_eq_none.1 g1,q1,q2,rfl,⟨_,q3,hn⟩,k3,k4,Option.isNone_iff_eq_none.1 g2,q4,q5,hA,hB⟩
     ·cases h
    ·cases h
   ·cases h
  ·cases h
 ·cases h
theorem call_eqs {c : Call} {f : Nat} {xs : List Operand} (h1 : c.callee = .value (.func f)) (h2 : c.args.toList = xs) : c = { callee:=.value (.func f),args:=xs.toArray,argTypes:=c.argTypes }:=by
 cases c
 simp only at h1 h2
 rw [h1,← h2,Array.toArray_toList]
theorem compLC_ok {o1 o2 : Oper} {pre : Pre} {T tb d1 d2 f n : Nat} (h : compLC P N o1 o2 pre = some (T,tb,d1,d2,f,n)) : ∃ ats,o1.op = .load T (.tmp tb) ∧ o1.dst = some d1 ∧ o1.guard = none ∧ o2.op = .call { callee:=.value (.func f),args:=(.tmp d1 :: preArgs pre).toArray,argTypes:=ats } ∧ o2.dst = some d2 ∧ o2.guard = none ∧
  sizeT P T = some n ∧ aggT P T = some true ∧ callableB P f = true ∧ d1 < N ∧ d2 < N ∧ tb ≠ d1 ∧ tb ≠ d2 ∧ preKeeps pre d1 ∧ preKeeps pre tb ∧ ∀ tc off dA dB,pre = some (tc,off,dA,dB) → tc ≠ d1:=by
 unfold compLC at h
 split at h
 ·rename_i k1 k2 k3 k4
  split at h
  ·rename_i q1 q2 q3
   split at h
   ·rename_i hq
    cases h
    obtain ⟨⟨g1,g2⟩,ha,hc,⟨n1,n2,n3,n4⟩,hp⟩:=hq
    refine ⟨_,k1,k2,Option.isNone_iff_eq_none.1 g1,k3.trans (by rw [call_eqs q1 (tmpsOf_eq ha),List.map_cons,preTmp_eq]),k4,Option.isNone_iff_eq_none.1 g2,q2,q3,hc,n1,n2,n3,n4,?_⟩
    cases pre with
    | none => exact ⟨trivial,trivial,fun _ _ _ _ e => by cases e⟩
    | some p =>
     obtain ⟨tc,off,dA,dB⟩:=p
     simp only [preSep,Bool.and_eq_true,bne_iff_ne,ne_eq] at hp
     exact ⟨⟨hp.1,hp.2.1⟩,⟨hp.2.2.1,hp.2.2.2.1⟩,fun _ _ _ _ e => by cases e; exact hp.2.2.2.2⟩
   ·cases h
  ·cases h
 ·cases h
theorem compSt_ok {o3 : Oper} {T tb d2 : Nat} (h : compSt o3 T tb d2 = true) : o3.op = .store T (.tmp tb) (.tmp d2) ∧ o3.dst = none ∧ o3.guard = none:=by
 unfold compSt at h
 split at h
 ·rename_i k1
  simp only [Bool.and_eq_true,beq_iff_eq] at h
  obtain ⟨g1,g2,rfl,rfl,rfl⟩:=h
  exact ⟨k1,Option.isNone_iff_eq_none.1 g2,Option.isNone_iff_eq_none.1 g1⟩
 ·cases h
theorem compLf_ok {oA oB oC oD : Oper} {l2 : List Oper} {ic : IC} (hc : compLf P N oA oB oC oD = some ic) {st : St} {R : AX → St → Prop} {Q : Exit → Act → World → Prop} {a : Act} {w : World} (h : ic st R) (hr : Rel base w0 I0 N st.F a w)
  (hK : ∀ st' a' w',R none st' → Rel base w0 I0 N st'.F a' w' → wpList P ops Q l2 a' w') : wpList P ops Q (oA :: oB :: oC :: oD :: l2) a w:=by
 unfold compLf at hc
 split at hc
 ·rename_i k0 k1 k2 k3 k4
  split at hc
  ·rename_i q1 q2
   split at hc
   ·rename_i hq
    cases hc
    obtain ⟨⟨g1,g2⟩,⟨rfl,rfl⟩,hcf,⟨n1,n2⟩,n3,n4,n5⟩:=hq
    obtain ⟨T,fds,fd,fld,TB,r1,r2,r3,r4,r5,r6,⟨n,r7,r8⟩,r9,r10,r11,r12,r13,r14,r15⟩:=compPre_ok k0
    exact run_Lf r1 r2 r3 r4 r5 r6 r7 r8 r9 r10 r11 r12 r13 k1 k2 (Option.isNone_iff_eq_none.1 g1) (k3.trans (by rw [call_eqs q1 q2])) k4 (Option.isNone_iff_eq_none.1 g2) hcf ⟨r14,r15,n1,n2⟩ ⟨n3,n4,n5⟩ h hr hK
   ·cases hc
  ·cases hc
 ·cases hc
theorem compIns_ok {oA oB oC oD oE oF : Oper} {l2 : List Oper} {ic : IC} (hc : compIns P N oA oB oC oD oE oF = some ic) {st : St} {R : AX → St → Prop} {Q : Exit → Act → World → Prop} {a : Act} {w : World} (h : ic st R) (hr : Rel base w0 I0 N st.F a w)
  (hK : ∀ st' a' w',R none st' → Rel base w0 I0 N st'.F a' w' → wpList P ops Q l2 a' w') : wpList P ops Q (oA :: oB :: oC :: oD :: oE :: oF :: l2) a w:=by
 unfold compIns at hc
 split at hc
 ·rename_i k0 k1 k2 k3 k4
  split at hc
  ·rename_i k5 k6 k7 k8
   split at hc
   ·rename_i q1 q2 q3 q4
    split at hc
    ·rename_i q5
     split at hc
     ·rename_i q6
      split at hc
      ·rename_i hq
       cases hc
       obtain ⟨⟨g1,g2,g3,g4⟩,⟨rfl,rfl,rfl⟩,⟨z1,z2⟩,hcf,⟨n1,n2,n3,n4⟩,hne⟩:=hq
       obtain ⟨T,fds,fd,fld,TB,r1,r2,r3,r4,r5,r6,⟨n,r7,r8⟩,r9,r10,r11,r12,r13,r14,r15⟩:=compPre_ok k0
       exact run_Ins r1 r2 r3 r4 r5 r6 r7 r8 r9 r10 r11 r12 r13 k1 k2 (Option.isNone_iff_eq_none.1 g1) k3 k4 (Option.isNone_iff_eq_none.1 g2) (k5.trans (by rw [Array.toList_inj.1 (q1.trans rfl : _ = (#[(0,Operand.tmp _)] : Array (Nat × Operand)).toList)])) k6 (Option.isNone_iff_eq_none.1 g3) q4 q5 z1 q6 z2
        (k7.trans (by rw [call_eqs q2 (tmpsOf_eq q3)]; rfl)) k8 (Option.isNone_iff_eq_none.1 g4) hcf ⟨r14,r15,n1,n2,n3,n4⟩ hne h hr hK
      ·cases hc
     ·cases hc
    ·cases hc
   ·cases hc
  ·cases hc
 ·cases hc
theorem compY_ok {k : Nat} {l l2 : List Oper} {ic : IC} (hc : compY P N k l = some ic) {st : St} {R : AX → St → Prop} {Q : Exit → Act → World → Prop} {a : Act} {w : World} (h : ic st R) (hr : Rel base w0 I0 N st.F a w)
  (hK : ∀ st' a' w',R none st' → Rel base w0 I0 N st'.F a' w' → wpList P ops Q l2 a' w') : wpList P ops Q (l ++ l2) a w:=by
 unfold compY at hc
 split at hc
 ·split at hc
  ·rename_i h1
   split at hc
   ·rename_i h2
    cases hc
    obtain ⟨ats,r1,r2,r3,r4,r5,r6,r7,r8,r9,r10,r11,r12,r13,r14,r15,r16⟩:=compLC_ok h1
    obtain ⟨s1,s2,s3⟩:=compSt_ok h2
    exact run_Xs (pre:=none) (lp:=[]) trivial r1 r2 r3 r4 r5 r6 s1 s2 s3 r7 r8 r9 r10 r11 r12 r13 r14 r15 r16 h hr hK
   ·cases hc
  ·cases hc
 ·split at hc
  ·rename_i h0
   split at hc
   ·rename_i h1
    split at hc
    ·rename_i h2
     cases hc
     obtain ⟨ats,r1,r2,r3,r4,r5,r6,r7,r8,r9,r10,r11,r12,r13,r14,r15,r16⟩:=compLC_ok h1
     obtain ⟨s1,s2,s3⟩:=compSt_ok h2
     exact run_Xs (compPre_ok h0) r1 r2 r3 r4 r5 r6 s1 s2 s3 r7 r8 r9 r10 r11 r12 r13 r14 r15 r16 h hr hK
    ·cases hc
   ·cases hc
  ·cases hc
 ·split at hc
  ·rename_i h1
   cases hc
   obtain ⟨ats,r1,r2,r3,r4,r5,r6,r7,r8,r9,r10,r11,r12,r13,r14,r15,r16⟩:=compLC_ok h1
   exact run_Xn (pre:=none) (lp:=[]) trivial r1 r2 r3 r4 r5 r6 r7 r8 r9 r10 r11 r14 r16 h hr hK
  ·cases hc
 ·split at hc
  ·rename_i h0
   split at hc
   ·rename_i h1
    cases hc
    obtain ⟨ats,r1,r2,r3,r4,r5,r6,r7,r8,r9,r10,r11,r12,r13,r14,r15,r16⟩:=compLC_ok h1
    exact run_Ln (compPre_ok h0) r1 r2 r3 r4 r5 r6 r7 r8 r9 r10 r11 r14 r16 h hr hK
   ·cases hc
  ·cases hc
 ·split at hc
  ·rename_i k1 k2 k3
   split at hc
   ·rename_i q3 q4
    split at hc
    ·rename_i hq
     cases hc
     obtain ⟨⟨⟨g1,g2,g4⟩,rfl,rfl⟩,hN1,n1⟩:=hq
     exact run_CpX k1 k2 (Option.isNone_iff_eq_none.1 g1) k3 (Option.isNone_iff_eq_none.1 g4) (Option.isNone_iff_eq_none.1 g2) q3 q4 hN1 n1 h hr hK
    ·cases hc
   ·cases hc
  ·cases hc
 ·exact compLf_ok hc h hr hK
 ·exact compIns_ok hc h hr hK
 ·cases hc
  obtain ⟨st',hle,hq⟩:=h
  exact hK st' a w hq (hle _ _ _ _ _ _ hr)
 ·split at hc
  ·rename_i h1
   split at hc
   ·rename_i h2
    cases hc
    obtain ⟨ats,r1,r2,r3,r4,r5,r6,r7,r8,r9,r10,r11,r12,r13,r14,r15,r16⟩:=compLC_ok h1
    obtain ⟨s1,s2,s3⟩:=compSt_ok h2
    exact run_Xd r1 r2 r3 r4 r5 r6 s1 s2 s3 r7 r8 r9 r10 r11 r12 r13 r14 r15 r16 h hr hK
   ·cases hc
  ·cases hc
 ·exact compX_ok hc h hr hK
end
end Go.Proofs.Ytgaofjiidedcbad.ab
