import Derived.Test.YtgaofjiidedcbadAbsStepG
set_option linter.unusedVariables false
set_option linter.unusedSimpArgs false
namespace Go.Proofs.Ytgaofjiidedcbad.ab
open Go Go.RowKit
section
variable {P : Program} {o : Oper} {st : St}
theorem max_if (a b : Int) : (if b > a then b else a) = max a b:=by
 by_cases h : b > a
 ·rw [if_pos h]; omega
 ·rw [if_neg h]; omega
theorem min_if (a b : Int) : (if b < a then b else a) = min a b:=by
 by_cases h : b < a
 ·rw [if_pos h]; omega
 ·rw [if_neg h]; omega
def mmI (mx : Bool) (a b : Int) : Int:=match mx with
 | true => max a b
 | false => min a b
theorem ok_mm {mx : Bool} {x y : Operand} {ts : Array TypeId} (ho : o.op = .call { callee:=.builtin (if mx = true then .max else .min),args:=#[x,y],argTypes:=ts }) {d : Nat} (hd : o.dst = some d) {k k' : IntKind} {a b : Int} (hx : rd st x = some (vD (.int k a))) (hy : rd st y = some (vD (.int k' b))) :
  (vEv d (rds x (vD (.int k a)) ++ rds y (vD (.int k' b))) (vD (.int k (mmI mx a b)))).ok st.F ∧ Sound P o (vEv d (rds x (vD (.int k a)) ++ rds y (vD (.int k' b))) (vD (.int k (mmI mx a b)))):=by
 refine ⟨vEv_ok (app_rs (rd_ok hx) (rd_ok hy)),sound_val hd (rb:=[]) fun I ρ ac w hr _ => ⟨.int k (mmI mx a b),?_,AVRep.v rfl⟩⟩
 have h1:=plain_of (rd_rep hx (fun y hy => hr y (List.mem_append_left _ hy)))
 have h2:=plain_of (rd_rep hy (fun y hy => hr y (List.mem_append_right _ hy)))
 cases mx with
 | true => simp [execOp,ho,h1,h2,resolve,invoke,builtin,Builtin.max_,Builtin.max2,mmI,← max_if]
 | false => simp [execOp,ho,h1,h2,resolve,invoke,builtin,Builtin.min_,Builtin.min2,mmI,← min_if]
theorem ok_xor {t t' : TypeId} {x y : Operand} (ho : o.op = .binOp .xor t x y t') {d : Nat} (hd : o.dst = some d) {a b : Int} (hx : rd st x = some (vD (.int .u8 a))) (hy : rd st y = some (vD (.int .u8 b))) (ha : inR .u8 a = true) (hb : inR .u8 b = true) :
  (vEv d (rds x (vD (.int .u8 a)) ++ rds y (vD (.int .u8 b))) (vD (.int .u8 ((a.toNat ^^^ b.toNat : Nat) : Int)))).ok st.F ∧ Sound P o (vEv d (rds x (vD (.int .u8 a)) ++ rds y (vD (.int .u8 b))) (vD (.int .u8 ((a.toNat ^^^ b.toNat : Nat) : Int)))):=by
 refine ⟨vEv_ok (app_rs (rd_ok hx) (rd_ok hy)),sound_val hd (rb:=[]) fun I ρ ac w hr _ => ⟨.int .u8 ((a.toNat ^^^ b.toNat : Nat) : Int),?_,AVRep.v rfl⟩⟩
 have h1:=plain_of (rd_rep hx (fun y hy => hr y (List.mem_append_left _ hy)))
 have h2:=plain_of (rd_rep hy (fun y hy => hr y (List.mem_append_right _ hy)))
 have ha':=inR_u8.1 ha
 have hb':=inR_u8.1 hb
 obtain ⟨m,rfl⟩ : ∃ m : Nat,a = m:=⟨a.toNat,by omega⟩
 obtain ⟨n,rfl⟩ : ∃ n : Nat,b = n:=⟨b.toNat,by omega⟩
 have hm : m < 2 ^ 8:=by omega
 have hn : n < 2 ^ 8:=by omega
 have e1 : (BitVec.ofInt 8 (m : Int) ^^^ BitVec.ofInt 8 (n : Int)).toNat = m ^^^ n:=by
  rw [BitVec.toNat_xor,BitVec.ofInt_natCast,BitVec.ofInt_natCast,BitVec.toNat_ofNat,BitVec.toNat_ofNat,Nat.mod_eq_of_lt hm,Nat.mod_eq_of_lt hn]
 have e2 : m ^^^ n < 2 ^ 8:=Nat.xor_lt_two_pow hm hn
 have e3 : IntKind.u8.wrap ((m ^^^ n : Nat) : Int) = ((m ^^^ n : Nat) : Int):=inR_wrap (inR_u8.2 (by omega))
 simp only [execOp,ho,h1,h2,binOp,Op.intBits]
 rw [show IntKind.u8.bits = 8 from rfl,e1]
 simp [eqGuard,e3]
theorem ok_nck {x : Operand} (ho : o.op = .nilCheck x) {d : Nat} (hd : o.dst = some d) {b off : Nat} (hx : rd st x = some (pD b off)) :
  (vEv d (rds x (pD b off)) (pD b off)).ok st.F ∧ Sound P o (vEv d (rds x (pD b off)) (pD b off)):=by
 refine ⟨vEv_ok (rd_ok hx),sound_val hd (rb:=[]) fun I ρ ac w hr _ => ?_⟩
 have h1:=rd_rep hx hr
 obtain ⟨g,hlt,hg,hu⟩:=h1.invP
 exact ⟨.pointer (some ⟨g,off,none⟩),by simp [execOp,ho,hu],AVRep.p hlt hg⟩
theorem ok_loadPr {t : TypeId} {x : Operand} (ho : o.op = .load t x) (hn : sizeT P t = some 1) (ha : aggT P t = some false) {d : Nat} (hd : o.dst = some d) {b i b' m : Nat} {es : List D} (hx : rd st x = some (qD b i 1 0)) (hb : look st.bx b = some [sD 1 es,pD i 0,oD b' m]) :
  (bEv d (rds x (qD b i 1 0)) [(b,[sD 1 es,pD i 0,oD b' m])] (oD b' m)).ok st.F ∧ Sound P o (bEv d (rds x (qD b i 1 0)) [(b,[sD 1 es,pD i 0,oD b' m])] (oD b' m)):=by
 refine ⟨bEv_ok (rd_ok hx) (fun y hy => by simp at hy; subst hy; exact hb),sound_val hd fun I ρ ac w hr hbx => ?_⟩
 obtain ⟨g,hlt,hp,hu⟩:=(rd_rep hx hr).invQ
 obtain ⟨g',q1,q2⟩:=hbx _ (List.mem_singleton.2 rfl)
 simp only at q1 q2; rw [hp] at q1; cases q1
 obtain ⟨us,t',u,h2,h3,h4,h5,h6⟩:=q2.pair hlt
 have hcell : ∀ j,w.cell? ⟨g,j,none⟩ = us[j]?:=fun j => by rw [cell_of_row w g j us.toArray t' (0,0) h2]; simp
 exact ⟨u,by simp [execOp,ho,hu,Instr.loadAt,Instr.sureAddr,loadVar,run_isAgg ha,load,Sem.run,hcell,h5],.inr (.inr (.inl (.inr (.inl ⟨b',m,rfl,h6⟩))))⟩
theorem ok_storPr {t : TypeId} {x y : Operand} (ho : o.op = .store t x y) (hn : sizeT P t = some 1) (hd : o.dst = none) {b i b' m : Nat} (hbk : 100000 ≤ b) {es : List D} {e : D} (hx : rd st x = some (qD b i 1 0)) (hb : look st.bx b = some [sD 1 es]) (he : es[i]? = some e) (hy : rd st y = some (oD b' m)) :
  (updEv (rds x (qD b i 1 0) ++ rds y (oD b' m)) b [sD 1 es] [sD 1 (es.set i xD),pD i 0,oD b' m]).ok st.F ∧ Sound P o (updEv (rds x (qD b i 1 0) ++ rds y (oD b' m)) b [sD 1 es] [sD 1 (es.set i xD),pD i 0,oD b' m]):=by
 refine ⟨⟨app_rs (rd_ok hx) (rd_ok hy),(fun y hy => by simp [updEv] at hy; subst hy; exact hb),fun x hx => by simp [updEv] at hx,fun x hx => by simp [updEv] at hx⟩,sound_chg hd hbk fun I ρ ac w hr hIlt g hg hnI hbx => ?_⟩
 obtain ⟨g',hlt,hp,hu⟩:=(rd_rep hx (fun y hy => hr y (List.mem_append_left _ hy))).invQ
 rw [hg] at hp; cases hp
 have h2:=(rd_rep hy (fun y hy => hr y (List.mem_append_right _ hy))).invO
 have h2':=h2
 obtain ⟨g2,cap,k1,k2,k3,k4,k5⟩:=h2'
 obtain ⟨z',es',us,t',h1,hgg,h3⟩:=hbx.row hlt
 cases h1
 have hi : i < es.length:=(List.getElem?_eq_some_iff.1 he).1
 have hle : i * 1 + 0 + 1 ≤ us.length:=by have:=h3.2.1; omega
 have hc1 : (ac.eval y).cells = #[ac.eval y]:=by rw [k3]; rfl
 have hone : ∀ v ∈ (ac.eval y).cells.toList,v.oneCell' = true:=by
  intro v hv; rw [hc1] at hv; simp at hv; subst hv; rw [k3]; rfl
 have hrun:=run_storeP (P:=P) hn hgg (u:=ac.eval y) (off:=i * 1 + 0) (by rw [hc1]; rfl) hone hle
 have hcl : (ac.eval y).cells.toList = [ac.eval y]:=by rw [hc1]
 rw [hcl,Nat.mul_one,Nat.add_zero] at hrun
 have hcell : ∀ c j,I c j → (w.setRow g (over us i [ac.eval y]).toArray).cell? ⟨c,j,none⟩ = w.cell? ⟨c,j,none⟩:=fun c j hi =>
  cell_setRow_other w g _ ⟨c,j,none⟩ (fun e => hnI j (by rw [← e]; exact hi))
 have hself : (over us i [ac.eval y])[i]? = some (ac.eval y):=by
  have:=over_in (cs:=us) (ds:=[ac.eval y]) (off:=i) (j:=0) (by simp; omega) (by simp)
  simpa using this
 refine ⟨w.setRow g (over us i [ac.eval y]).toArray,by simp [execOp,ho,hu,hrun],⟨rfl,rfl,rfl,by simp,fun k _ hk => setRow_other w g k _ (fun e => hk (by rw [e]))⟩,.inr (.inr (.inr ⟨hlt,_,over us i [ac.eval y],t',i,b',m,ac.eval y,rfl,setRow_heap w g us.toArray _ t' (0,0) hgg,⟨fun x hx => ?_,?_,fun i' j x l hx hl' => ?_⟩,by rw [List.getElem?_set_self hi],hself,h2⟩))⟩
 ·rcases List.mem_or_eq_of_mem_set hx with hx | rfl
  ·exact h3.1 x hx
  ·rfl
 ·rw [over_len (by simp; omega),List.length_set]; exact h3.2.1
 ·by_cases hii : i' = i
  ·subst hii
   rw [List.getElem?_set_self hi] at hx
   cases hx
   have hj : j = 0:=by have:=(List.getElem?_eq_some_iff.1 hl').1; simp [cellsD] at this; omega
   subst hj
   simp [cellsD] at hl'
   subst hl'
   exact ⟨ac.eval y,by rw [Nat.mul_one,Nat.add_zero]; exact hself,CRep.x (by rw [k3]; rfl)⟩
  ·rw [List.getElem?_set_ne (fun e => hii e.symm)] at hx
   obtain ⟨u,q1,q2⟩:=h3.2.2 i' j x l hx hl'
   have hxz:=h3.1 x (List.mem_of_getElem? hx)
   have hj : j < 1:=by have:=(List.getElem?_eq_some_iff.1 hl').1; omega
   refine ⟨u,?_,q2.keep (fun _ _ h => h) hcell⟩
   rw [over_out (by simp; omega) (by simp; omega)]
   exact q1
theorem ok_callPr {f : FuncId} {x : Operand} {ys : List Operand} {xs : Array Operand} (hxs : xs.toList = x :: ys) {ats : Array TypeId} {fn : Func} (ho : o.op = .call { callee:=.value (.func f),args:=xs,argTypes:=ats }) (hf : P.funcs[f]? = some fn) (hn : (fn.name == "runtime.NumGoroutine") = false) (hb : fn.body.isNone = false)
  {d : Nat} (hd : o.dst = some d) {b off off' : Nat} {cs cs' : List D} (hx : rd st x = some (pD b off)) (hy : rdC st ys = some cs) (hle : ValsLe cs cs') (h : ToldP P f cs' off off') :
  (vEv d (rds x (pD b off) ++ rdsC ys cs) (pD b off')).ok st.F ∧ Sound P o (vEv d (rds x (pD b off) ++ rdsC ys cs) (pD b off')):=by
 refine ⟨vEv_ok (app_rs (rd_ok hx) (rdC_ok hy)),?_⟩
 intro base w0 I0 N st' a w K Q hN ⟨I,ρ,hr⟩ hok hK
 have hrr:=fun y (hy : y ∈ rds x (pD b off) ++ rdsC ys cs) => hr.tm y.1 y.2 (hok.rs y hy)
 obtain ⟨g,hlt,hg,hu⟩:=(rd_rep hx (fun y hy => hrr y (List.mem_append_left _ hy))).invP
 have hvs:=rdC_rep hy (fun y hy => hrr y (List.mem_append_right _ hy))
 have e : (xs.toList.map a.eval).toArray = xs.map a.eval:=by rw [← Array.toList_map]
 have hn' : ¬ fn.name = "runtime.NumGoroutine":=by simpa using hn
 have hb' : ¬ fn.body = none:=by intro q; rw [q] at hb; cases hb
 unfold Oper.wp
 rw [show (execOp a.eval o).run P w = .ok (.enter f (xs.toList.map a.eval).toArray) w by simp [execOp,ho,resolve,Act.eval,Deferred.ofValue,invoke,callFunc,hf,hn',hb',e]]
 rw [hxs,List.map_cons,hu]
 refine (h w I _ g (hle.rep hvs) hr.lt).mono fun x w' ⟨hx',hbel⟩ => ?_
 subst hx'
 show K (a.put o.dst _) w'
 rw [hd]
 have h1:=(hr.later hbel).put (hN d hd) (v:=some (pD b off')) (u:=.pointer (some ⟨g,off',none⟩)) (fun x hx => by
  cases hx
  exact AVRep.p hlt hg)
 refine hK _ _ ⟨_,ρ,h1.less (fun s x hx => ?_) rfl (fun s p x hx => ?_)⟩
 ·simpa [vEv,Ev.app,FS.setT] using hx
 ·simp only [vEv,Ev.app,List.mem_singleton,Prod.mk.injEq] at hx
  simpa [FS.setT] using hx
end
section
variable {P : Program} {o : Oper} {st : St}
theorem sound_boxR {d : Nat} (hd : o.dst = some d) {rs : List (Nat × D)} {cs : List D} {n : Nat}
  (H : ∀ (I : Still) (ρ : Nat → Option Nat) (a : Act) (w : World),(∀ x ∈ rs,∃ u,a.tmps[x.1]? = some u ∧ AVRep I ρ w x.2 u) →
   ∃ us t c,RowL I ρ w cs us ∧ (execOp a.eval o).run P w = .ok (.value (.slice (some ⟨w.heap.size,0,none⟩) n c)) (w.alloc (.cells us.toArray t))) :
  Sound P o { rs:=rs,nb:=[d],ws:=some (d,some (rD d 0 1 n)),wb:=some (d,cs),cf:=[(d,none)] }:=by
 intro base w0 I0 N st a w K Q hN ⟨I,ρ,h⟩ hok hK
 have hb : st.bx d = none:=hok.nb d (by simp)
 obtain ⟨us,t,c,hrow,hrun⟩:=H I ρ a w (fun x hx => h.tm x.1 x.2 (hok.rs x hx))
 have hf : ∀ off,st.fl d (some off) = none:=by
  intro off
  cases hx : st.fl d (some off) with
  | none => rfl
  | some x =>
   obtain ⟨u,hat,_⟩:=h.fl d (some off) x.1 x.2 hx
   simp [At,h.nob d hb] at hat
 unfold Oper.wp
 rw [hrun]
 show K (a.put o.dst _) _
 rw [hd]
 have hlt : d < 100000:=Nat.lt_of_lt_of_le (hN d hd) h.cap
 have h1:=(h.newB hlt hb hf t hrow).put (hN d hd) (v:=some (rD d 0 1 n)) (u:=.slice (some ⟨w.heap.size,0,none⟩) n c) (fun x hx => by cases hx; exact .inr (.inr (.inl (.inr (.inr (.inr (.inr (.inl ⟨d,0,1,n,w.heap.size,c,rfl,by omega,by simp,rfl⟩))))))))
 refine hK _ _ ⟨I,_,h1.less (fun s x hx => ?_) rfl (fun s p x hx => ?_)⟩
 ·simpa [Ev.app,FS.setT,FS.setB] using hx
 ·simp only [Ev.app,List.mem_singleton,Prod.mk.injEq] at hx
  simpa [FS.setT,FS.setB] using hx
theorem ok_mkB {t e : TypeId} {bytes : Nat} {i : TypeInfo} {zv v : Value} {x y : Operand} (ho : o.op = .makeSlice t x y) (ht : P.underlying t = some (.slice e)) (hi : P.info? e = some i) (hzv : i.zero = some zv) (hsize : i.size = 1) (hby : i.bytes = bytes) (hzs : zv.cells = #[v]) (hpz : plainV v = true)
  {d : Nat} (hd : o.dst = some d) {k k' : IntKind} {n : Int} (hx : rd st x = some (vD (.int k n))) (hy : rd st y = some (vD (.int k' n))) (hn : 0 ≤ n ∧ n ≤ 1000000) (hbc : bytes ≤ 1000) (hb : look st.bx d = none) :
  Ev.ok { rs:=rds x (vD (.int k n)) ++ rds y (vD (.int k' n)),nb:=[d],ws:=some (d,some (rD d 0 1 n.toNat)),wb:=some (d,List.replicate n.toNat (vD v)),cf:=[(d,none)] } st.F ∧
   Sound P o { rs:=rds x (vD (.int k n)) ++ rds y (vD (.int k' n)),nb:=[d],ws:=some (d,some (rD d 0 1 n.toNat)),wb:=some (d,List.replicate n.toNat (vD v)),cf:=[(d,none)] }:=by
 refine ⟨⟨app_rs (rd_ok hx) (rd_ok hy),fun x hx => by simp at hx,fun x hx => by simp at hx; subst hx; exact hb,fun x hx => by simp at hx⟩,sound_boxR hd fun I ρ ac w hr => ?_⟩
 have h1:=plain_of (rd_rep hx (fun y hy => hr y (List.mem_append_left _ hy)))
 have h2:=plain_of (rd_rep hy (fun y hy => hr y (List.mem_append_right _ hy)))
 have hb' : (i.bytes : Int) * n ≤ 281474976710656:=by
  rw [hby]
  have : (bytes : Int) * n ≤ 1000 * 1000000:=Int.mul_le_mul (by omega) hn.2 hn.1 (by omega)
  omega
 have hrun:=run_make (P:=P) w t e i zv ht hi hzv k k' n n hn.1 (Int.le_refl _) hb' (by omega)
 refine ⟨(madeCells zv.cells (n.toNat * i.size)).toList,e,n.toNat,⟨?_,fun j c u hc hu => ?_⟩,?_⟩
 ·rw [List.length_replicate,Array.length_toList,size_madeCells,hsize,Nat.mul_one]
 ·obtain ⟨hlt,rfl⟩:=List.getElem?_eq_some_iff.1 hc
  rw [List.length_replicate] at hlt
  rw [List.getElem_replicate]
  have hin : j < n.toNat * i.size:=by rw [hsize]; omega
  have : u = v:=by
   rw [Array.getElem?_toList] at hu
   unfold madeCells at hu
   rw [Array.getElem?_map] at hu
   simp only [Array.getElem?_range,hin,if_true,Option.map_some,hzs] at hu
   simpa [Nat.mod_one] using hu.symm
  rw [this]
  exact .inl (CRep.v hpz)
 ·rw [Array.toArray_toList]
  simp [execOp,ho,h1,h2,hrun]
theorem ok_iaB {t e : TypeId} {x i : Operand} (ho : o.op = .indexAddr t x i) (ht : P.underlying t = some (.slice e)) (hz : sizeT P e = some 1) {d : Nat} (hd : o.dst = some d) {b lo m : Nat} {k : IntKind} {n : Int} (hx : rd st x = some (rD b lo 1 m)) (hi : rd st i = some (vD (.int k n))) (hb : b < 100000) (hn : 0 ≤ n ∧ n < m) :
  (vEv d (rds x (rD b lo 1 m) ++ rds i (vD (.int k n))) (pD b (lo + n.toNat))).ok st.F ∧ Sound P o (vEv d (rds x (rD b lo 1 m) ++ rds i (vD (.int k n))) (pD b (lo + n.toNat))):=by
 refine ⟨vEv_ok (app_rs (rd_ok hx) (rd_ok hi)),sound_val hd (rb:=[]) fun I ρ ac w hr _ => ?_⟩
 obtain ⟨g,cap,h1,h2,hu⟩:=(rd_rep hx (fun y hy => hr y (List.mem_append_left _ hy))).invR
 have hv:=plain_of (rd_rep hi (fun y hy => hr y (List.mem_append_right _ hy)))
 refine ⟨.pointer (some ⟨g,lo + n.toNat,none⟩),?_,AVRep.p hb h2⟩
 simp [execOp,ho,hu,hv,Instr.indexAt,asIntOf,run_underlying ht,run_sizeOf hz,hn.1,hn.2,Addr.add_lit]
end
end Go.Proofs.Ytgaofjiidedcbad.ab
