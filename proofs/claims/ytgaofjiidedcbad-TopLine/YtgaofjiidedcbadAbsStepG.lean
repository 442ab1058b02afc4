import Derived.Test.YtgaofjiidedcbadM8
set_option linter.unusedVariables false
set_option linter.unusedSimpArgs false
namespace Go.Proofs.Ytgaofjiidedcbad.ab
open Go Go.RowKit
section
variable {P : Program} {o : Oper} {st : St}
abbrev mO (r : D) (e z : Nat) (c : D) : D:=.iface "o" (.agg [r,.held (.inr (e,z)),c])
abbrev mI (i e z : Nat) (c : D) : D:=.iface "i" (.slice [c] [.held (.inr (i,e)),.held (.inr (z,0))])
abbrev mU (z : Nat) (es es' : List D) : D:=.iface "u" (.agg [sD z es,sD z es'])
abbrev mP (off off' : Nat) : D:=.iface "p" (.held (.inr (off,off')))
abbrev RK:=Option ((D × Nat × Nat × D) ⊕ (((Nat × Nat × Nat × D) × List D) ⊕ ((Nat × List D × List D) ⊕ (Nat × Nat))))
def kindR : List D → RK
 | x :: l => match x with
  | .iface _ y => match y with
   | .agg [r,.held (.inr (e,z)),c] => some (.inl (r,e,z,c))
   | .slice [c] [.held (.inr (i,e)),.held (.inr (z,_))] => some (.inr (.inl ((i,e,z,c),l)))
   | .agg [.slice es [.held (.inr (z,_))],.slice es' _] => some (.inr (.inr (.inl (z,es,es'))))
   | .held (.inr (off,off')) => some (.inr (.inr (.inr (off,off'))))
   | _ => none
  | _ => none
 | [] => none
def kindL : List D → Option (List D)
 | [.slice es _] => some es
 | _ => none
theorem kindL_s (es l : List D) : kindL [.slice es l] = some es:=rfl
theorem kindL_v (x : Value) (l : List D) : kindL (vD x :: l) = none:=by cases l <;> rfl
theorem kindR_nil : kindR [] = none:=rfl
theorem kindR_v (x : Value) (l : List D) : kindR (vD x :: l) = none:=rfl
theorem kindR_a (cs l : List D) : kindR (aD cs :: l) = none:=rfl
theorem kindR_s (x y : List D) (l : List D) : kindR (.slice x y :: l) = none:=rfl
theorem kindR_x (l : List D) : kindR (xD :: l) = none:=rfl
theorem kindR_j (k f : Nat) (cs l : List D) : kindR (jD k f cs :: l) = none:=by cases cs with
 | nil => rfl
 | cons c r => cases r <;> rfl
theorem kindR_o (r : D) (e z : Nat) (c : D) (l : List D) : kindR (mO r e z c :: l) = some (.inl (r,e,z,c)):=rfl
theorem kindR_i (i e z : Nat) (c : D) (l : List D) : kindR (mI i e z c :: l) = some (.inr (.inl ((i,e,z,c),l))):=rfl
theorem kindR_u (z : Nat) (es es' l : List D) : kindR (mU z es es' :: l) = some (.inr (.inr (.inl (z,es,es')))):=rfl
theorem kindR_p (off off' : Nat) (l : List D) : kindR (mP off off' :: l) = some (.inr (.inr (.inr (off,off')))):=rfl
def unC : D → Option (List D)
 | .agg es => some es
 | _ => none
theorem unC_a (es : List D) : unC (aD es) = some es:=rfl
theorem unC_x : unC xD = none:=rfl
def ofC : Option (List D) → D
 | none => xD
 | some es => aD es
theorem ofC_n : ofC none = xD:=rfl
theorem ofC_s (es : List D) : ofC (some es) = aD es:=rfl
theorem unC_ofC (c : Option (List D)) : unC (ofC c) = c:=by cases c <;> rfl
def TellG (P : Program) (f : FuncId) (args r : List D) : Prop:=match kindR r with
 | none => Told P f args r
 | some (.inl (r,e,z,c)) => ToldO P f args [r] none e (z,unC c)
 | some (.inr (.inl ((i,e,z,c),r))) => ToldI P f args i none e (z,unC c) r
 | some (.inr (.inr (.inl (z,es,es')))) => ToldU P f args z es es'
 | some (.inr (.inr (.inr (off,off')))) => ToldP P f args off off'
def callableB (P : Program) (f : Nat) : Bool:=match P.funcs[f]? with
 | some fn => !(fn.name == "runtime.NumGoroutine") && !fn.body.isNone
 | none => false
def funOf : D → Option (Nat × List D)
 | .held (.inl (.func (.func f) a b)) => if a.isEmpty && b.isEmpty then some (f,[]) else none
 | .iface _ (.slice cs [.held (.inr (1,f))]) => some (f,[jD 0 0 cs])
 | _ => none
theorem funOf_rep {k : D} {f : Nat} {es : List D} (h : funOf k = some (f,es)) {I : Still} {ρ : Nat → Option Nat} {w : World} {u : Value} (hr : AVRep I ρ w k u) : ∃ us,u = .func (.func f) #[] us.toArray ∧ Vals I w es us:=by
 unfold funOf at h
 split at h
 ·split at h
  ·rename_i g a b hab
   cases h
   have:=plain_of hr
   subst this
   simp only [Bool.and_eq_true,Array.isEmpty_iff] at hab
   obtain ⟨rfl,rfl⟩:=hab
   exact ⟨[],rfl,Vals.nil⟩
  ·cases h
 ·cases h
  rename_i cs
  obtain ⟨p,rfl,hp⟩:=hr.invJ
  exact ⟨[.pointer (some p)],rfl,Vals.cons (.inl (CRep.j (k:=0) (f:=0) hp)) Vals.nil⟩
 ·cases h
theorem Vals.app {I : Still} {w : World} : ∀ {xs : List D} {us : List Value} {ys : List D} {vs : List Value},Vals I w xs us → Vals I w ys vs → Vals I w (xs ++ ys) (us ++ vs)
 | [],[],_,_,_,h => h
 | [],_ :: _,_,_,h,_ => by have:=h.1; simp at this
 | _ :: _,[],_,_,h,_ => by have:=h.1; simp at this
 | x :: xs,u :: us,_,_,h,h' => Vals.cons (h.2 0 x u rfl rfl) (Vals.app (us:=us) ⟨by have:=h.1; simpa using this,fun j c v hc hv => h.2 (j + 1) c v (by simpa using hc) (by simpa using hv)⟩ h')
theorem ok_callV {s : Nat} {xs : Array Operand} {ats : Array TypeId} (ho : o.op = .call { callee:=.value (.tmp s),args:=xs,argTypes:=ats }) {d : Nat} (hd : o.dst = some d) {k : D} {f : Nat} {es : List D} (hk : look st.tm s = some k) (hf : funOf k = some (f,es)) (hc : callableB P f = true)
  {cs cs' r : List D} (hx : rdC st xs.toList = some cs) (hle : ValsLe (cs ++ es) cs') (h : Told P f cs' r) :
  (vEv d ((s,k) :: rdsC xs.toList cs) (res r)).ok st.F ∧ Sound P o (vEv d ((s,k) :: rdsC xs.toList cs) (res r)):=by
 refine ⟨vEv_ok (fun y hy => ?_),sound_call hd h fun I ρ ac w hr => ?_⟩
 ·rcases List.mem_cons.1 hy with rfl | hy
  ·exact hk
  ·exact rdC_ok hx y hy
 ·obtain ⟨u,hu,hrep⟩:=hr (s,k) (by simp)
  obtain ⟨us,rfl,hus⟩:=funOf_rep hf hrep
  have he : ac.eval (.tmp s) = .func (.func f) #[] us.toArray:=by simp only at hu; simp [Act.eval,Array.getD_eq_getD_getElem?,hu]
  refine ⟨_,hle.rep (Vals.app (rdC_rep hx (fun y hy => hr y (by simp [hy]))) hus),?_⟩
  unfold callableB at hc
  split at hc
  ·rename_i fn hfn
   simp only [Bool.and_eq_true,Bool.not_eq_true'] at hc
   have hn' : ¬ fn.name = "runtime.NumGoroutine":=by simpa using hc.1
   have hb' : ¬ fn.body = none:=by intro q; rw [q] at hc; simp at hc
   have e : (xs.toList.map ac.eval ++ us).toArray = xs.map ac.eval ++ us.toArray:=by
    rw [← List.toArray_appendList]; simp
   simp [execOp,ho,resolve,he,Deferred.ofValue,invoke,callFunc,hfn,hn',hb',e]
  ·cases hc
theorem ok_boxF {e : TypeId} {x : Operand} (ho : o.op = .box e x) {d : Nat} (hd : o.dst = some d) {c : D} (hx : rd st x = some c) (hcc : isC c = true) :
  (vEv d (rds x c) (jD 0 0 (cellsD c))).ok st.F ∧ Sound P o (vEv d (rds x c) (jD 0 0 (cellsD c))):=by
 refine ⟨vEv_ok (rd_ok hx),sound_fresh hd fun I ρ ac w hr hlt => ?_⟩
 have h2:=cv_of hcc (rd_rep hx hr)
 have hrow:=h2.row
 have hbel : Below w.heap.size w (w.alloc (.cells (ac.eval x).cells e)):=(Below.refl _ _).alloc (Nat.le_refl _) _
 refine ⟨.pointer (some ⟨w.heap.size,0,none⟩),_,by simp [execOp,ho,Instr.box,newVar,newRow,newObj,Sem.run],hbel,.inl (CRep.j (k:=0) (f:=0) ⟨w.heap.size,0,rfl,fun j c' hc' => ?_⟩)⟩
 obtain ⟨u,q1,q2⟩:=hrow.at hc'
 have hcell : ∀ j,(w.alloc (.cells (ac.eval x).cells e)).cell? ⟨w.heap.size,j,none⟩ = (ac.eval x).cells[j]?:=fun j => by
  rw [cell_of_row _ w.heap.size j (ac.eval x).cells e (0,0) (heap_alloc_new _ _)]
 refine ⟨u,?_,.inr ⟨Nat.le_refl _,by simp⟩,q2.keep (fun _ _ => .inl) (fun b j hi => hbel.cell (p:=⟨b,j,none⟩) (hlt b j hi))⟩
 rw [Nat.zero_add,hcell,← Array.getElem?_toList]; exact q1
theorem ok_mkf {f s : Nat} (ho : o.op = .makeFunc (.func f) #[] #[.tmp s]) {d : Nat} (hd : o.dst = some d) {q : String} {cs : List D} {g : Nat} (hx : look st.tm s = some (.iface q (.slice cs [.held (.inr (0,g))]))) :
  (vEv d [(s,.iface q (.slice cs [.held (.inr (0,g))]))] (jD 1 f cs)).ok st.F ∧ Sound P o (vEv d [(s,.iface q (.slice cs [.held (.inr (0,g))]))] (jD 1 f cs)):=by
 refine ⟨vEv_ok (fun y hy => by simp at hy; subst hy; exact hx),sound_val hd (rb:=[]) fun I ρ ac w hr _ => ?_⟩
 obtain ⟨u,hu,hrep⟩:=hr (s,.iface q (.slice cs [.held (.inr (0,g))])) (List.mem_singleton.2 rfl)
 obtain ⟨p,rfl,hp⟩:=hrep.invJ
 have he : ac.eval (.tmp s) = .pointer (some p):=by simp only [wrapV] at hu; simp [Act.eval,Array.getD_eq_getD_getElem?,hu]
 exact ⟨wrapV 1 f p,by simp [execOp,ho,Instr.makeFunc,he,wrapV],.inl (.inl (CRep.j hp))⟩
theorem ok_slcO {t e : TypeId} {z : Nat} {x y : Operand} (ho : o.op = .slice t x (some y) none none) (ht : P.underlying t = some (.slice e)) (hz : sizeT P e = some z) {d : Nat} (hd : o.dst = some d) {b n : Nat} {k : IntKind} {m : Int} (hx : rd st x = some (oD b n)) (hy : rd st y = some (vD (.int k m))) (hm : 0 ≤ m) (hmn : m < n) :
  (vEv d (rds x (oD b n) ++ rds y (vD (.int k m))) (rD b m.toNat z (n - m.toNat))).ok st.F ∧ Sound P o (vEv d (rds x (oD b n) ++ rds y (vD (.int k m))) (rD b m.toNat z (n - m.toNat))):=by
 refine ⟨vEv_ok (app_rs (rd_ok hx) (rd_ok hy)),sound_val hd (rb:=[]) fun I ρ ac w hr _ => ?_⟩
 obtain ⟨g,cap,h1,h2,hu,h3,h4⟩:=(rd_rep hx (fun y hy => hr y (List.mem_append_left _ hy))).invO
 have q1:=plain_of (rd_rep hy (fun y hy => hr y (List.mem_append_right _ hy)))
 have hb : (Instr.sliceBounds true n cap (some (ac.eval y)) none none).run P w = .ok (m.toNat,n,cap) w:=by
  simp [Instr.sliceBounds,Instr.sliceBound,asIntOf,q1,hm]
  omega
 have hne : ¬ cap = m.toNat:=by omega
 refine ⟨.slice (some ⟨g,m.toNat * z,none⟩) (n - m.toNat) (cap - m.toNat),?_,.inr (.inr (.inl (.inr (.inr (.inr (.inr (.inl ⟨b,m.toNat,z,n - m.toNat,g,_,rfl,h1.2,h2,rfl⟩)))))))⟩
 simp only [execOp,ho,Instr.sliceAt,Instr.slice,Sem.run_bind,run_underlying ht,Result.andThen_ok,hu,Option.map_some,Option.map_none,hb,run_sizeOf hz,Sem.run_pure,if_neg hne,Addr.add_lit,Nat.zero_add]
theorem sound_chgV (hd : o.dst = none) {rs : List (Nat × D)} {b : Nat} {cs cs' : List D} (hk : 100000 ≤ b)
  (H : ∀ (I : Still) (ρ : Nat → Option Nat) (a : Act) (w : World),(∀ x ∈ rs,∃ u,a.tmps[x.1]? = some u ∧ AVRep I ρ w x.2 u) → (∀ c j,I c j → c < w.heap.size) → ∀ g,ρ b = some g → (∀ j,¬ I g j) → BoxAt I ρ w b g cs →
   ∃ v w',(execOp a.eval o).run P w = .ok (.value v) w' ∧ w.grownBy w' (some g) ∧ BoxAt I ρ w' b g cs') :
  Sound P o { rs:=rs,rb:=[(b,cs)],wb:=some (b,cs') }:=by
 intro base w0 I0 N st a w K Q hN ⟨I,ρ,h⟩ hok hK
 have hb : st.bx b = some cs:=hok.rb (b,cs) (by simp)
 obtain ⟨g,hg,_,h3,h4⟩:=h.bx b cs hb
 obtain ⟨v,w',hrun,hgr,hr⟩:=H I ρ a w (fun x hx => h.tm x.1 x.2 (hok.rs x hx)) h.lt g hg h4 h3
 unfold Oper.wp
 rw [hrun]
 show K (a.put o.dst _) _
 rw [hd]
 refine hK _ _ ⟨I,_,(h.chg hk hb hg hgr hr).less (fun s x hx => ?_) rfl (fun s p x hx => ?_)⟩
 ·simpa [Ev.app,FS.setB] using hx
 ·simpa [Ev.app,FS.setB] using hx
theorem ok_clr {t e ty : TypeId} {z : Nat} {i : TypeInfo} {zv : Value} {x : Operand} (ho : o.op = .call { callee:=.builtin .clear,args:=#[x],argTypes:=#[t] }) (ht : P.underlying t = some (.slice e)) (hi : P.info? e = some i) (hzv : i.zero = some zv) (hsize : i.size = z) (hzs : zv.cells.size = z) (hzp : zv.cells.all plainV = true) (hz0 : 0 < z)
  (hd : o.dst = none) {b lo n : Nat} {es : List D} (hx : rd st x = some (rD b lo z n)) (hb : look st.bx b = some [sD z es]) (hbk : 100000 ≤ b) (hl : lo + n = es.length) (hn : 0 < n) :
  (updEv (rds x (rD b lo z n)) b [sD z es] [sD z (es.take lo ++ List.replicate n (aD (List.replicate z xD)))]).ok st.F ∧ Sound P o (updEv (rds x (rD b lo z n)) b [sD z es] [sD z (es.take lo ++ List.replicate n (aD (List.replicate z xD)))]):=by
 refine ⟨⟨rd_ok hx,(fun y hy => by simp [updEv] at hy; subst hy; exact hb),fun x hx => by simp [updEv] at hx,fun x hx => by simp [updEv] at hx⟩,sound_chgV hd hbk fun I ρ ac w hr hIlt g hg hnI hbx => ?_⟩
 obtain ⟨g',cap,hlt,hp,hu⟩:=(rd_rep hx hr).invR
 rw [hg] at hp; cases hp
 obtain ⟨z',es',us,t',h1,hgg,h3⟩:=hbx.row ⟨hbk,hlt⟩
 cases h1
 have hlen : (Builtin.zeroCells zv.cells n).toList.length = n * z:=by rw [Array.length_toList,size_zeroCells,hzs]
 have hone : ∀ v ∈ (Builtin.zeroCells zv.cells n).toList,v.oneCell' = true:=by
  intro v hv
  simp only [Builtin.zeroCells,Array.toList_map,List.mem_map,Array.mem_toList_iff,Array.mem_range] at hv
  obtain ⟨k,hk,rfl⟩:=hv
  have hlt' : k % zv.cells.size < zv.cells.size:=Nat.mod_lt _ (by omega)
  rw [getElem!_pos zv.cells _ hlt']
  exact (CRep.v (I:=I) (w:=w) (Array.all_eq_true.1 hzp _ hlt')).one.1
 have hfit : lo * z + 0 + (Builtin.zeroCells zv.cells n).toList.length ≤ us.toArray.size:=by
  rw [hlen]
  have:=h3.2.1
  rw [← hl,Nat.add_mul] at this
  simpa using this
 have hst:=run_storeCells_at (P:=P) g (lo * z) t' (Builtin.zeroCells zv.cells n).toList 0 us.toArray w hgg hfit hone
 have hzr : (zeroValue e).run P w = .ok zv w:=by simp [zeroValue,typeInfo,hi,hzv]
 have hov : us.toArray.toList.take (lo * z + 0) ++ (Builtin.zeroCells zv.cells n).toList ++ us.toArray.toList.drop (lo * z + 0 + (Builtin.zeroCells zv.cells n).toList.length) = over us (lo * z) (Builtin.zeroCells zv.cells n).toList:=by simp [over]
 rw [hov] at hst
 generalize hzc : (Builtin.zeroCells zv.cells n).toList = zc at *
 have hcell : ∀ c j,I c j → (w.setRow g (over us (lo * z) zc).toArray).cell? ⟨c,j,none⟩ = w.cell? ⟨c,j,none⟩:=fun c j hi =>
  cell_setRow_other w g _ ⟨c,j,none⟩ (fun e => hnI j (by rw [← e]; exact hi))
 have hfit' : lo * z + zc.length ≤ us.length:=by simpa using hfit
 refine ⟨.tuple #[],w.setRow g (over us (lo * z) zc).toArray,?_,⟨rfl,rfl,rfl,by simp,fun k _ hk => setRow_other w g k _ (fun e => hk (by rw [e]))⟩,.inr (.inl ⟨⟨hbk,hlt⟩,z,_,over us (lo * z) zc,t',rfl,setRow_heap w g us.toArray _ t' (0,0) hgg,fun x hx' => ?_,?_,fun i' j x l hx' hl' => ?_⟩)⟩
 ·obtain ⟨m,rfl⟩ : ∃ m,n = m + 1:=⟨n - 1,by omega⟩
  simp [execOp,ho,resolve,invoke,builtin,hu,Builtin.clear_,run_underlying ht,hzr,hzc,hst]
 ·rcases List.mem_append.1 hx' with q | q
  ·exact h3.1 x (List.mem_of_mem_take q)
  ·rw [List.eq_of_mem_replicate q]; simp [cellsD]
 ·rw [over_len hfit',List.length_append,List.length_take,List.length_replicate,Nat.min_eq_left (by omega),hl]; exact h3.2.1
 ·by_cases hi' : i' < lo
  ·rw [List.getElem?_append_left (by rw [List.length_take]; omega),List.getElem?_take,if_pos hi'] at hx'
   obtain ⟨u,q1,q2⟩:=h3.2.2 i' j x l hx' hl'
   have hj : j < z:=by have:=(List.getElem?_eq_some_iff.1 hl').1; rw [h3.1 x (List.mem_of_getElem? hx')] at this; exact this
   have:=cell_in hi' hj
   exact ⟨u,by rw [over_out hfit' (.inl this)]; exact q1,q2.keep (fun _ _ h => h) hcell⟩
  ·rw [List.getElem?_append_right (by rw [List.length_take]; omega),List.length_take,Nat.min_eq_left (by omega)] at hx'
   have hin : i' - lo < n:=by have:=(List.getElem?_eq_some_iff.1 hx').1; simpa using this
   rw [List.getElem?_replicate,if_pos hin] at hx'
   cases hx'
   simp only [cellsD] at hl'
   have hj : j < z:=by have:=(List.getElem?_eq_some_iff.1 hl').1; simpa using this
   rw [List.getElem?_replicate,if_pos hj] at hl'
   cases hl'
   have e1 : i' * z + j = lo * z + ((i' - lo) * z + j):=by rw [Nat.sub_mul]; have : lo * z ≤ i' * z:=Nat.mul_le_mul_right _ (by omega); omega
   have e2 : (i' - lo) * z + j < zc.length:=by rw [hlen]; exact cell_in hin hj
   refine ⟨zc[(i' - lo) * z + j],?_,CRep.x (hone _ (List.getElem_mem e2))⟩
   rw [e1,over_in hfit' e2]; exact List.getElem?_eq_getElem e2
variable {base : Nat → Prop} {w0 : World} {I0 : Still} {N : Nat} {I : Still} {ρ : Nat → Option Nat} {fs : FS} {a : Act} {w : World}
theorem RelI.more (h : RelI base w0 I0 N I ρ fs a w) {I' : Still} {B : Nat} (hI : ∀ b j,I b j → I' b j) (hs : ∀ b j,I' b j → I b j ∨ (B ≤ b ∧ b < w.heap.size)) (hB : ∀ b,base b → b < B) (hρ : ∀ b g,ρ b = some g → g < B) (hf : ∀ s o x u g,fs.fl s o = some x → At ρ a.tmps w s o = some u → u.ownBlock = some g → g < B) :
  RelI base w0 I0 N I' ρ fs a w:=by
 refine ⟨h.defers,h.size,fun s v hv => ?_,h.cap,h.flc,fun b cs hc => ?_,h.inj,h.nob,fun s o e z hx => ?_,h.apart,fun b j hi => ?_,fun b j hi => ?_,h.below,h.room,fun b j hi => ⟨hI _ _ (h.mon b j hi).1,(h.mon b j hi).2⟩⟩
 ·obtain ⟨u,h1,h2⟩:=h.tm s v hv
  exact ⟨u,h1,h2.keep hI (fun _ _ _ h => h) (fun _ _ _ => rfl)⟩
 ·obtain ⟨g,h1,h2,h3,h5⟩:=h.bx b cs hc
  exact ⟨g,h1,h2,h3.keep hI (fun _ _ _ h => h) (fun _ _ _ => rfl) rfl,fun j hj => (hs g j hj).elim (h5 j) (fun q => by have:=hρ b g h1; omega)⟩
 ·obtain ⟨u,h1,h2⟩:=h.fl s o e z hx
  exact ⟨u,h1,own_keep h2 (fun _ _ => rfl) (fun g j hg hi => (hs g j hi).elim id (fun q => by have:=hf s o (e,z) u g hx h1 hg; omega)) (fun _ _ _ h => h) hI (fun _ _ _ => rfl)⟩
 ·exact (hs b j hi).elim (h.lt b j) (fun q => q.2)
 ·exact (hs b j hi).elim (h.sub b j) (fun q => .inr (fun hb => by have:=hB b hb; omega))
theorem at_later (h : RelI base w0 I0 N I ρ fs a w) {w' : World} (hb : Below w.heap.size w w') (s : Nat) (p : Option Nat) : At ρ a.tmps w' s p = At ρ a.tmps w s p:=by
 cases p with
 | none => rfl
 | some off =>
  simp only [At]
  cases hr : ρ s with
  | none => rfl
  | some g => exact hb.cell (p:=⟨g,off,none⟩) (h.boxLt hr).2
theorem fl_later (h : RelI base w0 I0 N I ρ fs a w) {w' : World} (hb : Below w.heap.size w w') : ∀ s o x u g,fs.fl s o = some x → At ρ a.tmps w' s o = some u → u.ownBlock = some g → g < w.heap.size:=by
 intro s o x u g hx hu hg
 obtain ⟨u',h1,h2⟩:=h.fl s o x.1 x.2 hx
 rw [at_later h hb,h1] at hu
 cases hu
 exact (own_lt h2 g hg).2
theorem RelI.laterO (h : RelI base w0 I0 N I ρ fs a w) {w' : World} {I' : Still} (hb : Below w.heap.size w w') (hI : ∀ b j,I b j → I' b j) (hs : ∀ b j,I' b j → I b j ∨ (w.heap.size ≤ b ∧ b < w'.heap.size)) {e : Nat} {z : Pay} {u : Value} (ho : Own I' (fun _ => none) (fun b => b < w.heap.size) w' e z u) :
  RelI base w0 I0 N I' ρ fs a w' ∧ Own I' ρ base w' e z u ∧ ∀ t p x y g,fs.fl t p = some x → At ρ a.tmps w' t p = some y → y.ownBlock = some g → u.ownBlock ≠ some g:=by
 refine ⟨(h.later0 hb).more hI hs h.room (fun b g hg => (h.boxLt hg).2) (fl_later h hb),?_,fun t p x y g hx hy hg hu => ?_⟩
 ·obtain ⟨n,xs,h1,h2,h3⟩:=ho
  exact ⟨n,xs,h1,fun g hg => ⟨fun q => (h2 g hg).1 (h.room g q),(h2 g hg).2.1,fun b hb' => (h2 g hg).1 (h.boxLt hb').2⟩,h3⟩
 ·obtain ⟨n,xs,h1,h2,h3⟩:=ho
  exact (h2 g hu).1 (fl_later h hb t p x y g hx hy hg)
theorem sound_callO {d : Nat} (hd : o.dst = some d) {rs : List (Nat × D)} {f : FuncId} {args : List D} {r : D} {e : Nat} {z : Pay} (ht : ToldO P f args [r] none e z)
  (H : ∀ (I : Still) (ρ : Nat → Option Nat) (a : Act) (w : World),(∀ x ∈ rs,∃ u,a.tmps[x.1]? = some u ∧ AVRep I ρ w x.2 u) →
   ∃ vs,Vals I w args vs ∧ (execOp a.eval o).run P w = .ok (.enter f vs.toArray) w) :
  Sound P o { rs:=rs,ws:=some (d,some r),cf:=[(d,none)],sf:=some ((d,none),(e,z)) }:=by
 intro base w0 I0 N st a w K Q hN ⟨I,ρ,h⟩ hok hK
 obtain ⟨vs,hvs,hrun⟩:=H I ρ a w (fun x hx => h.tm x.1 x.2 (hok.rs x hx))
 unfold Oper.wp
 rw [hrun]
 refine (ht w I vs hvs h.lt).mono fun x w' ⟨v,I',u,he,hI,hs,hv,hu,hown,hb⟩ => ?_
 subst he
 show K (a.put o.dst v) w'
 rw [hd]
 have hvu : v = u:=by simpa [cellAt] using hu
 subst hvu
 obtain ⟨h1,h2,h3⟩:=h.laterO hb hI hs hown
 have hsz : d < a.tmps.size:=by rw [h.size]; exact hN d hd
 have h4:=h1.put (hN d hd) (v:=some r) (u:=v) (fun x hx => by cases hx; exact .inl hv)
 have h5:=h4.giveF (s:=d) (o:=none) (e:=e) (z:=z) (u:=v) (fun k hk => by cases hk) (by simp [At,Act.put,hsz]) h2 (fun t p x y g hx hy hg => by
  simp only [FS.setT] at hx
  split at hx
  ·cases hx
  ·rename_i hne'
   rw [at_put d _ t p hne'] at hy
   exact h3 t p x y g hx hy hg)
 refine hK _ _ ⟨I',ρ,h5.less (fun t x hx => ?_) rfl (fun t p x hx => ?_)⟩
 ·simpa [Ev.app,FS.setT,FS.onF] using hx
 ·simp only [Ev.app,List.mem_singleton,Prod.mk.injEq] at hx
  simpa [FS.setT,FS.onF] using hx
theorem RelI.laterI (h : RelI base w0 I0 N I ρ fs a w) {w' : World} {e : Nat} {z : Pay} {u : Value} (ho : Own I ρ base w e z u) (hap : ∀ t p x y g,fs.fl t p = some x → At ρ a.tmps w t p = some y → y.ownBlock = some g → u.ownBlock ≠ some g)
  (hk : Kept (fun b => b < w.heap.size ∧ u.ownBlock ≠ some b) w w') (hc : ∀ b j,I b j → w'.cell? ⟨b,j,none⟩ = w.cell? ⟨b,j,none⟩) :
  RelI base w0 I0 N (fun b j => I b j ∨ ((w.heap.size ≤ b ∨ u.ownBlock = some b) ∧ b < w'.heap.size)) ρ fs a w':=by
 obtain ⟨n,xs,hrow,hsp,_⟩:=ho
 have hblk : ∀ b g,ρ b = some g → w'.heap[g]? = w.heap[g]?:=fun b g hg => hk.block g ⟨(h.boxLt hg).2,fun q => (hsp g q).2.2 b hg⟩
 have hat : ∀ s p,At ρ a.tmps w' s p = At ρ a.tmps w s p:=by
  intro s p
  cases p with
  | none => rfl
  | some off =>
   simp only [At]
   cases hr : ρ s with
   | none => rfl
   | some g => exact World.cell?_of_block (a:=⟨g,off,none⟩) (hblk s g hr)
 have hfb : ∀ t p x y g,fs.fl t p = some x → At ρ a.tmps w t p = some y → y.ownBlock = some g → g < w.heap.size ∧ w'.heap[g]? = w.heap[g]?:=by
  intro t p x y g hx hy hg
  obtain ⟨y',q1,q2⟩:=h.fl t p x.1 x.2 hx
  rw [hy] at q1; cases q1
  exact ⟨(own_lt q2 g hg).2,hk.block g ⟨(own_lt q2 g hg).2,hap t p x y g hx hy hg⟩⟩
 refine ⟨h.defers,h.size,fun s v hv => ?_,h.cap,h.flc,fun b cs hc' => ?_,h.inj,h.nob,fun s p e' z' hx => ?_,fun s p s' p' x x' y y' g h1 h2 h3 h4 h5 h6 => ?_,fun b j hi => ?_,fun b j hi => ?_,?_,fun b hb => Nat.lt_of_lt_of_le (h.room b hb) hk.size,fun b j hi => ⟨.inl (h.mon b j hi).1,(hc b j (h.mon b j hi).1).trans (h.mon b j hi).2⟩⟩
 ·obtain ⟨y,q1,q2⟩:=h.tm s v hv
  exact ⟨y,q1,q2.keep (fun _ _ => .inl) (fun _ _ _ h => h) hc⟩
 ·obtain ⟨g,q1,q2,q3,q5⟩:=h.bx b cs hc'
  exact ⟨g,q1,q2,q3.keep (fun _ _ => .inl) (fun _ _ _ h => h) hc (hblk b g q1),fun j hj => hj.elim (q5 j) (fun q => q.1.elim (fun q => by have:=(h.boxLt q1).2; omega) (fun q => (hsp g q).2.2 b q1))⟩
 ·obtain ⟨y,q1,q2⟩:=h.fl s p e' z' hx
  refine ⟨y,by rw [hat]; exact q1,own_keep q2 (fun g hg => (hfb s p _ y g hx q1 hg).2) (fun g j hg hi => hi.elim id (fun q => q.1.elim (fun q => by have:=(hfb s p _ y g hx q1 hg).1; omega) (fun q => absurd q (hap s p _ y g hx q1 hg)))) (fun _ _ _ h => h) (fun _ _ => .inl) hc⟩
 ·rw [hat] at h3 h4
  exact h.apart s p s' p' x x' y y' g h1 h2 h3 h4 h5 h6
 ·rcases hi with hi | hi
  ·have:=h.lt b j hi; have:=hk.size; omega
  ·exact hi.2
 ·rcases hi with hi | ⟨hi | hi,_⟩
  ·exact h.sub b j hi
  ·exact .inr (fun hb => by have:=h.room b hb; omega)
  ·exact .inr (hsp b hi).1
 ·exact h.below.trans ⟨hk.os,hk.tape,hk.output,hk.size,fun k hb => hk.block k ⟨h.room k hb,fun q => (hsp k q).1 hb⟩⟩
theorem own_lent {e : Nat} {z : Pay} {u : Value} (h : Own I ρ base w e z u) : Own I (fun _ => none) (fun _ => False) w e z u:=by
 obtain ⟨n,xs,h1,h2,h3⟩:=h
 exact ⟨n,xs,h1,fun g hg => ⟨fun q => q,(h2 g hg).2.1,fun b q => by cases q⟩,h3⟩
theorem sound_callI {d : Nat} (hd : o.dst = some d) {rs : List (Nat × D)} {f : FuncId} {args r : List D} {i s e : Nat} {z : Pay} (ht : ToldI P f args i none e z r) (hne : s ≠ d)
  (H : ∀ (I : Still) (ρ : Nat → Option Nat) (a : Act) (w : World),(∀ x ∈ rs,∃ u,a.tmps[x.1]? = some u ∧ AVRep I ρ w x.2 u) →
   ∃ vs,Vals I w args vs ∧ vs[i]? = some (a.eval (.tmp s)) ∧ (execOp a.eval o).run P w = .ok (.enter f vs.toArray) w) :
  Sound P o { rs:=rs,rf:=[((s,none),(e,z))],ws:=some (d,some (res r)),cf:=[(s,none),(d,none)] }:=by
 intro base w0 I0 N st a w K Q hN ⟨I,ρ,h⟩ hok hK
 have hx : st.fl s none = some (e,z):=hok.rf ((s,none),(e,z)) (by simp)
 obtain ⟨u,hat,hown⟩:=h.fl s none e z hx
 obtain ⟨vs,hvs,hvi,hrun⟩:=H I ρ a w (fun x hx => h.tm x.1 x.2 (hok.rs x hx))
 have he : a.eval (.tmp s) = u:=by simp only [At] at hat; simp [Act.eval,Array.getD_eq_getD_getElem?,hat]
 rw [he] at hvi
 unfold Oper.wp
 rw [hrun]
 refine (ht w I vs u u hvs h.lt hvi rfl (own_lent hown)).mono fun x w' ⟨v,hx',hv,hk,hc⟩ => ?_
 subst hx'
 show K (a.put o.dst v) w'
 rw [hd]
 have h0:=h.offF s none
 have h1:=(h0.laterI hown (fun s' o' x y g hx' hy hg hu' => by
  simp only [FS.offF] at hx'
  split at hx'
  ·cases hx'
  ·rename_i hne'
   exact hne' (h.apart s' o' s none x (e,z) y u g hx' hx hy hat hg hu')) hk hc).put (hN d hd) (v:=some (res r)) (u:=v) (fun x hx => by cases hx; exact res_rep hv)
 refine hK _ _ ⟨_,ρ,h1.less (fun t x hx => ?_) rfl (fun t p x hx => ?_)⟩
 ·simpa [Ev.app,FS.setT,FS.offF] using hx
 ·simp only [Ev.app,List.mem_cons,List.not_mem_nil,or_false,Prod.mk.injEq] at hx
  simp only [FS.setT,FS.offF]
  by_cases e1 : t = d ∧ p = none
  ·simp [e1] at hx
  ·by_cases e2 : t = s ∧ p = none
   ·simp [e2] at hx
   ·simpa [e1,e2] using hx
def outEv (d : Nat) (rs : List (Nat × D)) (r : D) (e z : Nat) (c : D) : Ev:={ rs:=rs,ws:=some (d,some r),cf:=[(d,none)],sf:=some ((d,none),(e,z,unC c)) }
def innEv (d s : Nat) (rs : List (Nat × D)) (r : List D) (e z : Nat) (c : D) : Ev:={ rs:=rs,rf:=[((s,none),(e,z,unC c))],ws:=some (d,some (res r)),cf:=[(s,none),(d,none)] }
theorem ok_callO {f : FuncId} {xs : Array Operand} {ats : Array TypeId} {fn : Func} (ho : o.op = .call { callee:=.value (.func f),args:=xs,argTypes:=ats }) (hf : P.funcs[f]? = some fn) (hn : (fn.name == "runtime.NumGoroutine") = false) (hb : fn.body.isNone = false)
  {d : Nat} (hd : o.dst = some d) {cs cs' : List D} {r : D} {e z : Nat} {c : D} (hx : rdC st xs.toList = some cs) (hle : ValsLe cs cs') (h : ToldO P f cs' [r] none e (z,unC c)) :
  (outEv d (rdsC xs.toList cs) r e z c).ok st.F ∧ Sound P o (outEv d (rdsC xs.toList cs) r e z c):=by
 refine ⟨⟨rdC_ok hx,fun x hx => by simp [outEv] at hx,fun x hx => by simp [outEv] at hx,fun x hx => by simp [outEv] at hx⟩,sound_callO hd h fun I ρ ac w hr => ?_⟩
 refine ⟨_,hle.rep (rdC_rep hx hr),?_⟩
 have e : (xs.toList.map ac.eval).toArray = xs.map ac.eval:=by rw [← Array.toList_map]
 have hn' : ¬ fn.name = "runtime.NumGoroutine":=by simpa using hn
 have hb' : ¬ fn.body = none:=by intro q; rw [q] at hb; cases hb
 simp [execOp,ho,resolve,Act.eval,Deferred.ofValue,invoke,callFunc,hf,hn',hb',e]
theorem ok_callI {f : FuncId} {xs : Array Operand} {ats : Array TypeId} {fn : Func} (ho : o.op = .call { callee:=.value (.func f),args:=xs,argTypes:=ats }) (hf : P.funcs[f]? = some fn) (hn : (fn.name == "runtime.NumGoroutine") = false) (hb : fn.body.isNone = false)
  {d : Nat} (hd : o.dst = some d) {cs cs' r : List D} {i s e z : Nat} {c : D} (hx : rdC st xs.toList = some cs) (hle : ValsLe cs cs') (h : ToldI P f cs' i none e (z,unC c) r) (hi : xs.toList[i]? = some (.tmp s)) (hne : s ≠ d) (hfl : lookF st.fl (s,none) = some (e,z,unC c)) :
  (innEv d s (rdsC xs.toList cs) r e z c).ok st.F ∧ Sound P o (innEv d s (rdsC xs.toList cs) r e z c):=by
 refine ⟨⟨rdC_ok hx,fun x hx => by simp [innEv] at hx,fun x hx => by simp [innEv] at hx,fun x hx => by simp [innEv] at hx; subst hx; exact hfl⟩,sound_callI hd h hne fun I ρ ac w hr => ?_⟩
 refine ⟨_,hle.rep (rdC_rep hx hr),?_,?_⟩
 ·rw [List.getElem?_map,hi]; rfl
 have e : (xs.toList.map ac.eval).toArray = xs.map ac.eval:=by rw [← Array.toList_map]
 have hn' : ¬ fn.name = "runtime.NumGoroutine":=by simpa using hn
 have hb' : ¬ fn.body = none:=by intro q; rw [q] at hb; cases hb
 simp [execOp,ho,resolve,Act.eval,Deferred.ofValue,invoke,callFunc,hf,hn',hb',e]
def dimC (c : D) : D:=if isL c = true then c else xD
def rdL (st : St) (x : Operand) : Option (D × D × List (Nat × List D)):=match rd st x with
 | some (.ptr (.held (.inr (b,n)))) => match look st.bx b with
  | some [.slice es [.held (.inr (z,0))]] => if n = es.length ∧ 100000 ≤ b ∧ b < 200000 then some (oD b n,sD z es,[(b,[sD z es])]) else none
  | some [.slice es [.held (.inr (1,0))],.held (.inr (m,0)),.ptr (.held (.inr (b',n')))] => if n = es.length ∧ 100000 ≤ b ∧ b < 200000 then some (oD b n,sD 1 es,[(b,[sD 1 es,pD m 0,oD b' n'])]) else none
  | _ => none
 | some (.ptr (.ptr (.ptr (.held (.inr (b,f)))))) => match look st.bx b with
  | some cs => some (fD b f,jD 1 f (cs.map dimC),[(b,cs)])
  | none => none
 | some c => if isC c = true then some (c,c,[]) else none
 | none => none
def rdLs (st : St) : List Operand → Option (List D × List (Nat × D) × List (Nat × List D))
 | [] => some ([],[],[])
 | x :: r => match rdL st x,rdLs st r with
  | some (v,c,rb),some (cs,rs,rbs) => some (c :: cs,rds x v ++ rs,rb ++ rbs)
  | _,_ => none
def plainR : List D → Bool
 | [.held (.inl _)] => true
 | _ => false
theorem plainR_eq {r : List D} (h : plainR r = true) : ∃ y,r = [vD y]:=by
 unfold plainR at h
 split at h
 ·exact ⟨_,rfl⟩
 ·cases h
theorem rdL_ok {x : Operand} {v c : D} {rb : List (Nat × List D)} (h : rdL st x = some (v,c,rb)) : (∀ y ∈ rds x v,st.F.tm y.1 = some y.2) ∧ (∀ y ∈ rb,st.F.bx y.1 = some y.2):=by
 unfold rdL at h
 split at h
 ·rename_i h1
  split at h
  ·rename_i h2
   split at h
   ·cases h; exact ⟨rd_ok h1,fun y hy => by simp at hy; subst hy; exact h2⟩
   ·cases h
  ·rename_i h2
   split at h
   ·cases h; exact ⟨rd_ok h1,fun y hy => by simp at hy; subst hy; exact h2⟩
   ·cases h
  ·cases h
 ·rename_i h1
  split at h
  ·rename_i h2
   cases h; exact ⟨rd_ok h1,fun y hy => by simp at hy; subst hy; exact h2⟩
  ·cases h
 ·rename_i h1
  split at h
  ·cases h; exact ⟨rd_ok h1,fun y hy => by cases hy⟩
  ·cases h
 ·cases h
theorem rdLs_ok : ∀ {xs : List Operand} {cs : List D} {rs : List (Nat × D)} {rb : List (Nat × List D)},rdLs st xs = some (cs,rs,rb) → (∀ y ∈ rs,st.F.tm y.1 = some y.2) ∧ (∀ y ∈ rb,st.F.bx y.1 = some y.2)
 | [],_,_,_,h => by simp [rdLs] at h; obtain ⟨rfl,rfl,rfl⟩:=h; exact ⟨(fun y hy => by cases hy),(fun y hy => by cases hy)⟩
 | x :: r,cs,rs,rb,h => by
  simp only [rdLs] at h
  split at h
  ·rename_i h1 h2
   cases h
   obtain ⟨q1,q2⟩:=rdL_ok h1
   obtain ⟨q3,q4⟩:=rdLs_ok h2
   exact ⟨fun y hy => (List.mem_append.1 hy).elim (q1 y) (q3 y),fun y hy => (List.mem_append.1 hy).elim (q2 y) (q4 y)⟩
  ·cases h
def lentI (I : Still) (ρ : Nat → Option Nat) (w : World) : Still:=fun g j => I g j ∨ ∃ b,b < 200000 ∧ ρ b = some g ∧ g < w.heap.size
theorem rdL_rep {x : Operand} {v c : D} {rb : List (Nat × List D)} (h : rdL st x = some (v,c,rb)) {I : Still} {ρ : Nat → Option Nat} {a : Act} {w : World} (hr : ∀ y ∈ rds x v,∃ u,a.tmps[y.1]? = some u ∧ AVRep I ρ w y.2 u) (hb : ∀ y ∈ rb,∃ g,ρ y.1 = some g ∧ BoxAt I ρ w y.1 g y.2) : CVRep (lentI I ρ w) w c (a.eval x):=by
 unfold rdL at h
 split at h
 ·rename_i b n h1
  split at h
  ·rename_i es z h2
   split at h
   ·rename_i h3
    cases h
    obtain ⟨g,cap,k1,k2,hu,k3,k4⟩:=(rd_rep h1 hr).invO
    obtain ⟨g',q1,q2⟩:=hb (b,[sD z es]) (by simp)
    simp only at q1 q2
    rw [k2] at q1; cases q1
    obtain ⟨z',es',us,t,e1,hblk,hel⟩:=q2.row k1
    cases e1
    have hcell : ∀ j,w.cell? ⟨g,j,none⟩ = us[j]?:=fun j => by rw [cell_of_row w g j us.toArray t (0,0) hblk]; simp
    rw [hu]
    obtain ⟨h4,h6⟩:=h3
    subst h4
    refine .inl (CRep.s ⟨fun i j => (us[i * z + j]?).getD undef,k3,(fun e => by cases e),k4,hel.1,fun hne => ⟨g,0,rfl,fun i j hi hj => ?_⟩,fun i j e l he hl => ?_⟩)
    ·have hlt : i * z + j < us.length:=by have:=cell_in hi hj; have:=hel.2.1; omega
     refine ⟨?_,.inr ⟨b,k1.2,k2,(Array.getElem?_eq_some_iff.1 hblk).1⟩⟩
     show _ = some ((us[i * z + j]?).getD undef)
     rw [hcell,show 0 + i * z + j = i * z + j by omega,List.getElem?_eq_getElem hlt]; rfl
    ·obtain ⟨u,r1,r2⟩:=hel.2.2 i j e l he hl
     show CRep _ _ l ((us[i * z + j]?).getD undef)
     rw [r1]
     exact r2.keep (fun _ _ => .inl) (fun _ _ _ => rfl)
   ·cases h
  ·rename_i es m b' n' h2
   split at h
   ·rename_i h3
    cases h
    obtain ⟨g,cap,k1,k2,hu,k3,k4⟩:=(rd_rep h1 hr).invO
    obtain ⟨g',q1,q2⟩:=hb _ (List.mem_singleton.2 rfl)
    simp only at q1 q2
    rw [k2] at q1; cases q1
    obtain ⟨us,t,u0,hblk,hel,_⟩:=BoxAt.pair (m:=m) q2 k1
    have hcell : ∀ j,w.cell? ⟨g,j,none⟩ = us[j]?:=fun j => by rw [cell_of_row w g j us.toArray t (0,0) hblk]; simp
    rw [hu]
    obtain ⟨h4,h6⟩:=h3
    subst h4
    refine .inl (CRep.s ⟨fun i j => (us[i * 1 + j]?).getD undef,k3,(fun e => by cases e),k4,hel.1,fun hne => ⟨g,0,rfl,fun i j hi hj => ?_⟩,fun i j e l he hl => ?_⟩)
    ·have hlt : i * 1 + j < us.length:=by have:=cell_in hi hj; have:=hel.2.1; omega
     refine ⟨?_,.inr ⟨b,k1.2,k2,(Array.getElem?_eq_some_iff.1 hblk).1⟩⟩
     show _ = some ((us[i * 1 + j]?).getD undef)
     rw [hcell,show 0 + i * 1 + j = i * 1 + j by omega,List.getElem?_eq_getElem hlt]; rfl
    ·obtain ⟨u,r1,r2⟩:=hel.2.2 i j e l he hl
     show CRep _ _ l ((us[i * 1 + j]?).getD undef)
     rw [r1]
     exact r2.keep (fun _ _ => .inl) (fun _ _ _ => rfl)
   ·cases h
  ·cases h
 ·rename_i b f h1
  split at h
  ·rename_i cs h2
   cases h
   obtain ⟨g,k1,k2,hu⟩:=(rd_rep h1 hr).invF
   obtain ⟨g',q1,q2⟩:=hb (b,cs) (by simp)
   simp only at q1 q2
   rw [k2] at q1; cases q1
   obtain ⟨us,t,hblk,hrow⟩:=q2.cells k1
   rw [hu]
   refine .inl (CRep.j (k:=1) (p:=⟨g,0,none⟩) ⟨g,0,rfl,fun j c hc => ?_⟩)
   rw [List.getElem?_map] at hc
   obtain ⟨c',hc',rfl⟩:=Option.map_eq_some_iff.1 hc
   obtain ⟨u,r1,r2⟩:=hrow.at hc'
   refine ⟨u,?_,.inr ⟨b,by omega,k2,(Array.getElem?_eq_some_iff.1 hblk).1⟩,?_⟩
   ·rw [Nat.zero_add,cell_of_row w g j us.toArray t (0,0) hblk]; simpa using r1
   ·unfold dimC
    split
    ·rename_i hL; exact (r2.leaf hL).keep (fun _ _ => .inl) (fun _ _ _ => rfl)
    ·exact CRep.x r2.one.1
  ·cases h
 ·rename_i h1
  split at h
  ·rename_i h3
   cases h
   exact (cv_of h3 (rd_rep h1 hr)).keep (fun _ _ => .inl) (fun _ _ _ => rfl)
  ·cases h
 ·cases h
theorem rdLs_rep {I : Still} {ρ : Nat → Option Nat} {a : Act} {w : World} : ∀ {xs : List Operand} {cs : List D} {rs : List (Nat × D)} {rb : List (Nat × List D)},rdLs st xs = some (cs,rs,rb) → (∀ y ∈ rs,∃ u,a.tmps[y.1]? = some u ∧ AVRep I ρ w y.2 u) → (∀ y ∈ rb,∃ g,ρ y.1 = some g ∧ BoxAt I ρ w y.1 g y.2) → Vals (lentI I ρ w) w cs (xs.map a.eval)
 | [],_,_,_,h,_,_ => by simp [rdLs] at h; obtain ⟨rfl,_,_⟩:=h; exact Vals.nil
 | x :: r,cs,rs,rb,h,hr,hb => by
  simp only [rdLs] at h
  split at h
  ·rename_i h1 h2
   cases h
   exact Vals.cons (rdL_rep h1 (fun y hy => hr y (List.mem_append_left _ hy)) (fun y hy => hb y (List.mem_append_left _ hy))) (rdLs_rep h2 (fun y hy => hr y (List.mem_append_right _ hy)) (fun y hy => hb y (List.mem_append_right _ hy)))
  ·cases h
theorem ok_callL {f : FuncId} {xs : Array Operand} {ats : Array TypeId} {fn : Func} (ho : o.op = .call { callee:=.value (.func f),args:=xs,argTypes:=ats }) (hf : P.funcs[f]? = some fn) (hn : (fn.name == "runtime.NumGoroutine") = false) (hb : fn.body.isNone = false)
  {d : Nat} (hd : o.dst = some d) {cs cs' r : List D} {rs : List (Nat × D)} {rb : List (Nat × List D)} (hx : rdLs st xs.toList = some (cs,rs,rb)) (hle : ValsLe cs cs') (h : Told P f cs' r) (hp : plainR r = true) :
  (bEv d rs rb (res r)).ok st.F ∧ Sound P o (bEv d rs rb (res r)):=by
 obtain ⟨q1,q2⟩:=rdLs_ok hx
 refine ⟨bEv_ok q1 q2,?_⟩
 intro base w0 I0 N fs a w K Q hN ⟨I,ρ,hr⟩ hok hK
 have hvs:=rdLs_rep hx (I:=I) (ρ:=ρ) (a:=a) (w:=w) (fun y hy => hr.tm y.1 y.2 (hok.rs y hy)) (fun y hy => by
  obtain ⟨g,k1,_,k3,_⟩:=hr.bx y.1 y.2 (hok.rb y hy)
  exact ⟨g,k1,k3⟩)
 unfold Oper.wp
 have e : (xs.toList.map a.eval).toArray = xs.map a.eval:=by rw [← Array.toList_map]
 have hn' : ¬ fn.name = "runtime.NumGoroutine":=by simpa using hn
 have hb' : ¬ fn.body = none:=by intro q; rw [q] at hb; cases hb
 rw [show (execOp a.eval o).run P w = .ok (.enter f (xs.toList.map a.eval).toArray) w by simp [execOp,ho,resolve,Act.eval,Deferred.ofValue,invoke,callFunc,hf,hn',hb',e]]
 refine (h w (lentI I ρ w) _ (hle.rep hvs) (fun b j hi => hi.elim (hr.lt b j) (fun ⟨_,_,_,q⟩ => q))).mono fun x w' ⟨v,hx',hv,hbel⟩ => ?_
 subst hx'
 show K (a.put o.dst v) w'
 rw [hd]
 have h1:=(hr.later hbel).put (hN d hd) (v:=some (res r)) (u:=v) (fun x hx => by
  cases hx
  obtain ⟨y,rfl⟩:=plainR_eq hp
  have hv' : CVRep _ w' (vD y) v:=hv
  obtain ⟨e1,q⟩:=(hv'.leaf (fun cs e => by cases e)).invV
  subst e1
  exact .inl (.inl (CRep.v q)))
 refine hK _ _ ⟨_,ρ,h1.less (fun s x hx => ?_) rfl (fun s p x hx => ?_)⟩
 ·simpa [bEv,Ev.app,FS.setT] using hx
 ·simp only [bEv,Ev.app,List.mem_singleton,Prod.mk.injEq] at hx
  simpa [FS.setT] using hx
theorem ok_mkfO {f s : Nat} (ho : o.op = .makeFunc (.func f) #[] #[.tmp s]) {d : Nat} (hd : o.dst = some d) {b : Nat} (hx : look st.tm s = some (pD b 0)) :
  (vEv d [(s,pD b 0)] (fD b f)).ok st.F ∧ Sound P o (vEv d [(s,pD b 0)] (fD b f)):=by
 refine ⟨vEv_ok (fun y hy => by simp at hy; subst hy; exact hx),sound_val hd (rb:=[]) fun I ρ ac w hr _ => ?_⟩
 obtain ⟨u,hu,hrep⟩:=hr (s,pD b 0) (List.mem_singleton.2 rfl)
 obtain ⟨g,hb,hg,rfl⟩:=hrep.invP
 have he : ac.eval (.tmp s) = .pointer (some ⟨g,0,none⟩):=by simp only at hu; simp [Act.eval,Array.getD_eq_getD_getElem?,hu]
 exact ⟨.func (.func f) #[] #[.pointer (some ⟨g,0,none⟩)],by simp [execOp,ho,Instr.makeFunc,he],.inr (.inr (.inl (.inr (.inr (.inr (.inr (.inr ⟨b,f,g,rfl,hb,hg,rfl⟩)))))))⟩
def app0HEv (d : Nat) (rs : List (Nat × D)) (e z : Nat) (es : List D) : Ev :=
 { rs:=rs,ws:=some (d,some xD),cf:=[(d,none)],sf:=some ((d,none),(e,z,some es)) }
theorem ok_app0H {t e : TypeId} {z bytes : Nat} {i : TypeInfo} {zv : Value} {x y : Operand} (ho : o.op = .call { callee:=.builtin .append,args:=#[x,y],argTypes:=#[t,t] }) (ht : P.underlying t = some (.slice e)) (hi : P.info? e = some i) (hzv : i.zero = some zv)
  (hsize : i.size = z) (hby : i.bytes = bytes) (hzs : zv.cells.size = z) (hz : 0 < z) (hb0 : 0 < bytes) {d : Nat} (hd : o.dst = some d) {l' : D} {es : List D} (hx : rd st x = some (vD (.slice none 0 0))) (hy : rd st y = some l') (hl' : asS z l' = some es)
  (hbytes : es.length * bytes ≤ 140737488355328) :
  (app0HEv d (rds x (vD (.slice none 0 0)) ++ rds y l') e z es).ok st.F ∧ Sound P o (app0HEv d (rds x (vD (.slice none 0 0)) ++ rds y l') e z es):=by
 have h63 : es.length ≤ maxLen:=by
  have : es.length ≤ es.length * bytes:=Nat.le_mul_of_pos_right _ hb0
  unfold maxLen; omega
 refine ⟨⟨app_rs (rd_ok hx) (rd_ok hy),fun x hx => by simp [app0HEv] at hx,fun x hx => by simp [app0HEv] at hx,fun x hx => by simp [app0HEv] at hx⟩,?_⟩
 intro base w0 I0 N st' a w K Q hN ⟨I,ρ,h⟩ hok hK
 have hrr:=fun y (hy : y ∈ rds x (vD (.slice none 0 0)) ++ rds _ l') => h.tm y.1 y.2 (hok.rs y hy)
 have h1:=plain_of (rd_rep hx (fun y hy => hrr y (List.mem_append_left _ hy)))
 have h2:=asS_av hl' (rd_rep hy (fun y hy => hrr y (List.mem_append_right _ hy)))
 obtain ⟨v',w',hr,h3,hone,hown',hap'⟩:=h.appH ht hi hzv hsize hby hzs hz (u:=.slice none 0 0) (es:=[]) (fs:=es) ⟨0,[],World.ownsRow_nil w 0 e z,(fun g hg => by simp [Value.ownBlock] at hg),fun es he => by cases he; exact ⟨rfl,(fun e he => by cases he),by simp,(fun i j e l he => by simp at he)⟩⟩ (fun s' o' x v g hx' hv hg hu' => by simp [Value.ownBlock] at hu') h2 (by simpa using h63) (by simpa using hbytes) (ty:=o.type)
 unfold Oper.wp
 rw [show (execOp a.eval o).run P w = .ok (.value v') w' by simp [execOp,ho,resolve,invoke,builtin,h1,hr]]
 show K (a.put o.dst v') w'
 rw [hd]
 have hsz : d < a.tmps.size:=by rw [h.size]; exact hN d hd
 have h4:=h3.put (hN d hd) (v:=some xD) (u:=v') (fun x hx => by cases hx; exact .inl (.inl (CRep.x hone)))
 have h5:=h4.giveF (s:=d) (o:=none) (e:=e) (z:=(z,some es)) (u:=v') (fun k hk => by cases hk) (by simp [At,Act.put,hsz]) (by simpa using hown') (fun t p x y g hx hy hg => by
  simp only [FS.setT] at hx
  split at hx
  ·cases hx
  ·rename_i hne'
   rw [at_put d _ t p hne'] at hy
   exact hap' t p x y g hx hy hg)
 refine hK _ _ ⟨I,ρ,h5.less (fun t x hx => ?_) rfl (fun t p x hx => ?_)⟩
 ·simpa [app0HEv,Ev.app,FS.setT,FS.onF] using hx
 ·simp only [app0HEv,Ev.app,List.mem_singleton,Prod.mk.injEq] at hx
  simpa [FS.setT,FS.onF] using hx
def callUEv (d : Nat) (rs : List (Nat × D)) (b z : Nat) (es es' : List D) : Ev :=
 { rs:=rs,rb:=[(b,[sD z es])],ws:=some (d,some (oD b es'.length)),wb:=some (b,[sD z es']),cf:=[(d,none)] }
theorem ok_callU {f : FuncId} {x : Operand} {ys : List Operand} {xs : Array Operand} (hxs : xs.toList = x :: ys) {ats : Array TypeId} {fn : Func} (ho : o.op = .call { callee:=.value (.func f),args:=xs,argTypes:=ats }) (hf : P.funcs[f]? = some fn) (hn : (fn.name == "runtime.NumGoroutine") = false) (hb : fn.body.isNone = false)
  {d : Nat} (hd : o.dst = some d) {b z : Nat} {cs cs' es es' : List D} (hk : 100000 ≤ b ∧ b < 200000) (hx : rd st x = some (oD b es.length)) (hy : rdC st ys = some cs) (hbx : look st.bx b = some [sD z es]) (hle : ValsLe cs cs') (h : ToldU P f cs' z es es') :
  (callUEv d (rds x (oD b es.length) ++ rdsC ys cs) b z es es').ok st.F ∧ Sound P o (callUEv d (rds x (oD b es.length) ++ rdsC ys cs) b z es es'):=by
 refine ⟨⟨app_rs (rd_ok hx) (rdC_ok hy),fun y hy => by simp [callUEv] at hy; subst hy; exact hbx,fun x hx => by simp [callUEv] at hx,fun x hx => by simp [callUEv] at hx⟩,?_⟩
 intro base w0 I0 N st' a w K Q hN ⟨I,ρ,hr⟩ hok hK
 have hrr:=fun y (hy : y ∈ rds x (oD b es.length) ++ rdsC ys cs) => hr.tm y.1 y.2 (hok.rs y hy)
 obtain ⟨g,cap,_,hg,hu,hcap,hmax⟩:=(rd_rep hx (fun y hy => hrr y (List.mem_append_left _ hy))).invO
 have hvs:=rdC_rep hy (fun y hy => hrr y (List.mem_append_right _ hy))
 have hbx' : st'.bx b = some [sD z es]:=hok.rb (b,[sD z es]) (by simp [callUEv])
 obtain ⟨g',hg',_,hbox,hnI⟩:=hr.bx b _ hbx'
 rw [hg] at hg'; cases hg'
 obtain ⟨z',es1,us,t,e1,hblk,hel⟩:=hbox.row hk
 cases e1
 have e : (xs.toList.map a.eval).toArray = xs.map a.eval:=by rw [← Array.toList_map]
 have hn' : ¬ fn.name = "runtime.NumGoroutine":=by simpa using hn
 have hb' : ¬ fn.body = none:=by intro q; rw [q] at hb; cases hb
 unfold Oper.wp
 rw [show (execOp a.eval o).run P w = .ok (.enter f (xs.toList.map a.eval).toArray) w by simp [execOp,ho,resolve,Act.eval,Deferred.ofValue,invoke,callFunc,hf,hn',hb',e]]
 rw [hxs,List.map_cons,hu]
 refine (h w I _ g us t cap (hle.rep hvs) hr.lt hblk hel hnI hcap hmax).mono fun x w' ⟨hx',hgr,us',hblk',hel',hlen⟩ => ?_
 subst hx'
 show K (a.put o.dst _) w'
 rw [hd]
 have h1:=hr.chg (b:=b) (cs':=[sD z es']) hk.1 hbx' hg hgr (.inr (.inl ⟨hk,z,es',us',t,rfl,hblk',hel'⟩))
 have h2:=h1.put (hN d hd) (v:=some (oD b es'.length)) (u:=.slice (some ⟨g,0,none⟩) es'.length cap) (fun x hx => by
  cases hx
  exact .inr (.inr (.inl (.inr (.inl ⟨b,es'.length,rfl,g,cap,hk,hg,rfl,by omega,hmax⟩)))))
 refine hK _ _ ⟨_,ρ,h2.less (fun s x hx => ?_) rfl (fun s p x hx => ?_)⟩
 ·simpa [callUEv,Ev.app,FS.setT,FS.setB] using hx
 ·simp only [callUEv,Ev.app,List.mem_singleton,Prod.mk.injEq] at hx
  simpa [FS.setT,FS.setB] using hx
end
end Go.Proofs.Ytgaofjiidedcbad.ab
