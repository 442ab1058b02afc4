import Derived.Test.YtgaofjiidedcbacGreatAbsRegion
set_option maxHeartbeats 1000000
set_option linter.unusedVariables false
set_option linter.unusedSimpArgs false
namespace Go.Proofs.YtgaofjiidedcbacGreat.ab
open Go Go.RowKit
abbrev AX:=Option (Option Nat)
abbrev IC:=St → (AX → St → Prop) → Prop
def cOwn (P : Program) (tb d1 d2 f n : Nat) : IC:=fun st Q => ∃ b cs cs' rs off e z,look st.tm tb = some (pD b 0) ∧ look st.bx b = some cs ∧ cs.length = n ∧ cs.all isL = true ∧ RowLe cs cs' ∧ ToldO P f [aD cs'] [aD rs] (some off) e z ∧ rs.length = n ∧
 Q none ⟨offT (offT st.tm d1) d2,(b,rs) :: st.bx,((b,some off),(e,z)) :: offP st.fl ((d1,none) :: (d2,none) :: cellsFrom b 0 rs)⟩
def cCpy (tb tb' d1 n : Nat) : IC:=fun st Q => ∃ b b' cs cs0 off x,look st.tm tb = some (pD b 0) ∧ look st.tm tb' = some (pD b' 0) ∧ b ≠ b' ∧ look st.bx b = some cs ∧ look st.bx b' = some cs0 ∧ cs.length = n ∧ cs0.length = n ∧ cs.all isL = true ∧ off < n ∧ lookF st.fl (b,some off) = some x ∧
 Q none ⟨offT st.tm d1,(b',cs) :: st.bx,((b',some off),x) :: offP st.fl ((b,some off) :: (d1,none) :: cellsFrom b' 0 cs)⟩
def cInn (P : Program) (tb d1 d2 f n : Nat) : IC:=fun st Q => ∃ b cs cs' off e z r,look st.tm tb = some (pD b 0) ∧ look st.bx b = some cs ∧ cs.length = n ∧ cs.all isL = true ∧ RowLe cs cs' ∧ off < n ∧ lookF st.fl (b,some off) = some (e,z) ∧ ToldI P f [aD cs'] 0 (some off) e z r ∧
 Q none ⟨(d2,res r) :: offT st.tm d1,st.bx,offP st.fl [(b,some off),(d1,none),(d2,none)]⟩
section
variable {P : Program} {N : Nat} {ops : Array Oper} {base : Nat → Prop} {w0 : World} {I0 : Still}
theorem run_loadA {T n : Nat} (hn : sizeT P T = some n) (ha : aggT P T = some true) {w : World} {g : Nat} {us : List Value} {t' : TypeId} (hg : w.heap[g]? = some (.cells us.toArray t' (0,0))) (hl : us.length = n) :
  (Instr.loadAt T (.pointer (some ⟨g,0,none⟩))).run P w = .ok (.agg us.toArray) w:=by
 have hcell : ∀ j,w.cell? ⟨g,j,none⟩ = us[j]?:=fun j => by rw [cell_of_row w g j us.toArray t' (0,0) hg]; simp
 have:=run_loadCells_list (P:=P) w ⟨g,0,none⟩ us (fun j y hy => by rw [Addr.add_lit,hcell,Nat.zero_add]; exact hy)
 rw [hl] at this
 simp [Instr.loadAt,Instr.sureAddr,loadVar,run_isAgg ha,run_sizeOf hn,this]
theorem row_of_all {I : Still} {ρ : Nat → Option Nat} {w : World} {cs : List D} {us : List Value} (h : RowL I ρ w cs us) (hL : cs.all isL = true) : Row I w cs us :=
 ⟨h.1,fun j c u hc hu => (h.2 j c u hc hu).leaf (List.all_eq_true.1 hL c (List.mem_of_getElem? hc))⟩
theorem eval_put {a : Act} {d t : Nat} {v : Value} (h : t ≠ d) : (a.put (some d) v).eval (.tmp t) = a.eval (.tmp t):=by
 simp only [Act.eval,Act.put,Array.getD_eq_getD_getElem?]
 rw [Array.getElem?_setIfInBounds,if_neg (fun e => h e.symm)]
theorem eval_put_same {a : Act} {d : Nat} {v : Value} (h : d < a.tmps.size) : (a.put (some d) v).eval (.tmp d) = v:=by
 simp [Act.eval,Act.put,Array.getD_eq_getD_getElem?,h]
theorem run_callF {f : Nat} (hc : callableB P f = true) {o : Oper} {s : Nat} {ats : Array TypeId} (ho : o.op = .call { callee:=.value (.func f),args:=#[.tmp s],argTypes:=ats }) (a : Act) (w : World) : (execOp a.eval o).run P w = .ok (.enter f #[a.eval (.tmp s)]) w:=by
 unfold callableB at hc
 split at hc
 ·rename_i fn hfn
  simp only [Bool.and_eq_true,Bool.not_eq_true'] at hc
  have hn' : ¬ fn.name = "runtime.NumGoroutine":=by simpa using hc.1
  have hb' : ¬ fn.body = none:=by intro q; rw [q] at hc; simp at hc
  have e : a.eval (.func f) = .func (.func f) #[] #[]:=rfl
  simp [execOp,ho,resolve,e,Deferred.ofValue,invoke,callFunc,hfn,hn',hb']
 ·cases hc
theorem wanted_none {o : Oper} (h : o.guard = none) (y : Nat → Option Bool) : Region.wanted o y = true:=by simp [Region.wanted,h]
theorem run_own {o1 o2 o3 : Oper} {l2 : List Oper} {T tb d1 d2 f n : Nat} {ats : Array TypeId} (ho1 : o1.op = .load T (.tmp tb)) (hd1 : o1.dst = some d1) (hg1 : o1.guard = none) (ho2 : o2.op = .call { callee:=.value (.func f),args:=#[.tmp d1],argTypes:=ats }) (hd2 : o2.dst = some d2) (hg2 : o2.guard = none)
  (ho3 : o3.op = .store T (.tmp tb) (.tmp d2)) (hd3 : o3.dst = none) (hg3 : o3.guard = none) (hn : sizeT P T = some n) (ha : aggT P T = some true) (hc : callableB P f = true) (hN1 : d1 < N) (hN2 : d2 < N) (hne1 : tb ≠ d1) (hne2 : tb ≠ d2) {st : St} {R : AX → St → Prop} {Q : Exit → Act → World → Prop} {a : Act} {w : World}
  (h : cOwn P tb d1 d2 f n st R) (hr : Rel base w0 I0 N st.F a w) (hK : ∀ st' a' w',R none st' → Rel base w0 I0 N st'.F a' w' → wpList P ops Q l2 a' w') : wpList P ops Q (o1 :: o2 :: o3 :: l2) a w:=by
 obtain ⟨b,cs,cs',rs,off,e,z,h1,h2,hl,hL,hle,ht,hrl,hq⟩:=h
 obtain ⟨I,ρ,hr⟩:=hr
 obtain ⟨up,hp1,hp2⟩:=hr.tm tb _ h1
 obtain ⟨g,hlt,hg,rfl⟩:=hp2.invP
 obtain ⟨g',hg',hbs,hbx,hnI⟩:=hr.bx b cs h2
 rw [hg] at hg'; cases hg'
 obtain ⟨us,tyB,hblk,hrowL⟩:=hbx.cells hlt
 have hrow:=row_of_all hrowL hL
 have htb : a.eval (.tmp tb) = .pointer (some ⟨g,0,none⟩):=by simp [Act.eval,Array.getD_eq_getD_getElem?,hp1]
 -- the load
 refine wpList_step fun K1 hK1 => ?_
 rw [if_pos (wanted_none hg1 _)]
 unfold Oper.wp
 rw [show (execOp a.eval o1).run P w = .ok (.value (.agg us.toArray)) w by simp [execOp,ho1,htb,run_loadA hn ha hblk (by rw [← hrowL.1,hl])]]
 show K1 (a.put o1.dst _) w
 rw [hd1]
 refine hK1 _ _ ?_
 have hr1:=hr.put hN1 (v:=none) (u:=.agg us.toArray) (fun x hx => by cases hx)
 -- the call
 refine wpList_step fun K2 hK2 => ?_
 rw [if_pos (wanted_none hg2 _)]
 unfold Oper.wp
 rw [run_callF hc ho2,eval_put_same (by rw [hr.size]; exact hN1)]
 refine (ht w I [.agg us.toArray] (Vals.cons (.inr ⟨cs',us,rfl,rfl,hle.rep hrow⟩) Vals.nil) hr.lt).mono fun x w' ⟨v,I',u,he,hI,hs,hv,hu,hown,hbel⟩ => ?_
 subst he
 show K2 (Act.put _ o2.dst v) w'
 rw [hd2]
 refine hK2 _ _ ?_
 obtain ⟨hr2,hown2,hap⟩:=hr1.laterO hbel hI hs hown
 have hr3:=hr2.put hN2 (v:=none) (u:=v) (fun x hx => by cases hx)
 obtain ⟨vs,rfl,hvs⟩:=CVRep.agg hv
 -- the store
 have hb3 : (((st.F.setT d1 none).setT d2 none)).bx b = some cs:=h2
 obtain ⟨g3,us3,t3,hg3',hblk3,hul3,hr4⟩:=hr3.store hlt hb3 (off:=0) (ds:=rs) (vs:=vs) (by omega) hvs.L
 rw [hg] at hg3'; cases hg3'
 have hvn : vs.length = n:=by rw [← hvs.1,hrl]
 refine wpList_step fun K3 hK3 => ?_
 rw [if_pos (wanted_none hg3 _)]
 unfold Oper.wp
 have hst:=run_storeP (P:=P) hn hblk3 (u:=.agg vs.toArray) (off:=0) (by simpa [Value.cells] using hvn) (by intro x hx; exact hvs.one x (by simpa [Value.cells] using hx)) (by rw [hul3]; omega)
 rw [show (execOp (Act.eval ((a.put (some d1) (.agg us.toArray)).put (some d2) (.agg vs.toArray))) o3).run P w' = .ok .skip (w'.setRow g (over us3 0 vs).toArray) by
  have e1 : ((a.put (some d1) (.agg us.toArray)).put (some d2) (.agg vs.toArray)).eval (.tmp tb) = .pointer (some ⟨g,0,none⟩):=by rw [eval_put hne2,eval_put hne1,htb]
  have e2 : ((a.put (some d1) (.agg us.toArray)).put (some d2) (.agg vs.toArray)).eval (.tmp d2) = .agg vs.toArray:=eval_put_same (by rw [hr2.size]; exact hN2)
  simp only [execOp,ho3,e1,e2,Sem.run_bind,hst,Result.andThen_ok,Value.cells,List.toList_toArray,Sem.run_pure]]
 show K3 (Act.put _ o3.dst undef) _
 rw [hd3]
 refine hK3 _ _ (hK _ _ _ hq ?_)
 -- the right
 have hvo : vs[off]? = some u:=by simpa [cellAt] using hu
 have hofl : off < vs.length:=(List.getElem?_eq_some_iff.1 hvo).1
 have hnI4 : ∀ j,¬ I' g j:=by
  obtain ⟨g5,q1,_,_,q4⟩:=hr3.bx b cs hb3
  rw [hg] at q1; cases q1; exact q4
 have hcell : ∀ c j,I' c j → (w'.setRow g (over us3 0 vs).toArray).cell? ⟨c,j,none⟩ = w'.cell? ⟨c,j,none⟩:=fun c j hi =>
  cell_setRow_other w' g _ ⟨c,j,none⟩ (fun e => hnI4 j (by rw [← e]; exact hi))
 have hat : At ρ ((a.put (some d1) (.agg us.toArray)).put (some d2) (.agg vs.toArray)).tmps (w'.setRow g (over us3 0 vs).toArray) b (some off) = some u:=by
  simp only [At,hg,Option.bind_some]
  rw [cell_setRow_same w' g off us3.toArray _ t3 (0,0) hblk3]
  have:=over_in (cs:=us3) (ds:=vs) (off:=0) (j:=off) (by omega) hofl
  rw [Nat.zero_add] at this
  simpa [this] using hvo
 have hneg : ∀ g',u.ownBlock = some g' → g' ≠ g:=fun g' hg' e => by
  obtain ⟨_,_,_,q,_⟩:=hown2
  exact (q g' hg').2.2 b (by rw [e]; exact hg)
 have hown4 : Own I' ρ base (w'.setRow g (over us3 0 vs).toArray) e z u:=own_keep hown2 (fun g' hg' => setRow_other w' g g' _ (hneg g' hg')) (fun _ _ _ h => h) (fun _ _ _ h => h) (fun _ _ h => h) hcell
 have h5:=hr4.giveF (s:=b) (o:=some off) (e:=e) (z:=z) (u:=u) (fun _ _ => hlt) hat hown4 (fun t p x y g' hx hy hg' => by
  simp only [FS.offR,FS.setB] at hx
  split at hx
  ·cases hx
  ·rename_i hn'
   simp only [FS.setT] at hx
   split at hx
   ·cases hx
   ·rename_i hn2
    have hx1:=hx
    split at hx
    ·cases hx
    ·rename_i hn1
     have e0 : At ρ ((a.put (some d1) (.agg us.toArray)).put (some d2) (.agg vs.toArray)).tmps (w'.setRow g (over us3 0 vs).toArray) t p = At ρ (a.put (some d1) (.agg us.toArray)).tmps w' t p:=by
      cases p with
      | none => exact at_put (ρ:=ρ) d2 _ t none hn2
      | some k =>
       simp only [At]
       cases ht' : ρ t with
       | none => rfl
       | some g6 =>
        have : g6 ≠ g:=fun e => by
         have htb':=hr.inj t b g (e ▸ ht') hg
         subst htb'
         obtain ⟨y',q1,_⟩:=hr.fl t (some k) x.1 x.2 hx
         simp only [At,ht',Option.bind_some] at q1
         rw [e,cell_of_row w g k us.toArray tyB (0,0) hblk] at q1
         have : k < us.length:=by
          have:=(Array.getElem?_eq_some_iff.1 q1).1
          simpa using this
         exact hn' ⟨rfl,k,rfl,Nat.zero_le _,by rw [← hrowL.1,hl] at this; omega⟩
        exact cell_setRow_other w' g _ ⟨g6,k,none⟩ this
     rw [e0] at hy
     exact hap t p x y g' hx1 hy hg')
 refine ⟨I',ρ,h5.less (fun s x hx => ?_) ?_ (fun s p x hx => ?_)⟩
 ·simp only [St.F,look_off] at hx
  simpa [FS.onF,FS.offR,FS.setB,FS.setT,St.F] using hx
 ·funext c
  show look ((b,rs) :: st.bx) c = if c = b then some (over cs 0 rs) else look st.bx c
  have : over cs 0 rs = rs:=by simp [over]; omega
  simp only [look,this]
  by_cases q : b = c
  ·subst q; simp
  ·rw [if_neg q,if_neg (fun e => q e.symm)]
 ·simp only [St.F,lookF,lookF_off] at hx
  simp only [FS.onF]
  by_cases q : (b,some off) = (s,p)
  ·rw [if_pos q] at hx; cases q; simpa using hx
  ·rw [if_neg q] at hx
   rw [if_neg (fun e => q (by rw [e.1,e.2]))]
   split at hx
   ·cases hx
   ·rename_i hm
    simp only [List.mem_cons,mem_cellsFrom,not_or,Prod.mk.injEq] at hm
    obtain ⟨m1,m2,m3⟩:=hm
    simp only [FS.offR,FS.setB,FS.setT]
    rw [if_neg m3,if_neg m2,if_neg m1]
    exact hx
theorem run_cpy {o1 o2 : Oper} {l2 : List Oper} {T tb tb' d1 n : Nat} (ho1 : o1.op = .load T (.tmp tb)) (hd1 : o1.dst = some d1) (hg1 : o1.guard = none) (ho2 : o2.op = .store T (.tmp tb') (.tmp d1)) (hd2 : o2.dst = none) (hg2 : o2.guard = none)
  (hn : sizeT P T = some n) (ha : aggT P T = some true) (hN1 : d1 < N) (hne : tb' ≠ d1) {st : St} {R : AX → St → Prop} {Q : Exit → Act → World → Prop} {a : Act} {w : World}
  (h : cCpy tb tb' d1 n st R) (hr : Rel base w0 I0 N st.F a w) (hK : ∀ st' a' w',R none st' → Rel base w0 I0 N st'.F a' w' → wpList P ops Q l2 a' w') : wpList P ops Q (o1 :: o2 :: l2) a w:=by
 obtain ⟨b,b',cs,cs0,off,x,h1,h1',hbb,h2,h2',hl,hl',hL,hoff,hfl,hq⟩:=h
 obtain ⟨I,ρ,hr⟩:=hr
 obtain ⟨up,hp1,hp2⟩:=hr.tm tb _ h1
 obtain ⟨g,hlt,hg,rfl⟩:=hp2.invP
 obtain ⟨up',hp1',hp2'⟩:=hr.tm tb' _ h1'
 obtain ⟨gg,hlt',hgg,rfl⟩:=hp2'.invP
 obtain ⟨g',hg',hbs,hbx,hnI⟩:=hr.bx b cs h2
 rw [hg] at hg'; cases hg'
 obtain ⟨us,tyB,hblk,hrowL⟩:=hbx.cells hlt
 have hrow:=row_of_all hrowL hL
 have htb : a.eval (.tmp tb) = .pointer (some ⟨g,0,none⟩):=by simp [Act.eval,Array.getD_eq_getD_getElem?,hp1]
 have htb' : a.eval (.tmp tb') = .pointer (some ⟨gg,0,none⟩):=by simp [Act.eval,Array.getD_eq_getD_getElem?,hp1']
 have hul : us.length = n:=by rw [← hrowL.1,hl]
 refine wpList_step fun K1 hK1 => ?_
 rw [if_pos (wanted_none hg1 _)]
 unfold Oper.wp
 rw [show (execOp a.eval o1).run P w = .ok (.value (.agg us.toArray)) w by simp [execOp,ho1,htb,run_loadA hn ha hblk hul]]
 show K1 (a.put o1.dst _) w
 rw [hd1]
 refine hK1 _ _ ?_
 have hr1:=hr.put hN1 (v:=none) (u:=.agg us.toArray) (fun x hx => by cases hx)
 have hb3 : (st.F.setT d1 none).bx b' = some cs0:=h2'
 obtain ⟨g3,us3,t3,hg3',hblk3,hul3,hr4⟩:=hr1.store hlt' hb3 (off:=0) (ds:=cs) (vs:=us) (by omega) hrow.L
 rw [hgg] at hg3'; cases hg3'
 refine wpList_step fun K3 hK3 => ?_
 rw [if_pos (wanted_none hg2 _)]
 unfold Oper.wp
 have hst:=run_storeP (P:=P) hn hblk3 (u:=.agg us.toArray) (off:=0) (by simpa [Value.cells] using hul) (by intro x hx; exact hrow.one x (by simpa [Value.cells] using hx)) (by rw [hul3]; omega)
 rw [show (execOp (Act.eval (a.put (some d1) (.agg us.toArray))) o2).run P w = .ok .skip (w.setRow gg (over us3 0 us).toArray) by
  have e1 : (a.put (some d1) (.agg us.toArray)).eval (.tmp tb') = .pointer (some ⟨gg,0,none⟩):=by rw [eval_put hne,htb']
  have e2 : (a.put (some d1) (.agg us.toArray)).eval (.tmp d1) = .agg us.toArray:=eval_put_same (by rw [hr.size]; exact hN1)
  simp only [execOp,ho2,e1,e2,Sem.run_bind,hst,Result.andThen_ok,Value.cells,List.toList_toArray,Sem.run_pure]]
 show K3 (Act.put _ o2.dst undef) _
 rw [hd2]
 refine hK3 _ _ (hK _ _ _ hq ?_)
 have hgne : g ≠ gg:=fun e => hbb (hr.inj b b' gg (e ▸ hg) hgg)
 have huo : us[off]? = some (us[off]'(by omega)):=List.getElem?_eq_getElem (by omega)
 have hcb : (w.setRow gg (over us3 0 us).toArray).cell? ⟨g,off,none⟩ = us[off]?:=by
  rw [cell_setRow_other w gg _ ⟨g,off,none⟩ hgne,cell_of_row w g off us.toArray tyB (0,0) hblk]; simp
 have hcb' : (w.setRow gg (over us3 0 us).toArray).cell? ⟨gg,off,none⟩ = us[off]?:=by
  rw [cell_setRow_same w gg off us3.toArray _ t3 (0,0) hblk3]
  have:=over_in (cs:=us3) (ds:=us) (off:=0) (j:=off) (by omega) (by omega)
  rw [Nat.zero_add] at this
  simpa using this
 have hx4 : ((((st.F.setT d1 none).setB b' (over cs0 0 cs))).offR b' 0 cs.length).fl b (some off) = some x:=by
  simp only [FS.offR,FS.setB,FS.setT]
  rw [if_neg (fun q => hbb q.1),if_neg (fun q => by cases q.2)]
  exact hfl
 have h5:=hr4.moveF (s:=b) (o:=some off) (s':=b') (o':=some off) (x:=x) (u:=us[off]'(by omega)) (fun _ _ => hlt') hx4 (by simp only [At,hg,Option.bind_some]; rw [hcb,huo]) (by simp only [At,hgg,Option.bind_some]; rw [hcb',huo])
 refine ⟨I,ρ,h5.less (fun s x hx => ?_) ?_ (fun s p x hx => ?_)⟩
 ·simp only [St.F,look_off] at hx
  simpa [FS.onF,FS.offF,FS.offR,FS.setB,FS.setT,St.F] using hx
 ·funext c
  show look ((b',cs) :: st.bx) c = if c = b' then some (over cs0 0 cs) else look st.bx c
  have : over cs0 0 cs = cs:=by simp [over]; omega
  simp only [look,this]
  by_cases q : b' = c
  ·subst q; simp
  ·rw [if_neg q,if_neg (fun e => q e.symm)]
 ·simp only [St.F,lookF,lookF_off] at hx
  simp only [FS.onF,FS.offF]
  by_cases q : (b',some off) = (s,p)
  ·rw [if_pos q] at hx; cases q; simpa using hx
  ·rw [if_neg q] at hx
   rw [if_neg (fun e => q (by rw [e.1,e.2]))]
   split at hx
   ·cases hx
   ·rename_i hm
    simp only [List.mem_cons,mem_cellsFrom,not_or,Prod.mk.injEq] at hm
    obtain ⟨m1,m2,m3⟩:=hm
    simp only [FS.offR,FS.setB,FS.setT]
    rw [if_neg m1,if_neg m3,if_neg m2]
    exact hx
theorem run_inn {o1 o2 : Oper} {l2 : List Oper} {T tb d1 d2 f n : Nat} {ats : Array TypeId} (ho1 : o1.op = .load T (.tmp tb)) (hd1 : o1.dst = some d1) (hg1 : o1.guard = none) (ho2 : o2.op = .call { callee:=.value (.func f),args:=#[.tmp d1],argTypes:=ats }) (hd2 : o2.dst = some d2) (hg2 : o2.guard = none)
  (hn : sizeT P T = some n) (ha : aggT P T = some true) (hc : callableB P f = true) (hN1 : d1 < N) (hN2 : d2 < N) {st : St} {R : AX → St → Prop} {Q : Exit → Act → World → Prop} {a : Act} {w : World}
  (h : cInn P tb d1 d2 f n st R) (hr : Rel base w0 I0 N st.F a w) (hK : ∀ st' a' w',R none st' → Rel base w0 I0 N st'.F a' w' → wpList P ops Q l2 a' w') : wpList P ops Q (o1 :: o2 :: l2) a w:=by
 obtain ⟨b,cs,cs',off,e,z,r,h1,h2,hl,hL,hle,hoff,hfl,ht,hq⟩:=h
 obtain ⟨I,ρ,hr⟩:=hr
 obtain ⟨up,hp1,hp2⟩:=hr.tm tb _ h1
 obtain ⟨g,hlt,hg,rfl⟩:=hp2.invP
 obtain ⟨g',hg',hbs,hbx,hnI⟩:=hr.bx b cs h2
 rw [hg] at hg'; cases hg'
 obtain ⟨us,tyB,hblk,hrowL⟩:=hbx.cells hlt
 have hrow:=row_of_all hrowL hL
 have htb : a.eval (.tmp tb) = .pointer (some ⟨g,0,none⟩):=by simp [Act.eval,Array.getD_eq_getD_getElem?,hp1]
 have hul : us.length = n:=by rw [← hrowL.1,hl]
 refine wpList_step fun K1 hK1 => ?_
 rw [if_pos (wanted_none hg1 _)]
 unfold Oper.wp
 rw [show (execOp a.eval o1).run P w = .ok (.value (.agg us.toArray)) w by simp [execOp,ho1,htb,run_loadA hn ha hblk hul]]
 show K1 (a.put o1.dst _) w
 rw [hd1]
 refine hK1 _ _ ?_
 have hr1:=hr.put hN1 (v:=none) (u:=.agg us.toArray) (fun x hx => by cases hx)
 have hx1 : (st.F.setT d1 none).fl b (some off) = some (e,z):=by
  simp only [FS.setT]
  rw [if_neg (fun q => by cases q.2)]
  exact hfl
 obtain ⟨u,hat,hown⟩:=hr1.fl b (some off) e z hx1
 have huo : us[off]? = some u:=by
  simp only [At,hg,Option.bind_some] at hat
  rw [cell_of_row w g off us.toArray tyB (0,0) hblk] at hat
  simpa using hat
 refine wpList_step fun K2 hK2 => ?_
 rw [if_pos (wanted_none hg2 _)]
 unfold Oper.wp
 rw [run_callF hc ho2,eval_put_same (by rw [hr.size]; exact hN1)]
 refine (ht w I [.agg us.toArray] (.agg us.toArray) u (Vals.cons (.inr ⟨cs',us,rfl,rfl,hle.rep hrow⟩) Vals.nil) hr.lt rfl (by simpa [cellAt] using huo) (own_lent hown)).mono fun x w' ⟨v,hx',hv,hk,hcl⟩ => ?_
 subst hx'
 show K2 (Act.put _ o2.dst v) w'
 rw [hd2]
 refine hK2 _ _ (hK _ _ _ hq ?_)
 have h3:=((hr1.offF b (some off)).laterI hown (fun s' o' x y g hx' hy hg hu' => by
  simp only [FS.offF] at hx'
  split at hx'
  ·cases hx'
  ·rename_i hne'
   exact hne' (hr1.apart s' o' b (some off) x (e,z) y u g hx' hx1 hy hat hg hu')) hk hcl).put hN2 (v:=some (res r)) (u:=v) (fun x hx => by cases hx; exact res_rep hv)
 refine ⟨_,ρ,h3.less (fun s x hx => ?_) rfl (fun s p x hx => ?_)⟩
 ·have hx' : look ((d2,res r) :: offT st.tm d1) s = some x:=hx
  simp only [look,look_off] at hx'
  simp only [FS.setT,FS.offF]
  by_cases q : d2 = s
  ·subst q; simpa using hx'
  ·rw [if_neg q] at hx'; rw [if_neg (fun e => q e.symm)]; exact hx'
 ·simp only [St.F,lookF_off] at hx
  split at hx
  ·cases hx
  ·rename_i hm
   simp only [List.mem_cons,List.not_mem_nil,or_false,not_or,Prod.mk.injEq] at hm
   obtain ⟨m1,m2,m3⟩:=hm
   simp only [FS.offF,FS.setT]
   rw [if_neg m3,if_neg m1,if_neg m2]
   exact hx
def compX1 (P : Program) (N : Nat) (o1 o2 o3 : Oper) : Option IC:=match o1.op,o1.dst,o2.op,o2.dst,o3.op with
 | .load T (.tmp tb),some d1,.call c,some d2,.store T' (.tmp tb') (.tmp d2') => match c.callee,c.args.toList,sizeT P T,aggT P T with
  | .value (.func f),[.tmp d1'],some n,some true => if ((o1.guard.isNone = true ∧ o2.guard.isNone = true ∧ o3.guard.isNone = true ∧ o3.dst.isNone = true) ∧ (T' = T ∧ tb' = tb ∧ d2' = d2 ∧ d1' = d1)) ∧ callableB P f = true ∧ (d1 < N ∧ d2 < N ∧ tb ≠ d1 ∧ tb ≠ d2) then some (cOwn P tb d1 d2 f n) else none
  | _,_,_,_ => none
 | _,_,_,_,_ => none
def compX2 (P : Program) (N : Nat) (o1 o2 : Oper) : Option IC:=match o1.op,o1.dst,o2.op with
 | .load T (.tmp tb),some d1,.store T' (.tmp tb') (.tmp d1') => match sizeT P T,aggT P T with
  | some n,some true => if ((o1.guard.isNone = true ∧ o2.guard.isNone = true ∧ o2.dst.isNone = true) ∧ (T' = T ∧ d1' = d1)) ∧ (d1 < N ∧ tb' ≠ d1) then some (cCpy tb tb' d1 n) else none
  | _,_ => none
 | _,_,_ => none
def compX3 (P : Program) (N : Nat) (o1 o2 : Oper) : Option IC:=match o1.op,o1.dst,o2.op,o2.dst with
 | .load T (.tmp tb),some d1,.call c,some d2 => match c.callee,c.args.toList,sizeT P T,aggT P T with
  | .value (.func f),[.tmp d1'],some n,some true => if ((o1.guard.isNone = true ∧ o2.guard.isNone = true) ∧ d1' = d1) ∧ callableB P f = true ∧ (d1 < N ∧ d2 < N) then some (cInn P tb d1 d2 f n) else none
  | _,_,_,_ => none
 | _,_,_,_ => none
def compX (P : Program) (N : Nat) (k : Nat) (l : List Oper) : Option IC:=match k,l with
 | 1,[o1,o2,o3] => compX1 P N o1 o2 o3
 | 2,[o1,o2] => compX2 P N o1 o2
 | 3,[o1,o2] => compX3 P N o1 o2
 | _,_ => none
theorem call_eq {c : Call} {f d : Nat} (h1 : c.callee = .value (.func f)) (h2 : c.args.toList = [.tmp d]) : c = { callee:=.value (.func f),args:=#[.tmp d],argTypes:=c.argTypes }:=by
 cases c
 simp only at h1 h2
 rw [h1,Array.toList_inj.1 (h2.trans rfl : _ = (#[.tmp d] : Array Operand).toList)]
theorem compX_ok {k : Nat} {l l2 : List Oper} {ic : IC} (hc : compX P N k l = some ic) {st : St} {R : AX → St → Prop} {Q : Exit → Act → World → Prop} {a : Act} {w : World} (h : ic st R) (hr : Rel base w0 I0 N st.F a w)
  (hK : ∀ st' a' w',R none st' → Rel base w0 I0 N st'.F a' w' → wpList P ops Q l2 a' w') : wpList P ops Q (l ++ l2) a w:=by
 unfold compX at hc
 split at hc
 ·unfold compX1 at hc
  split at hc
  ·rename_i k1 k2 k3 k4 k5
   split at hc
   ·rename_i q1 q2 q3 q4
    split at hc
    ·rename_i hq
     cases hc
     obtain ⟨⟨⟨g1,g2,g3,g4⟩,rfl,rfl,rfl,rfl⟩,hcf,hN1,hN2,n1,n2⟩:=hq
     exact run_own k1 k2 (Option.isNone_iff_eq_none.1 g1) (k3.trans (by rw [call_eq q1 q2])) k4 (Option.isNone_iff_eq_none.1 g2) k5 (Option.isNone_iff_eq_none.1 g4) (Option.isNone_iff_eq_none.1 g3) q3 q4 hcf hN1 hN2 n1 n2 h hr hK
    ·cases hc
   ·cases hc
  ·cases hc
 ·unfold compX2 at hc
  split at hc
  ·rename_i k1 k2 k3
   split at hc
   ·rename_i q3 q4
    split at hc
    ·rename_i hq
     cases hc
     obtain ⟨⟨⟨g1,g2,g4⟩,rfl,rfl⟩,hN1,n1⟩:=hq
     exact run_cpy k1 k2 (Option.isNone_iff_eq_none.1 g1) k3 (Option.isNone_iff_eq_none.1 g4) (Option.isNone_iff_eq_none.1 g2) q3 q4 hN1 n1 h hr hK
    ·cases hc
   ·cases hc
  ·cases hc
 ·unfold compX3 at hc
  split at hc
  ·rename_i k1 k2 k3 k4
   split at hc
   ·rename_i q1 q2 q3 q4
    split at hc
    ·rename_i hq
     cases hc
     obtain ⟨⟨⟨g1,g2⟩,rfl⟩,hcf,hN1,hN2⟩:=hq
     exact run_inn k1 k2 (Option.isNone_iff_eq_none.1 g1) (k3.trans (by rw [call_eq q1 q2])) k4 (Option.isNone_iff_eq_none.1 g2) q3 q4 hcf hN1 hN2 h hr hK
    ·cases hc
   ·cases hc
  ·cases hc
 ·cases hc
end
abbrev Rt:=Option Nat × Nat × Pay
def Hands (I : Still) (ρ : Nat → Option Nat) (L : Nat → Prop) (w : World) (v : Value) (ri : List Rt) : Prop:=∀ x ∈ ri,∃ u,cellAt v x.1 = some u ∧ Own I ρ L w x.2.1 x.2.2 u
def ApartV (v : Value) (ri : List Rt) : Prop:=∀ x ∈ ri,∀ y ∈ ri,∀ u u' g,cellAt v x.1 = some u → cellAt v y.1 = some u' → u.ownBlock = some g → u'.ownBlock = some g → x.1 = y.1
def HandB (v : Value) (ri : List Rt) (b : Nat) : Prop:=∃ x ∈ ri,∃ u,cellAt v x.1 = some u ∧ u.ownBlock = some b
def ToldX (P : Program) (f : FuncId) (args : List D) (ri : List Rt) (r : List D) (ro : List Rt) : Prop :=
 ∀ (w : World) (I : Still) (vs : List Value) (v : Value),Vals I w args vs → (∀ b j,I b j → b < w.heap.size) → vs[0]? = some v → Hands I (fun _ => none) (fun _ => False) w v ri → ApartV v ri →
  Calls P f vs.toArray w fun x w' => ∃ v' I',x = .returned v' ∧ (∀ b j,I b j → I' b j ∧ w'.cell? ⟨b,j,none⟩ = w.cell? ⟨b,j,none⟩) ∧ (∀ b j,I' b j → I b j ∨ ((w.heap.size ≤ b ∨ HandB v ri b) ∧ b < w'.heap.size)) ∧ RRep I' w' r v' ∧
   Hands I' (fun _ => none) (fun b => b < w.heap.size ∧ ¬ HandB v ri b) w' v' ro ∧ ApartV v' ro ∧ Kept (fun b => b < w.heap.size ∧ ¬ HandB v ri b) w w'
abbrev upR (l : List (Nat × Nat × Pay)) : List Rt:=l.map fun x => (some x.1,x.2)
section
variable {base : Nat → Prop} {w0 : World} {I0 : Still} {N : Nat} {I : Still} {ρ : Nat → Option Nat} {fs : FS} {a : Act} {w : World}
theorem RelI.laterX (h : RelI base w0 I0 N I ρ fs a w) {w' : World} {I' : Still} {H : Nat → Prop} (hH : ∀ b,H b → b < w.heap.size ∧ ¬ base b ∧ (∀ c,ρ c ≠ some b) ∧ ∀ t p x y,fs.fl t p = some x → At ρ a.tmps w t p = some y → y.ownBlock ≠ some b)
  (hI : ∀ b j,I b j → I' b j ∧ w'.cell? ⟨b,j,none⟩ = w.cell? ⟨b,j,none⟩) (hs : ∀ b j,I' b j → I b j ∨ ((w.heap.size ≤ b ∨ H b) ∧ b < w'.heap.size)) (hk : Kept (fun b => b < w.heap.size ∧ ¬ H b) w w') :
  RelI base w0 I0 N I' ρ fs a w' ∧ (∀ e z u,Own I' (fun _ => none) (fun b => b < w.heap.size ∧ ¬ H b) w' e z u → Own I' ρ base w' e z u ∧ ∀ t p x y g,fs.fl t p = some x → At ρ a.tmps w' t p = some y → y.ownBlock = some g → u.ownBlock ≠ some g):=by
 have hc : ∀ b j,I b j → w'.cell? ⟨b,j,none⟩ = w.cell? ⟨b,j,none⟩:=fun b j hi => (hI b j hi).2
 have hII : ∀ b j,I b j → I' b j:=fun b j hi => (hI b j hi).1
 have hblk : ∀ b g,ρ b = some g → w'.heap[g]? = w.heap[g]?:=fun b g hg => hk.block g ⟨(h.boxLt hg).2,fun q => (hH g q).2.2.1 b hg⟩
 have hat : ∀ s p,At ρ a.tmps w' s p = At ρ a.tmps w s p:=by
  intro s p
  cases p with
  | none => rfl
  | some off =>
   simp only [At]
   cases hr : ρ s with
   | none => rfl
   | some g => exact World.cell?_of_block (a:=⟨g,off,none⟩) (hblk s g hr)
 have hfb : ∀ t p x y g,fs.fl t p = some x → At ρ a.tmps w t p = some y → y.ownBlock = some g → g < w.heap.size ∧ ¬ H g:=by
  intro t p x y g hx hy hg
  obtain ⟨y',q1,q2⟩:=h.fl t p x.1 x.2 hx
  rw [hy] at q1; cases q1
  exact ⟨(own_lt q2 g hg).2,fun q => (hH g q).2.2.2 t p x y hx hy hg⟩
 refine ⟨⟨h.defers,h.size,fun s v hv => ?_,h.cap,h.flc,fun b cs hc' => ?_,h.inj,h.nob,fun s p e' z' hx => ?_,fun s p s' p' x x' y y' g h1 h2 h3 h4 h5 h6 => ?_,fun b j hi => ?_,fun b j hi => ?_,?_,fun b hb => Nat.lt_of_lt_of_le (h.room b hb) hk.size,fun b j hi => ⟨hII b j (h.mon b j hi).1,(hc b j (h.mon b j hi).1).trans (h.mon b j hi).2⟩⟩,fun e z u ho => ?_⟩
 ·obtain ⟨y,q1,q2⟩:=h.tm s v hv
  exact ⟨y,q1,q2.keep hII (fun _ _ _ h => h) hc⟩
 ·obtain ⟨g,q1,q2,q3,q5⟩:=h.bx b cs hc'
  exact ⟨g,q1,q2,q3.keep hII (fun _ _ _ h => h) hc (hblk b g q1),fun j hj => (hs g j hj).elim (q5 j) (fun q => q.1.elim (fun q => by have:=(h.boxLt q1).2; omega) (fun q => (hH g q).2.2.1 b q1))⟩
 ·obtain ⟨y,q1,q2⟩:=h.fl s p e' z' hx
  refine ⟨y,by rw [hat]; exact q1,own_keep q2 (fun g hg => hk.block g (hfb s p _ y g hx q1 hg)) (fun g j hg hi => (hs g j hi).elim id (fun q => q.1.elim (fun q => by have:=(hfb s p _ y g hx q1 hg).1; omega) (fun q => absurd q (hfb s p _ y g hx q1 hg).2))) (fun _ _ _ h => h) hII hc⟩
 ·rw [hat] at h3 h4
  exact h.apart s p s' p' x x' y y' g h1 h2 h3 h4 h5 h6
 ·rcases hs b j hi with hi | hi
  ·have:=h.lt b j hi; have:=hk.size; omega
  ·exact hi.2
 ·rcases hs b j hi with hi | ⟨hi | hi,_⟩
  ·exact h.sub b j hi
  ·exact .inr (fun hb => by have:=h.room b hb; omega)
  ·exact .inr (hH b hi).2.1
 ·exact h.below.trans ⟨hk.os,hk.tape,hk.output,hk.size,fun k hb => hk.block k ⟨h.room k hb,fun q => (hH k q).2.1 hb⟩⟩
 ·obtain ⟨n,xs,k1,k2,k3⟩:=ho
  refine ⟨⟨n,xs,k1,fun g hg => ⟨fun hb => ?_,(k2 g hg).2.1,fun c hcg => ?_⟩,k3⟩,fun t p x y g hx hy hg hu => ?_⟩
  ·exact (k2 g hg).1 ⟨h.room g hb,fun q => (hH g q).2.1 hb⟩
  ·exact (k2 g hg).1 ⟨(h.boxLt hcg).2,fun q => (hH g q).2.2.1 c hcg⟩
  ·rw [hat] at hy
   exact (k2 g hu).1 (hfb t p x y g hx hy hg)
def giveFS (st : FS) (b : Nat) : List (Nat × Nat × Pay) → FS
 | [] => st
 | x :: r => (giveFS st b r).onF b (some x.1) x.2
theorem giveFS_fl {st : FS} {b : Nat} : ∀ {ro : List (Nat × Nat × Pay)} {t : Nat} {p : Option Nat} {y : Nat × Pay},(giveFS st b ro).fl t p = some y → (∃ x ∈ ro,t = b ∧ p = some x.1 ∧ y = x.2) ∨ st.fl t p = some y
 | [],t,p,y,h => .inr h
 | x :: r,t,p,y,h => by
  simp only [giveFS,FS.onF] at h
  split at h
  ·rename_i e; cases h; exact .inl ⟨x,by simp,e.1,e.2,rfl⟩
  ·rcases giveFS_fl h with ⟨x',h1,h2⟩ | h1
   ·exact .inl ⟨x',by simp [h1],h2⟩
   ·exact .inr h1
theorem giveFS_tm {st : FS} {b : Nat} : ∀ (ro : List (Nat × Nat × Pay)),(giveFS st b ro).tm = st.tm ∧ (giveFS st b ro).bx = st.bx
 | [] => ⟨rfl,rfl⟩
 | x :: r => ⟨(giveFS_tm r).1,(giveFS_tm r).2⟩
theorem RelI.giveL (h : RelI base w0 I0 N I ρ fs a w) {b : Nat} (hb : b < 100000) : ∀ {ro : List (Nat × Nat × Pay)},(ro.map (·.1)).Nodup → (∀ x ∈ ro,∃ u,At ρ a.tmps w b (some x.1) = some u ∧ Own I ρ base w x.2.1 x.2.2 u ∧ ∀ t p y v g,fs.fl t p = some y → At ρ a.tmps w t p = some v → v.ownBlock = some g → u.ownBlock ≠ some g) →
  (∀ x ∈ ro,∀ y ∈ ro,∀ u u' g,At ρ a.tmps w b (some x.1) = some u → At ρ a.tmps w b (some y.1) = some u' → u.ownBlock = some g → u'.ownBlock = some g → x.1 = y.1) → RelI base w0 I0 N I ρ (giveFS fs b ro) a w
 | [],_,_,_ => h
 | x :: r,hnd,hr,hap => by
  simp only [List.map_cons,List.nodup_cons] at hnd
  have ih:=RelI.giveL h hb hnd.2 (fun y hy => hr y (by simp [hy])) (fun y hy z hz => hap y (by simp [hy]) z (by simp [hz]))
  obtain ⟨u,h1,h2,h3⟩:=hr x (by simp)
  refine ih.giveF (fun _ _ => hb) h1 h2 (fun t p y v g hy hv hg hu => ?_)
  rcases giveFS_fl hy with ⟨x',hx',rfl,rfl,rfl⟩ | hy'
  ·have:=hap x (by simp) x' (by simp [hx']) u v g h1 hv hu hg
   exact hnd.1 (by rw [this]; exact List.mem_map_of_mem hx')
  ·exact h3 t p y v g hy' hv hg hu
abbrev flOf (b : Nat) (ro : List (Nat × Nat × Pay)) : List ((Nat × Option Nat) × (Nat × Pay)):=ro.map fun x => ((b,some x.1),x.2)
theorem giveFS_look {st : FS} {b : Nat} {l : List ((Nat × Option Nat) × (Nat × Pay))} (hl : ∀ s p x,lookF l (s,p) = some x → st.fl s p = some x) : ∀ {ro : List (Nat × Nat × Pay)} {s : Nat} {p : Option Nat} {x : Nat × Pay},lookF (flOf b ro ++ l) (s,p) = some x → (giveFS st b ro).fl s p = some x
 | [],s,p,x,h => hl s p x h
 | y :: r,s,p,x,h => by
  simp only [flOf,List.map_cons,List.cons_append,lookF] at h
  simp only [giveFS,FS.onF]
  by_cases q : (b,some y.1) = (s,p)
  ·rw [if_pos q] at h
   cases q
   simpa using h
  ·rw [if_neg q] at h
   rw [if_neg (fun e => q (by rw [e.1,e.2]))]
   exact giveFS_look hl h
end
abbrev Pre:=Option (Nat × Nat × Nat × Nat)
def preOk (st : St) : Pre → List D → Prop
 | none,ex => ex = []
 | some (tc,off,_,_),ex => ∃ b cs y,look st.tm tc = some (pD b 0) ∧ look st.bx b = some cs ∧ cs[off]? = some (vD y) ∧ ex = [vD y]
def preOff : Pre → List (Nat × D) → List (Nat × D)
 | none,l => l
 | some (_,_,dA,dB),l => offT (offT l dA) dB
def preP : Pre → List (Nat × Option Nat)
 | none => []
 | some (_,_,dA,dB) => [(dA,none),(dB,none)]
def boxHas (st : St) (tb n b : Nat) (cs cs' : List D) (ri : List (Nat × Nat × Pay)) : Prop:=look st.tm tb = some (pD b 0) ∧ look st.bx b = some cs ∧ cs.length = n ∧ cs.all isL = true ∧ RowLe cs cs' ∧ ∀ x ∈ ri,x.1 < n ∧ lookF st.fl (b,some x.1) = some x.2
def cXs (P : Program) (tb d1 d2 f n : Nat) (pre : Pre) : IC:=fun st Q => ∃ b cs cs' ex ri rs ro,boxHas st tb n b cs cs' ri ∧ preOk st pre ex ∧ ToldX P f (aD cs' :: ex) (upR ri) [aD rs] (upR ro) ∧ rs.length = n ∧ (ro.map (·.1)).Nodup ∧
 Q none ⟨offT (offT (preOff pre st.tm) d1) d2,(b,rs) :: st.bx,flOf b ro ++ offP st.fl (preP pre ++ (d1,none) :: (d2,none) :: cellsFrom b 0 rs)⟩
def cXn (P : Program) (tb d1 d2 f n : Nat) (pre : Pre) : IC:=fun st Q => ∃ b cs cs' ex ri r,boxHas st tb n b cs cs' ri ∧ preOk st pre ex ∧ ToldX P f (aD cs' :: ex) (upR ri) r [] ∧
 Q none ⟨(d2,res r) :: offT (preOff pre st.tm) d1,st.bx,offP st.fl (preP pre ++ (d1,none) :: (d2,none) :: ri.map fun x => (b,some x.1))⟩
def LentC (st : St) (b : Nat) (cs cs' : List D) : Prop:=cs'.length = cs.length ∧ ∀ (j : Nat) c c',cs[j]? = some c → cs'[j]? = some c' → LfLe c c' ∨ ∃ e z es,lookF st.fl (b,some j) = some (e,z,some es) ∧ c' = sD z es
def cLn (P : Program) (tb d1 d2 f n : Nat) (pre : Pre) : IC:=fun st Q => ∃ b cs cs' ex y,look st.tm tb = some (pD b 0) ∧ look st.bx b = some cs ∧ cs.length = n ∧ cs.all isL = true ∧ LentC st b cs cs' ∧ preOk st pre ex ∧ Told P f (aD cs' :: ex) [vD y] ∧
 Q none ⟨(d2,vD y) :: offT (preOff pre st.tm) d1,st.bx,offP st.fl (preP pre ++ [(d1,none),(d2,none)])⟩
def cCpX (tb tb' d1 n : Nat) : IC:=fun st Q => ∃ b b' cs cs0 ri,look st.tm tb' = some (pD b' 0) ∧ b ≠ b' ∧ look st.bx b' = some cs0 ∧ cs0.length = n ∧ boxHas st tb n b cs cs ri ∧ (ri.map (·.1)).Nodup ∧
 Q none ⟨offT st.tm d1,(b',cs) :: st.bx,flOf b' ri ++ offP st.fl ((d1,none) :: (ri.map fun x => (b,some x.1)) ++ cellsFrom b' 0 cs)⟩
def plainRs : List D → Bool
 | [] => true
 | .held (.inl _) :: r => plainRs r
 | _ => false
def cLf (P : Program) (tb off d1 d2 t3 d3 f d4 : Nat) : IC:=fun st Q => ∃ b cs e z es y r,look st.tm tb = some (pD b 0) ∧ look st.bx b = some cs ∧ off < cs.length ∧ cs.all isL = true ∧ lookF st.fl (b,some off) = some (e,z,some es) ∧ look st.tm t3 = some (vD y) ∧ Told P f [sD z es,vD y] r ∧ plainRs r = true ∧
 Q none ⟨(d4,res r) :: offT (offT (offT st.tm d1) d2) d3,st.bx,offP st.fl [(d1,none),(d2,none),(d3,none),(d4,none)]⟩
section
variable {P : Program} {N : Nat} {ops : Array Oper} {base : Nat → Prop} {w0 : World} {I0 : Still} {I : Still} {ρ : Nat → Option Nat} {fs : FS} {a : Act} {w : World}
def FS.offL (st : FS) (l : List (Nat × Option Nat)) : FS:={ st with fl:=fun s o => if (s,o) ∈ l then none else st.fl s o }
theorem RelI.offL (h : RelI base w0 I0 N I ρ fs a w) (l : List (Nat × Option Nat)) : RelI base w0 I0 N I ρ (fs.offL l) a w :=
 h.less (fun _ _ h => h) rfl (fun s o x hx => by
  simp only [FS.offL] at hx
  split at hx
  ·cases hx
  ·exact hx)
abbrev plOf (b : Nat) (ri : List (Nat × Nat × Pay)) : List (Nat × Option Nat):=ri.map fun x => (b,some x.1)
theorem hands_of (hr : RelI base w0 I0 N I ρ fs a w) {b g : Nat} (hg : ρ b = some g) {us : List Value} {t : TypeId} (hblk : w.heap[g]? = some (.cells us.toArray t (0,0))) {ri : List (Nat × Nat × Pay)} (hri : ∀ x ∈ ri,fs.fl b (some x.1) = some x.2) :
  Hands I (fun _ => none) (fun _ => False) w (.agg us.toArray) (upR ri) ∧ ApartV (.agg us.toArray) (upR ri) ∧ (∀ k,HandB (.agg us.toArray) (upR ri) k → k < w.heap.size ∧ ¬ base k ∧ (∀ c,ρ c ≠ some k) ∧ ∀ t p x y,(fs.offL (plOf b ri)).fl t p = some x → At ρ a.tmps w t p = some y → y.ownBlock ≠ some k):=by
 have hat : ∀ j,At ρ a.tmps w b (some j) = us[j]?:=fun j => by
  simp only [At,hg,Option.bind_some]
  rw [cell_of_row w g j us.toArray t (0,0) hblk]; simp
 have hc : ∀ j,cellAt (.agg us.toArray) (some j) = us[j]?:=fun j => by simp [cellAt]
 refine ⟨fun x hx => ?_,fun x hx y hy u u' g' h1 h2 h3 h4 => ?_,fun k hk => ?_⟩
 ·obtain ⟨x',hx',rfl⟩:=List.mem_map.1 hx
  obtain ⟨u,h1,h2⟩:=hr.fl b (some x'.1) x'.2.1 x'.2.2 (hri x' hx')
  exact ⟨u,by rw [hc,← hat]; exact h1,own_lent h2⟩
 ·obtain ⟨x',hx',rfl⟩:=List.mem_map.1 hx
  obtain ⟨y',hy',rfl⟩:=List.mem_map.1 hy
  rw [hc,← hat] at h1 h2
  exact (hr.apart b (some x'.1) b (some y'.1) x'.2 y'.2 u u' g' (hri x' hx') (hri y' hy') h1 h2 h3 h4).2
 ·obtain ⟨x,hx,u,h1,h2⟩:=hk
  obtain ⟨x',hx',rfl⟩:=List.mem_map.1 hx
  rw [hc,← hat] at h1
  obtain ⟨u',q1,q2⟩:=hr.fl b (some x'.1) x'.2.1 x'.2.2 (hri x' hx')
  rw [h1] at q1; cases q1
  have q3:=own_lt q2 k h2
  obtain ⟨n,xs,_,k2,_⟩:=q2
  refine ⟨q3.2,q3.1,(k2 k h2).2.2,fun t' p y v hy hv hvk => ?_⟩
  simp only [FS.offL] at hy
  split at hy
  ·cases hy
  ·rename_i hn
   have:=hr.apart b (some x'.1) t' p x'.2 y u v k (hri x' hx') hy h1 hv h2 hvk
   exact hn (by rw [← this.1,← this.2]; exact List.mem_map_of_mem hx')
def preOps (P : Program) (N : Nat) (pre : Pre) (l : List Oper) : Prop:=match pre,l with
 | none,[] => True
 | some (tc,off,dA,dB),[oA,oB] => ∃ T fs fd fld TB,oA.op = .fieldAddr T (.tmp tc) fld ∧ oA.dst = some dA ∧ oA.guard = none ∧ P.underlying T = some (.struct fs) ∧ fs[fld]? = some fd ∧ fd.offset = off ∧ (∃ n,sizeT P fd.type = some n ∧ n ≠ 0) ∧
   oB.op = .load TB (.tmp dA) ∧ oB.dst = some dB ∧ oB.guard = none ∧ sizeT P TB = some 1 ∧ aggT P TB = some false ∧ dA < N ∧ dB < N
 | _,_ => False
def preKeeps : Pre → Nat → Prop
 | none,_ => True
 | some (_,_,dA,dB),s => s ≠ dA ∧ s ≠ dB
def preArgs : Pre → List Operand
 | none => []
 | some (_,_,_,dB) => [.tmp dB]
def preSet : Pre → FS → FS
 | none,st => st
 | some (_,_,dA,dB),st => (st.setT dA none).setT dB none
theorem run_pre2 {tc off dA dB T fld TB n : Nat} {fds : Array Field} {fd : Field} {oA oB : Oper} {l2 : List Oper} (ho1 : oA.op = .fieldAddr T (.tmp tc) fld) (hd1 : oA.dst = some dA) (hg1 : oA.guard = none) (ht : P.underlying T = some (.struct fds)) (hfd : fds[fld]? = some fd) (hoff : fd.offset = off) (hn : sizeT P fd.type = some n) (hn0 : n ≠ 0)
  (ho2 : oB.op = .load TB (.tmp dA)) (hd2 : oB.dst = some dB) (hg2 : oB.guard = none) (hz : sizeT P TB = some 1) (hag : aggT P TB = some false) (hNA : dA < N) (hNB : dB < N) {b : Nat} {cs : List D} {y : Value} (h1 : fs.tm tc = some (pD b 0)) (h2 : fs.bx b = some cs) (h3 : cs[off]? = some (vD y)) (hr : RelI base w0 I0 N I ρ fs a w) {Q : Exit → Act → World → Prop}
  (hK : ∀ a',RelI base w0 I0 N I ρ ((fs.setT dA none).setT dB none) a' w → (∀ s,s ≠ dA → s ≠ dB → a'.eval (.tmp s) = a.eval (.tmp s) ∧ a'.tmps[s]? = a.tmps[s]?) → CVRep I w (vD y) y → a'.eval (.tmp dB) = y → wpList P ops Q l2 a' w) : wpList P ops Q (oA :: oB :: l2) a w:=by
 obtain ⟨up,hp1,hp2⟩:=hr.tm tc _ h1
 obtain ⟨g,hlt,hg,rfl⟩:=hp2.invP
 obtain ⟨g',hg',hbs,hbox,hnI⟩:=hr.bx b cs h2
 rw [hg] at hg'; cases hg'
 obtain ⟨us,tyB,hblk,hrowL⟩:=hbox.cells hlt
 have htc : a.eval (.tmp tc) = .pointer (some ⟨g,0,none⟩):=by simp [Act.eval,Array.getD_eq_getD_getElem?,hp1]
 refine wpList_step fun K1 hK1 => ?_
 rw [if_pos (wanted_none hg1 _)]
 unfold Oper.wp
 rw [show (execOp a.eval oA).run P w = .ok (.value (.pointer (some ⟨g,off,none⟩))) w by simp [execOp,ho1,htc,Instr.fieldAt,run_underlying ht,hfd,Instr.sureAddr,fieldPlace,run_sizeOf hn,hn0,Addr.add_lit,hoff]]
 show K1 (a.put oA.dst _) w
 rw [hd1]
 refine hK1 _ _ ?_
 have hsub : sub 1 false off cs = some (vD y):=by
  have hlt' : off < cs.length:=(List.getElem?_eq_some_iff.1 h3).1
  unfold sub
  rw [if_pos (by omega)]
  simp [h3]
 obtain ⟨v,l1,l2',_⟩:=run_loadP (P:=P) hz hag hsub rfl hblk hrowL
 have hv:=plain_of l2'
 subst hv
 refine wpList_step fun K2 hK2 => ?_
 rw [if_pos (wanted_none hg2 _)]
 unfold Oper.wp
 have e1 : (a.put (some dA) (.pointer (some ⟨g,off,none⟩))).eval (.tmp dA) = .pointer (some ⟨g,off,none⟩):=eval_put_same (by rw [hr.size]; exact hNA)
 rw [show (execOp (Act.eval (a.put (some dA) (.pointer (some ⟨g,off,none⟩)))) oB).run P w = .ok (.value v) w by simp [execOp,ho2,e1,l1]]
 show K2 (Act.put _ oB.dst _) w
 rw [hd2]
 refine hK2 _ _ ?_
 have hr1:=hr.put hNA (v:=none) (u:=.pointer (some ⟨g,off,none⟩)) (fun x hx => by cases hx)
 have hr2:=hr1.put hNB (v:=none) (u:=v) (fun x hx => by cases hx)
 refine hK _ hr2 (fun s hs1 hs2 => ?_) (cv_of rfl l2') (eval_put_same (by rw [hr1.size]; exact hNB))
 refine ⟨by rw [eval_put hs2,eval_put hs1],?_⟩
 simp only [Act.put]
 rw [Array.getElem?_setIfInBounds,if_neg (fun e => hs2 e.symm),Array.getElem?_setIfInBounds,if_neg (fun e => hs1 e.symm)]
theorem run_pre {pre : Pre} {lp l2 : List Oper} (hp : preOps P N pre lp) {st0 : St} {ex : List D} (hpre : preOk st0 pre ex) (htm : ∀ tc off dA dB v,pre = some (tc,off,dA,dB) → look st0.tm tc = some v → fs.tm tc = some v) (hbx : fs.bx = look st0.bx) (hr : RelI base w0 I0 N I ρ fs a w) {Q : Exit → Act → World → Prop}
  (hK : ∀ a',RelI base w0 I0 N I ρ (preSet pre fs) a' w → (∀ s,preKeeps pre s → a'.eval (.tmp s) = a.eval (.tmp s) ∧ a'.tmps[s]? = a.tmps[s]?) → Vals I w ex ((preArgs pre).map a'.eval) → wpList P ops Q l2 a' w) : wpList P ops Q (lp ++ l2) a w:=by
 cases pre with
 | none =>
  cases lp with
  | nil =>
   have : ex = []:=hpre
   subst this
   exact hK a hr (fun s _ => ⟨rfl,rfl⟩) Vals.nil
  | cons o l => exact hp.elim
 | some p =>
  obtain ⟨tc,off,dA,dB⟩:=p
  cases lp with
  | nil => exact hp.elim
  | cons oA l =>
   cases l with
   | nil => exact hp.elim
   | cons oB l =>
    cases l with
    | cons o l => exact hp.elim
    | nil =>
     obtain ⟨T,fds,fd,fld,TB,ho1,hd1,hg1,ht,hfd,hoff,⟨n,hn,hn0⟩,ho2,hd2,hg2,hz,hag,hNA,hNB⟩:=hp
     obtain ⟨b,cs,y,h1,h2,h3,h4⟩:=hpre
     subst h4
     exact run_pre2 ho1 hd1 hg1 ht hfd hoff hn hn0 ho2 hd2 hg2 hz hag hNA hNB (htm tc off dA dB _ rfl h1) (by rw [hbx]; exact h2) h3 hr (fun a' q1 q2 q3 q4 => hK a' q1 (fun s hs => q2 s hs.1 hs.2) (by
      simp only [preArgs,List.map_cons,List.map_nil,q4]
      exact Vals.cons q3 Vals.nil))
end
end Go.Proofs.YtgaofjiidedcbacGreat.ab
