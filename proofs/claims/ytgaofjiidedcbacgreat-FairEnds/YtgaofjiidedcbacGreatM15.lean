import Derived.Test.YtgaofjiidedcbacGreatM14
set_option maxHeartbeats 4000000
set_option linter.unusedVariables false
set_option linter.unusedSimpArgs false
namespace Go.Proofs.YtgaofjiidedcbacGreat.ab
open Go Go.RowKit
section
variable {P : Program} {N : Nat} {ops : Array Oper} {base : Nat → Prop} {w0 : World} {I0 : Still} {I : Still} {ρ : Nat → Option Nat} {fs : FS} {a : Act} {w : World}
theorem preSet_some {pre : Pre} {s k : Nat} : (preSet pre fs).fl s (some k) = fs.fl s (some k):=by
 cases pre with
 | none => rfl
 | some p => simp [preSet,FS.setT]
theorem preSet_fl {pre : Pre} {s : Nat} {p : Option Nat} (h : (s,p) ∉ preP pre) : (preSet pre fs).fl s p = fs.fl s p:=by
 cases pre with
 | none => rfl
 | some q =>
  simp only [preP,List.mem_cons,List.not_mem_nil,or_false,not_or,Prod.mk.injEq] at h
  simp only [preSet,FS.setT]
  rw [if_neg h.2,if_neg h.1]
theorem preSet_bx {pre : Pre} : (preSet pre fs).bx = fs.bx:=by cases pre <;> rfl
theorem preSet_tm {pre : Pre} {l : List (Nat × D)} (h : ∀ s x,look l s = some x → fs.tm s = some x) {s : Nat} {x : D} (hx : look (preOff pre l) s = some x) : (preSet pre fs).tm s = some x:=by
 cases pre with
 | none => exact h s x hx
 | some q =>
  simp only [preOff,look_off] at hx
  split at hx
  ·cases hx
  ·rename_i h1
   split at hx
   ·cases hx
   ·rename_i h2
    simp only [preSet,FS.setT]
    rw [if_neg h1,if_neg h2]
    exact h s x hx
theorem run_callFs {f : Nat} (hc : callableB P f = true) {o : Oper} {xs : List Operand} {ats : Array TypeId} (ho : o.op = .call { callee:=.value (.func f),args:=xs.toArray,argTypes:=ats }) (a : Act) (w : World) : (execOp a.eval o).run P w = .ok (.enter f (xs.map a.eval).toArray) w:=by
 unfold callableB at hc
 split at hc
 ·rename_i fn hfn
  simp only [Bool.and_eq_true,Bool.not_eq_true'] at hc
  have hn' : ¬ fn.name = "runtime.NumGoroutine":=by simpa using hc.1
  have hb' : ¬ fn.body = none:=by intro q; rw [q] at hc; simp at hc
  have e : a.eval (.func f) = .func (.func f) #[] #[]:=rfl
  simp [execOp,ho,resolve,e,Deferred.ofValue,invoke,callFunc,hfn,hn',hb']
 ·cases hc
theorem box_load {T tb n b : Nat} {cs cs' : List D} {ri : List (Nat × Nat × Pay)} {st : St} {o1 : Oper} (ho1 : o1.op = .load T (.tmp tb)) (hn : sizeT P T = some n) (ha : aggT P T = some true) (h : boxHas st tb n b cs cs' ri) (hr : RelI base w0 I0 N I ρ st.F a w) :
  ∃ g us tyB,b < 100000 ∧ ρ b = some g ∧ w.heap[g]? = some (.cells us.toArray tyB (0,0)) ∧ us.length = n ∧ Row I w cs us ∧ a.eval (.tmp tb) = .pointer (some ⟨g,0,none⟩) ∧ (execOp a.eval o1).run P w = .ok (.value (.agg us.toArray)) w:=by
 obtain ⟨h1,h2,hl,hL,hle,hri⟩:=h
 obtain ⟨up,hp1,hp2⟩:=hr.tm tb _ h1
 obtain ⟨g,hlt,hg,rfl⟩:=hp2.invP
 obtain ⟨g',hg',hbs,hbx,hnI⟩:=hr.bx b cs h2
 rw [hg] at hg'; cases hg'
 obtain ⟨us,tyB,hblk,hrowL⟩:=hbx.cells hlt
 have htb : a.eval (.tmp tb) = .pointer (some ⟨g,0,none⟩):=by simp [Act.eval,Array.getD_eq_getD_getElem?,hp1]
 have hul : us.length = n:=by rw [← hrowL.1,hl]
 exact ⟨g,us,tyB,hlt,hg,hblk,hul,row_of_all hrowL hL,htb,by simp [execOp,ho1,htb,run_loadA hn ha hblk hul]⟩
theorem run_Xs {pre : Pre} {lp : List Oper} (hp : preOps P N pre lp) {o1 o2 o3 : Oper} {l2 : List Oper} {T tb d1 d2 f n : Nat} {ats : Array TypeId} (ho1 : o1.op = .load T (.tmp tb)) (hd1 : o1.dst = some d1) (hg1 : o1.guard = none) (ho2 : o2.op = .call { callee:=.value (.func f),args:=(.tmp d1 :: preArgs pre).toArray,argTypes:=ats }) (hd2 : o2.dst = some d2) (hg2 : o2.guard = none)
  (ho3 : o3.op = .store T (.tmp tb) (.tmp d2)) (hd3 : o3.dst = none) (hg3 : o3.guard = none) (hn : sizeT P T = some n) (ha : aggT P T = some true) (hc : callableB P f = true) (hN1 : d1 < N) (hN2 : d2 < N) (hne1 : tb ≠ d1) (hne2 : tb ≠ d2) (hk1 : preKeeps pre d1) (hkb : preKeeps pre tb) (htc : ∀ tc off dA dB,pre = some (tc,off,dA,dB) → tc ≠ d1) {st : St} {R : AX → St → Prop} {Q : Exit → Act → World → Prop} {a : Act} {w : World}
  (h : cXs P tb d1 d2 f n pre st R) (hr : Rel base w0 I0 N st.F a w) (hK : ∀ st' a' w',R none st' → Rel base w0 I0 N st'.F a' w' → wpList P ops Q l2 a' w') : wpList P ops Q (o1 :: (lp ++ o2 :: o3 :: l2)) a w:=by
 obtain ⟨b,cs,cs',ex,ri,rs,ro,hbh,hpre,ht,hrl,hnd,hq⟩:=h
 obtain ⟨I,ρ,hr⟩:=hr
 obtain ⟨g,us,tyB,hlt,hg,hblk,hul,hrow,htb,hload⟩:=box_load ho1 hn ha hbh hr
 obtain ⟨h1,h2,hl,hL,hle,hri⟩:=hbh
 -- the load
 refine wpList_step fun K1 hK1 => ?_
 rw [if_pos (wanted_none hg1 _)]
 unfold Oper.wp
 rw [hload]
 show K1 (a.put o1.dst _) w
 rw [hd1]
 refine hK1 _ _ ?_
 have hr1:=hr.put hN1 (v:=none) (u:=.agg us.toArray) (fun x hx => by cases hx)
 have e1 : (a.put (some d1) (.agg us.toArray)).eval (.tmp d1) = .agg us.toArray:=eval_put_same (by rw [hr.size]; exact hN1)
 have etb : (a.put (some d1) (.agg us.toArray)).eval (.tmp tb) = .pointer (some ⟨g,0,none⟩):=by rw [eval_put hne1,htb]
 generalize a.put (some d1) (.agg us.toArray) = a1 at *
 -- what lies ahead of the call
 refine run_pre hp hpre (fun tc off dA dB v e hv => by simp only [FS.setT]; rw [if_neg (htc tc off dA dB e)]; exact hv) rfl hr1 fun a2 hr2 hkeep hvs => ?_
 have e2 : a2.eval (.tmp d1) = .agg us.toArray:=(hkeep d1 hk1).1.trans e1
 have etb2 : a2.eval (.tmp tb) = .pointer (some ⟨g,0,none⟩):=(hkeep tb hkb).1.trans etb
 -- the call
 have hri' : ∀ x ∈ ri,(preSet pre (st.F.setT d1 none)).fl b (some x.1) = some x.2:=fun x hx => by
  rw [preSet_some]
  simp only [FS.setT]
  rw [if_neg (fun q => by cases q.2)]
  exact (hri x hx).2
 obtain ⟨hh1,hh2,hh3⟩:=hands_of hr2 hg hblk hri'
 have hr3:=hr2.offL (plOf b ri)
 refine wpList_step fun K2 hK2 => ?_
 rw [if_pos (wanted_none hg2 _)]
 unfold Oper.wp
 rw [run_callFs hc ho2,List.map_cons,e2]
 refine (ht w I _ (.agg us.toArray) (Vals.cons (.inr ⟨cs',us,rfl,rfl,hle.rep hrow⟩) hvs) hr.lt rfl hh1 hh2).mono fun x w' ⟨v,I',he,hI,hs,hv,ho,hap,hk⟩ => ?_
 subst he
 show K2 (Act.put _ o2.dst v) w'
 rw [hd2]
 refine hK2 _ _ ?_
 obtain ⟨hr4,hout⟩:=hr3.laterX hh3 hI hs hk
 have hr5:=hr4.put hN2 (v:=none) (u:=v) (fun x hx => by cases hx)
 obtain ⟨vs,rfl,hvs'⟩:=CVRep.agg hv
 have etb3 : (a2.put (some d2) (.agg vs.toArray)).eval (.tmp tb) = .pointer (some ⟨g,0,none⟩):=by rw [eval_put hne2,etb2]
 have e3 : (a2.put (some d2) (.agg vs.toArray)).eval (.tmp d2) = .agg vs.toArray:=eval_put_same (by rw [hr2.size]; exact hN2)
 -- the store
 have hb3 : (((preSet pre (st.F.setT d1 none)).offL (plOf b ri)).setT d2 none).bx b = some cs:=by
  show (preSet pre (st.F.setT d1 none)).bx b = some cs
  rw [preSet_bx]; exact h2
 obtain ⟨g3,us3,t3,hg3',hblk3,hul3,hr6⟩:=hr5.store hlt hb3 (off:=0) (ds:=rs) (vs:=vs) (by omega) hvs'.L
 rw [hg] at hg3'; cases hg3'
 have hvn : vs.length = n:=by rw [← hvs'.1,hrl]
 refine wpList_step fun K3 hK3 => ?_
 rw [if_pos (wanted_none hg3 _)]
 unfold Oper.wp
 have hst:=run_storeP (P:=P) hn hblk3 (u:=.agg vs.toArray) (off:=0) (by simpa [Value.cells] using hvn) (by intro x hx; exact hvs'.one x (by simpa [Value.cells] using hx)) (by rw [hul3]; omega)
 rw [show (execOp (Act.eval (a2.put (some d2) (.agg vs.toArray))) o3).run P w' = .ok .skip (w'.setRow g (over us3 0 vs).toArray) by
  simp only [execOp,ho3,etb3,e3,Sem.run_bind,hst,Result.andThen_ok,Value.cells,List.toList_toArray,Sem.run_pure]]
 show K3 (Act.put _ o3.dst undef) _
 rw [hd3]
 refine hK3 _ _ (hK _ _ _ hq ?_)
 -- the rights
 have hnI4 : ∀ j,¬ I' g j:=by
  obtain ⟨g5,q1,_,_,q4⟩:=hr5.bx b cs hb3
  rw [hg] at q1; cases q1; exact q4
 have hcell : ∀ c j,I' c j → (w'.setRow g (over us3 0 vs).toArray).cell? ⟨c,j,none⟩ = w'.cell? ⟨c,j,none⟩:=fun c j hi =>
  cell_setRow_other w' g _ ⟨c,j,none⟩ (fun e => hnI4 j (by rw [← e]; exact hi))
 have hat : ∀ j u,vs[j]? = some u → At ρ (a2.put (some d2) (.agg vs.toArray)).tmps (w'.setRow g (over us3 0 vs).toArray) b (some j) = some u:=fun j u hj => by
  simp only [At,hg,Option.bind_some]
  rw [cell_setRow_same w' g j us3.toArray _ t3 (0,0) hblk3]
  have:=over_in (cs:=us3) (ds:=vs) (off:=0) (j:=j) (by omega) (List.getElem?_eq_some_iff.1 hj).1
  rw [Nat.zero_add] at this
  simpa [this] using hj
 have hcv : ∀ x ∈ ro,∃ u,vs[x.1]? = some u ∧ Own I' (fun _ => none) (fun b => b < w.heap.size ∧ ¬ HandB (.agg us.toArray) (upR ri) b) w' x.2.1 x.2.2 u:=fun x hx => by
  obtain ⟨u,q1,q2⟩:=ho (some x.1,x.2) (List.mem_map_of_mem hx)
  exact ⟨u,by simpa [cellAt] using q1,q2⟩
 have h7:=hr6.giveL hlt hnd (fun x hx => by
  obtain ⟨u,q1,q2⟩:=hcv x hx
  obtain ⟨q3,q4⟩:=hout _ _ _ q2
  have hneg : ∀ g',u.ownBlock = some g' → g' ≠ g:=fun g' hg' e => by
   obtain ⟨_,_,_,q,_⟩:=q3
   exact (q g' hg').2.2 b (by rw [e]; exact hg)
  refine ⟨u,hat _ _ q1,own_keep q3 (fun g' hg' => setRow_other w' g g' _ (hneg g' hg')) (fun _ _ _ h => h) (fun _ _ _ h => h) (fun _ _ h => h) hcell,fun t p y v' g' hy hv' hgv => ?_⟩
  simp only [FS.offR,FS.setB] at hy
  split at hy
  ·cases hy
  ·rename_i hn'
   simp only [FS.setT] at hy
   split at hy
   ·cases hy
   ·rename_i hn2
    have e0 : At ρ (a2.put (some d2) (.agg vs.toArray)).tmps (w'.setRow g (over us3 0 vs).toArray) t p = At ρ a2.tmps w' t p:=by
     cases p with
     | none => exact at_put (ρ:=ρ) d2 _ t none hn2
     | some k =>
      simp only [At]
      cases ht' : ρ t with
      | none => rfl
      | some g6 =>
       have : g6 ≠ g:=fun e => by
        have htb':=hr.inj t b g (e ▸ ht') hg
        subst htb'
        obtain ⟨y',q1',_⟩:=hr4.fl t (some k) y.1 y.2 hy
        simp only [At,ht',Option.bind_some] at q1'
        rw [e,cell_of_row w' g k us3.toArray t3 (0,0) hblk3] at q1'
        have : k < us3.length:=by
         have:=(Array.getElem?_eq_some_iff.1 q1').1
         simpa using this
        exact hn' ⟨rfl,k,rfl,Nat.zero_le _,by omega⟩
       exact cell_setRow_other w' g _ ⟨g6,k,none⟩ this
    rw [e0] at hv'
    exact q4 t p y v' g' hy hv' hgv) (fun x hx y hy u u' g' q1 q2 q3 q4 => by
  obtain ⟨u1,k1,_⟩:=hcv x hx
  obtain ⟨u2,k2,_⟩:=hcv y hy
  rw [hat _ _ k1] at q1; cases q1
  rw [hat _ _ k2] at q2; cases q2
  have:=hap (some x.1,x.2) (List.mem_map_of_mem hx) (some y.1,y.2) (List.mem_map_of_mem hy) u u' g' (by simpa [cellAt] using k1) (by simpa [cellAt] using k2) q3 q4
  simpa using this)
 refine ⟨I',ρ,h7.less (fun s x hx => ?_) ?_ (fun s p x hx => ?_)⟩
 ·rw [(giveFS_tm ro).1]
  simp only [St.F,look_off] at hx
  show (if s = d2 then _ else _) = _
  split at hx
  ·cases hx
  ·rename_i n2
   split at hx
   ·cases hx
   ·rename_i n1
    rw [if_neg n2]
    show (preSet pre (st.F.setT d1 none)).tm s = some x
    exact preSet_tm (l:=offT st.tm d1) (fun s x hx => by
     rw [look_off] at hx
     simp only [FS.setT]
     exact hx) (by
     have : look (preOff pre (offT st.tm d1)) s = look (preOff pre st.tm) s:=by
      cases pre with
      | none => simp only [preOff,look_off]; rw [if_neg n1]
      | some q => simp only [preOff,look_off]; rw [if_neg n1]
     rw [this]; exact hx)
 ·rw [(giveFS_tm ro).2]
  funext c
  show look ((b,rs) :: st.bx) c = if c = b then some (over cs 0 rs) else (preSet pre (st.F.setT d1 none)).bx c
  have : over cs 0 rs = rs:=by simp [over]; omega
  rw [preSet_bx]
  show _ = if c = b then some (over cs 0 rs) else look st.bx c
  simp only [look,this]
  by_cases q : b = c
  ·subst q; simp
  ·rw [if_neg q,if_neg (fun e => q e.symm)]
 ·refine giveFS_look (fun s p x hx => ?_) hx
  rw [lookF_off] at hx
  split at hx
  ·cases hx
  ·rename_i hm
   simp only [List.mem_append,List.mem_cons,mem_cellsFrom,not_or] at hm
   obtain ⟨m0,m1,m2,m3⟩:=hm
   simp only [FS.offR,FS.setB]
   rw [if_neg m3]
   simp only [FS.setT]
   rw [if_neg (fun e => m2 (by rw [e.1,e.2]))]
   simp only [FS.offL]
   rw [if_neg (fun q => by
    obtain ⟨y,hy,e⟩:=List.mem_map.1 q
    cases e
    exact m3 ⟨rfl,y.1,rfl,Nat.zero_le _,by rw [Nat.zero_add,hrl]; exact (hri y hy).1⟩),preSet_fl m0]
   simp only [FS.setT]
   rw [if_neg (fun e => m1 (by rw [e.1,e.2]))]
   exact hx
end
section
variable {P : Program} {N : Nat} {ops : Array Oper} {base : Nat → Prop} {w0 : World} {I0 : Still} {I : Still} {ρ : Nat → Option Nat} {fs : FS} {a : Act} {w : World}
theorem look_pre1 {pre : Pre} {l : List (Nat × D)} {d s : Nat} {x : D} (h : look (offT (preOff pre l) d) s = some x) : s ≠ d ∧ look (preOff pre (offT l d)) s = some x:=by
 rw [look_off] at h
 split at h
 ·cases h
 ·rename_i n1
  refine ⟨n1,?_⟩
  cases pre with
  | none => simp only [preOff,look_off]; rw [if_neg n1]; exact h
  | some q =>
   simp only [preOff,look_off] at h ⊢
   rw [if_neg n1]; exact h
theorem run_Xn {pre : Pre} {lp : List Oper} (hp : preOps P N pre lp) {o1 o2 : Oper} {l2 : List Oper} {T tb d1 d2 f n : Nat} {ats : Array TypeId} (ho1 : o1.op = .load T (.tmp tb)) (hd1 : o1.dst = some d1) (hg1 : o1.guard = none) (ho2 : o2.op = .call { callee:=.value (.func f),args:=(.tmp d1 :: preArgs pre).toArray,argTypes:=ats }) (hd2 : o2.dst = some d2) (hg2 : o2.guard = none)
  (hn : sizeT P T = some n) (ha : aggT P T = some true) (hc : callableB P f = true) (hN1 : d1 < N) (hN2 : d2 < N) (hk1 : preKeeps pre d1) (htc : ∀ tc off dA dB,pre = some (tc,off,dA,dB) → tc ≠ d1) {st : St} {R : AX → St → Prop} {Q : Exit → Act → World → Prop} {a : Act} {w : World}
  (h : cXn P tb d1 d2 f n pre st R) (hr : Rel base w0 I0 N st.F a w) (hK : ∀ st' a' w',R none st' → Rel base w0 I0 N st'.F a' w' → wpList P ops Q l2 a' w') : wpList P ops Q (o1 :: (lp ++ o2 :: l2)) a w:=by
 obtain ⟨b,cs,cs',ex,ri,r,hbh,hpre,ht,hq⟩:=h
 obtain ⟨I,ρ,hr⟩:=hr
 obtain ⟨g,us,tyB,hlt,hg,hblk,hul,hrow,htb,hload⟩:=box_load ho1 hn ha hbh hr
 obtain ⟨h1,h2,hl,hL,hle,hri⟩:=hbh
 refine wpList_step fun K1 hK1 => ?_
 rw [if_pos (wanted_none hg1 _)]
 unfold Oper.wp
 rw [hload]
 show K1 (a.put o1.dst _) w
 rw [hd1]
 refine hK1 _ _ ?_
 have hr1:=hr.put hN1 (v:=none) (u:=.agg us.toArray) (fun x hx => by cases hx)
 have e1 : (a.put (some d1) (.agg us.toArray)).eval (.tmp d1) = .agg us.toArray:=eval_put_same (by rw [hr.size]; exact hN1)
 generalize a.put (some d1) (.agg us.toArray) = a1 at *
 refine run_pre hp hpre (fun tc off dA dB v e hv => by simp only [FS.setT]; rw [if_neg (htc tc off dA dB e)]; exact hv) rfl hr1 fun a2 hr2 hkeep hvs => ?_
 have e2 : a2.eval (.tmp d1) = .agg us.toArray:=(hkeep d1 hk1).1.trans e1
 have hri' : ∀ x ∈ ri,(preSet pre (st.F.setT d1 none)).fl b (some x.1) = some x.2:=fun x hx => by
  rw [preSet_some]
  simp only [FS.setT]
  rw [if_neg (fun q => by cases q.2)]
  exact (hri x hx).2
 obtain ⟨hh1,hh2,hh3⟩:=hands_of hr2 hg hblk hri'
 have hr3:=hr2.offL (plOf b ri)
 refine wpList_step fun K2 hK2 => ?_
 rw [if_pos (wanted_none hg2 _)]
 unfold Oper.wp
 rw [run_callFs hc ho2,List.map_cons,e2]
 refine (ht w I _ (.agg us.toArray) (Vals.cons (.inr ⟨cs',us,rfl,rfl,hle.rep hrow⟩) hvs) hr.lt rfl hh1 hh2).mono fun x w' ⟨v,I',he,hI,hs,hv,ho,hap,hk⟩ => ?_
 subst he
 show K2 (Act.put _ o2.dst v) w'
 rw [hd2]
 refine hK2 _ _ (hK _ _ _ hq ?_)
 obtain ⟨hr4,hout⟩:=hr3.laterX hh3 hI hs hk
 have hr5:=hr4.put hN2 (v:=some (res r)) (u:=v) (fun x hx => by cases hx; exact res_rep hv)
 refine ⟨I',ρ,hr5.less (fun s x hx => ?_) ?_ (fun s p x hx => ?_)⟩
 ·have hx' : look ((d2,res r) :: offT (preOff pre st.tm) d1) s = some x:=hx
  simp only [look] at hx'
  show (if s = d2 then _ else _) = _
  by_cases q : d2 = s
  ·subst q; rw [if_pos rfl]; simpa using hx'
  ·rw [if_neg q] at hx'
   rw [if_neg (fun e => q e.symm)]
   obtain ⟨n1,hx2⟩:=look_pre1 hx'
   exact preSet_tm (l:=offT st.tm d1) (fun s x hx => by rw [look_off] at hx; simp only [FS.setT]; exact hx) hx2
 ·exact (preSet_bx (fs:=st.F.setT d1 none) (pre:=pre)).symm
 ·simp only [St.F,lookF_off] at hx
  split at hx
  ·cases hx
  ·rename_i hm
   simp only [List.mem_append,List.mem_cons,not_or] at hm
   obtain ⟨m0,m1,m2,m3⟩:=hm
   simp only [FS.setT]
   rw [if_neg (fun e => m2 (by rw [e.1,e.2]))]
   simp only [FS.offL]
   rw [if_neg m3,preSet_fl m0]
   simp only [FS.setT]
   rw [if_neg (fun e => m1 (by rw [e.1,e.2]))]
   exact hx
theorem own_rep {e z : Nat} {es : List D} {u : Value} (h : Own I ρ base w e (z,some es) u) {I1 : Still} (hI : ∀ b j,I b j → I1 b j) (hu : ∀ g j,u.ownBlock = some g → I1 g j) : CRep I1 w (sD z es) u:=by
 obtain ⟨n,xs,hrow,_,hh⟩:=h
 obtain ⟨hn,hel⟩:=hh es rfl
 simp only at hrow hel
 subst hn
 rcases hrow.2 with ⟨q1,q2⟩ | ⟨g,cap,cur,q1,_,hg,hnc,hcm,hcs,htk⟩
 ·have : es = []:=List.eq_nil_of_length_eq_zero q2
  subst this; rw [q1]; exact nil_rep z
 ·rw [q1]
  refine CRep.s ⟨fun i j => (xs[i * z + j]?).getD undef,hnc,(fun e => by cases e),hcm,hel.1,fun hne => ⟨g,0,rfl,fun i j hi hj => ?_⟩,fun i j x l hx hl => ?_⟩
  ·have hlt : i * z + j < xs.length:=by rw [hrow.1]; exact cell_in hi hj
   refine ⟨?_,hu g _ (by rw [q1]; rfl)⟩
   show _ = some ((xs[i * z + j]?).getD undef)
   rw [show 0 + i * z + j = i * z + j by omega,cell_of_row w g _ cur e (0,0) hg,List.getElem?_eq_getElem hlt]
   have h3 : xs[i * z + j]? = cur[i * z + j]?:=by
    rw [← htk,List.getElem?_take,if_pos (cell_in hi hj)]; simp
   rw [← h3,List.getElem?_eq_getElem hlt]; rfl
  ·obtain ⟨y,r1,r2⟩:=hel.2.2 i j x l hx hl
   show CRep _ _ l ((xs[i * z + j]?).getD undef)
   rw [r1]
   exact r2.keep hI (fun _ _ _ => rfl)
theorem run_Ln {pre : Pre} {lp : List Oper} (hp : preOps P N pre lp) {o1 o2 : Oper} {l2 : List Oper} {T tb d1 d2 f n : Nat} {ats : Array TypeId} (ho1 : o1.op = .load T (.tmp tb)) (hd1 : o1.dst = some d1) (hg1 : o1.guard = none) (ho2 : o2.op = .call { callee:=.value (.func f),args:=(.tmp d1 :: preArgs pre).toArray,argTypes:=ats }) (hd2 : o2.dst = some d2) (hg2 : o2.guard = none)
  (hn : sizeT P T = some n) (ha : aggT P T = some true) (hc : callableB P f = true) (hN1 : d1 < N) (hN2 : d2 < N) (hk1 : preKeeps pre d1) (htc : ∀ tc off dA dB,pre = some (tc,off,dA,dB) → tc ≠ d1) {st : St} {R : AX → St → Prop} {Q : Exit → Act → World → Prop} {a : Act} {w : World}
  (h : cLn P tb d1 d2 f n pre st R) (hr : Rel base w0 I0 N st.F a w) (hK : ∀ st' a' w',R none st' → Rel base w0 I0 N st'.F a' w' → wpList P ops Q l2 a' w') : wpList P ops Q (o1 :: (lp ++ o2 :: l2)) a w:=by
 obtain ⟨b,cs,cs',ex,y,h1,h2,hl,hL,hle,hpre,ht,hq⟩:=h
 obtain ⟨I,ρ,hr⟩:=hr
 obtain ⟨g,us,tyB,hlt,hg,hblk,hul,hrow,htb,hload⟩:=box_load (cs':=cs) (ri:=[]) ho1 hn ha ⟨h1,h2,hl,hL,by
  clear hle h2 hl hL
  induction cs with
  | nil => trivial
  | cons c r ih => exact ⟨LfLe.refl _,ih⟩,fun x hx => by cases hx⟩ hr
 refine wpList_step fun K1 hK1 => ?_
 rw [if_pos (wanted_none hg1 _)]
 unfold Oper.wp
 rw [hload]
 show K1 (a.put o1.dst _) w
 rw [hd1]
 refine hK1 _ _ ?_
 have hr1:=hr.put hN1 (v:=none) (u:=.agg us.toArray) (fun x hx => by cases hx)
 have e1 : (a.put (some d1) (.agg us.toArray)).eval (.tmp d1) = .agg us.toArray:=eval_put_same (by rw [hr.size]; exact hN1)
 generalize a.put (some d1) (.agg us.toArray) = a1 at *
 refine run_pre hp hpre (fun tc off dA dB v e hv => by simp only [FS.setT]; rw [if_neg (htc tc off dA dB e)]; exact hv) rfl hr1 fun a2 hr2 hkeep hvs => ?_
 have e2 : a2.eval (.tmp d1) = .agg us.toArray:=(hkeep d1 hk1).1.trans e1
 refine wpList_step fun K2 hK2 => ?_
 rw [if_pos (wanted_none hg2 _)]
 unfold Oper.wp
 rw [run_callFs hc ho2,List.map_cons,e2]
 -- for a while
 let I1 : Still:=fun k j => I k j ∨ ((∃ i e z es u,look st.bx b = some cs ∧ lookF st.fl (b,some i) = some (e,z,some es) ∧ us[i]? = some u ∧ u.ownBlock = some k) ∧ k < w.heap.size)
 have hI1 : ∀ k j,I k j → I1 k j:=fun _ _ => .inl
 have hrow1 : Row I1 w cs' us:=by
  refine ⟨hle.1.trans hrow.1,fun j c' u hc' hu => ?_⟩
  have hj : j < cs.length:=by rw [← hle.1]; exact (List.getElem?_eq_some_iff.1 hc').1
  rcases hle.2 j cs[j] c' (List.getElem?_eq_getElem hj) hc' with q | ⟨e,z,es,q,rfl⟩
  ·exact (q.rep (hrow.2 j _ u (List.getElem?_eq_getElem hj) hu)).keep hI1 (fun _ _ _ => rfl)
  ·obtain ⟨u',k1,k2⟩:=hr.fl b (some j) e (z,some es) q
   have : u' = u:=by
    simp only [At,hg,Option.bind_some] at k1
    rw [cell_of_row w g j us.toArray tyB (0,0) hblk] at k1
    simp only [List.getElem?_toArray] at k1
    rw [hu] at k1; cases k1; rfl
   subst this
   exact own_rep k2 hI1 (fun k i hk => .inr ⟨⟨j,e,z,es,u',h2,q,hu,hk⟩,(own_lt k2 k hk).2⟩)
 refine (ht w I1 _ (Vals.cons (.inr ⟨cs',us,rfl,rfl,hrow1⟩) (hvs.keep hI1 (fun _ _ _ => rfl))) (fun k j hi => hi.elim (hr.lt k j) (fun q => q.2))).mono fun x w' ⟨v,he,hv,hbel⟩ => ?_
 subst he
 show K2 (Act.put _ o2.dst v) w'
 rw [hd2]
 refine hK2 _ _ (hK _ _ _ hq ?_)
 have hv' : CVRep _ w' (vD y) v:=hv
 obtain ⟨e3,hpl⟩:=(hv'.leaf (fun cs e => by cases e)).invV
 subst e3
 have hr5:=(hr2.later0 hbel).put hN2 (v:=some (vD v)) (u:=v) (fun x hx => by cases hx; exact .inl (.inl (CRep.v hpl)))
 refine ⟨I,ρ,hr5.less (fun s x hx => ?_) ?_ (fun s p x hx => ?_)⟩
 ·have hx' : look ((d2,vD v) :: offT (preOff pre st.tm) d1) s = some x:=hx
  simp only [look] at hx'
  show (if s = d2 then _ else _) = _
  by_cases q : d2 = s
  ·subst q; rw [if_pos rfl]; simpa using hx'
  ·rw [if_neg q] at hx'
   rw [if_neg (fun e => q e.symm)]
   obtain ⟨n1,hx2⟩:=look_pre1 hx'
   exact preSet_tm (l:=offT st.tm d1) (fun s x hx => by rw [look_off] at hx; simp only [FS.setT]; exact hx) hx2
 ·exact (preSet_bx (fs:=st.F.setT d1 none) (pre:=pre)).symm
 ·simp only [St.F,lookF_off] at hx
  split at hx
  ·cases hx
  ·rename_i hm
   simp only [List.mem_append,List.mem_cons,List.not_mem_nil,or_false,not_or] at hm
   obtain ⟨m0,m1,m2⟩:=hm
   simp only [FS.setT]
   rw [if_neg (fun e => m2 (by rw [e.1,e.2])),preSet_fl m0]
   simp only [FS.setT]
   rw [if_neg (fun e => m1 (by rw [e.1,e.2]))]
   exact hx
theorem plain_vals : ∀ {r : List D} {I : Still} {w : World} {us : List Value},plainRs r = true → Vals I w r us → ∀ (I' : Still) (w' : World),Vals I' w' r us
 | [],_,_,us,_,h,I',w' => ⟨h.1,fun j c u hc => by simp at hc⟩
 | c :: r,I,w,us,hp,h,I',w' => by
  cases us with
  | nil => exact absurd h.1 (by simp)
  | cons u us =>
   unfold plainRs at hp
   split at hp
   ·rename_i heq; cases heq
   ·rename_i y r' heq
    cases heq
    have h0:=h.2 0 _ u rfl rfl
    obtain ⟨e,hpl⟩:=(h0.leaf (fun cs e => by cases e)).invV
    subst e
    refine Vals.cons (.inl (CRep.v hpl)) (plain_vals (I:=I) (w:=w) hp ⟨by have:=h.1; simpa using this,fun j c u hc hu => h.2 (j + 1) c u (by simpa using hc) (by simpa using hu)⟩ I' w')
   ·cases hp
theorem plain_res {r : List D} {I : Still} {w : World} {v : Value} (hp : plainRs r = true) (h : RRep I w r v) (I' : Still) (w' : World) : RRep I' w' r v:=by
 unfold RRep at h ⊢
 split at h
 ·rename_i c
  have : Vals I w [c] [v]:=Vals.cons h Vals.nil
  exact (plain_vals hp this I' w').2 0 c v rfl rfl
 ·obtain ⟨us,h1,h2⟩:=h
  exact ⟨us,h1,plain_vals hp h2 I' w'⟩
end
section
variable {P : Program} {N : Nat} {ops : Array Oper} {base : Nat → Prop} {w0 : World} {I0 : Still}
theorem run_CpX {o1 o2 : Oper} {l2 : List Oper} {T tb tb' d1 n : Nat} (ho1 : o1.op = .load T (.tmp tb)) (hd1 : o1.dst = some d1) (hg1 : o1.guard = none) (ho2 : o2.op = .store T (.tmp tb') (.tmp d1)) (hd2 : o2.dst = none) (hg2 : o2.guard = none)
  (hn : sizeT P T = some n) (ha : aggT P T = some true) (hN1 : d1 < N) (hne : tb' ≠ d1) {st : St} {R : AX → St → Prop} {Q : Exit → Act → World → Prop} {a : Act} {w : World}
  (h : cCpX tb tb' d1 n st R) (hr : Rel base w0 I0 N st.F a w) (hK : ∀ st' a' w',R none st' → Rel base w0 I0 N st'.F a' w' → wpList P ops Q l2 a' w') : wpList P ops Q (o1 :: o2 :: l2) a w:=by
 obtain ⟨b,b',cs,cs0,ri,h1',hbb,h2',hl',hbh,hnd,hq⟩:=h
 obtain ⟨I,ρ,hr⟩:=hr
 obtain ⟨g,us,tyB,hlt,hg,hblk,hul,hrow,htb,hload⟩:=box_load ho1 hn ha hbh hr
 obtain ⟨h1,h2,hl,hL,hle,hri⟩:=hbh
 obtain ⟨up',hp1',hp2'⟩:=hr.tm tb' _ h1'
 obtain ⟨gg,hlt',hgg,rfl⟩:=hp2'.invP
 have htb' : a.eval (.tmp tb') = .pointer (some ⟨gg,0,none⟩):=by simp [Act.eval,Array.getD_eq_getD_getElem?,hp1']
 refine wpList_step fun K1 hK1 => ?_
 rw [if_pos (wanted_none hg1 _)]
 unfold Oper.wp
 rw [hload]
 show K1 (a.put o1.dst _) w
 rw [hd1]
 refine hK1 _ _ ?_
 have hr1:=hr.put hN1 (v:=none) (u:=.agg us.toArray) (fun x hx => by cases hx)
 have e1 : (a.put (some d1) (.agg us.toArray)).eval (.tmp tb') = .pointer (some ⟨gg,0,none⟩):=by rw [eval_put hne,htb']
 have e2 : (a.put (some d1) (.agg us.toArray)).eval (.tmp d1) = .agg us.toArray:=eval_put_same (by rw [hr.size]; exact hN1)
 generalize a.put (some d1) (.agg us.toArray) = a1 at *
 have hri1 : ∀ x ∈ ri,(st.F.setT d1 none).fl b (some x.1) = some x.2:=fun x hx => by
  simp only [FS.setT]
  rw [if_neg (fun q => by cases q.2)]
  exact (hri x hx).2
 have hr2:=hr1.offL (plOf b ri)
 have hb3 : ((st.F.setT d1 none).offL (plOf b ri)).bx b' = some cs0:=h2'
 obtain ⟨g3,us3,t3,hg3',hblk3,hul3,hr4⟩:=hr2.store hlt' hb3 (off:=0) (ds:=cs) (vs:=us) (by omega) hrow.L
 rw [hgg] at hg3'; cases hg3'
 refine wpList_step fun K3 hK3 => ?_
 rw [if_pos (wanted_none hg2 _)]
 unfold Oper.wp
 have hst:=run_storeP (P:=P) hn hblk3 (u:=.agg us.toArray) (off:=0) (by simpa [Value.cells] using hul) (by intro x hx; exact hrow.one x (by simpa [Value.cells] using hx)) (by rw [hul3]; omega)
 rw [show (execOp a1.eval o2).run P w = .ok .skip (w.setRow gg (over us3 0 us).toArray) by
  simp only [execOp,ho2,e1,e2,Sem.run_bind,hst,Result.andThen_ok,Value.cells,List.toList_toArray,Sem.run_pure]]
 show K3 (Act.put _ o2.dst undef) _
 rw [hd2]
 refine hK3 _ _ (hK _ _ _ hq ?_)
 have hgne : g ≠ gg:=fun e => hbb (hr.inj b b' gg (e ▸ hg) hgg)
 have hnI4 : ∀ j,¬ I gg j:=by
  obtain ⟨g5,q1,_,_,q4⟩:=hr1.bx b' cs0 h2'
  rw [hgg] at q1; cases q1; exact q4
 have hcell : ∀ c j,I c j → (w.setRow gg (over us3 0 us).toArray).cell? ⟨c,j,none⟩ = w.cell? ⟨c,j,none⟩:=fun c j hi =>
  cell_setRow_other w gg _ ⟨c,j,none⟩ (fun e => hnI4 j (by rw [← e]; exact hi))
 have hold : ∀ j,At ρ a1.tmps w b (some j) = us[j]?:=fun j => by
  simp only [At,hg,Option.bind_some]
  rw [cell_of_row w g j us.toArray tyB (0,0) hblk]; simp
 have hnew : ∀ j u,us[j]? = some u → At ρ a1.tmps (w.setRow gg (over us3 0 us).toArray) b' (some j) = some u:=fun j u hj => by
  simp only [At,hgg,Option.bind_some]
  rw [cell_setRow_same w gg j us3.toArray _ t3 (0,0) hblk3]
  have:=over_in (cs:=us3) (ds:=us) (off:=0) (j:=j) (by omega) (List.getElem?_eq_some_iff.1 hj).1
  rw [Nat.zero_add] at this
  simpa [this] using hj
 have hfl1 : ∀ x ∈ ri,∃ u,us[x.1]? = some u ∧ At ρ a1.tmps w b (some x.1) = some u ∧ Own I ρ base w x.2.1 x.2.2 u:=fun x hx => by
  obtain ⟨u,q1,q2⟩:=hr1.fl b (some x.1) x.2.1 x.2.2 (hri1 x hx)
  exact ⟨u,by rw [← hold]; exact q1,q1,q2⟩
 have h7:=hr4.giveL hlt' hnd (fun x hx => by
  obtain ⟨u,q1,q2,q3⟩:=hfl1 x hx
  have hneg : ∀ g',u.ownBlock = some g' → g' ≠ gg:=fun g' hg' e => by
   obtain ⟨_,_,_,q,_⟩:=q3
   exact (q g' hg').2.2 b' (by rw [e]; exact hgg)
  refine ⟨u,hnew _ _ q1,own_keep q3 (fun g' hg' => setRow_other w gg g' _ (hneg g' hg')) (fun _ _ _ h => h) (fun _ _ _ h => h) (fun _ _ h => h) hcell,fun t p y v' g' hy hv' hgv hgu => ?_⟩
  simp only [FS.offR,FS.setB] at hy
  split at hy
  ·cases hy
  ·rename_i hn'
   simp only [FS.offL] at hy
   split at hy
   ·cases hy
   ·rename_i hn2
    have e0 : At ρ a1.tmps (w.setRow gg (over us3 0 us).toArray) t p = At ρ a1.tmps w t p:=by
     cases p with
     | none => rfl
     | some k =>
      simp only [At]
      cases ht' : ρ t with
      | none => rfl
      | some g6 =>
       have : g6 ≠ gg:=fun e => by
        have htb':=hr.inj t b' gg (e ▸ ht') hgg
        subst htb'
        obtain ⟨y',q1',_⟩:=hr1.fl t (some k) y.1 y.2 hy
        simp only [At,ht',Option.bind_some] at q1'
        rw [e,cell_of_row w gg k us3.toArray t3 (0,0) hblk3] at q1'
        have : k < us3.length:=by
         have:=(Array.getElem?_eq_some_iff.1 q1').1
         simpa using this
        exact hn' ⟨rfl,k,rfl,Nat.zero_le _,by omega⟩
       exact cell_setRow_other w gg _ ⟨g6,k,none⟩ this
    rw [e0] at hv'
    have:=hr1.apart b (some x.1) t p x.2 y u v' g' (hri1 x hx) hy q2 hv' hgu hgv
    exact hn2 (by rw [← this.1,← this.2]; exact List.mem_map_of_mem hx)) (fun x hx y hy u u' g' q1 q2 q3 q4 => by
  obtain ⟨u1,k1,k2,_⟩:=hfl1 x hx
  obtain ⟨u2,k3,k4,_⟩:=hfl1 y hy
  rw [hnew _ _ k1] at q1; cases q1
  rw [hnew _ _ k3] at q2; cases q2
  have:=(hr1.apart b (some x.1) b (some y.1) x.2 y.2 u u' g' (hri1 x hx) (hri1 y hy) k2 k4 q3 q4).2
  simpa using this)
 refine ⟨I,ρ,h7.less (fun s x hx => ?_) ?_ (fun s p x hx => ?_)⟩
 ·rw [(giveFS_tm ri).1]
  simp only [St.F,look_off] at hx
  simpa [FS.offR,FS.setB,FS.offL,FS.setT,St.F] using hx
 ·rw [(giveFS_tm ri).2]
  funext c
  show look ((b',cs) :: st.bx) c = if c = b' then some (over cs0 0 cs) else look st.bx c
  have : over cs0 0 cs = cs:=by simp [over]; omega
  simp only [look,this]
  by_cases q : b' = c
  ·subst q; simp
  ·rw [if_neg q,if_neg (fun e => q e.symm)]
 ·refine giveFS_look (fun s p x hx => ?_) hx
  rw [lookF_off] at hx
  split at hx
  ·cases hx
  ·rename_i hm
   simp only [List.mem_append,List.mem_cons,List.cons_append,mem_cellsFrom,not_or] at hm
   obtain ⟨m1,m2,m3⟩:=hm
   simp only [FS.offR,FS.setB]
   rw [if_neg m3]
   simp only [FS.offL]
   rw [if_neg m2]
   simp only [FS.setT]
   rw [if_neg (fun e => m1 (by rw [e.1,e.2]))]
   exact hx
theorem run_Lf {oA oB oC oD : Oper} {l2 : List Oper} {T fld n TB tb off d1 d2 t3 d3 f d4 : Nat} {fds : Array Field} {fd : Field} {ats : Array TypeId} (hoA : oA.op = .fieldAddr T (.tmp tb) fld) (hdA : oA.dst = some d1) (hgA : oA.guard = none) (ht : P.underlying T = some (.struct fds)) (hfd : fds[fld]? = some fd) (hoff : fd.offset = off) (hn : sizeT P fd.type = some n) (hn0 : n ≠ 0)
  (hoB : oB.op = .load TB (.tmp d1)) (hdB : oB.dst = some d2) (hgB : oB.guard = none) (hz : sizeT P TB = some 1) (hag : aggT P TB = some false) (hoC : oC.op = .move (.tmp t3)) (hdC : oC.dst = some d3) (hgC : oC.guard = none) (hoD : oD.op = .call { callee:=.value (.func f),args:=#[.tmp d2,.tmp d3],argTypes:=ats }) (hdD : oD.dst = some d4) (hgD : oD.guard = none)
  (hc : callableB P f = true) (hN : d1 < N ∧ d2 < N ∧ d3 < N ∧ d4 < N) (hne : t3 ≠ d1 ∧ t3 ≠ d2 ∧ d2 ≠ d3) {st : St} {R : AX → St → Prop} {Q : Exit → Act → World → Prop} {a : Act} {w : World}
  (h : cLf P tb off d1 d2 t3 d3 f d4 st R) (hr : Rel base w0 I0 N st.F a w) (hK : ∀ st' a' w',R none st' → Rel base w0 I0 N st'.F a' w' → wpList P ops Q l2 a' w') : wpList P ops Q (oA :: oB :: oC :: oD :: l2) a w:=by
 obtain ⟨b,cs,e,z,es,y,r,h1,h2,hl,hL,hfl,h3,ht',hpl,hq⟩:=h
 obtain ⟨I,ρ,hr⟩:=hr
 obtain ⟨up,hp1,hp2⟩:=hr.tm tb _ h1
 obtain ⟨g,hlt,hg,rfl⟩:=hp2.invP
 obtain ⟨g',hg',hbs,hbx,hnI⟩:=hr.bx b cs h2
 rw [hg] at hg'; cases hg'
 obtain ⟨us,tyB,hblk,hrowL⟩:=hbx.cells hlt
 have htb : a.eval (.tmp tb) = .pointer (some ⟨g,0,none⟩):=by simp [Act.eval,Array.getD_eq_getD_getElem?,hp1]
 obtain ⟨u3,hu3,hu3r⟩:=hr.tm t3 _ h3
 have hu3e:=plain_of hu3r
 subst hu3e
 have het : a.eval (.tmp t3) = u3:=by simp [Act.eval,Array.getD_eq_getD_getElem?,hu3]
 refine wpList_step fun K1 hK1 => ?_
 rw [if_pos (wanted_none hgA _)]
 unfold Oper.wp
 rw [show (execOp a.eval oA).run P w = .ok (.value (.pointer (some ⟨g,off,none⟩))) w by simp [execOp,hoA,htb,Instr.fieldAt,run_underlying ht,hfd,Instr.sureAddr,fieldPlace,run_sizeOf hn,hn0,Addr.add_lit,hoff]]
 show K1 (a.put oA.dst _) w
 rw [hdA]
 refine hK1 _ _ ?_
 have hsub : sub 1 false off cs = some cs[off]:=by
  unfold sub
  rw [if_pos (by omega)]
  simp [List.getElem?_eq_getElem hl]
 have hLo : isL cs[off] = true:=List.all_eq_true.1 hL _ (List.getElem_mem hl)
 obtain ⟨v,l1,l2',l3⟩:=run_loadP (P:=P) hz hag hsub (by
  revert hLo
  generalize cs[off] = c
  intro hLo
  unfold isL at hLo
  split at hLo
  all_goals first | rfl | cases hLo) hblk hrowL
 have hr1:=hr.put hN.1 (v:=none) (u:=.pointer (some ⟨g,off,none⟩)) (fun x hx => by cases hx)
 have ea : (a.put (some d1) (.pointer (some ⟨g,off,none⟩))).eval (.tmp d1) = .pointer (some ⟨g,off,none⟩):=eval_put_same (by rw [hr.size]; exact hN.1)
 have ea3 : (a.put (some d1) (.pointer (some ⟨g,off,none⟩))).eval (.tmp t3) = u3:=by rw [eval_put hne.1,het]
 generalize a.put (some d1) (.pointer (some ⟨g,off,none⟩)) = a1 at *
 refine wpList_step fun K2 hK2 => ?_
 rw [if_pos (wanted_none hgB _)]
 unfold Oper.wp
 rw [show (execOp a1.eval oB).run P w = .ok (.value v) w by simp [execOp,hoB,ea,l1]]
 show K2 (a1.put oB.dst _) w
 rw [hdB]
 refine hK2 _ _ ?_
 have hr2:=hr1.put hN.2.1 (v:=none) (u:=v) (fun x hx => by cases hx)
 have eb : (a1.put (some d2) v).eval (.tmp d2) = v:=eval_put_same (by rw [hr1.size]; exact hN.2.1)
 have eb3 : (a1.put (some d2) v).eval (.tmp t3) = u3:=by rw [eval_put hne.2.1,ea3]
 generalize a1.put (some d2) v = a2 at *
 refine wpList_step fun K3 hK3 => ?_
 rw [if_pos (wanted_none hgC _)]
 unfold Oper.wp
 rw [show (execOp a2.eval oC).run P w = .ok (.value u3) w by simp [execOp,hoC,eb3]]
 show K3 (a2.put oC.dst _) w
 rw [hdC]
 refine hK3 _ _ ?_
 have hr3:=hr2.put hN.2.2.1 (v:=none) (u:=u3) (fun x hx => by cases hx)
 have ec : (a2.put (some d3) u3).eval (.tmp d2) = v:=by rw [eval_put hne.2.2,eb]
 have ec3 : (a2.put (some d3) u3).eval (.tmp d3) = u3:=eval_put_same (by rw [hr2.size]; exact hN.2.2.1)
 generalize a2.put (some d3) u3 = a3 at *
 refine wpList_step fun K4 hK4 => ?_
 rw [if_pos (wanted_none hgD _)]
 unfold Oper.wp
 rw [run_callFs hc (xs:=[.tmp d2,.tmp d3]) hoD,List.map_cons,List.map_cons,List.map_nil,ec,ec3]
 obtain ⟨u,k1,k2⟩:=hr.fl b (some off) e (z,some es) hfl
 have hvu : v = u:=by
  simp only [At,hg,Option.bind_some] at k1
  have:=l3 hLo
  rw [k1] at this; cases this; rfl
 subst hvu
 let I1 : Still:=fun k j => I k j ∨ (v.ownBlock = some k ∧ k < w.heap.size)
 have hI1 : ∀ k j,I k j → I1 k j:=fun _ _ => .inl
 have hrep:=own_rep k2 hI1 (fun k i hk => .inr ⟨hk,(own_lt k2 k hk).2⟩)
 refine (ht' w I1 _ (Vals.cons (.inl hrep) (Vals.cons ((cv_of rfl hu3r).keep hI1 (fun _ _ _ => rfl)) Vals.nil)) (fun k j hi => hi.elim (hr.lt k j) (fun q => q.2))).mono fun x w' ⟨v',he,hv,hbel⟩ => ?_
 subst he
 show K4 (Act.put _ oD.dst v') w'
 rw [hdD]
 refine hK4 _ _ (hK _ _ _ hq ?_)
 have hr5:=(hr3.later0 hbel).put hN.2.2.2 (v:=some (res r)) (u:=v') (fun x hx => by cases hx; exact res_rep (plain_res hpl hv I w'))
 refine ⟨I,ρ,hr5.less (fun s x hx => ?_) rfl (fun s p x hx => ?_)⟩
 ·have hx' : look ((d4,res r) :: offT (offT (offT st.tm d1) d2) d3) s = some x:=hx
  simp only [look,look_off] at hx'
  simp only [FS.setT]
  by_cases q : d4 = s
  ·subst q; simpa using hx'
  ·rw [if_neg q] at hx'
   rw [if_neg (fun e => q e.symm)]
   exact hx'
 ·simp only [St.F,lookF_off] at hx
  split at hx
  ·cases hx
  ·rename_i hm
   simp only [List.mem_cons,List.not_mem_nil,or_false,not_or,Prod.mk.injEq] at hm
   obtain ⟨m1,m2,m3,m4⟩:=hm
   simp only [FS.setT]
   rw [if_neg m4,if_neg m3,if_neg m2,if_neg m1]
   exact hx
end
def ToldIns (P : Program) (f : FuncId) (es : List D) (e z : Nat) (i x : Value) (r : D) : Prop :=
 ∀ (w : World) (I : Still) (u : Value) (vb : Nat) (t : TypeId),(∀ b j,I b j → b < w.heap.size) → Own I (fun _ => none) (fun _ => False) w e (z,some es) u → w.heap[vb]? = some (.cells #[x] t (0,0)) → u.ownBlock ≠ some vb →
  Calls P f #[u,i,.slice (some ⟨vb,0,none⟩) 1 1] w fun y w' => ∃ v',y = .returned v' ∧ RRep (fun b j => I b j ∨ ((w.heap.size ≤ b ∨ u.ownBlock = some b) ∧ b < w'.heap.size)) w' [r] v' ∧
   Kept (fun b => b < w.heap.size ∧ u.ownBlock ≠ some b) w w' ∧ ∀ b j,I b j → w'.cell? ⟨b,j,none⟩ = w.cell? ⟨b,j,none⟩
def cIns (P : Program) (tb off d1 d2 t3 d3 t4 d4 d5 f d6 : Nat) : IC:=fun st Q => ∃ b cs e z es i x r,look st.tm tb = some (pD b 0) ∧ look st.bx b = some cs ∧ off < cs.length ∧ cs.all isL = true ∧ lookF st.fl (b,some off) = some (e,z,some es) ∧ look st.tm t3 = some (vD i) ∧ look st.tm t4 = some (vD x) ∧ ToldIns P f es e z i x r ∧
 Q none ⟨(d6,r) :: offT (offT (offT (offT (offT st.tm d1) d2) d3) d4) d5,st.bx,offP st.fl [(b,some off),(d1,none),(d2,none),(d3,none),(d4,none),(d5,none),(d6,none)]⟩
section
variable {P : Program} {N : Nat} {ops : Array Oper} {base : Nat → Prop} {w0 : World} {I0 : Still}
theorem eval_of {a : Act} {s : Nat} {u : Value} (h : a.tmps[s]? = some u) : a.eval (.tmp s) = u:=by simp [Act.eval,Array.getD_eq_getD_getElem?,h]
theorem run_Ins {oA oB oC oD oE oF : Oper} {l2 : List Oper} {T fld n TB TS TE tb off d1 d2 t3 d3 t4 d4 d5 f d6 : Nat} {fds : Array Field} {fd : Field} {iE : TypeInfo} {zE : Value} {ats : Array TypeId} (hoA : oA.op = .fieldAddr T (.tmp tb) fld) (hdA : oA.dst = some d1) (hgA : oA.guard = none) (ht : P.underlying T = some (.struct fds)) (hfd : fds[fld]? = some fd) (hoff : fd.offset = off) (hn : sizeT P fd.type = some n) (hn0 : n ≠ 0)
  (hoB : oB.op = .load TB (.tmp d1)) (hdB : oB.dst = some d2) (hgB : oB.guard = none) (hz : sizeT P TB = some 1) (hag : aggT P TB = some false) (hoC : oC.op = .move (.tmp t3)) (hdC : oC.dst = some d3) (hgC : oC.guard = none) (hoD : oD.op = .move (.tmp t4)) (hdD : oD.dst = some d4) (hgD : oD.guard = none)
  (hoE : oE.op = .buildSlice TS 1 #[(0,.tmp d4)]) (hdE : oE.dst = some d5) (hgE : oE.guard = none) (htS : P.underlying TS = some (.slice TE)) (hiE : P.info? TE = some iE) (hsE : iE.size = 1) (hzE : iE.zero = some zE) (hzE1 : zE.cells.size = 1)
  (hoF : oF.op = .call { callee:=.value (.func f),args:=#[.tmp d2,.tmp d3,.tmp d5],argTypes:=ats }) (hdF : oF.dst = some d6) (hgF : oF.guard = none)
  (hc : callableB P f = true) (hN : d1 < N ∧ d2 < N ∧ d3 < N ∧ d4 < N ∧ d5 < N ∧ d6 < N) (hne : (t3 ≠ d1 ∧ t3 ≠ d2) ∧ (t4 ≠ d1 ∧ t4 ≠ d2 ∧ t4 ≠ d3) ∧ (d2 ≠ d3 ∧ d2 ≠ d4 ∧ d2 ≠ d5) ∧ (d3 ≠ d4 ∧ d3 ≠ d5)) {st : St} {R : AX → St → Prop} {Q : Exit → Act → World → Prop} {a : Act} {w : World}
  (h : cIns P tb off d1 d2 t3 d3 t4 d4 d5 f d6 st R) (hr : Rel base w0 I0 N st.F a w) (hK : ∀ st' a' w',R none st' → Rel base w0 I0 N st'.F a' w' → wpList P ops Q l2 a' w') : wpList P ops Q (oA :: oB :: oC :: oD :: oE :: oF :: l2) a w:=by
 obtain ⟨b,cs,e,z,es,yi,x,r,h1,h2,hl,hL,hfl,h3,h4,hti,hq⟩:=h
 obtain ⟨I,ρ,hr⟩:=hr
 obtain ⟨⟨n1,n2⟩,⟨n3,n4,n5⟩,⟨n6,n7,n8⟩,n9,n10⟩:=hne
 obtain ⟨up,hp1,hp2⟩:=hr.tm tb _ h1
 obtain ⟨g,hlt,hg,rfl⟩:=hp2.invP
 obtain ⟨g',hg',hbs,hbx,hnI⟩:=hr.bx b cs h2
 rw [hg] at hg'; cases hg'
 obtain ⟨us,tyB,hblk,hrowL⟩:=hbx.cells hlt
 have htb:=eval_of hp1
 obtain ⟨u3,hu3,hu3r⟩:=hr.tm t3 _ h3
 have hu3e:=plain_of hu3r
 subst hu3e
 have he3:=eval_of hu3
 obtain ⟨u4,hu4,hu4r⟩:=hr.tm t4 _ h4
 have hu4e:=plain_of hu4r
 subst hu4e
 have he4:=eval_of hu4
 have hone4 : u4.cells = #[u4] ∧ u4.oneCell' = true:=⟨(leaf_of rfl hu4r).one.2.1,(leaf_of rfl hu4r).one.1⟩
 refine wpList_step fun K1 hK1 => ?_
 rw [if_pos (wanted_none hgA _)]
 unfold Oper.wp
 rw [show (execOp a.eval oA).run P w = .ok (.value (.pointer (some ⟨g,off,none⟩))) w by simp [execOp,hoA,htb,Instr.fieldAt,run_underlying ht,hfd,Instr.sureAddr,fieldPlace,run_sizeOf hn,hn0,Addr.add_lit,hoff]]
 show K1 (a.put oA.dst _) w
 rw [hdA]
 refine hK1 _ _ ?_
 have hsub : sub 1 false off cs = some cs[off]:=by
  unfold sub
  rw [if_pos (by omega)]
  simp [List.getElem?_eq_getElem hl]
 have hLo : isL cs[off] = true:=List.all_eq_true.1 hL _ (List.getElem_mem hl)
 obtain ⟨v,l1,l2',l3⟩:=run_loadP (P:=P) hz hag hsub (by
  revert hLo
  generalize cs[off] = c
  intro hLo
  unfold isL at hLo
  split at hLo
  all_goals first | rfl | cases hLo) hblk hrowL
 have hr1:=hr.put hN.1 (v:=none) (u:=.pointer (some ⟨g,off,none⟩)) (fun x hx => by cases hx)
 have ea : (a.put (some d1) (.pointer (some ⟨g,off,none⟩))).eval (.tmp d1) = .pointer (some ⟨g,off,none⟩):=eval_put_same (by rw [hr.size]; exact hN.1)
 have ea3 : (a.put (some d1) (.pointer (some ⟨g,off,none⟩))).eval (.tmp t3) = u3:=by rw [eval_put n1,he3]
 have ea4 : (a.put (some d1) (.pointer (some ⟨g,off,none⟩))).eval (.tmp t4) = u4:=by rw [eval_put n3,he4]
 generalize a.put (some d1) (.pointer (some ⟨g,off,none⟩)) = a1 at *
 refine wpList_step fun K2 hK2 => ?_
 rw [if_pos (wanted_none hgB _)]
 unfold Oper.wp
 rw [show (execOp a1.eval oB).run P w = .ok (.value v) w by simp [execOp,hoB,ea,l1]]
 show K2 (a1.put oB.dst _) w
 rw [hdB]
 refine hK2 _ _ ?_
 have hr2:=hr1.put hN.2.1 (v:=none) (u:=v) (fun x hx => by cases hx)
 have eb : (a1.put (some d2) v).eval (.tmp d2) = v:=eval_put_same (by rw [hr1.size]; exact hN.2.1)
 have eb3 : (a1.put (some d2) v).eval (.tmp t3) = u3:=by rw [eval_put n2,ea3]
 have eb4 : (a1.put (some d2) v).eval (.tmp t4) = u4:=by rw [eval_put n4,ea4]
 generalize a1.put (some d2) v = a2 at *
 refine wpList_step fun K3 hK3 => ?_
 rw [if_pos (wanted_none hgC _)]
 unfold Oper.wp
 rw [show (execOp a2.eval oC).run P w = .ok (.value u3) w by simp [execOp,hoC,eb3]]
 show K3 (a2.put oC.dst _) w
 rw [hdC]
 refine hK3 _ _ ?_
 have hr3:=hr2.put hN.2.2.1 (v:=none) (u:=u3) (fun x hx => by cases hx)
 have ec2 : (a2.put (some d3) u3).eval (.tmp d2) = v:=by rw [eval_put n6,eb]
 have ec3 : (a2.put (some d3) u3).eval (.tmp d3) = u3:=eval_put_same (by rw [hr2.size]; exact hN.2.2.1)
 have ec4 : (a2.put (some d3) u3).eval (.tmp t4) = u4:=by rw [eval_put n5,eb4]
 generalize a2.put (some d3) u3 = a3 at *
 refine wpList_step fun K4 hK4 => ?_
 rw [if_pos (wanted_none hgD _)]
 unfold Oper.wp
 rw [show (execOp a3.eval oD).run P w = .ok (.value u4) w by simp [execOp,hoD,ec4]]
 show K4 (a3.put oD.dst _) w
 rw [hdD]
 refine hK4 _ _ ?_
 have hr4:=hr3.put hN.2.2.2.1 (v:=none) (u:=u4) (fun x hx => by cases hx)
 have ed2 : (a3.put (some d4) u4).eval (.tmp d2) = v:=by rw [eval_put n7,ec2]
 have ed3 : (a3.put (some d4) u4).eval (.tmp d3) = u3:=by rw [eval_put n9,ec3]
 have ed4 : (a3.put (some d4) u4).eval (.tmp d4) = u4:=eval_put_same (by rw [hr3.size]; exact hN.2.2.2.1)
 generalize a3.put (some d4) u4 = a4 at *
 -- the row of one
 refine wpList_step fun K5 hK5 => ?_
 rw [if_pos (wanted_none hgE _)]
 unfold Oper.wp
 obtain ⟨c0,hzc⟩ : ∃ c0,zE.cells = #[c0]:=by
  rcases hq : zE.cells with ⟨l⟩
  rw [hq] at hzE1
  simp only [List.size_toArray] at hzE1
  match l,hzE1 with
  | [y],_ => exact ⟨y,rfl⟩
 rw [show (execOp a4.eval oE).run P w = .ok (.value (.slice (some ⟨w.heap.size,0,none⟩) 1 1)) (w.alloc (.cells #[u4] TE)) by
  simp [execOp,hoE,Instr.buildSlice,run_underlying htS,ed4,sizeOf,typeInfo,hiE,hsE,zeroValue,hzE,Instr.fill,newRow,newObj,Sem.run,hone4.1,hzc,show Array.range 1 = #[0] from by decide]]
 show K5 (a4.put oE.dst _) _
 rw [hdE]
 refine hK5 _ _ ?_
 have hbel : Below w.heap.size w (w.alloc (.cells #[u4] TE)):=(Below.refl _ _).alloc (Nat.le_refl _) _
 have hr5:=(hr4.later0 hbel).put hN.2.2.2.2.1 (v:=none) (u:=.slice (some ⟨w.heap.size,0,none⟩) 1 1) (fun x hx => by cases hx)
 have ee2 : (a4.put (some d5) (.slice (some ⟨w.heap.size,0,none⟩) 1 1)).eval (.tmp d2) = v:=by rw [eval_put n8,ed2]
 have ee3 : (a4.put (some d5) (.slice (some ⟨w.heap.size,0,none⟩) 1 1)).eval (.tmp d3) = u3:=by rw [eval_put n10,ed3]
 have ee5 : (a4.put (some d5) (.slice (some ⟨w.heap.size,0,none⟩) 1 1)).eval (.tmp d5) = .slice (some ⟨w.heap.size,0,none⟩) 1 1:=eval_put_same (by rw [hr4.size]; exact hN.2.2.2.2.1)
 generalize a4.put (some d5) (.slice (some ⟨w.heap.size,0,none⟩) 1 1) = a5 at *
 refine wpList_step fun K6 hK6 => ?_
 rw [if_pos (wanted_none hgF _)]
 unfold Oper.wp
 rw [run_callFs hc (xs:=[.tmp d2,.tmp d3,.tmp d5]) hoF,List.map_cons,List.map_cons,List.map_cons,List.map_nil,ee2,ee3,ee5]
 obtain ⟨u,k1,k2⟩:=hr.fl b (some off) e (z,some es) hfl
 have hvu : v = u:=by
  simp only [At,hg,Option.bind_some] at k1
  have:=l3 hLo
  rw [k1] at this; cases this; rfl
 subst hvu
 have hfl5 : ((((((st.F.setT d1 none).setT d2 none).setT d3 none).setT d4 none).setT d5 none)).fl b (some off) = some (e,z,some es):=by simp [FS.setT]; exact hfl
 obtain ⟨v6,q1,q2⟩:=hr5.fl b (some off) e (z,some es) hfl5
 have hv6 : v6 = v:=by
  have:=at_later (w':=w.alloc (.cells #[u4] TE)) hr hbel b (some off)
  simp only [At] at this k1 q1
  rw [this,k1] at q1
  cases q1; rfl
 subst hv6
 have hltv:=own_lt k2
 refine (hti (w.alloc (.cells #[u4] TE)) I v6 w.heap.size TE hr5.lt (own_lent q2) (heap_alloc_new _ _) (fun e' => by have:=(hltv _ e').2; omega)).mono fun x' w' ⟨v',he,hv,hk,hcl⟩ => ?_
 subst he
 show K6 (Act.put _ oF.dst v') w'
 rw [hdF]
 refine hK6 _ _ (hK _ _ _ hq ?_)
 have hr6:=((hr5.offF b (some off)).laterI q2 (fun s' o' x y g hx' hy hg hu' => by
  simp only [FS.offF] at hx'
  split at hx'
  ·cases hx'
  ·rename_i hne'
   exact hne' (hr5.apart s' o' b (some off) x (e,z,some es) y v6 g hx' hfl5 hy q1 hg hu')) hk hcl).put hN.2.2.2.2.2 (v:=some r) (u:=v') (fun x hx => by cases hx; exact .inl hv)
 refine ⟨_,ρ,hr6.less (fun s x hx => ?_) rfl (fun s p x hx => ?_)⟩
 ·have hx' : look ((d6,r) :: offT (offT (offT (offT (offT st.tm d1) d2) d3) d4) d5) s = some x:=hx
  simp only [look,look_off] at hx'
  simp only [FS.setT,FS.offF]
  by_cases q : d6 = s
  ·subst q; simpa using hx'
  ·rw [if_neg q] at hx'
   rw [if_neg (fun e => q e.symm)]
   exact hx'
 ·simp only [St.F,lookF_off] at hx
  split at hx
  ·cases hx
  ·rename_i hm
   simp only [List.mem_cons,List.not_mem_nil,or_false,not_or,Prod.mk.injEq] at hm
   obtain ⟨m0,m1,m2,m3,m4,m5,m6⟩:=hm
   simp only [FS.setT,FS.offF]
   rw [if_neg m6,if_neg m0,if_neg m5,if_neg m4,if_neg m3,if_neg m2,if_neg m1]
   exact hx
end
end Go.Proofs.YtgaofjiidedcbacGreat.ab
