import Derived.Test.YtgaofjiidedcbadAbsCode
set_option linter.unusedVariables false
set_option linter.unusedSimpArgs false
namespace Go.Proofs.Ytgaofjiidedcbad.ab
open Go Go.RowKit
abbrev RV:=Nat × Option (Nat × Bool)
def compR (P : Program) : List ResultVar → Option (List RV)
 | [] => some []
 | .tmp t :: r => match compR P r with
  | some rs => some ((t,none) :: rs)
  | none => none
 | .cell a t :: r => match sizeT P t,aggT P t,compR P r with
  | some n,some ag,some rs => some ((a,some (n,ag)) :: rs)
  | _,_,_ => none
def resA (st : St) : List RV → Option (List D)
 | [] => some []
 | (s,none) :: r => match look st.tm s,resA st r with
  | some c,some cs => if isC c = true then some (c :: cs) else none
  | _,_ => none
 | (s,some (n,ag)) :: r => match look st.tm s,resA st r with
  | some (.held (.inr (b,off))),some cs => match look st.bx b with
   | some xs => match sub n ag off xs with
    | some c => if clR c = true ∧ isC c = true then some (c :: cs) else none
    | none => none
   | none => none
  | _,_ => none
def startT : List D → Nat → List (Nat × D)
 | [],_ => []
 | c :: r,i => (i,c) :: startT r (i + 1)
def start (args : List D) : St:=⟨startT args 0,[],[]⟩
section
variable {P : Program}
theorem look_startT : ∀ (args : List D) (i s : Nat) (v : D),look (startT args i) s = some v → ∃ c,v = c ∧ i ≤ s ∧ args[s - i]? = some c
 | [],i,s,v,h => by simp [startT,look] at h
 | c :: r,i,s,v,h => by
  simp only [startT,look] at h
  split at h
  ·rename_i e; subst e; cases h; exact ⟨c,rfl,Nat.le_refl _,by simp⟩
  ·rename_i e
   obtain ⟨c',h1,h2,h3⟩:=look_startT r (i + 1) s v h
   refine ⟨c',h1,by omega,?_⟩
   rw [show s - i = (s - (i + 1)) + 1 by omega,List.getElem?_cons_succ]
   exact h3
theorem run_results {st : St} {base : Nat → Prop} {w0 : World} {I0 : Still} {N : Nat} {I : Still} {ρ : Nat → Option Nat} {a : Act} {w : World} (hr : RelI base w0 I0 N I ρ st.F a w) : ∀ (rs : List ResultVar) (rvs : List RV) (cs : List D),compR P rs = some rvs → resA st rvs = some cs →
  ∃ us,(rs.mapM (fun | .tmp t => pure (a.tmps.getD t undef) | .cell x t => do loadVar t (← asAddr (a.tmps.getD x undef))) : Sem (List Value)).run P w = .ok us w ∧ Vals I w cs us
 | [],rvs,cs,hc,h => by
  simp [compR] at hc; subst hc
  simp [resA] at h; subst h
  exact ⟨[],by simp,Vals.nil⟩
 | .tmp t :: r,rvs,cs,hc,h => by
  simp only [compR] at hc
  split at hc
  ·rename_i rvs' h1
   cases hc
   simp only [resA] at h
   split at h
   ·rename_i c cs' q1 q2
    split at h
    ·rename_i hcc
     cases h
     obtain ⟨us,r1,r2⟩:=run_results hr r rvs' cs' h1 q2
     obtain ⟨u,g1,g2⟩:=hr.tm t _ q1
     refine ⟨u :: us,?_,Vals.cons (cv_of hcc g2) r2⟩
     have : a.tmps.getD t undef = u:=by simp [Array.getD_eq_getD_getElem?,g1]
     simp only [List.mapM_cons,Sem.run_bind,Sem.run_pure,Result.andThen_ok,this,r1]
    ·cases h
   ·cases h
  ·cases hc
 | .cell x t :: r,rvs,cs,hc,h => by
  simp only [compR] at hc
  split at hc
  ·rename_i n ag rs' h1 h2 h3
   cases hc
   simp only [resA] at h
   split at h
   ·rename_i b off cs' q1 q2
    split at h
    ·rename_i xs q3
     split at h
     ·rename_i c q4
      split at h
      ·rename_i q5
       cases h
       obtain ⟨us,r1,r2⟩:=run_results hr r rs' cs' h3 q2
       obtain ⟨u,g1,g2⟩:=hr.tm x _ q1
       obtain ⟨g,hlt,hp,rfl⟩:=g2.invP
       obtain ⟨g',p1,_,p23,_⟩:=hr.bx b xs q3
       rw [hp] at p1; cases p1
       obtain ⟨vs,t',p2,p3⟩:=p23.cells hlt
       obtain ⟨v,l1,l2,_⟩:=run_loadP (P:=P) h1 h2 q4 q5.1 p2 p3
       refine ⟨v :: us,?_,Vals.cons (cv_of q5.2 l2) r2⟩
       have : a.tmps.getD x undef = .pointer (some ⟨g,off,none⟩):=by simp [Array.getD_eq_getD_getElem?,g1]
       have l3 : (loadVar t ⟨g,off,none⟩).run P w = .ok v w:=by simpa [Instr.loadAt,Instr.sureAddr] using l1
       have ha : (asAddr (a.tmps.getD x undef)).run P w = .ok ⟨g,off,none⟩ w:=by rw [this]; rfl
       simp only [List.mapM_cons,Sem.run_bind,Sem.run_pure,Result.andThen_ok,ha,l3,r1]
      ·cases h
     ·cases h
    ·cases h
   ·cases h
  ·cases hc
theorem RRep.keep {I I' : Still} {w : World} {r : List D} {v : Value} (h : RRep I w r v) (hI : ∀ b j,I b j → I' b j) : RRep I' w r v:=by
 unfold RRep at h ⊢
 split at h
 ·exact h.keep hI (fun _ _ _ => rfl)
 ·obtain ⟨us,h1,h2⟩:=h; exact ⟨us,h1,h2.keep hI (fun _ _ _ => rfl)⟩
def fin (rvs : List RV) (r : List D) : AX → St → Prop:=fun e st => match e with
 | none => ∃ cs,resA st rvs = some cs ∧ ValsLe cs r
 | some none => ∃ cs,resA st rvs = some cs ∧ ValsLe cs r
 | some (some _) => False
theorem told_of (hm : P.follows .mixedOrders = true) {f : FuncId} {fn : Func} {c : Code} {ic : IC} {an : List Ann} {rvs : List RV} {args r : List D} (hf : P.funcs[f]? = some fn) (hb : fn.body = some c) (hc : compC P fn.ntmps c an = some (ic,[])) (hrv : compR P fn.results.toList = some rvs) (hl : args.length ≤ fn.ntmps ∧ fn.ntmps ≤ 100000)
  (h : ic (start args) (fin rvs r)) : Told P f args r:=by
 intro w I vs hv hlt
 have hvl : vs.length = args.length:=hv.1.symm
 refine calls_of_wp hf hb ?_
 have hsz : (vs.toArray ++ Array.replicate (fn.ntmps - vs.toArray.size) undef).size = fn.ntmps:=by simp; have:=hl.1; omega
 have hstart : Rel (fun b => b < w.heap.size) w I fn.ntmps (start args).F { tmps:=vs.toArray ++ Array.replicate (fn.ntmps - vs.toArray.size) undef,defers:=[] } w:=by
  refine ⟨I,fun _ => none,⟨rfl,hsz,fun s v hs => ?_,hl.2,(fun b off x hx => by simp [start,St.F,lookF] at hx),(fun b cs hb => by simp [start,St.F,look] at hb),(fun b b' g h => by cases h),fun _ _ => rfl,(fun s o e z hx => by simp [start,St.F,lookF] at hx),(fun s o s' o' x x' u u' g hx => by simp [start,St.F,lookF] at hx),hlt,fun b j h => .inl h,Kept.refl _ _,fun _ h => h,fun b j h => ⟨h,rfl⟩⟩⟩
  obtain ⟨c,rfl,_,h3⟩:=look_startT args 0 s v hs
  rw [Nat.sub_zero] at h3
  obtain ⟨u,h4,h5⟩:=hv.at h3
  refine ⟨u,?_,.inl h5⟩
  have hsl : s < vs.length:=(List.getElem?_eq_some_iff.1 h4).1
  rw [Array.getElem?_append_left (by simpa using hsl)]
  simpa using h4
 refine awp_sound hm c an [] ic hc (start args) _ _ _ w h hstart fun e st' a' w' hR hr' => ?_
 obtain ⟨he,cs,h1,h2⟩ : (e = none ∨ e = some none) ∧ ∃ cs,resA st' rvs = some cs ∧ ValsLe cs r:=by
  match e,hR with
  | none,hR => exact ⟨.inl rfl,hR⟩
  | some (some i),hR => exact hR.elim
  | some none,hR => exact ⟨.inr rfl,hR⟩
 obtain ⟨I',ρ,hr⟩:=hr'
 obtain ⟨us,q1,q2⟩:=run_results (P:=P) hr fn.results.toList rvs cs hrv h1
 have q3:=h2.rep q2
 have hrun : (results fn a'.tmps).run P w' = .ok (if h : us.toArray.size = 1 then us.toArray[0] else .tuple us.toArray) w':=by
  unfold results
  rw [Sem.run_bind,Array.mapM_eq_mapM_toList]
  refine (congrArg (fun r => Result.andThen r _) (run_toArray q1)).trans ?_
  rfl
 have hfin : RRep (fun b j => I b j ∨ (w.heap.size ≤ b ∧ b < w'.heap.size)) w' r (if h : us.toArray.size = 1 then us.toArray[0] else .tuple us.toArray):=by
  refine RRep.keep (I:=I') ?_ (fun b j hi => ?_)
  ·unfold RRep
   split
   ·rename_i c0
    have hus : us.length = 1:=by rw [← q3.1]; rfl
    rw [dif_pos (by simpa using hus)]
    exact q3.2 0 c0 _ rfl (by simp [List.getElem?_eq_getElem (show 0 < us.length by omega)])
   ·rename_i hne
    have hus : us.length ≠ 1:=by
     rw [← q3.1]
     intro e
     match r,e with
     | [c0],_ => exact hne c0 rfl
    rw [dif_neg (by simpa using hus)]
    exact ⟨us,rfl,q3⟩
  ·rcases hr.sub b j hi with q | q
   ·exact .inl q
   ·exact .inr ⟨Nat.le_of_not_lt q,hr.lt b j hi⟩
 have hgoal : a'.defers = [] ∧ ∃ v,(results fn a'.tmps).run P w' = .ok v w' ∧ ∃ v',Ending.returned v = .returned v' ∧ RRep (fun b j => I b j ∨ (w.heap.size ≤ b ∧ b < w'.heap.size)) w' r v' ∧ Below w.heap.size w w':=⟨hr.defers,_,hrun,_,rfl,hfin,hr.below.below⟩
 rcases he with rfl | rfl
 ·exact hgoal
 ·exact hgoal
theorem Told.less {f : FuncId} {args args' r r' : List D} (h : Told P f args r) (ha : ValsLe args' args) (hr : ValsLe r r') : Told P f args' r':=by
 intro w I vs hv hlt
 refine (h w I vs (ha.rep hv) hlt).mono fun e w' ⟨v,he,h1,h2⟩ => ⟨v,he,?_,h2⟩
 unfold RRep at h1 ⊢
 match r,r',hr,h1 with
 | [],[],_,h1 => exact h1
 | [x],[y],hr,h1 => exact hr.1.rep h1
 | x :: x2 :: l,y :: y2 :: l',hr,h1 => obtain ⟨us,h3,h4⟩:=h1; exact ⟨us,h3,ValsLe.rep hr h4⟩
 | [],_ :: _,hr,_ => simp [ValsLe] at hr
 | _ :: _,[],hr,_ => simp [ValsLe] at hr
 | [_],_ :: _ :: _,hr,_ => simp [ValsLe] at hr
 | _ :: _ :: _,[_],hr,_ => simp [ValsLe] at hr
end
section
theorem Le.nilS {st : St} (s e z : Nat) (h : look st.tm s = some (vD (.slice none 0 0))) : Le st ⟨(s,sD z []) :: st.tm,st.bx,((s,none),(e,z,none)) :: st.fl⟩:=by
 intro base w0 I0 N a w ⟨I,ρ,hr⟩
 obtain ⟨u,h1,h2⟩:=hr.tm s _ h
 have hu:=plain_of h2
 subst hu
 have hnil : CRep I w (sD z []) (.slice none 0 0):=nil_rep z
 have h3 : RelI base w0 I0 N I ρ { st.F with tm:=fun t => if t = s then some (sD z []) else st.F.tm t } a w:=by
  refine ⟨hr.defers,hr.size,fun t v hv => ?_,hr.cap,hr.flc,hr.bx,hr.inj,hr.nob,hr.fl,hr.apart,hr.lt,hr.sub,hr.below,hr.room,hr.mon⟩
  simp only at hv
  split at hv
  ·rename_i e; subst e; cases hv; exact ⟨_,h1,.inl (.inl hnil)⟩
  ·exact hr.tm t v hv
 have h4:=h3.giveF (s:=s) (o:=none) (e:=e) (z:=(z,none)) (u:=.slice none 0 0) (fun k hk => by cases hk) h1 ⟨0,[],World.ownsRow_nil w 0 e z,(fun g hg => by simp [Value.ownBlock] at hg),fun es he => by cases he⟩ (fun t p x y g _ _ _ q => by simp [Value.ownBlock] at q)
 refine ⟨I,ρ,h4.less (fun t v hv => ?_) rfl (fun t p x hx => ?_)⟩
 ·simp only [St.F,look] at hv
  show (if t = s then _ else _) = _
  by_cases q : s = t
  ·subst q; simpa using hv
  ·rw [if_neg q] at hv; rw [if_neg (fun e => q e.symm)]; exact hv
 ·simp only [St.F,lookF] at hx
  simp only [FS.onF]
  by_cases q : (s,(none : Option Nat)) = (t,p)
  ·rw [if_pos q] at hx; cases q; simpa using hx
  ·rw [if_neg q] at hx; rw [if_neg (fun e => q (by rw [e.1,e.2]))]; exact hx
theorem Le.nilB {st : St} (b off e z : Nat) {cs : List D} (hlt : b < 100000) (h : look st.bx b = some cs) (hc : cs[off]? = some (vD (.slice none 0 0))) : Le st ⟨st.tm,(b,over cs off [sD z []]) :: st.bx,((b,some off),(e,z,none)) :: st.fl⟩:=by
 intro base w0 I0 N a w ⟨I,ρ,hr⟩
 obtain ⟨g,h1,h2,h34,h5⟩:=hr.bx b cs h
 obtain ⟨us,t,h3,h4⟩:=h34.cells hlt
 obtain ⟨u,q1,q2⟩:=h4.at hc
 have hu : u = .slice none 0 0:=(q2.leaf rfl).invV.1
 subst hu
 have hofflt : off < cs.length:=(List.getElem?_eq_some_iff.1 hc).1
 have hnil : CRep I w (sD z []) (.slice none 0 0):=nil_rep z
 have hat : At ρ a.tmps w b (some off) = some (.slice none 0 0):=by
  simp only [At,h1,Option.bind_some]
  rw [cell_of_row w g off us.toArray t (0,0) h3]
  simpa using q1
 have h6 : RelI base w0 I0 N I ρ { st.F with bx:=fun c => if c = b then some (over cs off [sD z []]) else st.F.bx c } a w:=by
  refine ⟨hr.defers,hr.size,hr.tm,hr.cap,hr.flc,fun c ds hd => ?_,hr.inj,fun c hd => ?_,hr.fl,hr.apart,hr.lt,hr.sub,hr.below,hr.room,hr.mon⟩
  ·simp only at hd
   split at hd
   ·rename_i e; subst e; cases hd
    refine ⟨g,h1,h2,.inl ⟨hlt,us,t,h3,⟨by rw [over_len (by simp; omega)]; exact h4.1,fun j c v hc' hv => ?_⟩⟩,h5⟩
    by_cases hj : j = off
    ·subst hj
     have:=over_in (cs:=cs) (ds:=[sD z []]) (off:=j) (j:=0) (by simp; omega) (by simp)
     rw [Nat.add_zero] at this
     rw [this] at hc'
     simp at hc'; subst hc'
     rw [q1] at hv; cases hv
     exact .inl hnil
    ·rw [over_out (by simp; omega) (by simp; omega)] at hc'
     exact h4.2 j c v hc' hv
   ·exact hr.bx c ds hd
  ·simp only at hd
   split at hd
   ·cases hd
   ·exact hr.nob c hd
 have h7:=h6.giveF (s:=b) (o:=some off) (e:=e) (z:=(z,none)) (u:=.slice none 0 0) (fun _ _ => hlt) hat ⟨0,[],World.ownsRow_nil w 0 e z,(fun g hg => by simp [Value.ownBlock] at hg),fun es he => by cases he⟩ (fun t p x y g _ _ _ q => by simp [Value.ownBlock] at q)
 refine ⟨I,ρ,h7.less (fun t v hv => hv) ?_ (fun t p x hx => ?_)⟩
 ·funext c
  show look ((b,over cs off [sD z []]) :: st.bx) c = if c = b then _ else look st.bx c
  simp only [look]
  by_cases q : b = c
  ·subst q; simp
  ·rw [if_neg q,if_neg (fun e => q e.symm)]
 ·simp only [St.F,lookF] at hx
  simp only [FS.onF]
  by_cases q : (b,some off) = (t,p)
  ·rw [if_pos q] at hx; cases q; simpa using hx
  ·rw [if_neg q] at hx; rw [if_neg (fun e => q (by rw [e.1,e.2]))]; exact hx
theorem Le.box {st : St} (b : Nat) {cs cs' : List D} (hlt : b < 100000) (h : look st.bx b = some cs) (hcl : cs.all isL = true) (hle : RowLe cs cs') : Le st ⟨st.tm,(b,cs') :: st.bx,st.fl⟩:=by
 intro base w0 I0 N a w ⟨I,ρ,hr⟩
 refine ⟨I,ρ,hr.defers,hr.size,hr.tm,hr.cap,hr.flc,fun c ds hd => ?_,hr.inj,fun c hd => ?_,hr.fl,hr.apart,hr.lt,hr.sub,hr.below,hr.room,hr.mon⟩
 ·have hd' : look ((b,cs') :: st.bx) c = some ds:=hd
  simp only [ab.look] at hd'
  split at hd'
  ·rename_i e; subst e; cases hd'
   obtain ⟨g,h1,h2,h34,h5⟩:=hr.bx b cs h
   obtain ⟨us,t,h3,h4⟩:=h34.cells hlt
   have h6 : Row I w cs us:=⟨h4.1,fun j c u hc hu => (h4.2 j c u hc hu).leaf (List.all_eq_true.1 hcl c (List.mem_of_getElem? hc))⟩
   exact ⟨g,h1,h2,.inl ⟨hlt,us,t,h3,(hle.rep h6).L⟩,h5⟩
  ·exact hr.bx c ds hd'
 ·have hd' : look ((b,cs') :: st.bx) c = none:=hd
  simp only [ab.look] at hd'
  split at hd'
  ·cases hd'
  ·exact hr.nob c hd'
theorem Le.look {st st' : St} (ht : ∀ s v,look st'.tm s = some v → look st.tm s = some v) (hb : ∀ b,look st'.bx b = look st.bx b) (hf : ∀ p x,lookF st'.fl p = some x → lookF st.fl p = some x) : Le st st':=by
 intro base w0 I0 N a w ⟨I,ρ,hr⟩
 exact ⟨I,ρ,hr.less ht (funext hb) (fun s o x hx => hf (s,o) x hx)⟩
theorem Le.keep {st st' : St} {lv lb : List Nat} (hk : st.keep lv lb = some st') : Le st st':=fun _ _ _ _ _ _ h => keep_rel hk h
end
def fin1 (R : St → Prop) : AX → St → Prop:=fun e st => match e with
 | none => R st
 | some none => R st
 | some (some _) => False
section
variable {P : Program}
theorem calls_core (hm : P.follows .mixedOrders = true) {f : FuncId} {fn : Func} {c : Code} (hf : P.funcs[f]? = some fn) (hb : fn.body = some c) {vs : List Value} {base : Nat → Prop} {w0 : World} {I0 : Still} {w : World} {R : St → Prop} {Post : Value → World → Prop}
  (hwp : ∀ Q : Exit → Act → World → Prop,(∀ e st' a' w',fin1 R e st' → Rel base w0 I0 fn.ntmps st'.F a' w' → Q (exitOf e) a' w') → c.wp P Q { tmps:=vs.toArray ++ Array.replicate (fn.ntmps - vs.toArray.size) undef,defers:=[] } w)
  (post : ∀ st' I ρ a' w',R st' → RelI base w0 I0 fn.ntmps I ρ st'.F a' w' → ∃ v,(results fn a'.tmps).run P w' = .ok v w' ∧ Post v w') : Calls P f vs.toArray w (fun x w' => ∃ v,x = .returned v ∧ Post v w'):=by
 refine calls_of_wp hf hb (hwp _ fun e st' a' w' hR hr' => ?_)
 obtain ⟨I,ρ,hr⟩:=hr'
 match e,hR with
 | none,hR =>
  obtain ⟨v,h1,h2⟩:=post st' I ρ a' w' hR hr
  exact ⟨hr.defers,v,h1,v,rfl,h2⟩
 | some none,hR =>
  obtain ⟨v,h1,h2⟩:=post st' I ρ a' w' hR hr
  exact ⟨hr.defers,v,h1,v,rfl,h2⟩
 | some (some i),hR => exact hR.elim
theorem start_rel {N : Nat} {args : List D} {vs : List Value} {w : World} {I : Still} {base : Nat → Prop} (hv : Vals I w args vs) (hlt : ∀ b j,I b j → b < w.heap.size) (hl : args.length ≤ N ∧ N ≤ 100000) (hbase : ∀ b,base b → b < w.heap.size) :
  RelI base w I N I (fun _ => none) (start args).F { tmps:=vs.toArray ++ Array.replicate (N - vs.toArray.size) undef,defers:=[] } w:=by
 have hvl : vs.length = args.length:=hv.1.symm
 have hsz : (vs.toArray ++ Array.replicate (N - vs.toArray.size) undef).size = N:=by simp; have:=hl.1; omega
 refine ⟨rfl,hsz,fun s v hs => ?_,hl.2,(fun b off x hx => by simp [start,St.F,lookF] at hx),(fun b cs hb => by simp [start,St.F,look] at hb),(fun b b' g h => by cases h),fun _ _ => rfl,(fun s o e z hx => by simp [start,St.F,lookF] at hx),(fun s o s' o' x x' u u' g hx => by simp [start,St.F,lookF] at hx),hlt,fun b j h => .inl h,Kept.refl _ _,hbase,fun b j h => ⟨h,rfl⟩⟩
 obtain ⟨c,rfl,_,h3⟩:=look_startT args 0 s v hs
 rw [Nat.sub_zero] at h3
 obtain ⟨u,h4,h5⟩:=hv.at h3
 refine ⟨u,?_,.inl h5⟩
 have hsl : s < vs.length:=(List.getElem?_eq_some_iff.1 h4).1
 rw [Array.getElem?_append_left (by simpa using hsl)]
 simpa using h4
theorem toldO_slot (hm : P.follows .mixedOrders = true) {f : FuncId} {fn : Func} {c : Code} {ic : IC} {an : List Ann} {args : List D} {r : D} {s e : Nat} {z : Pay} (hf : P.funcs[f]? = some fn) (hb : fn.body = some c) (hc : compC P fn.ntmps c an = some (ic,[])) (hres : fn.results = #[.tmp s]) (hl : args.length ≤ fn.ntmps ∧ fn.ntmps ≤ 100000)
  (h : ic (start args) (fin1 fun st => ∃ r',look st.tm s = some r' ∧ isC r' = true ∧ CVLe r' r ∧ lookF st.fl (s,none) = some (e,z))) : ToldO P f args [r] none e z:=by
 intro w I vs hv hlt
 refine (calls_core (base:=fun b => b < w.heap.size) (w0:=w) (I0:=I) (Post:=fun v w' => ∃ I' u,(∀ b j,I b j → I' b j) ∧ (∀ b j,I' b j → I b j ∨ (w.heap.size ≤ b ∧ b < w'.heap.size)) ∧ RRep I' w' [r] v ∧ cellAt v none = some u ∧
   Own I' (fun _ => none) (fun b => b < w.heap.size) w' e z u ∧ Below w.heap.size w w') hm hf hb (fun Q hQ => awp_sound hm c an [] ic hc (start args) _ Q _ w h ⟨I,_,start_rel hv hlt hl (fun _ h => h)⟩ hQ) (fun st' I' ρ a' w' hR hr => ?_)).mono fun x w' ⟨v,hx,I',u,hq⟩ => ⟨v,I',u,hx,hq⟩
 obtain ⟨r',h1,h2,h3,h4⟩:=hR
 obtain ⟨u,q1,q2⟩:=hr.tm s r' h1
 obtain ⟨u',q3,q4⟩:=hr.fl s none e z h4
 simp only [At] at q3
 rw [q1] at q3; cases q3
 have hrun : (results fn a'.tmps).run P w' = .ok u w':=by
  simp [results,hres,Array.getD_eq_getD_getElem?,q1]
 refine ⟨u,hrun,I',u,fun b j hi => (hr.mon b j hi).1,fun b j hi => ?_,h3.rep (cv_of h2 q2),rfl,?_,hr.below.below⟩
 ·rcases hr.sub b j hi with q | q
  ·exact .inl q
  ·exact .inr ⟨Nat.le_of_not_lt q,hr.lt b j hi⟩
 ·obtain ⟨n,xs,k1,k2,k3⟩:=q4
  exact ⟨n,xs,k1,fun g hg => ⟨(k2 g hg).1,(k2 g hg).2.1,fun b q => by cases q⟩,k3⟩
theorem toldO_cell (hm : P.follows .mixedOrders = true) {f : FuncId} {fn : Func} {c : Code} {ic : IC} {an : List Ann} {args rs : List D} {s T n off e : Nat} {z : Pay} (hf : P.funcs[f]? = some fn) (hb : fn.body = some c) (hc : compC P fn.ntmps c an = some (ic,[])) (hres : fn.results = #[.cell s T]) (hn : sizeT P T = some n) (ha : aggT P T = some true) (hl : args.length ≤ fn.ntmps ∧ fn.ntmps ≤ 100000)
  (h : ic (start args) (fin1 fun st => ∃ b cs,look st.tm s = some (pD b 0) ∧ look st.bx b = some cs ∧ cs.length = n ∧ cs.all isL = true ∧ RowLe cs rs ∧ off < n ∧ lookF st.fl (b,some off) = some (e,z))) : ToldO P f args [aD rs] (some off) e z:=by
 intro w I vs hv hlt
 refine (calls_core (base:=fun b => b < w.heap.size) (w0:=w) (I0:=I) (Post:=fun v w' => ∃ I' u,(∀ b j,I b j → I' b j) ∧ (∀ b j,I' b j → I b j ∨ (w.heap.size ≤ b ∧ b < w'.heap.size)) ∧ RRep I' w' [aD rs] v ∧ cellAt v (some off) = some u ∧
   Own I' (fun _ => none) (fun b => b < w.heap.size) w' e z u ∧ Below w.heap.size w w') hm hf hb (fun Q hQ => awp_sound hm c an [] ic hc (start args) _ Q _ w h ⟨I,_,start_rel hv hlt hl (fun _ h => h)⟩ hQ) (fun st' I' ρ a' w' hR hr => ?_)).mono fun x w' ⟨v,hx,I',u,hq⟩ => ⟨v,I',u,hx,hq⟩
 obtain ⟨b,cs,h1,h2,hcl,hL,hle,hoff,h4⟩:=hR
 obtain ⟨up,hp1,hp2⟩:=hr.tm s _ h1
 obtain ⟨g,hlt',hg,rfl⟩:=hp2.invP
 obtain ⟨g',hg',hbs,hbx,hnI⟩:=hr.bx b cs h2
 rw [hg] at hg'; cases hg'
 obtain ⟨us,tyB,hblk,hrowL⟩:=hbx.cells hlt'
 have hrow:=row_of_all hrowL hL
 have hul : us.length = n:=by rw [← hrowL.1,hcl]
 obtain ⟨u,hat,q4⟩:=hr.fl b (some off) e z h4
 have huo : us[off]? = some u:=by
  simp only [At,hg,Option.bind_some] at hat
  rw [cell_of_row w' g off us.toArray tyB (0,0) hblk] at hat
  simpa using hat
 have hload:=run_loadA (P:=P) hn ha hblk hul
 have hld : (loadVar T ⟨g,0,none⟩).run P w' = .ok (.agg us.toArray) w':=by simpa [Instr.loadAt,Instr.sureAddr] using hload
 have hrun : (results fn a'.tmps).run P w' = .ok (.agg us.toArray) w':=by
  have e1 : a'.tmps.getD s undef = .pointer (some ⟨g,0,none⟩):=by simp [Array.getD_eq_getD_getElem?,hp1]
  have e2 : (asAddr (.pointer (some ⟨g,0,none⟩))).run P w' = .ok ⟨g,0,none⟩ w':=rfl
  simp only [results,hres,Array.mapM_eq_mapM_toList,List.mapM_cons,List.mapM_nil]
  simp [e1,e2,hld]
 refine ⟨_,hrun,I',u,fun b j hi => (hr.mon b j hi).1,fun b j hi => ?_,.inr ⟨rs,us,rfl,rfl,hle.rep hrow⟩,by simpa [cellAt] using huo,?_,hr.below.below⟩
 ·rcases hr.sub b j hi with q | q
  ·exact .inl q
  ·exact .inr ⟨Nat.le_of_not_lt q,hr.lt b j hi⟩
 ·obtain ⟨n,xs,k1,k2,k3⟩:=q4
  exact ⟨n,xs,k1,fun g hg => ⟨(k2 g hg).1,(k2 g hg).2.1,fun b q => by cases q⟩,k3⟩
theorem fin_post {fn : Func} {rvs : List RV} {r : List D} {base : Nat → Prop} {w0 : World} {I0 : Still} {st' : St} {I : Still} {ρ : Nat → Option Nat} {a' : Act} {w' : World} (hrv : compR P fn.results.toList = some rvs) (hR : ∃ cs,resA st' rvs = some cs ∧ ValsLe cs r) (hr : RelI base w0 I0 fn.ntmps I ρ st'.F a' w') :
  ∃ v,(results fn a'.tmps).run P w' = .ok v w' ∧ RRep I w' r v:=by
 obtain ⟨cs,h1,h2⟩:=hR
 obtain ⟨us,q1,q2⟩:=run_results (P:=P) hr fn.results.toList rvs cs hrv h1
 have q3:=h2.rep q2
 have hrun : (results fn a'.tmps).run P w' = .ok (if h : us.toArray.size = 1 then us.toArray[0] else .tuple us.toArray) w':=by
  unfold results
  rw [Sem.run_bind,Array.mapM_eq_mapM_toList]
  refine (congrArg (fun r => Result.andThen r _) (run_toArray q1)).trans ?_
  rfl
 refine ⟨_,hrun,?_⟩
 unfold RRep
 split
 ·rename_i c0
  have hus : us.length = 1:=by rw [← q3.1]; rfl
  rw [dif_pos (by simpa using hus)]
  exact q3.2 0 c0 _ rfl (by simp [List.getElem?_eq_getElem (show 0 < us.length by omega)])
 ·rename_i hne
  have hus : us.length ≠ 1:=by
   rw [← q3.1]
   intro e
   match r,e with
   | [c0],_ => exact hne c0 rfl
  rw [dif_neg (by simpa using hus)]
  exact ⟨us,rfl,q3⟩
theorem toldI_row (hm : P.follows .mixedOrders = true) {f : FuncId} {fn : Func} {c : Code} {ic : IC} {an : List Ann} {rvs : List RV} {args r es : List D} {e z : Nat} (hf : P.funcs[f]? = some fn) (hb : fn.body = some c) (hc : compC P fn.ntmps c an = some (ic,[])) (hrv : compR P fn.results.toList = some rvs) (hl : args.length + 1 ≤ fn.ntmps ∧ fn.ntmps ≤ 100000) (hz : 0 < z)
  (h0 : es = [] → Told P f (sD z [] :: args) r) (h : es ≠ [] → ic ⟨startT (oD 100000 es.length :: args) 0,[(100000,[sD z es])],[]⟩ (fin1 fun st => ∃ cs,resA st rvs = some cs ∧ ValsLe cs r)) : ToldI P f (xD :: args) 0 none e (z,some es) r:=by
 intro w I vs v u hv hlt hv0 hu hown
 have hvu : v = u:=by simpa [cellAt] using hu
 subst hvu
 obtain ⟨n,xs,hrow,hsp,hheld⟩:=hown
 obtain ⟨hn,hel⟩:=hheld es rfl
 simp only at hrow hsp hel
 subst hn
 cases vs with
 | nil => simp at hv0
 | cons v1 vs =>
  simp only [List.getElem?_cons_zero,Option.some.injEq] at hv0
  subst hv0
  have hv' : Vals I w args vs:=⟨by have:=hv.1; simpa using this,fun j c u hc hu => hv.2 (j + 1) c u (by simpa using hc) (by simpa using hu)⟩
  by_cases hes : es = []
  ·have hs0 : CRep I w (sD z []) v1:=by
    subst hes
    rcases hrow.2 with ⟨q,_⟩ | ⟨g,cap,cur,q,_,_,q2,q3,_⟩
    ·rw [q]; exact nil_rep z
    ·rw [q]
     exact CRep.s (es:=[]) ⟨fun _ _ => undef,q2,(fun e => by cases e),q3,(fun e he => by cases he),fun h => absurd rfl h,(fun i j e l he => by simp at he)⟩
   refine (h0 hes w I (v1 :: vs) (Vals.cons (.inl hs0) hv') hlt).mono fun x w' ⟨v',hx,h1,h2⟩ => ⟨v',hx,h1.keep (fun b j hi => hi.elim .inl (fun q => .inr ⟨.inl q.1,q.2⟩)),⟨h2.os,h2.tape,h2.output,h2.size,fun k hk => h2.block k hk.1⟩,fun b j hi => h2.cell (p:=⟨b,j,none⟩) (hlt b j hi)⟩
  ·obtain ⟨g,cap,cur,hu1,_,hg,hnc,hcm,hcs,htk⟩ : ∃ g cap cur,v1 = .slice (some ⟨g,0,none⟩) es.length cap ∧ 0 ≤ g ∧ w.heap[g]? = some (.cells cur e (0,0)) ∧ es.length ≤ cap ∧ cap ≤ maxLen ∧ cur.size = cap * z ∧ cur.toList.take (es.length * z) = xs:=by
    rcases hrow.2 with ⟨_,q⟩ | q
    ·exact absurd (List.eq_nil_of_length_eq_zero q) hes
    ·exact q
   have hob : v1.ownBlock = some g:=by rw [hu1]; rfl
   have hglt : g < w.heap.size:=(Array.getElem?_eq_some_iff.1 hg).1
   have helems : ElemsAt I w z es cur.toList:=by
    refine ⟨hel.1,by rw [show cur.toList.length = cap * z by rw [Array.length_toList]; exact hcs]; exact Nat.mul_le_mul_right _ hnc,fun i j e' l he hl' => ?_⟩
    obtain ⟨y,q1,q2⟩:=hel.2.2 i j e' l he hl'
    refine ⟨y,?_,q2⟩
    rw [← htk,List.getElem?_take] at q1
    split at q1
    ·exact q1
    ·cases q1
   have hs:=start_rel (N:=fn.ntmps) (args:=xD :: args) (base:=fun b => b < w.heap.size ∧ v1.ownBlock ≠ some b) hv hlt (by simpa using hl) (fun _ h => h.1)
   have hstart : Rel (fun b => b < w.heap.size ∧ v1.ownBlock ≠ some b) w I fn.ntmps (St.F ⟨startT (oD 100000 es.length :: args) 0,[(100000,[sD z es])],[]⟩) { tmps:=(v1 :: vs).toArray ++ Array.replicate (fn.ntmps - (v1 :: vs).toArray.size) undef,defers:=[] } w:=by
    refine ⟨I,fun c => if c = 100000 then some g else none,hs.defers,hs.size,fun s v hsv => ?_,hs.cap,(fun b off x hx => by simp [St.F,lookF] at hx),fun b cs hc => ?_,fun b b' g' q1 q2 => ?_,fun b hb => ?_,(fun s o e z hx => by simp [St.F,lookF] at hx),(fun s o s' o' x x' u u' g hx => by simp [St.F,lookF] at hx),hlt,fun b j h => .inl h,Kept.refl _ _,fun b h => h.1,fun b j h => ⟨h,rfl⟩⟩
    ·obtain ⟨c',rfl,_,h3⟩:=look_startT (oD 100000 es.length :: args) 0 s v hsv
     rw [Nat.sub_zero] at h3
     cases s with
     | zero =>
      simp only [List.getElem?_cons_zero,Option.some.injEq] at h3
      subst h3
      exact ⟨v1,by rw [Array.getElem?_append_left (by simp)]; rfl,.inr (.inr (.inl (.inr (.inl ⟨100000,es.length,rfl,g,cap,by omega,by simp,hu1,hnc,hcm⟩))))⟩
     | succ s =>
      simp only [List.getElem?_cons_succ] at h3
      obtain ⟨y,q1,q2⟩:=hv'.at h3
      refine ⟨y,?_,.inl q2⟩
      have hsl : s < vs.length:=(List.getElem?_eq_some_iff.1 q1).1
      rw [Array.getElem?_append_left (by simp; omega)]
      simpa using q1
    ·have hc' : look [(100000,[sD z es])] b = some cs:=hc
     simp only [look] at hc'
     split at hc'
     ·rename_i eb; cases hc'; subst eb
      refine ⟨g,by simp,fun q => q.2 hob,.inr (.inl ⟨by omega,z,es,cur.toList,e,rfl,by rw [Array.toArray_toList]; exact hg,helems⟩),fun j => (hsp g hob).2.1 j (fun q => by cases q)⟩
     ·cases hc'
    ·split at q1
     ·split at q2
      ·omega
      ·cases q2
     ·cases q1
    ·have hb' : look [(100000,[sD z es])] b = none:=hb
     simp only [look] at hb'
     split at hb'
     ·cases hb'
     ·rename_i hne; exact if_neg (fun q => hne q.symm)
   refine (calls_core (Post:=fun v' w' => RRep (fun b j => I b j ∨ ((w.heap.size ≤ b ∨ v1.ownBlock = some b) ∧ b < w'.heap.size)) w' r v' ∧ Kept (fun b => b < w.heap.size ∧ v1.ownBlock ≠ some b) w w' ∧ ∀ b j,I b j → w'.cell? ⟨b,j,none⟩ = w.cell? ⟨b,j,none⟩) hm hf hb
    (fun Q hQ => awp_sound hm c an [] ic hc _ _ Q _ w (h hes) hstart hQ) (fun st' I' ρ a' w' hR hr => ?_)).mono fun x w' ⟨v,hx,hq⟩ => ⟨v,hx,hq⟩
   obtain ⟨v',q1,q2⟩:=fin_post hrv hR hr
   refine ⟨v',q1,q2.keep (fun b j hi => ?_),hr.below,fun b j hi => (hr.mon b j hi).2⟩
   rcases hr.sub b j hi with q | q
   ·exact .inl q
   ·refine .inr ⟨?_,hr.lt b j hi⟩
    by_cases hb2 : b < w.heap.size
    ·exact .inr (Classical.byContradiction fun q' => q ⟨hb2,q'⟩)
    ·exact .inl (Nat.le_of_not_lt hb2)
theorem toldI_slot (hm : P.follows .mixedOrders = true) {f : FuncId} {fn : Func} {c : Code} {ic : IC} {an : List Ann} {rvs : List RV} {args r : List D} {x : D} {e : Nat} {z : Pay} (hf : P.funcs[f]? = some fn) (hb : fn.body = some c) (hc : compC P fn.ntmps c an = some (ic,[])) (hrv : compR P fn.results.toList = some rvs) (hl : args.length + 1 ≤ fn.ntmps ∧ fn.ntmps ≤ 100000)
  (h : ic ⟨startT (x :: args) 0,[],[((0,none),(e,z))]⟩ (fin1 fun st => ∃ cs,resA st rvs = some cs ∧ ValsLe cs r)) : ToldI P f (x :: args) 0 none e z r:=by
 intro w I vs v u hv hlt hv0 hu hown
 have hvu : v = u:=by simpa [cellAt] using hu
 subst hvu
 cases vs with
 | nil => simp at hv0
 | cons v1 vs =>
  simp only [List.getElem?_cons_zero,Option.some.injEq] at hv0
  subst hv0
  have hs:=start_rel (N:=fn.ntmps) (args:=x :: args) (base:=fun b => b < w.heap.size ∧ v1.ownBlock ≠ some b) hv hlt (by simpa using hl) (fun _ h => h.1)
  obtain ⟨n,xs,k1,k2,k3⟩:=hown
  have hstart : Rel (fun b => b < w.heap.size ∧ v1.ownBlock ≠ some b) w I fn.ntmps (St.F ⟨startT (x :: args) 0,[],[((0,none),(e,z))]⟩) { tmps:=(v1 :: vs).toArray ++ Array.replicate (fn.ntmps - (v1 :: vs).toArray.size) undef,defers:=[] } w:=by
   refine ⟨I,_,(hs.giveF (s:=0) (o:=none) (e:=e) (z:=z) (u:=v1) (fun k hk => by cases hk) ?_ ⟨n,xs,k1,fun g hg => ⟨fun q => q.2 hg,(k2 g hg).2.1,fun b q => by cases q⟩,k3⟩ (fun t p y v g hy => by simp [start,St.F,lookF] at hy)).less (fun s y hy => hy) rfl (fun s p y hy => ?_)⟩
   ·show (_ : Array Value)[0]? = _
    rw [Array.getElem?_append_left (by simp)]; rfl
   ·have hy' : lookF [((0,none),(e,z))] (s,p) = some y:=hy
    simp only [lookF] at hy'
    split at hy'
    ·rename_i q; cases hy'; cases q; simp [FS.onF]
    ·cases hy'
  refine (calls_core (Post:=fun v' w' => RRep (fun b j => I b j ∨ ((w.heap.size ≤ b ∨ v1.ownBlock = some b) ∧ b < w'.heap.size)) w' r v' ∧ Kept (fun b => b < w.heap.size ∧ v1.ownBlock ≠ some b) w w' ∧ ∀ b j,I b j → w'.cell? ⟨b,j,none⟩ = w.cell? ⟨b,j,none⟩) hm hf hb
   (fun Q hQ => awp_sound hm c an [] ic hc _ _ Q _ w h hstart hQ) (fun st' I' ρ a' w' hR hr => ?_)).mono fun x w' ⟨v,hx,hq⟩ => ⟨v,hx,hq⟩
  obtain ⟨v',q1,q2⟩:=fin_post hrv hR hr
  refine ⟨v',q1,q2.keep (fun b j hi => ?_),hr.below,fun b j hi => (hr.mon b j hi).2⟩
  rcases hr.sub b j hi with q | q
  ·exact .inl q
  ·refine .inr ⟨?_,hr.lt b j hi⟩
   by_cases hb2 : b < w.heap.size
   ·exact .inr (Classical.byContradiction fun q' => q ⟨hb2,q'⟩)
   ·exact .inl (Nat.le_of_not_lt hb2)
theorem toldI_cell (hm : P.follows .mixedOrders = true) {f : FuncId} {fn : Func} {id : Nat} {ops : Array Oper} {rest : Code} {o0 : Oper} {l : List Oper} {ic0 ic : IC} {an : List Ann} {rw lv lb : List Nat} {cuts : List (Nat × List Nat × List Nat)} {rvs : List RV} {cs r : List D} {T d off e : Nat} {z : Pay} (hf : P.funcs[f]? = some fn) (hb : fn.body = some (.seq (.region id ops false) rest)) (hops : ops.toList = o0 :: l) (ho0 : o0.op = .box T (.tmp 0)) (hd0 : o0.dst = some d) (hg0 : o0.guard = none) (hdn : 0 < d ∧ d < fn.ntmps)
  (hc0 : compRs P fn.ntmps rw ops l cuts lv lb = some ic0) (hc : compC P fn.ntmps rest an = some (ic,[])) (hrv : compR P fn.results.toList = some rvs) (hl : fn.ntmps ≤ 100000)
  (h : cSeq ic0 ic ⟨[(d,pD d 0),(0,aD cs)],[(d,cs)],[((d,some off),(e,z))]⟩ (fin1 fun st => ∃ cs,resA st rvs = some cs ∧ ValsLe cs r)) : ToldI P f [aD cs] 0 (some off) e z r:=by
 intro w I vs v u hv hlt hv0 hu hown
 obtain ⟨v1,rfl⟩ : ∃ v1,vs = [v1]:=by
  match vs,hv.1 with
  | [v1],_ => exact ⟨v1,rfl⟩
  | [],q => simp at q
  | _ :: _ :: _,q => simp at q
 simp only [List.getElem?_cons_zero,Option.some.injEq] at hv0
 subst hv0
 obtain ⟨us,rfl,hrow⟩:=CVRep.agg (hv.2 0 _ _ rfl rfl)
 have huo : us[off]? = some u:=by simpa [cellAt] using hu
 have hs:=start_rel (N:=fn.ntmps) (args:=[aD cs]) (base:=fun b => b < w.heap.size ∧ u.ownBlock ≠ some b) hv hlt ⟨by simp; omega,hl⟩ (fun _ h => h.1)
 refine (calls_core (base:=fun b => b < w.heap.size ∧ u.ownBlock ≠ some b) (w0:=w) (I0:=I) (Post:=fun v' w' => RRep (fun b j => I b j ∨ ((w.heap.size ≤ b ∨ u.ownBlock = some b) ∧ b < w'.heap.size)) w' r v' ∧ Kept (fun b => b < w.heap.size ∧ u.ownBlock ≠ some b) w w' ∧ ∀ b j,I b j → w'.cell? ⟨b,j,none⟩ = w.cell? ⟨b,j,none⟩) (R:=fun st => ∃ cs,resA st rvs = some cs ∧ ValsLe cs r) hm hf hb
  (fun Q hQ => ?_) (fun st' I' ρ a' w' hR hr => ?_)).mono fun x w' ⟨v,hx,hq⟩ => ⟨v,hx,hq⟩
 ·refine wp_seq (wp_region_list ?_)
  rw [hops]
  refine wpList_step fun K1 hK1 => ?_
  rw [if_pos (wanted_none hg0 _)]
  unfold Oper.wp
  have he0 : Act.eval { tmps:=[Value.agg us.toArray].toArray ++ Array.replicate (fn.ntmps - [Value.agg us.toArray].toArray.size) undef,defers:=[] } (.tmp 0) = .agg us.toArray:=by
   simp only [Act.eval,Array.getD_eq_getD_getElem?]
   rw [Array.getElem?_append_left (by simp)]
   rfl
  rw [show (execOp (Act.eval { tmps:=[Value.agg us.toArray].toArray ++ Array.replicate (fn.ntmps - [Value.agg us.toArray].toArray.size) undef,defers:=[] }) o0).run P w = .ok (.value (.pointer (some ⟨w.heap.size,0,none⟩))) (w.alloc (.cells us.toArray T)) by
   simp only [execOp,ho0,he0]
   simp [Instr.box,newVar,newRow,newObj,Sem.run,Value.cells]]
  show K1 (Act.put _ o0.dst _) _
  rw [hd0]
  refine hK1 _ _ ?_
  have hlt' : d < 100000:=by omega
  have hr1:=hs.newB hlt' (b:=d) (by simp [start,St.F,look]) (fun off => by simp [start,St.F,lookF]) T hrow.L
  have hr2:=hr1.put hdn.2 (v:=some (pD d 0)) (u:=.pointer (some ⟨w.heap.size,0,none⟩)) (fun x hx => by cases hx; exact AVRep.p hlt' (by simp))
  have hbel : Below w.heap.size w (w.alloc (.cells us.toArray T)):=(Below.refl _ _).alloc (Nat.le_refl _) _
  obtain ⟨n,xs,k1,k2,k3⟩:=hown
  have hown2 : Own I (fun c => if c = d then some w.heap.size else none) (fun b => b < w.heap.size ∧ u.ownBlock ≠ some b) (w.alloc (.cells us.toArray T)) e z u:=by
   refine ⟨n,xs,k1.alloc _,fun g hg => ⟨fun q => q.2 hg,(k2 g hg).2.1,fun b q => ?_⟩,fun es he => ⟨(k3 es he).1,(k3 es he).2.keep (fun _ _ h => h) (fun b j hi => hbel.cell (p:=⟨b,j,none⟩) (hlt b j hi))⟩⟩
   simp only at q
   split at q
   ·cases q; have:=(k1.lt _ hg).2; omega
   ·cases q
  have hr3:=hr2.giveF (s:=d) (o:=some off) (e:=e) (z:=z) (u:=u) (fun _ _ => hlt') (by
   simp only [At,if_pos,Option.bind_some]
   rw [cell_of_row _ w.heap.size off us.toArray T (0,0) (heap_alloc_new _ _)]
   simpa using huo) hown2 (fun t p x y g hx => by simp [FS.setT,FS.setB,start,St.F,lookF] at hx)
  refine run_cuts (R:=thn (fun st' => ic st' (fin1 fun st => ∃ cs,resA st rvs = some cs ∧ ValsLe cs r)) (fin1 fun st => ∃ cs,resA st rvs = some cs ∧ ValsLe cs r)) (fun st' a' w' hR hr' => ?_) cuts l lv lb ic0 ⟨[(d,pD d 0),(0,aD cs)],[(d,cs)],[((d,some off),(e,z))]⟩ _ _ hc0 h ⟨I,_,hr3.less (fun s x hx => ?_) ?_ (fun s p x hx => ?_)⟩
  ·exact awp_sound hm rest an [] ic hc st' _ Q a' w' hR hr' hQ
  ·have hx' : look [(d,pD d 0),(0,aD cs)] s = some x:=hx
   simp only [look] at hx'
   simp only [FS.onF,FS.setT]
   by_cases q : d = s
   ·subst q; simpa using hx'
   ·rw [if_neg q] at hx'
    rw [if_neg (fun e => q e.symm)]
    simpa [FS.setB,start,startT,St.F,look] using hx'
  ·funext b
   show look [(d,cs)] b = if b = d then some cs else look [] b
   simp only [look]
   by_cases q : d = b
   ·subst q; simp
   ·rw [if_neg q,if_neg (fun e => q e.symm)]
  ·have hx' : lookF [((d,some off),(e,z))] (s,p) = some x:=hx
   simp only [lookF] at hx'
   split at hx'
   ·rename_i q; cases hx'; cases q; simp [FS.onF]
   ·cases hx'
 ·obtain ⟨v',q1,q2⟩:=fin_post hrv hR hr
  refine ⟨v',q1,q2.keep (fun b j hi => ?_),hr.below,fun b j hi => (hr.mon b j hi).2⟩
  rcases hr.sub b j hi with q | q
  ·exact .inl q
  ·refine .inr ⟨?_,hr.lt b j hi⟩
   by_cases hb2 : b < w.heap.size
   ·exact .inr (Classical.byContradiction fun q' => q ⟨hb2,q'⟩)
   ·exact .inl (Nat.le_of_not_lt hb2)
end
theorem le_nilH {st : St} (s e z : Nat) (h : look st.tm s = some (vD (.slice none 0 0))) : Le st ⟨(s,xD) :: st.tm,st.bx,((s,none),(e,z,some [])) :: st.fl⟩:=by
 intro base w0 I0 N a w ⟨I,ρ,hr⟩
 obtain ⟨u,h1,h2⟩:=hr.tm s _ h
 have hu:=plain_of h2
 subst hu
 have h3 : RelI base w0 I0 N I ρ { st.F with tm:=fun t => if t = s then some xD else st.F.tm t } a w:=by
  refine ⟨hr.defers,hr.size,fun t v hv => ?_,hr.cap,hr.flc,hr.bx,hr.inj,hr.nob,hr.fl,hr.apart,hr.lt,hr.sub,hr.below,hr.room,hr.mon⟩
  simp only at hv
  split at hv
  ·rename_i e; subst e; cases hv; exact ⟨_,h1,.inl (.inl (CRep.x rfl))⟩
  ·exact hr.tm t v hv
 have h4:=h3.giveF (s:=s) (o:=none) (e:=e) (z:=(z,some [])) (u:=.slice none 0 0) (fun k hk => by cases hk) h1 ⟨0,[],World.ownsRow_nil w 0 e z,(fun g hg => by simp [Value.ownBlock] at hg),fun es he => by cases he; exact ⟨rfl,(fun e he => by cases he),by simp,(fun i j e l he => by simp at he)⟩⟩ (fun t p x y g _ _ _ q => by simp [Value.ownBlock] at q)
 refine ⟨I,ρ,h4.less (fun t v hv => ?_) rfl (fun t p x hx => ?_)⟩
 ·simp only [St.F,look] at hv
  show (if t = s then _ else _) = _
  by_cases q : s = t
  ·subst q; simpa using hv
  ·rw [if_neg q] at hv; rw [if_neg (fun e => q e.symm)]; exact hv
 ·simp only [St.F,lookF] at hx
  simp only [FS.onF]
  by_cases q : (s,(none : Option Nat)) = (t,p)
  ·rw [if_pos q] at hx; cases q; simpa using hx
  ·rw [if_neg q] at hx; rw [if_neg (fun e => q (by rw [e.1,e.2]))]; exact hx
end Go.Proofs.Ytgaofjiidedcbad.ab
