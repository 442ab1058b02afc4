import Derived.Test.YtgaofjiidedcbacGreatM12
set_option maxHeartbeats 1000000
set_option linter.unusedVariables false
set_option linter.unusedSimpArgs false
namespace Go.Proofs.YtgaofjiidedcbacGreat.ab
open Go Go.RowKit
def grdOf (ops : Array Oper) (o : Oper) : Option (Option (Nat × Bool)):=match o.guard with
 | none => some none
 | some (j,want) => match ops[j]? with
  | some oj => oj.dst.map fun d => some (d,want)
  | none => none
def compO (P : Program) (N : Nat) (rw : List Nat) (ops : Array Oper) (o : Oper) : Option IOp :=
 match comp P rw ops.toList o,grdOf ops o with
 | some i,some g => if o.dst.all (fun d => decide (d < N)) then some ⟨o.dst,g,i⟩ else none
 | _,_ => none
def compL (P : Program) (N : Nat) (rw : List Nat) (ops : Array Oper) : List Oper → Option (List IOp)
 | [] => some []
 | o :: r => match compO P N rw ops o,compL P N rw ops r with
  | some i,some is => some (i :: is)
  | _,_ => none
def StepOk (P : Program) (ops : Array Oper) (N : Nat) (o : Oper) (ev : Ev) : Prop :=
 ∀ (base : Nat → Prop) (w0 : World) (I0 : Still) (st : FS) (a : Act) (w : World) (K : Act → World → Prop) (Q : Exit → Act → World → Prop),
  Rel base w0 I0 N st a w → ev.ok st → (∀ a' w',Rel base w0 I0 N (ev.app st) a' w' → K a' w') →
  if Region.wanted o (yielded ops a.tmps) = true then Oper.wp P o a w K Q else K (a.put o.dst undef) w
section
variable {P : Program} {N : Nat} {rw : List Nat} {ops : Array Oper}
theorem step_ev {o : Oper} {i : IOp} (hc : compO P N rw ops o = some i) {st : St} {r : List D} {ev : Ev} {c : Option (Nat × List D × List D)} (h : stepI i st r = some (ev,c)) (hcall : CallOk P c) : ev.ok st.F ∧ StepOk P ops N o ev:=by
 unfold compO at hc
 split at hc
 ·rename_i ins g hci hg
  split at hc
  ·rename_i hN
   cases hc
   have hN' : ∀ d,o.dst = some d → d < N:=fun d hd => by rw [hd] at hN; simpa using hN
   unfold stepI at h
   simp only at h
   unfold grdOf at hg
   split at hg
   ·rename_i hgd
    cases hg
    obtain ⟨h2,h3⟩:=comp_ok hci st r ev c h hcall
    refine ⟨h2,fun base w0 I0 st a w K Q hr hok hK => ?_⟩
    rw [if_pos (by simp [Region.wanted,hgd])]
    exact h3 base w0 I0 N st a w K Q hN' hr hok hK
   ·rename_i j want hgd
    split at hg
    ·rename_i oj hoj
     obtain ⟨d,hd,rfl⟩:=Option.map_eq_some_iff.1 hg
     simp only at h
     split at h
     ·rename_i b hb
      have hy : ∀ {base : Nat → Prop} {w0 : World} {I0 : Still} {st : FS} {a : Act} {w : World},Rel base w0 I0 N st a w → st.tm d = some (vB b) → yielded ops a.tmps j = some b:=by
       intro base w0 I0 st a w ⟨I,ρ,hr⟩ hs
       obtain ⟨u,q1,q2⟩:=hr.tm d _ hs
       have:=plain_of q2
       subst this
       simp [yielded,hoj,hd,q1]
      split at h
      ·rename_i hbw
       split at h
       ·rename_i ev' c' hi
        cases h
        obtain ⟨h2,h3⟩:=comp_ok hci st r ev' c hi hcall
        refine ⟨⟨fun x hx => ?_,h2.rb,h2.nb,h2.rf⟩,fun base w0 I0 st' a w K Q hr hok hK => ?_⟩
        ·rcases List.mem_cons.1 hx with rfl | hx
         ·exact hb
         ·exact h2.rs x hx
        ·have hyy:=hy hr (hok.rs (d,vB b) (List.mem_cons_self ..))
         rw [if_pos (by simp [Region.wanted,hgd,hyy,hbw])]
         exact h3 base w0 I0 N st' a w K Q hN' hr ⟨fun x hx => hok.rs x (List.mem_cons_of_mem _ hx),hok.rb,hok.nb,hok.rf⟩ hK
       ·cases h
      ·rename_i hbw
       cases h
       refine ⟨?_,fun base w0 I0 st' a w K Q hr hok hK => ?_⟩
       ·cases hdst : o.dst with
        | none => exact ⟨fun x hx => by simp [skipEv] at hx; subst hx; exact hb,fun x hx => by simp [skipEv] at hx,fun x hx => by simp [skipEv] at hx,fun x hx => by simp [skipEv] at hx⟩
        | some e => exact ⟨fun x hx => by simp [skipEv] at hx; subst hx; exact hb,fun x hx => by simp [skipEv] at hx,fun x hx => by simp [skipEv] at hx,fun x hx => by simp [skipEv] at hx⟩
       ·have hs : st'.tm d = some (vB b):=by
         cases hdst : o.dst with
         | none => rw [hdst] at hok; exact hok.rs (d,vB b) (by simp [skipEv])
         | some e => rw [hdst] at hok; exact hok.rs (d,vB b) (by simp [skipEv])
        have hyy:=hy hr hs
        rw [if_neg (by simp [Region.wanted,hgd,hyy,hbw])]
        exact hK _ _ (skip_rel hN' hr)
     ·rename_i hb
      cases h
      refine ⟨?_,fun base w0 I0 st' a w K Q hr hok hK => ?_⟩
      ·cases hdst : o.dst with
       | none => exact ⟨fun x hx => by simp [skipEv] at hx; subst hx; exact hb,fun x hx => by simp [skipEv] at hx,fun x hx => by simp [skipEv] at hx,fun x hx => by simp [skipEv] at hx⟩
       | some e => exact ⟨fun x hx => by simp [skipEv] at hx; subst hx; exact hb,fun x hx => by simp [skipEv] at hx,fun x hx => by simp [skipEv] at hx,fun x hx => by simp [skipEv] at hx⟩
      ·have hs : st'.tm d = some (tD []):=by
        cases hdst : o.dst with
        | none => rw [hdst] at hok; exact hok.rs (d,tD []) (by simp [skipEv])
        | some e => rw [hdst] at hok; exact hok.rs (d,tD []) (by simp [skipEv])
       have hyy : yielded ops a.tmps j = none:=by
        obtain ⟨I,ρ,hr⟩:=hr
        obtain ⟨u,q1,q2⟩:=hr.tm d _ hs
        obtain ⟨us,rfl,_⟩:=q2.invT
        simp [yielded,hoj,hd,q1]
       rw [if_neg (by simp [Region.wanted,hgd,hyy])]
       exact hK _ _ (skip_rel hN' hr)
     ·cases h
    ·cases hg
  ·cases hc
 ·cases hc
theorem callOk_none : CallOk P none:=fun f cs ro h => by cases h
theorem callOk_some {f : Nat} {cs r : List D} (h : ∃ cs',ValsLe cs cs' ∧ TellG P f cs' r) : CallOk P (some (f,cs,r)):=fun f' cs' ro e => by cases e; exact h
theorem run_list {Q : Exit → Act → World → Prop} {base : Nat → Prop} {w0 : World} {I0 : Still} {l2 : List Oper} : ∀ (l : List Oper) (is : List IOp) (rs : List (List D)) (st st' : St) (q : List (Nat × List D × List D)) (a : Act) (w : World),compL P N rw ops l = some is → evalOps is rs st = some (st',q) → Obl P q → Rel base w0 I0 N st.F a w →
  (∀ a' w',Rel base w0 I0 N st'.F a' w' → wpList P ops Q l2 a' w') → wpList P ops Q (l ++ l2) a w
 | [],is,rs,st,st',q,a,w,hc,h,ho,hr,hK => by
  simp [compL] at hc; subst hc
  simp [evalOps] at h
  obtain ⟨rfl,rfl⟩:=h
  exact hK a w hr
 | o :: l,is,rs,st,st',q,a,w,hc,h,ho,hr,hK => by
  simp only [compL] at hc
  split at hc
  ·rename_i i is' h1 h2
   cases hc
   simp only [evalOps] at h
   split at h
   ·cases h
   ·rename_i ev hs
    obtain ⟨q2,q3⟩:=step_ev h1 hs callOk_none
    refine wpList_step fun K' hK' => q3 base w0 I0 st.F a w K' Q hr q2 fun a' w' hr' => hK' a' w' ?_
    exact run_list l is' rs (st.app ev) st' q a' w' h2 h ho (by rw [app_F]; exact hr') hK
   ·rename_i ev f cs ro hs
    split at h
    ·cases h
    ·rename_i st1 q1 he
     cases h
     obtain ⟨q2,q3⟩:=step_ev h1 hs (callOk_some ho.1)
     refine wpList_step fun K' hK' => q3 base w0 I0 st.F a w K' Q hr q2 fun a' w' hr' => hK' a' w' ?_
     exact run_list l is' rs.tail (st.app ev) st' q1 a' w' h2 he ho.2 (by rw [app_F]; exact hr') hK
  ·cases hc
def direct (o : Oper) : List Nat:=(o.after.toList.filter (fun e => Region.binds .any e)).map (·.on)
def ancs : List Oper → List (List Nat) → List (List Nat)
 | [],acc => acc
 | o :: r,acc => ancs r (acc ++ [(direct o ++ (direct o).flatMap (fun k => (acc[k]?).getD [])).eraseDups])
def lower (l : List Oper) : Bool:=(l.zipIdx).all fun (o,i) => (direct o).all fun k => decide (k < i)
def pairsOk (anc : List (List Nat)) (fs : List Foot) : Bool :=
 (List.range fs.length).all fun j => (List.range j).all fun i => (match fs[i]?,fs[j]? with | some a,some b => indep a b | _,_ => false) || ((anc[j]?).getD []).contains i
def Anc (ops : Array Oper) (k i : Nat) : Prop:=∀ R : Nat → Nat → Prop,(∀ i k o,ops[i]? = some o → k ∈ direct o → R k i) → (∀ i k m o,ops[i]? = some o → m ∈ direct o → R k m → R k i) → R k i
theorem Anc.one {i k : Nat} {o : Oper} (h : ops[i]? = some o) (hk : k ∈ direct o) : Anc ops k i:=fun R h1 _ => h1 i k o h hk
theorem Anc.more {i k m : Nat} {o : Oper} (h : ops[i]? = some o) (hk : m ∈ direct o) (hm : Anc ops k m) : Anc ops k i:=fun R h1 h2 => h2 i k m o h hk (hm R h1 h2)
theorem ancs_ok : ∀ (l : List Oper) (acc : List (List Nat)),(∀ j,l[j]? = ops[acc.length + j]?) → (∀ i k xs,acc[i]? = some xs → k ∈ xs → Anc ops k i) → ∀ i k xs,(ancs l acc)[i]? = some xs → k ∈ xs → Anc ops k i
 | [],acc,_,hacc => hacc
 | o :: r,acc,hl,hacc => by
  refine ancs_ok r _ (fun j => ?_) (fun i k xs hi hk => ?_)
  ·have:=hl (j + 1)
   simp only [List.getElem?_cons_succ] at this
   rw [this,List.length_append,List.length_singleton]
   congr 1; omega
  ·by_cases hlt : i < acc.length
   ·rw [List.getElem?_append_left hlt] at hi
    exact hacc i k xs hi hk
   ·rw [List.getElem?_append_right (by omega)] at hi
    have h0 : i - acc.length = 0:=by
     have:=(List.getElem?_eq_some_iff.1 hi).1
     simp at this; omega
    rw [h0] at hi
    simp at hi
    subst hi
    have ho : ops[i]? = some o:=by
     have:=hl 0
     simp only [List.getElem?_cons_zero,Nat.add_zero] at this
     rw [show i = acc.length by omega]; exact this.symm
    rw [List.mem_eraseDups,List.mem_append] at hk
    rcases hk with hk | hk
    ·exact .one ho hk
    ·obtain ⟨m,hm,hk⟩:=List.mem_flatMap.1 hk
     cases hx : acc[m]? with
     | none => simp [hx] at hk
     | some ys => simp [hx] at hk; exact .more ho hm (hacc m k ys hx hk)
def AllOk (P : Program) (ops : Array Oper) (N : Nat) : List Oper → List Ev → Prop
 | [],[] => True
 | o :: l,e :: es => StepOk P ops N o e ∧ AllOk P ops N l es
 | _,_ => False
theorem AllOk.at : ∀ {l : List Oper} {es : List Ev},AllOk P ops N l es → l.length = es.length ∧ ∀ (i : Nat) o e,l[i]? = some o → es[i]? = some e → StepOk P ops N o e
 | [],[],_ => ⟨rfl,fun i o e h => by simp at h⟩
 | [],_ :: _,h => by simp [AllOk] at h
 | _ :: _,[],h => by simp [AllOk] at h
 | o :: l,e :: es,h => by
  have ih:=AllOk.at h.2
  refine ⟨by simp [ih.1],fun i o' e' ho he => ?_⟩
  cases i with
  | zero => simp at ho he; subst ho he; exact h.1
  | succ n => exact ih.2 n o' e' (by simpa using ho) (by simpa using he)
theorem run_fires : ∀ (l : List Oper) (is : List IOp) (rs : List (List D)) (st st' : St) (fs : List Foot) (q : List (Nat × List D × List D)),compL P N rw ops l = some is → evalD is rs st = some (st',fs,q) → Obl P q → ∃ evs,Fires evs st.F st'.F ∧ AllOk P ops N l evs ∧ fs = evs.map Ev.fp
 | [],is,rs,st,st',fs,q,hc,h,ho => by
  simp [compL] at hc; subst hc
  simp [evalD] at h
  obtain ⟨rfl,rfl,rfl⟩:=h
  exact ⟨[],rfl,trivial,rfl⟩
 | o :: r,is,rs,st,st',fs,q,hc,h,ho => by
  simp only [compL] at hc
  split at hc
  ·rename_i i is' h1 h2
   cases hc
   simp only [evalD] at h
   split at h
   ·cases h
   ·rename_i ev hs
    split at h
    ·cases h
    ·rename_i st1 fs1 q1 he
     cases h
     obtain ⟨q2,q3⟩:=step_ev h1 hs callOk_none
     obtain ⟨evs,r1,r2,r3⟩:=run_fires r is' rs (st.app ev) st' fs1 q h2 he ho
     rw [app_F] at r1
     exact ⟨ev :: evs,⟨q2,r1⟩,⟨q3,r2⟩,by rw [r3]; rfl⟩
   ·rename_i ev f cs ro hs
    split at h
    ·cases h
    ·rename_i st1 fs1 q1 he
     cases h
     obtain ⟨q2,q3⟩:=step_ev h1 hs (callOk_some ho.1)
     obtain ⟨evs,r1,r2,r3⟩:=run_fires r is' rs.tail (st.app ev) st' fs1 q1 h2 he ho.2
     rw [app_F] at r1
     exact ⟨ev :: evs,⟨q2,r1⟩,⟨q3,r2⟩,by rw [r3]; rfl⟩
  ·cases hc
theorem fires_at {evs : List Ev} {rem : List Nat} (i : Nat) (h : i ∈ rem) : ∃ pre post,rem = pre ++ i :: post ∧ i ∉ pre:=by
 induction rem with
 | nil => cases h
 | cons k r ih =>
  by_cases e : k = i
  ·exact ⟨[],r,by rw [e]; rfl,by simp⟩
  ·rcases List.mem_cons.1 h with h | h
   ·exact absurd h.symm e
   ·obtain ⟨pre,post,rfl,hp⟩:=ih h
    exact ⟨k :: pre,post,rfl,by simp [hp,Ne.symm e]⟩
theorem any_order {Q : Exit → Act → World → Prop} {base : Nat → Prop} {w0 : World} {I0 : Still} {evs : List Ev} (hlen : evs.length = ops.size) (hok : ∀ (i : Nat) o e,ops[i]? = some o → evs[i]? = some e → StepOk P ops N o e)
  (hlow : ∀ (i : Nat) o k,ops[i]? = some o → k ∈ direct o → k < i) (hpair : ∀ (i j : Nat) a b,i < j → evs[i]? = some a → evs[j]? = some b → indep a.fp b.fp = true ∨ Anc ops i j) {fin : FS} (hQ : ∀ a w,Rel base w0 I0 N fin a w → Q .normal a w) :
  ∀ (fuel : Nat) (listed : Array Bool) (rem : List Nat) (st : FS) (a : Act) (w : World),listed.size = ops.size → rem.length = fuel → (∀ i,i ∈ rem ↔ i < ops.size ∧ listed.getD i true = false) → rem.Pairwise (· < ·) →
   (∀ (i k : Nat) o,ops[i]? = some o → listed.getD i true = true → i < ops.size → k ∈ direct o → listed.getD k false = true) → Fires (rem.filterMap (fun i => evs[i]?)) st fin → Rel base w0 I0 N st a w → wpAny P .any ops Q fuel listed a w:=by
 have hdir : ∀ (o : Oper) (k : Nat),k ∈ direct o ↔ ∃ e ∈ o.after,Region.binds .any e = true ∧ e.on = k:=by
  intro o k
  simp only [direct,List.mem_map,List.mem_filter,Array.mem_toList_iff]
  constructor
  ·rintro ⟨e,⟨h1,h2⟩,h3⟩; exact ⟨e,h1,h2,h3⟩
  ·rintro ⟨e,h1,h2,h3⟩; exact ⟨e,⟨h1,h2⟩,h3⟩
 intro fuel
 induction fuel with
 | zero =>
  intro listed rem st a w hsz hr hmem hpw hdown hf hrel
  have hrem : rem = []:=List.eq_nil_of_length_eq_zero hr
  subst hrem
  refine ⟨?_,?_⟩
  ·apply List.eq_nil_iff_forall_not_mem.2
   intro i hi
   obtain ⟨h1,o,h2,_⟩:=mem_ready.1 hi
   have:=(hmem i).2 ⟨(Array.getElem?_eq_some_iff.1 h2).1,h1⟩
   cases this
  ·cases (hf : st = fin); exact hQ a w hrel
 | succ fuel ih =>
  intro listed rem st a w hsz hr hmem hpw hdown hf hrel
  refine ⟨fun h0 => ?_,fun i hi => ?_⟩
  ·-- the first that is left may come up
   exfalso
   cases rem with
   | nil => simp at hr
   | cons i r =>
    obtain ⟨h1,h2⟩:=(hmem i).1 (by simp)
    have : i ∈ Region.ready .any ops listed:=by
     refine mem_ready.2 ⟨h2,ops[i],Array.getElem?_eq_getElem h1,fun e he hb => ?_⟩
     have hk:=hlow i ops[i] e.on (Array.getElem?_eq_getElem h1) ((hdir _ _).2 ⟨e,he,hb,rfl⟩)
     by_cases hl : listed.getD e.on true = false
     ·have:=(hmem e.on).2 ⟨by omega,hl⟩
      rcases List.mem_cons.1 this with q | q
      ·omega
      ·have:=(List.pairwise_cons.1 hpw).1 e.on q; omega
     ·have hlt : e.on < listed.size:=by omega
      simp only [Array.getD_eq_getD_getElem?,Array.getElem?_eq_getElem hlt,Option.getD_some] at hl ⊢
      simpa using hl
    rw [h0] at this
    cases this
  ·obtain ⟨h1,o,h2,h3⟩:=mem_ready.1 hi
   have hisz : i < ops.size:=(Array.getElem?_eq_some_iff.1 h2).1
   have hirem : i ∈ rem:=(hmem i).2 ⟨hisz,h1⟩
   obtain ⟨pre,post,rfl,hnp⟩:=fires_at (evs:=evs) i hirem
   have hie : i < evs.length:=by rw [hlen]; exact hisz
   -- what is not listed is no one's that i waits for
   have hanc : ∀ j k,Anc ops j k → (∀ m o',ops[k]? = some o' → m ∈ direct o' → listed.getD m false = true) → listed.getD j false = true:=by
    intro j k h
    refine h (fun j k => (∀ m o',ops[k]? = some o' → m ∈ direct o' → listed.getD m false = true) → listed.getD j false = true) (fun i k o h hk hd => hd _ _ h hk) (fun i k m o h hk ih' hd => ?_)
    ·have hl:=hd m o h hk
     refine ih' fun m' o' ho' hm' => ?_
     have hmsz : m < ops.size:=(Array.getElem?_eq_some_iff.1 ho').1
     refine hdown m m' o' ho' ?_ hmsz hm'
     have hlt : m < listed.size:=by omega
     simp only [Array.getD_eq_getD_getElem?,Array.getElem?_eq_getElem hlt,Option.getD_some] at hl ⊢
     exact hl
   have hdi : ∀ m o',ops[i]? = some o' → m ∈ direct o' → listed.getD m false = true:=by
    intro m o' ho' hm
    rw [h2] at ho'; cases ho'
    obtain ⟨e,he,hb,rfl⟩:=(hdir _ _).1 hm
    exact h3 e he hb
   have hlist : (pre ++ i :: post).filterMap (fun i => evs[i]?) = pre.filterMap (fun i => evs[i]?) ++ evs[i] :: post.filterMap (fun i => evs[i]?):=by
    rw [List.filterMap_append,List.filterMap_cons,List.getElem?_eq_getElem hie]
   rw [hlist] at hf
   obtain ⟨hokst,hf'⟩:=fires_first hf (fun p hp => by
    obtain ⟨j,hj,hjp⟩:=List.mem_filterMap.1 hp
    have hji : j < i:=by
     have:=List.pairwise_append.1 hpw
     exact this.2.2 j hj i (by simp)
    rcases hpair j i p evs[i] hji hjp (List.getElem?_eq_getElem hie) with q | q
    ·exact q
    ·exfalso
     have hl:=hanc j i q hdi
     obtain ⟨g1,g2⟩:=(hmem j).1 (by simp [hj])
     have hlt : j < listed.size:=by omega
     simp only [Array.getD_eq_getD_getElem?,Array.getElem?_eq_getElem hlt,Option.getD_some] at hl g2
     rw [g2] at hl; cases hl)
   unfold wpOp
   simp only [h2]
   have hstep:=hok i o evs[i] h2 (List.getElem?_eq_getElem hie) base w0 I0 st a w (wpAny P .any ops Q fuel (listed.setIfInBounds i true)) Q hrel hokst (fun a' w' hrel' => by
    have hset : ∀ j (b : Bool),(listed.setIfInBounds i true).getD j b = if j = i then true else listed.getD j b:=by
     intro j b
     simp only [Array.getD_eq_getD_getElem?,Array.getElem?_setIfInBounds]
     by_cases e : i = j
     ·subst e; simp [show i < listed.size by omega]
     ·rw [if_neg e,if_neg (fun q => e q.symm)]
    refine ih (listed.setIfInBounds i true) (pre ++ post) _ a' w' (by simp [hsz]) (by simp at hr ⊢; omega) (fun j => ?_) ?_ (fun j k o' ho' hj hjs hk => ?_) (by rw [List.filterMap_append]; exact hf') hrel'
    ·rw [hset]
     constructor
     ·intro hj
      have hne : j ≠ i:=by
       intro e; subst e
       rcases List.mem_append.1 hj with q | q
       ·exact hnp q
       ·have:=List.pairwise_append.1 hpw
        have:=(List.pairwise_cons.1 this.2.1).1 j q
        omega
      rw [if_neg hne]
      exact (hmem j).1 (by rcases List.mem_append.1 hj with q | q <;> simp [q])
     ·rintro ⟨g1,g2⟩
      split at g2
      ·cases g2
      ·rename_i hne
       have:=(hmem j).2 ⟨g1,g2⟩
       simp only [List.mem_append,List.mem_cons] at this ⊢
       rcases this with q | q | q
       ·exact .inl q
       ·exact absurd q hne
       ·exact .inr q
    ·have:=List.pairwise_append.1 hpw
     exact List.pairwise_append.2 ⟨this.1,(List.pairwise_cons.1 this.2.1).2,fun x hx y hy => this.2.2 x hx y (by simp [hy])⟩
    ·rw [hset] at hj ⊢
     split
     ·rfl
     ·split at hj
      ·rename_i e; subst e; exact hdi k o' ho' hk
      ·exact hdown j k o' ho' hj hjs hk)
   by_cases hw : Region.wanted o (yielded ops a.tmps) = true
   ·rw [if_pos hw] at hstep ⊢
    exact .inl hstep
   ·rw [if_neg hw] at hstep ⊢
    exact hstep
theorem run_any {Q : Exit → Act → World → Prop} {base : Nat → Prop} {w0 : World} {I0 : Still} {is : List IOp} {rs : List (List D)} {st st' : St} {fs : List Foot} {q : List (Nat × List D × List D)} {a : Act} {w : World} {id : Nat} (hm : P.follows .mixedOrders = true) (hc : compL P N rw ops ops.toList = some is) (hlow : lower ops.toList = true)
  (h : evalD is rs st = some (st',fs,q)) (h3 : pairsOk (ancs ops.toList []) fs = true) (ho : Obl P q) (hr : Rel base w0 I0 N st.F a w) (hK : ∀ a' w',Rel base w0 I0 N st'.F a' w' → Q .normal a' w') : (Code.region id ops true).wp P Q a w:=by
 obtain ⟨evs,h1,h2,rfl⟩:=run_fires ops.toList is rs st st' fs q hc h ho
 obtain ⟨q1,q2⟩:=h2.at
 have hlen : evs.length = ops.size:=by rw [← q1]; simp
 have hr' : Rel base w0 I0 N st.F a { w with drawn:=w.drawn + 1 }:=by
  obtain ⟨I,ρ,hr⟩:=hr
  exact ⟨I,ρ,hr.later0 (w':=w.drew) (Below.drew (Below.refl _ _))⟩
 refine wp_region_any hm (any_order (P:=P) (N:=N) (evs:=evs) hlen (fun i o e ho he => q2 i o e (by simpa using ho) he) (fun i o k ho hk => ?_) (fun i j x y hij hx hy => ?_) (fin:=st'.F) (fun a w hr => hK a w hr) ops.size _ (List.range ops.size) st.F a _ (by simp) (by simp) (fun i => ?_) ?_ (fun i k o ho hl hi hk => ?_) ?_ hr')
 ·have hall:=List.all_eq_true.1 hlow (o,i) (by
   rw [List.mem_zipIdx_iff_getElem?]; simpa using ho)
  simpa using List.all_eq_true.1 hall k hk
 ·have hj : j < evs.length:=(List.getElem?_eq_some_iff.1 hy).1
  have hp:=List.all_eq_true.1 (List.all_eq_true.1 h3 j (by simpa using hj)) i (by simpa using hij)
  simp only [List.getElem?_map,hx,hy,Option.map_some,Bool.or_eq_true] at hp
  rcases hp with hp | hp
  ·exact .inl hp
  ·right
   cases ha : (ancs ops.toList [])[j]? with
   | none => simp [ha] at hp
   | some xs =>
    simp only [ha,Option.getD_some,List.contains_iff_mem] at hp
    exact ancs_ok (ops:=ops) ops.toList [] (fun j => by simp) (fun i k xs h => by simp at h) j i xs ha hp
 ·simp only [List.mem_range]
  constructor
  ·intro hi; exact ⟨hi,by simp [Array.getD_eq_getD_getElem?,hi]⟩
  ·exact fun h => h.1
 ·exact List.pairwise_lt_range
 ·simp [Array.getD_eq_getD_getElem?,hi] at hl
 ·have : (List.range ops.size).filterMap (fun i => evs[i]?) = evs:=by
   rw [← hlen]
   apply List.ext_getElem?
   intro n
   have aux : ∀ (l : List Ev),(List.range l.length).filterMap (fun i => l[i]?) = l:=by
    intro l
    induction l with
    | nil => rfl
    | cons x r ih => rw [List.length_cons,List.range_succ_eq_map,List.filterMap_cons]; simp only [List.getElem?_cons_zero,List.filterMap_map,Function.comp_def,List.getElem?_cons_succ]; rw [ih]
   rw [aux]
  rw [this]
  exact h1
end
end Go.Proofs.YtgaofjiidedcbacGreat.ab
