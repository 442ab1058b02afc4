import Derived.Test.YtgaofjiidedcbadM17
import Derived.Test.YtgaofjiidedcbadM19
import Derived.Test.YtgaofjiidedcbadProg
set_option maxHeartbeats 2000000
set_option linter.unusedVariables false
set_option linter.unusedSimpArgs false
namespace Go.Proofs.Ytgaofjiidedcbad.ab
open Go Go.RowKit
section
variable {P : Program}
theorem ToldX.of {f : FuncId} {args r : List D} (h : Told P f args r) : ToldX P f args [] r []:=by
 intro w I vs v hv hlt hv0 _ _
 refine (h w I vs hv hlt).mono fun x w' ⟨v',hx,h1,h2⟩ => ⟨v',_,hx,fun b j hi => ⟨.inl hi,h2.cell (p:=⟨b,j,none⟩) (hlt b j hi)⟩,fun b j hi => hi.elim .inl (fun q => .inr ⟨.inl q.1,q.2⟩),h1,(fun x hx => by cases hx),(fun x hx => by cases hx),⟨h2.os,h2.tape,h2.output,h2.size,fun k hk => h2.block k hk.1⟩⟩
theorem cell_out {fn : Func} {s T n b : Nat} {cs rs : List D} {ro : List (Nat × Nat × Pay)} (hres : fn.results = #[.cell s T]) (hn : sizeT P T = some n) (ha : aggT P T = some true) {base : Nat → Prop} {w0 : World} {I0 : Still} {N : Nat} {st' : St} {I' : Still} {ρ : Nat → Option Nat} {a' : Act} {w' : World}
  (h1 : look st'.tm s = some (pD b 0)) (h2 : look st'.bx b = some cs) (hcl : cs.length = n) (hL : cs.all isL = true) (hle : RowLe cs rs) (hro : ∀ x ∈ ro,x.1 < n ∧ lookF st'.fl (b,some x.1) = some x.2) (hr : RelI base w0 I0 N I' ρ st'.F a' w') :
  ∃ v',(results fn a'.tmps).run P w' = .ok v' w' ∧ RRep I' w' [aD rs] v' ∧ Hands I' (fun _ => none) base w' v' (upR ro) ∧ ApartV v' (upR ro):=by
 obtain ⟨up,hp1,hp2⟩:=hr.tm s _ h1
 obtain ⟨g,hlt',hg,rfl⟩:=hp2.invP
 obtain ⟨g',hg',hbs,hbx,hnI⟩:=hr.bx b cs h2
 rw [hg] at hg'; cases hg'
 obtain ⟨us,tyB,hblk,hrowL⟩:=hbx.cells hlt'
 have hrow:=row_of_all hrowL hL
 have hul : us.length = n:=by rw [← hrowL.1,hcl]
 have hload:=run_loadA (P:=P) hn ha hblk hul
 have hld : (loadVar T ⟨g,0,none⟩).run P w' = .ok (.agg us.toArray) w':=by simpa [Instr.loadAt,Instr.sureAddr] using hload
 have hrun : (results fn a'.tmps).run P w' = .ok (.agg us.toArray) w':=by
  have e1 : a'.tmps.getD s undef = .pointer (some ⟨g,0,none⟩):=by simp [Array.getD_eq_getD_getElem?,hp1]
  have e2 : (asAddr (.pointer (some ⟨g,0,none⟩))).run P w' = .ok ⟨g,0,none⟩ w':=rfl
  simp only [results,hres,Array.mapM_eq_mapM_toList,List.mapM_cons,List.mapM_nil]
  simp [e1,e2,hld]
 have hat : ∀ j,At ρ a'.tmps w' b (some j) = us[j]?:=fun j => by
  simp only [At,hg,Option.bind_some]
  rw [cell_of_row w' g j us.toArray tyB (0,0) hblk]; simp
 have hc : ∀ j,cellAt (.agg us.toArray) (some j) = us[j]?:=fun j => by simp [cellAt]
 refine ⟨_,hrun,.inr ⟨rs,us,rfl,rfl,hle.rep hrow⟩,fun x hx => ?_,fun x hx y hy u u' g' k1 k2 k3 k4 => ?_⟩
 ·obtain ⟨x',hx',rfl⟩:=List.mem_map.1 hx
  obtain ⟨u,q1,q2⟩:=hr.fl b (some x'.1) x'.2.1 x'.2.2 (hro x' hx').2
  obtain ⟨n',xs,r1,r2,r3⟩:=q2
  exact ⟨u,by rw [hc,← hat]; exact q1,n',xs,r1,fun g hg => ⟨(r2 g hg).1,(r2 g hg).2.1,fun b q => by cases q⟩,r3⟩
 ·obtain ⟨x',hx',rfl⟩:=List.mem_map.1 hx
  obtain ⟨y',hy',rfl⟩:=List.mem_map.1 hy
  rw [hc,← hat] at k1 k2
  exact (hr.apart b (some x'.1) b (some y'.1) x'.2 y'.2 u u' g' (hro x' hx').2 (hro y' hy').2 k1 k2 k3 k4).2
def cellFin (s n : Nat) (rs : List D) (ro : List (Nat × Nat × Pay)) (st : St) : Prop:=∃ b cs,look st.tm s = some (pD b 0) ∧ look st.bx b = some cs ∧ cs.length = n ∧ cs.all isL = true ∧ RowLe cs rs ∧ ∀ x ∈ ro,x.1 < n ∧ lookF st.fl (b,some x.1) = some x.2
theorem toldX_out (hm : P.follows .mixedOrders = true) {f : FuncId} {fn : Func} {c : Code} {ic : IC} {an : List Ann} {args rs : List D} {s T n : Nat} {ro : List (Nat × Nat × Pay)} (hf : P.funcs[f]? = some fn) (hb : fn.body = some c) (hc : compC P fn.ntmps c an = some (ic,[])) (hres : fn.results = #[.cell s T]) (hn : sizeT P T = some n) (ha : aggT P T = some true) (hl : args.length ≤ fn.ntmps ∧ fn.ntmps ≤ 100000)
  (h : ic (start args) (fin1 (cellFin s n rs ro))) : ToldX P f args [] [aD rs] (upR ro):=by
 intro w I vs v0 hv hlt hv0 _ _
 refine (calls_core (base:=fun b => b < w.heap.size) (w0:=w) (I0:=I) (Post:=fun v' w' => ∃ I',(∀ b j,I b j → I' b j ∧ w'.cell? ⟨b,j,none⟩ = w.cell? ⟨b,j,none⟩) ∧ (∀ b j,I' b j → I b j ∨ ((w.heap.size ≤ b ∨ HandB v0 [] b) ∧ b < w'.heap.size)) ∧ RRep I' w' [aD rs] v' ∧
   Hands I' (fun _ => none) (fun b => b < w.heap.size ∧ ¬ HandB v0 [] b) w' v' (upR ro) ∧ ApartV v' (upR ro) ∧ Kept (fun b => b < w.heap.size ∧ ¬ HandB v0 [] b) w w') hm hf hb (fun Q hQ => awp_sound hm c an [] ic hc (start args) _ Q _ w h ⟨I,_,start_rel hv hlt hl (fun _ h => h)⟩ hQ) (fun st' I' ρ a' w' hR hr => ?_)).mono fun x w' ⟨v,hx,I',hq⟩ => ⟨v,I',hx,hq⟩
 obtain ⟨b,cs,h1,h2,h3,h4,h5,h6⟩:=hR
 obtain ⟨v',q1,q2,q3,q4⟩:=cell_out hres hn ha h1 h2 h3 h4 h5 h6 hr
 refine ⟨v',q1,I',fun b j hi => ⟨(hr.mon b j hi).1,(hr.mon b j hi).2⟩,fun b j hi => ?_,q2,fun x hx => ?_,q4,⟨hr.below.os,hr.below.tape,hr.below.output,hr.below.size,fun k hk => hr.below.block k hk.1⟩⟩
 ·rcases hr.sub b j hi with q | q
  ·exact .inl q
  ·exact .inr ⟨.inl (Nat.le_of_not_lt q),hr.lt b j hi⟩
 ·obtain ⟨u,k1,k2⟩:=q3 x hx
  exact ⟨u,k1,own_less k2⟩
where
 own_less {I' : Still} {w w' : World} {v0 : Value} {e : Nat} {z : Pay} {u : Value} (h : Own I' (fun _ => none) (fun b => b < w.heap.size) w' e z u) : Own I' (fun _ => none) (fun b => b < w.heap.size ∧ ¬ HandB v0 [] b) w' e z u:=by
  obtain ⟨n,xs,h1,h2,h3⟩:=h
  exact ⟨n,xs,h1,fun g hg => ⟨fun q => (h2 g hg).1 q.1,(h2 g hg).2⟩,h3⟩
theorem le_name {st : St} {b off k e z : Nat} {es cs : List D} (hlt : b < 100000) (hb : look st.bx b = some cs) (hoff : off < cs.length) (hf : lookF st.fl (b,some off) = some (e,z,some es)) (hne : es ≠ []) (hk : 100000 ≤ k ∧ k < 200000) (hnew : look st.bx k = none) :
  Le st ⟨st.tm,(k,[sD z es]) :: (b,over cs off [oD k es.length]) :: st.bx,offP st.fl [(b,some off)]⟩:=by
 intro base w0 I0 N a w ⟨I,ρ,hr⟩
 obtain ⟨u,hat,hown⟩:=hr.fl b (some off) e (z,some es) hf
 obtain ⟨gb,hgb,_,hbox,hnIb⟩:=hr.bx b cs hb
 obtain ⟨us,tyB,hblk,hrowL⟩:=hbox.cells hlt
 have huo : us[off]? = some u:=by
  simp only [At,hgb,Option.bind_some] at hat
  rw [cell_of_row w gb off us.toArray tyB (0,0) hblk] at hat
  simpa using hat
 obtain ⟨n,xs,hrow,hsp,hh⟩:=hown
 obtain ⟨hn,hel⟩:=hh es rfl
 simp only at hrow hel hsp
 subst hn
 obtain ⟨g,cap,cur,hu,_,hg,hnc,hcm,hcs,htk⟩ : ∃ g cap cur,u = .slice (some ⟨g,0,none⟩) es.length cap ∧ 0 ≤ g ∧ w.heap[g]? = some (.cells cur e (0,0)) ∧ es.length ≤ cap ∧ cap ≤ maxLen ∧ cur.size = cap * z ∧ cur.toList.take (es.length * z) = xs:=by
  rcases hrow.2 with ⟨_,q⟩ | q
  ·exact absurd (List.eq_nil_of_length_eq_zero q) hne
  ·exact q
 have hob : u.ownBlock = some g:=by rw [hu]; rfl
 obtain ⟨hgb1,hgI,hgρ⟩:=hsp g hob
 have helems : ElemsAt I w z es cur.toList:=by
  refine ⟨hel.1,by rw [show cur.toList.length = cap * z by rw [Array.length_toList]; exact hcs]; exact Nat.mul_le_mul_right _ hnc,fun i j e' l he hl' => ?_⟩
  obtain ⟨y,q1,q2⟩:=hel.2.2 i j e' l he hl'
  refine ⟨y,?_,q2⟩
  rw [← htk,List.getElem?_take] at q1
  split at q1
  ·exact q1
  ·cases q1
 have hρk : ρ k = none:=hr.nob k hnew
 have hbk : b ≠ k:=by omega
 have hup : ∀ c g',ρ c = some g' → (if c = k then some g else ρ c) = some g':=fun c g' h => by
  rw [if_neg (fun e => by rw [e,hρk] at h; cases h)]; exact h
 have hat' : ∀ s o x,st.F.fl s o = some x → At (fun c => if c = k then some g else ρ c) a.tmps w s o = At ρ a.tmps w s o:=by
  intro s o x hx
  cases o with
  | none => rfl
  | some off' =>
   have:=hr.flc s off' x hx
   simp only [At]
   rw [if_neg (by omega)]
 have hfl : ∀ s o x,lookF (offP st.fl [(b,some off)]) (s,o) = some x → ¬ (s = b ∧ o = some off) ∧ st.F.fl s o = some x:=by
  intro s o x hx
  rw [lookF_off] at hx
  split at hx
  ·cases hx
  ·rename_i hm
   simp only [List.mem_singleton,Prod.mk.injEq] at hm
   exact ⟨hm,hx⟩
 refine ⟨I,fun c => if c = k then some g else ρ c,hr.defers,hr.size,fun s v hv => ?_,hr.cap,fun c o' x hx => hr.flc c o' x (hfl _ _ _ hx).2,fun c ds hc => ?_,fun c c' g' h1 h2 => ?_,fun c hc => ?_,fun s o e' z' hx => ?_,fun s o s' o' x x' y y' g' h1 h2 h3 h4 h5 h6 => ?_,hr.lt,hr.sub,hr.below,hr.room,hr.mon⟩
 ·obtain ⟨y,q1,q2⟩:=hr.tm s v hv
  exact ⟨y,q1,q2.keep (fun _ _ h => h) (fun c g' _ h => hup c g' h) (fun _ _ _ => rfl)⟩
 ·have hc' : look ((k,[sD z es]) :: (b,over cs off [oD k es.length]) :: st.bx) c = some ds:=hc
  simp only [look] at hc'
  split at hc'
  ·rename_i eck; cases hc'; subst eck
   exact ⟨g,by simp,hgb1,.inr (.inl ⟨hk,z,es,cur.toList,e,rfl,by rw [Array.toArray_toList]; exact hg,helems⟩),fun j => hgI j (fun q => by cases q)⟩
  ·split at hc'
   ·rename_i ebc; cases hc'; subst ebc
    refine ⟨gb,hup _ _ hgb,(hr.bx b cs hb).choose_spec.2.1 |> (fun q => by
     obtain ⟨g1,p1,p2,_⟩:=hr.bx b cs hb
     rw [hgb] at p1; cases p1; exact p2),.inl ⟨hlt,us,tyB,hblk,by rw [over_len (by simp; omega)]; exact hrowL.1,fun j c' y hj hy => ?_⟩,hnIb⟩
    by_cases hjo : j = off
    ·subst hjo
     have:=over_in (cs:=cs) (ds:=[oD k es.length]) (off:=j) (j:=0) (by simp; omega) (by simp)
     rw [Nat.add_zero] at this
     rw [this] at hj
     simp at hj; subst hj
     rw [huo] at hy; cases hy
     exact .inr ⟨k,es.length,rfl,g,cap,hk,by simp,hu,hnc,hcm⟩
    ·rw [over_out (by simp; omega) (by simp; omega)] at hj
     exact (hrowL.2 j c' y hj hy).keep (fun _ _ h => h) (fun c g' _ h => hup c g' h) (fun _ _ _ => rfl)
   ·obtain ⟨g',q1,q2,q3,q4⟩:=hr.bx c ds hc'
    exact ⟨g',hup _ _ q1,q2,q3.keep (fun _ _ h => h) (fun c g' _ h => hup c g' h) (fun _ _ _ => rfl) rfl,q4⟩
 ·by_cases e1 : c = k
  ·by_cases e2 : c' = k
   ·rw [e1,e2]
   ·rw [if_pos e1] at h1; cases h1
    rw [if_neg e2] at h2
    exact absurd h2 (hgρ c')
  ·rw [if_neg e1] at h1
   by_cases e2 : c' = k
   ·rw [if_pos e2] at h2; cases h2
    exact absurd h1 (hgρ c)
   ·rw [if_neg e2] at h2
    exact hr.inj c c' g' h1 h2
 ·have hc' : look ((k,[sD z es]) :: (b,over cs off [oD k es.length]) :: st.bx) c = none:=hc
  simp only [look] at hc'
  split at hc'
  ·cases hc'
  ·rename_i n1
   split at hc'
   ·cases hc'
   ·rw [if_neg (fun e => n1 e.symm)]; exact hr.nob c hc'
 ·obtain ⟨n1,q⟩:=hfl _ _ _ hx
  obtain ⟨y,q1,n',ys,q2,q3,q4⟩:=hr.fl s o e' z' q
  refine ⟨y,by rw [hat' s o _ q]; exact q1,n',ys,q2,fun g' hg' => ⟨(q3 g' hg').1,(q3 g' hg').2.1,fun c => ?_⟩,q4⟩
  show (if c = k then some g else ρ c) ≠ some g'
  split
  ·intro e'; cases e'
   exact n1 (hr.apart s o b (some off) _ _ y u g q hf q1 hat hg' hob)
  ·exact (q3 g' hg').2.2 c
 ·obtain ⟨_,q⟩:=hfl _ _ _ h1
  obtain ⟨_,q'⟩:=hfl _ _ _ h2
  rw [hat' s o _ q] at h3
  rw [hat' s' o' _ q'] at h4
  exact hr.apart s o s' o' x x' y y' g' q q' h3 h4 h5 h6
theorem le_frzH {st : St} {b off e z : Nat} {es cs : List D} (hlt : b < 100000) (hb : look st.bx b = some cs) (hoff : off < cs.length) (hf : lookF st.fl (b,some off) = some (e,z,some es)) :
  Le st ⟨st.tm,(b,over cs off [sD z es]) :: st.bx,offP st.fl [(b,some off)]⟩:=by
 intro base w0 I0 N a w ⟨I,ρ,hr⟩
 obtain ⟨u,hat,hown⟩:=hr.fl b (some off) e (z,some es) hf
 obtain ⟨gb,hgb,hbb,hbox,hnIb⟩:=hr.bx b cs hb
 obtain ⟨us,tyB,hblk,hrowL⟩:=hbox.cells hlt
 have huo : us[off]? = some u:=by
  simp only [At,hgb,Option.bind_some] at hat
  rw [cell_of_row w gb off us.toArray tyB (0,0) hblk] at hat
  simpa using hat
 let I' : Still:=fun k j => I k j ∨ (u.ownBlock = some k ∧ k < w.heap.size)
 have hI : ∀ k j,I k j → I' k j:=fun _ _ => .inl
 have hrep : CRep I' w (sD z es) u:=own_rep hown hI (fun k j hk => .inr ⟨hk,(own_lt hown k hk).2⟩)
 have hfl : ∀ s o x,lookF (offP st.fl [(b,some off)]) (s,o) = some x → ¬ (s = b ∧ o = some off) ∧ st.F.fl s o = some x:=by
  intro s o x hx
  rw [lookF_off] at hx
  split at hx
  ·cases hx
  ·rename_i hm
   simp only [List.mem_singleton,Prod.mk.injEq] at hm
   exact ⟨hm,hx⟩
 have hρu : ∀ c g,ρ c = some g → u.ownBlock ≠ some g:=fun c g hc hu => by
  obtain ⟨n,xs,_,k2,_⟩:=hown
  exact (k2 g hu).2.2 c hc
 refine ⟨I',ρ,hr.defers,hr.size,fun s v hv => ?_,hr.cap,fun c o' x hx => hr.flc c o' x (hfl _ _ _ hx).2,fun c ds hc => ?_,hr.inj,fun c hc => ?_,fun s o e' z' hx => ?_,fun s o s' o' x x' y y' g' h1 h2 h3 h4 h5 h6 => ?_,fun k j hi => hi.elim (hr.lt k j) (fun q => q.2),fun k j hi => hi.elim (hr.sub k j) (fun q => .inr (own_lt hown k q.1).1),hr.below,hr.room,fun k j hi => ⟨hI k j (hr.mon k j hi).1,(hr.mon k j hi).2⟩⟩
 ·obtain ⟨y,q1,q2⟩:=hr.tm s v hv
  exact ⟨y,q1,q2.keep hI (fun _ _ _ h => h) (fun _ _ _ => rfl)⟩
 ·have hc' : look ((b,over cs off [sD z es]) :: st.bx) c = some ds:=hc
  simp only [look] at hc'
  split at hc'
  ·rename_i ebc; cases hc'; subst ebc
   refine ⟨gb,hgb,hbb,.inl ⟨hlt,us,tyB,hblk,by rw [over_len (by simp; omega)]; exact hrowL.1,fun j c' y hj hy => ?_⟩,fun j hj => hj.elim (hnIb j) (fun q => hρu _ _ hgb q.1)⟩
   by_cases hjo : j = off
   ·subst hjo
    have:=over_in (cs:=cs) (ds:=[sD z es]) (off:=j) (j:=0) (by simp; omega) (by simp)
    rw [Nat.add_zero] at this
    rw [this] at hj
    simp at hj; subst hj
    rw [huo] at hy; cases hy
    exact .inl hrep
   ·rw [over_out (by simp; omega) (by simp; omega)] at hj
    exact (hrowL.2 j c' y hj hy).keep hI (fun _ _ _ h => h) (fun _ _ _ => rfl)
  ·obtain ⟨g',q1,q2,q3,q4⟩:=hr.bx c ds hc'
   exact ⟨g',q1,q2,q3.keep hI (fun _ _ _ h => h) (fun _ _ _ => rfl) rfl,fun j hj => hj.elim (q4 j) (fun q => hρu _ _ q1 q.1)⟩
 ·have hc' : look ((b,over cs off [sD z es]) :: st.bx) c = none:=hc
  simp only [look] at hc'
  split at hc'
  ·cases hc'
  ·exact hr.nob c hc'
 ·obtain ⟨n1,q⟩:=hfl _ _ _ hx
  obtain ⟨y,q1,q2⟩:=hr.fl s o e' z' q
  refine ⟨y,q1,own_keep q2 (fun _ _ => rfl) (fun g' j hg' hi => hi.elim id (fun k => absurd (hr.apart s o b (some off) _ _ y u g' q hf q1 hat hg' k.1) n1)) (fun _ _ _ h => h) hI (fun _ _ _ => rfl)⟩
 ·exact hr.apart s o s' o' x x' y y' g' (hfl _ _ _ h1).2 (hfl _ _ _ h2).2 h3 h4 h5 h6
theorem toldX_boxed (hm : P.follows .mixedOrders = true) {f : FuncId} {fn : Func} {id : Nat} {ops : Array Oper} {rest : Code} {o0 : Oper} {l : List Oper} {ic0 ic : IC} {an : List Ann} {rw lv lb : List Nat} {cuts : List (Nat × List Nat × List Nat)} {cs ex r : List D} {ri : List (Nat × Nat × Pay)} {ro : List Rt} {T d : Nat} {R : St → Prop} (hf : P.funcs[f]? = some fn) (hb : fn.body = some (.seq (.region id ops false) rest)) (hops : ops.toList = o0 :: l) (ho0 : o0.op = .box T (.tmp 0)) (hd0 : o0.dst = some d) (hg0 : o0.guard = none) (hdn : ex.length < d ∧ d < fn.ntmps)
  (hc0 : compRs P fn.ntmps rw ops l cuts lv lb = some ic0) (hc : compC P fn.ntmps rest an = some (ic,[])) (hl : fn.ntmps ≤ 100000) (hnd : (ri.map (·.1)).Nodup)
  (h : ∃ st1,Le ⟨(d,pD d 0) :: startT (aD cs :: ex) 0,[(d,cs)],flOf d ri⟩ st1 ∧ cSeq ic0 ic st1 (fin1 R))
  (post : ∀ (base : Nat → Prop) (w0 : World) (I0 : Still) (st' : St) (I' : Still) (ρ : Nat → Option Nat) (a' : Act) (w' : World),R st' → RelI base w0 I0 fn.ntmps I' ρ st'.F a' w' → ∃ v',(results fn a'.tmps).run P w' = .ok v' w' ∧ RRep I' w' r v' ∧ Hands I' (fun _ => none) base w' v' ro ∧ ApartV v' ro) :
  ToldX P f (aD cs :: ex) (upR ri) r ro:=by
 intro w I vs v0 hv hlt hv0 hha hap
 obtain ⟨v1,vs,rfl⟩ : ∃ v1 vr,vs = v1 :: vr:=by
  match vs,hv.1 with
  | v1 :: vr,_ => exact ⟨v1,vr,rfl⟩
  | [],q => simp at q
 simp only [List.getElem?_cons_zero,Option.some.injEq] at hv0
 subst hv0
 obtain ⟨us,rfl,hrow⟩:=CVRep.agg (hv.2 0 _ _ rfl rfl)
 have hca : ∀ j,cellAt (.agg us.toArray) (some j) = us[j]?:=fun j => by simp [cellAt]
 have hvl : vs.length = ex.length:=by have:=hv.1; simpa using this.symm
 have hs:=start_rel (N:=fn.ntmps) (args:=aD cs :: ex) (base:=fun b => b < w.heap.size ∧ ¬ HandB (.agg us.toArray) (upR ri) b) hv hlt ⟨by simp; omega,hl⟩ (fun _ h => h.1)
 refine (calls_core (base:=fun b => b < w.heap.size ∧ ¬ HandB (.agg us.toArray) (upR ri) b) (w0:=w) (I0:=I) (Post:=fun v' w' => ∃ I',(∀ b j,I b j → I' b j ∧ w'.cell? ⟨b,j,none⟩ = w.cell? ⟨b,j,none⟩) ∧ (∀ b j,I' b j → I b j ∨ ((w.heap.size ≤ b ∨ HandB (.agg us.toArray) (upR ri) b) ∧ b < w'.heap.size)) ∧ RRep I' w' r v' ∧
   Hands I' (fun _ => none) (fun b => b < w.heap.size ∧ ¬ HandB (.agg us.toArray) (upR ri) b) w' v' ro ∧ ApartV v' ro ∧ Kept (fun b => b < w.heap.size ∧ ¬ HandB (.agg us.toArray) (upR ri) b) w w') (R:=R) hm hf hb
  (fun Q hQ => ?_) (fun st' I' ρ a' w' hR hr => ?_)).mono fun x w' ⟨v,hx,I',hq⟩ => ⟨v,I',hx,hq⟩
 ·obtain ⟨st1,hle,h⟩:=h
  refine wp_seq (wp_region_list ?_)
  rw [hops]
  refine wpList_step fun K1 hK1 => ?_
  rw [if_pos (wanted_none hg0 _)]
  unfold Oper.wp
  have he0 : Act.eval { tmps:=(Value.agg us.toArray :: vs).toArray ++ Array.replicate (fn.ntmps - (Value.agg us.toArray :: vs).toArray.size) undef,defers:=[] } (.tmp 0) = .agg us.toArray:=by
   simp only [Act.eval,Array.getD_eq_getD_getElem?]
   rw [Array.getElem?_append_left (by simp)]
   rfl
  rw [show (execOp (Act.eval { tmps:=(Value.agg us.toArray :: vs).toArray ++ Array.replicate (fn.ntmps - (Value.agg us.toArray :: vs).toArray.size) undef,defers:=[] }) o0).run P w = .ok (.value (.pointer (some ⟨w.heap.size,0,none⟩))) (w.alloc (.cells us.toArray T)) by
   simp only [execOp,ho0,he0]
   simp [Instr.box,newVar,newRow,newObj,Sem.run,Value.cells]]
  show K1 (Act.put _ o0.dst _) _
  rw [hd0]
  refine hK1 _ _ ?_
  have hlt' : d < 100000:=by omega
  have hr1:=hs.newB hlt' (b:=d) (by simp [start,St.F,look]) (fun off => by simp [start,St.F,lookF]) T hrow.L
  have hr2:=hr1.put hdn.2 (v:=some (pD d 0)) (u:=.pointer (some ⟨w.heap.size,0,none⟩)) (fun x hx => by cases hx; exact AVRep.p hlt' (by simp))
  have hbel : Below w.heap.size w (w.alloc (.cells us.toArray T)):=(Below.refl _ _).alloc (Nat.le_refl _) _
  generalize hA : Act.put { tmps:=(Value.agg us.toArray :: vs).toArray ++ Array.replicate (fn.ntmps - (Value.agg us.toArray :: vs).toArray.size) undef,defers:=[] } (some d) (.pointer (some ⟨w.heap.size,0,none⟩)) = a1 at *
  have hat : ∀ j,At (fun c => if c = d then some w.heap.size else none) a1.tmps (w.alloc (.cells us.toArray T)) d (some j) = us[j]?:=fun j => by
   simp only [At,if_pos,Option.bind_some]
   rw [cell_of_row _ w.heap.size j us.toArray T (0,0) (heap_alloc_new _ _)]
   simp
  have hr3:=hr2.giveL hlt' hnd (fun x hx => by
   obtain ⟨u,q1,q2⟩:=hha (some x.1,x.2) (List.mem_map_of_mem hx)
   rw [hca] at q1
   obtain ⟨n,xs,k1,k2,k3⟩:=q2
   refine ⟨u,by rw [hat]; exact q1,⟨n,xs,k1.alloc _,fun g hg => ⟨fun q => q.2 ⟨_,List.mem_map_of_mem hx,u,by rw [hca]; exact q1,hg⟩,(k2 g hg).2.1,fun b q => ?_⟩,fun es he => ⟨(k3 es he).1,(k3 es he).2.keep (fun _ _ h => h) (fun b j hi => hbel.cell (p:=⟨b,j,none⟩) (hlt b j hi))⟩⟩,fun t p y v g hy => by simp [FS.setT,FS.setB,start,St.F,lookF] at hy⟩
   simp only at q
   split at q
   ·cases q; have:=(k1.lt _ hg).2; omega
   ·cases q) (fun x hx y hy u u' g k1 k2 k3 k4 => by
   rw [hat,← hca] at k1 k2
   have:=hap _ (List.mem_map_of_mem hx) _ (List.mem_map_of_mem hy) u u' g k1 k2 k3 k4
   simpa using this)
  have hst : Rel (fun b => b < w.heap.size ∧ ¬ HandB (.agg us.toArray) (upR ri) b) w I fn.ntmps (St.F ⟨(d,pD d 0) :: startT (aD cs :: ex) 0,[(d,cs)],flOf d ri⟩) a1 (w.alloc (.cells us.toArray T)):=by
   refine ⟨I,_,hr3.less (fun s x hx => ?_) ?_ (fun s p x hx => ?_)⟩
   ·rw [(giveFS_tm ri).1]
    have hx' : look ((d,pD d 0) :: startT (aD cs :: ex) 0) s = some x:=hx
    simp only [look] at hx'
    simp only [FS.setT]
    by_cases q : d = s
    ·subst q; simpa using hx'
    ·rw [if_neg q] at hx'
     rw [if_neg (fun e => q e.symm)]
     exact hx'
   ·rw [(giveFS_tm ri).2]
    funext b
    show look [(d,cs)] b = if b = d then some cs else look [] b
    simp only [look]
    by_cases q : d = b
    ·subst q; simp
    ·rw [if_neg q,if_neg (fun e => q e.symm)]
   ·refine giveFS_look (l:=[]) (fun s p x hx => by simp [lookF] at hx) ?_
    rw [List.append_nil]; exact hx
  refine run_cuts (R:=thn (fun st' => ic st' (fin1 R)) (fin1 R)) (fun st' a' w' hR hr' => ?_) cuts l lv lb ic0 st1 _ _ hc0 h (hle _ _ _ _ _ _ hst)
  exact awp_sound hm rest an [] ic hc st' _ Q a' w' hR hr' hQ
 ·obtain ⟨v',q1,q2,q3,q4⟩:=post _ _ _ _ _ _ _ _ hR hr
  refine ⟨v',q1,I',fun b j hi => ⟨(hr.mon b j hi).1,(hr.mon b j hi).2⟩,fun b j hi => ?_,q2,q3,q4,hr.below⟩
  rcases hr.sub b j hi with q | q
  ·exact .inl q
  ·refine .inr ⟨?_,hr.lt b j hi⟩
   by_cases hb2 : b < w.heap.size
   ·exact .inr (Classical.byContradiction fun q' => q ⟨hb2,q'⟩)
   ·exact .inl (Nat.le_of_not_lt hb2)
end
theorem own_repN {base : Nat → Prop} {I : Still} {ρ : Nat → Option Nat} {w : World} {e z : Nat} {es : List D} {u : Value} (h : Own I ρ base w e (z,some es) u) {I1 : Still} (hI : ∀ b j,I b j → I1 b j) (hu : ∀ g j,u.ownBlock = some g → j < es.length * z → I1 g j) : CRep I1 w (sD z es) u:=by
 obtain ⟨n,xs,hrow,_,hh⟩:=h
 obtain ⟨hn,hel⟩:=hh es rfl
 simp only at hrow hel
 subst hn
 rcases hrow.2 with ⟨q1,q2⟩ | ⟨g,cap,cur,q1,_,hg,hnc,hcm,hcs,htk⟩
 ·have : es = []:=List.eq_nil_of_length_eq_zero q2
  subst this; rw [q1]; exact nil_rep z
 ·rw [q1]
  refine CRep.s ⟨fun i j => (xs[i * z + j]?).getD undef,hnc,(fun e => by cases e),hcm,hel.1,fun hne => ⟨g,0,rfl,fun i j hi hj => ?_⟩,fun i j x l hx hl => ?_⟩
  ·have hlt : i * z + j < xs.length:=by rw [hrow.1]; exact cell_in hi hj
   refine ⟨?_,?_⟩
   ·show _ = some ((xs[i * z + j]?).getD undef)
    rw [show 0 + i * z + j = i * z + j by omega,cell_of_row w g _ cur e (0,0) hg,List.getElem?_eq_getElem hlt]
    have h3 : xs[i * z + j]? = cur[i * z + j]?:=by
     rw [← htk,List.getElem?_take,if_pos (cell_in hi hj)]; simp
    rw [← h3,List.getElem?_eq_getElem hlt]; rfl
   ·rw [show 0 + i * z + j = i * z + j by omega]
    exact hu g _ (by rw [q1]; rfl) (cell_in hi hj)
  ·obtain ⟨y,r1,r2⟩:=hel.2.2 i j x l hx hl
   show CRep _ _ l ((xs[i * z + j]?).getD undef)
   rw [r1]
   exact r2.keep hI (fun _ _ _ => rfl)
theorem le_openH {st : St} {b off e z : Nat} {es cs : List D} (hlt : b < 100000) (hb : look st.bx b = some cs) (hoff : off < cs.length) (hf : lookF st.fl (b,some off) = some (e,z,some es)) :
  Le st ⟨st.tm,(b,over cs off [sD z es]) :: st.bx,((b,some off),(e,z,none)) :: offP st.fl [(b,some off)]⟩:=by
 intro base w0 I0 N a w ⟨I,ρ,hr⟩
 obtain ⟨u,hat,hown⟩:=hr.fl b (some off) e (z,some es) hf
 obtain ⟨gb,hgb,hbb,hbox,hnIb⟩:=hr.bx b cs hb
 obtain ⟨us,tyB,hblk,hrowL⟩:=hbox.cells hlt
 have huo : us[off]? = some u:=by
  simp only [At,hgb,Option.bind_some] at hat
  rw [cell_of_row w gb off us.toArray tyB (0,0) hblk] at hat
  simpa using hat
 let I' : Still:=fun k j => I k j ∨ (u.ownBlock = some k ∧ k < w.heap.size ∧ j < es.length * z)
 have hI : ∀ k j,I k j → I' k j:=fun _ _ => .inl
 have hrep : CRep I' w (sD z es) u:=own_repN hown hI (fun k j hk hj => .inr ⟨hk,(own_lt hown k hk).2,hj⟩)
 have hfl : ∀ s o x,lookF (((b,some off),(e,z,none)) :: offP st.fl [(b,some off)]) (s,o) = some x → ((s = b ∧ o = some off) ∧ x = (e,z,none)) ∨ (¬ (s = b ∧ o = some off) ∧ st.F.fl s o = some x):=by
  intro s o x hx
  simp only [lookF] at hx
  split at hx
  ·rename_i hm; cases hx; cases hm; exact .inl ⟨⟨rfl,rfl⟩,rfl⟩
  ·rw [lookF_off] at hx
   split at hx
   ·cases hx
   ·rename_i hm
    simp only [List.mem_singleton,Prod.mk.injEq] at hm
    exact .inr ⟨hm,hx⟩
 have hfl' : ∀ s o x,lookF (((b,some off),(e,z,none)) :: offP st.fl [(b,some off)]) (s,o) = some x → ∃ y,st.F.fl s o = some y:=fun s o x hx => by
  rcases hfl s o x hx with ⟨⟨rfl,rfl⟩,_⟩ | ⟨_,q⟩
  ·exact ⟨_,hf⟩
  ·exact ⟨_,q⟩
 have hρu : ∀ c g,ρ c = some g → u.ownBlock ≠ some g:=fun c g hc hu => by
  obtain ⟨n,xs,_,k2,_⟩:=hown
  exact (k2 g hu).2.2 c hc
 refine ⟨I',ρ,hr.defers,hr.size,fun s v hv => ?_,hr.cap,fun c o' x hx => by obtain ⟨y,q⟩:=hfl' _ _ _ hx; exact hr.flc c o' y q,fun c ds hc => ?_,hr.inj,fun c hc => ?_,fun s o e' z' hx => ?_,fun s o s' o' x x' y y' g' h1 h2 h3 h4 h5 h6 => ?_,fun k j hi => hi.elim (hr.lt k j) (fun q => q.2.1),fun k j hi => hi.elim (hr.sub k j) (fun q => .inr (own_lt hown k q.1).1),hr.below,hr.room,fun k j hi => ⟨hI k j (hr.mon k j hi).1,(hr.mon k j hi).2⟩⟩
 ·obtain ⟨y,q1,q2⟩:=hr.tm s v hv
  exact ⟨y,q1,q2.keep hI (fun _ _ _ h => h) (fun _ _ _ => rfl)⟩
 ·have hc' : look ((b,over cs off [sD z es]) :: st.bx) c = some ds:=hc
  simp only [look] at hc'
  split at hc'
  ·rename_i ebc; cases hc'; subst ebc
   refine ⟨gb,hgb,hbb,.inl ⟨hlt,us,tyB,hblk,by rw [over_len (by simp; omega)]; exact hrowL.1,fun j c' y hj hy => ?_⟩,fun j hj => hj.elim (hnIb j) (fun q => hρu _ _ hgb q.1)⟩
   by_cases hjo : j = off
   ·subst hjo
    have:=over_in (cs:=cs) (ds:=[sD z es]) (off:=j) (j:=0) (by simp; omega) (by simp)
    rw [Nat.add_zero] at this
    rw [this] at hj
    simp at hj; subst hj
    rw [huo] at hy; cases hy
    exact .inl hrep
   ·rw [over_out (by simp; omega) (by simp; omega)] at hj
    exact (hrowL.2 j c' y hj hy).keep hI (fun _ _ _ h => h) (fun _ _ _ => rfl)
  ·obtain ⟨g',q1,q2,q3,q4⟩:=hr.bx c ds hc'
   exact ⟨g',q1,q2,q3.keep hI (fun _ _ _ h => h) (fun _ _ _ => rfl) rfl,fun j hj => hj.elim (q4 j) (fun q => hρu _ _ q1 q.1)⟩
 ·have hc' : look ((b,over cs off [sD z es]) :: st.bx) c = none:=hc
  simp only [look] at hc'
  split at hc'
  ·cases hc'
  ·exact hr.nob c hc'
 ·rcases hfl _ _ _ hx with ⟨⟨rfl,rfl⟩,q⟩ | ⟨n1,q⟩
  ·cases q
   obtain ⟨n,xs,k1,k2,k3⟩:=hown
   obtain ⟨k4,_⟩:=k3 es rfl
   refine ⟨u,hat,n,xs,k1,fun g hg => ⟨(k2 g hg).1,fun j hj hi => ?_,(k2 g hg).2.2⟩,fun es he => by cases he⟩
   rcases hi with hi | hi
   ·exact (k2 g hg).2.1 j (fun q => by cases q) hi
   ·have:=hj rfl; simp only at this; rw [k4] at this; omega
  ·obtain ⟨y,q1,q2⟩:=hr.fl s o e' z' q
   refine ⟨y,q1,own_keep q2 (fun _ _ => rfl) (fun g' j hg' hi => hi.elim id (fun k => absurd (hr.apart s o b (some off) _ _ y u g' q hf q1 hat hg' k.1) n1)) (fun _ _ _ h => h) hI (fun _ _ _ => rfl)⟩
 ·obtain ⟨y1,q1⟩:=hfl' _ _ _ h1
  obtain ⟨y2,q2⟩:=hfl' _ _ _ h2
  exact hr.apart s o s' o' y1 y2 y y' g' q1 q2 h3 h4 h5 h6
set_option maxRecDepth 100000
def Q15r0 : IC:=cReg Try.prog [xX 1 0,⟨some 2,none,iAlo 2 [zS,zI]⟩] [1,2] [1,2]
def Q15r1_0 : IC:=cOwn Try.prog 1 5 6 20 2
def Q15r1_1 : IC:=cReg Try.prog [] [1,2] [1,2]
def Q15r1 : IC:=(cSeq Q15r1_0 Q15r1_1)
def Q15r2_0 : IC:=cLe
def Q15r2_1 : IC:=cReg Try.prog [xF 7 0 1,xL 8 1 7,xN 9 8,⟨some 10,none,iMov 10 (.const (.int .i64 0)) false⟩] [1,2,8,9,10] [1,2,100001]
def Q15r2 : IC:=(cSeq Q15r2_0 Q15r2_1)
def Q15r3 : IC:=cReg Try.prog [xB 11 .lss 10 9] [1,2,8,9,10,11] [1,2,100001]
def Q15c3 : IC:=cCond (.tmp 11) cSkip (cExit 0)
def Q15r4 : IC:=cReg Try.prog [xM 12 10,xI 13 17 8 10,xA 14 17 13,⟨some 4,none,iAlo 4 [zS,zI,zI,zI,zI,zS,zI,zI,zS,zI,zI,zI,zS,zS,zF,zS,zS]⟩,xT 3 12,xS 17 4 14] [1,2,3,4,8,9,10] [1,2,4,100001]
def Q15r5 : IC:=cRegD Try.prog [xF 15 0 1,xL 16 1 15,xM 17 3,xA 18 17 4,⟨some 19,none,iCall 19 27 [(.tmp 18),(.const (.bool false))]⟩,⟨some 20,none,iCall 20 27 [(.tmp 19),(.const (.bool true))]⟩,xI 21 17 16 17,xS 17 21 20] [[],[0],[],[],[3],[4,3],[1,2,0,3,4,5],[6,5,0,1,2,3,4]] [1,2,8,9,10] [1,2,100001]
def Q15b4 : IC:=cBlock 1 (cSeq Q15r4 Q15r5)
def Q15r6 : IC:=cReg Try.prog [xC 22 .add 10 1,xM 10 22] [1,2,8,9,10] [1,2,100001]
def Q15l2a : IC:=(cSeq Q15r3 (cSeq Q15c3 (cSeq Q15b4 Q15r6)))
def Q15l2 : IC:=cLoop Q15l2a
def Q15b1 : IC:=cBlock 0 Q15l2
def Q15r7_0 : IC:=cLe
def Q15r7_1 : IC:=cReg Try.prog [xA 24 2 1,⟨some 25,none,iBld 25 [zI,zI,zI,zI,zF,zI,zS] [(0,1)] [(.const (.int .i64 1))]⟩,xV2 26 19 24 25,xM 23 26,xE 27 23 0,xE 28 23 1,xS 2 1 27] [1,2] [1,2]
def Q15r7 : IC:=(cSeq Q15r7_0 Q15r7_1)
def Q15r8 : IC:=cReg Try.prog [xA 29 2 1,xS 2 2 29] [2] [2]
def fair_Round : IC:=(cSeq Q15r0 (cSeq Q15r1 (cSeq (cSeq Q15r2 Q15b1) (cSeq Q15r7 (cSeq Q15r8 cRet)))))
theorem told_fair_Round {args r : List D} (hl : args.length = 1) (h : fair_Round (start args) (fin [(2,some (2,true))] r)) : Told Try.prog 17 args r :=
 told_of follows Try.func17 rfl (an:=[([],[1,2],[1,2],[]),([(1003,[],[])],[1,2],[1,2],[]),([(12000,[],[])],[1,2,8,9,10],[1,2,100001],[]),([],[1,2,8,9,10,11],[1,2,100001],[]),([],[1,2,3,4,8,9,10],[1,2,4,100001],[]),([],[1,2,8,9,10],[1,2,100001],[]),([],[1,2,8,9,10],[1,2,100001],[]),([(12000,[],[])],[1,2],[1,2],[]),([],[2],[2],[])]) (by kernel_rfl) (by kernel_rfl) (by rw [hl]; decide +kernel) h
set_option maxRecDepth 100000
def Q70r0 : IC:=cReg Try.prog [⟨some 2,none,iAlo 2 [zS,zI]⟩,⟨some 3,none,iMov 3 (.const (.int .i64 0)) true⟩] [1,2] [1,2]
def Q70r1_0 : IC:=cLe
def Q70r1_1 : IC:=cReg Try.prog [xF 7 1 1,xL 8 1 7,xF 9 0 1,xL 10 1 9,xN 11 10,xV2 12 39 8 11,xM 6 12,xE 13 6 0,xE 14 6 1,xT 4 13,xT 5 14] [1,2,4,5] [1,2,100001]
def Q70r1 : IC:=(cSeq Q70r1_0 Q70r1_1)
def Q70r2 : IC:=cReg Try.prog [xM 15 5,xC 16 .neq 15 0] [1,2,4,5,16] [1,2,100001]
def Q70r3 : IC:=cReg Try.prog [xA 17 2 1,xM 18 5,xS 2 2 17,xT 3 18] [2,3] [2]
def Q70c1a : IC:=(cSeq Q70r3 cRet)
def Q70c1 : IC:=cCond (.tmp 16) Q70c1a cSkip
def Q70r4 : IC:=cRegD Try.prog [xF 19 0 1,xL 20 1 19,xM 21 4,xF 22 0 1,xL 23 1 22,xM 24 4,xI 25 17 23 24,xA 26 17 25,xV1 27 40 26,xI 28 17 20 21,xS 17 28 27] [[],[0],[],[],[3],[],[4,5,3],[6,4,5,3],[7,6,4,5,3],[1,2,0,3,4,5,6,7,8],[9,8,0,1,2,3,4,5,6,7]] [1,2] [1,2]
def Q70r5 : IC:=cReg Try.prog [xF 29 1 1,xL 30 1 29,xC 31 .add 30 1,xF 32 1 1,xS 1 32 31] [1,2] [1,2]
def Q70r6 : IC:=cReg Try.prog [xA 33 2 1,xS 2 2 33,⟨some 3,none,iMov 3 (.const (.int .i64 0)) true⟩] [2,3] [2]
def world_tick : IC:=cSeq Q70r0 (cSeq Q70r1 (cSeq (cSeq Q70r2 Q70c1) (cSeq Q70r4 (cSeq Q70r5 (cSeq Q70r6 cRet)))))
theorem toldI_world_tick {cs r : List D} {off e : Nat} {z : Pay} (h : world_tick ⟨[(1,pD 1 0),(0,aD cs)],[(1,cs)],[((1,some off),(e,z))]⟩ (fin [(2,some (2,true)),(3,none)] r)) : ToldI Try.prog 28 [aD cs] 0 (some off) e z r :=
 toldI_cell follows Try.func28 rfl rfl rfl rfl rfl (by decide +kernel) (rw:=[]) (cuts:=[]) (lv:=[1,2]) (lb:=[1,2]) (an:=[([(12000,[],[])],[1,2,4,5],[1,2,100001],[]),([],[1,2,4,5,16],[1,2,100001],[]),([],[2,3],[2],[]),([],[1,2],[1,2],[]),([],[1,2],[1,2],[]),([],[2,3],[2],[])]) (by kernel_rfl) (by kernel_rfl) (by kernel_rfl) (by decide +kernel) (by rw [fin_eq]; exact h)
def Q69r0 : IC:=cReg Try.prog [xX 2 0,xX 3 1,⟨some 4,none,iAlo 4 [zS,zI,zI,zI,zI,zS,zI,zI,zS,zI,zI,zI,zS,zS,zF,zS,zS]⟩,⟨some 5,none,iMov 5 (.const (.int .i64 0)) true⟩] [2,3,4] [2,3,4]
def Q69r1 : IC:=cReg Try.prog [⟨some 6,none,iMov 6 (.const (.int .i64 0)) true⟩] [2,3,4,6] [2,3,4]
def Q69r2 : IC:=cReg Try.prog [xF 7 0 3,xL 8 1 7] [2,3,4,6,8] [2,3,4]
def Q69r3 : IC:=cReg Try.prog [xC 10 .eql 8 2,xT 9 10] [2,3,4,6,8,9] [2,3,4]
def Q69r4 : IC:=cReg Try.prog [xF 12 0 2,xA 13 7 12,xF 14 5 3,xA 15 2 14,xV2 16 41 13 15,xM 11 16,xE 17 11 0,xE 18 11 1,xF 19 0 2,xS 7 19 17,xT 6 18] [2,4,6] [2,4]
def Q69r5 : IC:=cReg Try.prog [xC 21 .eql 8 3,xT 20 21] [2,3,4,6,8,20] [2,3,4]
def Q69r6 : IC:=cReg Try.prog [xA 23 17 2,xF 24 2 3,xL 25 1 24,xF 26 4 3,xL 27 1 26,⟨some 28,none,iCall 28 38 [(.tmp 23),(.tmp 25),(.tmp 27)]⟩,xM 22 28,xE 29 22 0,xE 30 22 1,xS 17 2 29,xT 6 30] [2,4,6] [2,4]
def Q69r7 : IC:=cReg Try.prog [xC 32 .eql 8 4,xT 31 32] [2,3,4,6,8,31] [2,3,4]
def Q69r8 : IC:=cReg Try.prog [xA 34 17 2,xF 35 2 3,xL 36 1 35,xF 37 4 3,xL 38 1 37,⟨some 39,none,iCall 39 42 [(.tmp 34),(.tmp 36),(.tmp 38)]⟩,xM 33 39,xE 40 33 0,xE 41 33 1,xS 17 2 40,xT 6 41] [2,4,6] [2,4]
def Q69r9 : IC:=cReg Try.prog [xC 43 .eql 8 5,xT 42 43] [2,3,4,6,8,42] [2,3,4]
def Q69r10 : IC:=cReg Try.prog [xA 45 17 2,xF 46 2 3,xL 47 1 46,xF 48 4 3,xL 49 1 48,⟨some 50,none,iCall 50 43 [(.tmp 45),(.tmp 47),(.tmp 49)]⟩,xM 44 50,xE 51 44 0,xE 52 44 1,xS 17 2 51,xT 6 52] [2,4,6] [2,4]
def Q69r11 : IC:=cReg Try.prog [xC 54 .eql 8 6,xT 53 54] [2,3,4,6,53] [2,3,4]
def Q69r12 : IC:=cReg Try.prog [xA 56 17 2,xF 57 2 3,xL 58 1 57,xF 59 3 3,xL 60 1 59,xF 61 4 3,xL 62 1 61,⟨some 63,none,iCall 63 44 [(.tmp 56),(.tmp 58),(.tmp 60),(.tmp 62)]⟩,xM 55 63,xE 64 55 0,xE 65 55 1,xS 17 2 64,xT 6 65] [2,4,6] [2,4]
def Q69c6 : IC:=cCond (.tmp 53) Q69r12 cSkip
def Q69c5b : IC:=(cSeq Q69r11 Q69c6)
def Q69c5 : IC:=cCond (.tmp 42) Q69r10 Q69c5b
def Q69c4b : IC:=(cSeq Q69r9 Q69c5)
def Q69c4 : IC:=cCond (.tmp 31) Q69r8 Q69c4b
def Q69c3b : IC:=(cSeq Q69r7 Q69c4)
def Q69c3 : IC:=cCond (.tmp 20) Q69r6 Q69c3b
def Q69c2b : IC:=(cSeq Q69r5 Q69c3)
def Q69c2 : IC:=cCond (.tmp 9) Q69r4 Q69c2b
def Q69b1 : IC:=cBlock 0 (cSeq Q69r3 Q69c2)
def Q69r13 : IC:=cReg Try.prog [xA 66 17 2,xM 67 6,xS 17 4 66,xT 5 67] [4,5] [4]
def world_step : IC:=(cSeq Q69r0 (cSeq Q69r1 (cSeq (cSeq Q69r2 Q69b1) (cSeq Q69r13 cRet))))
theorem told_world_step {args r : List D} (hl : args.length = 2) (h : world_step (start args) (fin [(4,some (17,true)),(5,none)] r)) : Told Try.prog 29 args r :=
 told_of follows Try.func29 rfl (an:=[([],[2,3,4],[2,3,4],[]),([],[2,3,4,6],[2,3,4],[]),([],[2,3,4,6,8],[2,3,4],[]),([],[2,3,4,6,8,9],[2,3,4],[]),([],[2,4,6],[2,4],[]),([],[2,3,4,6,8,20],[2,3,4],[]),([],[2,4,6],[2,4],[]),([],[2,3,4,6,8,31],[2,3,4],[]),([],[2,4,6],[2,4],[]),([],[2,3,4,6,8,42],[2,3,4],[]),([],[2,4,6],[2,4],[]),([],[2,3,4,6,53],[2,3,4],[]),([],[2,4,6],[2,4],[]),([],[4,5],[4],[])]) (by kernel_rfl) (by kernel_rfl) (by rw [hl]; decide +kernel) h
def Q65r0 : IC:=cReg Try.prog [xX 2 0,xX 3 1,⟨some 4,none,iAlo 4 [zS,zI]⟩,⟨some 5,none,iMov 5 (.const (.int .i64 0)) true⟩] [2,3,4] [2,3,4]
def Q65r1_0 : IC:=cOwn Try.prog 2 7 8 20 2
def Q65r1_1 : IC:=cReg Try.prog [] [2,3,4] [2,3,4]
def Q65r1 : IC:=(cSeq Q65r1_0 Q65r1_1)
def Q65r2 : IC:=cReg Try.prog [xF 10 0 3,xL 11 1 10,xC 12 .eql 11 1,xT 9 12] [2,3,4,9] [2,3,4]
def Q65r3_0 : IC:=cInn Try.prog 2 13 14 28 2
def Q65r3_1 : IC:=cReg Try.prog [xE 15 14 0,xE 16 14 1,xS 2 4 15,xT 5 16] [4,5] [4]
def Q65r3 : IC:=(cSeq Q65r3_0 Q65r3_1)
def Q65r4 : IC:=cReg Try.prog [xF 18 0 3,xL 19 1 18,xC 20 .lss 19 1,xM 21 20,xG 21 false (xF 22 0 3),xG 21 false (xL 23 1 22),xG 21 false (xC 24 .gtr 23 6),xP 25 21 24,xT 17 25] [2,3,4,17] [2,3,4]
def Q65r5_0 : IC:=cLe
def Q65r5_1 : IC:=cReg Try.prog [xA 26 2 2,xS 2 4 26,⟨some 5,none,iMov 5 (.const (.int .i64 1)) true⟩] [4,5] [4]
def Q65r5 : IC:=(cSeq Q65r5_0 Q65r5_1)
def Q65r6_0 : IC:=cLe
def Q65r6_1 : IC:=cReg Try.prog [xF 28 1 3,xL 29 1 28,xC 30 .lss 29 0,xM 31 30,xG 31 false (xF 32 1 3),xG 31 false (xL 33 1 32),xG 31 false (xF 34 0 2),xG 31 false (xL 35 1 34),xG 31 false (xN 36 35),xG 31 false (xB 37 .geq 33 36),xP 38 31 37,xT 27 38] [2,3,4,27] [2,3,4,100002]
def Q65r6 : IC:=(cSeq Q65r6_0 Q65r6_1)
def Q65r7_0 : IC:=cLe
def Q65r7_1 : IC:=cReg Try.prog [xA 39 2 2,xS 2 4 39,⟨some 5,none,iMov 5 (.const (.int .i64 6)) true⟩] [4,5] [4]
def Q65r7 : IC:=(cSeq Q65r7_0 Q65r7_1)
def Q65c4a : IC:=(cSeq Q65r7 cRet)
def Q65c4 : IC:=cCond (.tmp 27) Q65c4a cSkip
def Q65c3a : IC:=(cSeq Q65r5 cRet)
def Q65c3b : IC:=(cSeq Q65r6 Q65c4)
def Q65c3 : IC:=cCond (.tmp 17) Q65c3a Q65c3b
def Q65c2a : IC:=(cSeq Q65r3 cRet)
def Q65c2b : IC:=(cSeq Q65r4 Q65c3)
def Q65c2 : IC:=cCond (.tmp 9) Q65c2a Q65c2b
def Q65b1 : IC:=cBlock 0 (cSeq Q65r2 Q65c2)
def Q65r8 : IC:=cReg Try.prog [⟨some 6,none,iMov 6 (.const (.int .i64 0)) true⟩] [2,3,4] [2,3,4,100002]
def Q65r9 : IC:=cRegD Try.prog [xF 41 0 2,xL 42 1 41,xF 43 1 3,xL 44 1 43,xF 45 0 2,xL 46 1 45,xF 47 1 3,xL 48 1 47,xI 49 17 46 48,xA 50 17 49,xA 51 7 3,xV2 52 29 50 51,xM 40 52,xE 53 40 0,xE 54 40 1,xI 55 17 42 44,xS 17 55 53,xT 6 54] [[],[0],[],[2],[],[4],[],[6],[5,7,4,6],[8,5,7,4,6],[],[9,10,8,5,7,4,6],[11,9,10,8,5,7,4,6],[12,11,9,10,8,5,7,4,6],[12,11,9,10,8,5,7,4,6],[1,3,0,2,4,5,6,7,8,9,10,11,12,13],[15,13,11,0,1,2,3,4,5,6,7,8,9,10,12],[14,16,0,1,2,3,4,5,6,7,8,9,10,11,12,13,15]] [2,4,6] [2,4]
def Q65r10 : IC:=cReg Try.prog [xA 56 2 2,xM 57 6,xS 2 4 56,xT 5 57] [4,5] [4]
def world_Do : IC:=(cSeq Q65r0 (cSeq Q65r1 (cSeq Q65b1 (cSeq Q65r8 (cSeq Q65r9 (cSeq Q65r10 cRet))))))
theorem told_world_Do {args r : List D} (hl : args.length = 2) (h : world_Do (start args) (fin [(4,some (2,true)),(5,none)] r)) : Told Try.prog 19 args r :=
 told_of follows Try.func19 rfl (an:=[([],[2,3,4],[2,3,4],[]),([(1003,[],[])],[2,3,4],[2,3,4],[]),([],[2,3,4,9],[2,3,4],[]),([(3002,[],[])],[4,5],[4],[]),([],[2,3,4,17],[2,3,4],[]),([(12000,[],[])],[4,5],[4],[]),([(12000,[],[])],[2,3,4,27],[2,3,4,100002],[]),([(12000,[],[])],[4,5],[4],[]),([],[2,3,4],[2,3,4,100002],[]),([],[2,4,6],[2,4],[]),([],[4,5],[4],[])]) (by kernel_rfl) (by kernel_rfl) (by rw [hl]; decide +kernel) h
end Go.Proofs.Ytgaofjiidedcbad.ab
