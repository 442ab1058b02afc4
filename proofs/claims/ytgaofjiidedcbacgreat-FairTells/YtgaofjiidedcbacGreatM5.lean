import Derived.Test.YtgaofjiidedcbacGreatAbsMem
set_option linter.unusedVariables false
set_option linter.unusedSimpArgs false
namespace Go.Proofs.YtgaofjiidedcbacGreat.ab
open Go Go.RowKit
structure St where
 tm : List (Nat × D)
 bx : List (Nat × List D)
 fl : List ((Nat × Option Nat) × (Nat × Pay))
def look {β : Type} : List (Nat × β) → Nat → Option β
 | [],_ => none
 | (k,v) :: r,s => if k = s then some v else look r s
def lookF {β : Type} : List ((Nat × Option Nat) × β) → Nat × Option Nat → Option β
 | [],_ => none
 | (k,v) :: r,s => if k = s then some v else lookF r s
def St.F (st : St) : FS:=⟨look st.tm,look st.bx,fun s o => lookF st.fl (s,o)⟩
def offT {β : Type} : List (Nat × β) → Nat → List (Nat × β)
 | [],_ => []
 | (k,v) :: r,s => if k = s then offT r s else (k,v) :: offT r s
def offP {β : Type} : List ((Nat × Option Nat) × β) → List (Nat × Option Nat) → List ((Nat × Option Nat) × β)
 | [],_ => []
 | (k,v) :: r,s => if k ∈ s then offP r s else (k,v) :: offP r s
def St.app (st : St) (ev : Ev) : St where
 tm:=match ev.ws with | some (d,some v) => (d,v) :: st.tm | some (d,none) => offT st.tm d | none => st.tm
 bx:=match ev.wb with | some x => x :: st.bx | none => st.bx
 fl:=match ev.sf with | some x => x :: offP st.fl ev.cf | none => offP st.fl ev.cf
theorem look_off {β : Type} (l : List (Nat × β)) (d s : Nat) : look (offT l d) s = if s = d then none else look l s:=by
 induction l with
 | nil => simp [offT,look]
 | cons x r ih =>
  obtain ⟨k,v⟩:=x
  simp only [offT]
  by_cases h : k = d
  ·rw [if_pos h,ih]
   by_cases h' : s = d
   ·simp [h']
   ·simp only [look]; rw [if_neg h',if_neg (fun e : k = s => h' (e.symm.trans h)),if_neg h']
  ·rw [if_neg h]
   simp only [look,ih]
   by_cases h' : k = s
   ·have : ¬ s = d:=fun e => h (h'.trans e)
    simp [h',this]
   ·simp [h']
theorem lookF_off {β : Type} (l : List ((Nat × Option Nat) × β)) (d : List (Nat × Option Nat)) (s : Nat × Option Nat) : lookF (offP l d) s = if s ∈ d then none else lookF l s:=by
 induction l with
 | nil => simp [offP,lookF]
 | cons x r ih =>
  obtain ⟨k,v⟩:=x
  simp only [offP]
  by_cases h : k ∈ d
  ·rw [if_pos h,ih]
   by_cases h' : s ∈ d
   ·simp [h']
   ·have : ¬ k = s:=fun e => h' (e ▸ h)
    simp [h',lookF,this]
  ·rw [if_neg h]
   simp only [lookF,ih]
   by_cases h' : k = s
   ·have : ¬ s ∈ d:=h' ▸ h
    simp [h',this]
   ·simp [h']
theorem app_F (st : St) (ev : Ev) : (st.app ev).F = ev.app st.F:=by
 unfold St.F St.app Ev.app
 congr 1
 ·funext s
  rcases ev.ws with _ | ⟨d,_ | v⟩
  ·rfl
  ·exact look_off _ _ _
  ·simp only [look]
   by_cases h : d = s
   ·simp [h]
   ·rw [if_neg h,if_neg (fun e => h e.symm)]
 ·funext b
  rcases ev.wb with _ | ⟨d,cs⟩
  ·rfl
  ·simp only [look]
   by_cases h : d = b
   ·simp [h]
   ·rw [if_neg h,if_neg (fun e => h e.symm)]
 ·funext s o
  rcases ev.sf with _ | ⟨p,x⟩
  ·exact lookF_off _ _ _
  ·simp only [lookF,lookF_off]
   by_cases h : p = (s,o)
   ·simp [h]
   ·rw [if_neg h,if_neg (fun e : (s,o) = p => h e.symm)]
def rd (st : St) : Operand → Option D
 | .tmp t => look st.tm t
 | .const v => if plainV v = true then some (vD v) else none
 | .func f => some (vD (.func (.func f) #[] #[]))
 | _ => none
def rds (x : Operand) (v : D) : List (Nat × D):=match x with
 | .tmp t => [(t,v)]
 | _ => []
def isC : D → Bool
 | .held (.inl _) => true
 | .agg _ => true
 | .slice _ _ => true
 | .nil => true
 | .iface _ _ => true
 | _ => false
theorem cv_of {I : Still} {ρ : Nat → Option Nat} {w : World} {x : D} {u : Value} (hx : isC x = true) (h : AVRep I ρ w x u) : CVRep I w x u:=by
 rcases h with h | ⟨xs,us,h1,h2,h⟩ | (⟨b,off,g,h1,_⟩ | ⟨b,n,h1,_⟩ | ⟨b,g,h1,_⟩ | ⟨b,i,z,off,g,h1,_⟩ | ⟨b,lo,z,m,g,cap,h1,_⟩ | ⟨b,f,g,h1,_⟩) | ⟨cs,off,b,o,h1,h2,h⟩
 ·exact h
 all_goals subst h1; simp [isC] at hx
def rdC (st : St) : List Operand → Option (List D)
 | [] => some []
 | x :: r => match rd st x with
  | some c => if isC c = true then (rdC st r).map (c :: ·) else none
  | none => none
def rdsC : List Operand → List D → List (Nat × D)
 | x :: r,c :: cs => rds x c ++ rdsC r cs
 | _,_ => []
theorem rd_ok {st : St} {x : Operand} {v : D} (h : rd st x = some v) : ∀ y ∈ rds x v,st.F.tm y.1 = some y.2:=by
 intro y hy
 cases x with
 | tmp t => simp [rds] at hy; subst hy; exact h
 | _ => simp [rds] at hy
theorem rd_rep {st : St} {x : Operand} {v : D} (h : rd st x = some v) {I : Still} {ρ : Nat → Option Nat} {a : Act} {w : World} (hr : ∀ y ∈ rds x v,∃ u,a.tmps[y.1]? = some u ∧ AVRep I ρ w y.2 u) : AVRep I ρ w v (a.eval x):=by
 cases x with
 | tmp t =>
  obtain ⟨u,h1,h2⟩:=hr (t,v) (by simp [rds])
  have : a.eval (.tmp t) = u:=by simp [Act.eval,Array.getD_eq_getD_getElem?,h1]
  rw [this]; exact h2
 | const c =>
  simp only [rd] at h
  split at h
  ·rename_i hp; cases h; exact .inl (.inl (CRep.v hp))
  ·cases h
 | global g => simp [rd] at h
 | func f => simp only [rd] at h; cases h; exact .inl (.inl (CRep.v rfl))
theorem rdC_ok {st : St} : ∀ {xs : List Operand} {cs : List D},rdC st xs = some cs → ∀ y ∈ rdsC xs cs,st.F.tm y.1 = some y.2
 | [],_,h,y,hy => by simp [rdC] at h; subst h; simp [rdsC] at hy
 | x :: r,cs,h,y,hy => by
  simp only [rdC] at h
  split at h
  ·rename_i c hc
   split at h
   ·obtain ⟨cs',h1,rfl⟩:=Option.map_eq_some_iff.1 h
    simp only [rdsC,List.mem_append] at hy
    rcases hy with hy | hy
    ·exact rd_ok hc y hy
    ·exact rdC_ok h1 y hy
   ·cases h
  ·cases h
theorem rdC_rep {st : St} {I : Still} {ρ : Nat → Option Nat} {a : Act} {w : World} : ∀ {xs : List Operand} {cs : List D},rdC st xs = some cs → (∀ y ∈ rdsC xs cs,∃ u,a.tmps[y.1]? = some u ∧ AVRep I ρ w y.2 u) → Vals I w cs (xs.map a.eval)
 | [],_,h,_ => by simp [rdC] at h; subst h; exact Vals.nil
 | x :: r,cs,h,hr => by
  simp only [rdC] at h
  split at h
  ·rename_i c hc
   split at h
   ·rename_i hcc
    obtain ⟨cs',h1,rfl⟩:=Option.map_eq_some_iff.1 h
    simp only [rdsC,List.mem_append] at hr
    have h2:=rd_rep hc (fun y hy => hr y (.inl hy))
    exact Vals.cons (cv_of hcc h2) (rdC_rep h1 (fun y hy => hr y (.inr hy)))
   ·cases h
  ·cases h
def LfLe (l l' : D) : Prop:=∀ (I : Still) (w : World) (u : Value),CRep I w l u → CRep I w l' u
theorem nil_rep {I : Still} {w : World} (z : Nat) : CRep I w (sD z []) (.slice none 0 0) :=
 CRep.s (es:=[]) ⟨fun _ _ => undef,Nat.le_refl _,fun _ => rfl,Nat.zero_le _,(fun e he => by cases he),fun h => absurd rfl h,(fun i j e l he => by simp at he)⟩
theorem LfLe.rep {I : Still} {w : World} {l l' : D} {u : Value} (h : LfLe l l') (hr : CRep I w l u) : CRep I w l' u:=h I w u hr
theorem LfLe.refl (l : D) : LfLe l l:=fun _ _ _ h => h
theorem LfLe.nil (z : Nat) : LfLe (vD (.slice none 0 0)) (sD z []):=fun _ _ _ h => by rw [h.invV.1]; exact nil_rep z
theorem LfLe.ns (z : Nat) (es : List D) : LfLe (nD z es) (sD z es):=fun _ _ _ h => by
 obtain ⟨a,cap,rfl,q⟩:=h.invN
 exact CRep.s q
theorem LfLe.sn (z : Nat) (e : D) (es : List D) : LfLe (sD z (e :: es)) (nD z (e :: es)):=fun _ _ _ h => by
 obtain ⟨a,cap,rfl,q⟩:=h.invS
 obtain ⟨U,h1,h2,h3,h4,h5,h6⟩:=q
 obtain ⟨b,off,rfl,hh⟩:=h5 (by simp)
 exact CRep.n ⟨U,h1,(fun e => by cases e),h3,h4,h5,h6⟩
def RowLe : List D → List D → Prop
 | [],[] => True
 | l :: r,l' :: r' => LfLe l l' ∧ RowLe r r'
 | _,_ => False
theorem RowLe.rep {I : Still} {w : World} : ∀ {cs cs' : List D} {us : List Value},RowLe cs cs' → Row I w cs us → Row I w cs' us
 | [],[],_,_,h => h
 | [],_ :: _,_,h,_ => by simp [RowLe] at h
 | _ :: _,[],_,h,_ => by simp [RowLe] at h
 | l :: r,l' :: r',us,h,hrow => by
  cases us with
  | nil => have:=hrow.1; simp at this
  | cons u us =>
   have h1 : Row I w r us:=⟨by have:=hrow.1; simpa using this,fun j c v hc hv => hrow.2 (j + 1) c v (by simpa using hc) (by simpa using hv)⟩
   have h2:=RowLe.rep h.2 h1
   have h3:=h.1.rep (hrow.2 0 l u (by simp) (by simp))
   exact (Row.single h3).app h2
theorem RowLe.at : ∀ {cs cs' : List D},RowLe cs cs' → cs.length = cs'.length ∧ ∀ (j : Nat) l',cs'[j]? = some l' → ∃ l,cs[j]? = some l ∧ LfLe l l'
 | [],[],_ => ⟨rfl,fun j l' h => by simp at h⟩
 | [],_ :: _,h => by simp [RowLe] at h
 | _ :: _,[],h => by simp [RowLe] at h
 | l :: r,l' :: r',h => by
  have ih:=RowLe.at h.2
  refine ⟨by simp [ih.1],fun j x hx => ?_⟩
  cases j with
  | zero => simp at hx; subst hx; exact ⟨l,by simp,h.1⟩
  | succ n => obtain ⟨y,h1,h2⟩:=ih.2 n x (by simpa using hx); exact ⟨y,by simpa using h1,h2⟩
theorem RowLe.refl : ∀ cs,RowLe cs cs
 | [] => trivial
 | l :: r => ⟨LfLe.refl l,RowLe.refl r⟩
def EsLe : List D → List D → Prop
 | [],[] => True
 | e :: r,e' :: r' => RowLe (cellsD e) (cellsD e') ∧ EsLe r r'
 | _,_ => False
theorem EsLe.refl : ∀ es,EsLe es es
 | [] => trivial
 | e :: r => ⟨RowLe.refl _,EsLe.refl r⟩
theorem EsLe.app : ∀ {a a' b b' : List D},EsLe a a' → EsLe b b' → EsLe (a ++ b) (a' ++ b')
 | [],[],_,_,_,h => h
 | [],_ :: _,_,_,h,_ => by simp [EsLe] at h
 | _ :: _,[],_,_,h,_ => by simp [EsLe] at h
 | _ :: _,_ :: _,_,_,h,h' => ⟨h.1,EsLe.app h.2 h'⟩
theorem EsLe.at : ∀ {es es' : List D},EsLe es es' → es.length = es'.length ∧ ∀ (i : Nat) e',es'[i]? = some e' → ∃ e,es[i]? = some e ∧ RowLe (cellsD e) (cellsD e')
 | [],[],_ => ⟨rfl,fun j l' h => by simp at h⟩
 | [],_ :: _,h => by simp [EsLe] at h
 | _ :: _,[],h => by simp [EsLe] at h
 | l :: r,l' :: r',h => by
  have ih:=EsLe.at h.2
  refine ⟨by simp [ih.1],fun j x hx => ?_⟩
  cases j with
  | zero => simp at hx; subst hx; exact ⟨l,by simp,h.1⟩
  | succ n => obtain ⟨y,h1,h2⟩:=ih.2 n x (by simpa using hx); exact ⟨y,by simpa using h1,h2⟩
theorem LfLe.s {z : Nat} {es es' : List D} (h : EsLe es es') : LfLe (sD z es) (sD z es'):=by
 intro I w u hr
 obtain ⟨a,cap,rfl,U,h1,h2,h3,h4,h5,h6⟩:=hr.invS
 obtain ⟨q1,q2⟩:=h.at
 rw [q1]
 refine CRep.s ⟨U,by rw [← q1]; exact h1,h2,h3,fun e' he' => ?_,fun hne => ?_,fun i j e' l' he' hl' => ?_⟩
 ·obtain ⟨i,hi,rfl⟩:=List.mem_iff_getElem.1 he'
  obtain ⟨e,r1,r2⟩:=q2 i _ (List.getElem?_eq_getElem hi)
  rw [← r2.at.1]
  exact h4 e (List.mem_of_getElem? r1)
 ·obtain ⟨b,off,rfl,hh⟩:=h5 (fun e => hne (List.eq_nil_of_length_eq_zero (by rw [← q1,e]; rfl)))
  exact ⟨b,off,rfl,fun i j hi hj => hh i j (by rw [q1]; exact hi) hj⟩
 ·obtain ⟨e,r1,r2⟩:=q2 i e' he'
  obtain ⟨l,r3,r4⟩:=r2.at.2 j l' hl'
  exact r4 I w _ (h6 i j e l r1 r3)
def CVLe (x y : D) : Prop:=∀ (I : Still) (w : World) (u : Value),CVRep I w x u → CVRep I w y u
theorem CVLe.rep {I : Still} {w : World} {x y : D} {u : Value} (h : CVLe x y) (hr : CVRep I w x u) : CVRep I w y u:=h I w u hr
theorem CVLe.refl (x : D) : CVLe x x:=fun _ _ _ h => h
theorem CVLe.row {cs ds : List D} (h : RowLe cs ds) : CVLe (aD cs) (aD ds):=fun I w u hr => by
 obtain ⟨us,rfl,q⟩:=hr.agg
 exact .inr ⟨ds,us,rfl,rfl,h.rep q⟩
theorem CVLe.leafV {x : Value} {y : D} (h : LfLe (vD x) y) : CVLe (vD x) y:=fun I w u hr => .inl (h I w u (hr.leaf (fun cs e => by cases e)))
theorem CVLe.leafS {z : Nat} {es : List D} {y : D} (h : LfLe (sD z es) y) : CVLe (sD z es) y:=fun I w u hr => .inl (h I w u (hr.leaf (fun cs e => by cases e)))
def ValsLe : List D → List D → Prop
 | [],[] => True
 | l :: r,l' :: r' => CVLe l l' ∧ ValsLe r r'
 | _,_ => False
theorem ValsLe.rep {I : Still} {w : World} : ∀ {cs cs' : List D} {us : List Value},ValsLe cs cs' → Vals I w cs us → Vals I w cs' us
 | [],[],_,_,h => h
 | [],_ :: _,_,h,_ => by simp [ValsLe] at h
 | _ :: _,[],_,h,_ => by simp [ValsLe] at h
 | x :: r,y :: r',us,h,hrow => by
  cases us with
  | nil => have:=hrow.1; simp at this
  | cons u us =>
   have h1 : Vals I w r us:=⟨by have:=hrow.1; simpa using this,fun j c v hc hv => hrow.2 (j + 1) c v (by simpa using hc) (by simpa using hv)⟩
   exact Vals.cons (h.1.rep (hrow.2 0 x u (by simp) (by simp))) (ValsLe.rep h.2 h1)
theorem ValsLe.refl : ∀ cs,ValsLe cs cs
 | [] => trivial
 | l :: r => ⟨CVLe.refl l,ValsLe.refl r⟩
theorem nil_or {I : Still} {w : World} {z : Nat} {u : Value} (h : CVRep I w (sD z []) u) : CVRep I w (vD (.slice none 0 0)) u ∨ CVRep I w (nD z []) u:=by
 obtain ⟨a,cap,rfl,q⟩:=(h.leaf (fun cs e => by cases e)).invS
 cases a with
 | none =>
  obtain ⟨U,h1,h2,_⟩:=q
  have:=h2 rfl
  subst this
  exact .inl (.inl (CRep.v rfl))
 | some a => exact .inr (.inl (CRep.n q))
theorem vals_split {I : Still} {w : World} {z : Nat} : ∀ {pre : List D} {post : List D} {us : List Value},Vals I w (pre ++ sD z [] :: post) us → Vals I w (pre ++ vD (.slice none 0 0) :: post) us ∨ Vals I w (pre ++ nD z [] :: post) us
 | [],post,us,h => by
  cases us with
  | nil => have:=h.1; simp at this
  | cons u us =>
   have h0:=h.2 0 _ u rfl rfl
   have h1 : Vals I w post us:=⟨by have:=h.1; simpa using this,fun j c v hc hv => h.2 (j + 1) c v (by simpa using hc) (by simpa using hv)⟩
   rcases nil_or h0 with q | q
   ·exact .inl (Vals.cons q h1)
   ·exact .inr (Vals.cons q h1)
 | x :: pre,post,us,h => by
  cases us with
  | nil => have:=h.1; simp at this
  | cons u us =>
   have h0:=h.2 0 _ u rfl rfl
   have h1 : Vals I w (pre ++ sD z [] :: post) us:=⟨by have:=h.1; simpa using this,fun j c v hc hv => h.2 (j + 1) c v (by simpa using hc) (by simpa using hv)⟩
   rcases vals_split h1 with q | q
   ·exact .inl (Vals.cons h0 q)
   ·exact .inr (Vals.cons h0 q)
theorem Told.split {P : Program} {f : FuncId} {pre post r : List D} {z : Nat} (h1 : Told P f (pre ++ vD (.slice none 0 0) :: post) r) (h2 : Told P f (pre ++ nD z [] :: post) r) : Told P f (pre ++ sD z [] :: post) r:=fun w I vs hv hlt => by
 rcases vals_split hv with q | q
 ·exact h1 w I vs q hlt
 ·exact h2 w I vs q hlt
def asS (z : Nat) : D → Option (List D)
 | .slice es [.held (.inr (z',0))] => if z' = z then some es else none
 | .slice es [.held (.inr (z',1))] => if z' = z then some es else none
 | .held (.inl (.slice none 0 0)) => some []
 | _ => none
theorem asS_rep {z : Nat} {l : D} {es : List D} (h : asS z l = some es) {I : Still} {w : World} {u : Value} (hr : CRep I w l u) : CRep I w (sD z es) u:=by
 unfold asS at h
 split at h
 ·split at h
  ·rename_i e; cases h; subst e; exact hr
  ·cases h
 ·split at h
  ·rename_i e; cases h; subst e; exact (LfLe.ns _ _).rep hr
  ·cases h
 ·cases h; exact (LfLe.nil z).rep hr
 ·cases h
def inR (k : IntKind) (n : Int) : Bool:=match k with
 | .i64 => Nat.ble n.toNat 9223372036854775807 && Nat.ble (-n).toNat 9223372036854775808
 | .u8 => Nat.ble n.toNat 255 && Nat.ble (-n).toNat 0
 | k => decide (k.wrap n = n)
theorem inR_iff {n : Int} : inR .i64 n = true ↔ -9223372036854775808 ≤ n ∧ n ≤ 9223372036854775807:=by
 simp only [inR,Bool.and_eq_true,Nat.ble_eq]
 omega
theorem inR_of {n : Int} (h : -9223372036854775808 ≤ n ∧ n ≤ 9223372036854775807) : inR .i64 n = true:=inR_iff.2 h
theorem inR_u8 {n : Int} : inR .u8 n = true ↔ 0 ≤ n ∧ n ≤ 255:=by
 simp only [inR,Bool.and_eq_true,Nat.ble_eq]
 omega
theorem inR_wrap {k : IntKind} {n : Int} (h : inR k n = true) : k.wrap n = n:=by
 cases k with
 | i64 =>
  have h:=inR_iff.1 h
  simp only [IntKind.wrap,IntKind.signed,IntKind.bits,Bool.true_and]
  split
  ·rename_i h'; simp only [ge_iff_le,decide_eq_true_eq] at h'; omega
  ·rename_i h'; simp only [ge_iff_le,decide_eq_true_eq] at h'; omega
 | u8 =>
  have h:=inR_u8.1 h
  simp only [IntKind.wrap,IntKind.signed,IntKind.bits,Bool.false_and]
  simp only [Bool.false_eq_true,if_false]
  omega
 | _ => simpa [inR] using h
def lbin (op : BinOp) (x y : Value) : Option Value :=
 match x,y with
 | .int k a,.int k' b =>
  if k = k' then
   match op with
   | .add => if inR k (a + b) = true then some (.int k (a + b)) else none
   | .sub => if inR k (a - b) = true then some (.int k (a - b)) else none
   | .mul => if inR k (a * b) = true then some (.int k (a * b)) else none
   | .quo => if b ≠ 0 ∧ inR k (a.tdiv b) = true then some (.int k (a.tdiv b)) else none
   | .rem => if b ≠ 0 then some (.int k (a.tmod b)) else none
   | .eql => some (.bool (a == b))
   | .neq => some (.bool (a != b))
   | .lss => some (.bool (decide (a < b)))
   | .leq => some (.bool (decide (a ≤ b)))
   | .gtr => some (.bool (decide (a > b)))
   | .geq => some (.bool (decide (a ≥ b)))
   | _ => none
  else none
 | .string a,.string b =>
  match op with
  | .eql => some (.bool (a.toList == b.toList))
  | .neq => some (.bool (!(a.toList == b.toList)))
  | .add => if a.size + b.size ≤ 9223372036854775807 then some (.string (a ++ b)) else none
  | _ => none
 | _,_ => none
theorem lbin_plain {op : BinOp} {x y r : Value} (h : lbin op x y = some r) : plainV r = true:=by
 unfold lbin at h
 split at h
 ·split at h
  ·split at h <;> (try split at h) <;> (first | (cases h; rfl) | cases h)
  ·cases h
 ·split at h <;> (try split at h) <;> (first | (cases h; rfl) | cases h)
 ·cases h
def aggT (P : Program) (t : TypeId) : Option Bool:=match P.underlying t with
 | some (.struct _) | some (.array _ _) => some true
 | some _ => some false
 | none => none
def sizeT (P : Program) (t : TypeId) : Option Nat:=(P.info? t).map (·.size)
def zeroT (P : Program) (t : TypeId) : Option (List D):=do
 let i ← P.info? t
 let z ← i.zero
 if z.cells.all plainV then some (z.cells.toList.map vD) else none
def vEv (d : Nat) (rs : List (Nat × D)) (v : D) : Ev:={ rs:=rs,rb:=[],ws:=some (d,some v),cf:=[(d,none)] }
def bEv (d : Nat) (rs : List (Nat × D)) (rb : List (Nat × List D)) (v : D) : Ev:={ rs:=rs,rb:=rb,ws:=some (d,some v),cf:=[(d,none)] }
def hEv (d : Nat) (rs : List (Nat × D)) (rb : List (Nat × List D)) (s : Nat) (p : Option Nat) (x : Nat × Pay) (v : D) : Ev :=
 { rs:=rs,rb:=rb,rf:=[((s,p),x)],ws:=some (d,some v),cf:=[(s,p),(d,none)],sf:=some ((d,none),x) }
def movEv (st : St) (d : Nat) (x : Operand) (tr : Bool) (v : D) : Ev :=
 match x with
 | .tmp t => if tr = true ∧ t ≠ d then (match lookF st.fl (t,none) with | some f => hEv d [(t,v)] [] t none f v | none => vEv d [(t,v)] v) else vEv d [(t,v)] v
 | _ => vEv d [] v
section
variable {P : Program} {o : Oper} {st : St}
theorem vEv_ok {d : Nat} {rs : List (Nat × D)} {v : D} (h : ∀ y ∈ rs,st.F.tm y.1 = some y.2) : (vEv d rs v).ok st.F :=
 ⟨h,fun x hx => by simp [vEv] at hx,fun x hx => by simp [vEv] at hx,fun x hx => by simp [vEv] at hx⟩
theorem bEv_ok {d : Nat} {rs : List (Nat × D)} {rb : List (Nat × List D)} {v : D} (h : ∀ y ∈ rs,st.F.tm y.1 = some y.2) (hb : ∀ y ∈ rb,st.F.bx y.1 = some y.2) : (bEv d rs rb v).ok st.F :=
 ⟨h,hb,fun x hx => by simp [bEv] at hx,fun x hx => by simp [bEv] at hx⟩
theorem app_rs {rs rs' : List (Nat × D)} {p : Nat × D → Prop} (h : ∀ y ∈ rs,p y) (h' : ∀ y ∈ rs',p y) : ∀ y ∈ rs ++ rs',p y:=fun y hy => by
 rcases List.mem_append.1 hy with hy | hy
 ·exact h y hy
 ·exact h' y hy
theorem ok_mov {x : Operand} {tr : Bool} (ho : o.op = .move x ∨ o.op = .assign x) {d : Nat} (hd : o.dst = some d) {v : D} (h : rd st x = some v) : (movEv st d x tr v).ok st.F ∧ Sound P o (movEv st d x tr v):=by
 have hrun : ∀ (a : Act) (w : World),(execOp a.eval o).run P w = .ok (.value (a.eval x)) w:=by
  intro a w
  rcases ho with ho | ho <;> simp [execOp,ho]
 have hval : ∀ rs : List (Nat × D),rs = rds x v → (vEv d rs v).ok st.F ∧ Sound P o (vEv d rs v):=by
  rintro rs rfl
  exact ⟨vEv_ok (rd_ok h),sound_val hd (rb:=[]) fun I ρ a w hr _ => ⟨_,hrun a w,rd_rep h hr⟩⟩
 cases x with
 | tmp t =>
  simp only [movEv]
  split
  ·rename_i ht
   split
   ·rename_i f hf
    refine ⟨⟨rd_ok (x:=.tmp t) h,fun x hx => by simp [hEv] at hx,fun x hx => by simp [hEv] at hx,fun x hx => ?_⟩,?_⟩
    ·simp [hEv] at hx; subst hx; exact hf
    ·refine sound_hand hd (by simp; exact ht.2) fun I ρ a w _ _ hr _ u hu => ?_
     have h1 : AVRep I ρ w v (a.eval (.tmp t)):=rd_rep (x:=.tmp t) h hr
     have h2 : a.eval (.tmp t) = u:=by simp only [At] at hu; simp [Act.eval,Array.getD_eq_getD_getElem?,hu]
     exact ⟨by rw [hrun,h2],h2 ▸ h1⟩
   ·exact hval _ rfl
  ·exact hval _ rfl
 | const c => exact hval _ rfl
 | global g => simp [rd] at h
 | func f => exact hval _ rfl
def isL : D → Bool
 | .held (.inl _) => true
 | .slice _ _ => true
 | .nil => true
 | .iface _ _ => true
 | _ => false
theorem leaf_of {I : Still} {ρ : Nat → Option Nat} {w : World} {l : D} {u : Value} (hl : isL l = true) (h : AVRep I ρ w l u) : CRep I w l u:=by
 rcases h with h | ⟨xs,us,h1,h2,h⟩ | (⟨b,off,g,h1,_⟩ | ⟨b,n,h1,_⟩ | ⟨b,g,h1,_⟩ | ⟨b,i,z,off,g,h1,_⟩ | ⟨b,lo,z,m,g,cap,h1,_⟩ | ⟨b,f,g,h1,_⟩) | ⟨cs,off,b,o,h1,h2,h⟩
 ·exact h.leaf (fun cs e => by subst e; simp [isL] at hl)
 all_goals subst h1; simp [isL] at hl
theorem plain_of {I : Still} {ρ : Nat → Option Nat} {w : World} {x u : Value} (h : AVRep I ρ w (vD x) u) : u = x:=(leaf_of rfl h).invV.1
theorem agg_of {I : Still} {ρ : Nat → Option Nat} {w : World} {cs : List D} {u : Value} (h : AVRep I ρ w (aD cs) u) : ∃ us,u = .agg us.toArray ∧ Row I w cs us:=(cv_of rfl h).agg
theorem asS_av {z : Nat} {l : D} {es : List D} (h : asS z l = some es) {I : Still} {ρ : Nat → Option Nat} {w : World} {u : Value} (hr : AVRep I ρ w l u) : CRep I w (sD z es) u:=by
 refine asS_rep h (leaf_of ?_ hr)
 unfold asS at h
 split at h
 ·rfl
 ·rfl
 ·rfl
 ·cases h
theorem LRep.av {I : Still} {ρ : Nat → Option Nat} {w : World} {l : D} {u : Value} (h : LRep I ρ w l u) : AVRep I ρ w l u:=by
 rcases h with h | ⟨b,n,h1,h2⟩
 ·exact .inl (.inl h)
 ·exact .inr (.inr (.inl (.inr (.inl ⟨b,n,h1,h2⟩))))
theorem LRep.leaf {I : Still} {ρ : Nat → Option Nat} {w : World} {l : D} {u : Value} (h : LRep I ρ w l u) (hl : isL l = true) : CRep I w l u:=by
 rcases h with h | ⟨b,n,rfl,_⟩
 ·exact h
 ·simp [isL] at hl
def clR : D → Bool
 | .agg cs => cs.all isL
 | _ => true
theorem AVRep.v {I : Still} {ρ : Nat → Option Nat} {w : World} {x : Value} (h : plainV x = true) : AVRep I ρ w (vD x) x:=.inl (.inl (CRep.v h))
theorem ok_pick {c x y : Operand} (ho : o.op = .pick c x y) {d : Nat} (hd : o.dst = some d) {q : Bool} (hc : rd st c = some (vD (.bool q))) {v : D} (h : rd st (if q = true then x else y) = some v) :
  (vEv d (rds c (vD (.bool q)) ++ rds (if q = true then x else y) v) v).ok st.F ∧ Sound P o (vEv d (rds c (vD (.bool q)) ++ rds (if q = true then x else y) v) v):=by
 refine ⟨vEv_ok (app_rs (rd_ok hc) (rd_ok h)),sound_val hd (rb:=[]) fun I ρ a w hr _ => ?_⟩
 have h1:=rd_rep hc (fun y hy => hr y (List.mem_append_left _ hy))
 have h2:=rd_rep h (fun y hy => hr y (List.mem_append_right _ hy))
 refine ⟨_,?_,h2⟩
 have h1:=plain_of h1
 cases q <;> simp [execOp,ho,h1,asBool]
theorem ok_bin {op : BinOp} {t t' : TypeId} {x y : Operand} (ho : o.op = .binOp op t x y t') {d : Nat} (hd : o.dst = some d) {a b r : Value} (hx : rd st x = some (vD a)) (hy : rd st y = some (vD b)) (h : lbin op a b = some r) :
  (vEv d (rds x (vD a) ++ rds y (vD b)) (vD r)).ok st.F ∧ Sound P o (vEv d (rds x (vD a) ++ rds y (vD b)) (vD r)):=by
 refine ⟨vEv_ok (app_rs (rd_ok hx) (rd_ok hy)),sound_val hd (rb:=[]) fun I ρ ac w hr _ => ⟨r,?_,AVRep.v (lbin_plain h)⟩⟩
 have h1:=plain_of (rd_rep hx (fun y hy => hr y (List.mem_append_left _ hy)))
 have h2:=plain_of (rd_rep hy (fun y hy => hr y (List.mem_append_right _ hy)))
 unfold lbin at h
 split at h
 ·rename_i k m k' n
  split at h
  ·rename_i hk; subst hk
   split at h <;> (try split at h) <;> (first | cases h | skip)
   all_goals simp_all [execOp,eqGuard,binOp,Op.intArith,Op.intDiv,Op.intCmp,inR_wrap]
  ·cases h
 ·rename_i p q
  split at h <;> (try split at h) <;> (first | cases h | skip)
  all_goals first | (simp [execOp,ho,h1,h2,eqGuard,binOp,Op.stringOp]; done) | (rename_i hs; simp [execOp,ho,h1,h2,eqGuard,binOp,Op.stringOp,IntKind.max,IntKind.signed,IntKind.bits]; omega)
 ·cases h
theorem ok_binB {eq : Bool} {t t' : TypeId} {x y : Operand} (ho : o.op = .binOp (if eq = true then .eql else .neq) t x y t') (ht : P.underlying t = some .bool) {d : Nat} (hd : o.dst = some d) {a b : Bool} (hx : rd st x = some (vD (.bool a))) (hy : rd st y = some (vD (.bool b))) :
  (vEv d (rds x (vD (.bool a)) ++ rds y (vD (.bool b))) (vD (.bool ((a == b) == eq)))).ok st.F ∧ Sound P o (vEv d (rds x (vD (.bool a)) ++ rds y (vD (.bool b))) (vD (.bool ((a == b) == eq)))):=by
 refine ⟨vEv_ok (app_rs (rd_ok hx) (rd_ok hy)),sound_val hd (rb:=[]) fun I ρ ac w hr _ => ⟨.bool ((a == b) == eq),?_,AVRep.v rfl⟩⟩
 have h1:=plain_of (rd_rep hx (fun y hy => hr y (List.mem_append_left _ hy)))
 have h2:=plain_of (rd_rep hy (fun y hy => hr y (List.mem_append_right _ hy)))
 have h3:=run_equal_bool (P:=P) w t a b ht
 cases eq <;> simp [execOp,ho,h1,h2,eqGuard,binOp,h3]
theorem ok_not {t : TypeId} {x : Operand} (ho : o.op = .unOp .not t x) {d : Nat} (hd : o.dst = some d) {a : Bool} (hx : rd st x = some (vD (.bool a))) :
  (vEv d (rds x (vD (.bool a))) (vD (.bool (!a)))).ok st.F ∧ Sound P o (vEv d (rds x (vD (.bool a))) (vD (.bool (!a)))):=by
 refine ⟨vEv_ok (rd_ok hx),sound_val hd (rb:=[]) fun I ρ ac w hr _ => ⟨.bool (!a),?_,AVRep.v rfl⟩⟩
 have h1:=plain_of (rd_rep hx hr)
 simp [execOp,ho,h1,Op.unary]
theorem ok_cvi {s t : TypeId} {td : TypeDesc} {k k' : IntKind} {x : Operand} (ho : o.op = .convert s t x) (hs : P.underlying s = some td) (ht : P.underlying t = some (.int k)) {d : Nat} (hd : o.dst = some d) {n : Int} (hx : rd st x = some (vD (.int k' n))) :
  (vEv d (rds x (vD (.int k' n))) (vD (.int k (k.wrap n)))).ok st.F ∧ Sound P o (vEv d (rds x (vD (.int k' n))) (vD (.int k (k.wrap n)))):=by
 refine ⟨vEv_ok (rd_ok hx),sound_val hd (rb:=[]) fun I ρ ac w hr _ => ⟨.int k (k.wrap n),?_,AVRep.v rfl⟩⟩
 have h1:=plain_of (rd_rep hx hr)
 simp [execOp,ho,h1,convert,run_underlying hs,run_underlying ht,Conv.intToInt]
def sub (n : Nat) (ag : Bool) (off : Nat) (cs : List D) : Option D :=
 if off + n ≤ cs.length then (if ag = true then some (aD ((cs.drop off).take n)) else if n = 1 then cs[off]? else none) else none
theorem run_isAgg {t : TypeId} {ag : Bool} (h : aggT P t = some ag) (w : World) : (isAgg t).run P w = .ok ag w:=by
 unfold aggT at h
 cases hu : P.underlying t with
 | none => simp [hu] at h
 | some d => rw [hu] at h; cases d <;> simp at h <;> subst h <;> simp [isAgg,run_underlying hu]
theorem run_sizeOf {t : TypeId} {n : Nat} (h : sizeT P t = some n) (w : World) : (sizeOf t).run P w = .ok n w:=by
 unfold sizeT at h
 obtain ⟨i,hi,rfl⟩:=Option.map_eq_some_iff.1 h
 simp [sizeOf,typeInfo,hi]
theorem ok_fld {t : TypeId} {fs : Array Field} {f : Nat} {fd : Field} {n : Nat} {ag : Bool} {x : Operand} (ho : o.op = .field t x f) (ht : P.underlying t = some (.struct fs)) (hf : fs[f]? = some fd) (hn : sizeT P fd.type = some n) (ha : aggT P fd.type = some ag) {d : Nat} (hd : o.dst = some d) {cs : List D} (hx : rd st x = some (aD cs)) {r : D} (h : sub n ag fd.offset cs = some r) :
  (vEv d (rds x (aD cs)) r).ok st.F ∧ Sound P o (vEv d (rds x (aD cs)) r):=by
 refine ⟨vEv_ok (rd_ok hx),sound_val hd (rb:=[]) fun I ρ ac w hr _ => ?_⟩
 obtain ⟨us,h1,hrow⟩:=agg_of (rd_rep hx hr)
 unfold sub at h
 split at h
 ·rename_i hle
  split at h
  ·rename_i hag; subst hag
   cases h
   refine ⟨.agg ((us.drop fd.offset).take n).toArray,?_,.inl (.inr ⟨_,_,rfl,rfl,(hrow.drop _).take n⟩)⟩
   have e : us.toArray.extract fd.offset (fd.offset + n) = ((us.drop fd.offset).take n).toArray:=by
    rw [List.extract_toArray,List.extract_eq_take_drop]; congr 2; omega
   simp [execOp,ho,h1,Instr.field,run_underlying ht,hf,asAgg,part,run_isAgg ha,run_sizeOf hn]
  ·rename_i hag
   split at h
   ·obtain ⟨u,h2,h3⟩:=hrow.at h
    refine ⟨u,?_,.inl (.inl h3)⟩
    have : ag = false:=by simpa using hag
    subst this
    simp [execOp,ho,h1,Instr.field,run_underlying ht,hf,asAgg,part,run_isAgg ha,h2]
   ·cases h
 ·cases h
theorem ok_ext {x : Operand} {k : Nat} (ho : o.op = .extract x k) {d : Nat} (hd : o.dst = some d) {xs : List D} (hx : rd st x = some (tD xs)) {c : D} (h : xs[k]? = some c) :
  (vEv d (rds x (tD xs)) c).ok st.F ∧ Sound P o (vEv d (rds x (tD xs)) c):=by
 refine ⟨vEv_ok (rd_ok hx),sound_val hd (rb:=[]) fun I ρ ac w hr _ => ?_⟩
 obtain ⟨us,hu,hv⟩:=(rd_rep hx hr).invT
 obtain ⟨v,h2,h3⟩:=hv.at h
 exact ⟨v,by simp [execOp,ho,hu,Instr.extract,h2],.inl h3⟩
end
end Go.Proofs.YtgaofjiidedcbacGreat.ab
