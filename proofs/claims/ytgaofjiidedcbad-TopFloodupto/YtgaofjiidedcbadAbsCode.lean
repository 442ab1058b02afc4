import Derived.Test.YtgaofjiidedcbadM15
set_option maxHeartbeats 1000000
set_option linter.unusedVariables false
set_option linter.unusedSimpArgs false
namespace Go.Proofs.Ytgaofjiidedcbad.ab
open Go Go.RowKit
def keepT (tm : List (Nat × D)) (lb : List Nat) : List Nat → List (Nat × D)
 | [] => []
 | s :: r => match look tm s with
  | some v => match refD v with
   | some b => if b ∈ lb then (s,v) :: keepT tm lb r else keepT tm lb r
   | none => (s,v) :: keepT tm lb r
  | none => keepT tm lb r
def keepB (bx : List (Nat × List D)) : List Nat → List (Nat × List D)
 | [] => []
 | b :: r => match look bx b with
  | some cs => (b,cs) :: keepB bx r
  | none => keepB bx r
def inL (lv lb : List Nat) (p : Nat × Option Nat) : Bool:=match p.2 with
 | none => decide (p.1 ∈ lv)
 | some _ => decide (p.1 ∈ lb)
def keepF (lv lb : List Nat) : List ((Nat × Option Nat) × (Nat × Pay)) → List ((Nat × Option Nat) × (Nat × Pay))
 | [] => []
 | (p,x) :: r => if inL lv lb p = true then (p,x) :: keepF lv lb r else keepF lv lb r
def St.keep0 (st : St) (lv lb : List Nat) : St:=⟨keepT st.tm lb lv,keepB st.bx lb,keepF lv lb st.fl⟩
def rowsB : List (Nat × List D) → List Nat
 | [] => []
 | (b,_) :: r => if 100000 ≤ b ∧ b < 200000 then (if b ∈ rowsB r then rowsB r else b :: rowsB r) else rowsB r
def frzV (b z : Nat) (es : List D) (v : D) : Option D:=match v with
 | .ptr (.held (.inr (b',n))) => if b' = b then (if n = es.length then some (sD z es) else none) else some (oD b' n)
 | v => match refD v with
  | some b' => if b' = b then none else some v
  | none => some v
def frzT (b z : Nat) (es : List D) (tm : List (Nat × D)) : List Nat → List (Nat × D)
 | [] => []
 | s :: r => match look tm s with
  | some v => match frzV b z es v with
   | some v' => (s,v') :: frzT b z es tm r
   | none => frzT b z es tm r
  | none => frzT b z es tm r
def frzC (b z : Nat) (es : List D) : List D → Option (List D)
 | [] => some []
 | c :: r => match frzV b z es c,frzC b z es r with
  | some c',some r' => some (c' :: r')
  | _,_ => none
def frzP (b z : Nat) (es : List D) (cs : List D) : Option (List D):=match cs with
 | [.slice es1 [.held (.inr (1,0))],.held (.inr (m,0)),.ptr (.held (.inr (b',n)))] => if b' = b then (if n = es.length then some [sD 1 (es1.set m (sD z es))] else none) else some cs
 | cs => some cs
def frzB (b z : Nat) (es : List D) (bx : List (Nat × List D)) : List Nat → Option (List (Nat × List D))
 | [] => some []
 | c :: r => match frzB b z es bx r with
  | none => none
  | some r' => if c = b then some r' else match look bx c with
   | none => some r'
   | some cs => if c < 100000 then (match frzC b z es cs with | some cs' => some ((c,cs') :: r') | none => none) else (match frzP b z es cs with | some cs' => some ((c,cs') :: r') | none => none)
def St.frz (st : St) (lv lb : List Nat) (b : Nat) : Option St:=match look st.bx b with
 | some [.slice es [.held (.inr (z,0))]] => match frzB b z es st.bx lb with
  | some bx' => some ⟨frzT b z es st.tm lv,bx',st.fl⟩
  | none => none
 | _ => none
def frzAll (lv lb lb' : List Nat) : List Nat → St → Option St
 | [],st => some st
 | b :: r,st => if b ∈ lb then frzAll lv lb lb' r st else match st.frz lv lb' b with
  | some st' => frzAll lv lb lb' r st'
  | none => none
def St.keep (st : St) (lv lb : List Nat) : Option St:=match rowsB st.bx with
 | [] => some (st.keep0 lv lb)
 | rows => frzAll lv lb (lb ++ rows) rows (st.keep0 lv (lb ++ rows))
def Le (st st' : St) : Prop:=∀ (base : Nat → Prop) (w0 : World) (I0 : Still) (N : Nat) (a : Act) (w : World),Rel base w0 I0 N st.F a w → Rel base w0 I0 N st'.F a w
theorem Le.refl (st : St) : Le st st:=fun _ _ _ _ _ _ h => h
theorem Le.trans {a b c : St} (h : Le a b) (h' : Le b c) : Le a c:=fun _ _ _ _ _ _ q => h' _ _ _ _ _ _ (h _ _ _ _ _ _ q)
def thn (K : St → Prop) (Q : AX → St → Prop) : AX → St → Prop:=fun e st => match e with
 | none => K st
 | some x => Q (some x) st
def blk (id : Nat) (Q : AX → St → Prop) : AX → St → Prop:=fun e st => match e with
 | none => Q none st
 | some none => Q (some none) st
 | some (some i) => if i = id then Q none st else Q (some (some i)) st
def Next (J : Nat → St → Prop) (n : Nat) (st' : St) : Prop:=∃ m st'',m < n ∧ Le st' st'' ∧ J m st''
def evalR (ops : List IOp) (lv lb : List Nat) (rs : List (List D)) (st : St) : Option (St × List (Nat × List D × List D)):=match evalOps ops rs st with
 | some (st',q) => match st'.keep lv lb with
  | some st'' => some (st'',q)
  | none => none
 | none => none
def evalRD (ops : List IOp) (anc : List (List Nat)) (lv lb : List Nat) (rs : List (List D)) (st : St) : Option (St × Bool × List (Nat × List D × List D)):=match evalD ops rs st with
 | some (st',fs,q) => match st'.keep lv lb with
  | some st'' => some (st'',pairsOk anc fs,q)
  | none => none
 | none => none
def cSkip : IC:=fun st Q => Q none st
def cReg (P : Program) (ops : List IOp) (lv lb : List Nat) : IC:=fun st Q => ∃ rs st' q,evalR ops lv lb rs st = some (st',q) ∧ Obl P q ∧ Q none st'
def cRegD (P : Program) (ops : List IOp) (anc : List (List Nat)) (lv lb : List Nat) : IC:=fun st Q => ∃ rs st' q,evalRD ops anc lv lb rs st = some (st',true,q) ∧ Obl P q ∧ Q none st'
def cSeq (a b : IC) : IC:=fun st Q => a st (thn (fun st' => b st' Q) Q)
def cCond (c : Operand) (a b : IC) : IC:=fun st Q => ∃ q,rd st c = some (vB q) ∧ if q = true then a st Q else b st Q
def cBlock (id : Nat) (a : IC) : IC:=fun st Q => a st (blk id Q)
def cLoop (a : IC) : IC:=fun st Q => ∃ J : Nat → St → Prop,(∃ n st0,Le st st0 ∧ J n st0) ∧ ∀ n st,J n st → a st (thn (Next J n) Q)
def cExit (id : Nat) : IC:=fun st Q => Q (some (some id)) st
def cRet : IC:=fun st Q => Q (some none) st
abbrev Ann:=List (Nat × List Nat × List Nat) × List Nat × List Nat × List Nat
def compRs (P : Program) (N : Nat) (rw : List Nat) (ops : Array Oper) : List Oper → List (Nat × List Nat × List Nat) → List Nat → List Nat → Option IC
 | l,[],lv,lb => match compL P N rw ops l with
  | some is => some (cReg P is lv lb)
  | none => none
 | l,(n,lv1,lb1) :: cuts,lv,lb => if n < 1000 then (match compL P N rw ops (l.take n),compRs P N rw ops (l.drop n) cuts lv lb with
  | some is,some ic => some (cSeq (cReg P is lv1 lb1) ic)
  | _,_ => none) else (match compY P N (n / 1000) (l.take (n % 1000)),compRs P N rw ops (l.drop (n % 1000)) cuts lv lb with
  | some ic1,some ic => some (cSeq ic1 ic)
  | _,_ => none)
def compC (P : Program) (N : Nat) : Code → List Ann → Option (IC × List Ann)
 | .skip,an => some (cSkip,an)
 | .region _ ops draw,(cuts,lv,lb,rw) :: an => if draw = true then (match compL P N rw ops ops.toList with
  | some is => if lower ops.toList = true then some (cRegD P is (ancs ops.toList []) lv lb,an) else none
  | none => none) else (match compRs P N rw ops ops.toList cuts lv lb with
  | some ic => some (ic,an)
  | none => none)
 | .seq a b,an => match compC P N a an with
  | some (x,an) => match compC P N b an with
   | some (y,an) => some (cSeq x y,an)
   | none => none
  | none => none
 | .cond c a b,an => match compC P N a an with
  | some (x,an) => match compC P N b an with
   | some (y,an) => some (cCond c x y,an)
   | none => none
  | none => none
 | .block id a,an => match compC P N a an with
  | some (x,an) => some (cBlock id x,an)
  | none => none
 | .loop a,an => match compC P N a an with
  | some (x,an) => some (cLoop x,an)
  | none => none
 | .exit id,an => some (cExit id,an)
 | .ret,an => some (cRet,an)
 | _,_ => none
section
variable {base : Nat → Prop} {w0 : World} {I0 : Still} {N : Nat} {I : Still} {ρ : Nat → Option Nat} {st : FS} {a : Act} {w : World}
theorem RelI.keepB (h : RelI base w0 I0 N I ρ st a w) (S : Nat → Bool) (hp : ∀ s v b,st.tm s = some v → refD v = some b → S b = true) (hf : ∀ b off x,st.fl b (some off) = some x → S b = true) (hrow : ∀ b cs,st.bx b = some cs → 100000 ≤ b ∧ b < 200000 → S b = true) :
  RelI base w0 I0 N I (fun c => if S c = true then ρ c else none) { st with bx:=fun c => if S c = true then st.bx c else none } a w:=by
 have hat : ∀ s o x,st.fl s o = some x → At (fun c => if S c = true then ρ c else none) a.tmps w s o = At ρ a.tmps w s o:=by
  intro s o x hx
  cases o with
  | none => rfl
  | some off => simp [At,hf s off x hx]
 have hrow' : ∀ b g,100000 ≤ b ∧ b < 200000 → ρ b = some g → (if S b = true then ρ b else none) = some g:=by
  intro b g hb hg
  cases hbx : st.bx b with
  | none => rw [h.nob b hbx] at hg; cases hg
  | some cs => rw [if_pos (hrow b cs hbx hb)]; exact hg
 refine ⟨h.defers,h.size,fun s v hv => ?_,h.cap,h.flc,fun c cs hc => ?_,fun c c' g h1 h2 => ?_,fun c hc => ?_,fun s o e z hx => ?_,fun s o s' o' x x' y y' g h1 h2 h3 h4 h5 h6 => ?_,h.lt,h.sub,h.below,h.room,h.mon⟩
 ·obtain ⟨u,h1,h2⟩:=h.tm s v hv
  exact ⟨u,h1,h2.keep (fun _ _ h => h) (fun c g e hr => by simp [hp s v c hv e,hr]) (fun _ _ _ => rfl)⟩
 ·simp only at hc
  split at hc
  ·rename_i hs
   obtain ⟨g,h1,h2,h3,h4⟩:=h.bx c cs hc
   exact ⟨g,by simp [hs,h1],h2,h3.keep (fun _ _ h => h) hrow' (fun _ _ _ => rfl) rfl,h4⟩
  ·cases hc
 ·split at h1
  ·split at h2
   ·exact h.inj c c' g h1 h2
   ·cases h2
  ·cases h1
 ·show (if S c = true then ρ c else none) = none
  split
  ·rename_i hs; exact h.nob c (by simpa [hs] using hc)
  ·rfl
 ·obtain ⟨u,h1,n,xs,h2,h3,h4⟩:=h.fl s o e z hx
  refine ⟨u,by rw [hat s o _ hx]; exact h1,n,xs,h2,fun g hg => ⟨(h3 g hg).1,(h3 g hg).2.1,fun c => ?_⟩,h4⟩
  show (if S c = true then ρ c else none) ≠ some g
  split
  ·exact (h3 g hg).2.2 c
  ·exact fun e => by cases e
 ·rw [hat s o _ h1] at h3
  rw [hat s' o' _ h2] at h4
  exact h.apart s o s' o' x x' y y' g h1 h2 h3 h4 h5 h6
theorem RelI.frz (h : RelI base w0 I0 N I ρ st a w) {b z : Nat} {es : List D} (hk : 100000 ≤ b ∧ b < 200000) (hb : st.bx b = some [sD z es]) {st' : FS}
  (ht : ∀ s v,st'.tm s = some v → (st.tm s = some v ∧ refD v ≠ some b) ∨ (∃ n,st.tm s = some (oD b n) ∧ n = es.length ∧ v = sD z es))
  (hbx : ∀ c cs',st'.bx c = some cs' → c ≠ b ∧ ∃ cs,st.bx c = some cs ∧ (100000 ≤ c → frzP b z es cs = some cs') ∧ (c < 100000 → cs'.length = cs.length) ∧ ∀ (j : Nat) x x',cs[j]? = some x → cs'[j]? = some x' → (x' = x ∧ refD x ≠ some b) ∨ (∃ n,x = oD b n ∧ n = es.length ∧ x' = sD z es) ∨ 100000 ≤ c)
  (hno : ∀ c,st'.bx c = none → c = b ∨ st.bx c = none) (hfl : st'.fl = st.fl) : Rel base w0 I0 N st' a w:=by
 obtain ⟨g,hg,hbase,hrow,hnI⟩:=h.bx b _ hb
 obtain ⟨z',es',us,t,h1,hblk,hel⟩:=hrow.row hk
 cases h1
 have hcell : ∀ j,w.cell? ⟨g,j,none⟩ = us[j]?:=fun j => by rw [cell_of_row w g j us.toArray t (0,0) hblk]; simp
 let I' : Still:=fun c j => I c j ∨ (c = g ∧ j < es.length * z)
 have hI : ∀ c j,I c j → I' c j:=fun c j => .inl
 have hrep : ∀ n u,n = es.length → OSl ρ b n u → CRep I' w (sD z es) u:=by
  rintro n u rfl ⟨g',cap,_,q1,rfl,q2,q3⟩
  rw [hg] at q1; cases q1
  refine CRep.s ⟨fun i j => (us[i * z + j]?).getD undef,q2,(fun e => by cases e),q3,hel.1,fun hne => ⟨g,0,rfl,fun i j hi hj => ?_⟩,fun i j x l hx hl => ?_⟩
  ·have hlt : i * z + j < us.length:=by have:=cell_in hi hj; have:=hel.2.1; omega
   refine ⟨?_,.inr ⟨rfl,?_⟩⟩
   ·show _ = some ((us[i * z + j]?).getD undef)
    rw [hcell,show 0 + i * z + j = i * z + j by omega,List.getElem?_eq_getElem hlt]; rfl
   ·rw [show 0 + i * z + j = i * z + j by omega]; exact cell_in hi hj
  ·obtain ⟨u,q1,q2⟩:=hel.2.2 i j x l hx hl
   show CRep _ _ l ((us[i * z + j]?).getD undef)
   rw [q1]
   exact q2.keep hI (fun _ _ _ => rfl)
 have hρ : ∀ c g',c ≠ b → ρ c = some g' → (if c = b then none else ρ c) = some g':=fun c g' hc h => by rw [if_neg hc]; exact h
 have hat : ∀ s o x,st'.fl s o = some x → At (fun c => if c = b then none else ρ c) a.tmps w s o = At ρ a.tmps w s o:=by
  intro s o x hx
  cases o with
  | none => rfl
  | some off =>
   have : s ≠ b:=by have:=h.flc s off x (hfl ▸ hx); omega
   simp [At,this]
 refine ⟨I',fun c => if c = b then none else ρ c,⟨h.defers,h.size,fun s v hv => ?_,h.cap,fun c off x hx => h.flc c off x (hfl ▸ hx),fun c cs' hc => ?_,fun c c' g' h1 h2 => ?_,fun c hc => ?_,fun s o e z' hx => ?_,fun s o s' o' x x' y y' g' h1 h2 h3 h4 h5 h6 => ?_,fun c j hi => ?_,fun c j hi => ?_,h.below,h.room,fun c j hi => ⟨hI c j (h.mon c j hi).1,(h.mon c j hi).2⟩⟩⟩
 ·rcases ht s v hv with ⟨q1,q2⟩ | ⟨n,q1,q2,rfl⟩
  ·obtain ⟨u,r1,r2⟩:=h.tm s v q1
   exact ⟨u,r1,r2.keep hI (fun c g' e hr => hρ c g' (fun q => q2 (by rw [e,q])) hr) (fun _ _ _ => rfl)⟩
  ·obtain ⟨u,r1,r2⟩:=h.tm s _ q1
   exact ⟨u,r1,.inl (.inl (hrep n u q2 r2.invO))⟩
 ·obtain ⟨hcb,cs,q1,q2,q3,q4⟩:=hbx c cs' hc
  obtain ⟨g',r1,r2,r3,r4⟩:=h.bx c cs q1
  refine ⟨g',hρ c g' hcb r1,r2,?_,fun j hj => hj.elim (r4 j) (fun q => hcb (h.inj c b g (q.1 ▸ r1) hg))⟩
  have hρ' : ∀ c g',100000 ≤ c ∧ c < 200000 → c ≠ b → ρ c = some g' → (if c = b then none else ρ c) = some g':=fun c g' _ hc h => hρ c g' hc h
  rcases r3 with ⟨s1,us',t',s2,s3⟩ | ⟨s1,s2⟩ | ⟨s1,s2⟩ | ⟨s1,es1,us1,t1,i,b',n,u,k1,k2,k3,k4,k5,k6⟩
  ·have q3:=q3 s1
   refine .inl ⟨s1,us',t',s2,by rw [q3]; exact s3.1,fun j x' u hx' hu => ?_⟩
   have hj : j < cs.length:=by rw [← q3]; exact (List.getElem?_eq_some_iff.1 hx').1
   rcases q4 j cs[j] x' (List.getElem?_eq_getElem hj) hx' with ⟨e1,e2⟩ | ⟨n,e1,e2,e3⟩ | e1
   ·subst e1
    rcases s3.2 j _ u (List.getElem?_eq_getElem hj) hu with k1 | ⟨b',n,k1,gg,cap,k2,k3,k4⟩
    ·exact .inl (k1.keep hI (fun _ _ _ => rfl))
    ·exact .inr ⟨b',n,k1,gg,cap,k2,hρ b' gg (fun q => e2 (by rw [k1,q]; rfl)) k3,k4⟩
   ·subst e3
    rcases s3.2 j _ u (List.getElem?_eq_getElem hj) hu with k1 | ⟨b',n',k1,k2⟩
    ·rw [e1] at k1; exact absurd k1 notC_ptr
    ·rw [e1] at k1; cases k1
     exact .inl (hrep n u e2 k2)
   ·omega
  ·obtain ⟨z1,es1,us1,t1,k1,k2,k3⟩:=s2
   have q2:=q2 s1.1
   subst k1
   have : cs' = [sD z1 es1]:=by
    have h0 : frzP b z es [sD z1 es1] = some [sD z1 es1]:=by rcases z1 with _ | _ | z1 <;> rfl
    rw [h0] at q2; cases q2; rfl
   subst this
   exact .inr (.inl ⟨s1,z1,es1,us1,t1,rfl,k2,k3.keep hI (fun _ _ _ => rfl)⟩)
  ·have q2:=q2 (by omega)
   obtain ⟨l,es0,clock,k1,k2⟩:=s2
   have : cs' = cs:=by
    rw [k1] at q2
    have h0 : frzP b z es (l.map encE) = some (l.map encE):=by
     match l with
     | [] => rfl
     | [_] => rfl
     | [_,_] => rfl
     | [_,_,_] => rfl
     | _ :: _ :: _ :: _ :: _ => rfl
    rw [h0] at q2; cases q2; exact k1.symm
   subst this
   exact .inr (.inr (.inl ⟨s1,l,es0,clock,k1,k2⟩))
  ·have q5:=q2 s1.1
   clear q2
   subst k1
   simp only [frzP] at q5
   split at q5
   ·rename_i hbb
    subst hbb
    split at q5
    ·rename_i hn
     cases q5
     have hru:=hrep n u hn k6
     have hil : i < es1.length:=(List.getElem?_eq_some_iff.1 k4).1
     refine .inr (.inl ⟨s1,1,_,us1,t1,rfl,k2,fun e he => ?_,by rw [List.length_set]; exact k3.2.1,fun i' j e l he hl => ?_⟩)
     ·rcases List.mem_or_eq_of_mem_set he with he | rfl
      ·exact k3.1 e he
      ·rfl
     ·by_cases hii : i' = i
      ·subst hii
       rw [List.getElem?_set_self hil] at he
       cases he
       have hj : j = 0:=by have:=(List.getElem?_eq_some_iff.1 hl).1; simp [cellsD] at this; omega
       subst hj
       simp [cellsD] at hl
       subst hl
       exact ⟨u,by rw [Nat.mul_one,Nat.add_zero]; exact k5,hru⟩
      ·rw [List.getElem?_set_ne (fun e => hii e.symm)] at he
       obtain ⟨u',v1,v2⟩:=k3.2.2 i' j e l he hl
       exact ⟨u',v1,v2.keep hI (fun _ _ _ => rfl)⟩
    ·cases q5
   ·rename_i hbb
    cases q5
    obtain ⟨gg,cap,v1,v2,v3⟩:=k6
    exact .inr (.inr (.inr ⟨s1,es1,us1,t1,i,b',n,u,rfl,k2,k3.keep hI (fun _ _ _ => rfl),k4,k5,gg,cap,v1,hρ b' gg hbb v2,v3⟩))
 ·split at h1
  ·cases h1
  ·split at h2
   ·cases h2
   ·exact h.inj c c' g' h1 h2
 ·show (if c = b then none else ρ c) = none
  split
  ·rfl
  ·rename_i hne; exact h.nob c ((hno c hc).resolve_left hne)
 ·obtain ⟨u,q1,n,xs,q2,q3,q4⟩:=h.fl s o e z' (hfl ▸ hx)
  refine ⟨u,by rw [hat s o _ hx]; exact q1,n,xs,q2,fun k hk' => ⟨(q3 k hk').1,fun j hj hi => hi.elim ((q3 k hk').2.1 j hj) (fun q => (q3 k hk').2.2 b (q.1 ▸ hg)),fun c => ?_⟩,fun es he => ⟨(q4 es he).1,(q4 es he).2.keep hI (fun _ _ _ => rfl)⟩⟩
  show (if c = b then none else ρ c) ≠ some k
  split
  ·exact fun e => by cases e
  ·exact (q3 k hk').2.2 c
 ·rw [hat s o _ h1] at h3
  rw [hat s' o' _ h2] at h4
  exact h.apart s o s' o' x x' y y' g' (hfl ▸ h1) (hfl ▸ h2) h3 h4 h5 h6
 ·rcases hi with hi | ⟨rfl,_⟩
  ·exact h.lt c j hi
  ·exact (h.boxLt hg).2
 ·rcases hi with hi | ⟨rfl,_⟩
  ·exact h.sub c j hi
  ·exact .inr hbase
theorem look_keepT (tm : List (Nat × D)) (lb : List Nat) : ∀ (lv : List Nat) (s : Nat) (v : D),look (keepT tm lb lv) s = some v → look tm s = some v ∧ ∀ b,refD v = some b → b ∈ lb
 | [],s,v,h => by simp [keepT,look] at h
 | k :: r,s,v,h => by
  simp only [keepT] at h
  split at h
  ·rename_i v' hk
   split at h
   ·rename_i b hb
    split at h
    ·rename_i hm
     simp only [look] at h
     split at h
     ·rename_i e; cases h; subst e; exact ⟨hk,fun b' e => by rw [hb] at e; cases e; exact hm⟩
     ·exact look_keepT tm lb r s v h
    ·exact look_keepT tm lb r s v h
   ·rename_i hb
    simp only [look] at h
    split at h
    ·rename_i e; cases h; subst e; exact ⟨hk,fun b' e => by rw [hb] at e; cases e⟩
    ·exact look_keepT tm lb r s v h
  ·exact look_keepT tm lb r s v h
theorem look_keepB (bx : List (Nat × List D)) : ∀ (lb : List Nat) (b : Nat),look (ab.keepB bx lb) b = if b ∈ lb then look bx b else none
 | [],b => by simp [ab.keepB,look]
 | k :: r,b => by
  simp only [ab.keepB]
  split
  ·rename_i cs hk
   simp only [look]
   by_cases e : k = b
   ·subst e; simp [hk]
   ·rw [if_neg e,look_keepB bx r b]
    simp [Ne.symm e]
  ·rename_i hk
   rw [look_keepB bx r b]
   by_cases e : b = k
   ·subst e; simp [hk]
   ·simp [e]
theorem look_keepF (lv lb : List Nat) : ∀ (fl : List ((Nat × Option Nat) × (Nat × Pay))) (p : Nat × Option Nat) (x : Nat × Pay),lookF (keepF lv lb fl) p = some x → lookF fl p = some x ∧ inL lv lb p = true
 | [],p,x,h => by simp [keepF,lookF] at h
 | (q,y) :: r,p,x,h => by
  simp only [keepF] at h
  split at h
  ·rename_i hm
   simp only [lookF] at h ⊢
   split at h
   ·rename_i e; cases h; subst e; simp [hm]
   ·rename_i e; rw [if_neg e]; exact look_keepF lv lb r p x h
  ·rename_i hm
   have:=look_keepF lv lb r p x h
   simp only [lookF]
   rw [if_neg (by intro e; subst e; exact hm this.2)]
   exact this
theorem mem_rowsB : ∀ (bx : List (Nat × List D)) (b : Nat) (cs : List D),look bx b = some cs → 100000 ≤ b ∧ b < 200000 → b ∈ rowsB bx
 | [],b,cs,h,_ => by simp [look] at h
 | (k,v) :: r,b,cs,h,hb => by
  simp only [look] at h
  simp only [rowsB]
  split at h
  ·rename_i e; subst e
   rw [if_pos hb]
   split
   ·assumption
   ·simp
  ·have:=mem_rowsB r b cs h hb
   split
   ·split
    ·exact this
    ·exact List.mem_cons_of_mem _ this
   ·exact this
theorem rowsB_row : ∀ (bx : List (Nat × List D)) (b : Nat),b ∈ rowsB bx → 100000 ≤ b ∧ b < 200000
 | [],b,h => by simp [rowsB] at h
 | (k,v) :: r,b,h => by
  simp only [rowsB] at h
  split at h
  ·rename_i hk
   split at h
   ·exact rowsB_row r b h
   ·rcases List.mem_cons.1 h with rfl | h
    ·exact hk
    ·exact rowsB_row r b h
  ·exact rowsB_row r b h
theorem keep0_rel {st : St} (lv lb : List Nat) (hrow : ∀ b ∈ rowsB st.bx,b ∈ lb) (h : Rel base w0 I0 N st.F a w) : Rel base w0 I0 N (st.keep0 lv lb).F a w:=by
 obtain ⟨I,ρ,h⟩:=h
 have h1 : RelI base w0 I0 N I ρ { (st.keep0 lv lb).F with bx:=st.F.bx } a w:=h.less (fun s v hv => (look_keepT _ _ _ s v hv).1) rfl (fun s o x hx => (look_keepF _ _ _ (s,o) x hx).1)
 have h2:=h1.keepB (fun b => decide (b ∈ lb)) (fun s v b hs hr => by simpa using (look_keepT _ _ _ s _ hs).2 b hr) (fun b off x hx => by simpa [inL] using (look_keepF _ _ _ (b,some off) x hx).2) (fun b cs hb hk => by simpa using hrow b (mem_rowsB st.bx b cs hb hk))
 refine ⟨I,_,h2.less (fun s v hv => hv) ?_ (fun s o x hx => hx)⟩
 funext b
 show look (ab.keepB st.bx lb) b = _
 rw [look_keepB]
 simp [St.F]
theorem frzV_or {b z : Nat} {es : List D} {v v' : D} (h : frzV b z es v = some v') : (v' = v ∧ refD v ≠ some b) ∨ ∃ n,v = oD b n ∧ n = es.length ∧ v' = sD z es:=by
 unfold frzV at h
 split at h
 ·rename_i b' n
  split at h
  ·rename_i eb; subst eb
   split at h
   ·rename_i en; cases h; exact .inr ⟨n,rfl,en,rfl⟩
   ·cases h
  ·rename_i eb; cases h; exact .inl ⟨rfl,by simp [refD]; exact eb⟩
 ·split at h
  ·rename_i b' hb
   split at h
   ·cases h
   ·rename_i eb; cases h; exact .inl ⟨rfl,by rw [hb]; simp; exact eb⟩
  ·rename_i hb; cases h; exact .inl ⟨rfl,by rw [hb]; simp⟩
theorem look_frzT (b z : Nat) (es : List D) (tm : List (Nat × D)) : ∀ (lv : List Nat) (s : Nat) (v : D),look (frzT b z es tm lv) s = some v → ∃ r,look tm s = some r ∧ frzV b z es r = some v
 | [],s,v,h => by simp [frzT,look] at h
 | k :: r,s,v,h => by
  simp only [frzT] at h
  split at h
  ·rename_i x hx
   split at h
   ·rename_i x' hx'
    simp only [look] at h
    split at h
    ·rename_i e; cases h; subst e; exact ⟨x,hx,hx'⟩
    ·exact look_frzT b z es tm r s v h
   ·exact look_frzT b z es tm r s v h
  ·exact look_frzT b z es tm r s v h
theorem frzC_at {b z : Nat} {es : List D} : ∀ {cs cs' : List D},frzC b z es cs = some cs' → cs'.length = cs.length ∧ ∀ (j : Nat) x x',cs[j]? = some x → cs'[j]? = some x' → frzV b z es x = some x'
 | [],cs',h => by simp [frzC] at h; subst h; exact ⟨rfl,fun j x x' hx => by simp at hx⟩
 | c :: r,cs',h => by
  simp only [frzC] at h
  split at h
  ·rename_i c' r' h1 h2
   cases h
   obtain ⟨q1,q2⟩:=frzC_at h2
   refine ⟨by simp [q1],fun j x x' hx hx' => ?_⟩
   cases j with
   | zero => simp at hx hx'; subst hx hx'; exact h1
   | succ n => exact q2 n x x' (by simpa using hx) (by simpa using hx')
  ·cases h
theorem look_frzB {b z : Nat} {es : List D} {bx : List (Nat × List D)} : ∀ {lb : List Nat} {bx' : List (Nat × List D)},frzB b z es bx lb = some bx' →
  (∀ c cs',look bx' c = some cs' → c ≠ b ∧ c ∈ lb ∧ ∃ cs,look bx c = some cs ∧ (if c < 100000 then frzC b z es cs = some cs' else frzP b z es cs = some cs')) ∧ ∀ c,c ∈ lb → look bx' c = none → c = b ∨ look bx c = none
 | [],bx',h => by simp [frzB] at h; subst h; exact ⟨fun c cs' hc => by simp [look] at hc,fun c hc => by simp at hc⟩
 | k :: r,bx',h => by
  simp only [frzB] at h
  split at h
  ·cases h
  ·rename_i r' hr
   obtain ⟨q1,q2⟩:=look_frzB hr
   have q1' : ∀ c cs',look r' c = some cs' → c ≠ b ∧ c ∈ k :: r ∧ ∃ cs,look bx c = some cs ∧ (if c < 100000 then frzC b z es cs = some cs' else frzP b z es cs = some cs'):=fun c cs' hc => by
    obtain ⟨r1,r2,r3⟩:=q1 c cs' hc
    exact ⟨r1,List.mem_cons_of_mem _ r2,r3⟩
   split at h
   ·rename_i e; cases h
    refine ⟨q1',fun c hc hn => ?_⟩
    rcases List.mem_cons.1 hc with rfl | hc
    ·exact .inl e
    ·exact q2 c hc hn
   ·rename_i hkb
    split at h
    ·rename_i hk; cases h
     refine ⟨q1',fun c hc hn => ?_⟩
     rcases List.mem_cons.1 hc with rfl | hc
     ·exact .inr hk
     ·exact q2 c hc hn
    ·rename_i cs hk
     split at h
     ·rename_i hlt
      split at h
      ·rename_i cs1 hc1
       cases h
       refine ⟨fun c cs' hc => ?_,fun c hc hn => ?_⟩
       ·simp only [look] at hc
        split at hc
        ·rename_i e; cases hc; subst e; exact ⟨hkb,by simp,cs,hk,by rw [if_pos hlt]; exact hc1⟩
        ·exact q1' c cs' hc
       ·simp only [look] at hn
        split at hn
        ·cases hn
        ·rename_i hne
         rcases List.mem_cons.1 hc with rfl | hc
         ·exact absurd rfl hne
         ·exact q2 c hc hn
      ·cases h
     ·rename_i hlt
      split at h
      ·rename_i cs1 hc1
       cases h
       refine ⟨fun c cs' hc => ?_,fun c hc hn => ?_⟩
       ·simp only [look] at hc
        split at hc
        ·rename_i e; cases hc; subst e; exact ⟨hkb,by simp,cs,hk,by rw [if_neg hlt]; exact hc1⟩
        ·exact q1' c cs' hc
       ·simp only [look] at hn
        split at hn
        ·cases hn
        ·rename_i hne
         rcases List.mem_cons.1 hc with rfl | hc
         ·exact absurd rfl hne
         ·exact q2 c hc hn
      ·cases h
theorem frz_rel {st st' : St} {lv lb : List Nat} {b : Nat} (hk : 100000 ≤ b ∧ b < 200000) (hdom : ∀ c cs,look st.bx c = some cs → c ∈ lb) (hf : st.frz lv lb b = some st') (h : Rel base w0 I0 N st.F a w) :
  Rel base w0 I0 N st'.F a w ∧ ∀ c cs,look st'.bx c = some cs → c ∈ lb:=by
 unfold St.frz at hf
 split at hf
 ·rename_i es z hb
  split at hf
  ·rename_i bx' hB
   cases hf
   obtain ⟨q1,q2⟩:=look_frzB hB
   obtain ⟨I,ρ,h⟩:=h
   refine ⟨h.frz hk (z:=z) (es:=es) hb (fun s v hv => ?_) (fun c cs' hc => ?_) (fun c hc => ?_) rfl,fun c cs hc => (q1 c cs hc).2.1⟩
   ·obtain ⟨r,r1,r2⟩:=look_frzT b z es st.tm lv s v hv
    rcases frzV_or r2 with ⟨e1,e2⟩ | ⟨n,e1,e2,e3⟩
    ·subst e1; exact .inl ⟨r1,e2⟩
    ·subst e1; exact .inr ⟨n,r1,e2,e3⟩
   ·obtain ⟨r1,r2,cs,r3,r4⟩:=q1 c cs' hc
    refine ⟨r1,cs,r3,fun hge => ?_,?_⟩
    ·rw [if_neg (by omega)] at r4; exact r4
    ·by_cases hlt : c < 100000
     ·rw [if_pos hlt] at r4
      obtain ⟨s1,s2⟩:=frzC_at r4
      refine ⟨fun _ => s1,fun j x x' hx hx' => ?_⟩
      rcases frzV_or (s2 j x x' hx hx') with e1 | e1
      ·exact .inl e1
      ·exact .inr (.inl e1)
     ·exact ⟨fun q => absurd q hlt,fun j x x' _ _ => .inr (.inr (by omega))⟩
   ·by_cases hm : c ∈ lb
    ·exact q2 c hm hc
    ·right
     cases hl : look st.bx c with
     | none => exact hl
     | some cs => exact absurd (hdom c cs hl) hm
  ·cases hf
 ·cases hf
theorem frzAll_rel {lv lb lb' : List Nat} : ∀ {rows : List Nat} {st st' : St},(∀ b ∈ rows,100000 ≤ b ∧ b < 200000) → (∀ c cs,look st.bx c = some cs → c ∈ lb') → frzAll lv lb lb' rows st = some st' → Rel base w0 I0 N st.F a w → Rel base w0 I0 N st'.F a w
 | [],st,st',_,_,hf,h => by simp [frzAll] at hf; subst hf; exact h
 | b :: r,st,st',hr,hd,hf,h => by
  simp only [frzAll] at hf
  split at hf
  ·exact frzAll_rel (fun b hb => hr b (by simp [hb])) hd hf h
  ·split at hf
   ·rename_i st1 h1
    obtain ⟨q1,q2⟩:=frz_rel (hr b (by simp)) hd h1 h
    exact frzAll_rel (fun b hb => hr b (by simp [hb])) q2 hf q1
   ·cases hf
theorem keep_rel {st st' : St} {lv lb : List Nat} (hk : st.keep lv lb = some st') (h : Rel base w0 I0 N st.F a w) : Rel base w0 I0 N st'.F a w:=by
 unfold St.keep at hk
 split at hk
 ·rename_i hr
  cases hk
  exact keep0_rel lv lb (fun b hb => by rw [hr] at hb; simp at hb) h
 ·rename_i hr
  refine frzAll_rel (fun b hb => rowsB_row st.bx b hb) (fun c cs hc => ?_) hk (keep0_rel lv _ (fun b hb => List.mem_append_right _ hb) h)
  have hc' : look (ab.keepB st.bx (lb ++ rowsB st.bx)) c = some cs:=hc
  rw [look_keepB] at hc'
  split at hc'
  ·assumption
  ·cases hc'
end
theorem run_cuts {P : Program} {N : Nat} {base : Nat → Prop} {w0 : World} {I0 : Still} {rw : List Nat} {ops : Array Oper} {R : AX → St → Prop} {Q : Exit → Act → World → Prop} (hQ : ∀ st' a' w',R none st' → Rel base w0 I0 N st'.F a' w' → Q .normal a' w') :
  ∀ (cuts : List (Nat × List Nat × List Nat)) (l : List Oper) (lv lb : List Nat) (ic : IC) (st : St) (a : Act) (w : World),compRs P N rw ops l cuts lv lb = some ic → ic st R → Rel base w0 I0 N st.F a w → wpList P ops Q l a w
 | [],l,lv,lb,ic,st,a,w,hc,h,hr => by
  simp only [compRs] at hc
  split at hc
  ·rename_i is hci
   cases hc
   obtain ⟨rs,st',q,h1,h2,h3⟩:=h
   unfold evalR at h1
   split at h1
   ·rename_i st1 q1 he
    split at h1
    ·rename_i st2 hk2
     obtain ⟨e1,rfl⟩ : st2 = st' ∧ q1 = q:=by simpa using h1
     subst e1
     have:=run_list (Q:=Q) (l2:=[]) l is rs st st1 q1 a w hci he h2 hr (fun a' w' hr' => hQ _ _ _ h3 (keep_rel hk2 hr'))
     rw [List.append_nil] at this
     exact this
    ·cases h1
   ·cases h1
  ·cases hc
 | (n,lv1,lb1) :: cuts,l,lv,lb,ic,st,a,w,hc,h,hr => by
  simp only [compRs] at hc
  split at hc
  ·split at hc
   ·rename_i is ic' hci hcr
    cases hc
    obtain ⟨rs,st',q,h1,h2,h3⟩:=h
    unfold evalR at h1
    split at h1
    ·rename_i st1 q1 he
     split at h1
     ·rename_i st2 hk2
      obtain ⟨e1,rfl⟩ : st2 = st' ∧ q1 = q:=by simpa using h1
      subst e1
      have:=run_list (Q:=Q) (l2:=l.drop n) (l.take n) is rs st st1 q1 a w hci he h2 hr (fun a' w' hr' => run_cuts hQ cuts (l.drop n) lv lb ic' st2 a' w' hcr h3 (keep_rel hk2 hr'))
      rw [List.take_append_drop] at this
      exact this
     ·cases h1
    ·cases h1
   ·cases hc
  ·split at hc
   ·rename_i ic1 ic' hci hcr
    cases hc
    have:=compY_ok (Q:=Q) (l2:=l.drop (n % 1000)) hci h hr (fun st' a' w' hR hr' => run_cuts hQ cuts (l.drop (n % 1000)) lv lb ic' st' a' w' hcr hR hr')
    rw [List.take_append_drop] at this
    exact this
   ·cases hc
def exitOf : AX → Exit
 | none => .normal
 | some none => .ret
 | some (some id) => .exit id
theorem awp_sound {P : Program} {N : Nat} {base : Nat → Prop} {w0 : World} {I0 : Still} (hm : P.follows .mixedOrders = true) : ∀ (c : Code) (an an' : List Ann) (ic : IC),compC P N c an = some (ic,an') → ∀ (st : St) (R : AX → St → Prop) (Q : Exit → Act → World → Prop) (a : Act) (w : World),
  ic st R → Rel base w0 I0 N st.F a w → (∀ e st' a' w',R e st' → Rel base w0 I0 N st'.F a' w' → Q (exitOf e) a' w') → c.wp P Q a w:=by
 intro c
 induction c with
 | skip => intro an an' ic hc st R Q a w h hr hQ; cases hc; exact wp_skip (hQ none st a w h hr)
 | region id ops draw =>
  intro an an' ic hc st R Q a w h hr hQ
  cases an with
  | nil => simp [compC] at hc
  | cons x an =>
   obtain ⟨cuts,lv,lb,rw⟩:=x
   simp only [compC] at hc
   split at hc
   ·rename_i hd; subst hd
    split at hc
    ·rename_i is hci
     split at hc
     ·rename_i hlow
      cases hc
      obtain ⟨rs,st',q,h1,h2,h3⟩:=h
      unfold evalRD at h1
      split at h1
      ·rename_i st1 fs q1 he
       split at h1
       ·rename_i st2 hk2
        obtain ⟨e1,e2⟩ : st2 = st' ∧ (pairsOk (ancs ops.toList []) fs = true ∧ q1 = q):=by simpa using h1
        subst e1
        obtain ⟨e2,rfl⟩:=e2
        exact run_any hm hci hlow he e2 h2 hr (fun a' w' hr' => hQ none _ _ _ h3 (keep_rel hk2 hr'))
       ·cases h1
      ·cases h1
     ·cases hc
    ·cases hc
   ·rename_i hd
    have : draw = false:=by simpa using hd
    subst this
    split at hc
    ·rename_i ic' hci
     cases hc
     exact wp_region_list (run_cuts (fun st' a' w' hR hr' => hQ none st' a' w' hR hr') cuts ops.toList lv lb ic st a w hci h hr)
    ·cases hc
 | seq x y ihx ihy =>
  intro an an' ic hc st R Q a w h hr hQ
  simp only [compC] at hc
  split at hc
  ·rename_i ix an1 h1
   split at hc
   ·rename_i iy an2 h2
    cases hc
    refine wp_seq (ihx an an1 ix h1 st _ _ a w h hr fun e st' a' w' hR hr' => ?_)
    match e,hR with
    | none,hR => exact ihy an1 an' iy h2 st' R Q a' w' hR hr' hQ
    | some (some i),hR => exact hQ (some (some i)) st' a' w' hR hr'
    | some none,hR => exact hQ (some none) st' a' w' hR hr'
   ·cases hc
  ·cases hc
 | cond c x y ihx ihy =>
  intro an an' ic hc st R Q a w h hr hQ
  simp only [compC] at hc
  split at hc
  ·rename_i ix an1 h1
   split at hc
   ·rename_i iy an2 h2
    cases hc
    obtain ⟨q,hq,h⟩:=h
    have he : a.eval c = .bool q:=by
     obtain ⟨I,ρ,hr⟩:=hr
     exact plain_of (rd_rep hq (fun y hy => hr.tm y.1 y.2 (rd_ok hq y hy)))
    refine wp_cond he ?_
    split at h
    ·rename_i e; rw [if_pos e]; exact ihx an an1 ix h1 st R Q a w h hr hQ
    ·rename_i e; rw [if_neg e]; exact ihy an1 an' iy h2 st R Q a w h hr hQ
   ·cases hc
  ·cases hc
 | block id x ihx =>
  intro an an' ic hc st R Q a w h hr hQ
  simp only [compC] at hc
  split at hc
  ·rename_i ix an1 h1
   cases hc
   refine wp_block (ihx an an' ix h1 st _ _ a w h hr fun e st' a' w' hR hr' => ?_)
   match e,hR with
   | none,hR => exact hQ none st' a' w' hR hr'
   | some (some i),hR =>
    simp only [blk] at hR
    show Exit.inBlock id Q (.exit i) a' w'
    simp only [Exit.inBlock]
    split at hR
    ·rename_i e; rw [if_pos e]; exact hQ none st' a' w' hR hr'
    ·rename_i e; rw [if_neg e]; exact hQ (some (some i)) st' a' w' hR hr'
   | some none,hR => exact hQ (some none) st' a' w' hR hr'
  ·cases hc
 | loop x ihx =>
  intro an an' ic hc st R Q a w h hr hQ
  simp only [compC] at hc
  split at hc
  ·rename_i ix an1 h1
   cases hc
   obtain ⟨J,⟨n0,st0,hle0,hJ0⟩,hround⟩:=h
   -- the measure: the least that fits
   let M : Act → World → Nat → Prop:=fun a w n => ∃ st,J n st ∧ Rel base w0 I0 N st.F a w
   intro b k cs
   have key : ∀ n a w,M a w n → ∃ e a' w',Q e a' w' ∧ Arrives P (lone (b.at a (.code x :: .inLoop x :: k)) cs w) b k cs e a' w':=by
    intro n
    induction n using Nat.strongRecOn with
    | _ n ih =>
     rintro a w ⟨st,hJ,hr⟩
     have:=ihx an an' ix h1 st _ (Exit.then (fun a' w' => ∃ m,m < n ∧ M a' w' m) Q) a w (hround n st hJ) hr (fun e st' a' w' hR hr' => by
      match e,hR with
      | none,hR => obtain ⟨m,st'',hmn,hle,hJm⟩:=hR; exact ⟨m,hmn,st'',hJm,hle _ _ _ _ _ _ hr'⟩
      | some (some i),hR => exact hQ (some (some i)) st' a' w' hR hr'
      | some none,hR => exact hQ (some none) st' a' w' hR hr')
     obtain ⟨e,a₁,w₁,hq,harr⟩:=this b (.inLoop x :: k) cs
     cases e with
     | normal =>
      obtain ⟨m,hmn,hM⟩:=hq
      obtain ⟨e₂,a₂,w₂,hq₂,harr₂⟩:=ih m hmn a₁ w₁ hM
      exact ⟨e₂,a₂,w₂,hq₂,.of_steps (Steps.trans harr (.one step_inLoop)) harr₂⟩
     | exit id => exact ⟨_,a₁,w₁,hq,.pass (x:=.inLoop x) rfl (fun _ _ => .inl (by simp)) harr⟩
     | goto l => exact ⟨_,a₁,w₁,hq,.pass (x:=.inLoop x) rfl (fun _ _ => .inl (by simp)) harr⟩
     | ret => exact ⟨_,a₁,w₁,hq,.pass (x:=.inLoop x) rfl (fun _ _ => .inl (by simp)) harr⟩
     | panic ch => exact ⟨_,a₁,w₁,hq,.pass (x:=.inLoop x) rfl (fun _ _ => .inl (by simp)) harr⟩
     | outgrown => exact ⟨_,a₁,w₁,hq,.pass (x:=.inLoop x) rfl (fun _ _ => .inl (by simp)) harr⟩
   obtain ⟨e,a',w',hq,harr⟩:=key n0 a w ⟨st0,hJ0,hle0 _ _ _ _ _ _ hr⟩
   exact ⟨e,a',w',hq,.of_steps (.one step_loop) harr⟩
  ·cases hc
 | exit id => intro an an' ic hc st R Q a w h hr hQ; cases hc; exact wp_exit (hQ (some (some id)) st a w h hr)
 | ret => intro an an' ic hc st R Q a w h hr hQ; cases hc; exact wp_ret (hQ (some none) st a w h hr)
 | _ => intro an an' ic hc; simp [compC] at hc
end Go.Proofs.Ytgaofjiidedcbad.ab
