import Derived.Test.YtgaofjiidedcbacGreatM5
import Derived.Laws.BytesString
set_option linter.unusedVariables false
set_option linter.unusedSimpArgs false
namespace Go.Proofs.YtgaofjiidedcbacGreat.ab
open Go Go.RowKit
section
variable {P : Program} {o : Oper} {st : St}
def moveA (n : Nat) : D → Option D
 | .held (.inr (b,off)) => some (pD b (off + n))
 | .ptr (.slice cs [.held (.inr (off,0))]) => some (eD cs (off + n))
 | .ptr (.slice [] [.held (.inr (b,i)),.held (.inr (z,off))]) => some (qD b i z (off + n))
 | .iface _ (.slice cs [.held (.inr (0,_))]) => some (eD cs n)
 | _ => none
theorem moveA_rep {n : Nat} {v v' : D} (h : moveA n v = some v') {I : Still} {ρ : Nat → Option Nat} {w : World} {u : Value} (hr : AVRep I ρ w v u) : ∃ g off,u = .pointer (some ⟨g,off,none⟩) ∧ AVRep I ρ w v' (.pointer (some ⟨g,off + n,none⟩)):=by
 unfold moveA at h
 split at h
 ·cases h
  obtain ⟨g,hb,h1,rfl⟩:=hr.invP
  exact ⟨g,_,rfl,AVRep.p hb h1⟩
 ·cases h
  rename_i cs off
  obtain ⟨b,o,rfl,he⟩:=hr.invE
  exact ⟨b,_,rfl,.inr (.inr (.inr ⟨cs,off + n,b,o,rfl,by rw [Nat.add_assoc],he⟩))⟩
 ·cases h
  rename_i b i z off
  obtain ⟨g,h1,h2,rfl⟩:=hr.invQ
  exact ⟨g,_,rfl,.inr (.inr (.inl (.inr (.inr (.inr (.inl ⟨b,i,z,off + n,g,rfl,h1,h2,by rw [Nat.add_assoc]⟩))))))⟩
 ·cases h
  obtain ⟨p,rfl,b,o,rfl,he⟩:=hr.invJ
  exact ⟨b,_,rfl,.inr (.inr (.inr ⟨_,n,b,o,rfl,rfl,he⟩))⟩
 ·cases h
theorem ok_fad {t : TypeId} {fs : Array Field} {f : Nat} {fd : Field} {n : Nat} {x : Operand} (ho : o.op = .fieldAddr t x f) (ht : P.underlying t = some (.struct fs)) (hf : fs[f]? = some fd) (hn : sizeT P fd.type = some n) (hn0 : n ≠ 0) {d : Nat} (hd : o.dst = some d) {v v' : D} (hx : rd st x = some v) (h : moveA fd.offset v = some v') :
  (vEv d (rds x v) v').ok st.F ∧ Sound P o (vEv d (rds x v) v'):=by
 refine ⟨vEv_ok (rd_ok hx),sound_val hd (rb:=[]) fun I ρ ac w hr _ => ?_⟩
 obtain ⟨g,off,h1,h2⟩:=moveA_rep h (rd_rep hx hr)
 exact ⟨_,by simp [execOp,ho,h1,Instr.fieldAt,run_underlying ht,hf,Instr.sureAddr,fieldPlace,run_sizeOf hn,hn0,Addr.add_lit],h2⟩
theorem ok_iaA {t e : TypeId} {len z : Nat} {x i : Operand} (ho : o.op = .indexAddr t x i) (ht : P.underlying t = some (.array len e)) (hz : sizeT P e = some z) {d : Nat} (hd : o.dst = some d) {v v' : D} {k : IntKind} {n : Int} (hx : rd st x = some v) (hi : rd st i = some (vD (.int k n))) (hn : 0 ≤ n ∧ n < len) (h : moveA (n.toNat * z) v = some v') :
  (vEv d (rds x v ++ rds i (vD (.int k n))) v').ok st.F ∧ Sound P o (vEv d (rds x v ++ rds i (vD (.int k n))) v'):=by
 refine ⟨vEv_ok (app_rs (rd_ok hx) (rd_ok hi)),sound_val hd (rb:=[]) fun I ρ ac w hr _ => ?_⟩
 obtain ⟨g,off,h1,h2⟩:=moveA_rep h (rd_rep hx (fun y hy => hr y (List.mem_append_left _ hy)))
 have h3:=plain_of (rd_rep hi (fun y hy => hr y (List.mem_append_right _ hy)))
 exact ⟨_,by simp [execOp,ho,h1,h3,Instr.indexAt,asIntOf,run_underlying ht,Instr.sureAddr,run_sizeOf hz,hn,Addr.add_lit],h2⟩
theorem ok_iaS {t e : TypeId} {z : Nat} {x i : Operand} (ho : o.op = .indexAddr t x i) (ht : P.underlying t = some (.slice e)) (hz : sizeT P e = some z) {d : Nat} (hd : o.dst = some d) {l : D} {es : List D} {k : IntKind} {n : Int} (hx : rd st x = some l) (hl : asS z l = some es) (hi : rd st i = some (vD (.int k n))) {c : D} (hn : 0 ≤ n) (h : es[n.toNat]? = some c) :
  (vEv d (rds x l ++ rds i (vD (.int k n))) (eD (cellsD c) 0)).ok st.F ∧ Sound P o (vEv d (rds x l ++ rds i (vD (.int k n))) (eD (cellsD c) 0)):=by
 refine ⟨vEv_ok (app_rs (rd_ok hx) (rd_ok hi)),sound_val hd (rb:=[]) fun I ρ ac w hr _ => ?_⟩
 have h1:=asS_av hl (rd_rep hx (fun y hy => hr y (List.mem_append_left _ hy)))
 have h3:=plain_of (rd_rep hi (fun y hy => hr y (List.mem_append_right _ hy)))
 generalize hu : ac.eval x = u at h1
 have hlt : n.toNat < es.length:=(List.getElem?_eq_some_iff.1 h).1
 ·obtain ⟨ad,cap,rfl,U,hle,hno,hm,hsz,hc,hcr⟩:=h1.invS
  obtain ⟨b,off,rfl,hcell⟩:=hc (by intro e; subst e; simp at hlt)
  have hcz : (cellsD c).length = z:=hsz c (List.mem_of_getElem? h)
  refine ⟨.pointer (some ⟨b,off + n.toNat * z + 0,none⟩),?_,.inr (.inr (.inr ⟨_,_,b,off + n.toNat * z,rfl,rfl,fun j l' hj => ?_⟩))⟩
  ·have : n < (es.length : Int):=by omega
   simp [execOp,ho,hu,h3,Instr.indexAt,asIntOf,run_underlying ht,run_sizeOf hz,hn,this,Addr.add_lit]
  ·have hjz : j < z:=by have:=(List.getElem?_eq_some_iff.1 hj).1; omega
   have:=hcell n.toNat j hlt hjz
   exact ⟨U n.toNat j,this.1,this.2,hcr n.toNat j c l' h hj⟩
def lenL : D → Option Nat
 | .slice es [.held (.inr (_,0))] => some es.length
 | .slice es [.held (.inr (_,1))] => some es.length
 | .ptr (.held (.inr (_,n))) => some n
 | .held (.inl (.slice none 0 0)) => some 0
 | .held (.inl (.string s)) => some s.size
 | _ => none
def strL : D → Bool
 | .held (.inl (.string _)) => true
 | _ => false
theorem ok_len {t : TypeId} {x : Operand} (ho : o.op = .call { callee:=.builtin .len,args:=#[x],argTypes:=#[t] }) {d : Nat} (hd : o.dst = some d) {l : D} {n : Nat} (hx : rd st x = some l) (hty : strL l = true → P.underlying t = some .string) (hty' : strL l = false → ∃ e,P.underlying t = some (.slice e)) (h : lenL l = some n) :
  (vEv d (rds x l) (vD (.int .i64 n))).ok st.F ∧ Sound P o (vEv d (rds x l) (vD (.int .i64 n))):=by
 refine ⟨vEv_ok (rd_ok hx),sound_val hd (rb:=[]) fun I ρ ac w hr _ => ⟨.int .i64 n,?_,AVRep.v rfl⟩⟩
 have h1:=rd_rep hx hr
 unfold lenL at h
 split at h
 ·cases h
  obtain ⟨e,he⟩:=hty' rfl
  obtain ⟨a,cap,hu,_⟩:=(leaf_of rfl h1).invS
  simp [execOp,ho,hu,resolve,invoke,builtin,Builtin.len_,run_underlying he,goInt]
 ·cases h
  obtain ⟨e,he⟩:=hty' rfl
  obtain ⟨a,cap,hu,_⟩:=(leaf_of rfl h1).invN
  simp [execOp,ho,hu,resolve,invoke,builtin,Builtin.len_,run_underlying he,goInt]
 ·cases h
  obtain ⟨e,he⟩:=hty' rfl
  obtain ⟨g,cap,_,_,hu,_⟩:=h1.invO
  simp [execOp,ho,hu,resolve,invoke,builtin,Builtin.len_,run_underlying he,goInt]
 ·cases h
  obtain ⟨e,he⟩:=hty' rfl
  have hu:=plain_of h1
  simp [execOp,ho,hu,resolve,invoke,builtin,Builtin.len_,run_underlying he,goInt]
 ·cases h
  have he:=hty rfl
  have hu:=plain_of h1
  simp [execOp,ho,hu,resolve,invoke,builtin,Builtin.len_,run_underlying he,goInt]
 ·cases h
theorem ok_loadE {t : TypeId} {n : Nat} {ag : Bool} {x : Operand} (ho : o.op = .load t x) (hn : sizeT P t = some n) (ha : aggT P t = some ag) {d : Nat} (hd : o.dst = some d) {cs : List D} {off : Nat} (hx : rd st x = some (eD cs off)) {r : D} (h : sub n ag off cs = some r) :
  (vEv d (rds x (eD cs off)) r).ok st.F ∧ Sound P o (vEv d (rds x (eD cs off)) r):=by
 refine ⟨vEv_ok (rd_ok hx),sound_val hd (rb:=[]) fun I ρ ac w hr _ => ?_⟩
 obtain ⟨b,o',hu,he⟩:=(rd_rep hx hr).invE
 ·unfold sub at h
  split at h
  ·rename_i hle
   split at h
   ·rename_i hag; subst hag
    cases h
    -- the cells
    let us : List Value:=(List.range n).map fun j => (w.cell? ⟨b,o' + (off + j),none⟩).getD undef
    have hat : ∀ j,j < n → ∃ y,w.cell? ⟨b,o' + (off + j),none⟩ = some y ∧ ∀ c,cs[off + j]? = some c → CRep I w c y:=by
     intro j hj
     obtain ⟨y,q1,_,q2⟩:=he (off + j) cs[off + j] (List.getElem?_eq_getElem (by omega))
     exact ⟨y,q1,fun c hc => by rw [List.getElem?_eq_getElem (by omega)] at hc; cases hc; exact q2⟩
    have hus : us.length = n:=by simp [us]
    have huat : ∀ (j : Nat) y,us[j]? = some y → w.cell? ((⟨b,o' + off,none⟩ : Addr).add j) = some y:=by
     intro j y hy
     have hj : j < n:=by rw [← hus]; exact (List.getElem?_eq_some_iff.1 hy).1
     obtain ⟨y',q1,_⟩:=hat j hj
     simp only [us,List.getElem?_map,List.getElem?_range hj,Option.map_some,q1,Option.getD_some] at hy
     cases hy
     rw [Addr.add_lit,Nat.add_assoc]; exact q1
    refine ⟨.agg us.toArray,?_,.inl (.inr ⟨_,us,rfl,rfl,by simp [hus]; omega,fun j c y hc hy => ?_⟩)⟩
    ·have:=run_loadCells_list (P:=P) w ⟨b,o' + off,none⟩ us huat
     rw [hus] at this
     simp [execOp,ho,hu,Instr.loadAt,Instr.sureAddr,loadVar,run_isAgg ha,run_sizeOf hn,this]
    ·have hj : j < n:=by rw [← hus]; exact (List.getElem?_eq_some_iff.1 hy).1
     obtain ⟨y',q1,q2⟩:=hat j hj
     simp only [us,List.getElem?_map,List.getElem?_range hj,Option.map_some,q1,Option.getD_some] at hy
     cases hy
     rw [List.getElem?_take,if_pos hj,List.getElem?_drop] at hc
     exact q2 c hc
   ·rename_i hag
    split at h
    ·obtain ⟨y,q1,_,q2⟩:=he off r h
     have : ag = false:=by simpa using hag
     subst this
     exact ⟨y,by simp [execOp,ho,hu,Instr.loadAt,Instr.sureAddr,loadVar,run_isAgg ha,load,Sem.run,q1],.inl (.inl q2)⟩
    ·cases h
  ·cases h
theorem run_loadP {t : TypeId} {n : Nat} {ag : Bool} (hn : sizeT P t = some n) (ha : aggT P t = some ag) {cs : List D} {off : Nat} {r : D} (h : sub n ag off cs = some r) (hcl : clR r = true) {I : Still} {ρ : Nat → Option Nat} {w : World} {g : Nat} {us : List Value} {t' : TypeId} (hg : w.heap[g]? = some (.cells us.toArray t' (0,0))) (hrow : RowL I ρ w cs us) :
  ∃ u,(Instr.loadAt t (.pointer (some ⟨g,off,none⟩))).run P w = .ok u w ∧ AVRep I ρ w r u ∧ (isL r = true → w.cell? ⟨g,off,none⟩ = some u):=by
 have hcell : ∀ j,w.cell? ⟨g,j,none⟩ = us[j]?:=fun j => by rw [cell_of_row w g j us.toArray t' (0,0) hg]; simp
 unfold sub at h
 split at h
 ·rename_i hle
  split at h
  ·rename_i hag; subst hag
   cases h
   have hl : ((us.drop off).take n).length = n:=by simp; rw [← hrow.1]; omega
   have:=run_loadCells_list (P:=P) w ⟨g,off,none⟩ ((us.drop off).take n) (fun j y hy => by
    rw [Addr.add_lit,hcell]
    rw [List.getElem?_take] at hy
    split at hy
    ·rw [List.getElem?_drop] at hy; exact hy
    ·cases hy)
   rw [hl] at this
   have hrow':=(hrow.drop off).take n
   have hcl' : Row I w ((cs.drop off).take n) ((us.drop off).take n):=⟨hrow'.1,fun j c u hc hu => (hrow'.2 j c u hc hu).leaf (List.all_eq_true.1 hcl c (List.mem_of_getElem? hc))⟩
   exact ⟨.agg ((us.drop off).take n).toArray,by simp [Instr.loadAt,Instr.sureAddr,loadVar,run_isAgg ha,run_sizeOf hn,this],.inl (.inr ⟨_,_,rfl,rfl,hcl'⟩),fun e => by cases e⟩
  ·rename_i hag
   split at h
   ·obtain ⟨y,q1,q2⟩:=hrow.at h
    have : ag = false:=by simpa using hag
    subst this
    exact ⟨y,by simp [Instr.loadAt,Instr.sureAddr,loadVar,run_isAgg ha,load,Sem.run,hcell,q1],q2.av,fun e => by rw [hcell]; exact q1⟩
   ·cases h
 ·cases h
def loadEv (st : St) (d : Nat) (x : Operand) (b off : Nat) (cs : List D) (tr : Bool) (r : D) : Ev :=
 if tr = true ∧ isL r = true then (match lookF st.fl (b,some off) with | some f => hEv d (rds x (pD b off)) [(b,cs)] b (some off) f r | none => bEv d (rds x (pD b off)) [(b,cs)] r) else bEv d (rds x (pD b off)) [(b,cs)] r
theorem ok_loadP {t : TypeId} {n : Nat} {ag tr : Bool} {x : Operand} (ho : o.op = .load t x) (hn : sizeT P t = some n) (ha : aggT P t = some ag) {d : Nat} (hd : o.dst = some d) {b off : Nat} {cs : List D} (hx : rd st x = some (pD b off)) (hb : look st.bx b = some cs) {r : D} (h : sub n ag off cs = some r) (hcl : clR r = true) :
  (loadEv st d x b off cs tr r).ok st.F ∧ Sound P o (loadEv st d x b off cs tr r):=by
 have hrs:=rd_ok (st:=st) hx
 have hrb : ∀ y ∈ [(b,cs)],st.F.bx y.1 = some y.2:=fun y hy => by simp at hy; subst hy; exact hb
 have plain : (bEv d (rds x (pD b off)) [(b,cs)] r).ok st.F ∧ Sound P o (bEv d (rds x (pD b off)) [(b,cs)] r):=by
  refine ⟨bEv_ok hrs hrb,sound_val hd fun I ρ ac w hr hbx => ?_⟩
  obtain ⟨g,hlt,hp,hu⟩:=(rd_rep hx hr).invP
  obtain ⟨g',q1,q23⟩:=hbx (b,cs) (by simp)
  simp only at q1; rw [hp] at q1; cases q1
  obtain ⟨us,t',q2,q3⟩:=q23.cells hlt
  obtain ⟨v,r1,r2,_⟩:=run_loadP hn ha h hcl q2 q3
  exact ⟨v,by simp [execOp,ho,hu,r1],r2⟩
 unfold loadEv
 split
 ·rename_i htr
  split
  ·rename_i f hf
   refine ⟨⟨hrs,hrb,fun x hx => by simp [hEv] at hx,fun x hx => ?_⟩,?_⟩
   ·simp [hEv] at hx; subst hx; exact hf
   ·refine sound_hand hd (by simp) fun I ρ ac w _ _ hr hbx u0 hu0 => ?_
    obtain ⟨g,hlt,hp,hu⟩:=(rd_rep hx hr).invP
    obtain ⟨g',q1,q23⟩:=hbx (b,cs) (by simp)
    simp only at q1; rw [hp] at q1; cases q1
    obtain ⟨us,t',q2,q3⟩:=q23.cells hlt
    obtain ⟨v,r1,r2,r3⟩:=run_loadP hn ha h hcl q2 q3
    have:=r3 htr.2
    simp only [At,hp,Option.bind_some,this] at hu0
    cases hu0
    exact ⟨by simp [execOp,ho,hu,r1],r2⟩
  ·exact plain
 ·exact plain
theorem run_storeP {t : TypeId} {n : Nat} (hn : sizeT P t = some n) {w : World} {g off : Nat} {us : List Value} {t' : TypeId} (hg : w.heap[g]? = some (.cells us.toArray t' (0,0))) {u : Value} (hu : u.cells.size = n) (h1 : ∀ v ∈ u.cells.toList,v.oneCell' = true) (hl : off + n ≤ us.length) :
  (Instr.storeAt t (.pointer (some ⟨g,off,none⟩)) u).run P w = .ok () (w.setRow g (over us off u.cells.toList).toArray):=by
 have:=run_storeCells_at (P:=P) g off t' u.cells.toList 0 us.toArray w hg (by simp [hu]; omega) h1
 simp only [Instr.storeAt,Instr.sureAddr,storeVar,Sem.run_bind,Sem.run_pure,Result.andThen_ok,run_sizeOf hn,hu]
 simp only [ne_eq,not_true,if_false]
 simp only [Nat.add_zero] at this
 simpa [over] using this
def isCO : D → Bool
 | .ptr (.held (.inr _)) => true
 | d => isC d
theorem co_row {I : Still} {ρ : Nat → Option Nat} {w : World} {c : D} {u : Value} (hc : isCO c = true) (h : AVRep I ρ w c u) : RowL I ρ w (cellsD c) u.cells.toList:=by
 unfold isCO at hc
 split at hc
 ·rename_i x
  obtain ⟨b,n⟩:=x
  have h1 : LRep I ρ w (oD b n) u:=.inr ⟨b,n,rfl,h.invO⟩
  rw [h1.one.2.1,h1.one.2.2]
  exact RowL.single h1
 ·exact (cv_of hc h).row.L
def storEv (st : St) (x y : Operand) (b off : Nat) (cs : List D) (c : D) : Ev :=
 match y,isL c with
 | .tmp s,true => (match lookF st.fl (s,none) with
  | some f => { rs:=rds x (pD b off) ++ rds y c,rb:=[(b,cs)],wb:=some (b,over cs off [c]),rf:=[((s,none),f)],cf:=[(s,none),(b,some off)],sf:=some ((b,some off),f) }
  | none => { rs:=rds x (pD b off) ++ rds y c,rb:=[(b,cs)],wb:=some (b,over cs off (cellsD c)),cf:=cellsFrom b off (cellsD c) })
 | _,_ => { rs:=rds x (pD b off) ++ rds y c,rb:=[(b,cs)],wb:=some (b,over cs off (cellsD c)),cf:=cellsFrom b off (cellsD c) }
theorem ok_stor {t : TypeId} {n : Nat} {x y : Operand} (ho : o.op = .store t x y) (hn : sizeT P t = some n) (hd : o.dst = none) {b off : Nat} {cs : List D} {c : D} (hx : rd st x = some (pD b off)) (hb : look st.bx b = some cs) (hy : rd st y = some c) (hcc : isCO c = true) (hc : (cellsD c).length = n) (hl : off + n ≤ cs.length) :
  (storEv st x y b off cs c).ok st.F ∧ Sound P o (storEv st x y b off cs c):=by
 have hrs : ∀ z ∈ rds x (pD b off) ++ rds y c,st.F.tm z.1 = some z.2:=app_rs (rd_ok hx) (rd_ok hy)
 have hrb : ∀ y ∈ [(b,cs)],st.F.bx y.1 = some y.2:=fun y hy => by simp at hy; subst hy; exact hb
 have plain : Ev.ok { rs:=rds x (pD b off) ++ rds y c,rb:=[(b,cs)],wb:=some (b,over cs off (cellsD c)),cf:=cellsFrom b off (cellsD c) } st.F ∧ Sound P o { rs:=rds x (pD b off) ++ rds y c,rb:=[(b,cs)],wb:=some (b,over cs off (cellsD c)),cf:=cellsFrom b off (cellsD c) }:=by
  refine ⟨⟨hrs,hrb,fun x hx => by simp at hx,fun x hx => by simp at hx⟩,sound_store hd (by omega) fun I ρ ac w hr g hg => ?_⟩
  have h1:=rd_rep hx (fun y hy => hr y (List.mem_append_left _ hy))
  have h3:=co_row hcc (rd_rep hy (fun y hy => hr y (List.mem_append_right _ hy)))
  obtain ⟨g',hlt,hp,hu⟩:=h1.invP
  ·rw [hg] at hp; cases hp
   refine ⟨hlt,_,h3,fun us t' hgg hle => ?_⟩
   have hsz : (ac.eval y).cells.size = n:=by rw [← Array.length_toList,← h3.1]; exact hc
   have:=run_storeP (P:=P) hn hgg (u:=ac.eval y) (off:=off) hsz h3.one (by rw [Array.length_toList,hsz] at hle; exact hle)
   simp [execOp,ho,hu,this]
 unfold storEv
 split
 ·rename_i s hlf
  have hcl : cellsD c = [c]:=by
   unfold isL at hlf
   split at hlf <;> first | rfl | cases hlf
  split
  ·rename_i f hf
   refine ⟨⟨hrs,hrb,fun x hx => by simp at hx,fun x hx => by simp at hx; subst hx; exact hf⟩,sound_storeT hd (by simp [hcl] at hc; omega) fun I ρ ac w hr g hg u hus => ?_⟩
   have h1:=rd_rep hx (fun y hy => hr y (List.mem_append_left _ hy))
   have h2:=leaf_of hlf (rd_rep hy (fun y hy => hr y (List.mem_append_right _ hy)))
   have h4 : ac.eval (.tmp s) = u:=by simp [Act.eval,Array.getD_eq_getD_getElem?,hus]
   rw [h4] at h2
   obtain ⟨g',hlt,hp,hu⟩:=h1.invP
   ·rw [hg] at hp; cases hp
    refine ⟨hlt,h2,fun us t' hgg hle => ?_⟩
    have h5:=h2.one
    have:=run_storeP (P:=P) hn hgg (u:=u) (off:=off) (by rw [h5.2.1]; simp [hcl] at hc; simp [hc]) (fun v hv => by rw [h5.2.1] at hv; simp at hv; subst hv; exact h5.1) (by simp [hcl] at hc; omega)
    rw [h5.2.1] at this
    simp [execOp,ho,hu,h4,this]
  ·exact plain
 ·exact plain
theorem ok_box {e : TypeId} {x : Operand} (ho : o.op = .box e x) {d : Nat} (hd : o.dst = some d) {c : D} (hx : rd st x = some c) (hcc : isC c = true) (hb : look st.bx d = none) :
  Ev.ok { rs:=rds x c,nb:=[d],ws:=some (d,some (pD d 0)),wb:=some (d,(cellsD c)),cf:=[(d,none)] } st.F ∧ Sound P o { rs:=rds x c,nb:=[d],ws:=some (d,some (pD d 0)),wb:=some (d,(cellsD c)),cf:=[(d,none)] }:=by
 refine ⟨⟨rd_ok hx,fun x hx => by simp at hx,fun x hx => by simp at hx; subst hx; exact hb,fun x hx => by simp at hx⟩,sound_box hd fun I ρ ac w hr => ?_⟩
 have h2:=cv_of hcc (rd_rep hx hr)
 exact ⟨_,e,h2.row.L,by simp [execOp,ho,Instr.box,newVar,newRow,newObj,Sem.run]⟩
theorem zeroT_rep {t : TypeId} {zs : List D} (h : zeroT P t = some zs) (I : Still) (w : World) : ∃ z,(zeroValue t).run P w = .ok z w ∧ Row I w zs z.cells.toList:=by
 unfold zeroT at h
 cases hi : P.info? t with
 | none => simp [hi] at h
 | some i =>
  cases hz : i.zero with
  | none => simp [hi,hz] at h
  | some z =>
   simp only [hi,hz,Option.bind_eq_bind,Option.bind_some] at h
   split at h
   ·rename_i hall
    cases h
    refine ⟨z,by simp [zeroValue,typeInfo,hi,hz],by simp,fun j c u hc hu => ?_⟩
    rw [List.getElem?_map,hu] at hc
    cases hc
    exact CRep.v (Array.all_eq_true'.1 hall u (by rw [← Array.mem_toList_iff]; exact List.mem_of_getElem? hu))
   ·cases h
theorem ok_alo {e : TypeId} {zs : List D} (ho : o.op = .alloc e) (hz : zeroT P e = some zs) {d : Nat} (hd : o.dst = some d) (hb : look st.bx d = none) :
  Ev.ok { nb:=[d],ws:=some (d,some (pD d 0)),wb:=some (d,zs),cf:=[(d,none)] } st.F ∧ Sound P o { rs:=[],nb:=[d],ws:=some (d,some (pD d 0)),wb:=some (d,zs),cf:=[(d,none)] }:=by
 refine ⟨⟨fun x hx => by simp at hx,fun x hx => by simp at hx,fun x hx => by simp at hx; subst hx; exact hb,fun x hx => by simp at hx⟩,sound_box hd fun I ρ ac w hr => ?_⟩
 obtain ⟨z,h1,h2⟩:=zeroT_rep hz I w
 exact ⟨_,e,h2.L,by simp [execOp,ho,Instr.alloc,h1,newVar,newRow,newObj,Sem.run]⟩
end
section
variable {P : Program} {o : Oper} {st : St}
def bnd (st : St) (x : Option Operand) (dflt : Nat) : Option (Int × List (Nat × D)):=match x with
 | none => some (dflt,[])
 | some x => match rd st x with
  | some (.held (.inl (.int k n))) => some (n,rds x (vD (.int k n)))
  | _ => none
theorem bnd_ok {x : Option Operand} {dflt : Nat} {n : Int} {rs : List (Nat × D)} (h : bnd st x dflt = some (n,rs)) : ∀ y ∈ rs,st.F.tm y.1 = some y.2:=by
 unfold bnd at h
 split at h
 ·cases h; intro y hy; simp at hy
 ·split at h
  ·rename_i hx; cases h; exact rd_ok hx
  ·cases h
theorem bnd_rep {x : Option Operand} {dflt : Nat} {n : Int} {rs : List (Nat × D)} (h : bnd st x dflt = some (n,rs)) {I : Still} {ρ : Nat → Option Nat} {a : Act} {w : World} (hr : ∀ y ∈ rs,∃ u,a.tmps[y.1]? = some u ∧ AVRep I ρ w y.2 u) :
  (x = none ∧ n = dflt) ∨ ∃ k y,x = some y ∧ a.eval y = .int k n:=by
 unfold bnd at h
 split at h
 ·cases h; exact .inl ⟨rfl,rfl⟩
 ·split at h
  ·rename_i k n' hx
   cases h
   exact .inr ⟨k,_,rfl,plain_of (rd_rep hx hr)⟩
  ·cases h
theorem ok_slc {t e : TypeId} {z : Nat} {x : Operand} {lo hi : Option Operand} (ho : o.op = .slice t x lo hi none) (ht : P.underlying t = some (.slice e)) (hz : sizeT P e = some z) {d : Nat} (hd : o.dst = some d) {l : D} {es : List D} (hx : rd st x = some l) (hl : asS z l = some es) {m n : Int} {r1 r2 : List (Nat × D)}
  (h1 : bnd st lo 0 = some (m,r1)) (h2 : bnd st hi es.length = some (n,r2)) (hm : 0 ≤ m) (hmn : m ≤ n) (hn : n ≤ es.length) :
  (vEv d (rds x l ++ (r1 ++ r2)) (sD z ((es.take n.toNat).drop m.toNat))).ok st.F ∧ Sound P o (vEv d (rds x l ++ (r1 ++ r2)) (sD z ((es.take n.toNat).drop m.toNat))):=by
 refine ⟨vEv_ok (app_rs (rd_ok hx) (app_rs (bnd_ok h1) (bnd_ok h2))),sound_val hd (rb:=[]) fun I ρ ac w hr _ => ?_⟩
 have hr0 : ∀ y ∈ r1 ++ r2,∃ u,ac.tmps[y.1]? = some u ∧ AVRep I ρ w y.2 u:=fun y hy => hr y (List.mem_append_right _ hy)
 have q0:=asS_av hl (rd_rep hx (fun y hy => hr y (List.mem_append_left _ hy)))
 have q1:=bnd_rep h1 (fun y hy => hr0 y (List.mem_append_left _ hy))
 have q2:=bnd_rep h2 (fun y hy => hr0 y (List.mem_append_right _ hy))
 obtain ⟨ad,cap,hu,U,hle,hno,hcm,hsz,hc,hcr⟩:=q0.invS
 ·have hncap : n ≤ (cap : Int):=by omega
  have hn0 : 0 ≤ n:=by omega
  have hb : (Instr.sliceBounds true es.length cap (lo.map ac.eval) (hi.map ac.eval) none).run P w = .ok (m.toNat,n.toNat,cap) w:=by
   have e1 : m.toNat ≤ n.toNat:=by omega
   rcases q1 with ⟨rfl,rfl⟩ | ⟨k1,y1,rfl,q1⟩ <;> rcases q2 with ⟨rfl,rfl⟩ | ⟨k2,y2,rfl,q2⟩
   ·simp [Instr.sliceBounds]
   ·simp [Instr.sliceBounds,Instr.sliceBound,asIntOf,q2,hn0,hncap]
   ·simp [Instr.sliceBounds,Instr.sliceBound,asIntOf,q1,hm]
    omega
   ·have : m ≤ max n 0:=by omega
    simp [Instr.sliceBounds,Instr.sliceBound,asIntOf,q1,q2,hm,hn0,hncap,this]
  refine ⟨.slice (if cap = m.toNat then ad else ad.map (·.add (m.toNat * z))) (n.toNat - m.toNat) (cap - m.toNat),?_,.inl (.inl ?_)⟩
  ·simp only [execOp,ho,Instr.sliceAt,Instr.slice,Sem.run_bind,run_underlying ht,Result.andThen_ok,hu,hb,run_sizeOf hz,Sem.run_pure,Option.map_none]
  ·have hlen : ((es.take n.toNat).drop m.toNat).length = n.toNat - m.toNat:=by simp; omega
   have hget : ∀ i c,((es.take n.toNat).drop m.toNat)[i]? = some c → es[m.toNat + i]? = some c:=by
    intro i c h
    rw [List.getElem?_drop,List.getElem?_take] at h
    split at h
    ·exact h
    ·cases h
   rw [← hlen]
   refine CRep.s ⟨fun i j => U (m.toNat + i) j,by rw [hlen]; omega,fun q => ?_,by omega,fun c hc => hsz c (List.mem_of_mem_take (List.mem_of_mem_drop hc)),fun hne => ?_,fun i j c l' hc hl' => hcr _ j c l' (hget i c hc) hl'⟩
   ·split at q
    ·have:=hno q; omega
    ·cases ad with
     | none => have:=hno rfl; omega
     | some d => simp at q
   ·have hpos : 0 < n.toNat - m.toNat:=by rw [← hlen]; exact List.length_pos_iff.2 hne
    obtain ⟨b,off,rfl,hcell⟩:=hc (by intro q; subst q; simp at hn; omega)
    refine ⟨b,off + m.toNat * z,by rw [if_neg (by omega)]; simp [Addr.add_lit],fun i j hi hj => ?_⟩
    rw [hlen] at hi
    have:=hcell (m.toNat + i) j (by omega) hj
    rw [show off + (m.toNat + i) * z + j = off + m.toNat * z + i * z + j by rw [Nat.add_mul]; omega] at this
    exact this
theorem fold_over (off : Nat) : ∀ (vs : List Value) (k : Nat) (cs : Array Value),off + k + vs.length ≤ cs.size →
  ((vs.zipIdx k).foldl (fun (cs : Array Value) (p : Value × Nat) => cs.setIfInBounds (off + p.2) p.1) cs).toList = over cs.toList (off + k) vs
 | [],k,cs,_ => by simp [over]
 | v :: r,k,cs,h => by
  rw [List.zipIdx_cons,List.foldl_cons,fold_over off r (k + 1) _ (by simp at h ⊢; omega)]
  simp only [List.length_cons] at h
  have hlt : off + k < cs.toList.length:=by simp; omega
  simp only [over,Array.toList_setIfInBounds,List.length_cons]
  rw [show off + (k + 1) = off + k + 1 by omega,show off + k + 1 + r.length = off + k + (r.length + 1) by omega]
  rw [List.take_set,List.drop_set,if_pos (by omega)]
  rw [List.take_add_one,List.getElem?_eq_getElem hlt]
  simp only [Option.toList_some,List.set_append,List.length_take]
  rw [if_neg (by omega)]
  rw [show off + k - min (off + k) cs.toList.length = 0 by omega]
  simp
theorem fill_cons (place : Nat → Option (Nat × Nat)) (cells : Array Value) (i : Nat) (v : Value) (rest : List (Nat × Value)) {off : Nat} (hp : place i = some (off,v.cells.size)) (hl : off + v.cells.size ≤ cells.size) :
  Instr.fill place cells ((i,v) :: rest) = Instr.fill place (over cells.toList off v.cells.toList).toArray rest:=by
 rw [Instr.fill]
 simp only [hp]
 rw [if_neg (by simp; omega)]
 congr 1
 have:=fold_over off v.cells.toList 0 cells (by simp; omega)
 simp only [Nat.add_zero] at this
 rw [← this]
 rw [← Array.foldl_toList]
 simp [Array.toList_zipIdx]
def fillA : List D → List (Nat × Nat) → List D → Option (List D)
 | zs,[],[] => some zs
 | zs,(off,n) :: ps,c :: cs => if (cellsD c).length = n ∧ off + n ≤ zs.length then fillA (over zs off (cellsD c)) ps cs else none
 | _,_,_ => none
theorem fill_rep {I : Still} {w : World} {place : Nat → Option (Nat × Nat)} : ∀ (is : List Nat) (ps : List (Nat × Nat)) (cs : List D) (vs : List Value) (zs rs : List D) (us : List Value),is.map place = ps.map some → fillA zs ps cs = some rs → Vals I w cs vs → Row I w zs us →
  ∃ us',Instr.fill place us.toArray (is.zip vs) = some us'.toArray ∧ Row I w rs us'
 | [],[],[],vs,zs,rs,us,_,hf,_,hr => by
  simp [fillA] at hf; subst hf
  exact ⟨us,by simp [Instr.fill],hr⟩
 | i :: is,(off,n) :: ps,c :: cs,v :: vs,zs,rs,us,hp,hf,hv,hr => by
  simp only [fillA] at hf
  split at hf
  ·rename_i hc
   simp only [List.map_cons,List.cons.injEq] at hp
   have h1:=(hv.2 0 c v (by simp) (by simp)).row
   have h2 : Vals I w cs vs:=⟨by have:=hv.1; simpa using this,fun j x u hx hu => hv.2 (j + 1) x u (by simpa using hx) (by simpa using hu)⟩
   have hsz : v.cells.size = n:=by rw [← Array.length_toList,← h1.1]; exact hc.1
   rw [List.zip_cons_cons,fill_cons place us.toArray i v (is.zip vs) (off:=off) (by rw [hp.1,hsz]) (by simp [hsz]; rw [← hr.1]; exact hc.2)]
   exact fill_rep is ps cs vs _ rs _ hp.2 hf h2 (over_row hr h1 off)
  ·cases hf
 | [],[],c :: cs,_,_,_,_,_,hf,_,_ => by simp [fillA] at hf
 | [],_ :: _,_,_,_,_,_,hp,_,_,_ => by simp at hp
 | _ :: _,[],_,_,_,_,_,hp,_,_,_ => by simp at hp
 | _ :: _,_ :: _,[],_,_,_,_,_,hf,_,_ => by simp [fillA] at hf
 | _ :: _,_ :: _,_ :: _,[],_,_,_,_,_,hv,_ => by have:=hv.1; simp at this
def placesT (P : Program) (fs : List Field) : Option (List (Nat × Nat)):=fs.mapM fun f => (sizeT P f.type).map fun n => (f.offset,n)
theorem run_places (fs : List Field) (w : World) : ∀ {ps : List (Nat × Nat)},placesT P fs = some ps → (fs.mapM fun f => do pure (f.offset,← sizeOf f.type) : Sem (List (Nat × Nat))).run P w = .ok ps w:=by
 induction fs with
 | nil => intro ps h; simp [placesT] at h; subst h; simp
 | cons f r ih =>
  intro ps h
  simp only [placesT,List.mapM_cons,Option.bind_eq_bind,Option.bind_eq_some_iff,Option.map_eq_some_iff] at h
  obtain ⟨x,⟨n,hn,rfl⟩,qs,hq,h⟩:=h
  cases h
  have:=ih (ps:=qs) hq
  simp only [List.mapM_cons,Sem.run_bind,run_sizeOf hn,Result.andThen_ok,Sem.run_pure,this]
theorem run_toArray {α : Type} {m : Sem (List α)} {l : List α} {w : World} (h : m.run P w = .ok l w) : (List.toArray <$> m).run P w = .ok l.toArray w:=by
 show (m >>= fun x => pure x.toArray).run P w = _
 rw [Sem.run_bind,h]
 rfl
theorem ok_bld {t : TypeId} {fs : Array Field} {parts : Array (Nat × Operand)} {pl ps : List (Nat × Nat)} {zs : List D} (ho : o.op = .build t parts) (ht : P.underlying t = some (.struct fs)) (hz : zeroT P t = some zs) (hpl : placesT P fs.toList = some pl) (hps : (parts.toList.map (·.1)).map (fun i => pl[i]?) = ps.map some)
  {d : Nat} (hd : o.dst = some d) {cs : List D} (hx : rdC st (parts.toList.map (·.2)) = some cs) {rs : List D} (h : fillA zs ps cs = some rs) :
  (vEv d (rdsC (parts.toList.map (·.2)) cs) (aD rs)).ok st.F ∧ Sound P o (vEv d (rdsC (parts.toList.map (·.2)) cs) (aD rs)):=by
 refine ⟨vEv_ok (rdC_ok hx),sound_val hd (rb:=[]) fun I ρ ac w hr _ => ?_⟩
 obtain ⟨z,h1,h2⟩:=zeroT_rep hz I w
 have h3:=rdC_rep hx hr
 obtain ⟨us',h4,h5⟩:=fill_rep (place:=fun i => pl[i]?) (parts.toList.map (·.1)) ps cs _ zs rs _ hps h h3 h2
 refine ⟨.agg us'.toArray,?_,.inl (.inr ⟨_,_,rfl,rfl,h5⟩)⟩
 have hzip : (parts.toList.map (·.1)).zip ((parts.toList.map (·.2)).map ac.eval) = (parts.map fun (p : Nat × Operand) => (p.1,ac.eval p.2)).toList:=by
  simp only [Array.toList_map,List.map_map,List.zip_map',Function.comp_def]
 rw [hzip] at h4
 have hm : (fs.mapM fun f => do pure (f.offset,← sizeOf f.type) : Sem (Array (Nat × Nat))).run P w = .ok pl.toArray w:=by
  rw [Array.mapM_eq_mapM_toList]
  exact run_toArray (run_places (P:=P) fs.toList w hpl)
 have hf : ∀ i : Nat,pl.toArray[i]? = pl[i]?:=fun i => List.getElem?_toArray
 simp only [execOp,ho,Instr.build,Sem.run_bind,h1,Result.andThen_ok,run_underlying ht,hm,Sem.run_pure,hf]
 have h4' : Instr.fill (fun i => pl[i]?) z.cells (parts.map fun (p : Nat × Operand) => (p.1,ac.eval p.2)).toList = some us'.toArray:=by simpa using h4
 simp only [h4',Sem.run_pure,Result.andThen_ok]
theorem ok_call {f : FuncId} {xs : Array Operand} {ats : Array TypeId} {fn : Func} (ho : o.op = .call { callee:=.value (.func f),args:=xs,argTypes:=ats }) (hf : P.funcs[f]? = some fn) (hn : (fn.name == "runtime.NumGoroutine") = false) (hb : fn.body.isNone = false)
  {d : Nat} (hd : o.dst = some d) {cs cs' r : List D} (hx : rdC st xs.toList = some cs) (hle : ValsLe cs cs') (h : Told P f cs' r) :
  (vEv d (rdsC xs.toList cs) (res r)).ok st.F ∧ Sound P o (vEv d (rdsC xs.toList cs) (res r)):=by
 refine ⟨vEv_ok (rdC_ok hx),sound_call hd h fun I ρ ac w hr => ?_⟩
 refine ⟨_,hle.rep (rdC_rep hx hr),?_⟩
 have e : (xs.toList.map ac.eval).toArray = xs.map ac.eval:=by rw [← Array.toList_map]
 have hn' : ¬ fn.name = "runtime.NumGoroutine":=by simpa using hn
 have hb' : ¬ fn.body = none:=by intro q; rw [q] at hb; cases hb
 simp [execOp,ho,resolve,Act.eval,Deferred.ofValue,invoke,callFunc,hf,hn',hb',e]
theorem ok_row {t e : TypeId} {z : Nat} {i : TypeInfo} {zv : Value} {parts : Array (Nat × Operand)} {n : Nat} (ho : o.op = .buildSlice t n parts) (ht : P.underlying t = some (.slice e)) (hi : P.info? e = some i) (hsz : i.size = z) (hzv : i.zero = some zv) (hz0 : 0 < z) (hzs : zv.cells.size = z) (hpz : zv.cells.all plainV = true) (hps : parts.toList.map (·.1) = List.range n) (hbig : n * z ≤ 16777216)
  {d : Nat} (hd : o.dst = some d) {cs : List D} (hx : rdC st (parts.toList.map (·.2)) = some cs) (hcs : ∀ c ∈ cs,(cellsD c).length = z) :
  Ev.ok { rs:=rdsC (parts.toList.map (·.2)) cs,ws:=some (d,some (sD z cs)),cf:=[(d,none)],sf:=some ((d,none),(e,z,none)) } st.F ∧ Sound P o { rs:=rdsC (parts.toList.map (·.2)) cs,ws:=some (d,some (sD z cs)),cf:=[(d,none)],sf:=some ((d,none),(e,z,none)) }:=by
 have hpl : parts.toList.length = n:=by have:=congrArg List.length hps; simpa using this
 have hlen : cs.length = n:=by
  have : ∀ (xs : List Operand) (cs : List D),rdC st xs = some cs → cs.length = xs.length:=by
   intro xs
   induction xs with
   | nil => intro cs h; simp [rdC] at h; subst h; rfl
   | cons x r ih =>
    intro cs h
    simp only [rdC] at h
    split at h
    ·split at h
     ·obtain ⟨cs',h1,rfl⟩:=Option.map_eq_some_iff.1 h
      simp [ih cs' h1]
     ·cases h
    ·cases h
  rw [this _ cs hx,List.length_map,hpl]
 refine ⟨⟨rdC_ok hx,fun x hx => by simp at hx,fun x hx => by simp at hx,fun x hx => by simp at hx⟩,sound_row hd hz0 hcs fun I ρ ac w hr => ?_⟩
 ·have h3:=rdC_rep hx hr
  have hsize : sizeT P e = some z:=by simp [sizeT,hi,hsz]
  -- the cells before they are filled
  obtain ⟨us0,hu0,hl0⟩ : ∃ us0 : List Value,((Array.range (n * z)).map (fun k => zv.cells[k % zv.cells.size]!)) = us0.toArray ∧ us0.length = n * z:=⟨((Array.range (n * z)).map (fun k => zv.cells[k % zv.cells.size]!)).toList,by rw [Array.toArray_toList],by simp⟩
  have hrow0 : Row I w (us0.map vD) us0:=by
   refine ⟨by simp,fun j c u hc hu => ?_⟩
   rw [List.getElem?_map,hu] at hc
   cases hc
   refine CRep.v ?_
   have hmem : u ∈ us0.toArray:=by simpa using List.mem_of_getElem? hu
   rw [← hu0] at hmem
   obtain ⟨k,_,rfl⟩:=Array.mem_map.1 hmem
   have hlt : k % zv.cells.size < zv.cells.size:=Nat.mod_lt _ (by omega)
   rw [getElem!_pos zv.cells _ hlt]
   exact Array.all_eq_true'.1 hpz _ (Array.getElem_mem hlt)
  have hfa : ∀ (m : Nat) (ds : List D) (zs : List D),(∀ c ∈ ds,(cellsD c).length = z) → zs.length = (m + ds.length) * z → fillA zs ((List.range' m ds.length).map (fun i => (i * z,z))) ds = some (zs.take (m * z) ++ ds.flatMap cellsD):=by
   intro m ds
   induction ds generalizing m with
   | nil => intro zs _ hl; simp at hl; simp only [List.length_nil,List.range'_zero,List.map_nil,fillA,List.flatMap_nil,List.append_nil]; rw [List.take_of_length_le (by omega)]
   | cons c r ih =>
    intro zs hc hl
    have hcl:=hc c (by simp)
    simp only [List.length_cons] at hl ⊢
    have hle : m * z + z ≤ zs.length:=by rw [hl,Nat.add_mul,Nat.add_mul]; omega
    rw [List.range'_succ,List.map_cons,fillA,if_pos ⟨hcl,hle⟩,ih (m + 1) _ (fun c hc' => hc c (by simp [hc'])) (by rw [over_len (by rw [hcl]; exact hle),hl]; congr 1; omega)]
    congr 1
    rw [List.flatMap_cons,← List.append_assoc]
    congr 1
    simp only [over]
    rw [Nat.add_mul,Nat.one_mul,List.take_append_of_le_length (by simp; omega),List.take_of_length_le (by simp; omega)]
  have hf:=hfa 0 cs (us0.map vD) hcs (by simp [hl0,hlen])
  obtain ⟨us',h4,h5⟩:=fill_rep (place:=fun i => some (i * z,z)) (parts.toList.map (·.1)) _ cs _ _ _ _ (by rw [hps,hlen,List.range_eq_range',List.map_map]; rfl) hf h3 hrow0
  have hzip : (parts.toList.map (·.1)).zip ((parts.toList.map (·.2)).map ac.eval) = (parts.map fun (p : Nat × Operand) => (p.1,ac.eval p.2)).toList:=by
   simp only [Array.toList_map,List.map_map,List.zip_map',Function.comp_def]
  rw [hzip] at h4
  simp only [Nat.zero_mul,List.take_zero,List.nil_append] at h5
  have hflat : (cs.flatMap cellsD).length = n * z:=by
   rw [← hlen]
   have : ∀ ds : List D,(∀ c ∈ ds,(cellsD c).length = z) → (ds.flatMap cellsD).length = ds.length * z:=by
    intro ds
    induction ds with
    | nil => simp
    | cons c r ih => intro hc; rw [List.flatMap_cons,List.length_append,hc c (by simp),ih (fun c hc' => hc c (by simp [hc'])),List.length_cons,Nat.add_mul]; omega
   exact this cs hcs
  have hul : us'.length = n * z:=by rw [← h5.1,hflat]
  refine ⟨us',n,w.alloc (.cells us'.toArray e),hul,by simp [hlen],?_,?_,(Below.refl _ _).alloc (Nat.le_refl _) _,by simp,heap_alloc_new _ _,?_⟩
  ·unfold maxLen
   have : n ≤ n * z:=Nat.le_mul_of_pos_right _ hz0
   omega
  ·rw [hlen,List.take_of_length_le (by omega)]; exact h5
  ·have h4' : Instr.fill (fun i => some (i * z,z)) us0.toArray (List.map (fun x => (x.1,ac.eval x.2)) parts.toList) = some us'.toArray:=by simpa using h4
   have hzr : (zeroValue e).run P w = .ok zv w:=by simp [zeroValue,typeInfo,hi,hzv]
   have hnb : ¬ n * z > 2 ^ 24:=by omega
   by_cases h0 : n * z = 0
   ·have e0 : us0 = []:=List.eq_nil_of_length_eq_zero (by omega)
    have e1 : ∀ f : Nat → Value,(Array.range (n * z)).map f = us0.toArray:=by intro f; rw [h0,e0]; simp
    simp [execOp,ho,Instr.buildSlice,run_underlying ht,run_sizeOf hsize,hnb,e1,h4',newRow,hlen]
    simp [h0]
   ·simp [execOp,ho,Instr.buildSlice,run_underlying ht,run_sizeOf hsize,hnb,h0,hzr,hu0,h4',newRow,hlen]
end
end Go.Proofs.YtgaofjiidedcbacGreat.ab
