import Derived.Test.YtgaofjiidedcbadLOwnLane
import Derived.Test.YtgaofjiidedcbadM34
import Derived.Test.YtgaofjiidedcbadM37
import Derived.Test.YtgaofjiidedcbadProg
import Derived.Shelf.Spec.SlicesInsertGrow
import Derived.Shelf.Slices.SearchI
import Derived.Shelf.Slices.Empties
import Derived.Test.YtgaofjiidedcbadM19
import Derived.Test.YtgaofjiidedcbadM18
set_option maxHeartbeats 4000000
set_option linter.unusedVariables false
set_option linter.unusedSimpArgs false
namespace Go.Proofs.Ytgaofjiidedcbad.ab
set_option maxRecDepth 10000
open Go Go.RowKit
open mth leaf
theorem list17 {α : Type} {l : List α} (h : l.length = 17) : ∃ a0 a1 a2 a3 a4 a5 a6 a7 a8 a9 a10 a11 a12 a13 a14 a15 a16,l = [a0,a1,a2,a3,a4,a5,a6,a7,a8,a9,a10,a11,a12,a13,a14,a15,a16]:=by
 match l,h with
 | [a0,a1,a2,a3,a4,a5,a6,a7,a8,a9,a10,a11,a12,a13,a14,a15,a16],_ => exact ⟨a0,a1,a2,a3,a4,a5,a6,a7,a8,a9,a10,a11,a12,a13,a14,a15,a16,rfl⟩
theorem rep_one {I : Still} {w : World} {base n : Nat} {xs : List UInt8} {v : Value} (h : w.ownsRow base 5 1 v n (xs.map B)) (hI : ∀ g j,v.ownBlock = some g → I g j) : CRep I w (sD 1 (xs.map encB)) v:=by
 obtain ⟨h1,h2⟩:=h
 rw [List.length_map,Nat.mul_one] at h1
 rcases h2 with ⟨rfl,rfl⟩ | ⟨g,cap,cur,rfl,hb,hg,hn,hm,hc,ht⟩
 ·rw [List.length_eq_zero_iff.1 h1]
  exact nil_rep 1
 ·have hx : ∀ i (hi : i < xs.length),w.cell? ⟨g,i,none⟩ = some (B xs[i]):=fun i hi => by
   have : (cur.toList.take (n * 1))[i]? = some (B xs[i]):=by rw [ht]; simp [hi]
   rw [List.getElem?_take] at this
   split at this
   ·rw [cell_of_row w g i cur 5 (0,0) hg]; simpa using this
   ·cases this
  have hr:=CRep.s (I:=I) (w:=w) (z:=1) (es:=xs.map encB) (a:=some ⟨g,0,none⟩) (cap:=cap) ⟨fun i _ => B (xs.getD i 0),(by rw [List.length_map]; omega),(fun e => by cases e),hm,fun e he => ?_,fun _ => ⟨g,0,rfl,fun i j hi hj => ?_⟩,fun i j e l he hl => ?_⟩
  ·rw [List.length_map,h1] at hr; exact hr
  ·obtain ⟨x,_,rfl⟩:=List.mem_map.1 he; rfl
  ·rw [List.length_map] at hi
   obtain rfl : j = 0:=by omega
   refine ⟨?_,hI _ _ rfl⟩
   rw [show 0 + i * 1 + 0 = i by omega,hx i hi]
   simp [List.getD,hi]
  ·rw [List.getElem?_map] at he
   obtain ⟨x,hx',rfl⟩:=Option.map_eq_some_iff.1 he
   have : j = 0 ∧ l = encB x:=by
    cases j with
    | zero => simp [cellsD,encB] at hl; exact ⟨rfl,hl.symm⟩
    | succ k => simp [cellsD,encB] at hl
   obtain ⟨rfl,rfl⟩:=this
   show CRep I w (encB x) (B (xs.getD i 0))
   rw [show B (xs.getD i 0) = .int .u8 (x.toNat : Int) by simp [List.getD,hx',B]]
   exact CRep.v rfl
theorem deep_own {I : Still} {L : Nat → Prop} {w : World} {base : Nat} {u : Value} {xs : List Value} {p : List (List UInt8)} (h : Deep w base u p.length xs p) (hI : ∀ x ∈ xs,∀ g j,x.ownBlock = some g → I g j) (hn : ∀ g j,u.ownBlock = some g → ¬ I g j) (hL : ∀ g,base ≤ g → ¬ L g) :
  Own I (fun _ => none) L w 26 (1,some (encPk p)) u:=by
 have hlen : xs.length = p.length:=by have:=h.own.1; omega
 refine ⟨p.length,xs,⟨h.own.1,h.own.2.imp id fun ⟨g,cap,cur,k1,k2,k3⟩ => ⟨g,cap,cur,k1,Nat.zero_le _,k3⟩⟩,fun g hg => ⟨hL g (h.own.lt g hg).1,fun j _ => hn g j hg,fun b q => by cases q⟩,fun es he => ?_⟩
 cases he
 refine ⟨(len_pk p).symm,fun e he => ?_,by rw [len_pk,hlen,Nat.mul_one]; exact Nat.le_refl _,fun i j e l he hl => ?_⟩
 ·obtain ⟨b,_,rfl⟩:=List.mem_map.1 he; rfl
 ·unfold encPk at he
  rw [List.getElem?_map] at he
  obtain ⟨b,hb,rfl⟩:=Option.map_eq_some_iff.1 he
  have hi : i < p.length:=(List.getElem?_eq_some_iff.1 hb).1
  have : j = 0:=by have:=(List.getElem?_eq_some_iff.1 hl).1; simp [cellsD] at this; omega
  subst this
  simp [cellsD] at hl
  subst hl
  obtain ⟨x,q1,q2⟩:=h.el i b hi hb
  exact ⟨x,by rw [Nat.mul_one,Nat.add_zero]; exact q1,rep_one q2 (fun g j hg => hI x (List.mem_of_getElem? q1) g j hg)⟩
def ownLn (l : Ln) : List D :=
 [sD 2 (encMl l.s.queue),vI l.s.next,vI l.s.p0,vI l.s.p1,vI l.s.p2,sD 6 (encCl l.s.flight),vI l.s.turn,vI l.r.next,sD 1 (l.r.early.map vI),vI l.r.p0,vI l.r.p1,vI l.r.p2,sD 6 (encCl l.r.hold),sD 2 (encMl l.r.told),vB l.r.owes,xD,xD]
def rowsL (p q : List (List UInt8)) : List (Nat × Nat × Pay):=[(15,26,(1,some (encPk p))),(16,26,(1,some (encPk q)))]
theorem landL_ownX (l : Ln) (hg : GoodL l) : ToldX Try.prog 24 [aD (encLn l)] [] [aD (ownLn l)] (upR (rowsL l.there l.back)):=by
 intro w I vs v hv hlt hv0 _ _
 obtain ⟨v1,rfl⟩ : ∃ v1,vs = [v1]:=by
  match vs,hv.1 with
  | [v1],_ => exact ⟨v1,rfl⟩
  | [],q => simp at q
  | _ :: _ :: _,q => simp at q
 simp only [List.getElem?_cons_zero,Option.some.injEq] at hv0
 subst hv0
 obtain ⟨us,rfl,hrow⟩:=CVRep.agg (hv.2 0 _ _ rfl rfl)
 obtain ⟨a0,a1,a2,a3,a4,a5,a6,a7,a8,a9,a10,a11,a12,a13,a14,a15,a16,rfl⟩:=list17 (by rw [← hrow.1]; rfl)
 refine (laneOwn_walk l hg a0 a1 a2 a3 a4 a5 a6 a7 a8 a9 a10 a11 a12 a13 a14 a15 a16 w I hrow hlt).mono fun e w' ⟨s,r,u,v,xs,ys,top,mid,he,hs,hr,h1,h2,h3,hR,hD,hU,hE,hb⟩ => ?_
 have hUe:=deep_under hE (Nat.le_refl _)
 have hx5 : ∀ x ∈ xs,∀ g,x.ownBlock = some g → top ≤ g ∧ g < mid:=fun x hx g hg' => by
  obtain ⟨j,hj,rfl⟩:=List.mem_iff_getElem.1 hx
  have hjl : j < l.there.length:=by have:=hD.own.1; omega
  obtain ⟨x',q1,q2⟩:=hD.el j l.there[j] hjl (List.getElem?_eq_getElem hjl)
  rw [List.getElem?_eq_getElem hj] at q1; cases q1
  exact ⟨(q2.lt g hg').1,hU.2 _ hx g hg'⟩
 have hy5 : ∀ x ∈ ys,∀ g,x.ownBlock = some g → mid ≤ g ∧ g < w'.heap.size:=fun x hx g hg' => by
  obtain ⟨j,hj,rfl⟩:=List.mem_iff_getElem.1 hx
  have hjl : j < l.back.length:=by have:=hE.own.1; omega
  obtain ⟨x',q1,q2⟩:=hE.el j l.back[j] hjl (List.getElem?_eq_getElem hjl)
  rw [List.getElem?_eq_getElem hj] at q1; cases q1
  exact ⟨(q2.lt g hg').1,hUe.2 _ hx g hg'⟩
 have hxt : ∀ x ∈ xs,∀ g,x.ownBlock = some g → u.ownBlock ≠ some g:=fun x hx g hg' => by
  obtain ⟨j,hj,rfl⟩:=List.mem_iff_getElem.1 hx
  have hjl : j < l.there.length:=by have:=hD.own.1; omega
  obtain ⟨x',q1,q2⟩:=hD.el j l.there[j] hjl (List.getElem?_eq_getElem hjl)
  rw [List.getElem?_eq_getElem hj] at q1; cases q1
  exact owns_type hD.own q2 (by decide) hg'
 have hyt : ∀ x ∈ ys,∀ g,x.ownBlock = some g → v.ownBlock ≠ some g:=fun x hx g hg' => by
  obtain ⟨j,hj,rfl⟩:=List.mem_iff_getElem.1 hx
  have hjl : j < l.back.length:=by have:=hE.own.1; omega
  obtain ⟨x',q1,q2⟩:=hE.el j l.back[j] hjl (List.getElem?_eq_getElem hjl)
  rw [List.getElem?_eq_getElem hj] at q1; cases q1
  exact owns_type hE.own q2 (by decide) hg'
 let I' : Still:=fun b j => I b j ∨ (w.heap.size ≤ b ∧ b < top) ∨ (∃ x ∈ xs,x.ownBlock = some b) ∨ ∃ x ∈ ys,x.ownBlock = some b
 have hu : ∀ g j,u.ownBlock = some g → ¬ I' g j:=fun g j hg' hi => by
  have h4:=(hD.own.lt g hg').1
  have h5:=hU.1 g hg'
  rcases hi with hi | ⟨_,hi⟩ | ⟨x,hx,hi⟩ | ⟨x,hx,hi⟩
  ·have:=hlt g j hi; omega
  ·omega
  ·exact hxt x hx g hi hg'
  ·have:=(hy5 x hx g hi).1; omega
 have hv : ∀ g j,v.ownBlock = some g → ¬ I' g j:=fun g j hg' hi => by
  have h4:=(hE.own.lt g hg').1
  rcases hi with hi | ⟨_,hi⟩ | ⟨x,hx,hi⟩ | ⟨x,hx,hi⟩
  ·have:=hlt g j hi; omega
  ·omega
  ·have:=(hx5 x hx g hi).2; omega
  ·exact hyt x hx g hi hg'
 have hsr : (s ++ r).length = 15:=by simp [hs,hr]
 have e15 : cellAt (.agg (s ++ r ++ [u,v]).toArray) (some 15) = some u:=by
  simp only [cellAt,List.getElem?_toArray]
  rw [List.getElem?_append_right (by omega),hsr]; rfl
 have e16 : cellAt (.agg (s ++ r ++ [u,v]).toArray) (some 16) = some v:=by
  simp only [cellAt,List.getElem?_toArray]
  rw [List.getElem?_append_right (by omega),hsr]; rfl
 obtain ⟨x1,y1,f1⟩:=owns_form hD.own
 obtain ⟨x2,y2,f2⟩:=owns_form hE.own
 refine ⟨_,I',he,fun b j hi => ⟨.inl hi,hb.cell (p:=⟨b,j,none⟩) (hlt b j hi)⟩,fun b j hi => ?_,?_,?_,?_,⟨hb.os,hb.tape,hb.output,hb.size,fun k hk => hb.block k hk.1⟩⟩
 ·rcases hi with hi | ⟨q1,q2⟩ | ⟨x,hx,hi⟩ | ⟨x,hx,hi⟩
  ·exact .inl hi
  ·exact .inr ⟨.inl q1,by omega⟩
  ·have:=hx5 x hx b hi; exact .inr ⟨.inl (by omega),by omega⟩
  ·have:=hy5 x hx b hi; exact .inr ⟨.inl (by omega),by omega⟩
 ·refine .inr ⟨ownLn l,s ++ r ++ [u,v],rfl,rfl,?_⟩
  have h5 : Row I' w' (encSd l.s ++ encRv l.r) (s ++ r):=hR.keep (fun b j hi => hi.imp id .inl) (fun _ _ _ => rfl)
  have h6 : Row I' w' [xD,xD] [u,v]:=(Row.single (CRep.x (by rw [f1]; rfl))).app (Row.single (CRep.x (by rw [f2]; rfl)))
  exact h5.app h6
 ·intro x hx
  simp only [upR,rowsL,List.map_cons,List.map_nil,List.mem_cons,List.not_mem_nil,or_false] at hx
  rcases hx with rfl | rfl
  ·exact ⟨u,e15,deep_own hD (fun x hx g j hg' => .inr (.inr (.inl ⟨x,hx,hg'⟩))) hu (fun g hg' q => by have:=q.1; omega)⟩
  ·exact ⟨v,e16,deep_own hE (fun x hx g j hg' => .inr (.inr (.inr ⟨x,hx,hg'⟩))) hv (fun g hg' q => by have:=q.1; omega)⟩
 ·intro x hx y hy a b g q1 q2 q3 q4
  simp only [upR,rowsL,List.map_cons,List.map_nil,List.mem_cons,List.not_mem_nil,or_false] at hx hy
  rcases hx with rfl | rfl
  ·rcases hy with rfl | rfl
   ·rfl
   ·rw [e15] at q1; rw [e16] at q2; cases q1; cases q2
    have:=hU.1 g q3; have:=(hE.own.lt g q4).1; omega
  ·rcases hy with rfl | rfl
   ·rw [e16] at q1; rw [e15] at q2; cases q1; cases q2
    have:=hU.1 g q4; have:=(hE.own.lt g q3).1; omega
   ·rfl
set_option maxRecDepth 10000
theorem way_walk (back : Bool) (a : Addr) (w : World) : Calls Try.prog 49 #[.pointer (some ⟨a.block,0,none⟩),.bool back] w fun e w' => e = .returned (.pointer (some ⟨a.block,(if back = true then 16 else 15),none⟩)) ∧ Below w.heap.size w w':=by
 cases back with
 | true =>
  go_enter Try.func49,Try.ntmps49
  go_wp2_with fail
  go_ret
  exact ⟨rfl,Below.refl _ _⟩
 | false =>
  go_enter Try.func49,Try.ntmps49
  go_wp2_with fail
  go_ret
  exact ⟨rfl,Below.refl _ _⟩
theorem way_toldP (back : Bool) : ToldP Try.prog 49 [vB back] 0 (if back = true then 16 else 15):=by
 intro w I vs g hv hlt
 obtain ⟨x,rfl⟩ : ∃ x,vs = [x]:=by
  match vs,hv.1 with
  | [x],_ => exact ⟨x,rfl⟩
  | [],q => simp at q
  | _ :: _ :: _,q => simp at q
 have hx : x = .bool back:=((hv.2 0 _ _ rfl rfl).leaf (fun cs e => by cases e)).invV.1
 subst hx
 exact way_walk back ⟨g,0,none⟩ w
theorem obl_adr {P : Program} {f : Nat} {cs : List D} {off off' : Nat} {l : List (Nat × List D × List D)} (h : ToldP P f cs off off') (hl : Obl P l) : Obl P ((f,cs,[mP off off']) :: l):=⟨⟨cs,ValsLe.refl _,h⟩,hl⟩
theorem obl_updL {P : Program} {f : Nat} {cs es es' : List D} {z : Nat} {l : List (Nat × List D × List D)} (h : ToldU P f cs z es es') (hl : Obl P l) : Obl P ((f,cs,[mU z es es']) :: l):=⟨⟨cs,ValsLe.refl _,h⟩,hl⟩
theorem hasP_told (es : List D) (n : Int) : Told Try.prog 50 [sD 1 es,vI n] [vB (decide (0 ≤ n ∧ n < (es.length : Int)))]:=by
 refine told_lane_hasP rfl ?_
 by_cases h0 : 0 ≤ n
 ·by_cases h1 : n < (es.length : Int)
  ·rw [decide_eq_true ⟨h0,h1⟩]
   refine wk (an2 @h0 @h1) ?_
   exact ValsLe.refl _
  ·rw [decide_eq_false (fun q => h1 q.2)]
   refine wk (an2 @h0 @h1) ?_
   exact ValsLe.refl _
 ·rw [decide_eq_false (fun q => h0 q.1)]
  refine wk @h0 ?_
  exact ValsLe.refl _
theorem hasB_told (es : List D) (n : Int) : Told Try.prog 60 [sD 1 es,vI n] [vB (decide (0 ≤ n ∧ n < (es.length : Int)))]:=by
 refine told_lane_hasB rfl ?_
 by_cases h0 : 0 ≤ n
 ·by_cases h1 : n < (es.length : Int)
  ·rw [decide_eq_true ⟨h0,h1⟩]
   refine wk (an2 @h0 @h1) ?_
   exact ValsLe.refl _
  ·rw [decide_eq_false (fun q => h1 q.2)]
   refine wk (an2 @h0 @h1) ?_
   exact ValsLe.refl _
 ·rw [decide_eq_false (fun q => h0 q.1)]
  refine wk @h0 ?_
  exact ValsLe.refl _
theorem join_toldI (p : List (List UInt8)) (x : List UInt8) : ToldI Try.prog 56 [sD 1 (encPk p),sD 1 (x.map encB)] 0 none 26 (1,none) [sD 1 (encPk (joinP p x))]:=by
 refine toldI_lane_join rfl ?_
 unfold joinP
 by_cases h : 5 < p.length
 ·rw [if_pos h]
  have h1 : (6 : Int) ≤ (p.length : Int):=by omega
  simp only [startT]
  refine wk (an2 @h1 @len_pk) ?_
  exact ValsLe.refl _
 ·rw [if_neg h]
  have h1 : ¬ (6 : Int) ≤ (p.length : Int):=by omega
  have h2 : (p.length + 1) * 24 ≤ 140737488355328:=by omega
  rw [pk_snoc]
  simp only [startT]
  refine wk (an3 @h1 @h2 @len_pk) ?_
  exact ValsLe.refl _
open Go.Shelf
set_option maxRecDepth 100000
def renI : Ren where
 f x:=match x with
  | 21 => 82
  | 27 => 90
  | 28 => 91
  | 35 => 93
  | 39 => 94
  | n => n
 t x:=match x with
  | 22 => 46
  | n => n
 g x:=x
theorem laysI : Lays2.n21 Try.prog renI where
 mixed:=by kernel_rfl
 f21:=by kernel_rfl
 f27:=by kernel_rfl
 f28:=by kernel_rfl
 f35:=by kernel_rfl
 f39:=by kernel_rfl
 t0:=Try.underlying0
 a0:=Try.isAgg0
 z0:=Try.sizeOf0
 v0:=Try.zeroValue0
 t3:=Try.underlying3
 a3:=Try.isAgg3
 z3:=Try.sizeOf3
 v3:=Try.zeroValue3
 t4:=Try.underlying4
 a4:=Try.isAgg4
 z4:=Try.sizeOf4
 v4:=Try.zeroValue4
 t22:=Try.underlying46
 a22:=Try.isAgg46
 z22:=Try.sizeOf46
 v22:=Try.zeroValue46
 i3:=by kernel_rfl
def renB : Ren where
 f x:=match x with
  | 25 => 81
  | 31 => 88
  | 32 => 89
  | 37 => 92
  | n => n
 t x:=match x with
  | 22 => 46
  | 40 => 117
  | n => n
 g x:=x
theorem laysB : Lays2.n25 Try.prog renB where
 mixed:=by kernel_rfl
 f25:=by kernel_rfl
 f31:=by kernel_rfl
 f32:=by kernel_rfl
 f37:=by kernel_rfl
 t0:=Try.underlying0
 a0:=Try.isAgg0
 z0:=Try.sizeOf0
 v0:=Try.zeroValue0
 t3:=Try.underlying3
 a3:=Try.isAgg3
 z3:=Try.sizeOf3
 v3:=Try.zeroValue3
 t4:=Try.underlying4
 a4:=Try.isAgg4
 z4:=Try.sizeOf4
 v4:=Try.zeroValue4
 t22:=Try.underlying46
 a22:=Try.isAgg46
 z22:=Try.sizeOf46
 v22:=Try.zeroValue46
 t40:=Try.underlying117
 a40:=Try.isAgg117
 z40:=Try.sizeOf117
 v40:=Try.zeroValue117
theorem int_leaf {I : Still} {w : World} {n : Int} {u : Value} (h : CRep I w (vI n) u) : u = .int .i64 n:=h.invV.1
theorem ints_at {I : Still} {w : World} {l : List Int} {u : Value} (h : CRep I w (sD 1 (l.map vI)) u) : ∃ a cap,u = .slice a l.length cap ∧ l.length ≤ cap ∧ cap ≤ maxLen ∧ (l ≠ [] → ∃ b off,a = some ⟨b,off,none⟩ ∧ ∀ j,j < l.length → w.cell? ⟨b,off + j,none⟩ = some (.int .i64 (l.getD j 0))):=by
 obtain ⟨a,cap,hu,U,h1,h2,h3,h4,h5,h6⟩:=h.invS
 rw [List.length_map] at hu h1
 refine ⟨a,cap,hu,h1,h3,fun hne => ?_⟩
 obtain ⟨b,off,hb,hc⟩:=h5 (by simpa using hne)
 refine ⟨b,off,hb,fun j hj => ?_⟩
 have q:=(hc j 0 (by simpa using hj) (by omega)).1
 rw [Nat.mul_one,Nat.add_zero] at q
 rw [q]
 have:=int_leaf (h6 j 0 (vI l[j]) (vI l[j]) (by rw [List.getElem?_map,List.getElem?_eq_getElem hj]; rfl) rfl)
 rw [this,List.getD_eq_getElem?_getD,List.getElem?_eq_getElem hj,Option.getD_some]
theorem ints_rep {I : Still} {w : World} {l : List Int} {b cap : Nat} (hl : l.length ≤ cap) (hc : cap ≤ maxLen) (hw : ∀ j x,l[j]? = some x → w.cell? ⟨b,j,none⟩ = some (.int .i64 x)) (hI : ∀ j,I b j) : CRep I w (sD 1 (l.map vI)) (.slice (some ⟨b,0,none⟩) l.length cap):=by
 have e : l.length = (l.map vI).length:=by simp
 rw [e]
 refine CRep.s ⟨fun i j => .int .i64 (l.getD i 0),by simpa using hl,(fun e => by cases e),hc,fun e he => ?_,fun hne => ⟨b,0,rfl,fun i j hi hj => ⟨?_,hI _⟩⟩,fun i j e' c he hc => ?_⟩
 ·obtain ⟨x,_,rfl⟩:=List.mem_map.1 he; rfl
 ·have hj0 : j = 0:=by omega
  subst hj0
  have hi' : i < l.length:=by simpa using hi
  rw [show 0 + i * 1 + 0 = i by omega,hw i l[i] (List.getElem?_eq_getElem hi')]
  show _ = some (Value.int .i64 (l.getD i 0))
  rw [List.getD_eq_getElem?_getD,List.getElem?_eq_getElem hi',Option.getD_some]
 ·rw [List.getElem?_map] at he
  obtain ⟨x,hx,rfl⟩:=Option.map_eq_some_iff.1 he
  cases j with
  | succ j => simp [cellsD] at hc
  | zero =>
   simp only [cellsD,List.getElem?_cons_zero,Option.some.injEq] at hc
   subst hc
   show CRep I w (vI x) (.int .i64 (l.getD i 0))
   rw [List.getD_eq_getElem?_getD,hx,Option.getD_some]
   exact CRep.v rfl
theorem below_drewN' {w : World} (n : Nat) : Below w.heap.size w (w.drewN n):=⟨rfl,rfl,rfl,Nat.le_refl _,fun _ _ => rfl⟩
theorem bsearch_told (l : List Int) (x : Int) (hl : l.length ≤ 1000000) (hs : l.Pairwise (· ≤ ·)) : Told Try.prog 81 [sD 1 (l.map vI),vI x] [vI ((l.countP (· < x) : Nat) : Int),vB (l.contains x)]:=by
 intro w I vs hv hlt
 obtain ⟨s,y,rfl⟩ : ∃ s y,vs = [s,y]:=by
  match vs,hv.1 with
  | [s,y],_ => exact ⟨s,y,rfl⟩
  | [],q => simp at q
  | [_],q => simp at q
  | _ :: _ :: _ :: _,q => simp at q
 have hy : y = .int .i64 x:=((hv.2 1 _ _ rfl rfl).leaf (fun cs e => by cases e)).invV.1
 subst hy
 obtain ⟨a,cap,rfl,h1,h2,h3⟩:=ints_at ((hv.2 0 _ _ rfl rfl).leaf (fun cs e => by cases e))
 have hvals : ∀ (I' : Still) (w' : World) (n : Int) (q : Bool),RRep I' w' [vI n,vB q] (.tuple #[.int .i64 n,.bool q]):=fun I' w' n q =>
  ⟨[.int .i64 n,.bool q],rfl,Vals.cons (.inl (CRep.v rfl)) (Vals.cons (.inl (CRep.v rfl)) Vals.nil)⟩
 by_cases hne : l = []
 ·subst hne
  refine (Any.slices_BinarySearch_int_empty laysB a cap x w).mono fun e w' ⟨he,hw⟩ => ⟨_,he,?_,by rw [hw]; exact Below.refl _ _⟩
  exact hvals _ _ 0 false
 ·obtain ⟨b,off,rfl,hc⟩:=h3 hne
  refine (Any.slices_BinarySearch_int laysB b off l.length cap l x w (Nat.le_refl _) (by omega) hc (by rw [List.take_length]; exact hs)).mono fun e w' ⟨he,q,hw⟩ => ⟨_,he,?_,by rw [hw]; exact below_drewN' q⟩
  rw [List.take_length]
  exact hvals _ _ _ _
theorem heap_setCells (b : Nat) : ∀ (vs : List Value) (o : Nat) (w : World),(w.setCells b o vs).os = w.os ∧ (w.setCells b o vs).tape = w.tape ∧ (w.setCells b o vs).output = w.output ∧ (w.setCells b o vs).heap.size = w.heap.size ∧ ∀ k,k ≠ b → (w.setCells b o vs).heap[k]? = w.heap[k]?
 | [],o,w => ⟨rfl,rfl,rfl,rfl,fun _ _ => rfl⟩
 | v :: vs,o,w => by
  obtain ⟨h1,h2,h3,h4,h5⟩:=heap_setCells b vs (o + 1) (w.setCell ⟨b,o,none⟩ v)
  refine ⟨h1,h2,h3,?_,fun k hk => (h5 k hk).trans (Below.heap_setCell w ⟨b,o,none⟩ v k hk)⟩
  exact h4.trans (by simp)
def insI (l : List Int) (i : Nat) (x : Int) : List Int:=l.take i ++ x :: l.drop i
theorem insI_len {l : List Int} {i : Nat} {x : Int} (hi : i ≤ l.length) : (insI l i x).length = l.length + 1:=by simp [insI]; omega
theorem insI_at {l : List Int} {i : Nat} {x : Int} (hi : i ≤ l.length) (j : Nat) : (insI l i x)[j]? = if j < i then l[j]? else if j = i then some x else l[j - 1]?:=by
 unfold insI
 by_cases h : j < i
 ·rw [if_pos h,List.getElem?_append_left (by rw [List.length_take]; omega),List.getElem?_take,if_pos h]
 ·rw [if_neg h,List.getElem?_append_right (by rw [List.length_take]; omega),List.length_take,Nat.min_eq_left hi]
  by_cases h' : j = i
  ·subst h'; simp
  ·rw [if_neg h']
   obtain ⟨k,rfl⟩ : ∃ k,j = i + k + 1:=⟨j - i - 1,by omega⟩
   rw [show i + k + 1 - i = k + 1 by omega,List.getElem?_cons_succ,List.getElem?_drop,show i + k + 1 - 1 = i + k by omega]
theorem insert_told (l : List Int) (i : Nat) (x : Int) (e : Nat) (hi : i ≤ l.length) (hl : l.length ≤ 1000000) : ToldIns Try.prog 82 (l.map vI) e 1 (.int .i64 i) (.int .i64 x) (sD 1 ((insI l i x).map vI)):=by
 intro w I u vb t hlt hown hvb hne
 obtain ⟨n,xs,hrow,hsp,hh⟩:=hown
 obtain ⟨hn,hel⟩:=hh _ rfl
 simp only at hrow hel hsp
 rw [List.length_map] at hn
 subst hn
 have hvblt : vb < w.heap.size:=(Array.getElem?_eq_some_iff.1 hvb).1
 have hxl : xs.length = l.length:=by rw [hrow.1,Nat.mul_one]
 have hxs : ∀ j y,l[j]? = some y → xs[j]? = some (Value.int .i64 y):=fun j y hj => by
  obtain ⟨u',q1,q2⟩:=hel.2.2 j 0 (vI y) (vI y) (by rw [List.getElem?_map,hj]; rfl) rfl
  rw [Nat.mul_one,Nat.add_zero] at q1
  rw [q1,int_leaf q2]
 have h1c : ∀ v ∈ xs,v.oneCell' = true:=fun v hv => by
  obtain ⟨j,hj,rfl⟩:=List.mem_iff_getElem.1 hv
  have:=hxs j l[j] (List.getElem?_eq_getElem (by omega))
  rw [List.getElem?_eq_getElem hj] at this
  rw [Option.some.inj this]; rfl
 have hcellv : ∀ j v,[Value.int .i64 x][j]? = some v → w.cell? ⟨vb,0 + j,none⟩ = some v:=fun j v hj => by
  rw [Nat.zero_add,cell_of_row w vb j _ t (0,0) hvb]
  simpa using hj
 have h1v : ∀ v ∈ [Value.int .i64 x],v.oneCell' = true:=fun v hv => by simp at hv; subst hv; rfl
 have hfin : ∀ (w' : World) (b cap : Nat),(insI l i x).length ≤ cap → cap ≤ maxLen → (∀ j y,(insI l i x)[j]? = some y → w'.cell? ⟨b,j,none⟩ = some (.int .i64 y)) → (w.heap.size ≤ b ∨ u.ownBlock = some b) → b < w'.heap.size →
   RRep (fun b j => I b j ∨ ((w.heap.size ≤ b ∨ u.ownBlock = some b) ∧ b < w'.heap.size)) w' [sD 1 ((insI l i x).map vI)] (.slice (some ⟨b,0,none⟩) (insI l i x).length cap):=fun w' b cap k1 k2 k3 k4 k5 =>
  .inl (ints_rep k1 k2 k3 (fun j => .inr ⟨k4,k5⟩))
 have hIne : ∀ g,u.ownBlock = some g → ∀ b j,I b j → b ≠ g:=fun g hg b j hi e => (hsp g hg).2.1 j (fun q => by cases q) (e ▸ hi)
 rcases hrow.2 with ⟨rfl,h0⟩ | ⟨g,cap,cur,rfl,_,hg,hnc,hcm,hcs,htk⟩
 ·-- nil
  have hl0 : l = []:=List.eq_nil_of_length_eq_zero h0
  subst hl0
  have hi0 : i = 0:=by simpa using hi
  subst hi0
  refine (Any2.slices_Insert_int_end_grow laysI none 0 0 vb 0 1 1 [] [Value.int .i64 x] w (by omega) (by omega) (by omega) (by omega) rfl rfl (fun _ => rfl) (fun a ha => by cases ha) hcellv h1v).mono fun y w' ⟨hy,hw⟩ => ?_
  have hge:=grownCap_ge w (0 + 1) 0 3
  refine ⟨_,hy,?_,?_,fun b j hi => ?_⟩
  ·have hsz : w'.heap.size = w.heap.size + 1:=by rw [hw]; simp
   refine hfin w' w.heap.size _ hge (grownCap_le_maxLen w (0 + 1) 0 3 (by unfold maxLen; omega)) (fun j y hj => ?_) (.inl (Nat.le_refl _)) (by omega)
   rw [hw]
   have hj' : j = 0 ∧ y = x:=by
    rw [insI_at (l:=[]) (i:=0) (by simp)] at hj
    cases j with
    | zero => simp at hj; exact ⟨rfl,hj.symm⟩
    | succ j => simp at hj
   obtain ⟨rfl,rfl⟩:=hj'
   rw [cell_of_row _ w.heap.size 0 _ _ (0,0) (heap_alloc_new w.drew _),Array.getElem?_append_left (by simp)]
   rfl
  ·have hb : Below w.heap.size w w':=by rw [hw]; exact (Below.drew (Below.refl _ _)).alloc (Nat.le_refl _) _
   exact ⟨hb.os,hb.tape,hb.output,hb.size,fun k hk => hb.block k hk.1⟩
  ·have hb : Below w.heap.size w w':=by rw [hw]; exact (Below.drew (Below.refl _ _)).alloc (Nat.le_refl _) _
   exact hb.cell (p:=⟨b,j,none⟩) (hlt b j hi)
 ·have hob : (Value.slice (some ⟨g,0,none⟩) l.length cap).ownBlock = some g:=rfl
  have hcell : ∀ j,w.cell? ⟨g,j,none⟩ = cur[j]?:=fun j => cell_of_row w g j cur e (0,0) hg
  have hcur : ∀ j v,xs[j]? = some v → cur[j]? = some v:=fun j v hj => by
   rw [← htk,List.getElem?_take] at hj
   split at hj
   ·simpa using hj
   ·cases hj
  have hcsx : ∀ j v,xs[j]? = some v → w.cell? ⟨g,0 + j,none⟩ = some v:=fun j v hj => by rw [Nat.zero_add,hcell]; exact hcur j v hj
  have hsome : ∀ j,j < cap → (w.cell? ⟨g,j,none⟩).isSome = true:=fun j hj => by
   rw [hcell,Array.getElem?_eq_getElem (by omega)]; rfl
  have hcm' : cap ≤ 9223372036854775807:=by unfold maxLen at hcm; omega
  have hgb : g ≠ vb:=fun q => hne (by rw [hob,q])
  have hIg : ∀ b j,I b j → b ≠ g:=hIne g hob
  have hglt : g < w.heap.size:=(Array.getElem?_eq_some_iff.1 hg).1
  have hset : ∀ (w' : World),(w'.os = w.os ∧ w'.tape = w.tape ∧ w'.output = w.output ∧ w'.heap.size = w.heap.size ∧ ∀ k,k ≠ g → w'.heap[k]? = w.heap[k]?) →
    Kept (fun b => b < w.heap.size ∧ (Value.slice (some ⟨g,0,none⟩) l.length cap).ownBlock ≠ some b) w w' ∧ ∀ b j,I b j → w'.cell? ⟨b,j,none⟩ = w.cell? ⟨b,j,none⟩:=fun w' ⟨k1,k2,k3,k4,k5⟩ =>
   ⟨⟨k1,k2,k3,by omega,fun k hk => k5 k (fun q => hk.2 (by rw [hob,q]))⟩,fun b j hi => World.cell?_of_block (a:=⟨b,j,none⟩) (k5 b (hIg b j hi))⟩
  have hnew : ∀ (w' : World),Below w.heap.size w w' → Kept (fun b => b < w.heap.size ∧ (Value.slice (some ⟨g,0,none⟩) l.length cap).ownBlock ≠ some b) w w' ∧ ∀ b j,I b j → w'.cell? ⟨b,j,none⟩ = w.cell? ⟨b,j,none⟩:=fun w' hb =>
   ⟨⟨hb.os,hb.tape,hb.output,hb.size,fun k hk => hb.block k hk.1⟩,fun b j hi => hb.cell (p:=⟨b,j,none⟩) (hlt b j hi)⟩
  have hil:=insI_len (x:=x) hi
  by_cases hroom : l.length + 1 ≤ cap
  ·by_cases hend : i = l.length
   ·subst hend
    refine (Any2.slices_Insert_int_end_room laysI g 0 l.length cap vb 0 1 1 [Value.int .i64 x] w (by omega) hroom hcm' rfl (fun j hj => by rw [Nat.zero_add]; exact hsome _ (by omega)) (fun j hj => frozen_of_row w g _ cur e hg) hcellv h1v).mono fun y w' ⟨hy,hw⟩ => ?_
    have hs:=heap_setCells g [Value.int .i64 x] (0 + l.length) w
    rw [← hw] at hs
    rw [← hil] at hy
    refine ⟨_,hy,?_,hset w' hs⟩
    refine hfin w' g cap (by omega) hcm (fun j y hj => ?_) (.inr hob) (by rw [hs.2.2.2.1]; exact hglt)
    rw [insI_at (Nat.le_refl _)] at hj
    split at hj
    ·rename_i q
     rw [hw,World.cell?_setCells_out _ _ _ _ _ (fun _ _ => .inl (by show j < 0 + l.length; omega)),hcell]
     exact hcur _ _ (hxs j y hj)
    ·split at hj
     ·rename_i q
      subst q
      cases hj
      have:=World.cell?_setCells_in g [Value.int .i64 x] (0 + l.length) w (fun j hj => by
       simp only [List.length_cons,List.length_nil] at hj
       rw [Nat.zero_add]; exact hsome _ (by omega)) 0 (by simp)
      rw [hw]
      simpa using this
     ·rename_i q1 q2
      have:=(List.getElem?_eq_some_iff.1 hj).1
      omega
   ·have hil' : i < l.length:=by omega
    refine (Any2.slices_Insert_int_shift laysI g 0 l.length cap i vb 0 1 1 xs [Value.int .i64 x] w hil' (by omega) hroom hcm' (fun q => hgb q.symm) hxl rfl hcsx (fun j hj => by rw [Nat.zero_add]; exact hsome _ (by omega)) (fun j hj => frozen_of_row w g _ cur e hg) hcellv h1c h1v t e 1 cur.size (by simp [World.shape?,hvb]) (by simp [World.shape?,hg]) (by omega) (frozen_of_row w vb 0 _ t hvb) (frozen_of_row w vb 1 _ t hvb)).mono fun y w' ⟨hy,hw⟩ => ?_
    have hs1:=heap_setCells g (xs.drop i) (0 + (i + 1)) w.drew
    have hs2:=heap_setCells g [Value.int .i64 x] (0 + i) (w.drew.setCells g (0 + (i + 1)) (xs.drop i))
    rw [← hw] at hs2
    rw [← hil] at hy
    have hs : w'.os = w.os ∧ w'.tape = w.tape ∧ w'.output = w.output ∧ w'.heap.size = w.heap.size ∧ ∀ k,k ≠ g → w'.heap[k]? = w.heap[k]? :=
     ⟨hs2.1.trans hs1.1,hs2.2.1.trans hs1.2.1,hs2.2.2.1.trans hs1.2.2.1,hs2.2.2.2.1.trans hs1.2.2.2.1,fun k hk => (hs2.2.2.2.2 k hk).trans (hs1.2.2.2.2 k hk)⟩
    refine ⟨_,hy,?_,hset w' hs⟩
    have hsm1 : ∀ j,j < cap → ((w.drew.setCells g (0 + (i + 1)) (xs.drop i)).cell? ⟨g,j,none⟩).isSome = true:=fun j hj => isSome_setCells g (xs.drop i) (0 + (i + 1)) w.drew (fun t ht => hsome _ (by
     rw [List.length_drop] at ht; omega)) j (hsome j hj)
    refine hfin w' g cap (by omega) hcm (fun j y hj => ?_) (.inr hob) (by rw [hs.2.2.2.1]; exact hglt)
    rw [insI_at hi] at hj
    split at hj
    ·rename_i q
     rw [hw,World.cell?_setCells_out _ _ _ _ _ (fun _ _ => .inl (by show j < 0 + i; omega)),World.cell?_setCells_out _ _ _ _ _ (fun _ _ => .inl (by show j < 0 + (i + 1); omega))]
     show w.cell? _ = _
     rw [hcell]
     exact hcur _ _ (hxs j y hj)
    ·split at hj
     ·rename_i q
      subst q
      cases hj
      have:=World.cell?_setCells_in g [Value.int .i64 x] (0 + j) (w.drew.setCells g (0 + (j + 1)) (xs.drop j)) (fun k hk => by
       simp only [List.length_cons,List.length_nil] at hk
       exact hsm1 _ (by omega)) 0 (by simp)
      rw [hw]
      simpa using this
     ·rename_i q1 q2
      have hjl:=(List.getElem?_eq_some_iff.1 hj).1
      rw [hw,World.cell?_setCells_out _ _ _ _ _ (fun _ _ => .inr (by show 0 + i + 1 ≤ j; omega))]
      have hk : j - (i + 1) < (xs.drop i).length:=by rw [List.length_drop]; omega
      have:=World.cell?_setCells_in g (xs.drop i) (0 + (i + 1)) w.drew (fun k hk => by
       rw [List.length_drop] at hk
       show (w.cell? _).isSome = true
       exact hsome _ (by omega)) (j - (i + 1)) hk
      rw [show 0 + (i + 1) + (j - (i + 1)) = j by omega] at this
      rw [this]
      congr 1
      have h3:=hxs (j - 1) y hj
      rw [List.getElem_drop]
      have h4 : i + (j - (i + 1)) = j - 1:=by omega
      have h5:=List.getElem?_eq_some_iff.1 h3
      obtain ⟨h6,h7⟩:=h5
      rw [← h7]
      congr 1
  ·have hcapn : cap = l.length:=by omega
   by_cases hend : i = l.length
   ·subst hend
    refine (Any2.slices_Insert_int_end_grow laysI (some ⟨g,0,none⟩) l.length cap vb 0 1 1 xs [Value.int .i64 x] w (by omega) hnc (by omega) (by omega) hxl rfl (fun q => by cases q) (fun a ha j v hj => by cases ha; rw [Addr.add_lit]; exact hcsx j v hj) hcellv h1v).mono fun y w' ⟨hy,hw⟩ => ?_
    have hge:=grownCap_ge w (l.length + 1) cap 3
    have hb : Below w.heap.size w w':=by rw [hw]; exact (Below.drew (Below.refl _ _)).alloc (Nat.le_refl _) _
    have hsz : w'.heap.size = w.heap.size + 1:=by rw [hw]; simp
    rw [← hil] at hy
    refine ⟨_,hy,?_,hnew w' hb⟩
    refine hfin w' w.heap.size _ (by rw [hil]; exact hge) (grownCap_le_maxLen w _ cap 3 (by unfold maxLen; omega)) (fun j y hj => ?_) (.inl (Nat.le_refl _)) (by omega)
    rw [hw,cell_of_row _ w.heap.size j _ _ (0,0) (heap_alloc_new w.drew _)]
    rw [insI_at (Nat.le_refl _)] at hj
    have hz : (xs ++ [Value.int .i64 x])[j]? = some (.int .i64 y):=by
     split at hj
     ·rename_i q
      rw [List.getElem?_append_left (by omega)]
      exact hxs j y hj
     ·split at hj
      ·rename_i q
       subst q; cases hj
       rw [List.getElem?_append_right (by omega),hxl]; simp
      ·have:=(List.getElem?_eq_some_iff.1 hj).1
       omega
    have hjl:=(List.getElem?_eq_some_iff.1 hz).1
    rw [Array.getElem?_append_left (by simpa using hjl)]
    simpa using hz
   ·have hil' : i < l.length:=by omega
    refine (Any2.slices_Insert_int_grow laysI g 0 l.length cap i vb 0 1 1 xs [Value.int .i64 x] w hil' (by omega) hnc (by omega) (by omega) hxl rfl hcsx hcellv h1c h1v).mono fun y w' ⟨hy,hw⟩ => ?_
    have hge:=grownCap_ge w (l.length + 1) cap 3
    generalize hG : grownCap w (l.length + 1) cap 3 = G at hge
    have hGm : G ≤ maxLen:=by rw [← hG]; exact grownCap_le_maxLen w _ cap 3 (by unfold maxLen; omega)
    have hGe : grownCap w (l.length + 1) cap (renI.t 3) = G:=hG
    rw [hGe] at hy hw
    generalize hROW : (xs.take i).toArray ++ Builtin.zeroCells (Value.int .i64 0).cells (l.length + 1 - i) ++ Builtin.zeroCells (Value.int .i64 0).cells (G - (l.length + 1)) = ROW at hw
    have hRl : l.length + 1 ≤ ROW.size:=by
     rw [← hROW]
     simp [Builtin.zeroCells,Value.cells]
     omega
    have hRh : ∀ j v,(xs.take i)[j]? = some v → ROW[j]? = some v:=fun j v hj => by
     rw [← hROW]
     have hjl:=(List.getElem?_eq_some_iff.1 hj).1
     rw [Array.getElem?_append_left (by simp at hjl ⊢; omega),Array.getElem?_append_left (by simpa using hjl)]
     simpa using hj
    have hs1:=heap_setCells w.heap.size [Value.int .i64 x] i (w.alloc (.cells ROW (renI.t 3))).drew
    have hs2:=heap_setCells w.heap.size (xs.drop i) (i + 1) ((w.alloc (.cells ROW (renI.t 3))).drew.setCells w.heap.size i [Value.int .i64 x]).drew
    rw [← hw] at hs2
    have hb0 : Below w.heap.size w (w.alloc (.cells ROW (renI.t 3))):=(Below.refl _ _).alloc (Nat.le_refl _) _
    have hb : Below w.heap.size w w':=⟨hs2.1.trans (hs1.1.trans hb0.os),hs2.2.1.trans (hs1.2.1.trans hb0.tape),hs2.2.2.1.trans (hs1.2.2.1.trans hb0.output),by
     rw [hs2.2.2.2.1]
     show w.heap.size ≤ ((w.alloc (.cells ROW (renI.t 3))).drew.setCells w.heap.size i [Value.int .i64 x]).heap.size
     rw [hs1.2.2.2.1]; exact hb0.size,fun k hk => (hs2.2.2.2.2 k (by omega)).trans ((hs1.2.2.2.2 k (by omega)).trans (hb0.block k hk))⟩
    have hsz : w'.heap.size = w.heap.size + 1:=by
     rw [hs2.2.2.2.1]
     show ((w.alloc (.cells ROW (renI.t 3))).drew.setCells w.heap.size i [Value.int .i64 x]).heap.size = _
     rw [hs1.2.2.2.1]
     show (w.alloc (.cells ROW (renI.t 3))).heap.size = _
     simp
    have hc0 : ∀ j,(w.alloc (.cells ROW (renI.t 3))).cell? ⟨w.heap.size,j,none⟩ = ROW[j]?:=fun j => cell_of_row _ w.heap.size j _ _ (0,0) (heap_alloc_new w _)
    have hsm0 : ∀ j,j < l.length + 1 → (((w.alloc (.cells ROW (renI.t 3))).drew).cell? ⟨w.heap.size,j,none⟩).isSome = true:=fun j hj => by
     show ((w.alloc (.cells ROW (renI.t 3))).cell? _).isSome = true
     rw [hc0,Array.getElem?_eq_getElem (by omega)]; rfl
    have hsm1 : ∀ j,j < l.length + 1 → ((((w.alloc (.cells ROW (renI.t 3))).drew.setCells w.heap.size i [Value.int .i64 x]).drew).cell? ⟨w.heap.size,j,none⟩).isSome = true:=fun j hj =>
     isSome_setCells w.heap.size _ _ _ (fun t ht => hsm0 _ (by simp at ht; omega)) j (hsm0 j hj)
    rw [← hil] at hy
    refine ⟨_,hy,?_,hnew w' hb⟩
    refine hfin w' w.heap.size _ (by rw [hil]; exact hge) hGm (fun j y hj => ?_) (.inl (Nat.le_refl _)) (by omega)
    rw [insI_at hi] at hj
    split at hj
    ·rename_i q
     rw [hw,World.cell?_setCells_out _ _ _ _ _ (fun _ _ => .inl (by show j < i + 1; omega))]
     show ((w.alloc (.cells ROW (renI.t 3))).drew.setCells w.heap.size i [Value.int .i64 x]).cell? _ = _
     rw [World.cell?_setCells_out _ _ _ _ _ (fun _ _ => .inl (by show j < i; omega))]
     show (w.alloc (.cells ROW (renI.t 3))).cell? _ = _
     rw [hc0]
     exact hRh j _ (by rw [List.getElem?_take,if_pos q]; exact hxs j y hj)
    ·split at hj
     ·rename_i q
      subst q; cases hj
      rw [hw,World.cell?_setCells_out _ _ _ _ _ (fun _ _ => .inl (by show j < j + 1; omega))]
      have:=World.cell?_setCells_in w.heap.size [Value.int .i64 x] j (w.alloc (.cells ROW (renI.t 3))).drew (fun k hk => hsm0 _ (by simp at hk; omega)) 0 (by simp)
      simpa using this
     ·rename_i q1 q2
      have hjl:=(List.getElem?_eq_some_iff.1 hj).1
      have hk : j - (i + 1) < (xs.drop i).length:=by rw [List.length_drop]; omega
      have:=World.cell?_setCells_in w.heap.size (xs.drop i) (i + 1) ((w.alloc (.cells ROW (renI.t 3))).drew.setCells w.heap.size i [Value.int .i64 x]).drew (fun k hk => hsm1 _ (by rw [List.length_drop] at hk; omega)) (j - (i + 1)) hk
      rw [show i + 1 + (j - (i + 1)) = j by omega,← hw] at this
      rw [this]
      congr 1
      have h3:=hxs (j - 1) y hj
      rw [List.getElem_drop]
      obtain ⟨h6,h7⟩:=List.getElem?_eq_some_iff.1 h3
      rw [← h7]
      congr 1
      omega
end Go.Proofs.Ytgaofjiidedcbad.ab
