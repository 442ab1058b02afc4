import Derived.Test.YtgaofjiidedcbacGreatM36
import Derived.Test.YtgaofjiidedcbacGreatM27
import Derived.Test.YtgaofjiidedcbacGreatM25
import Derived.Test.YtgaofjiidedcbacGreatM32
import Derived.Test.YtgaofjiidedcbacGreatM35
import Derived.Test.YtgaofjiidedcbacGreatM20
import Derived.Test.YtgaofjiidedcbacGreatProg
set_option maxHeartbeats 8000000
set_option linter.unusedVariables false
set_option linter.unusedSimpArgs false
namespace Go.Proofs.YtgaofjiidedcbacGreat.ab
open Go Go.RowKit
open mth
theorem ownMsg_told (m : Ms) (h : m.data.length ≤ 1048576) : Told Tryz.prog 75 [aD (encMs m)] [aD (encMs m)]:=by
 refine told_chunk_OwnMsg rfl ?_
 simp only [encMs]
 have h1 : m.data.length * 1 ≤ 140737488355328:=by omega
 refine wk (an2 @h1 @zmap) ?_
 exact ValsLe.refl _
theorem ownCh_told (c : Ch) (h : c.data.length ≤ 1048576) (h' : c.early.length ≤ 1048576) : Told Tryz.prog 83 [aD (encCh c)] [aD (encCh c)]:=by
 refine told_chunk_Own rfl ?_
 simp only [encCh]
 have h1 : c.data.length * 1 ≤ 140737488355328:=by omega
 have h2 : c.early.length * 8 ≤ 140737488355328:=by omega
 refine wk (an3 @h1 @h2 @zmap) ?_
 exact ValsLe.refl _
theorem callM : callableB Tryz.prog 75 = true:=by kernel_rfl
theorem callC : callableB Tryz.prog 83 = true:=by kernel_rfl
def omSt (l : List Ms) (k : Nat) : St:=⟨[(1,vD (.func (.func 75) #[] #[])),(5,sD 2 (encMl (l.take k))),(8,sD 2 (encMl l)),(9,vI l.length),(10,vI k)],[],[((5,none),(43,2,none))]⟩
theorem ml_snoc (l : List Ms) (m : Ms) : encMl (l ++ [m]) = encMl l ++ [aD [vI m.stream,sD 1 (m.data.map encB)]]:=by simp [encMl,encMs]
theorem ownM_core (l : List Ms) (hl : l.length ≤ 1048576) (hm : ∀ m ∈ l,m.data.length ≤ 1048576) (Q : AX → St → Prop) (hQ : Q (some none) ⟨[(4,sD 2 (encMl l))],[],[((4,none),(43,2,none))]⟩) : list_OwnM (start [sD 2 (encMl l),vD (.func (.func 75) #[] #[])]) Q:=by
 refine wk @len_ml ?_
 refine aw_loop (fun n st => ∃ k,k ≤ l.length ∧ n = l.length - k ∧ st = omSt l k) l.length (omSt l 0) ((Le.nilS 5 43 2 rfl).trans (Le.keep (lv:=[1,5,8,9,10]) (lb:=[]) (by simp only [ev0,ev1,ev2,look,lookF,cellsFrom,offT,offP,List.tail_nil,List.length_nil,Int.cast_ofNat_Int,Nat.reduceEqDiff,Nat.reduceAdd,Nat.reduceMul,Nat.reduceLeDiff,Nat.reduceLT,↓reduceIte,reduceCtorEq,Int.reduceBEq,Int.reduceBNe,Int.reduceLT,Int.reduceLE,Int.reduceToNat]; rfl))) ⟨0,by omega,by omega,rfl⟩ ?_
 rintro n st ⟨k,hk',hn,rfl⟩
 by_cases hlt : k < l.length
 ·obtain ⟨x,hx⟩ : ∃ m,l[k]? = some m:=⟨l[k],List.getElem?_eq_getElem hlt⟩
  have g1 : (k : Int) < (l.length : Int):=by omega
  have g2 : (0 : Int) ≤ (k : Int):=by omega
  have g3:=at_ml hx
  have g4 : inR .i64 ((k : Int) + 1) = true:=inR_of (by omega)
  have hlen : (l.take k).length = k:=by rw [List.length_take]; omega
  have hb1 : ((l.take k).length + 1) * 32 ≤ 140737488355328:=by omega
  have hnx : Next (fun n st => ∃ k,k ≤ l.length ∧ n = l.length - k ∧ st = omSt l k) n
    ⟨[(1,vD (.func (.func 75) #[] #[])),(5,sD 2 (encMl (l.take k) ++ [aD [vI x.stream,sD 1 (x.data.map encB)]])),(8,sD 2 (encMl l)),(9,vI l.length),(10,vI ((k : Int) + 1))],[],[((5,none),(43,2,none))]⟩:=by
   rw [← ml_snoc,show l.take k ++ [x] = l.take (k + 1) by rw [List.take_add_one,hx]; rfl]
   exact ⟨l.length - (k + 1),_,by omega,Le.refl _,k + 1,by omega,rfl,by simp only [omSt,Int.natCast_add,Int.cast_ofNat_Int]⟩
  generalize (fun n st => ∃ k,k ≤ l.length ∧ n = l.length - k ∧ st = omSt l k) = J at *
  simp only [omSt]
  generalize l.take k = G at *
  refine wk (an6 @g1 @g2 @g3 @callM @hb1 @len_ml) ?_
  refine cg [[aD [vI x.stream,sD 1 (x.data.map encB)]]] (an3 @callM @hb1 @len_ml) ?_ ?_
  ·exact obl_cons (ownMsg_told x (hm x (List.mem_of_getElem? hx))) obl_nil
  refine wk @g4 ?_
  exact hnx
 ·have hk'' : k = l.length:=by omega
  subst hk''
  have g1 : ¬ (l.length : Int) < (l.length : Int):=by omega
  simp only [omSt,List.take_length]
  refine wk @g1 ?_
  exact hQ
theorem ownM_told (l : List Ms) (hl : l.length ≤ 1048576) (hm : ∀ m ∈ l,m.data.length ≤ 1048576) : Told Tryz.prog 81 [sD 2 (encMl l),vD (.func (.func 75) #[] #[])] [sD 2 (encMl l)] :=
 told_list_OwnM rfl (ownM_core l hl hm _ ⟨[sD 2 (encMl l)],rfl,ValsLe.refl _⟩)
theorem ownM_toldO (l : List Ms) (hl : l.length ≤ 1048576) (hm : ∀ m ∈ l,m.data.length ≤ 1048576) : ToldO Tryz.prog 81 [sD 2 (encMl l),vD (.func (.func 75) #[] #[])] [sD 2 (encMl l)] none 43 (2,none) :=
 toldO_list_OwnM rfl (ownM_core l hl hm _ ⟨sD 2 (encMl l),rfl,rfl,CVLe.refl _,rfl⟩)
theorem cl_snoc' (l : List Ch) (c : Ch) : encCl (l ++ [c]) = encCl l ++ [aD [vI c.kind,vI c.number,vI c.stream,vI c.place,sD 1 (c.data.map encB),sD 1 (c.early.map vI)]]:=by simp [encCl,encCh]
def ocSt (l : List Ch) (k : Nat) : St:=⟨[(1,vD (.func (.func 83) #[] #[])),(5,sD 6 (encCl (l.take k))),(8,sD 6 (encCl l)),(9,vI l.length),(10,vI k)],[],[((5,none),(85,6,none))]⟩
theorem ownC_core (l : List Ch) (hl : l.length ≤ 1048576) (hm : ∀ m ∈ l,m.data.length ≤ 1048576 ∧ m.early.length ≤ 1048576) (Q : AX → St → Prop) (hQ : Q (some none) ⟨[(4,sD 6 (encCl l))],[],[((4,none),(85,6,none))]⟩) : list_OwnC (start [sD 6 (encCl l),vD (.func (.func 83) #[] #[])]) Q:=by
 refine wk @len_cl ?_
 refine aw_loop (fun n st => ∃ k,k ≤ l.length ∧ n = l.length - k ∧ st = ocSt l k) l.length (ocSt l 0) ((Le.nilS 5 85 6 rfl).trans (Le.keep (lv:=[1,5,8,9,10]) (lb:=[]) (by simp only [ev0,ev1,ev2,look,lookF,cellsFrom,offT,offP,List.tail_nil,List.length_nil,Int.cast_ofNat_Int,Nat.reduceEqDiff,Nat.reduceAdd,Nat.reduceMul,Nat.reduceLeDiff,Nat.reduceLT,↓reduceIte,reduceCtorEq,Int.reduceBEq,Int.reduceBNe,Int.reduceLT,Int.reduceLE,Int.reduceToNat]; rfl))) ⟨0,by omega,by omega,rfl⟩ ?_
 rintro n st ⟨k,hk',hn,rfl⟩
 by_cases hlt : k < l.length
 ·obtain ⟨x,hx⟩ : ∃ m,l[k]? = some m:=⟨l[k],List.getElem?_eq_getElem hlt⟩
  have g1 : (k : Int) < (l.length : Int):=by omega
  have g2 : (0 : Int) ≤ (k : Int):=by omega
  have g3:=at_cl hx
  have g4 : inR .i64 ((k : Int) + 1) = true:=inR_of (by omega)
  have hlen : (l.take k).length = k:=by rw [List.length_take]; omega
  have hb1 : ((l.take k).length + 1) * 80 ≤ 140737488355328:=by omega
  have hnx : Next (fun n st => ∃ k,k ≤ l.length ∧ n = l.length - k ∧ st = ocSt l k) n
    ⟨[(1,vD (.func (.func 83) #[] #[])),(5,sD 6 (encCl (l.take k) ++ [aD [vI x.kind,vI x.number,vI x.stream,vI x.place,sD 1 (x.data.map encB),sD 1 (x.early.map vI)]])),(8,sD 6 (encCl l)),(9,vI l.length),(10,vI ((k : Int) + 1))],[],[((5,none),(85,6,none))]⟩:=by
   rw [← cl_snoc',show l.take k ++ [x] = l.take (k + 1) by rw [List.take_add_one,hx]; rfl]
   exact ⟨l.length - (k + 1),_,by omega,Le.refl _,k + 1,by omega,rfl,by simp only [ocSt,Int.natCast_add,Int.cast_ofNat_Int]⟩
  generalize (fun n st => ∃ k,k ≤ l.length ∧ n = l.length - k ∧ st = ocSt l k) = J at *
  simp only [ocSt]
  generalize l.take k = G at *
  refine wk (an6 @g1 @g2 @g3 @callC @hb1 @len_cl) ?_
  refine cg [[aD [vI x.kind,vI x.number,vI x.stream,vI x.place,sD 1 (x.data.map encB),sD 1 (x.early.map vI)]]] (an3 @callC @hb1 @len_cl) ?_ ?_
  ·exact obl_cons (ownCh_told x (hm x (List.mem_of_getElem? hx)).1 (hm x (List.mem_of_getElem? hx)).2) obl_nil
  refine wk @g4 ?_
  exact hnx
 ·have hk'' : k = l.length:=by omega
  subst hk''
  have g1 : ¬ (l.length : Int) < (l.length : Int):=by omega
  simp only [ocSt,List.take_length]
  refine wk @g1 ?_
  exact hQ
def ohSt (l : List Ch) (k : Nat) : St:=⟨[(1,vD (.func (.func 83) #[] #[])),(5,xD),(8,sD 6 (encCl l)),(9,vI l.length),(10,vI k)],[],[((5,none),(85,6,some (encCl (l.take k))))]⟩
theorem ownH_core (l : List Ch) (hl : l.length ≤ 1048576) (hm : ∀ m ∈ l,m.data.length ≤ 1048576 ∧ m.early.length ≤ 1048576) (Q : AX → St → Prop) (hQ : Q (some none) ⟨[(4,xD)],[],[((4,none),(85,6,some (encCl l)))]⟩) : list_OwnC (start [sD 6 (encCl l),vD (.func (.func 83) #[] #[])]) Q:=by
 refine wk @len_cl ?_
 refine aw_loop (fun n st => ∃ k,k ≤ l.length ∧ n = l.length - k ∧ st = ohSt l k) l.length (ohSt l 0) ((le_nilH 5 85 6 rfl).trans (Le.keep (lv:=[1,5,8,9,10]) (lb:=[]) (by simp only [ev0,ev1,ev2,look,lookF,cellsFrom,offT,offP,List.tail_nil,List.length_nil,Int.cast_ofNat_Int,Nat.reduceEqDiff,Nat.reduceAdd,Nat.reduceMul,Nat.reduceLeDiff,Nat.reduceLT,↓reduceIte,reduceCtorEq,Int.reduceBEq,Int.reduceBNe,Int.reduceLT,Int.reduceLE,Int.reduceToNat]; rfl))) ⟨0,by omega,by omega,rfl⟩ ?_
 rintro n st ⟨k,hk',hn,rfl⟩
 by_cases hlt : k < l.length
 ·obtain ⟨x,hx⟩ : ∃ m,l[k]? = some m:=⟨l[k],List.getElem?_eq_getElem hlt⟩
  have g1 : (k : Int) < (l.length : Int):=by omega
  have g2 : (0 : Int) ≤ (k : Int):=by omega
  have g3:=at_cl hx
  have g4 : inR .i64 ((k : Int) + 1) = true:=inR_of (by omega)
  have hlen : (l.take k).length = k:=by rw [List.length_take]; omega
  have hb1 : ((l.take k).length + 1) * 80 ≤ 140737488355328:=by omega
  have hnx : Next (fun n st => ∃ k,k ≤ l.length ∧ n = l.length - k ∧ st = ohSt l k) n
    ⟨[(1,vD (.func (.func 83) #[] #[])),(5,xD),(8,sD 6 (encCl l)),(9,vI l.length),(10,vI ((k : Int) + 1))],[],[((5,none),(85,6,some (encCl (l.take k) ++ [aD [vI x.kind,vI x.number,vI x.stream,vI x.place,sD 1 (x.data.map encB),sD 1 (x.early.map vI)]])))]⟩:=by
   rw [← cl_snoc',show l.take k ++ [x] = l.take (k + 1) by rw [List.take_add_one,hx]; rfl]
   exact ⟨l.length - (k + 1),_,by omega,Le.refl _,k + 1,by omega,rfl,by simp only [ohSt,Int.natCast_add,Int.cast_ofNat_Int]⟩
  generalize (fun n st => ∃ k,k ≤ l.length ∧ n = l.length - k ∧ st = ohSt l k) = J at *
  simp only [ohSt]
  generalize l.take k = G at *
  refine wk (an6 @g1 @g2 @g3 @callC @hb1 @len_cl) ?_
  refine cg [[aD [vI x.kind,vI x.number,vI x.stream,vI x.place,sD 1 (x.data.map encB),sD 1 (x.early.map vI)]]] (an3 @callC @hb1 @len_cl) ?_ ?_
  ·exact obl_cons (ownCh_told x (hm x (List.mem_of_getElem? hx)).1 (hm x (List.mem_of_getElem? hx)).2) obl_nil
  refine wk @g4 ?_
  exact hnx
 ·have hk'' : k = l.length:=by omega
  subst hk''
  have g1 : ¬ (l.length : Int) < (l.length : Int):=by omega
  simp only [ohSt,List.take_length]
  refine wk @g1 ?_
  exact hQ
theorem ownC_told (l : List Ch) (hl : l.length ≤ 1048576) (hm : ∀ m ∈ l,m.data.length ≤ 1048576 ∧ m.early.length ≤ 1048576) : Told Tryz.prog 82 [sD 6 (encCl l),vD (.func (.func 83) #[] #[])] [sD 6 (encCl l)] :=
 told_list_OwnC rfl (ownC_core l hl hm _ ⟨[sD 6 (encCl l)],rfl,ValsLe.refl _⟩)
theorem ownC_toldO (l : List Ch) (hl : l.length ≤ 1048576) (hm : ∀ m ∈ l,m.data.length ≤ 1048576 ∧ m.early.length ≤ 1048576) : ToldO Tryz.prog 82 [sD 6 (encCl l),vD (.func (.func 83) #[] #[])] [sD 6 (encCl l)] none 85 (6,none) :=
 toldO_list_OwnC rfl (ownC_core l hl hm _ ⟨sD 6 (encCl l),rfl,rfl,CVLe.refl _,rfl⟩)
theorem ownC_toldH (l : List Ch) (hl : l.length ≤ 1048576) (hm : ∀ m ∈ l,m.data.length ≤ 1048576 ∧ m.early.length ≤ 1048576) : ToldO Tryz.prog 82 [sD 6 (encCl l),vD (.func (.func 83) #[] #[])] [xD] none 85 (6,some (encCl l)) :=
 toldO_list_OwnC rfl (ownH_core l hl hm _ ⟨xD,rfl,rfl,CVLe.refl _,rfl⟩)
structure SmallS (s : Sd) : Prop where
 q : s.queue.length ≤ 1048576
 m : ∀ m ∈ s.queue,m.data.length ≤ 1048576
 f : s.flight.length ≤ 1048576
 c : ∀ c ∈ s.flight,c.data.length ≤ 1048576 ∧ c.early.length ≤ 1048576
theorem ownS_told (s : Sd) (h : SmallS s) : Told Tryz.prog 59 [aD (encSd s)] [aD (encSd s)]:=by
 refine told_send_Own rfl ?_
 simp only [encSd]
 refine wk0 ?_
 refine cg0 [[sD 2 (encMl s.queue)]] ?_ ?_
 ·exact obl_cons (ownM_told s.queue h.q h.m) obl_nil
 refine wk0 ?_
 refine cg0 [[sD 6 (encCl s.flight)]] ?_ ?_
 ·exact obl_cons (ownC_told s.flight h.f h.c) obl_nil
 refine wk0 ?_
 exact ValsLe.refl _
theorem row_refl : ∀ (cs : List D),RowLe cs cs
 | [] => trivial
 | _ :: r => ⟨LfLe.refl _,row_refl r⟩
theorem ownS_toldQ (s : Sd) (h : SmallS s) : ToldO Tryz.prog 59 [aD (encSd s)] [aD (encSd s)] (some 0) 43 (2,none):=by
 refine toldO_send_OwnO rfl ?_
 simp only [encSd]
 refine wk0 ?_
 refine cg0 [[mO (sD 2 (encMl s.queue)) 43 2 xD]] ?_ ?_
 ·exact obl_out (ownM_toldO s.queue h.q h.m) obl_nil
 refine wk0 ?_
 refine cg0 [[sD 6 (encCl s.flight)]] ?_ ?_
 ·exact obl_cons (ownC_told s.flight h.f h.c) obl_nil
 refine wk0 ?_
 refine ⟨1,2,_,_,0,_,rfl,rfl,by decide,rfl,rfl,rfl,rfl,rfl,by decide,rfl,?_⟩
 refine wk0 ?_
 exact fin1_ret ⟨2,_,rfl,rfl,rfl,rfl,row_refl _,by decide,rfl⟩
theorem ownS_toldF (s : Sd) (h : SmallS s) : ToldO Tryz.prog 59 [aD (encSd s)] [aD (encSd s)] (some 5) 85 (6,none):=by
 refine toldO_send_OwnO rfl ?_
 simp only [encSd]
 refine wk0 ?_
 refine cg0 [[sD 2 (encMl s.queue)]] ?_ ?_
 ·exact obl_cons (ownM_told s.queue h.q h.m) obl_nil
 refine wk0 ?_
 refine cg0 [[mO (sD 6 (encCl s.flight)) 85 6 xD]] ?_ ?_
 ·exact obl_out (ownC_toldO s.flight h.f h.c) obl_nil
 refine wk0 ?_
 refine ⟨1,2,_,_,5,_,rfl,rfl,by decide,rfl,rfl,rfl,rfl,rfl,by decide,rfl,?_⟩
 refine wk0 ?_
 exact fin1_ret ⟨2,_,rfl,rfl,rfl,rfl,row_refl _,by decide,rfl⟩
theorem ownS_toldH (s : Sd) (h : SmallS s) : ToldO Tryz.prog 59 [aD (encSd s)] [aD [sD 2 (encMl s.queue),vI s.next,vI s.p0,vI s.p1,vI s.p2,xD,vI s.turn]] (some 5) 85 (6,some (encCl s.flight)):=by
 refine toldO_send_OwnO rfl ?_
 simp only [encSd]
 refine wk0 ?_
 refine cg0 [[sD 2 (encMl s.queue)]] ?_ ?_
 ·exact obl_cons (ownM_told s.queue h.q h.m) obl_nil
 refine wk0 ?_
 refine cg0 [[mO xD 85 6 (aD (encCl s.flight))]] ?_ ?_
 ·exact obl_out (ownC_toldH s.flight h.f h.c) obl_nil
 refine wk0 ?_
 refine ⟨1,2,_,_,5,_,rfl,rfl,by decide,rfl,rfl,rfl,rfl,rfl,by decide,rfl,?_⟩
 refine wk0 ?_
 exact fin1_ret ⟨2,_,rfl,rfl,rfl,rfl,row_refl _,by decide,rfl⟩
theorem callLn : callableB Tryz.prog 36 = true:=by kernel_rfl
theorem ll_snoc (l : List Ln) (x : Ln) : encLl (l ++ [x]) = encLl l ++ [aD (encLn x)]:=by simp [encLl]
def owSt (l : List Ln) (k : Nat) : St:=⟨[(1,vD (.func (.func 36) #[] #[])),(5,sD 17 (encLl (l.take k))),(8,sD 17 (encLl l)),(9,vI l.length),(10,vI k)],[],[((5,none),(56,17,none))]⟩
def owHt (l : List Ln) (k : Nat) : St:=⟨[(1,vD (.func (.func 36) #[] #[])),(5,xD),(8,sD 17 (encLl l)),(9,vI l.length),(10,vI k)],[],[((5,none),(56,17,some (encLl (l.take k))))]⟩
theorem ownW_core (hO : CLOwn 36) (l : List Ln) (hl : l.length ≤ 1048576) (hm : ∀ m ∈ l,GoodL m) (Q : AX → St → Prop) (hQ : Q (some none) ⟨[(4,sD 17 (encLl l))],[],[((4,none),(56,17,none))]⟩) : list_OwnW (start [sD 17 (encLl l),vD (.func (.func 36) #[] #[])]) Q:=by
 refine wk @len_ll ?_
 refine aw_loop (fun n st => ∃ k,k ≤ l.length ∧ n = l.length - k ∧ st = owSt l k) l.length (owSt l 0) ((Le.nilS 5 56 17 rfl).trans (Le.keep (lv:=[1,5,8,9,10]) (lb:=[]) (by simp only [ev0,ev1,ev2,look,lookF,cellsFrom,offT,offP,List.tail_nil,List.length_nil,Int.cast_ofNat_Int,Nat.reduceEqDiff,Nat.reduceAdd,Nat.reduceMul,Nat.reduceLeDiff,Nat.reduceLT,↓reduceIte,reduceCtorEq,Int.reduceBEq,Int.reduceBNe,Int.reduceLT,Int.reduceLE,Int.reduceToNat]; rfl))) ⟨0,by omega,by omega,rfl⟩ ?_
 rintro n st ⟨k,hk',hn,rfl⟩
 by_cases hlt : k < l.length
 ·obtain ⟨x,hx⟩ : ∃ m,l[k]? = some m:=⟨l[k],List.getElem?_eq_getElem hlt⟩
  have g1 : (k : Int) < (l.length : Int):=by omega
  have g2 : (0 : Int) ≤ (k : Int):=by omega
  have g3:=at_ll hx
  have g4 : inR .i64 ((k : Int) + 1) = true:=inR_of (by omega)
  have hlen : (l.take k).length = k:=by rw [List.length_take]; omega
  have hb1 : ((l.take k).length + 1) * 248 ≤ 140737488355328:=by omega
  have h1:=hO x (hm x (List.mem_of_getElem? hx))
  have hnx : Next (fun n st => ∃ k,k ≤ l.length ∧ n = l.length - k ∧ st = owSt l k) n
    ⟨[(1,vD (.func (.func 36) #[] #[])),(5,sD 17 (encLl (l.take k) ++ [aD (encLn x)])),(8,sD 17 (encLl l)),(9,vI l.length),(10,vI ((k : Int) + 1))],[],[((5,none),(56,17,none))]⟩:=by
   rw [← ll_snoc,show l.take k ++ [x] = l.take (k + 1) by rw [List.take_add_one,hx]; rfl]
   exact ⟨l.length - (k + 1),_,by omega,Le.refl _,k + 1,by omega,rfl,by simp only [owSt,Int.natCast_add,Int.cast_ofNat_Int]⟩
  generalize (fun n st => ∃ k,k ≤ l.length ∧ n = l.length - k ∧ st = owSt l k) = J at *
  simp only [owSt,encLn] at g3 h1 hnx ⊢
  generalize l.take k = G at *
  refine wk (an7 @g1 @g2 @g3 @callLn @hb1 @len_ll @Int.toNat_natCast) ?_
  refine cg [[aD (encLn x)]] (an4 @encLn.eq_1 @callLn @hb1 @len_ll) ?_ ?_
  ·exact obl_cons h1 obl_nil
  refine wk @g4 ?_
  exact hnx
 ·have hk'' : k = l.length:=by omega
  subst hk''
  have g1 : ¬ (l.length : Int) < (l.length : Int):=by omega
  simp only [owSt,List.take_length]
  refine wk @g1 ?_
  exact hQ
theorem ownWH_core (hO : CLOwn 36) (l : List Ln) (hl : l.length ≤ 1048576) (hm : ∀ m ∈ l,GoodL m) (Q : AX → St → Prop) (hQ : Q (some none) ⟨[(4,xD)],[],[((4,none),(56,17,some (encLl l)))]⟩) : list_OwnW (start [sD 17 (encLl l),vD (.func (.func 36) #[] #[])]) Q:=by
 refine wk @len_ll ?_
 refine aw_loop (fun n st => ∃ k,k ≤ l.length ∧ n = l.length - k ∧ st = owHt l k) l.length (owHt l 0) ((le_nilH 5 56 17 rfl).trans (Le.keep (lv:=[1,5,8,9,10]) (lb:=[]) (by simp only [ev0,ev1,ev2,look,lookF,cellsFrom,offT,offP,List.tail_nil,List.length_nil,Int.cast_ofNat_Int,Nat.reduceEqDiff,Nat.reduceAdd,Nat.reduceMul,Nat.reduceLeDiff,Nat.reduceLT,↓reduceIte,reduceCtorEq,Int.reduceBEq,Int.reduceBNe,Int.reduceLT,Int.reduceLE,Int.reduceToNat]; rfl))) ⟨0,by omega,by omega,rfl⟩ ?_
 rintro n st ⟨k,hk',hn,rfl⟩
 by_cases hlt : k < l.length
 ·obtain ⟨x,hx⟩ : ∃ m,l[k]? = some m:=⟨l[k],List.getElem?_eq_getElem hlt⟩
  have g1 : (k : Int) < (l.length : Int):=by omega
  have g2 : (0 : Int) ≤ (k : Int):=by omega
  have g3:=at_ll hx
  have g4 : inR .i64 ((k : Int) + 1) = true:=inR_of (by omega)
  have hlen : (l.take k).length = k:=by rw [List.length_take]; omega
  have hb1 : ((l.take k).length + 1) * 248 ≤ 140737488355328:=by omega
  have h1:=hO x (hm x (List.mem_of_getElem? hx))
  have hnx : Next (fun n st => ∃ k,k ≤ l.length ∧ n = l.length - k ∧ st = owHt l k) n
    ⟨[(1,vD (.func (.func 36) #[] #[])),(5,xD),(8,sD 17 (encLl l)),(9,vI l.length),(10,vI ((k : Int) + 1))],[],[((5,none),(56,17,some (encLl (l.take k) ++ [aD (encLn x)])))]⟩:=by
   rw [← ll_snoc,show l.take k ++ [x] = l.take (k + 1) by rw [List.take_add_one,hx]; rfl]
   exact ⟨l.length - (k + 1),_,by omega,Le.refl _,k + 1,by omega,rfl,by simp only [owHt,Int.natCast_add,Int.cast_ofNat_Int]⟩
  generalize (fun n st => ∃ k,k ≤ l.length ∧ n = l.length - k ∧ st = owHt l k) = J at *
  simp only [owHt,encLn] at g3 h1 hnx ⊢
  generalize l.take k = G at *
  refine wk (an7 @g1 @g2 @g3 @callLn @hb1 @len_ll @Int.toNat_natCast) ?_
  refine cg [[aD (encLn x)]] (an4 @encLn.eq_1 @callLn @hb1 @len_ll) ?_ ?_
  ·exact obl_cons h1 obl_nil
  refine wk @g4 ?_
  exact hnx
 ·have hk'' : k = l.length:=by omega
  subst hk''
  have g1 : ¬ (l.length : Int) < (l.length : Int):=by omega
  simp only [owHt,List.take_length]
  refine wk @g1 ?_
  exact hQ
theorem ownW_told (hO : CLOwn 36) (l : List Ln) (hl : l.length ≤ 1048576) (hm : ∀ m ∈ l,GoodL m) : Told Tryz.prog 35 [sD 17 (encLl l),vD (.func (.func 36) #[] #[])] [sD 17 (encLl l)] :=
 told_list_OwnW rfl (ownW_core hO l hl hm _ ⟨[sD 17 (encLl l)],rfl,ValsLe.refl _⟩)
theorem ownW_toldH (hO : CLOwn 36) (l : List Ln) (hl : l.length ≤ 1048576) (hm : ∀ m ∈ l,GoodL m) : ToldO Tryz.prog 35 [sD 17 (encLl l),vD (.func (.func 36) #[] #[])] [xD] none 56 (17,some (encLl l)) :=
 toldO_list_OwnW rfl (ownWH_core hO l hl hm _ ⟨xD,rfl,rfl,CVLe.refl _,rfl⟩)
def CWOwn (f : Nat) : Prop:=∀ w,GoodW w → Told Tryz.prog f [aD (encWd w)] [aD (encWd w)]
def CWNew (f : Nat) : Prop:=(∀ n : Nat,1 ≤ n → n ≤ 3 → Told Tryz.prog f [vI n] [aD (encWd (newW n)),vI 0]) ∧ ∀ n : Int,n < 1 ∨ 3 < n → Told Tryz.prog f [vI n] [aD (encWd ⟨[],0⟩),vI 3]
def CWDo (f : Nat) : Prop:=∀ w s,GoodW w → w.ticks ≤ 1000000 → Told Tryz.prog f [aD (encWd w),aD (encSp s)] [aD (encWd (doW w s).1),vI (doW w s).2]
theorem ownWd_told (hO : CLOwn 36) : CWOwn 22:=by
 intro w hw
 refine told_world_Own rfl ?_
 have h1:=ownW_told hO w.lanes (by have:=hw.n; omega) hw.l
 simp only [encWd]
 refine wk0 ?_
 refine cg0 [[sD 17 (encLl w.lanes)]] ?_ ?_
 ·exact obl_cons h1 obl_nil
 refine wk0 ?_
 exact ValsLe.refl _
theorem ownWd_toldO (hO : CLOwn 36) (w : Wd) (hw : GoodW w) : ToldO Tryz.prog 22 [aD (encWd w)] [aD [xD,vI w.ticks]] (some 0) 56 (17,some (encLl w.lanes)):=by
 refine toldO_world_OwnO rfl ?_
 have h1:=ownW_toldH hO w.lanes (by have:=hw.n; omega) hw.l
 simp only [encWd]
 refine wk0 ?_
 refine cg0 [[mO xD 56 17 (aD (encLl w.lanes))]] ?_ ?_
 ·exact obl_out h1 obl_nil
 refine wk0 ?_
 refine ⟨1,2,_,_,0,_,rfl,rfl,by decide,rfl,rfl,rfl,rfl,rfl,by decide,rfl,?_⟩
 refine wk0 ?_
 exact fin1_ret ⟨2,_,rfl,rfl,rfl,rfl,row_refl _,by decide,rfl⟩
theorem newWd_told : CWNew 19:=by
 refine ⟨fun n h1 h2 => ?_,fun n h => ?_⟩
 ·refine told_world_New rfl ?_
  have h3 : n = 1 ∨ n = 2 ∨ n = 3:=by omega
  rcases h3 with rfl | rfl | rfl
  ·simp only [newW,encWd,encLl,List.replicate,List.map_cons,List.map_nil,encLn,zeroL,zeroS,zeroR,encMl,encCl,encPk]
   refine wk (an4 @Int.toNat_natCast @zrs @zr0 @zcons) ?_
   repeat' (first | exact vals_nil | exact row_nil | exact es_nil | exact CVLe.refl _ | exact LfLe.refl _ | exact LfLe.nil _ | exact EsLe.refl _ | refine vals_cons ?_ ?_ | refine row_cons ?_ ?_ | refine es_cons ?_ ?_ | refine EsLe.app ?_ ?_ | refine CVLe.row ?_ | refine CVLe.leafV ?_ | refine CVLe.leafS ?_ | refine LfLe.s ?_)
  ·simp only [newW,encWd,encLl,List.replicate,List.map_cons,List.map_nil,encLn,zeroL,zeroS,zeroR,encMl,encCl,encPk]
   refine wk (an4 @Int.toNat_natCast @zrs @zr0 @zcons) ?_
   repeat' (first | exact vals_nil | exact row_nil | exact es_nil | exact CVLe.refl _ | exact LfLe.refl _ | exact LfLe.nil _ | exact EsLe.refl _ | refine vals_cons ?_ ?_ | refine row_cons ?_ ?_ | refine es_cons ?_ ?_ | refine EsLe.app ?_ ?_ | refine CVLe.row ?_ | refine CVLe.leafV ?_ | refine CVLe.leafS ?_ | refine LfLe.s ?_)
  ·simp only [newW,encWd,encLl,List.replicate,List.map_cons,List.map_nil,encLn,zeroL,zeroS,zeroR,encMl,encCl,encPk]
   refine wk (an4 @Int.toNat_natCast @zrs @zr0 @zcons) ?_
   repeat' (first | exact vals_nil | exact row_nil | exact es_nil | exact CVLe.refl _ | exact LfLe.refl _ | exact LfLe.nil _ | exact EsLe.refl _ | refine vals_cons ?_ ?_ | refine row_cons ?_ ?_ | refine es_cons ?_ ?_ | refine EsLe.app ?_ ?_ | refine CVLe.row ?_ | refine CVLe.leafV ?_ | refine CVLe.leafS ?_ | refine LfLe.s ?_)
 ·refine told_world_New rfl ?_
  simp only [encWd,encLl,List.map_nil]
  by_cases h1 : n < 1
  ·refine wk @h1 ?_
   repeat' (first | exact vals_nil | exact row_nil | exact es_nil | exact CVLe.refl _ | exact LfLe.refl _ | exact LfLe.nil _ | exact EsLe.refl _ | refine vals_cons ?_ ?_ | refine row_cons ?_ ?_ | refine es_cons ?_ ?_ | refine EsLe.app ?_ ?_ | refine CVLe.row ?_ | refine CVLe.leafV ?_ | refine CVLe.leafS ?_ | refine LfLe.s ?_)
  ·have h2 : 3 < n:=by omega
   refine wk (an2 @h1 @h2) ?_
   repeat' (first | exact vals_nil | exact row_nil | exact es_nil | exact CVLe.refl _ | exact LfLe.refl _ | exact LfLe.nil _ | exact EsLe.refl _ | refine vals_cons ?_ ?_ | refine row_cons ?_ ?_ | refine es_cons ?_ ?_ | refine EsLe.app ?_ ?_ | refine CVLe.row ?_ | refine CVLe.leafV ?_ | refine CVLe.leafS ?_ | refine LfLe.s ?_)
set_option maxRecDepth 100000
def Q59r0 : IC:=cReg Tryz.prog [xX 2 0,xX 3 1,⟨some 4,none,iMov 4 (.const (.bool false)) true⟩] [2,3] [2,3]
def Q59r1 : IC:=cReg Tryz.prog [xF 6 1 2,xL 7 1 6,xF 8 1 3,xL 9 1 8,xB 10 .neq 7 9,xM 11 10,xG 11 false (xF 12 0 2),xG 11 false (xL 13 1 12),xG 11 false (xN 14 13),xG 11 false (xF 15 0 3),xG 11 false (xL 16 1 15),xG 11 false (xN 17 16),xG 11 false (xB 18 .neq 14 17),xP 19 11 18] [2,3,19] [2,3]
def Q59r2 : IC:=cReg Tryz.prog [⟨some 4,none,iMov 4 (.const (.bool false)) true⟩] [4] []
def Q59c1a : IC:=(cSeq Q59r2 cRet)
def Q59c1 : IC:=cCond (.tmp 19) Q59c1a cSkip
def Q59r3 : IC:=cReg Tryz.prog [xF 20 0 2,xL 21 1 20,xN 22 21,⟨some 23,none,iMov 23 (.const (.int .i64 0)) false⟩] [2,3,22,23] [2,3]
def Q59r4 : IC:=cReg Tryz.prog [xB 24 .lss 23 22] [2,3,22,23,24] [2,3]
def Q59c4 : IC:=cCond (.tmp 24) cSkip (cExit 0)
def Q59r5 : IC:=cReg Tryz.prog [xM 25 23,xT 5 25] [2,3,5,22,23] [2,3]
def Q59r6 : IC:=cRegD Tryz.prog [xF 26 0 2,xL 27 1 26,xM 28 5,xI 29 17 27 28,xA 30 17 29,xF 31 0 3,xL 32 1 31,xM 33 5,xI 34 17 32 33,xA 35 17 34,xV2 36 18 30 35,xO 37 36] [[],[0],[],[1,2,0],[3,1,2,0],[],[5],[],[6,7,5],[8,6,7,5],[4,9,3,1,2,0,8,6,7,5],[10,4,9,3,1,2,0,8,6,7,5]] [2,3,22,23,37] [2,3]
def Q59r7 : IC:=cReg Tryz.prog [⟨some 4,none,iMov 4 (.const (.bool false)) true⟩] [4] []
def Q59c6a : IC:=(cSeq Q59r7 cRet)
def Q59c6 : IC:=cCond (.tmp 37) Q59c6a cSkip
def Q59b5 : IC:=cBlock 1 (cSeq Q59r5 (cSeq Q59r6 Q59c6))
def Q59r8 : IC:=cReg Tryz.prog [xC 38 .add 23 1,xM 23 38] [2,3,22,23] [2,3]
def Q59l3a : IC:=(cSeq Q59r4 (cSeq Q59c4 (cSeq Q59b5 Q59r8)))
def Q59l3 : IC:=cLoop Q59l3a
def Q59b2 : IC:=cBlock 0 Q59l3
def Q59r9 : IC:=cReg Tryz.prog [⟨some 4,none,iMov 4 (.const (.bool true)) true⟩] [4] []
def r6_SameWorld : IC:=(cSeq Q59r0 (cSeq (cSeq Q59r1 Q59c1) (cSeq (cSeq Q59r3 Q59b2) (cSeq Q59r9 cRet))))
theorem told_r6_SameWorld {args r : List D} (hl : args.length = 2) (h : r6_SameWorld (start args) (fin [(4,none)] r)) : Told Tryz.prog 10 args r :=
 told_of follows Tryz.func10 rfl (an:=[([],[2,3],[2,3],[]),([],[2,3,19],[2,3],[]),([],[4],[],[]),([],[2,3,22,23],[2,3],[]),([],[2,3,22,23,24],[2,3],[]),([],[2,3,5,22,23],[2,3],[]),([],[2,3,22,23,37],[2,3],[]),([],[4],[],[]),([],[2,3,22,23],[2,3],[]),([],[4],[],[])]) (by kernel_rfl) (by kernel_rfl) (by rw [hl]; decide +kernel) h
def swSt (w : Wd) (k : Nat) : St:=⟨[(2,pD 2 0),(3,pD 3 0),(22,vI w.lanes.length),(23,vI k)],[(2,encWd w),(3,encWd w)],[]⟩
theorem sameW_told (w : Wd) (hn : w.lanes.length ≤ 3) (hg : ∀ l ∈ w.lanes,GoodL l) : Told Tryz.prog 10 [aD (encWd w),aD (encWd w)] [vB true]:=by
 refine told_r6_SameWorld rfl ?_
 have z1 : (w.ticks != w.ticks) = false:=bne_self_eq_false _
 have z2 : ((w.lanes.length : Int) != (w.lanes.length : Int)) = false:=bne_self_eq_false _
 simp only [encWd]
 refine wk (an3 @z1 @z2 @len_ll) ?_
 refine aw_loop (fun m st => ∃ k : Nat,k ≤ w.lanes.length ∧ m = w.lanes.length - k ∧ st = swSt w k) w.lanes.length (swSt w 0) (Le.refl _) ⟨0,by omega,by omega,rfl⟩ ?_
 rintro m st ⟨k,hk,hm,rfl⟩
 by_cases hlt : k < w.lanes.length
 ·obtain ⟨x,hx⟩ : ∃ x,w.lanes[k]? = some x:=⟨w.lanes[k],List.getElem?_eq_getElem hlt⟩
  have g1 : (k : Int) < (w.lanes.length : Int):=by omega
  have g2 : (0 : Int) ≤ (k : Int):=by omega
  have g3:=at_ll hx
  have g4 : inR .i64 ((k : Int) + 1) = true:=inR_of (by omega)
  have h1:=sameLn_good (hg x (List.mem_of_getElem? hx))
  have hnx : Next (fun m st => ∃ k : Nat,k ≤ w.lanes.length ∧ m = w.lanes.length - k ∧ st = swSt w k) m (swSt w (k + 1)):=⟨w.lanes.length - (k + 1),_,by omega,Le.refl _,k + 1,by omega,rfl,rfl⟩
  generalize (fun m st => ∃ k : Nat,k ≤ w.lanes.length ∧ m = w.lanes.length - k ∧ st = swSt w k) = J at *
  simp only [swSt,encWd,encLn,Int.natCast_add,Int.cast_ofNat_Int] at g3 h1 hnx ⊢
  refine wk (an5 @g1 @g2 @g3 @len_ll @Int.toNat_natCast) ?_
  refine cd [[vB true]] (an6 @g1 @g2 @g3 @len_ll @Int.toNat_natCast Bool.not_true) ?_ ?_
  ·exact obl_cons h1 obl_nil
  refine wk (an2 @g4 Bool.not_true) ?_
  exact hnx
 ·have : k = w.lanes.length:=by omega
  subst this
  have g1 : ¬ (w.lanes.length : Int) < (w.lanes.length : Int):=by omega
  simp only [swSt,encWd]
  refine wk @g1 ?_
  exact ValsLe.refl _
theorem sameW_good {w : Wd} (h : GoodW w) : Told Tryz.prog 10 [aD (encWd w),aD (encWd w)] [vB true]:=sameW_told w h.n.2 h.l
theorem refNew_not (n : Int) (h : n < 1 ∨ 3 < n) : Told Tryz.prog 8 [vI n] [aD (encWd ⟨[],0⟩),vI 3]:=by
 refine told_r6_NewQ rfl ?_
 simp only [encWd,encLl,List.map_nil]
 by_cases h1 : n < 1
 ·refine wk @h1 ?_
  repeat' (first | exact vals_nil | exact row_nil | exact es_nil | exact CVLe.refl _ | exact LfLe.refl _ | exact LfLe.nil _ | exact EsLe.refl _ | refine vals_cons ?_ ?_ | refine row_cons ?_ ?_ | refine es_cons ?_ ?_ | refine EsLe.app ?_ ?_ | refine CVLe.row ?_ | refine CVLe.leafV ?_ | refine CVLe.leafS ?_ | refine LfLe.s ?_)
 ·have h2 : 3 < n:=by omega
  refine wk (an2 @h1 @h2) ?_
  repeat' (first | exact vals_nil | exact row_nil | exact es_nil | exact CVLe.refl _ | exact LfLe.refl _ | exact LfLe.nil _ | exact EsLe.refl _ | refine vals_cons ?_ ?_ | refine row_cons ?_ ?_ | refine es_cons ?_ ?_ | refine EsLe.app ?_ ?_ | refine CVLe.row ?_ | refine CVLe.leafV ?_ | refine CVLe.leafS ?_ | refine LfLe.s ?_)
set_option maxRecDepth 100000
def Q61r0 : IC:=cReg Tryz.prog [xX 1 0,⟨some 2,none,iMov 2 (.const (.bool false)) true⟩] [1] [1]
def Q61r1 : IC:=cReg Tryz.prog [xF 5 0 1,xL 6 1 5,xN 7 6,⟨some 8,none,iMov 8 (.const (.int .i64 0)) false⟩] [6,7,8] []
def Q61r2 : IC:=cReg Tryz.prog [xB 9 .lss 8 7] [6,7,8,9] []
def Q61c3 : IC:=cCond (.tmp 9) cSkip (cExit 0)
def Q61r3 : IC:=cReg Tryz.prog [xI 10 17 6 8,xA 11 17 10,⟨some 4,none,iAlo 4 [zS,zI,zI,zI,zI,zS,zI,zI,zS,zI,zI,zI,zS,zS,zF,zS,zS]⟩,xS 17 4 11] [4,6,7,8] [4]
def Q61r4 : IC:=cReg Tryz.prog [xF 12 0 4,xF 13 0 12,xL 14 1 13,xN 15 14,xF 16 0 4,xF 17 5 16,xL 18 1 17,xN 19 18,xB 20 .add 15 19,xC 21 .gtr 20 0] [6,7,8,21] []
def Q61r5 : IC:=cReg Tryz.prog [⟨some 2,none,iMov 2 (.const (.bool false)) true⟩] [2] []
def Q61c5a : IC:=(cSeq Q61r5 cRet)
def Q61c5 : IC:=cCond (.tmp 21) Q61c5a cSkip
def Q61b4 : IC:=cBlock 1 (cSeq Q61r3 (cSeq Q61r4 Q61c5))
def Q61r6 : IC:=cReg Tryz.prog [xC 22 .add 8 1,xM 8 22] [6,7,8] []
def Q61l2a : IC:=(cSeq Q61r2 (cSeq Q61c3 (cSeq Q61b4 Q61r6)))
def Q61l2 : IC:=cLoop Q61l2a
def Q61b1 : IC:=cBlock 0 Q61l2
def Q61r7 : IC:=cReg Tryz.prog [⟨some 2,none,iMov 2 (.const (.bool true)) true⟩] [2] []
def r6_Still : IC:=(cSeq Q61r0 (cSeq (cSeq Q61r1 Q61b1) (cSeq Q61r7 cRet)))
theorem told_r6_Still {args r : List D} (hl : args.length = 1) (h : r6_Still (start args) (fin [(2,none)] r)) : Told Tryz.prog 14 args r :=
 told_of follows Tryz.func14 rfl (an:=[([],[1],[1],[]),([],[6,7,8],[],[]),([],[6,7,8,9],[],[]),([],[4,6,7,8],[4],[]),([],[6,7,8,21],[],[]),([],[2],[],[]),([],[6,7,8],[],[]),([],[2],[],[])]) (by kernel_rfl) (by kernel_rfl) (by rw [hl]; decide +kernel) h
def slSt (w : Wd) (k : Nat) : St:=⟨[(6,sD 17 (encLl w.lanes)),(7,vI w.lanes.length),(8,vI k)],[],[]⟩
theorem still_told (w : Wd) (hw : GoodW w) : Told Tryz.prog 14 [aD (encWd w)] [vB (stillW w)]:=by
 refine told_r6_Still rfl ?_
 have hn:=hw.n
 simp only [encWd]
 refine wk @len_ll ?_
 refine aw_loop (fun m st => ∃ k : Nat,k ≤ w.lanes.length ∧ m = w.lanes.length - k ∧ (w.lanes.take k).all idleL = true ∧ st = slSt w k) w.lanes.length (slSt w 0) (Le.refl _) ⟨0,by omega,by omega,by simp,rfl⟩ ?_
 rintro m st ⟨k,hk,hm,hall,rfl⟩
 by_cases hlt : k < w.lanes.length
 ·obtain ⟨x,hx⟩ : ∃ x,w.lanes[k]? = some x:=⟨w.lanes[k],List.getElem?_eq_getElem hlt⟩
  have hxm:=List.mem_of_getElem? hx
  have hg:=hw.l x hxm
  have g1 : (k : Int) < (w.lanes.length : Int):=by omega
  have g2 : (0 : Int) ≤ (k : Int):=by omega
  have g3:=at_ll hx
  have g4 : inR .i64 ((k : Int) + 1) = true:=inR_of (by omega)
  have g5 : inR .i64 ((x.s.queue.length : Int) + (x.s.flight.length : Int)) = true:=inR_of (by have:=hg.s.q; have:=hg.s.f; omega)
  cases hi : idleL x with
  | true =>
   obtain ⟨q1,q2⟩:=idle_iff.1 hi
   have g6 : ¬ 0 < (x.s.queue.length : Int) + (x.s.flight.length : Int):=by rw [q1,q2]; simp
   have hnx : Next (fun m st => ∃ k : Nat,k ≤ w.lanes.length ∧ m = w.lanes.length - k ∧ (w.lanes.take k).all idleL = true ∧ st = slSt w k) m (slSt w (k + 1)):=⟨w.lanes.length - (k + 1),_,by omega,Le.refl _,k + 1,by omega,rfl,by
    rw [List.take_add_one,hx,List.all_append,hall]; simp [hi],rfl⟩
   generalize (fun m st => ∃ k : Nat,k ≤ w.lanes.length ∧ m = w.lanes.length - k ∧ (w.lanes.take k).all idleL = true ∧ st = slSt w k) = J at *
   simp only [slSt,encLn,Int.natCast_add,Int.cast_ofNat_Int] at g3 hnx ⊢
   refine wk (an10 @g1 @g2 @g3 @g4 @g5 @g6 @len_ll @len_ml @len_cl @Int.toNat_natCast) ?_
   exact hnx
  | false =>
   have g6 : 0 < (x.s.queue.length : Int) + (x.s.flight.length : Int):=by
    unfold idleL at hi
    cases h1 : x.s.queue with
    | cons a b => simp only [List.length_cons]; omega
    | nil =>
     cases h2 : x.s.flight with
     | cons a b => simp only [List.length_cons]; omega
     | nil => rw [h1,h2] at hi; cases hi
   have hs : stillW w = false:=by
    unfold stillW
    rw [List.all_eq_false]
    exact ⟨x,hxm,by rw [hi]; simp⟩
   rw [hs]
   generalize (fun m st => ∃ k : Nat,k ≤ w.lanes.length ∧ m = w.lanes.length - k ∧ (w.lanes.take k).all idleL = true ∧ st = slSt w k) = J at *
   simp only [slSt,encLn] at g3 ⊢
   refine wk (an9 @g1 @g2 @g3 @g5 @g6 @len_ll @len_ml @len_cl @Int.toNat_natCast) ?_
   exact ValsLe.refl _
 ·have hkn : k = w.lanes.length:=by omega
  subst hkn
  rw [List.take_length] at hall
  have hs : stillW w = true:=hall
  rw [hs]
  have g1 : ¬ (w.lanes.length : Int) < (w.lanes.length : Int):=by omega
  generalize (fun m st => ∃ k : Nat,k ≤ w.lanes.length ∧ m = w.lanes.length - k ∧ (w.lanes.take k).all idleL = true ∧ st = slSt w k) = J at *
  simp only [slSt]
  refine wk @g1 ?_
  exact ValsLe.refl _
set_option maxRecDepth 100000
def Q56r0 : IC:=cReg Tryz.prog [xX 1 0,⟨some 2,none,iAlo 2 [zS,zI]⟩] [1,2] [1,2]
def Q56r1 : IC:=cReg Tryz.prog [xF 4 0 1,xL 5 1 4,xN 6 5,⟨some 7,none,iMov 7 (.const (.int .i64 0)) false⟩] [1,2,6,7] [1,2]
def Q56r2 : IC:=cReg Tryz.prog [xB 8 .lss 7 6] [1,2,6,7,8] [1,2]
def Q56c3 : IC:=cCond (.tmp 8) cSkip (cExit 0)
def Q56r3 : IC:=cReg Tryz.prog [xM 9 7,xT 3 9] [1,2,3,6,7] [1,2]
def Q56r4 : IC:=cReg Tryz.prog [xF 10 0 1,xL 11 1 10,xM 12 3,xI 13 17 11 12,xF 14 15 13,xL 15 1 14,xN 16 15,xC 17 .gtr 16 0] [1,2,3,6,7,17] [1,2]
def Q56c7 : IC:=cCond (.tmp 17) cSkip (cExit 2)
def Q56r5 : IC:=cReg Tryz.prog [xA 19 2 1,xM 20 3,⟨some 21,none,iBld 21 [zI,zI,zI,zI,zF,zI,zS] [(0,1),(1,1)] [(.const (.int .i64 3)),(.tmp 20)]⟩,xV2 22 21 19 21,xM 18 22,xE 23 18 0,xE 24 18 1,xS 2 1 23] [1,2,3,6,7] [1,2]
def Q56b8 : IC:=cBlock 3 Q56r5
def Q56l6a : IC:=(cSeq (cSeq Q56r4 Q56c7) Q56b8)
def Q56l6 : IC:=cLoop Q56l6a
def Q56b5 : IC:=cBlock 2 Q56l6
def Q56r6 : IC:=cReg Tryz.prog [xF 25 0 1,xL 26 1 25,xM 27 3,xI 28 17 26 27,xF 29 16 28,xL 30 1 29,xN 31 30,xC 32 .gtr 31 0] [1,2,3,6,7,32] [1,2]
def Q56c11 : IC:=cCond (.tmp 32) cSkip (cExit 4)
def Q56r7 : IC:=cReg Tryz.prog [xA 34 2 1,xM 35 3,⟨some 36,none,iBld 36 [zI,zI,zI,zI,zF,zI,zS] [(0,1),(1,1),(4,1)] [(.const (.int .i64 3)),(.tmp 35),(.const (.bool true))]⟩,xV2 37 21 34 36,xM 33 37,xE 38 33 0,xE 39 33 1,xS 2 1 38] [1,2,3,6,7] [1,2]
def Q56b12 : IC:=cBlock 5 Q56r7
def Q56l10a : IC:=(cSeq (cSeq Q56r6 Q56c11) Q56b12)
def Q56l10 : IC:=cLoop Q56l10a
def Q56b9 : IC:=cBlock 4 Q56l10
def Q56b4 : IC:=cBlock 1 (cSeq Q56r3 (cSeq Q56b5 Q56b9))
def Q56r8 : IC:=cReg Tryz.prog [xC 40 .add 7 1,xM 7 40] [1,2,6,7] [1,2]
def Q56l2a : IC:=(cSeq Q56r2 (cSeq Q56c3 (cSeq Q56b4 Q56r8)))
def Q56l2 : IC:=cLoop Q56l2a
def Q56b1 : IC:=cBlock 0 Q56l2
def Q56r9 : IC:=cReg Tryz.prog [xA 42 2 1,⟨some 43,none,iBld 43 [zI,zI,zI,zI,zF,zI,zS] [(0,1)] [(.const (.int .i64 1))]⟩,xV2 44 21 42 43,xM 41 44,xE 45 41 0,xE 46 41 1,xS 2 1 45] [1,2] [1,2]
def Q56r10 : IC:=cReg Tryz.prog [xA 47 2 1,xS 2 2 47] [2] [2]
def r6_Round : IC:=(cSeq Q56r0 (cSeq (cSeq Q56r1 Q56b1) (cSeq Q56r9 (cSeq Q56r10 cRet))))
theorem told_r6_Round {args r : List D} (hl : args.length = 1) (h : r6_Round (start args) (fin [(2,some (2,true))] r)) : Told Tryz.prog 12 args r :=
 told_of follows Tryz.func12 rfl (an:=[([],[1,2],[1,2],[]),([],[1,2,6,7],[1,2],[]),([],[1,2,6,7,8],[1,2],[]),([],[1,2,3,6,7],[1,2],[]),([],[1,2,3,6,7,17],[1,2],[]),([],[1,2,3,6,7],[1,2],[]),([],[1,2,3,6,7,32],[1,2],[]),([],[1,2,3,6,7],[1,2],[]),([],[1,2,6,7],[1,2],[]),([],[1,2],[1,2],[]),([],[2],[2],[])]) (by kernel_rfl) (by kernel_rfl) (by rw [hl]; decide +kernel) h
end Go.Proofs.YtgaofjiidedcbacGreat.ab
