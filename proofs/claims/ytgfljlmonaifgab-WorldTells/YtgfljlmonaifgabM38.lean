import Derived.Test.YtgfljlmonaifgabM37
import Derived.Test.YtgfljlmonaifgabM31
import Derived.Test.YtgfljlmonaifgabM29
import Derived.Test.YtgfljlmonaifgabM36
set_option maxHeartbeats 4000000
set_option linter.unusedVariables false
set_option linter.unusedSimpArgs false
namespace Go.Proofs.Ytgfljlmonaifgab.ab
open Go Go.RowKit
open mth
theorem ownMsg_told (m : Ms) (h : m.data.length ≤ 1048576) : Told Try.prog 68 [aD (encMs m)] [aD (encMs m)]:=by
 refine told_chunk_OwnMsg rfl ?_
 simp only [encMs]
 have h1 : m.data.length * 1 ≤ 140737488355328:=by omega
 refine wk (an2 @h1 @zmap) ?_
 exact ValsLe.refl _
theorem ownCh_told (c : Ch) (h : c.data.length ≤ 1048576) (h' : c.early.length ≤ 1048576) : Told Try.prog 61 [aD (encCh c)] [aD (encCh c)]:=by
 refine told_chunk_Own rfl ?_
 simp only [encCh]
 have h1 : c.data.length * 1 ≤ 140737488355328:=by omega
 have h2 : c.early.length * 8 ≤ 140737488355328:=by omega
 refine wk (an3 @h1 @h2 @zmap) ?_
 exact ValsLe.refl _
theorem callM : callableB Try.prog 68 = true:=by kernel_rfl
theorem callC : callableB Try.prog 61 = true:=by kernel_rfl
def omSt (l : List Ms) (k : Nat) : St:=⟨[(1,vD (.func (.func 68) #[] #[])),(5,sD 2 (encMl (l.take k))),(8,sD 2 (encMl l)),(9,vI l.length),(10,vI k)],[],[((5,none),(53,2,none))]⟩
theorem ml_snoc (l : List Ms) (m : Ms) : encMl (l ++ [m]) = encMl l ++ [aD [vI m.stream,sD 1 (m.data.map encB)]]:=by simp [encMl,encMs]
theorem ownM_core (l : List Ms) (hl : l.length ≤ 1048576) (hm : ∀ m ∈ l,m.data.length ≤ 1048576) (Q : AX → St → Prop) (hQ : Q (some none) ⟨[(4,sD 2 (encMl l))],[],[((4,none),(53,2,none))]⟩) : list_OwnM (start [sD 2 (encMl l),vD (.func (.func 68) #[] #[])]) Q:=by
 refine wk @len_ml ?_
 refine aw_loop (fun n st => ∃ k,k ≤ l.length ∧ n = l.length - k ∧ st = omSt l k) l.length (omSt l 0) ((Le.nilS 5 53 2 rfl).trans (Le.keep (lv:=[1,5,8,9,10]) (lb:=[]) (by simp only [ev0,ev1,ev2,look,lookF,cellsFrom,offT,offP,List.tail_nil,List.length_nil,Int.cast_ofNat_Int,Nat.reduceEqDiff,Nat.reduceAdd,Nat.reduceMul,Nat.reduceLeDiff,Nat.reduceLT,↓reduceIte,reduceCtorEq,Int.reduceBEq,Int.reduceBNe,Int.reduceLT,Int.reduceLE,Int.reduceToNat]; rfl))) ⟨0,by omega,by omega,rfl⟩ ?_
 rintro n st ⟨k,hk',hn,rfl⟩
 by_cases hlt : k < l.length
 ·obtain ⟨x,hx⟩ : ∃ m,l[k]? = some m:=⟨l[k],List.getElem?_eq_getElem hlt⟩
  have g1 : (k : Int) < (l.length : Int):=by omega
  have g2 : (0 : Int) ≤ (k : Int):=by omega
  have g3:=at_ml hx
  have g4 : inR .i64 ((k : Int) + 1) = true:=inR_of (by omega)
  have hlen : (l.take k).length = k:=by rw [List.length_take]; omega
  have hb1 : ((l.take k).length + 1) * 32 ≤ 140737488355328:=by omega
  have hnx : Next (fun n st => ∃ k,k ≤ l.length ∧ n = l.length - k ∧ st = omSt l k) n
    ⟨[(1,vD (.func (.func 68) #[] #[])),(5,sD 2 (encMl (l.take k) ++ [aD [vI x.stream,sD 1 (x.data.map encB)]])),(8,sD 2 (encMl l)),(9,vI l.length),(10,vI ((k : Int) + 1))],[],[((5,none),(53,2,none))]⟩:=by
   rw [← ml_snoc,show l.take k ++ [x] = l.take (k + 1) by rw [List.take_add_one,hx]; rfl]
   exact ⟨l.length - (k + 1),_,by omega,Le.refl _,k + 1,by omega,rfl,by simp only [omSt,Int.natCast_add,Int.cast_ofNat_Int]⟩
  generalize (fun n st => ∃ k,k ≤ l.length ∧ n = l.length - k ∧ st = omSt l k) = J at *
  simp only [omSt]
  generalize l.take k = G at *
  refine wk (an6 @g1 @g2 @g3 @callM @hb1 @len_ml) ?_
  refine cg [[aD [vI x.stream,sD 1 (x.data.map encB)]]] (an3 @callM @hb1 @len_ml) ?_ ?_
  ·exact obl_cons (ownMsg_told x (hm x (List.mem_of_getElem? hx))) obl_nil
  refine wk @g4 ?_
  exact hnx
 ·have hk'' : k = l.length:=by omega
  subst hk''
  have g1 : ¬ (l.length : Int) < (l.length : Int):=by omega
  simp only [omSt,List.take_length]
  refine wk @g1 ?_
  exact hQ
theorem ownM_told (l : List Ms) (hl : l.length ≤ 1048576) (hm : ∀ m ∈ l,m.data.length ≤ 1048576) : Told Try.prog 67 [sD 2 (encMl l),vD (.func (.func 68) #[] #[])] [sD 2 (encMl l)] :=
 told_list_OwnM rfl (ownM_core l hl hm _ ⟨[sD 2 (encMl l)],rfl,ValsLe.refl _⟩)
theorem ownM_toldO (l : List Ms) (hl : l.length ≤ 1048576) (hm : ∀ m ∈ l,m.data.length ≤ 1048576) : ToldO Try.prog 67 [sD 2 (encMl l),vD (.func (.func 68) #[] #[])] [sD 2 (encMl l)] none 53 (2,none) :=
 toldO_list_OwnM rfl (ownM_core l hl hm _ ⟨sD 2 (encMl l),rfl,rfl,CVLe.refl _,rfl⟩)
theorem cl_snoc' (l : List Ch) (c : Ch) : encCl (l ++ [c]) = encCl l ++ [aD [vI c.kind,vI c.number,vI c.stream,vI c.place,sD 1 (c.data.map encB),sD 1 (c.early.map vI)]]:=by simp [encCl,encCh]
def ocSt (l : List Ch) (k : Nat) : St:=⟨[(1,vD (.func (.func 61) #[] #[])),(5,sD 6 (encCl (l.take k))),(8,sD 6 (encCl l)),(9,vI l.length),(10,vI k)],[],[((5,none),(32,6,none))]⟩
theorem ownC_core (l : List Ch) (hl : l.length ≤ 1048576) (hm : ∀ m ∈ l,m.data.length ≤ 1048576 ∧ m.early.length ≤ 1048576) (Q : AX → St → Prop) (hQ : Q (some none) ⟨[(4,sD 6 (encCl l))],[],[((4,none),(32,6,none))]⟩) : list_OwnC (start [sD 6 (encCl l),vD (.func (.func 61) #[] #[])]) Q:=by
 refine wk @len_cl ?_
 refine aw_loop (fun n st => ∃ k,k ≤ l.length ∧ n = l.length - k ∧ st = ocSt l k) l.length (ocSt l 0) ((Le.nilS 5 32 6 rfl).trans (Le.keep (lv:=[1,5,8,9,10]) (lb:=[]) (by simp only [ev0,ev1,ev2,look,lookF,cellsFrom,offT,offP,List.tail_nil,List.length_nil,Int.cast_ofNat_Int,Nat.reduceEqDiff,Nat.reduceAdd,Nat.reduceMul,Nat.reduceLeDiff,Nat.reduceLT,↓reduceIte,reduceCtorEq,Int.reduceBEq,Int.reduceBNe,Int.reduceLT,Int.reduceLE,Int.reduceToNat]; rfl))) ⟨0,by omega,by omega,rfl⟩ ?_
 rintro n st ⟨k,hk',hn,rfl⟩
 by_cases hlt : k < l.length
 ·obtain ⟨x,hx⟩ : ∃ m,l[k]? = some m:=⟨l[k],List.getElem?_eq_getElem hlt⟩
  have g1 : (k : Int) < (l.length : Int):=by omega
  have g2 : (0 : Int) ≤ (k : Int):=by omega
  have g3:=at_cl hx
  have g4 : inR .i64 ((k : Int) + 1) = true:=inR_of (by omega)
  have hlen : (l.take k).length = k:=by rw [List.length_take]; omega
  have hb1 : ((l.take k).length + 1) * 80 ≤ 140737488355328:=by omega
  have hnx : Next (fun n st => ∃ k,k ≤ l.length ∧ n = l.length - k ∧ st = ocSt l k) n
    ⟨[(1,vD (.func (.func 61) #[] #[])),(5,sD 6 (encCl (l.take k) ++ [aD [vI x.kind,vI x.number,vI x.stream,vI x.place,sD 1 (x.data.map encB),sD 1 (x.early.map vI)]])),(8,sD 6 (encCl l)),(9,vI l.length),(10,vI ((k : Int) + 1))],[],[((5,none),(32,6,none))]⟩:=by
   rw [← cl_snoc',show l.take k ++ [x] = l.take (k + 1) by rw [List.take_add_one,hx]; rfl]
   exact ⟨l.length - (k + 1),_,by omega,Le.refl _,k + 1,by omega,rfl,by simp only [ocSt,Int.natCast_add,Int.cast_ofNat_Int]⟩
  generalize (fun n st => ∃ k,k ≤ l.length ∧ n = l.length - k ∧ st = ocSt l k) = J at *
  simp only [ocSt]
  generalize l.take k = G at *
  refine wk (an6 @g1 @g2 @g3 @callC @hb1 @len_cl) ?_
  refine cg [[aD [vI x.kind,vI x.number,vI x.stream,vI x.place,sD 1 (x.data.map encB),sD 1 (x.early.map vI)]]] (an3 @callC @hb1 @len_cl) ?_ ?_
  ·exact obl_cons (ownCh_told x (hm x (List.mem_of_getElem? hx)).1 (hm x (List.mem_of_getElem? hx)).2) obl_nil
  refine wk @g4 ?_
  exact hnx
 ·have hk'' : k = l.length:=by omega
  subst hk''
  have g1 : ¬ (l.length : Int) < (l.length : Int):=by omega
  simp only [ocSt,List.take_length]
  refine wk @g1 ?_
  exact hQ
def ohSt (l : List Ch) (k : Nat) : St:=⟨[(1,vD (.func (.func 61) #[] #[])),(5,xD),(8,sD 6 (encCl l)),(9,vI l.length),(10,vI k)],[],[((5,none),(32,6,some (encCl (l.take k))))]⟩
theorem ownH_core (l : List Ch) (hl : l.length ≤ 1048576) (hm : ∀ m ∈ l,m.data.length ≤ 1048576 ∧ m.early.length ≤ 1048576) (Q : AX → St → Prop) (hQ : Q (some none) ⟨[(4,xD)],[],[((4,none),(32,6,some (encCl l)))]⟩) : list_OwnC (start [sD 6 (encCl l),vD (.func (.func 61) #[] #[])]) Q:=by
 refine wk @len_cl ?_
 refine aw_loop (fun n st => ∃ k,k ≤ l.length ∧ n = l.length - k ∧ st = ohSt l k) l.length (ohSt l 0) ((le_nilH 5 32 6 rfl).trans (Le.keep (lv:=[1,5,8,9,10]) (lb:=[]) (by simp only [ev0,ev1,ev2,look,lookF,cellsFrom,offT,offP,List.tail_nil,List.length_nil,Int.cast_ofNat_Int,Nat.reduceEqDiff,Nat.reduceAdd,Nat.reduceMul,Nat.reduceLeDiff,Nat.reduceLT,↓reduceIte,reduceCtorEq,Int.reduceBEq,Int.reduceBNe,Int.reduceLT,Int.reduceLE,Int.reduceToNat]; rfl))) ⟨0,by omega,by omega,rfl⟩ ?_
 rintro n st ⟨k,hk',hn,rfl⟩
 by_cases hlt : k < l.length
 ·obtain ⟨x,hx⟩ : ∃ m,l[k]? = some m:=⟨l[k],List.getElem?_eq_getElem hlt⟩
  have g1 : (k : Int) < (l.length : Int):=by omega
  have g2 : (0 : Int) ≤ (k : Int):=by omega
  have g3:=at_cl hx
  have g4 : inR .i64 ((k : Int) + 1) = true:=inR_of (by omega)
  have hlen : (l.take k).length = k:=by rw [List.length_take]; omega
  have hb1 : ((l.take k).length + 1) * 80 ≤ 140737488355328:=by omega
  have hnx : Next (fun n st => ∃ k,k ≤ l.length ∧ n = l.length - k ∧ st = ohSt l k) n
    ⟨[(1,vD (.func (.func 61) #[] #[])),(5,xD),(8,sD 6 (encCl l)),(9,vI l.length),(10,vI ((k : Int) + 1))],[],[((5,none),(32,6,some (encCl (l.take k) ++ [aD [vI x.kind,vI x.number,vI x.stream,vI x.place,sD 1 (x.data.map encB),sD 1 (x.early.map vI)]])))]⟩:=by
   rw [← cl_snoc',show l.take k ++ [x] = l.take (k + 1) by rw [List.take_add_one,hx]; rfl]
   exact ⟨l.length - (k + 1),_,by omega,Le.refl _,k + 1,by omega,rfl,by simp only [ohSt,Int.natCast_add,Int.cast_ofNat_Int]⟩
  generalize (fun n st => ∃ k,k ≤ l.length ∧ n = l.length - k ∧ st = ohSt l k) = J at *
  simp only [ohSt]
  generalize l.take k = G at *
  refine wk (an6 @g1 @g2 @g3 @callC @hb1 @len_cl) ?_
  refine cg [[aD [vI x.kind,vI x.number,vI x.stream,vI x.place,sD 1 (x.data.map encB),sD 1 (x.early.map vI)]]] (an3 @callC @hb1 @len_cl) ?_ ?_
  ·exact obl_cons (ownCh_told x (hm x (List.mem_of_getElem? hx)).1 (hm x (List.mem_of_getElem? hx)).2) obl_nil
  refine wk @g4 ?_
  exact hnx
 ·have hk'' : k = l.length:=by omega
  subst hk''
  have g1 : ¬ (l.length : Int) < (l.length : Int):=by omega
  simp only [ohSt,List.take_length]
  refine wk @g1 ?_
  exact hQ
theorem ownC_told (l : List Ch) (hl : l.length ≤ 1048576) (hm : ∀ m ∈ l,m.data.length ≤ 1048576 ∧ m.early.length ≤ 1048576) : Told Try.prog 66 [sD 6 (encCl l),vD (.func (.func 61) #[] #[])] [sD 6 (encCl l)] :=
 told_list_OwnC rfl (ownC_core l hl hm _ ⟨[sD 6 (encCl l)],rfl,ValsLe.refl _⟩)
theorem ownC_toldO (l : List Ch) (hl : l.length ≤ 1048576) (hm : ∀ m ∈ l,m.data.length ≤ 1048576 ∧ m.early.length ≤ 1048576) : ToldO Try.prog 66 [sD 6 (encCl l),vD (.func (.func 61) #[] #[])] [sD 6 (encCl l)] none 32 (6,none) :=
 toldO_list_OwnC rfl (ownC_core l hl hm _ ⟨sD 6 (encCl l),rfl,rfl,CVLe.refl _,rfl⟩)
theorem ownC_toldH (l : List Ch) (hl : l.length ≤ 1048576) (hm : ∀ m ∈ l,m.data.length ≤ 1048576 ∧ m.early.length ≤ 1048576) : ToldO Try.prog 66 [sD 6 (encCl l),vD (.func (.func 61) #[] #[])] [xD] none 32 (6,some (encCl l)) :=
 toldO_list_OwnC rfl (ownH_core l hl hm _ ⟨xD,rfl,rfl,CVLe.refl _,rfl⟩)
structure SmallS (s : Sd) : Prop where
 q : s.queue.length ≤ 1048576
 m : ∀ m ∈ s.queue,m.data.length ≤ 1048576
 f : s.flight.length ≤ 1048576
 c : ∀ c ∈ s.flight,c.data.length ≤ 1048576 ∧ c.early.length ≤ 1048576
theorem ownS_told (s : Sd) (h : SmallS s) : Told Try.prog 57 [aD (encSd s)] [aD (encSd s)]:=by
 refine told_send_Own rfl ?_
 simp only [encSd]
 refine wk0 ?_
 refine cg0 [[sD 2 (encMl s.queue)]] ?_ ?_
 ·exact obl_cons (ownM_told s.queue h.q h.m) obl_nil
 refine wk0 ?_
 refine cg0 [[sD 6 (encCl s.flight)]] ?_ ?_
 ·exact obl_cons (ownC_told s.flight h.f h.c) obl_nil
 refine wk0 ?_
 exact ValsLe.refl _
theorem row_refl : ∀ (cs : List D),RowLe cs cs
 | [] => trivial
 | _ :: r => ⟨LfLe.refl _,row_refl r⟩
theorem ownS_toldQ (s : Sd) (h : SmallS s) : ToldO Try.prog 57 [aD (encSd s)] [aD (encSd s)] (some 0) 53 (2,none):=by
 refine toldO_send_OwnO rfl ?_
 simp only [encSd]
 refine wk0 ?_
 refine cg0 [[mO (sD 2 (encMl s.queue)) 53 2 xD]] ?_ ?_
 ·exact obl_out (ownM_toldO s.queue h.q h.m) obl_nil
 refine wk0 ?_
 refine cg0 [[sD 6 (encCl s.flight)]] ?_ ?_
 ·exact obl_cons (ownC_told s.flight h.f h.c) obl_nil
 refine wk0 ?_
 refine ⟨1,2,_,_,0,_,rfl,rfl,by decide,rfl,rfl,rfl,rfl,rfl,by decide,rfl,?_⟩
 refine wk0 ?_
 exact fin1_ret ⟨2,_,rfl,rfl,rfl,rfl,row_refl _,by decide,rfl⟩
theorem ownS_toldF (s : Sd) (h : SmallS s) : ToldO Try.prog 57 [aD (encSd s)] [aD (encSd s)] (some 5) 32 (6,none):=by
 refine toldO_send_OwnO rfl ?_
 simp only [encSd]
 refine wk0 ?_
 refine cg0 [[sD 2 (encMl s.queue)]] ?_ ?_
 ·exact obl_cons (ownM_told s.queue h.q h.m) obl_nil
 refine wk0 ?_
 refine cg0 [[mO (sD 6 (encCl s.flight)) 32 6 xD]] ?_ ?_
 ·exact obl_out (ownC_toldO s.flight h.f h.c) obl_nil
 refine wk0 ?_
 refine ⟨1,2,_,_,5,_,rfl,rfl,by decide,rfl,rfl,rfl,rfl,rfl,by decide,rfl,?_⟩
 refine wk0 ?_
 exact fin1_ret ⟨2,_,rfl,rfl,rfl,rfl,row_refl _,by decide,rfl⟩
theorem ownS_toldH (s : Sd) (h : SmallS s) : ToldO Try.prog 57 [aD (encSd s)] [aD [sD 2 (encMl s.queue),vI s.next,vI s.p0,vI s.p1,vI s.p2,xD,vI s.turn]] (some 5) 32 (6,some (encCl s.flight)):=by
 refine toldO_send_OwnO rfl ?_
 simp only [encSd]
 refine wk0 ?_
 refine cg0 [[sD 2 (encMl s.queue)]] ?_ ?_
 ·exact obl_cons (ownM_told s.queue h.q h.m) obl_nil
 refine wk0 ?_
 refine cg0 [[mO xD 32 6 (aD (encCl s.flight))]] ?_ ?_
 ·exact obl_out (ownC_toldH s.flight h.f h.c) obl_nil
 refine wk0 ?_
 refine ⟨1,2,_,_,5,_,rfl,rfl,by decide,rfl,rfl,rfl,rfl,rfl,by decide,rfl,?_⟩
 refine wk0 ?_
 exact fin1_ret ⟨2,_,rfl,rfl,rfl,rfl,row_refl _,by decide,rfl⟩
end Go.Proofs.Ytgfljlmonaifgab.ab
namespace Go.Proofs.Ytgfljlmonaifgab.mth
end Go.Proofs.Ytgfljlmonaifgab.mth
namespace Go.Proofs.Ytgfljlmonaifgab.ab
open Go Go.RowKit
open mth
theorem callLn : callableB Try.prog 34 = true:=by kernel_rfl
theorem ll_snoc (l : List Ln) (x : Ln) : encLl (l ++ [x]) = encLl l ++ [aD (encLn x)]:=by simp [encLl]
def owSt (l : List Ln) (k : Nat) : St:=⟨[(1,vD (.func (.func 34) #[] #[])),(5,sD 17 (encLl (l.take k))),(8,sD 17 (encLl l)),(9,vI l.length),(10,vI k)],[],[((5,none),(61,17,none))]⟩
def owHt (l : List Ln) (k : Nat) : St:=⟨[(1,vD (.func (.func 34) #[] #[])),(5,xD),(8,sD 17 (encLl l)),(9,vI l.length),(10,vI k)],[],[((5,none),(61,17,some (encLl (l.take k))))]⟩
theorem ownW_core (hO : CLOwn 34) (l : List Ln) (hl : l.length ≤ 1048576) (hm : ∀ m ∈ l,GoodL m) (Q : AX → St → Prop) (hQ : Q (some none) ⟨[(4,sD 17 (encLl l))],[],[((4,none),(61,17,none))]⟩) : list_OwnW (start [sD 17 (encLl l),vD (.func (.func 34) #[] #[])]) Q:=by
 refine wk @len_ll ?_
 refine aw_loop (fun n st => ∃ k,k ≤ l.length ∧ n = l.length - k ∧ st = owSt l k) l.length (owSt l 0) ((Le.nilS 5 61 17 rfl).trans (Le.keep (lv:=[1,5,8,9,10]) (lb:=[]) (by simp only [ev0,ev1,ev2,look,lookF,cellsFrom,offT,offP,List.tail_nil,List.length_nil,Int.cast_ofNat_Int,Nat.reduceEqDiff,Nat.reduceAdd,Nat.reduceMul,Nat.reduceLeDiff,Nat.reduceLT,↓reduceIte,reduceCtorEq,Int.reduceBEq,Int.reduceBNe,Int.reduceLT,Int.reduceLE,Int.reduceToNat]; rfl))) ⟨0,by omega,by omega,rfl⟩ ?_
 rintro n st ⟨k,hk',hn,rfl⟩
 by_cases hlt : k < l.length
 ·obtain ⟨x,hx⟩ : ∃ m,l[k]? = some m:=⟨l[k],List.getElem?_eq_getElem hlt⟩
  have g1 : (k : Int) < (l.length : Int):=by omega
  have g2 : (0 : Int) ≤ (k : Int):=by omega
  have g3:=at_ll hx
  have g4 : inR .i64 ((k : Int) + 1) = true:=inR_of (by omega)
  have hlen : (l.take k).length = k:=by rw [List.length_take]; omega
  have hb1 : ((l.take k).length + 1) * 248 ≤ 140737488355328:=by omega
  have h1:=hO x (hm x (List.mem_of_getElem? hx))
  have hnx : Next (fun n st => ∃ k,k ≤ l.length ∧ n = l.length - k ∧ st = owSt l k) n
    ⟨[(1,vD (.func (.func 34) #[] #[])),(5,sD 17 (encLl (l.take k) ++ [aD (encLn x)])),(8,sD 17 (encLl l)),(9,vI l.length),(10,vI ((k : Int) + 1))],[],[((5,none),(61,17,none))]⟩:=by
   rw [← ll_snoc,show l.take k ++ [x] = l.take (k + 1) by rw [List.take_add_one,hx]; rfl]
   exact ⟨l.length - (k + 1),_,by omega,Le.refl _,k + 1,by omega,rfl,by simp only [owSt,Int.natCast_add,Int.cast_ofNat_Int]⟩
  generalize (fun n st => ∃ k,k ≤ l.length ∧ n = l.length - k ∧ st = owSt l k) = J at *
  simp only [owSt,encLn] at g3 h1 hnx ⊢
  generalize l.take k = G at *
  refine wk (an7 @g1 @g2 @g3 @callLn @hb1 @len_ll @Int.toNat_natCast) ?_
  refine cg [[aD (encLn x)]] (an4 @encLn.eq_1 @callLn @hb1 @len_ll) ?_ ?_
  ·exact obl_cons h1 obl_nil
  refine wk @g4 ?_
  exact hnx
 ·have hk'' : k = l.length:=by omega
  subst hk''
  have g1 : ¬ (l.length : Int) < (l.length : Int):=by omega
  simp only [owSt,List.take_length]
  refine wk @g1 ?_
  exact hQ
theorem ownWH_core (hO : CLOwn 34) (l : List Ln) (hl : l.length ≤ 1048576) (hm : ∀ m ∈ l,GoodL m) (Q : AX → St → Prop) (hQ : Q (some none) ⟨[(4,xD)],[],[((4,none),(61,17,some (encLl l)))]⟩) : list_OwnW (start [sD 17 (encLl l),vD (.func (.func 34) #[] #[])]) Q:=by
 refine wk @len_ll ?_
 refine aw_loop (fun n st => ∃ k,k ≤ l.length ∧ n = l.length - k ∧ st = owHt l k) l.length (owHt l 0) ((le_nilH 5 61 17 rfl).trans (Le.keep (lv:=[1,5,8,9,10]) (lb:=[]) (by simp only [ev0,ev1,ev2,look,lookF,cellsFrom,offT,offP,List.tail_nil,List.length_nil,Int.cast_ofNat_Int,Nat.reduceEqDiff,Nat.reduceAdd,Nat.reduceMul,Nat.reduceLeDiff,Nat.reduceLT,↓reduceIte,reduceCtorEq,Int.reduceBEq,Int.reduceBNe,Int.reduceLT,Int.reduceLE,Int.reduceToNat]; rfl))) ⟨0,by omega,by omega,rfl⟩ ?_
 rintro n st ⟨k,hk',hn,rfl⟩
 by_cases hlt : k < l.length
 ·obtain ⟨x,hx⟩ : ∃ m,l[k]? = some m:=⟨l[k],List.getElem?_eq_getElem hlt⟩
  have g1 : (k : Int) < (l.length : Int):=by omega
  have g2 : (0 : Int) ≤ (k : Int):=by omega
  have g3:=at_ll hx
  have g4 : inR .i64 ((k : Int) + 1) = true:=inR_of (by omega)
  have hlen : (l.take k).length = k:=by rw [List.length_take]; omega
  have hb1 : ((l.take k).length + 1) * 248 ≤ 140737488355328:=by omega
  have h1:=hO x (hm x (List.mem_of_getElem? hx))
  have hnx : Next (fun n st => ∃ k,k ≤ l.length ∧ n = l.length - k ∧ st = owHt l k) n
    ⟨[(1,vD (.func (.func 34) #[] #[])),(5,xD),(8,sD 17 (encLl l)),(9,vI l.length),(10,vI ((k : Int) + 1))],[],[((5,none),(61,17,some (encLl (l.take k) ++ [aD (encLn x)])))]⟩:=by
   rw [← ll_snoc,show l.take k ++ [x] = l.take (k + 1) by rw [List.take_add_one,hx]; rfl]
   exact ⟨l.length - (k + 1),_,by omega,Le.refl _,k + 1,by omega,rfl,by simp only [owHt,Int.natCast_add,Int.cast_ofNat_Int]⟩
  generalize (fun n st => ∃ k,k ≤ l.length ∧ n = l.length - k ∧ st = owHt l k) = J at *
  simp only [owHt,encLn] at g3 h1 hnx ⊢
  generalize l.take k = G at *
  refine wk (an7 @g1 @g2 @g3 @callLn @hb1 @len_ll @Int.toNat_natCast) ?_
  refine cg [[aD (encLn x)]] (an4 @encLn.eq_1 @callLn @hb1 @len_ll) ?_ ?_
  ·exact obl_cons h1 obl_nil
  refine wk @g4 ?_
  exact hnx
 ·have hk'' : k = l.length:=by omega
  subst hk''
  have g1 : ¬ (l.length : Int) < (l.length : Int):=by omega
  simp only [owHt,List.take_length]
  refine wk @g1 ?_
  exact hQ
theorem ownW_told (hO : CLOwn 34) (l : List Ln) (hl : l.length ≤ 1048576) (hm : ∀ m ∈ l,GoodL m) : Told Try.prog 92 [sD 17 (encLl l),vD (.func (.func 34) #[] #[])] [sD 17 (encLl l)] :=
 told_list_OwnW rfl (ownW_core hO l hl hm _ ⟨[sD 17 (encLl l)],rfl,ValsLe.refl _⟩)
theorem ownW_toldH (hO : CLOwn 34) (l : List Ln) (hl : l.length ≤ 1048576) (hm : ∀ m ∈ l,GoodL m) : ToldO Try.prog 92 [sD 17 (encLl l),vD (.func (.func 34) #[] #[])] [xD] none 61 (17,some (encLl l)) :=
 toldO_list_OwnW rfl (ownWH_core hO l hl hm _ ⟨xD,rfl,rfl,CVLe.refl _,rfl⟩)
def CWOwn (f : Nat) : Prop:=∀ w,GoodW w → Told Try.prog f [aD (encWd w)] [aD (encWd w)]
def CWNew (f : Nat) : Prop:=(∀ n : Nat,1 ≤ n → n ≤ 3 → Told Try.prog f [vI n] [aD (encWd (newW n)),vI 0]) ∧ ∀ n : Int,n < 1 ∨ 3 < n → Told Try.prog f [vI n] [aD (encWd ⟨[],0⟩),vI 3]
def CWDo (f : Nat) : Prop:=∀ w s,GoodW w → w.ticks ≤ 1000000 → Told Try.prog f [aD (encWd w),aD (encSp s)] [aD (encWd (doW w s).1),vI (doW w s).2]
theorem ownWd_told (hO : CLOwn 34) : CWOwn 54:=by
 intro w hw
 refine told_world_Own rfl ?_
 have h1:=ownW_told hO w.lanes (by have:=hw.n; omega) hw.l
 simp only [encWd]
 refine wk0 ?_
 refine cg0 [[sD 17 (encLl w.lanes)]] ?_ ?_
 ·exact obl_cons h1 obl_nil
 refine wk0 ?_
 exact ValsLe.refl _
theorem ownWd_toldO (hO : CLOwn 34) (w : Wd) (hw : GoodW w) : ToldO Try.prog 54 [aD (encWd w)] [aD [xD,vI w.ticks]] (some 0) 61 (17,some (encLl w.lanes)):=by
 refine toldO_world_OwnO rfl ?_
 have h1:=ownW_toldH hO w.lanes (by have:=hw.n; omega) hw.l
 simp only [encWd]
 refine wk0 ?_
 refine cg0 [[mO xD 61 17 (aD (encLl w.lanes))]] ?_ ?_
 ·exact obl_out h1 obl_nil
 refine wk0 ?_
 refine ⟨1,2,_,_,0,_,rfl,rfl,by decide,rfl,rfl,rfl,rfl,rfl,by decide,rfl,?_⟩
 refine wk0 ?_
 exact fin1_ret ⟨2,_,rfl,rfl,rfl,rfl,row_refl _,by decide,rfl⟩
theorem newWd_told : CWNew 49:=by
 refine ⟨fun n h1 h2 => ?_,fun n h => ?_⟩
 ·refine told_world_New rfl ?_
  have h3 : n = 1 ∨ n = 2 ∨ n = 3:=by omega
  rcases h3 with rfl | rfl | rfl
  ·simp only [newW,encWd,encLl,List.replicate,List.map_cons,List.map_nil,encLn,zeroL,zeroS,zeroR,encMl,encCl,encPk]
   refine wk (an4 @Int.toNat_natCast @zrs @zr0 @zcons) ?_
   repeat' (first | exact vals_nil | exact row_nil | exact es_nil | exact CVLe.refl _ | exact LfLe.refl _ | exact LfLe.nil _ | exact EsLe.refl _ | refine vals_cons ?_ ?_ | refine row_cons ?_ ?_ | refine es_cons ?_ ?_ | refine EsLe.app ?_ ?_ | refine CVLe.row ?_ | refine CVLe.leafV ?_ | refine CVLe.leafS ?_ | refine LfLe.s ?_)
  ·simp only [newW,encWd,encLl,List.replicate,List.map_cons,List.map_nil,encLn,zeroL,zeroS,zeroR,encMl,encCl,encPk]
   refine wk (an4 @Int.toNat_natCast @zrs @zr0 @zcons) ?_
   repeat' (first | exact vals_nil | exact row_nil | exact es_nil | exact CVLe.refl _ | exact LfLe.refl _ | exact LfLe.nil _ | exact EsLe.refl _ | refine vals_cons ?_ ?_ | refine row_cons ?_ ?_ | refine es_cons ?_ ?_ | refine EsLe.app ?_ ?_ | refine CVLe.row ?_ | refine CVLe.leafV ?_ | refine CVLe.leafS ?_ | refine LfLe.s ?_)
  ·simp only [newW,encWd,encLl,List.replicate,List.map_cons,List.map_nil,encLn,zeroL,zeroS,zeroR,encMl,encCl,encPk]
   refine wk (an4 @Int.toNat_natCast @zrs @zr0 @zcons) ?_
   repeat' (first | exact vals_nil | exact row_nil | exact es_nil | exact CVLe.refl _ | exact LfLe.refl _ | exact LfLe.nil _ | exact EsLe.refl _ | refine vals_cons ?_ ?_ | refine row_cons ?_ ?_ | refine es_cons ?_ ?_ | refine EsLe.app ?_ ?_ | refine CVLe.row ?_ | refine CVLe.leafV ?_ | refine CVLe.leafS ?_ | refine LfLe.s ?_)
 ·refine told_world_New rfl ?_
  simp only [encWd,encLl,List.map_nil]
  by_cases h1 : n < 1
  ·refine wk @h1 ?_
   repeat' (first | exact vals_nil | exact row_nil | exact es_nil | exact CVLe.refl _ | exact LfLe.refl _ | exact LfLe.nil _ | exact EsLe.refl _ | refine vals_cons ?_ ?_ | refine row_cons ?_ ?_ | refine es_cons ?_ ?_ | refine EsLe.app ?_ ?_ | refine CVLe.row ?_ | refine CVLe.leafV ?_ | refine CVLe.leafS ?_ | refine LfLe.s ?_)
  ·have h2 : 3 < n:=by omega
   refine wk (an2 @h1 @h2) ?_
   repeat' (first | exact vals_nil | exact row_nil | exact es_nil | exact CVLe.refl _ | exact LfLe.refl _ | exact LfLe.nil _ | exact EsLe.refl _ | refine vals_cons ?_ ?_ | refine row_cons ?_ ?_ | refine es_cons ?_ ?_ | refine EsLe.app ?_ ?_ | refine CVLe.row ?_ | refine CVLe.leafV ?_ | refine CVLe.leafS ?_ | refine LfLe.s ?_)
end Go.Proofs.Ytgfljlmonaifgab.ab
