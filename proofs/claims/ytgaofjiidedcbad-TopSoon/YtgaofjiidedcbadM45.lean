import Derived.Test.YtgaofjiidedcbadM44
import Derived.Test.YtgaofjiidedcbadM40
import Derived.Test.YtgaofjiidedcbadM43
import Derived.Test.YtgaofjiidedcbadM26
set_option maxHeartbeats 8000000
set_option linter.unusedVariables false
set_option linter.unusedSimpArgs false
namespace Go.Proofs.Ytgaofjiidedcbad.ab
open Go Go.RowKit
open mth
theorem takes_told (nx : Int) (early : List Int) (p0 p1 p2 : Int) (c5 c6 : D) (ow : Bool) (n : Int) (hl : early.length ≤ 1048576) :
  Told Try.prog 68 [aD [vI nx,sD 1 (early.map vI),vI p0,vI p1,vI p2,c5,c6,vB ow],vI n] [vB (!(early.contains n || (decide (n < nx) || (decide (nx < n) && decide (2 < early.length)))))]:=by
 refine told_recv_takes rfl ?_
 by_cases q1 : n < nx
 ·rw [decide_eq_true q1,Bool.true_or,Bool.or_true,Bool.not_true]
  refine wk @q1 ?_
  exact ValsLe.refl _
 ·rw [decide_eq_false q1,Bool.false_or]
  have q1' : ¬ n < nx:=q1
  refine wk @q1' ?_
  refine cg [[vB (early.contains n)]] @q1' ?_ ?_
  ·exact obl_cons (contains_told early n (by omega)) obl_nil
  cases hc : early.contains n with
  | true =>
   refine wk0 ?_
   exact ValsLe.refl _
  | false =>
   rw [Bool.false_or]
   cases he : (n == nx) with
   | true =>
    have : n = nx:=by simpa using he
    subst this
    rw [decide_eq_false (by omega),Bool.false_and]
    refine wk @he ?_
    exact ValsLe.refl _
   | false =>
    have hne : n ≠ nx:=by simpa using he
    rw [decide_eq_true (by omega : nx < n),Bool.true_and]
    by_cases h3 : 2 < early.length
    ·have h3' : ¬ ((early.length : Int) < 3):=by omega
     rw [decide_eq_true h3]
     refine wk (an3 @he @h3' @zmap) ?_
     exact ValsLe.refl _
    ·have h3' : ((early.length : Int) < 3):=by omega
     rw [decide_eq_false h3]
     refine wk (an3 @he @h3' @zmap) ?_
     exact ValsLe.refl _
def dueP (p0 p1 p2 : Int) (x : Ch) : Bool:=x.place == plc p0 p1 p2 x.stream
theorem due_told (nx p0 p1 p2 : Int) (c1 c5 c6 : D) (ow : Bool) (x : Ch) (hs : x.stream = 0 ∨ x.stream = 1 ∨ x.stream = 2) :
  Told Try.prog 83 [aD (encCh x),jD 0 0 [vI nx,c1,vI p0,vI p1,vI p2,c5,c6,vB ow]] [vB (dueP p0 p1 p2 x)]:=by
 refine told_recv_tellDueS1 rfl ?_
 simp only [encCh]
 unfold dueP
 rcases hs with h | h | h
 ·have e : plc p0 p1 p2 x.stream = p0:=by rw [h]; rfl
  rw [e]
  refine wk @h ?_
  exact ValsLe.refl _
 ·have e : plc p0 p1 p2 x.stream = p1:=by rw [h]; rfl
  rw [e]
  refine wk @h ?_
  exact ValsLe.refl _
 ·have e : plc p0 p1 p2 x.stream = p2:=by rw [h]; rfl
  rw [e]
  refine wk @h ?_
  exact ValsLe.refl _
theorem callDue : callableB Try.prog 83 = true:=by kernel_rfl
end Go.Proofs.Ytgaofjiidedcbad.ab
namespace Go.Proofs.Ytgaofjiidedcbad.mth
theorem eq_sorted : ∀ {l l' : List Int},l.Pairwise (· < ·) → l'.Pairwise (· < ·) → (∀ x,x ∈ l ↔ x ∈ l') → l = l'
 | [],[],_,_,_ => rfl
 | [],y :: r',_,_,h => absurd ((h y).2 (by simp)) (by simp)
 | x :: r,[],_,_,h => absurd ((h x).1 (by simp)) (by simp)
 | x :: r,y :: r',h1,h2,h => by
  rw [List.pairwise_cons] at h1 h2
  have hxy : x = y:=by
   have hx:=(h x).1 (by simp)
   have hy:=(h y).2 (by simp)
   rcases List.mem_cons.1 hx with e | e
   ·exact e
   ·rcases List.mem_cons.1 hy with e' | e'
    ·exact e'.symm
    ·have:=h1.1 y e'; have:=h2.1 x e; omega
  subst hxy
  congr 1
  refine eq_sorted h1.2 h2.2 (fun z => ?_)
  constructor
  ·intro hz
   have:=(h z).1 (by simp [hz])
   rcases List.mem_cons.1 this with e | e
   ·subst e; have:=h1.1 z hz; omega
   ·exact e
  ·intro hz
   have:=(h z).2 (by simp [hz])
   rcases List.mem_cons.1 this with e | e
   ·subst e; have:=h2.1 z hz; omega
   ·exact e
theorem rangeI_sorted (a b : Int) : (rangeI a b).Pairwise (· < ·):=by
 unfold rangeI
 rw [List.pairwise_map]
 exact List.pairwise_lt_range.imp (fun h => by omega)
theorem earlyR_sorted (S : List Int) (a : Int) : (earlyR S a).Pairwise (· < ·):=(rangeI_sorted a 40).filter _
theorem mem_earlyR {S : List Int} {a m : Int} : m ∈ earlyR S a ↔ (a ≤ m ∧ m < 40) ∧ m ∈ S:=by
 unfold earlyR
 rw [List.mem_filter,mem_rangeI,List.contains_iff_mem]
def layIn (l : List Int) (n : Int) : List Int:=l.take (l.countP (· < n)) ++ n :: l.drop (l.countP (· < n))
theorem layIn_cons {x n : Int} {r : List Int} (h : x < n) : layIn (x :: r) n = x :: layIn r n:=by
 unfold layIn
 rw [List.countP_cons_of_pos (by simpa using h)]
 rfl
theorem layIn_head {l : List Int} {n : Int} (h : ∀ x ∈ l,n < x) : layIn l n = n :: l:=by
 have : l.countP (· < n) = 0:=by
  rw [List.countP_eq_zero]
  intro x hx
  have:=h x hx
  simp; omega
 unfold layIn
 rw [this]; rfl
theorem layIn_ok {n : Int} : ∀ {l : List Int},l.Pairwise (· < ·) → n ∉ l → (layIn l n).Pairwise (· < ·) ∧ ∀ m,m ∈ layIn l n ↔ m = n ∨ m ∈ l
 | [],_,_ => by rw [layIn_head (fun x hx => by cases hx)]; simp
 | x :: r,h,hn => by
  rw [List.pairwise_cons] at h
  simp only [List.mem_cons,not_or] at hn
  by_cases hx : x < n
  ·rw [layIn_cons hx]
   obtain ⟨h1,h2⟩:=layIn_ok h.2 hn.2
   refine ⟨List.pairwise_cons.2 ⟨fun m hm => ?_,h1⟩,fun m => ?_⟩
   ·rcases (h2 m).1 hm with rfl | hm
    ·exact hx
    ·exact h.1 m hm
   ·rw [List.mem_cons,h2,List.mem_cons]
    constructor
    ·rintro (q | q | q)
     ·exact .inr (.inl q)
     ·exact .inl q
     ·exact .inr (.inr q)
    ·rintro (q | q | q)
     ·exact .inr (.inl q)
     ·exact .inl q
     ·exact .inr (.inr q)
  ·have hlt : ∀ y ∈ x :: r,n < y:=fun y hy => by
    rcases List.mem_cons.1 hy with rfl | hy
    ·have:=hn.1; omega
    ·have:=h.1 y hy; have:=hn.1; omega
   rw [layIn_head hlt]
   exact ⟨List.pairwise_cons.2 ⟨hlt,List.pairwise_cons.2 h⟩,fun m => by rw [List.mem_cons]⟩
def strip : List Int → Int → List Int × Int
 | [],nx => ([],nx)
 | x :: r,nx => if x = nx then strip r (nx + 1) else (x :: r,nx)
theorem strip_ok (S : List Int) : ∀ (L : List Int) (nx : Int) (f : Nat),L.Pairwise (· < ·) → (∀ x ∈ L,nx ≤ x ∧ x < 40) → (∀ m,nx ≤ m → (m ∈ S ↔ m ∈ L)) → nx ≤ 40 → 40 - nx < f →
  (strip L nx).2 = climb f S nx ∧ (strip L nx).1 = earlyR S (strip L nx).2
 | [],nx,f,h1,h2,h3,h4,h5 => by
  have hc : S.contains nx = false:=by
   cases h : S.contains nx with
   | false => rfl
   | true => exact absurd ((h3 nx (Int.le_refl _)).1 (List.contains_iff_mem.1 h)) (by simp)
  refine ⟨(climb_end hc f).symm,?_⟩
  refine eq_sorted List.Pairwise.nil (earlyR_sorted _ _) (fun x => ?_)
  show x ∈ [] ↔ x ∈ earlyR S nx
  rw [mem_earlyR]
  constructor
  ·intro h; cases h
  ·intro ⟨⟨q1,_⟩,q2⟩; exact (h3 x q1).1 q2
 | x :: r,nx,f,h1,h2,h3,h4,h5 => by
  rw [List.pairwise_cons] at h1
  by_cases hx : x = nx
  ·subst hx
   have e : strip (x :: r) x = strip r (x + 1):=by
    show (if x = x then _ else _) = _
    rw [if_pos rfl]
   rw [e]
   have hx40:=(h2 x (by simp)).2
   obtain ⟨g,rfl⟩ : ∃ g,f = g + 1:=⟨f - 1,by omega⟩
   have hin : S.contains x = true:=List.contains_iff_mem.2 ((h3 x (Int.le_refl _)).2 (by simp))
   rw [climb_eq hin]
   refine strip_ok S r (x + 1) g h1.2 (fun y hy => ⟨by have:=h1.1 y hy; omega,(h2 y (by simp [hy])).2⟩) (fun m hm => ?_) (by omega) (by omega)
   rw [h3 m (by omega),List.mem_cons]
   constructor
   ·rintro (q | q)
    ·omega
    ·exact q
   ·exact .inr
  ·have e : strip (x :: r) nx = (x :: r,nx):=by
    show (if x = nx then _ else _) = _
    rw [if_neg hx]
   rw [e]
   have hgt : ∀ y ∈ x :: r,nx < y:=fun y hy => by
    rcases List.mem_cons.1 hy with rfl | hy
    ·have:=(h2 y (by simp)).1; omega
    ·have:=h1.1 y hy; have:=(h2 x (by simp)).1; omega
   have hc : S.contains nx = false:=by
    cases h : S.contains nx with
    | false => rfl
    | true => have:=hgt nx ((h3 nx (Int.le_refl _)).1 (List.contains_iff_mem.1 h)); omega
   refine ⟨(climb_end hc f).symm,?_⟩
   refine eq_sorted (List.pairwise_cons.2 h1) (earlyR_sorted _ _) (fun y => ?_)
   show y ∈ x :: r ↔ y ∈ earlyR S nx
   rw [mem_earlyR]
   constructor
   ·intro hy; exact ⟨h2 y hy,(h3 y (h2 y hy).1).2 hy⟩
   ·intro ⟨⟨q1,_⟩,q2⟩; exact (h3 y q1).1 q2
theorem take_strip {r : Rv} (h : GoodR r) {n : Int} (hn : 0 ≤ n ∧ n < 40) (hs : seenR r n = false) :
  strip (layIn r.early n) r.next = (earlyR (n :: r.early) (climb 41 (n :: r.early) r.next),climb 41 (n :: r.early) r.next):=by
 have hse : r.early.Pairwise (· < ·):=by rw [h.e]; exact earlyR_sorted _ _
 unfold seenR at hs
 simp only [Bool.or_eq_false_iff,decide_eq_false_iff_not] at hs
 have hne : n ∉ r.early:=fun q => by
  have:=List.contains_iff_mem.2 q
  rw [this] at hs
  exact absurd hs.1 (by simp)
 obtain ⟨h1,h2⟩:=layIn_ok hse hne
 have h0:=h.n
 obtain ⟨q1,q2⟩:=strip_ok (n :: r.early) (layIn r.early n) r.next 41 h1 (fun x hx => by
  rcases (h2 x).1 hx with rfl | q
  ·omega
  ·have:=h.in40 x q; omega) (fun m hm => by rw [h2,List.mem_cons]) h0.2 (by omega)
 rw [← q1]
 exact Prod.ext q2 rfl
end Go.Proofs.Ytgaofjiidedcbad.mth
namespace Go.Proofs.Ytgaofjiidedcbad.ab
open Go Go.RowKit
open mth
theorem all2 {α : Type} {p : α → Prop} {a b : α} (ha : p a) (hb : p b) : ∀ x ∈ [a,b],p x:=by
 intro x hx
 simp only [List.mem_cons,List.not_mem_nil,or_false] at hx
 rcases hx with rfl | rfl
 ·exact ha
 ·exact hb
def rowsR2 (hold : List Ch) : List (Nat × Nat × Pay):=[(5,97,(6,some (encCl hold))),(6,28,(2,none))]
def cmSt (L : List Int) (nx p0 p1 p2 : Int) (hold : List Ch) (told : List Ms) (ow : Bool) : St :=
 ⟨[(2,pD 2 0),(4,pD 4 0)],[(2,[vI nx,sD 1 (L.map vI),vI p0,vI p1,vI p2,xD,sD 2 (encMl told),vB ow]),(4,[vI 0,vD (.slice none 0 0),vI 0,vI 0,vI 0,vD (.slice none 0 0),vD (.slice none 0 0),vB false])],[((2,some 5),(97,(6,some (encCl hold)))),((2,some 6),(28,(2,none)))]⟩
theorem came_toldX (early : List Int) (nx p0 p1 p2 : Int) (hold : List Ch) (told : List Ms) (ow : Bool) (n : Int) (hl : early.length ≤ 1000) (hs : early.Pairwise (· ≤ ·)) (hb : ∀ x ∈ layIn early n,0 ≤ x ∧ x < 40) (hnx : 0 ≤ nx ∧ nx ≤ 40) :
  ToldX Try.prog 69 [aD [vI nx,xD,vI p0,vI p1,vI p2,xD,sD 2 (encMl told),vB ow],vI n] (upR (rowsR early hold)) [aD [vI (strip (layIn early n) nx).2,sD 1 ((strip (layIn early n) nx).1.map vI),vI p0,vI p1,vI p2,xD,sD 2 (encMl told),vB ow]] (upR (rowsR2 hold)):=by
 refine toldX_recv_came rfl (by show [1,5,6].Nodup; decide) ⟨_,Le.refl _,?_⟩
 simp only [rowsR,flOf,List.map_cons,List.map_nil,startT]
 refine wk0 ?_
 refine ⟨2,_,_,_,early.map vI,.int .i64 n,_,rfl,rfl,(by decide : 1 < 8),rfl,rfl,rfl,bsearch_told early n (by omega) hs,rfl,?_⟩
 refine wk0 ?_
 refine ⟨2,_,_,_,early.map vI,.int .i64 ((early.countP (· < n) : Nat) : Int),.int .i64 n,_,rfl,rfl,(by decide : 1 < 8),rfl,rfl,rfl,rfl,insert_told early (early.countP (· < n)) n _ List.countP_le_length (by omega),?_⟩
 rw [show insI early (early.countP (· < n)) n = layIn early n from rfl]
 have hlay : (layIn early n).length ≤ 1001:=by
  have:=insI_len (l:=early) (i:=early.countP (· < n)) (x:=n) List.countP_le_length
  show (insI early (early.countP (· < n)) n).length ≤ 1001
  omega
 generalize layIn early n = E at *
 generalize hS : strip E nx = SE at *
 refine wk0 ?_
 refine aw_loop (fun m st => ∃ L nx',strip L nx' = SE ∧ m = L.length ∧ (∀ x ∈ L,0 ≤ x ∧ x < 40) ∧ (0 ≤ nx' ∧ nx' ≤ 40) ∧ L.length ≤ 1001 ∧ st = cmSt L nx' p0 p1 p2 hold told ow) E.length (cmSt E nx p0 p1 p2 hold told ow) (Le.keep (lv:=[2,4]) (lb:=[2,4]) (by simp only [ev0,ev1,ev2,look,lookF,cellsFrom,offT,offP,List.tail_nil,List.length_nil,Int.cast_ofNat_Int,Nat.reduceEqDiff,Nat.reduceAdd,Nat.reduceMul,Nat.reduceLeDiff,Nat.reduceLT,↓reduceIte,reduceCtorEq,Int.reduceBEq,Int.reduceBNe,Int.reduceLT,Int.reduceLE,Int.reduceToNat]; rfl)) ⟨E,nx,hS,rfl,hb,hnx,hlay,rfl⟩ ?_
 rintro m st ⟨L,nx',hSL,hm,hbL,hnx',hLl,rfl⟩
 have hend : SE = (L,nx') → ∀ st,st = cmSt L nx' p0 p1 p2 hold told ow → cSeq Q39r6 cRet st (fin1 (cellFin 4 8 [vI SE.2,sD 1 (SE.1.map vI),vI p0,vI p1,vI p2,xD,sD 2 (encMl told),vB ow] (rowsR2 hold))):=by
  rintro rfl st rfl
  simp only [cmSt]
  refine aw_seq ?_
  refine aw_seq ?_
  refine ⟨2,4,_,_,rowsR2 hold,rfl,by decide,rfl,rfl,⟨rfl,rfl,rfl,rfl,row_refl _,all2 ⟨(by decide : 5 < 8),rfl⟩ ⟨(by decide : 6 < 8),rfl⟩⟩,by show [5,6].Nodup; decide,?_⟩
  simp only [flOf,rowsR2,List.map_cons,List.map_nil,List.cons_append,List.nil_append]
  refine wk0 ?_
  exact fin1_ret ⟨4,_,rfl,rfl,rfl,rfl,row_refl _,all2 ⟨(by decide : 5 < 8),rfl⟩ ⟨(by decide : 6 < 8),rfl⟩⟩
 cases L with
 | nil =>
  have hend:=hend (by rw [← hSL]; rfl) _ rfl
  generalize (fun m st => ∃ L nx',strip L nx' = SE ∧ m = L.length ∧ (∀ x ∈ L,0 ≤ x ∧ x < 40) ∧ (0 ≤ nx' ∧ nx' ≤ 40) ∧ L.length ≤ 1001 ∧ st = cmSt L nx' p0 p1 p2 hold told ow) = J at *
  simp only [cmSt,List.map_nil] at hend ⊢
  refine wk0 ?_
  exact hend
 | cons x r =>
  by_cases hx : x = nx'
  ·have hb1 : (x == nx') = true:=by simpa using hx
   have g4 : inR .i64 (nx' + 1) = true:=inR_of (by omega)
   have g5 : (0 : Int) < ((r.length + 1 : Nat) : Int):=by omega
   have g6 : (0 : Int) ≤ 1 ∧ (1 : Int) ≤ ((r.length + 1 : Nat) : Int) ∧ ((r.length + 1 : Nat) : Int) ≤ ((r.length + 1 : Nat) : Int):=by omega
   have g7 : (r.map vI).take r.length = r.map vI:=List.take_of_length_le (by simp)
   have hnxt : Next (fun m st => ∃ L nx',strip L nx' = SE ∧ m = L.length ∧ (∀ x ∈ L,0 ≤ x ∧ x < 40) ∧ (0 ≤ nx' ∧ nx' ≤ 40) ∧ L.length ≤ 1001 ∧ st = cmSt L nx' p0 p1 p2 hold told ow) m (cmSt r (nx' + 1) p0 p1 p2 hold told ow):=by
    refine ⟨r.length,_,by rw [hm]; simp,Le.refl _,r,nx' + 1,?_,rfl,fun y hy => hbL y (by simp [hy]),?_,?_,rfl⟩
    ·rw [← hSL]
     show _ = (if x = nx' then strip r (nx' + 1) else (x :: r,nx'))
     rw [if_pos hx]
    ·have:=hbL x (by simp); omega
    ·simp only [List.length_cons] at hLl; omega
   generalize (fun m st => ∃ L nx',strip L nx' = SE ∧ m = L.length ∧ (∀ x ∈ L,0 ≤ x ∧ x < 40) ∧ (0 ≤ nx' ∧ nx' ≤ 40) ∧ L.length ≤ 1001 ∧ st = cmSt L nx' p0 p1 p2 hold told ow) = J at *
   simp only [cmSt,List.map_cons] at hnxt ⊢
   refine wk (an7 @hb1 @g4 @g5 @g6 @g7 @zcons @zmap) ?_
   exact hnxt
  ·have hb1 : (x == nx') = false:=by simpa using hx
   have g5 : (0 : Int) < ((r.length + 1 : Nat) : Int):=by omega
   have g6 : (0 : Int) ≤ 1 ∧ (1 : Int) ≤ ((r.length + 1 : Nat) : Int) ∧ ((r.length + 1 : Nat) : Int) ≤ ((r.length + 1 : Nat) : Int):=by omega
   have g7 : (r.map vI).take r.length = r.map vI:=List.take_of_length_le (by simp)
   have hend:=hend (by
    rw [← hSL]
    show (if x = nx' then strip r (nx' + 1) else (x :: r,nx')) = _
    rw [if_neg hx]) _ rfl
   generalize (fun m st => ∃ L nx',strip L nx' = SE ∧ m = L.length ∧ (∀ x ∈ L,0 ≤ x ∧ x < 40) ∧ (0 ≤ nx' ∧ nx' ≤ 40) ∧ L.length ≤ 1001 ∧ st = cmSt L nx' p0 p1 p2 hold told ow) = J at *
   simp only [cmSt,List.map_cons] at hend ⊢
   refine wk (an4 @hb1 @g5 @zcons @zmap) ?_
   exact hend
def igSt (l : List Ch) (f : Nat) (E : List D) (k : Nat) : St:=⟨[(0,sD 6 (encCl l)),(1,jD 1 f E),(7,vI l.length),(8,vI k)],[],[]⟩
theorem indexG_told (l : List Ch) (f : Nat) (E : List D) (p : Ch → Bool) (hl : l.length ≤ 1048576) (hc : callableB Try.prog f = true) (hS : ∀ x ∈ l,Told Try.prog f [aD (encCh x),jD 0 0 E] [vB (p x)]) : Told Try.prog 78 [sD 6 (encCl l),jD 1 f E] [vI (idxG p l)]:=by
 refine told_slices_IndexFunc rfl ?_
 refine wk @len_cl ?_
 refine aw_loop (fun m st => ∃ k : Nat,k ≤ l.length ∧ m = l.length - k ∧ (∀ i y,i < k → l[i]? = some y → p y = false) ∧ st = igSt l f E k) l.length (igSt l f E 0) (Le.keep (lv:=[0,1,7,8]) (lb:=[]) (by simp only [ev0,ev1,ev2,look,lookF,cellsFrom,offT,offP,List.tail_nil,List.length_nil,Int.cast_ofNat_Int,Nat.reduceEqDiff,Nat.reduceAdd,Nat.reduceMul,Nat.reduceLeDiff,Nat.reduceLT,↓reduceIte,reduceCtorEq,Int.reduceBEq,Int.reduceBNe,Int.reduceLT,Int.reduceLE,Int.reduceToNat]; rfl)) ⟨0,by omega,by omega,(fun i y hi => by omega),rfl⟩ ?_
 rintro m st ⟨k,hk,hm,hb,rfl⟩
 by_cases hlt : k < l.length
 ·obtain ⟨x,hx⟩ : ∃ m,l[k]? = some m:=⟨l[k],List.getElem?_eq_getElem hlt⟩
  have g1 : (k : Int) < (l.length : Int):=by omega
  have g2 : (0 : Int) ≤ (k : Int):=by omega
  have g3:=at_cl hx
  have g4 : inR .i64 ((k : Int) + 1) = true:=inR_of (by omega)
  have hS:=hS x (List.mem_of_getElem? hx)
  cases hp : p x with
  | true =>
   rw [idxG_at hx hp hb]
   rw [hp] at hS
   generalize (fun m st => ∃ k : Nat,k ≤ l.length ∧ m = l.length - k ∧ (∀ i y,i < k → l[i]? = some y → p y = false) ∧ st = igSt l f E k) = J at *
   simp only [igSt]
   simp only [encCh] at hS
   refine wk (an4 @g1 @g2 @g3 @hc) ?_
   refine cg [[vB true]] (an3 @g2 @g3 @hc) ?_ ?_
   ·exact obl_cons hS obl_nil
   refine wk0 ?_
   exact ValsLe.refl _
  | false =>
   rw [hp] at hS
   have hnx : Next (fun m st => ∃ k : Nat,k ≤ l.length ∧ m = l.length - k ∧ (∀ i y,i < k → l[i]? = some y → p y = false) ∧ st = igSt l f E k) m ⟨[(0,sD 6 (encCl l)),(1,jD 1 f E),(7,vI l.length),(8,vI ((k : Int) + 1))],[],[]⟩:=by
    refine ⟨l.length - (k + 1),_,by omega,Le.refl _,k + 1,by omega,rfl,fun i y hi hy => ?_,by simp only [igSt,Int.natCast_add,Int.cast_ofNat_Int]⟩
    by_cases hik : i = k
    ·subst hik; rw [hx] at hy; cases hy; exact hp
    ·exact hb i y (by omega) hy
   generalize (fun m st => ∃ k : Nat,k ≤ l.length ∧ m = l.length - k ∧ (∀ i y,i < k → l[i]? = some y → p y = false) ∧ st = igSt l f E k) = J at *
   simp only [igSt]
   simp only [encCh] at hS
   refine wk (an4 @g1 @g2 @g3 @hc) ?_
   refine cg [[vB false]] (an3 @g2 @g3 @hc) ?_ ?_
   ·exact obl_cons hS obl_nil
   refine wk @g4 ?_
   exact hnx
 ·have hk' : k = l.length:=by omega
  subst hk'
  have g1 : ¬ (l.length : Int) < (l.length : Int):=by omega
  rw [idxG_no (fun i y hy => hb i y (List.getElem?_eq_some_iff.1 hy).1 hy)]
  simp only [igSt]
  refine wk @g1 ?_
  exact ValsLe.refl _
theorem obl_upd {P : Program} {f : Nat} {cs es es' : List D} {z : Nat} {l : List (Nat × List D × List D)} (h : ToldU P f cs z es es') (hl : Obl P l) : Obl P ((f,cs,[mU z es es']) :: l):=⟨⟨cs,ValsLe.refl _,h⟩,hl⟩
def tdSt (nx : Int) (early : List Int) (ow : Bool) (d : Dr) : St :=
 ⟨[(1,pD 1 0),(2,pD 2 0),(3,fD 1 83),(4,vI (idxG (dueP d.p0 d.p1 d.p2) d.hold))],[(1,[vI nx,sD 1 (early.map vI),vI d.p0,vI d.p1,vI d.p2,oD 100001 d.hold.length,sD 2 (encMl d.told),vB ow]),(2,[vI 0,vD (.slice none 0 0),vI 0,vI 0,vI 0,vD (.slice none 0 0),vD (.slice none 0 0),vB false]),(100001,[sD 6 (encCl d.hold)]),(100001,[sD 6 (encCl d.hold)])],[((1,some 6),(28,(2,none)))]⟩
theorem due_index (nx p0 p1 p2 : Int) (c1 c5 c6 : D) (ow : Bool) (hold : List Ch) (hl : hold.length ≤ 1000) (hs : ∀ x ∈ hold,x.stream = 0 ∨ x.stream = 1 ∨ x.stream = 2) :
  Told Try.prog 78 [sD 6 (encCl hold),jD 1 83 [vI nx,c1,vI p0,vI p1,vI p2,c5,c6,vB ow]] [vI (idxG (dueP p0 p1 p2) hold)] :=
 indexG_told hold _ _ _ (by omega) callDue (fun x hx => due_told nx p0 p1 p2 c1 c5 c6 ow x (hs x hx))
theorem del_cl (l : List Ch) (k : Nat) : (encCl l).take k ++ (encCl l).drop (k + 1) = encCl (l.take k ++ l.drop (k + 1)):=by
 simp [encCl,List.map_take,List.map_drop]
theorem tellDue_round (nx : Int) (early : List Int) (ow : Bool) (d : Dr) (K : Nat) (h : DrOk d K) (hK : K ≤ 1000) (R : Dr) (hR : mth.drain d.hold.length d = R) (m : Nat) (hm : m = d.hold.length) :
  Q41l2a (tdSt nx early ow d) (thn (Next (fun m st => ∃ d : Dr,DrOk d K ∧ mth.drain d.hold.length d = R ∧ m = d.hold.length ∧ st = tdSt nx early ow d) m)
   (blk 0 (thn (fun st' => cSeq Q41r9 cRet st' (fin1 (cellFin 2 8 [vI nx,sD 1 (early.map vI),vI R.p0,vI R.p1,vI R.p2,sD 6 (encCl R.hold),sD 2 (encMl R.told),vB ow] [])))
    (fin1 (cellFin 2 8 [vI nx,sD 1 (early.map vI),vI R.p0,vI R.p1,vI R.p2,sD 6 (encCl R.hold),sD 2 (encMl R.told),vB ow] []))))):=by
 have hl:=h.l
 have hp:=h.p
 by_cases hlt : d.hold.findIdx (dueP d.p0 d.p1 d.p2) < d.hold.length
 ·obtain ⟨k,hk⟩ : ∃ k,k = d.hold.findIdx (dueP d.p0 d.p1 d.p2):=⟨_,rfl⟩
  rw [← hk] at hlt
  have hidx : idxG (dueP d.p0 d.p1 d.p2) d.hold = (k : Int):=by unfold idxG; rw [← hk,if_pos hlt]
  obtain ⟨x,hx⟩ : ∃ x,d.hold[k]? = some x:=⟨d.hold[k],List.getElem?_eq_getElem hlt⟩
  have hstep:=h.step hx
  have hR' : mth.drain (stepD d k x).hold.length (stepD d k x) = R:=by
   rw [← hR]
   obtain ⟨f,hf⟩ : ∃ f,d.hold.length = f + 1:=⟨d.hold.length - 1,by omega⟩
   have hlen : (stepD d k x).hold.length = f:=by simp only [stepD,List.length_append,List.length_take,List.length_drop]; omega
   rw [hlen,hf]
   show _ = (match d.hold[d.hold.findIdx (readyD d)]? with | some x => mth.drain f (stepD d (d.hold.findIdx (readyD d)) x) | none => d)
   have e : d.hold.findIdx (readyD d) = k:=hk.symm
   rw [e,hx]
  have hs:=stream3 (wrong_one (h.h x (List.mem_of_getElem? hx)).1 (h.h x (List.mem_of_getElem? hx)).2).2.2.2
  have hstr' : ∀ y ∈ (stepD d k x).hold,y.stream = 0 ∨ y.stream = 1 ∨ y.stream = 2:=fun y hy => stream3 (wrong_one (hstep.h y hy).1 (hstep.h y hy).2).2.2.2
  have hlen' : (stepD d k x).hold.length < d.hold.length:=by simp only [stepD,List.length_append,List.length_take,List.length_drop]; omega
  have hnxt : Next (fun m st => ∃ d : Dr,DrOk d K ∧ mth.drain d.hold.length d = R ∧ m = d.hold.length ∧ st = tdSt nx early ow d) m (tdSt nx early ow (stepD d k x)) :=
   ⟨_,_,by omega,Le.refl _,stepD d k x,hstep,hR',rfl,rfl⟩
  have hdel:=delete_told (encCl d.hold) k (by rw [len_cl]; exact hlt)
  rw [del_cl] at hdel
  have hix:=due_index nx (stepD d k x).p0 (stepD d k x).p1 (stepD d k x).p2 (sD 1 (early.map vI)) xD (sD 2 (encMl (stepD d k x).told)) ow (stepD d k x).hold (by omega) hstr'
  have hhl : (d.hold.take k ++ d.hold.drop (k + 1)).length = (stepD d k x).hold.length:=rfl
  generalize (fun m st => ∃ d : Dr,DrOk d K ∧ mth.drain d.hold.length d = R ∧ m = d.hold.length ∧ st = tdSt nx early ow d) = J at *
  have g1 : (0 : Int) ≤ (k : Int):=by omega
  have g2 : (k : Int) < (d.hold.length : Int):=by omega
  have g3:=at_cl hx
  have g4 : inR .i64 ((k : Int) + 1) = true:=inR_of (by omega)
  have g5 : (d.told.length + 1) * 32 ≤ 140737488355328:=by omega
  have g6 : inR .i64 (d.p0 + 1) = true:=inR_of (by omega)
  have g7 : inR .i64 (d.p1 + 1) = true:=inR_of (by omega)
  have g8 : inR .i64 (d.p2 + 1) = true:=inR_of (by omega)
  have hne : (k : Int) = k:=rfl
  simp only [tdSt,hidx] at hnxt ⊢
  simp only [stepD] at hnxt hix hhl
  generalize d.hold.take k ++ d.hold.drop (k + 1) = H' at *
  refine wk (an5 @g1 @g2 @g3 @g4 @len_cl) ?_
  refine cg [[sD 6 (encCl H')]] (an5 @g1 @g2 @g3 @g4 @len_cl) ?_ ?_
  ·exact obl_upd hdel obl_nil
  obtain ⟨xk,xn,xs,xp,xd,xe⟩:=x
  simp only at hs hnxt hix ⊢
  clear hstr' hR' hstep hx hk g3 hhl hlen' hdel
  rcases hs with rfl | rfl | rfl
  ·simp only [if_true,Int.reduceEq,if_false,ml_snoc] at hnxt hix
   refine wk (an4 @g5 @g6 @len_cl @len_ml) ?_
   refine cg [[vI (idxG (dueP (d.p0 + 1) d.p1 d.p2) H')]] @len_cl ?_ ?_
   ·exact obl_cons hix obl_nil
   refine wk0 ?_
   exact hnxt
  ·simp only [if_true,Int.reduceEq,if_false,ml_snoc] at hnxt hix
   refine wk (an4 @g5 @g7 @len_cl @len_ml) ?_
   refine cg [[vI (idxG (dueP d.p0 (d.p1 + 1) d.p2) H')]] @len_cl ?_ ?_
   ·exact obl_cons hix obl_nil
   refine wk0 ?_
   exact hnxt
  ·simp only [if_true,Int.reduceEq,if_false,ml_snoc] at hnxt hix
   refine wk (an4 @g5 @g8 @len_cl @len_ml) ?_
   refine cg [[vI (idxG (dueP d.p0 d.p1 (d.p2 + 1)) H')]] @len_cl ?_ ?_
   ·exact obl_cons hix obl_nil
   refine wk0 ?_
   exact hnxt
 ·have hidx : idxG (dueP d.p0 d.p1 d.p2) d.hold = -1:=by unfold idxG; rw [if_neg hlt]
  have hdR : d = R:=by
   rw [← hR]
   have e : d.hold[d.hold.findIdx (readyD d)]? = none:=by
    rw [List.getElem?_eq_none]
    exact Nat.le_of_not_lt hlt
   cases hf : d.hold.length with
   | zero => rfl
   | succ f =>
    show d = (match d.hold[d.hold.findIdx (readyD d)]? with | some x => mth.drain f (stepD d (d.hold.findIdx (readyD d)) x) | none => d)
    rw [e]
  subst hdR
  clear hR
  generalize (fun m st => ∃ d' : Dr,DrOk d' K ∧ mth.drain d'.hold.length d' = d ∧ m = d'.hold.length ∧ st = tdSt nx early ow d') = J at *
  simp only [tdSt,hidx]
  refine wk @len_cl ?_
  exact fin1_ret ⟨2,_,rfl,rfl,rfl,rfl,row_refl _,fun x hx => by cases hx⟩
theorem tellDue_toldX (nx : Int) (early : List Int) (ow : Bool) (d : Dr) (K : Nat) (h : DrOk d K) (hne : d.hold ≠ []) (hK : K ≤ 1000) (R : Dr) (hR : mth.drain d.hold.length d = R) :
  ToldX Try.prog 70 [aD [vI nx,sD 1 (early.map vI),vI d.p0,vI d.p1,vI d.p2,xD,sD 2 (encMl d.told),vB ow]] (upR (rowsR2 d.hold)) [aD [vI nx,sD 1 (early.map vI),vI R.p0,vI R.p1,vI R.p2,sD 6 (encCl R.hold),sD 2 (encMl R.told),vB ow]] []:=by
 have hne' : encCl d.hold ≠ []:=by simpa [encCl] using hne
 refine toldX_recv_tellDue (ro:=[]) rfl (by show [5,6].Nodup; decide) ⟨_,le_name (b:=1) (off:=5) (k:=100001) (by decide) rfl (show 5 < 8 by decide) rfl hne' ⟨by decide,by decide⟩ rfl,?_⟩
 have hstart : ∀ st,st = (⟨[(1,pD 1 0),(0,aD [vI nx,sD 1 (early.map vI),vI d.p0,vI d.p1,vI d.p2,xD,sD 2 (encMl d.told),vB ow])],[(100001,[sD 6 (encCl d.hold)]),(1,[vI nx,sD 1 (early.map vI),vI d.p0,vI d.p1,vI d.p2,oD 100001 (encCl d.hold).length,sD 2 (encMl d.told),vB ow]),(1,[vI nx,sD 1 (early.map vI),vI d.p0,vI d.p1,vI d.p2,xD,sD 2 (encMl d.told),vB ow])],[((1,some 6),(28,(2,none)))]⟩ : St) → recv_tellDue st (fin1 (cellFin 2 8 [vI nx,sD 1 (early.map vI),vI R.p0,vI R.p1,vI R.p2,sD 6 (encCl R.hold),sD 2 (encMl R.told),vB ow] [])):=by
  rintro st rfl
  have hstr : ∀ x ∈ d.hold,x.stream = 0 ∨ x.stream = 1 ∨ x.stream = 2:=fun x hx => stream3 (wrong_one (h.h x hx).1 (h.h x hx).2).2.2.2
  refine wk @len_cl ?_
  refine cg [[vI (idxG (dueP d.p0 d.p1 d.p2) d.hold)]] @len_cl ?_ ?_
  ·exact obl_cons (due_index nx d.p0 d.p1 d.p2 _ _ _ ow d.hold (by have:=h.l; omega) hstr) obl_nil
  refine wk0 ?_
  refine aw_loop (fun m st => ∃ d : Dr,DrOk d K ∧ mth.drain d.hold.length d = R ∧ m = d.hold.length ∧ st = tdSt nx early ow d) d.hold.length (tdSt nx early ow d) (Le.keep (lv:=[1,2,3,4]) (lb:=[1,2,100001]) (by simp only [ev0,ev1,ev2,look,lookF,cellsFrom,offT,offP,List.tail_nil,List.length_nil,Int.cast_ofNat_Int,Nat.reduceEqDiff,Nat.reduceAdd,Nat.reduceMul,Nat.reduceLeDiff,Nat.reduceLT,↓reduceIte,reduceCtorEq,Int.reduceBEq,Int.reduceBNe,Int.reduceLT,Int.reduceLE,Int.reduceToNat]; rfl)) ⟨d,h,hR,rfl,rfl⟩ ?_
  clear hstr h hne hne' hR
  rintro m st ⟨d,h,hR,hm,rfl⟩
  exact tellDue_round nx early ow d K h hK R hR m hm
 exact hstart _ rfl
end Go.Proofs.Ytgaofjiidedcbad.ab
