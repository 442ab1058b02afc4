import Derived.Test.YtgaofjiidedcbadM24
import Derived.Test.YtgaofjiidedcbadM20
import Derived.Test.YtgaofjiidedcbadM23
import Derived.Test.YtgaofjiidedcbadProg
set_option maxHeartbeats 16000000
set_option linter.unusedVariables false
set_option linter.unusedSimpArgs false
namespace Go.Proofs.Ytgaofjiidedcbad.ab
open Go Go.RowKit
open mth
def right (l : List Ms) : Prop:=∀ m ∈ l,wrongMsgL m.stream m.data = 0
end Go.Proofs.Ytgaofjiidedcbad.ab
namespace Go.Proofs.Ytgaofjiidedcbad.mth
structure Sd where
 queue : List Ms
 next : Int
 p0 : Int
 p1 : Int
 p2 : Int
 flight : List Ch
 turn : Int
def putE (s : Sd) (m : Ms) : Int:=if wrongMsgL m.stream m.data ≠ 0 then wrongMsgL m.stream m.data else if 5 < s.queue.length then 9 else if 39 < s.next + s.queue.length then 4 else 0
def putS (s : Sd) (m : Ms) : Sd:=if putE s m = 0 then { s with queue:=s.queue ++ [m] } else s
def cameL (c : Ch) (n : Int) : Bool:=decide (n < c.number) || c.early.contains n
def hearS (s : Sd) (c : Ch) : Sd:=if c.kind = 2 then { s with flight:=s.flight.filter (fun x => !cameL c x.number) } else s
def placeOf (s : Sd) (k : Int) : Int:=if k = 0 then s.p0 else if k = 1 then s.p1 else s.p2
def newC (s : Sd) (m : Ms) : Ch:=⟨1,s.next,m.stream,placeOf s m.stream,m.data,[]⟩
def newS (s : Sd) (m : Ms) (r : List Ms) : Sd :=
 { s with queue:=r,next:=s.next + 1,p0:=if m.stream = 0 then s.p0 + 1 else s.p0,p1:=if m.stream = 1 then s.p1 + 1 else s.p1,p2:=if m.stream = 2 then s.p2 + 1 else s.p2,flight:=s.flight ++ [newC s m] }
def againK (s : Sd) : Int:=s.turn % s.flight.length
def sayL (s : Sd) : Sd × Ch × Bool :=
 match s.queue with
 | [] => if s.flight.length = 0 then (s,zeroC,false) else ({ s with turn:=againK s + 1 },s.flight.getD (againK s).toNat zeroC,true)
 | m :: r => if 3 < s.flight.length then ({ s with turn:=againK s + 1 },s.flight.getD (againK s).toNat zeroC,true) else (newS s m r,newC s m,true)
end Go.Proofs.Ytgaofjiidedcbad.mth
namespace Go.Proofs.Ytgaofjiidedcbad.ab
open Go Go.RowKit
open mth
theorem at_il {l : List Int} {i : Nat} {x : Int} (h : l[i]? = some x) : (l.map vI)[i]? = some (vI x):=by simp [h]
theorem len_cl (l : List Ch) : (encCl l).length = l.length:=by simp [encCl]
theorem at_cl {l : List Ch} {i : Nat} {c : Ch} (h : l[i]? = some c) : (encCl l)[i]? = some (aD [vI c.kind,vI c.number,vI c.stream,vI c.place,sD 1 (c.data.map encB),sD 1 (c.early.map vI)]):=by simp [encCl,h,encCh]
theorem enc_b8 {n : Int} (h : 0 ≤ n ∧ n ≤ 255) : encB (b8 n) = vD (.int .u8 n):=by
 unfold encB
 rw [b8_toNat h]
def enc8 (n : Int) : D:=vD (.int .u8 n)
theorem map_b8 {l : List Int} (h : ∀ x ∈ l,0 ≤ x ∧ x ≤ 255) : (l.map b8).map encB = l.map enc8:=by
 rw [List.map_map]
 refine List.map_congr_left fun x hx => ?_
 exact enc_b8 (h x hx)
def byJ (n : Int) (l : List Int) (k : Nat) : St:=⟨[(3,sD 1 ([vD (.int .u8 2),vD (.int .u8 n)] ++ (l.take k).map enc8)),(33,sD 1 (l.map vI)),(34,vI l.length),(35,vI k)],[],[((3,none),(5,1,none))]⟩
theorem take_enc8 {l : List Int} {k : Nat} {x : Int} (h : l[k]? = some x) : (l.take (k + 1)).map enc8 = (l.take k).map enc8 ++ [vD (.int .u8 x)]:=by
 rw [List.take_add_one,h,List.map_append]
 rfl
theorem bytes_told (c : Ch) (hc : wrongL c = 0) : Told Try.prog 57 [aD (encCh c)] [sD 1 ((sealL (bodyL c)).map encB)]:=by
 refine told_chunk_Bytes rfl ?_
 have hlen:=len_body c hc
 have o1:=seal_told (bodyL c) (by omega)
 rcases right_cases c hc with ⟨h1,h2,h3,h4,h5,h6⟩ | ⟨h1,h2,h3,h4,h5,h6,h7⟩
 ·obtain ⟨kind,number,stream,place,data,early⟩:=c
  simp only at h1 h2 h3 h4 h5 h6
  subst h1 h6
  have hb : (bodyL ⟨1,number,stream,place,data,[]⟩).map encB = ([vD (.int .u8 1),vD (.int .u8 number)] ++ [vD (.int .u8 stream),vD (.int .u8 place)]) ++ data.map encB:=by
   unfold bodyL
   rw [if_pos rfl]
   simp only [List.map_append,List.map_cons,List.map_nil,enc_b8 (show (0 : Int) ≤ 1 ∧ (1 : Int) ≤ 255 by decide),enc_b8 (show 0 ≤ number ∧ number ≤ 255 by omega),enc_b8 (show 0 ≤ stream ∧ stream ≤ 255 by omega),enc_b8 (show 0 ≤ place ∧ place ≤ 255 by omega),List.cons_append,List.nil_append]
  rw [hb] at o1
  have e1 : IntKind.u8.wrap 1 = 1:=by decide
  have e2:=wrap_8 (show 0 ≤ number ∧ number ≤ 255 by omega)
  have e3:=wrap_8 (show 0 ≤ stream ∧ stream ≤ 255 by omega)
  have e4:=wrap_8 (show 0 ≤ place ∧ place ≤ 255 by omega)
  have b1 : (2 + 2) * 1 ≤ 140737488355328:=by decide
  have b2 : (2 + 2 + data.length) * 1 ≤ 140737488355328:=by omega
  generalize (sealL (bodyL ⟨1,number,stream,place,data,[]⟩)).map encB = R at *
  simp only [encCh,List.map_nil]
  refine wk (an11 @e1 @e2 @e3 @e4 @b1 @b2 @zbeq @zmap @zapp @zcons @znil) ?_
  refine cg0 [[sD 1 R]] ?_ ?_
  ·exact obl_cons o1 obl_nil
  refine wk0 ?_
  exact ValsLe.refl _
 ·obtain ⟨kind,number,stream,place,data,early⟩:=c
  simp only at h1 h2 h3 h4 h5 h6 h7
  subst h1 h3 h4 h5
  have hr:=fun x hx => rises_mem _ _ h7 x hx
  have hb : (bodyL ⟨2,number,0,0,[],early⟩).map encB = [vD (.int .u8 2),vD (.int .u8 number)] ++ early.map enc8:=by
   unfold bodyL
   rw [if_neg (fun e => by cases e),List.map_append,map_b8 (fun x hx => by have:=hr x hx; omega)]
   simp only [List.map_cons,List.map_nil,enc_b8 (show (0 : Int) ≤ 2 ∧ (2 : Int) ≤ 255 by decide),enc_b8 (show 0 ≤ number ∧ number ≤ 255 by omega)]
  rw [hb] at o1
  have e1 : IntKind.u8.wrap 2 = 2:=by decide
  have e2:=wrap_8 (show 0 ≤ number ∧ number ≤ 255 by omega)
  have e3 : ((2 : Int) == 1) = false:=by decide
  generalize (sealL (bodyL ⟨2,number,0,0,[],early⟩)).map encB = R at *
  simp only [encCh,List.map_nil]
  refine wk (an5 @e1 @e2 @e3 @zbeq @zmap) ?_
  refine aw_loop (fun m st => ∃ k,k ≤ early.length ∧ m = early.length - k ∧ st = byJ number early k) early.length (byJ number early 0) (Le.refl _) ⟨0,by omega,by omega,rfl⟩ ?_
  rintro m st ⟨k,hk,hm,rfl⟩
  by_cases hlt : k < early.length
  ·obtain ⟨x,hx⟩ : ∃ x,early[k]? = some x:=⟨early[k],List.getElem?_eq_getElem hlt⟩
   have hxr:=hr x (List.mem_of_getElem? hx)
   have q1 : (k : Int) < (early.length : Int):=by omega
   have q2 : (0 : Int) ≤ (k : Int):=by omega
   have q3:=at_is hx
   have q4 : inR .i64 ((k : Int) + 1) = true:=inR_of (by omega)
   have q5:=wrap_8 (show 0 ≤ x ∧ x ≤ 255 by omega)
   have b1 : (([vD (.int .u8 2),vD (.int .u8 number)] ++ (early.take k).map enc8).length + 1) * 1 ≤ 140737488355328:=by simp only [List.length_append,List.length_map,List.length_take,List.length_cons,List.length_nil]; omega
   have hnx : Next (fun m st => ∃ k,k ≤ early.length ∧ m = early.length - k ∧ st = byJ number early k) m (byJ number early (k + 1)):=⟨early.length - (k + 1),_,by omega,Le.refl _,k + 1,by omega,rfl,rfl⟩
   generalize (fun m st => ∃ k,k ≤ early.length ∧ m = early.length - k ∧ st = byJ number early k) = J at *
   unfold byJ at hnx ⊢
   rw [take_enc8 hx,← List.append_assoc] at hnx
   generalize ([vD (.int .u8 2),vD (.int .u8 number)] ++ (early.take k).map enc8) = E at *
   simp only [Int.natCast_add,Int.cast_ofNat_Int] at hnx ⊢
   refine wk (an8 @q1 @q2 @q3 @q4 @q5 @b1 @zmap @Int.toNat_natCast) ?_
   exact hnx
  ·have hin : k = early.length:=by omega
   subst hin
   have q1 : ¬ (early.length : Int) < (early.length : Int):=by omega
   generalize (fun m st => ∃ k,k ≤ early.length ∧ m = early.length - k ∧ st = byJ number early k) = J at *
   unfold byJ
   rw [List.take_length]
   generalize [vD (.int .u8 2),vD (.int .u8 number)] ++ early.map enc8 = E at *
   refine wk @q1 ?_
   refine cg0 [[sD 1 R]] ?_ ?_
   ·exact obl_cons o1 obl_nil
   refine wk0 ?_
   exact ValsLe.refl _
set_option maxRecDepth 100000
def encSd (s : Sd) : List D:=[sD 2 (encMl s.queue),vI s.next,vI s.p0,vI s.p1,vI s.p2,sD 6 (encCl s.flight),vI s.turn]
theorem ml_nil : encMl [] = []:=rfl
theorem cl_nil : encCl [] = []:=rfl
theorem ml_cons (m : Ms) (r : List Ms) : encMl (m :: r) = aD [vI m.stream,sD 1 (m.data.map encB)] :: encMl r:=rfl
theorem cl_snoc (l : List Ch) (c : Ch) : encCl (l ++ [c]) = encCl l ++ [aD [vI c.kind,vI c.number,vI c.stream,vI c.place,sD 1 (c.data.map encB),sD 1 (c.early.map vI)]]:=by simp [encCl,encCh]
end Go.Proofs.Ytgaofjiidedcbad.ab
namespace Go.Proofs.Ytgaofjiidedcbad.mth
def zeroS : Sd:=⟨[],0,0,0,0,[],0⟩
structure GoodS (s : Sd) : Prop where
 q : s.queue.length ≤ 6
 f : s.flight.length ≤ 4
 n : 0 ≤ s.next ∧ s.next + s.queue.length ≤ 40
 p : 0 ≤ s.p0 ∧ 0 ≤ s.p1 ∧ 0 ≤ s.p2 ∧ s.p0 + s.p1 + s.p2 = s.next
 t : 0 ≤ s.turn ∧ s.turn ≤ 4
 m : ∀ m ∈ s.queue,wrongMsgL m.stream m.data = 0
 c : ∀ c ∈ s.flight,c.kind = 1 ∧ wrongL c = 0 ∧ c.number < s.next
 r : s.flight.Pairwise (fun a b => a.number < b.number)
theorem good_zero : GoodS zeroS:=⟨by simp [zeroS],by simp [zeroS],by simp [zeroS],by simp [zeroS],by simp [zeroS],by simp [zeroS],by simp [zeroS],by simp [zeroS]⟩
theorem GoodS.put {s : Sd} (h : GoodS s) (m : Ms) : GoodS (putS s m):=by
 unfold putS
 split
 ·rename_i he
  unfold putE at he
  split at he
  ·rename_i hw; exact absurd he hw
  ·rename_i hw
   split at he
   ·cases he
   ·rename_i hq
    split at he
    ·cases he
    ·rename_i hn
     refine ⟨by simp; omega,h.f,by have:=h.n; simp; omega,h.p,h.t,fun x hx => ?_,h.c,h.r⟩
     rcases List.mem_append.1 hx with hx | hx
     ·exact h.m x hx
     ·simp at hx; subst hx; simpa using hw
 ·exact h
theorem GoodS.hear {s : Sd} (h : GoodS s) (c : Ch) : GoodS (hearS s c):=by
 unfold hearS
 split
 ·exact ⟨h.q,Nat.le_trans (List.length_filter_le _ _) h.f,h.n,h.p,h.t,h.m,fun x hx => h.c x (List.mem_filter.1 hx).1,h.r.filter _⟩
 ·exact h
theorem right_ms {s : Int} {d : List UInt8} (h : wrongMsgL s d = 0) : (0 ≤ s ∧ s ≤ 2) ∧ d.length ≤ 6:=by
 unfold wrongMsgL at h
 split at h
 ·cases h
 ·split at h
  ·cases h
  ·omega
theorem placeOf_le {s : Sd} (h : GoodS s) (k : Int) : 0 ≤ placeOf s k ∧ placeOf s k ≤ s.next:=by
 have:=h.p
 unfold placeOf
 split
 ·omega
 ·split
  ·omega
  ·omega
theorem newC_right {s : Sd} {m : Ms} (h : GoodS s) (hm : wrongMsgL m.stream m.data = 0) (hn : s.next ≤ 39) : wrongL (newC s m) = 0:=by
 have hp:=placeOf_le h m.stream
 have:=h.n
 unfold newC
 rw [wrongL_one,if_neg (by omega),if_neg (by omega),if_neg (by simp),hm]
theorem againK_lt {s : Sd} (h : GoodS s) (hf : 0 < s.flight.length) : 0 ≤ againK s ∧ againK s < s.flight.length:=by
 unfold againK
 exact ⟨Int.emod_nonneg _ (by omega),Int.emod_lt_of_pos _ (by omega)⟩
theorem GoodS.again {s : Sd} (h : GoodS s) (hf : 0 < s.flight.length) : GoodS { s with turn:=againK s + 1 }:=by
 have:=againK_lt h hf
 have:=h.f
 exact ⟨h.q,h.f,h.n,h.p,by simp only; omega,h.m,h.c,h.r⟩
theorem GoodS.new {s : Sd} {m : Ms} {r : List Ms} (h : GoodS s) (hq : s.queue = m :: r) (hf : s.flight.length ≤ 3) : GoodS (newS s m r):=by
 have h1:=h.q
 have h2:=h.n
 have h3:=h.p
 rw [hq] at h1 h2
 simp only [List.length_cons] at h1 h2
 have hm:=h.m m (by rw [hq]; simp)
 have hs:=(right_ms hm).1
 refine ⟨by simp only [newS]; omega,by simp only [newS,List.length_append,List.length_cons,List.length_nil]; omega,by simp only [newS]; omega,?_,h.t,fun x hx => h.m x (by rw [hq]; exact List.mem_cons_of_mem _ hx),fun x hx => ?_,?_⟩
 ·simp only [newS]
  rcases (by omega : m.stream = 0 ∨ m.stream = 1 ∨ m.stream = 2) with e | e | e <;> simp only [e,if_true,Int.reduceEq,if_false] <;> omega
 ·rcases List.mem_append.1 hx with hx | hx
  ·have:=h.c x hx
   exact ⟨this.1,this.2.1,by simp only [newS]; omega⟩
  ·simp at hx
   subst hx
   exact ⟨rfl,newC_right h hm (by omega),by simp only [newS,newC]; omega⟩
 ·refine List.pairwise_append.2 ⟨h.r,by simp,fun a ha b hb => ?_⟩
  simp at hb
  subst hb
  exact (h.c a ha).2.2
theorem GoodS.say {s : Sd} (h : GoodS s) : GoodS (sayL s).1:=by
 unfold sayL
 split
 ·rename_i hq
  split
  ·exact h
  ·exact h.again (by omega)
 ·rename_i m r hq
  split
  ·exact h.again (by omega)
  ·exact h.new hq (by omega)
theorem GoodS.early {s : Sd} (h : GoodS s) : ∀ c ∈ s.flight,c.early = []:=by
 intro c hc
 obtain ⟨h1,h2,_⟩:=h.c c hc
 unfold wrongL at h2
 rw [if_neg (by omega)] at h2
 split at h2
 ·cases h2
 ·split at h2
  ·cases h2
  ·split at h2
   ·cases h2
   ·rename_i he; exact List.eq_nil_of_length_eq_zero (by omega)
end Go.Proofs.Ytgaofjiidedcbad.mth
namespace Go.Proofs.Ytgaofjiidedcbad.ab
open Go Go.RowKit
open mth
end Go.Proofs.Ytgaofjiidedcbad.ab
