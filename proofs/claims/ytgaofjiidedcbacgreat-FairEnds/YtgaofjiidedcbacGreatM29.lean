import Derived.Test.YtgaofjiidedcbacGreatM28
import Derived.Test.YtgaofjiidedcbacGreatM27
import Derived.Test.YtgaofjiidedcbacGreatM25
set_option maxHeartbeats 8000000
set_option linter.unusedVariables false
set_option linter.unusedSimpArgs false
namespace Go.Proofs.YtgaofjiidedcbacGreat.ab
open Go Go.RowKit
open mth
def rbSt (B3 B4 : List D) (early : List Int) (p0 p1 p2 : Int) (H T : List D) (L : List Int) (n : Int) : St :=
 ⟨[(2,pD 2 0),(3,pD 3 0),(4,pD 4 0),(5,hD 200018)],[(2,[vI n,sD 1 (early.map vI),vI p0,vI p1,vI p2,sD 6 H,sD 2 T,vB true]),(3,B3),(4,B4),(200018,encS L)],[]⟩
theorem rbSt_def (B3 B4 : List D) (early : List Int) (p0 p1 p2 : Int) (H T : List D) (L : List Int) (n : Int) : rbSt B3 B4 early p0 p1 p2 H T L n = ⟨[(2,pD 2 0),(3,pD 3 0),(4,pD 4 0),(5,hD 200018)],[(2,[vI n,sD 1 (early.map vI),vI p0,vI p1,vI p2,sD 6 H,sD 2 T,vB true]),(3,B3),(4,B4),(200018,encS L)],[]⟩:=rfl
theorem rh_climb (next nx p0 p1 p2 : Int) (H T : List D) (c : Ch) (early L : List Int) (h0 : 0 ≤ next) (h1 : next ≤ nx) (h2 : nx ≤ 40) (h3 : L.contains nx = false) (h4 : ∀ m,next ≤ m → m < nx → L.contains m = true) (Q : AX → St → Prop)
  (hQ : Q none ⟨[(2,pD 2 0),(3,pD 3 0),(4,pD 4 0),(5,hD 200018),(59,vB false)],[(2,[vI nx,sD 1 (early.map vI),vI p0,vI p1,vI p2,sD 6 H,sD 2 T,vB true]),(3,encCh c),(4,[vI 0,vD (.slice none 0 0),vI 0,vI 0,vI 0,vD (.slice none 0 0),vD (.slice none 0 0),vB false]),(200018,encS L)],[]⟩) :
  Q39b8 (rbSt (encCh c) [vI 0,vD (.slice none 0 0),vI 0,vI 0,vI 0,vD (.slice none 0 0),vD (.slice none 0 0),vB false] early p0 p1 p2 H T L next) Q:=by
 refine aw_block ?_
 refine aw_loop (fun m st => ∃ n : Int,next ≤ n ∧ n ≤ nx ∧ m = (nx - n).toNat ∧ st = rbSt (encCh c) [vI 0,vD (.slice none 0 0),vI 0,vI 0,vI 0,vD (.slice none 0 0),vD (.slice none 0 0),vB false] early p0 p1 p2 H T L n) (nx - next).toNat _ (Le.refl _) ⟨next,by omega,by omega,rfl,rfl⟩ ?_
 rintro m st ⟨n,hn1,hn2,hm,rfl⟩
 have hlk:=encS_look L n
 have g1 : inR .i64 n = true:=inR_of (by omega)
 by_cases hlt : n < nx
 ·rw [h4 n hn1 hlt] at hlk
  have g2 : inR .i64 (n + 1) = true:=inR_of (by omega)
  have hnx : Next (fun m st => ∃ n : Int,next ≤ n ∧ n ≤ nx ∧ m = (nx - n).toNat ∧ st = rbSt (encCh c) [vI 0,vD (.slice none 0 0),vI 0,vI 0,vI 0,vD (.slice none 0 0),vD (.slice none 0 0),vB false] early p0 p1 p2 H T L n) m (rbSt (encCh c) [vI 0,vD (.slice none 0 0),vI 0,vI 0,vI 0,vD (.slice none 0 0),vD (.slice none 0 0),vB false] early p0 p1 p2 H T L (n + 1)) :=
   ⟨(nx - (n + 1)).toNat,_,by omega,Le.refl _,n + 1,by omega,by omega,rfl,rfl⟩
  generalize (fun m st => ∃ n : Int,next ≤ n ∧ n ≤ nx ∧ m = (nx - n).toNat ∧ st = rbSt (encCh c) [vI 0,vD (.slice none 0 0),vI 0,vI 0,vI 0,vD (.slice none 0 0),vD (.slice none 0 0),vB false] early p0 p1 p2 H T L n) = J at *
  simp only [rbSt_def,encCh] at hnx ⊢
  refine wk (an3 @g1 @g2 @hlk) ?_
  exact hnx
 ·have : n = nx:=by omega
  subst this
  rw [h3] at hlk
  simp only [rbSt_def]
  refine wk (an2 @g1 @hlk) ?_
  exact hQ
def rcSt (B3 B4 : List D) (next p0 p1 p2 : Int) (H T : List D) (L : List Int) (n : Int) : St :=
 ⟨[(2,pD 2 0),(3,pD 3 0),(4,pD 4 0),(5,hD 200018),(8,vI n)],[(2,[vI next,sD 1 (((rangeI next n).filter fun m => L.contains m).map vI),vI p0,vI p1,vI p2,sD 6 H,sD 2 T,vB true]),(3,B3),(4,B4),(200018,encS L)],[((2,some 1),(3,1,none))]⟩
theorem rcSt_def (B3 B4 : List D) (next p0 p1 p2 : Int) (H T : List D) (L : List Int) (n : Int) : rcSt B3 B4 next p0 p1 p2 H T L n = ⟨[(2,pD 2 0),(3,pD 3 0),(4,pD 4 0),(5,hD 200018),(8,vI n)],[(2,[vI next,sD 1 (((rangeI next n).filter fun m => L.contains m).map vI),vI p0,vI p1,vI p2,sD 6 H,sD 2 T,vB true]),(3,B3),(4,B4),(200018,encS L)],[((2,some 1),(3,1,none))]⟩:=rfl
theorem rh_over (next p0 p1 p2 : Int) (H T : List D) (c : Ch) (L : List Int) (h0 : 0 ≤ next) (h1 : next ≤ 40) (Q : AX → St → Prop)
  (hQ : Q none ⟨[(2,pD 2 0),(3,pD 3 0),(4,pD 4 0),(5,hD 200018),(8,vI 40),(68,vB false)],[(2,[vI next,sD 1 ((earlyR L next).map vI),vI p0,vI p1,vI p2,sD 6 H,sD 2 T,vB true]),(3,encCh c),(4,[vI 0,vD (.slice none 0 0),vI 0,vI 0,vI 0,vD (.slice none 0 0),vD (.slice none 0 0),vB false]),(200018,encS L)],[((2,some 1),(3,1,none))]⟩) :
  Q39b12 (rcSt (encCh c) [vI 0,vD (.slice none 0 0),vI 0,vI 0,vI 0,vD (.slice none 0 0),vD (.slice none 0 0),vB false] next p0 p1 p2 H T L next) Q:=by
 refine aw_block ?_
 refine aw_loop (fun m st => ∃ n : Int,next ≤ n ∧ n ≤ 40 ∧ m = (40 - n).toNat ∧ st = rcSt (encCh c) [vI 0,vD (.slice none 0 0),vI 0,vI 0,vI 0,vD (.slice none 0 0),vD (.slice none 0 0),vB false] next p0 p1 p2 H T L n) (40 - next).toNat _ (Le.refl _) ⟨next,by omega,by omega,rfl,rfl⟩ ?_
 rintro m st ⟨n,hn1,hn2,hm,rfl⟩
 have hlk:=encS_look L n
 have g1 : inR .i64 n = true:=inR_of (by omega)
 have hnx : n < 40 → Next (fun m st => ∃ n : Int,next ≤ n ∧ n ≤ 40 ∧ m = (40 - n).toNat ∧ st = rcSt (encCh c) [vI 0,vD (.slice none 0 0),vI 0,vI 0,vI 0,vD (.slice none 0 0),vD (.slice none 0 0),vB false] next p0 p1 p2 H T L n) m (rcSt (encCh c) [vI 0,vD (.slice none 0 0),vI 0,vI 0,vI 0,vD (.slice none 0 0),vD (.slice none 0 0),vB false] next p0 p1 p2 H T L (n + 1)) :=
  fun hlt => ⟨(40 - (n + 1)).toNat,_,by omega,Le.refl _,n + 1,by omega,by omega,rfl,rfl⟩
 have hsz : (((rangeI next n).filter fun m => L.contains m).map vI).length ≤ 40:=by
  rw [List.length_map]
  refine Nat.le_trans (List.length_filter_le _ _) ?_
  rw [rangeI_len]; omega
 by_cases hlt : n < 40
 ·have g2 : inR .i64 (n + 1) = true:=inR_of (by omega)
  have hnx:=hnx hlt
  generalize (fun m st => ∃ n : Int,next ≤ n ∧ n ≤ 40 ∧ m = (40 - n).toNat ∧ st = rcSt (encCh c) [vI 0,vD (.slice none 0 0),vI 0,vI 0,vI 0,vD (.slice none 0 0),vD (.slice none 0 0),vB false] next p0 p1 p2 H T L n) = J at *
  cases hc : L.contains n with
  | true =>
   rw [hc] at hlk
   have he : ((rangeI next (n + 1)).filter fun m => L.contains m).map vI = ((rangeI next n).filter fun m => L.contains m).map vI ++ [vI n]:=by
    rw [rangeI_snoc hn1,List.filter_append,List.map_append,List.filter_cons_of_pos (by exact hc),List.filter_nil]; rfl
   simp only [rcSt_def,encCh,he] at hnx ⊢
   generalize ((rangeI next n).filter fun m => L.contains m).map vI = E at *
   have g3 : E.length * 8 ≤ 140737488355328:=by omega
   have g4 : (E.length + 1) * 8 ≤ 140737488355328:=by omega
   refine wk (an7 @hlt @g1 @g2 @g3 @g4 @hlk @zapp) ?_
   exact hnx
  | false =>
   rw [hc] at hlk
   have he : ((rangeI next (n + 1)).filter fun m => L.contains m).map vI = ((rangeI next n).filter fun m => L.contains m).map vI:=by
    rw [rangeI_snoc hn1,List.filter_append,List.map_append,List.filter_cons_of_neg (by rw [hc]; simp),List.filter_nil]
    exact List.append_nil _
   simp only [rcSt_def,encCh,he] at hnx ⊢
   generalize ((rangeI next n).filter fun m => L.contains m).map vI = E at *
   refine wk (an4 @hlt @g1 @g2 @hlk) ?_
   exact hnx
 ·have : n = 40:=by omega
  subst this
  simp only [rcSt_def]
  refine wk0 ?_
  exact hQ
theorem ml_snoc3 (l : List Ms) (m : Ms) : encMl (l ++ [m]) = encMl l ++ [aD [vI m.stream,sD 1 (m.data.map encB)]]:=by simp [encMl,encMs]
theorem cl_cut (l : List Ch) (i j : Nat) : encCl (l.take i ++ l.drop j) = (encCl l).take i ++ (encCl l).drop j:=by simp [encCl]
def rdSt (next : Int) (E H : List D) (d : Dr) (a : Bool) : St:=⟨[(2,pD 2 0),(4,pD 4 0),(9,sD 6 (encCl d.hold)),(10,vB a)],[(2,[vI next,sD 1 E,vI d.p0,vI d.p1,vI d.p2,sD 6 H,sD 2 (encMl d.told),vB true]),(4,[vI 0,vD (.slice none 0 0),vI 0,vI 0,vI 0,vD (.slice none 0 0),vD (.slice none 0 0),vB false])],[]⟩
def riSt (next : Int) (E H : List D) (d : Dr) (i : Nat) : St:=⟨[(2,pD 2 0),(4,pD 4 0),(9,sD 6 (encCl d.hold)),(10,vB false),(88,sD 6 (encCl d.hold)),(89,vI d.hold.length),(90,vI i)],[(2,[vI next,sD 1 E,vI d.p0,vI d.p1,vI d.p2,sD 6 H,sD 2 (encMl d.told),vB true]),(4,[vI 0,vD (.slice none 0 0),vI 0,vI 0,vI 0,vD (.slice none 0 0),vD (.slice none 0 0),vB false])],[]⟩
def roSt (next : Int) (E H : List D) (d : Dr) : St:=⟨[(2,pD 2 0),(4,pD 4 0),(9,sD 6 (encCl d.hold)),(10,vB true)],[(2,[vI next,sD 1 E,vI d.p0,vI d.p1,vI d.p2,sD 6 H,sD 2 (encMl d.told),vB true]),(4,[vI 0,vD (.slice none 0 0),vI 0,vI 0,vI 0,vD (.slice none 0 0),vD (.slice none 0 0),vB false])],[((9,none),(85,6,none)),((2,some 6),(43,2,none))]⟩
theorem roSt_le (next : Int) (E H : List D) (d : Dr) : Le (roSt next E H d) (rdSt next E H d true):=Le.look (fun s v h => h) (fun b => rfl) (fun p x h => by simp [rdSt,lookF] at h)
theorem rh_one0t (next p0 p1 p2 : Int) (E H : List D) (hold : List Ch) (told : List Ms) (i : Nat) (kind number place : Int) (data : List UInt8) (early : List Int) (hx : hold[i]? = some ⟨kind,number,0,place,data,early⟩) (hr : (place == p0) = true) (hp : 0 ≤ p0 ∧ p0 ≤ 1000) (hT : told.length ≤ 1000) (hc : hold.length ≤ 1000) (Q : AX → St → Prop)
  (hQ : Q (some (some 8)) (roSt next E H ⟨p0 + 1,p1,p2,hold.take i ++ hold.drop (i + 1),told ++ [⟨0,data⟩]⟩)) :
  Q39l22a (riSt next E H ⟨p0,p1,p2,hold,told⟩ i) Q:=by
 have hi : i < hold.length:=(List.getElem?_eq_some_iff.1 hx).1
 have g0 : (0 : Int) ≤ (i : Int):=by omega
 have g1 : (i : Int) ≤ (hold.length : Int):=by omega
 have g2 : inR .i64 ((i : Int) + 1) = true:=inR_of (by omega)
 have g3 : (i : Int) + 1 ≤ (hold.length : Int):=by omega
 have g4 : (0 : Int) ≤ (i : Int) + 1:=by omega
 have g5 : inR .i64 (p0 + 1) = true:=inR_of (by omega)
 have g6 : (hold.length : Int) ≤ (hold.length : Int):=by omega
 have g7 : (i : Int) < (hold.length : Int):=by omega
 have g8:=at_cl hx
 have b1 : told.length * 32 ≤ 140737488355328:=by omega
 have b2 : (told.length + 1) * 32 ≤ 140737488355328:=by omega
 have q1 : ((i : Int) + 1).toNat = i + 1:=by omega
 have q2 : (encCl hold).take hold.length = encCl hold:=List.take_of_length_le (by rw [len_cl]; exact Nat.le_refl _)
 have b3 : ((encCl hold).take i).length * 80 ≤ 140737488355328:=by rw [List.length_take,len_cl]; omega
 have b4 : (((encCl hold).take i).length + ((encCl hold).drop (i + 1)).length) * 80 ≤ 140737488355328:=by rw [List.length_take,List.length_drop,len_cl]; omega
 simp only [roSt,riSt,cl_cut,ml_snoc3,Int.natCast_add,Int.cast_ofNat_Int] at hQ ⊢
 refine wk (an22 @g0 @g1 @g2 @g3 @g4 @g5 @g6 @g7 @g8 @hr @len_cl @len_ml @q1 @q2 @b1 @b2 @b3 @b4 @zapp @Int.toNat_natCast @zd0 @Int.toNat_zero) ?_
 exact hQ
theorem rh_one0f (next p0 p1 p2 : Int) (E H : List D) (hold : List Ch) (told : List Ms) (i : Nat) (kind number place : Int) (data : List UInt8) (early : List Int) (hx : hold[i]? = some ⟨kind,number,0,place,data,early⟩) (hr : (place == p0) = false) (hp : 0 ≤ p0 ∧ p0 ≤ 1000) (hT : told.length ≤ 1000) (hc : hold.length ≤ 1000) (Q : AX → St → Prop)
  (hQ : Q none (riSt next E H ⟨p0,p1,p2,hold,told⟩ (i + 1))) :
  Q39l22a (riSt next E H ⟨p0,p1,p2,hold,told⟩ i) Q:=by
 have hi : i < hold.length:=(List.getElem?_eq_some_iff.1 hx).1
 have g0 : (0 : Int) ≤ (i : Int):=by omega
 have g1 : (i : Int) ≤ (hold.length : Int):=by omega
 have g2 : inR .i64 ((i : Int) + 1) = true:=inR_of (by omega)
 have g3 : (i : Int) + 1 ≤ (hold.length : Int):=by omega
 have g4 : (0 : Int) ≤ (i : Int) + 1:=by omega
 have g5 : inR .i64 (p0 + 1) = true:=inR_of (by omega)
 have g6 : (hold.length : Int) ≤ (hold.length : Int):=by omega
 have g7 : (i : Int) < (hold.length : Int):=by omega
 have g8:=at_cl hx
 have b1 : told.length * 32 ≤ 140737488355328:=by omega
 have b2 : (told.length + 1) * 32 ≤ 140737488355328:=by omega
 have q1 : ((i : Int) + 1).toNat = i + 1:=by omega
 have q2 : (encCl hold).take hold.length = encCl hold:=List.take_of_length_le (by rw [len_cl]; exact Nat.le_refl _)
 have b3 : ((encCl hold).take i).length * 80 ≤ 140737488355328:=by rw [List.length_take,len_cl]; omega
 have b4 : (((encCl hold).take i).length + ((encCl hold).drop (i + 1)).length) * 80 ≤ 140737488355328:=by rw [List.length_take,List.length_drop,len_cl]; omega
 simp only [roSt,riSt,cl_cut,ml_snoc3,Int.natCast_add,Int.cast_ofNat_Int] at hQ ⊢
 refine wk (an22 @g0 @g1 @g2 @g3 @g4 @g5 @g6 @g7 @g8 @hr @len_cl @len_ml @q1 @q2 @b1 @b2 @b3 @b4 @zapp @Int.toNat_natCast @zd0 @Int.toNat_zero) ?_
 exact hQ
theorem rh_one1t (next p0 p1 p2 : Int) (E H : List D) (hold : List Ch) (told : List Ms) (i : Nat) (kind number place : Int) (data : List UInt8) (early : List Int) (hx : hold[i]? = some ⟨kind,number,1,place,data,early⟩) (hr : (place == p1) = true) (hp : 0 ≤ p1 ∧ p1 ≤ 1000) (hT : told.length ≤ 1000) (hc : hold.length ≤ 1000) (Q : AX → St → Prop)
  (hQ : Q (some (some 8)) (roSt next E H ⟨p0,p1 + 1,p2,hold.take i ++ hold.drop (i + 1),told ++ [⟨1,data⟩]⟩)) :
  Q39l22a (riSt next E H ⟨p0,p1,p2,hold,told⟩ i) Q:=by
 have hi : i < hold.length:=(List.getElem?_eq_some_iff.1 hx).1
 have g0 : (0 : Int) ≤ (i : Int):=by omega
 have g1 : (i : Int) ≤ (hold.length : Int):=by omega
 have g2 : inR .i64 ((i : Int) + 1) = true:=inR_of (by omega)
 have g3 : (i : Int) + 1 ≤ (hold.length : Int):=by omega
 have g4 : (0 : Int) ≤ (i : Int) + 1:=by omega
 have g5 : inR .i64 (p1 + 1) = true:=inR_of (by omega)
 have g6 : (hold.length : Int) ≤ (hold.length : Int):=by omega
 have g7 : (i : Int) < (hold.length : Int):=by omega
 have g8:=at_cl hx
 have b1 : told.length * 32 ≤ 140737488355328:=by omega
 have b2 : (told.length + 1) * 32 ≤ 140737488355328:=by omega
 have q1 : ((i : Int) + 1).toNat = i + 1:=by omega
 have q2 : (encCl hold).take hold.length = encCl hold:=List.take_of_length_le (by rw [len_cl]; exact Nat.le_refl _)
 have b3 : ((encCl hold).take i).length * 80 ≤ 140737488355328:=by rw [List.length_take,len_cl]; omega
 have b4 : (((encCl hold).take i).length + ((encCl hold).drop (i + 1)).length) * 80 ≤ 140737488355328:=by rw [List.length_take,List.length_drop,len_cl]; omega
 simp only [roSt,riSt,cl_cut,ml_snoc3,Int.natCast_add,Int.cast_ofNat_Int] at hQ ⊢
 refine wk (an22 @g0 @g1 @g2 @g3 @g4 @g5 @g6 @g7 @g8 @hr @len_cl @len_ml @q1 @q2 @b1 @b2 @b3 @b4 @zapp @Int.toNat_natCast @zd0 @Int.toNat_zero) ?_
 exact hQ
theorem rh_one1f (next p0 p1 p2 : Int) (E H : List D) (hold : List Ch) (told : List Ms) (i : Nat) (kind number place : Int) (data : List UInt8) (early : List Int) (hx : hold[i]? = some ⟨kind,number,1,place,data,early⟩) (hr : (place == p1) = false) (hp : 0 ≤ p1 ∧ p1 ≤ 1000) (hT : told.length ≤ 1000) (hc : hold.length ≤ 1000) (Q : AX → St → Prop)
  (hQ : Q none (riSt next E H ⟨p0,p1,p2,hold,told⟩ (i + 1))) :
  Q39l22a (riSt next E H ⟨p0,p1,p2,hold,told⟩ i) Q:=by
 have hi : i < hold.length:=(List.getElem?_eq_some_iff.1 hx).1
 have g0 : (0 : Int) ≤ (i : Int):=by omega
 have g1 : (i : Int) ≤ (hold.length : Int):=by omega
 have g2 : inR .i64 ((i : Int) + 1) = true:=inR_of (by omega)
 have g3 : (i : Int) + 1 ≤ (hold.length : Int):=by omega
 have g4 : (0 : Int) ≤ (i : Int) + 1:=by omega
 have g5 : inR .i64 (p1 + 1) = true:=inR_of (by omega)
 have g6 : (hold.length : Int) ≤ (hold.length : Int):=by omega
 have g7 : (i : Int) < (hold.length : Int):=by omega
 have g8:=at_cl hx
 have b1 : told.length * 32 ≤ 140737488355328:=by omega
 have b2 : (told.length + 1) * 32 ≤ 140737488355328:=by omega
 have q1 : ((i : Int) + 1).toNat = i + 1:=by omega
 have q2 : (encCl hold).take hold.length = encCl hold:=List.take_of_length_le (by rw [len_cl]; exact Nat.le_refl _)
 have b3 : ((encCl hold).take i).length * 80 ≤ 140737488355328:=by rw [List.length_take,len_cl]; omega
 have b4 : (((encCl hold).take i).length + ((encCl hold).drop (i + 1)).length) * 80 ≤ 140737488355328:=by rw [List.length_take,List.length_drop,len_cl]; omega
 simp only [roSt,riSt,cl_cut,ml_snoc3,Int.natCast_add,Int.cast_ofNat_Int] at hQ ⊢
 refine wk (an22 @g0 @g1 @g2 @g3 @g4 @g5 @g6 @g7 @g8 @hr @len_cl @len_ml @q1 @q2 @b1 @b2 @b3 @b4 @zapp @Int.toNat_natCast @zd0 @Int.toNat_zero) ?_
 exact hQ
theorem rh_one2t (next p0 p1 p2 : Int) (E H : List D) (hold : List Ch) (told : List Ms) (i : Nat) (kind number place : Int) (data : List UInt8) (early : List Int) (hx : hold[i]? = some ⟨kind,number,2,place,data,early⟩) (hr : (place == p2) = true) (hp : 0 ≤ p2 ∧ p2 ≤ 1000) (hT : told.length ≤ 1000) (hc : hold.length ≤ 1000) (Q : AX → St → Prop)
  (hQ : Q (some (some 8)) (roSt next E H ⟨p0,p1,p2 + 1,hold.take i ++ hold.drop (i + 1),told ++ [⟨2,data⟩]⟩)) :
  Q39l22a (riSt next E H ⟨p0,p1,p2,hold,told⟩ i) Q:=by
 have hi : i < hold.length:=(List.getElem?_eq_some_iff.1 hx).1
 have g0 : (0 : Int) ≤ (i : Int):=by omega
 have g1 : (i : Int) ≤ (hold.length : Int):=by omega
 have g2 : inR .i64 ((i : Int) + 1) = true:=inR_of (by omega)
 have g3 : (i : Int) + 1 ≤ (hold.length : Int):=by omega
 have g4 : (0 : Int) ≤ (i : Int) + 1:=by omega
 have g5 : inR .i64 (p2 + 1) = true:=inR_of (by omega)
 have g6 : (hold.length : Int) ≤ (hold.length : Int):=by omega
 have g7 : (i : Int) < (hold.length : Int):=by omega
 have g8:=at_cl hx
 have b1 : told.length * 32 ≤ 140737488355328:=by omega
 have b2 : (told.length + 1) * 32 ≤ 140737488355328:=by omega
 have q1 : ((i : Int) + 1).toNat = i + 1:=by omega
 have q2 : (encCl hold).take hold.length = encCl hold:=List.take_of_length_le (by rw [len_cl]; exact Nat.le_refl _)
 have b3 : ((encCl hold).take i).length * 80 ≤ 140737488355328:=by rw [List.length_take,len_cl]; omega
 have b4 : (((encCl hold).take i).length + ((encCl hold).drop (i + 1)).length) * 80 ≤ 140737488355328:=by rw [List.length_take,List.length_drop,len_cl]; omega
 simp only [roSt,riSt,cl_cut,ml_snoc3,Int.natCast_add,Int.cast_ofNat_Int] at hQ ⊢
 refine wk (an22 @g0 @g1 @g2 @g3 @g4 @g5 @g6 @g7 @g8 @hr @len_cl @len_ml @q1 @q2 @b1 @b2 @b3 @b4 @zapp @Int.toNat_natCast @zd0 @Int.toNat_zero) ?_
 exact hQ
theorem rh_one2f (next p0 p1 p2 : Int) (E H : List D) (hold : List Ch) (told : List Ms) (i : Nat) (kind number place : Int) (data : List UInt8) (early : List Int) (hx : hold[i]? = some ⟨kind,number,2,place,data,early⟩) (hr : (place == p2) = false) (hp : 0 ≤ p2 ∧ p2 ≤ 1000) (hT : told.length ≤ 1000) (hc : hold.length ≤ 1000) (Q : AX → St → Prop)
  (hQ : Q none (riSt next E H ⟨p0,p1,p2,hold,told⟩ (i + 1))) :
  Q39l22a (riSt next E H ⟨p0,p1,p2,hold,told⟩ i) Q:=by
 have hi : i < hold.length:=(List.getElem?_eq_some_iff.1 hx).1
 have g0 : (0 : Int) ≤ (i : Int):=by omega
 have g1 : (i : Int) ≤ (hold.length : Int):=by omega
 have g2 : inR .i64 ((i : Int) + 1) = true:=inR_of (by omega)
 have g3 : (i : Int) + 1 ≤ (hold.length : Int):=by omega
 have g4 : (0 : Int) ≤ (i : Int) + 1:=by omega
 have g5 : inR .i64 (p2 + 1) = true:=inR_of (by omega)
 have g6 : (hold.length : Int) ≤ (hold.length : Int):=by omega
 have g7 : (i : Int) < (hold.length : Int):=by omega
 have g8:=at_cl hx
 have b1 : told.length * 32 ≤ 140737488355328:=by omega
 have b2 : (told.length + 1) * 32 ≤ 140737488355328:=by omega
 have q1 : ((i : Int) + 1).toNat = i + 1:=by omega
 have q2 : (encCl hold).take hold.length = encCl hold:=List.take_of_length_le (by rw [len_cl]; exact Nat.le_refl _)
 have b3 : ((encCl hold).take i).length * 80 ≤ 140737488355328:=by rw [List.length_take,len_cl]; omega
 have b4 : (((encCl hold).take i).length + ((encCl hold).drop (i + 1)).length) * 80 ≤ 140737488355328:=by rw [List.length_take,List.length_drop,len_cl]; omega
 simp only [roSt,riSt,cl_cut,ml_snoc3,Int.natCast_add,Int.cast_ofNat_Int] at hQ ⊢
 refine wk (an22 @g0 @g1 @g2 @g3 @g4 @g5 @g6 @g7 @g8 @hr @len_cl @len_ml @q1 @q2 @b1 @b2 @b3 @b4 @zapp @Int.toNat_natCast @zd0 @Int.toNat_zero) ?_
 exact hQ
theorem findIdx_at {l : List Ch} {p : Ch → Bool} {i : Nat} {x : Ch} (hx : l[i]? = some x) (hp : p x = true) (hb : ∀ y ∈ l.take i,p y = false) : l.findIdx p = i:=by
 obtain ⟨hi,he⟩:=List.getElem?_eq_some_iff.1 hx
 rw [List.findIdx_eq hi]
 refine ⟨by rw [he]; exact hp,fun j hj => ?_⟩
 exact hb _ (List.mem_take_iff_getElem.2 ⟨j,by omega,rfl⟩)
theorem findIdx_out {l : List Ch} {p : Ch → Bool} (hb : ∀ y ∈ l,p y = false) : l[l.findIdx p]? = none:=by
 rw [List.getElem?_eq_none_iff]
 rw [List.findIdx_eq_length_of_false (by simpa using hb)]
 exact Nat.le_refl _
theorem drain_end {d : Dr} (hb : ∀ y ∈ d.hold,readyD d y = false) (f : Nat) : mth.drain f d = d:=by
 cases f with
 | zero => rfl
 | succ f =>
  unfold mth.drain
  rw [findIdx_out hb]
theorem drain_more {d : Dr} {i : Nat} {x : Ch} (hx : d.hold[i]? = some x) (hi : d.hold.findIdx (readyD d) = i) (f : Nat) : mth.drain (f + 1) d = mth.drain f (stepD d i x):=by
 show (match d.hold[d.hold.findIdx (readyD d)]? with
  | some x => mth.drain f (stepD d (d.hold.findIdx (readyD d)) x)
  | none => d) = _
 rw [hi,hx]
theorem rh_inner (next : Int) (E H : List D) (d : Dr) (K : Nat) (hd : DrOk d K) (hK : K ≤ 1000) (Q : AX → St → Prop)
  (hyes : ∀ i x,d.hold[i]? = some x → d.hold.findIdx (readyD d) = i → Q none (roSt next E H (stepD d i x)))
  (hno : (∀ y ∈ d.hold,readyD d y = false) → Q none ⟨(riSt next E H d d.hold.length).tm ++ [(91,vB false)],(riSt next E H d d.hold.length).bx,[]⟩) :
  Q39b21 (riSt next E H d 0) Q:=by
 refine aw_block ?_
 refine aw_loop (fun m st => ∃ i : Nat,i ≤ d.hold.length ∧ m = d.hold.length - i ∧ (∀ y ∈ d.hold.take i,readyD d y = false) ∧ st = riSt next E H d i) d.hold.length _ (Le.refl _) ⟨0,by omega,by omega,by simp,rfl⟩ ?_
 rintro m st ⟨i,hi,hm,hb,rfl⟩
 by_cases hlt : i < d.hold.length
 ·obtain ⟨x,hx⟩ : ∃ m,d.hold[i]? = some m:=⟨d.hold[i],List.getElem?_eq_getElem hlt⟩
  have hr:=hd.h x (List.mem_of_getElem? hx)
  have hs:=stream3 (wrong_one hr.1 hr.2).2.2.2
  have hp:=hd.p
  have hl:=hd.l
  have hidx:=fun q => findIdx_at (p:=readyD d) hx q hb
  have hy:=fun q => hyes i x hx (hidx q)
  have hnx : readyD d x = false → Next (fun m st => ∃ i : Nat,i ≤ d.hold.length ∧ m = d.hold.length - i ∧ (∀ y ∈ d.hold.take i,readyD d y = false) ∧ st = riSt next E H d i) m (riSt next E H d (i + 1)):=by
   intro q
   refine ⟨d.hold.length - (i + 1),_,by omega,Le.refl _,i + 1,by omega,rfl,fun y hy => ?_,rfl⟩
   rw [List.take_add_one,hx] at hy
   rcases List.mem_append.1 hy with w | w
   ·exact hb y w
   ·have w : y = x:=by simpa using w
    rw [w]; exact q
  generalize (fun m st => ∃ i : Nat,i ≤ d.hold.length ∧ m = d.hold.length - i ∧ (∀ y ∈ d.hold.take i,readyD d y = false) ∧ st = riSt next E H d i) = J at *
  clear hidx hyes hno hb hd hr
  obtain ⟨p0,p1,p2,hold,told⟩:=d
  obtain ⟨kind,number,stream,place,data,early⟩:=x
  simp only at *
  rcases hs with e | e | e
  ·subst e
   cases hr : (place == p0) with
   | true => exact rh_one0t next p0 p1 p2 E H hold told i kind number place data early hx hr (by omega) (by omega) (by omega) _ (thn_out (blk_exit (hy hr)))
   | false => exact rh_one0f next p0 p1 p2 E H hold told i kind number place data early hx hr (by omega) (by omega) (by omega) _ (thn_normal (hnx hr))
  ·subst e
   cases hr : (place == p1) with
   | true => exact rh_one1t next p0 p1 p2 E H hold told i kind number place data early hx hr (by omega) (by omega) (by omega) _ (thn_out (blk_exit (hy hr)))
   | false => exact rh_one1f next p0 p1 p2 E H hold told i kind number place data early hx hr (by omega) (by omega) (by omega) _ (thn_normal (hnx hr))
  ·subst e
   cases hr : (place == p2) with
   | true => exact rh_one2t next p0 p1 p2 E H hold told i kind number place data early hx hr (by omega) (by omega) (by omega) _ (thn_out (blk_exit (hy hr)))
   | false => exact rh_one2f next p0 p1 p2 E H hold told i kind number place data early hx hr (by omega) (by omega) (by omega) _ (thn_normal (hnx hr))
 ·have : i = d.hold.length:=by omega
  subst this
  have g1 : ¬ (d.hold.length : Int) < (d.hold.length : Int):=by omega
  have hq:=hno (by rw [List.take_length] at hb; exact hb)
  simp only [riSt] at hq ⊢
  refine wk @g1 ?_
  exact hq
theorem rh_drain (next : Int) (E H : List D) (d0 : Dr) (K f0 : Nat) (hd : DrOk d0 K) (hK : K ≤ 1000) (hf : d0.hold.length ≤ f0) (Q : AX → St → Prop)
  (hQ : Q none ⟨[(2,pD 2 0),(4,pD 4 0),(9,sD 6 (encCl (mth.drain f0 d0).hold)),(87,vB false)],(rdSt next E H (mth.drain f0 d0) false).bx,[]⟩) :
  Q39b17 (rdSt next E H d0 true) Q:=by
 refine aw_block ?_
 refine aw_loop (fun m st => ∃ (d : Dr) (a : Bool) (f : Nat),DrOk d K ∧ m = 2 * d.hold.length + a.toNat ∧ d.hold.length ≤ f ∧ mth.drain f d = mth.drain f0 d0 ∧ (a = false → ∀ y ∈ d.hold,readyD d y = false) ∧ st = rdSt next E H d a) (2 * d0.hold.length + 1) _ (Le.refl _) ⟨d0,true,f0,hd,rfl,hf,rfl,by simp,rfl⟩ ?_
 rintro m st ⟨d,a,f,h1,h2,h3,h4,h5,rfl⟩
 cases a with
 | false =>
  rw [← h4,drain_end (h5 rfl) f] at hQ
  simp only [rdSt] at hQ ⊢
  refine wk0 ?_
  exact hQ
 | true =>
  have hyes : ∀ i x,d.hold[i]? = some x → d.hold.findIdx (readyD d) = i → Next (fun m st => ∃ (d : Dr) (a : Bool) (f : Nat),DrOk d K ∧ m = 2 * d.hold.length + a.toNat ∧ d.hold.length ≤ f ∧ mth.drain f d = mth.drain f0 d0 ∧ (a = false → ∀ y ∈ d.hold,readyD d y = false) ∧ st = rdSt next E H d a) m (roSt next E H (stepD d i x)):=by
   intro i x hx hi
   have hlt : i < d.hold.length:=(List.getElem?_eq_some_iff.1 hx).1
   obtain ⟨g,rfl⟩ : ∃ g,f = g + 1:=⟨f - 1,by omega⟩
   have hl : (stepD d i x).hold.length = d.hold.length - 1:=by
    simp only [stepD,List.length_append,List.length_take,List.length_drop]; omega
   refine ⟨2 * (stepD d i x).hold.length + 1,_,by rw [hl,h2]; simp only [Bool.toNat_true]; omega,roSt_le next E H _,stepD d i x,true,g,h1.step hx,rfl,by omega,?_,by simp,rfl⟩
   rw [← h4,drain_more hx hi]
  have hno : (∀ y ∈ d.hold,readyD d y = false) → Next (fun m st => ∃ (d : Dr) (a : Bool) (f : Nat),DrOk d K ∧ m = 2 * d.hold.length + a.toNat ∧ d.hold.length ≤ f ∧ mth.drain f d = mth.drain f0 d0 ∧ (a = false → ∀ y ∈ d.hold,readyD d y = false) ∧ st = rdSt next E H d a) m ⟨(riSt next E H d d.hold.length).tm ++ [(91,vB false)],(riSt next E H d d.hold.length).bx,[]⟩:=by
   intro hb
   refine ⟨2 * d.hold.length,rdSt next E H d false,by rw [h2]; simp,?_,d,false,f,h1,by simp,h3,h4,fun _ => hb,rfl⟩
   simp only [riSt,rdSt]
   exact Le.keep (lv:=[2,4,9,10]) (lb:=[2,4]) (by simp only [ev0,ev1,ev2,look,lookF,cellsFrom,offT,offP,List.tail_nil,List.length_nil,Int.cast_ofNat_Int,Nat.reduceEqDiff,Nat.reduceAdd,Nat.reduceMul,Nat.reduceLeDiff,Nat.reduceLT,↓reduceIte,reduceCtorEq,Int.reduceBEq,Int.reduceBNe,Int.reduceLT,Int.reduceLE,Int.reduceToNat,List.cons_append,List.nil_append])
  generalize (fun m st => ∃ (d : Dr) (a : Bool) (f : Nat),DrOk d K ∧ m = 2 * d.hold.length + a.toNat ∧ d.hold.length ≤ f ∧ mth.drain f d = mth.drain f0 d0 ∧ (a = false → ∀ y ∈ d.hold,readyD d y = false) ∧ st = rdSt next E H d a) = J at *
  have hin : Q39b21 (riSt next E H d 0) (blk 7 (thn (Next J m) (blk 6 Q))):=rh_inner next E H d K h1 hK (blk 7 (thn (Next J m) (blk 6 Q))) hyes hno
  simp only [rdSt]
  refine wk @len_cl ?_
  exact hin
theorem rev_has (l : List Int) (n m : Int) : (l.reverse ++ [n]).contains m = (n :: l).contains m:=by
 rw [Bool.eq_iff_iff,List.contains_iff_mem,List.contains_iff_mem]
 rw [List.mem_append,List.mem_reverse,List.mem_singleton,List.mem_cons]
 exact Or.comm
theorem rev_early (l : List Int) (n a : Int) : earlyR (l.reverse ++ [n]) a = earlyR (n :: l) a:=by
 unfold earlyR
 exact List.filter_congr (fun m _ => rev_has l n m)
theorem recvHear_told {r : Rv} (h : GoodR r) {c : Ch} (hc : wrongL c = 0) : Told Tryz.prog 58 [aD (encRv r),aD (encCh c)] [aD (encRv (hearR r c))]:=by
 refine told_r1_RecvHear rfl ?_
 by_cases hk : c.kind = 1
 ·have k1 : (c.kind != 1) = false:=by simpa using hk
  obtain ⟨hn,hpl,hce,hw⟩:=wrong_one hk hc
  have h40:=h.in40
  have hln:=h.l
  have hnx:=h.n
  have ht:=h.t
  have g1 : inR .i64 c.number = true:=inR_of (by omega)
  rw [hearR,if_pos hk]
  have hR : ∀ R,R = (if seenR r c.number = true then { r with owes:=true } else takeR r c) → r1_RecvHear (start [aD (encRv r),aD (encCh c)]) (fin [(4,some (8,true))] [aD (encRv R)]):=by
   intro R hR
   have hearly : ∀ n ∈ r.early,0 ≤ n ∧ n < 40:=fun n hn => by have:=h40 n hn; omega
   simp only [encRv,encCh]
   refine wk (an3 @k1 @g1 @zmap) ?_
   refine rh_early r.next r.p0 r.p1 r.p2 (encCl r.hold) (encMl r.told) c r.early hln hearly hn _ ?_ ?_
   ·intro hcon
    have : R = { r with owes:=true }:=by rw [hR,if_pos (by unfold seenR; rw [hcon]; rfl)]
    subst this
    refine wk0 ?_
    exact ValsLe.refl _
   ·intro hcon
    by_cases q1 : c.number < r.next
    ·have : R = { r with owes:=true }:=by rw [hR,if_pos (by unfold seenR; rw [decide_eq_true q1]; simp)]
     subst this
     simp only [encCh]
     refine wk @q1 ?_
     exact ValsLe.refl _
    ·have q1' : ¬ (c.number < r.next):=q1
     have q4 : (decide (c.number < r.next)) = false:=decide_eq_false q1
     by_cases q2 : r.next < c.number ∧ 2 < r.early.length
     ·have : R = { r with owes:=true }:=by rw [hR,if_pos (by unfold seenR; rw [decide_eq_true q2.1,decide_eq_true q2.2]; simp)]
      subst this
      have e1:=q2.1
      have e2 : (2 : Int) < (r.early.length : Int):=by omega
      simp only [encCh]
      refine wk (an4 @q1' @e1 @e2 @zmap) ?_
      exact ValsLe.refl _
     ·have hseen : seenR r c.number = false:=by
       unfold seenR
       rw [hcon,q4,Bool.false_or,Bool.false_or,Bool.and_eq_false_iff,decide_eq_false_iff_not,decide_eq_false_iff_not]
       omega
      have : R = takeR r c:=by rw [hR,hseen,if_neg (by simp)]
      subst this
      clear hR
      obtain ⟨t1,t2,t3,t4,t5⟩:=take_numbers h hn hseen
      have hS : ∀ m ∈ c.number :: r.early,m < 40:=by
       intro m hm
       rcases List.mem_cons.1 hm with rfl | hm
       ·exact hn.2
       ·exact (h40 m hm).2
      have t6:=(climb_ok (c.number :: r.early) hS 41 r.next hnx.2 (by omega)).2.2.2
      have hdr : DrOk ⟨r.p0,r.p1,r.p2,r.hold ++ [c],r.told⟩ (r.told.length + (r.hold.length + 1)):=by
       refine ⟨h.p,fun x hx => ?_,h.m,by simp⟩
       rcases List.mem_append.1 hx with q | q
       ·exact h.h x q
       ·rw [List.mem_singleton.1 q]; exact ⟨hk,hc⟩
      have w1 : r.hold.length * 80 ≤ 140737488355328:=by omega
      have w2 : (r.hold.length + 1) * 80 ≤ 140737488355328:=by omega
      have hgo : ∀ st,Le st (rbSt (encCh c) [vI 0,vD (.slice none 0 0),vI 0,vI 0,vI 0,vD (.slice none 0 0),vD (.slice none 0 0),vB false] r.early r.p0 r.p1 r.p2 (encCl r.hold) (encMl r.told) (r.early.reverse ++ [c.number]) r.next) →
        cSeq Q39b8 (cSeq Q39r16 (cSeq (cSeq Q39r17 Q39b12) (cSeq Q39r22 (cSeq (cSeq Q39r23 Q39b17) (cSeq Q39r35 (cSeq Q39r36 cRet)))))) st (fin [(4,some (8,true))] [aD (encRv (takeR r c))]):=by
       intro st hst
       simp only [takeR,encRv]
       generalize climb 41 (c.number :: r.early) r.next = nx at *
       rw [← rev_early]
       refine aw_seq ?_
       refine aw_block ?_
       refine le_loop hst ?_
       refine rh_climb r.next nx r.p0 r.p1 r.p2 (encCl r.hold) (encMl r.told) c r.early (r.early.reverse ++ [c.number]) hnx.1 t1 t2 (by rw [rev_has]; exact t3) (fun m h1 h2 => by rw [rev_has]; exact t6 m h1 h2) _ ?_
       refine wk0 ?_
       have hz : rcSt (encCh c) [vI 0,vD (.slice none 0 0),vI 0,vI 0,vI 0,vD (.slice none 0 0),vD (.slice none 0 0),vB false] nx r.p0 r.p1 r.p2 (encCl r.hold) (encMl r.told) (r.early.reverse ++ [c.number]) nx = ⟨[(2,pD 2 0),(3,pD 3 0),(4,pD 4 0),(5,hD 200018),(8,vI nx)],[(2,[vI nx,sD 1 [],vI r.p0,vI r.p1,vI r.p2,sD 6 (encCl r.hold),sD 2 (encMl r.told),vB true]),(3,encCh c),(4,[vI 0,vD (.slice none 0 0),vI 0,vI 0,vI 0,vD (.slice none 0 0),vD (.slice none 0 0),vB false]),(200018,encS (r.early.reverse ++ [c.number]))],[((2,some 1),(3,1,none))]⟩:=by
        rw [rcSt_def,rangeI_nil (Int.le_refl _)]; rfl
       refine le_loop (st':=rcSt (encCh c) [vI 0,vD (.slice none 0 0),vI 0,vI 0,vI 0,vD (.slice none 0 0),vD (.slice none 0 0),vB false] nx r.p0 r.p1 r.p2 (encCl r.hold) (encMl r.told) (r.early.reverse ++ [c.number]) nx) ?_ ?_
       ·rw [hz]
        exact (Le.nilB 2 1 3 1 (by decide) rfl rfl).trans (Le.keep (lv:=[2,3,4,5,8]) (lb:=[2,3,4,200018]) (by simp only [ev0,ev1,ev2,look,lookF,cellsFrom,offT,offP,List.tail_nil,List.length_nil,Int.cast_ofNat_Int,Nat.reduceEqDiff,Nat.reduceAdd,Nat.reduceMul,Nat.reduceLeDiff,Nat.reduceLT,↓reduceIte,reduceCtorEq,Int.reduceBEq,Int.reduceBNe,Int.reduceLT,Int.reduceLE,Int.reduceToNat]))
       refine rh_over nx r.p0 r.p1 r.p2 (encCl r.hold) (encMl r.told) c (r.early.reverse ++ [c.number]) (by omega) t2 _ ?_
       simp only [encCh]
       refine wk (an4 @w1 @w2 @len_cl @zapp) ?_
       have hcs:=cl_snoc r.hold c
       have hdl : (⟨r.p0,r.p1,r.p2,r.hold ++ [c],r.told⟩ : Dr).hold.length ≤ r.hold.length + 1:=by simp
       have hK : r.told.length + (r.hold.length + 1) ≤ 1000:=by omega
       generalize hd0 : (⟨r.p0,r.p1,r.p2,r.hold ++ [c],r.told⟩ : Dr) = d0 at *
       refine le_loop (st':=rdSt nx ((earlyR (r.early.reverse ++ [c.number]) nx).map vI) (encCl r.hold) d0 true) ?_ ?_
       ·subst hd0
        simp only [rdSt,hcs]
        exact Le.look (fun s v h => h) (fun b => rfl) (fun p x h => by simp [lookF] at h)
       refine rh_drain nx _ _ d0 _ (r.hold.length + 1) hdr hK hdl _ ?_
       simp only [rdSt]
       refine wk0 ?_
       exact ValsLe.refl _
      simp only [encCh] at hgo ⊢
      by_cases q3 : r.next < c.number
      ·have e2 : ¬ (2 : Int) < (r.early.length : Int):=by omega
       refine wk (an4 @q1' @q3 @e2 @zmap) ?_
       refine hgo _ ?_
       exact Le.keep (lv:=[2,3,4,5]) (lb:=[2,3,4,200018]) (by simp only [rbSt_def,ev0,ev1,ev2,look,lookF,cellsFrom,offT,offP,List.tail_nil,List.length_nil,Int.cast_ofNat_Int,Nat.reduceEqDiff,Nat.reduceAdd,Nat.reduceMul,Nat.reduceLeDiff,Nat.reduceLT,↓reduceIte,reduceCtorEq,Int.reduceBEq,Int.reduceBNe,Int.reduceLT,Int.reduceLE,Int.reduceToNat])
      ·refine wk (an3 @q1' @q3 @zmap) ?_
       refine hgo _ ?_
       exact Le.keep (lv:=[2,3,4,5]) (lb:=[2,3,4,200018]) (by simp only [rbSt_def,ev0,ev1,ev2,look,lookF,cellsFrom,offT,offP,List.tail_nil,List.length_nil,Int.cast_ofNat_Int,Nat.reduceEqDiff,Nat.reduceAdd,Nat.reduceMul,Nat.reduceLeDiff,Nat.reduceLT,↓reduceIte,reduceCtorEq,Int.reduceBEq,Int.reduceBNe,Int.reduceLT,Int.reduceLE,Int.reduceToNat])
  exact hR _ rfl
 ·have k1 : (c.kind != 1) = true:=by simpa using hk
  rw [hearR,if_neg hk]
  simp only [encRv,encCh]
  refine wk @k1 ?_
  exact ValsLe.refl _
theorem recvSay_told (r : Rv) : Told Tryz.prog 51 [aD (encRv r)] [aD (encRv (sayR r).1),aD (encCh (sayR r).2.1),vB (sayR r).2.2]:=by
 obtain ⟨next,early,p0,p1,p2,hold,told,owes⟩:=r
 refine told_r1_RecvSay rfl ?_
 cases owes with
 | true =>
  simp only [encRv,sayR,encCh,if_true]
  refine wk Bool.not_true ?_
  repeat' (first | exact vals_nil | exact row_nil | exact es_nil | exact CVLe.refl _ | exact LfLe.refl _ | exact LfLe.nil _ | exact EsLe.refl _ | refine vals_cons ?_ ?_ | refine row_cons ?_ ?_ | refine es_cons ?_ ?_ | refine EsLe.app ?_ ?_ | refine CVLe.row ?_ | refine CVLe.leafV ?_ | refine CVLe.leafS ?_ | refine LfLe.s ?_)
 | false =>
  simp only [encRv,sayR,encCh,zeroC,Bool.false_eq_true,if_false]
  refine wk Bool.not_false ?_
  repeat' (first | exact vals_nil | exact row_nil | exact es_nil | exact CVLe.refl _ | exact LfLe.refl _ | exact LfLe.nil _ | exact EsLe.refl _ | refine vals_cons ?_ ?_ | refine row_cons ?_ ?_ | refine es_cons ?_ ?_ | refine EsLe.app ?_ ?_ | refine CVLe.row ?_ | refine CVLe.leafV ?_ | refine CVLe.leafS ?_ | refine LfLe.s ?_)
end Go.Proofs.YtgaofjiidedcbacGreat.ab
