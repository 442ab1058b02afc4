import Derived.Test.YtgaofjiidedcbacGreatM25
set_option maxHeartbeats 16000000
set_option linter.unusedVariables false
set_option linter.unusedSimpArgs false
namespace Go.Proofs.YtgaofjiidedcbacGreat.ab
open Go Go.RowKit
open mth
theorem bsz (a : List UInt8) : (⟨a.toArray⟩ : ByteArray).size = a.length:=rfl
theorem bdat (a : List UInt8) : (⟨a.toArray⟩ : ByteArray).data.toList = a:=rfl
theorem bapp (a b : List UInt8) : (⟨a.toArray⟩ : ByteArray) ++ ⟨b.toArray⟩ = ⟨(a ++ b).toArray⟩:=by
 rw [ByteArray.mk_append_mk]
def ccSt (Z : List UInt8) (l : List Int) (k : Nat) : St:=⟨[(3,vD (.string ⟨(Z ++ (l.take k).map b8).toArray⟩)),(32,sD 1 (l.map vI)),(33,vI l.length),(34,vI k)],[],[]⟩
theorem zsx (Z : List UInt8) (l : List Int) (hZ : Z.length ≤ 20) (hl : l.length ≤ 20) (hr : ∀ x ∈ l,0 ≤ x ∧ x ≤ 255) (Q : AX → St → Prop)
  (hQ : Q none ⟨[(3,vD (.string ⟨(Z ++ l.map b8).toArray⟩)),(32,sD 1 (l.map vI)),(33,vI l.length),(34,vI l.length),(35,vB false)],[],[]⟩) :
  cLoop Q32l3a (ccSt Z l 0) (blk 0 Q):=by
 refine zw (fun m st => ∃ k,k ≤ l.length ∧ m = l.length - k ∧ st = ccSt Z l k) l.length _ (Le.refl _) ⟨0,by omega,by omega,rfl⟩ ?_
 rintro m st ⟨k,hk,hm,rfl⟩
 by_cases hlt : k < l.length
 ·obtain ⟨x,hx⟩ : ∃ x,l[k]? = some x:=⟨l[k],List.getElem?_eq_getElem hlt⟩
  have hxr:=hr x (List.mem_of_getElem? hx)
  have q1 : (k : Int) < (l.length : Int):=by omega
  have q2 : (0 : Int) ≤ (k : Int):=by omega
  have q3:=at_is hx
  have q4 : inR .i64 ((k : Int) + 1) = true:=inR_of (by omega)
  have q5:=wrap_8 hxr
  have q6 : z5c [vD (.int .u8 x)] = some [b8 x]:=by
   rw [← enc_b8 hxr]
   exact zx [b8 x]
  have q7 : (Z ++ (l.take (k + 1)).map b8) = (Z ++ (l.take k).map b8) ++ [b8 x]:=by
   rw [List.take_add_one,hx,List.map_append,List.append_assoc]
   rfl
  have b0 : (Z ++ (l.take k).map b8).length ≤ 40:=by simp only [List.length_append,List.length_map,List.length_take]; omega
  have hnx : Next (fun m st => ∃ k,k ≤ l.length ∧ m = l.length - k ∧ st = ccSt Z l k) m (ccSt Z l (k + 1)):=⟨l.length - (k + 1),_,by omega,Le.refl _,k + 1,by omega,rfl,rfl⟩
  generalize (fun m st => ∃ k,k ≤ l.length ∧ m = l.length - k ∧ st = ccSt Z l k) = J at *
  unfold ccSt at hnx ⊢
  rw [q7] at hnx
  generalize Z ++ (l.take k).map b8 = W at *
  have b2 : (List.length [b8 x]) = 1:=rfl
  generalize [b8 x] = Y at *
  have b1 : W.length + Y.length ≤ 9223372036854775807:=by omega
  simp only [Int.natCast_add,Int.cast_ofNat_Int] at hnx ⊢
  refine wk (an11 @q1 @q2 @q3 @q4 @q5 @q6 @b1 @bsz @bapp @zmap @Int.toNat_natCast) ?_
  exact hnx
 ·have hin : k = l.length:=by omega
  subst hin
  have q1 : ¬ (l.length : Int) < (l.length : Int):=by omega
  generalize (fun m st => ∃ k,k ≤ l.length ∧ m = l.length - k ∧ st = ccSt Z l k) = J at *
  unfold ccSt
  rw [List.take_length]
  refine wk @q1 ?_
  exact hQ
theorem z7c (c : Ch) (hc : wrongL c = 0) : Told Tryz.prog 50 [aD (encCh c)] [sD 1 ((sealL (bodyL c)).map encB)]:=by
 refine zkk rfl ?_
 have hlen:=zhl c hc
 have o1:=zxg (bodyL c) (by omega)
 rcases znc c hc with ⟨h1,h2,h3,h4,h5,h6⟩ | ⟨h1,h2,h3,h4,h5,h6,h7⟩
 ·obtain ⟨kind,number,stream,place,data,early⟩:=c
  simp only at h1 h2 h3 h4 h5 h6
  subst h1 h6
  have hb : bodyL ⟨1,number,stream,place,data,[]⟩ = ([b8 1,b8 number] ++ [b8 stream,b8 place]) ++ data:=by
   unfold bodyL
   rw [if_pos rfl]
   rfl
  rw [hb] at o1
  have e1 : IntKind.u8.wrap 1 = 1:=by decide
  have e2:=wrap_8 (show 0 ≤ number ∧ number ≤ 255 by omega)
  have e3:=wrap_8 (show 0 ≤ stream ∧ stream ≤ 255 by omega)
  have e4:=wrap_8 (show 0 ≤ place ∧ place ≤ 255 by omega)
  have f1 : z5c [vD (.int .u8 1),vD (.int .u8 number)] = some [b8 1,b8 number]:=by
   rw [← enc_b8 (show (0 : Int) ≤ 1 ∧ (1 : Int) ≤ 255 by decide),← enc_b8 (show 0 ≤ number ∧ number ≤ 255 by omega)]
   exact zx [b8 1,b8 number]
  have f2 : z5c [vD (.int .u8 stream),vD (.int .u8 place)] = some [b8 stream,b8 place]:=by
   rw [← enc_b8 (show 0 ≤ stream ∧ stream ≤ 255 by omega),← enc_b8 (show 0 ≤ place ∧ place ≤ 255 by omega)]
   exact zx [b8 stream,b8 place]
  rw [hb]
  generalize hX : [b8 1,b8 number] = X at *
  generalize hY : [b8 stream,b8 place] = Y at *
  have hX' : X.length = 2:=by rw [← hX]; rfl
  have hY' : Y.length = 2:=by rw [← hY]; rfl
  have b1 : X.length + Y.length ≤ 9223372036854775807:=by omega
  have b2 : (X ++ Y).length + data.length ≤ 9223372036854775807:=by rw [List.length_append]; omega
  have b3 : ((X ++ Y) ++ data).length ≤ 140737488355328:=by rw [List.length_append,List.length_append]; omega
  have hloop:=fun Q => zsx ((X ++ Y) ++ data) [] (by rw [List.length_append,List.length_append]; omega) (by simp) (by simp) Q
  clear hX hY hb hc hlen
  generalize (sealL ((X ++ Y) ++ data)).map encB = R at *
  simp only [encCh,List.map_nil]
  refine wk (an12 @e1 @e2 @e3 @e4 @f1 @f2 @b1 @b2 @bsz @bapp @zx @zbeq) ?_
  simp only [ccSt,List.map_nil,List.append_nil,List.length_nil,List.take_nil,Int.natCast_zero] at hloop
  generalize (X ++ Y) ++ data = Z at *
  refine hloop _ ?_
  refine wk0 ?_
  refine cg [[sD 1 R]] (an3 @b3 @bsz @bdat) ?_ ?_
  ·exact zb o1 zd
  refine wk0 ?_
  exact ValsLe.refl _
 ·obtain ⟨kind,number,stream,place,data,early⟩:=c
  simp only at h1 h2 h3 h4 h5 h6 h7
  subst h1 h3 h4 h5
  have hr:=fun x hx => z1f _ _ h7 x hx
  have hb : bodyL ⟨2,number,0,0,[],early⟩ = [b8 2,b8 number] ++ early.map b8:=by
   unfold bodyL
   rw [if_neg (fun e => by cases e)]
  rw [hb] at o1
  have e1 : IntKind.u8.wrap 2 = 2:=by decide
  have e2:=wrap_8 (show 0 ≤ number ∧ number ≤ 255 by omega)
  have e3 : ((2 : Int) == 1) = false:=by decide
  have f1 : z5c [vD (.int .u8 2),vD (.int .u8 number)] = some [b8 2,b8 number]:=by
   rw [← enc_b8 (show (0 : Int) ≤ 2 ∧ (2 : Int) ≤ 255 by decide),← enc_b8 (show 0 ≤ number ∧ number ≤ 255 by omega)]
   exact zx [b8 2,b8 number]
  rw [hb]
  generalize hX : [b8 2,b8 number] = X at *
  have hX' : X.length = 2:=by rw [← hX]; rfl
  have b3 : (X ++ early.map b8).length ≤ 140737488355328:=by rw [List.length_append,List.length_map]; omega
  have hloop:=fun Q => zsx X early (by omega) (by omega) (fun x hx => by have:=hr x hx; omega) Q
  clear hX hb hc hlen
  generalize (sealL (X ++ early.map b8)).map encB = R at *
  simp only [encCh,List.map_nil]
  refine wk (an5 @e1 @e2 @e3 @f1 @zmap) ?_
  simp only [ccSt,List.map_nil,List.append_nil,List.take_zero,Int.natCast_zero] at hloop
  refine hloop _ ?_
  generalize X ++ early.map b8 = Z at *
  refine wk0 ?_
  refine cg [[sD 1 R]] (an3 @b3 @bsz @bdat) ?_ ?_
  ·exact zb o1 zd
  refine wk0 ?_
  exact ValsLe.refl _
theorem callNo : zr Tryz.prog 78 = true:=by kernel_rfl
theorem ztk (e : Int) : Told Tryz.prog 78 [vI e] [aD [vI 0,vI 0,vI 0,vI 0,sD 1 [],sD 1 []],vI e]:=by
 refine zgj rfl ?_
 refine wk0 ?_
 repeat' (first | exact zj | exact zo | exact es_nil | exact CVLe.refl _ | exact LfLe.refl _ | exact LfLe.nil _ | exact EsLe.refl _ | refine zf ?_ ?_ | refine zk ?_ ?_ | refine zp ?_ ?_ | refine EsLe.app ?_ ?_ | refine CVLe.row ?_ | refine CVLe.leafV ?_ | refine CVLe.leafS ?_ | refine LfLe.s ?_)
def fnNo : D:=vD (.func (.func 78) #[] #[])
def r2St (k n : Int) (x : List UInt8) (i : Nat) : St :=
 ⟨[(2,pD 2 0),(4,fnNo),(5,sD 1 (x.map encB)),(7,pD 7 0),(8,vI i)],[(2,[vI 0,vI 0,vI 0,vI 0,vD (.slice none 0 0),vD (.slice none 0 0)]),(7,[vI k,vI n,vI 0,vI 0,vD (.slice none 0 0),sD 1 ((((x.take i).drop 2).map i8).map vI)])],[((7,some 5),(3,1,none))]⟩
def r3St (n s p : Int) (x : List UInt8) (i : Nat) : St :=
 ⟨[(2,pD 2 0),(4,fnNo),(5,sD 1 (x.map encB)),(7,pD 7 0),(8,vI i)],[(2,[vI 0,vI 0,vI 0,vI 0,vD (.slice none 0 0),vD (.slice none 0 0)]),(7,[vI 1,vI n,vI (if 3 ≤ i then s else 0),vI (if 4 ≤ i then p else 0),sD 1 (((x.take i).drop 4).map encB),vD (.slice none 0 0)])],[((7,some 4),(5,1,none))]⟩
theorem zwe {x : List UInt8} {i k : Nat} (h : i < x.length) (hk : k ≤ i) : (x.take (i + 1)).drop k = (x.take i).drop k ++ [x.getD i 0]:=by
 rw [List.take_add_one,List.getElem?_eq_getElem h,Option.toList_some,List.drop_append_of_le_length (by rw [List.length_take]; omega),List.getD_eq_getElem?_getD,List.getElem?_eq_getElem h]
 rfl
theorem zq1 (k n : Int) (x : List UInt8) (hx : x.length ≤ 1048600) (h2 : 2 ≤ x.length) (hk : k ≠ 1) (Q : AX → St → Prop)
  (hQ : Q none ⟨(r2St k n x x.length).tm ++ [(51,vB false)],(r2St k n x x.length).bx,(r2St k n x x.length).fl⟩) :
  cLoop Q35l4a (r2St k n x 2) (blk 0 Q):=by
 refine zw (fun m st => ∃ i,2 ≤ i ∧ i ≤ x.length ∧ m = x.length - i ∧ st = r2St k n x i) (x.length - 2) _ (Le.refl _) ⟨2,by omega,by omega,rfl,rfl⟩ ?_
 rintro m st ⟨i,hi2,hi,hm,rfl⟩
 have e1 : (k == 1) = false:=by simpa using hk
 have e2 : (k != 1) = true:=by simpa using hk
 by_cases hlt : i < x.length
 ·have q1 : (i : Int) < (x.length : Int):=by omega
  have q2 : (0 : Int) ≤ (i : Int):=by omega
  have q3:=at_bs hlt
  have q4 : inR .i64 ((i : Int) + 1) = true:=inR_of (by omega)
  have q5:=z1d (u8_lt (x.getD i 0))
  have q6 : ((x.take (i + 1)).drop 2).map i8 = ((x.take i).drop 2).map i8 ++ [((x.getD i 0).toNat : Int)]:=by
   rw [zwe hlt hi2,List.map_append]
   rfl
  have b1 : ((((x.take i).drop 2).map i8).length + 1) * 8 ≤ 140737488355328:=by rw [List.length_map,List.length_drop,List.length_take]; omega
  have hnx : Next (fun m st => ∃ i,2 ≤ i ∧ i ≤ x.length ∧ m = x.length - i ∧ st = r2St k n x i) m (r2St k n x (i + 1)):=⟨x.length - (i + 1),_,by omega,Le.refl _,i + 1,by omega,by omega,rfl,rfl⟩
  generalize (fun m st => ∃ i,2 ≤ i ∧ i ≤ x.length ∧ m = x.length - i ∧ st = r2St k n x i) = J at *
  unfold r2St fnNo at hnx ⊢
  rw [q6] at hnx
  generalize ((x.take i).drop 2).map i8 = E at *
  simp only [List.map_append,List.map_cons,List.map_nil,Int.natCast_add,Int.cast_ofNat_Int] at hnx ⊢
  refine wk (an10 @q1 @q2 @q3 @q4 @q5 @b1 @e1 @e2 @zmap @Int.toNat_natCast) ?_
  exact hnx
 ·have hin : i = x.length:=by omega
  subst hin
  have q1 : ¬ (x.length : Int) < (x.length : Int):=by omega
  generalize (fun m st => ∃ i,2 ≤ i ∧ i ≤ x.length ∧ m = x.length - i ∧ st = r2St k n x i) = J at *
  unfold r2St fnNo at hQ ⊢
  refine wk (an2 @q1 @zmap) ?_
  exact hQ
theorem zk2 (n : Int) (x : List UInt8) (hx : x.length ≤ 1048600) (h4 : 4 ≤ x.length) (Q : AX → St → Prop)
  (hQ : Q none ⟨(r3St n ((x.getD 2 0).toNat : Int) ((x.getD 3 0).toNat : Int) x x.length).tm ++ [(51,vB false)],(r3St n ((x.getD 2 0).toNat : Int) ((x.getD 3 0).toNat : Int) x x.length).bx,(r3St n ((x.getD 2 0).toNat : Int) ((x.getD 3 0).toNat : Int) x x.length).fl⟩) :
  cLoop Q35l4a (r3St n ((x.getD 2 0).toNat : Int) ((x.getD 3 0).toNat : Int) x 2) (blk 0 Q):=by
 obtain ⟨s,hs⟩ : ∃ s,s = ((x.getD 2 0).toNat : Int):=⟨_,rfl⟩
 obtain ⟨p,hp⟩ : ∃ p,p = ((x.getD 3 0).toNat : Int):=⟨_,rfl⟩
 rw [← hs,← hp] at hQ ⊢
 refine zw (fun m st => ∃ i,2 ≤ i ∧ i ≤ x.length ∧ m = x.length - i ∧ st = r3St n s p x i) (x.length - 2) _ (Le.refl _) ⟨2,by omega,by omega,rfl,rfl⟩ ?_
 rintro m st ⟨i,hi2,hi,hm,rfl⟩
 have e1 : ((1 : Int) != 1) = false:=by decide
 by_cases hlt : i < x.length
 ·have q1 : (i : Int) < (x.length : Int):=by omega
  have q2 : (0 : Int) ≤ (i : Int):=by omega
  have q3:=at_bs hlt
  have q4 : inR .i64 ((i : Int) + 1) = true:=inR_of (by omega)
  have q5:=z1d (u8_lt (x.getD i 0))
  have hnx : Next (fun m st => ∃ i,2 ≤ i ∧ i ≤ x.length ∧ m = x.length - i ∧ st = r3St n s p x i) m (r3St n s p x (i + 1)):=⟨x.length - (i + 1),_,by omega,Le.refl _,i + 1,by omega,by omega,rfl,rfl⟩
  generalize (fun m st => ∃ i,2 ≤ i ∧ i ≤ x.length ∧ m = x.length - i ∧ st = r3St n s p x i) = J at *
  by_cases c2 : i = 2
  ·subst c2
   unfold r3St fnNo at hnx ⊢
   rw [if_pos (by omega),if_neg (by omega),show (x.take (2 + 1)).drop 4 = [] from List.drop_of_length_le (by rw [List.length_take]; omega)] at hnx
   rw [if_neg (by omega),if_neg (by omega),show (x.take 2).drop 4 = [] from List.drop_of_length_le (by rw [List.length_take]; omega)]
   rw [← hs] at q3 q5
   have z1 : (2 : Int) < (x.length : Int):=by omega
   have z2 : (2 : Int).toNat = 2:=rfl
   have z3 : (0 : Int) ≤ 2:=by decide
   have z4 : (2 : Int) + 1 = 3:=by decide
   have z5 : inR .i64 3 = true:=by decide
   simp only [List.map_nil,Int.natCast_add,Int.cast_ofNat_Int,z4,show ((2 + 1 : Nat) : Int) = 3 from rfl] at hnx ⊢
   refine wk (an11 @z1 @z2 @z3 @z4 @z5 @q3 @q5 @e1 @zbeq @zmap @Int.toNat_natCast) ?_
   exact hnx
  by_cases c3 : i = 3
  ·subst c3
   unfold r3St fnNo at hnx ⊢
   rw [if_pos (by omega),if_pos (by omega),show (x.take (3 + 1)).drop 4 = [] from List.drop_of_length_le (by rw [List.length_take]; omega)] at hnx
   rw [if_pos (by omega),if_neg (by omega),show (x.take 3).drop 4 = [] from List.drop_of_length_le (by rw [List.length_take]; omega)]
   rw [← hp] at q3 q5
   have z0 : ((3 : Int) == 2) = false:=by decide
   have z1 : (3 : Int) < (x.length : Int):=by omega
   have z2 : (3 : Int).toNat = 3:=rfl
   have z3 : (0 : Int) ≤ 3:=by decide
   have z4 : (3 : Int) + 1 = 4:=by decide
   have z5 : inR .i64 4 = true:=by decide
   simp only [List.map_nil,Int.natCast_add,Int.cast_ofNat_Int,z4,show ((3 + 1 : Nat) : Int) = 4 from rfl] at hnx ⊢
   refine wk (an12 @z0 @z1 @z2 @z3 @z4 @z5 @q3 @q5 @e1 @zbeq @zmap @Int.toNat_natCast) ?_
   exact hnx
  have z0 : ((i : Int) == 2) = false:=by
   have : ¬ (i : Int) = 2:=by omega
   simpa using this
  have z1 : ((i : Int) == 3) = false:=by
   have : ¬ (i : Int) = 3:=by omega
   simpa using this
  have q6 : ((x.take (i + 1)).drop 4).map encB = ((x.take i).drop 4).map encB ++ [vD (.int .u8 ((x.getD i 0).toNat : Int))]:=by
   rw [zwe hlt (by omega),List.map_append]
   rfl
  have b1 : ((((x.take i).drop 4).map encB).length + 1) * 1 ≤ 140737488355328:=by rw [List.length_map,List.length_drop,List.length_take]; omega
  unfold r3St fnNo at hnx ⊢
  rw [if_pos (by omega),if_pos (by omega),q6] at hnx
  rw [if_pos (by omega),if_pos (by omega)]
  generalize ((x.take i).drop 4).map encB = E at *
  simp only [Int.natCast_add,Int.cast_ofNat_Int] at hnx ⊢
  refine wk (an11 @q1 @q2 @q3 @q4 @q5 @b1 @e1 @z0 @z1 @zmap @Int.toNat_natCast) ?_
  exact hnx
 ·have hin : i = x.length:=by omega
  subst hin
  have q1 : ¬ (x.length : Int) < (x.length : Int):=by omega
  generalize (fun m st => ∃ i,2 ≤ i ∧ i ≤ x.length ∧ m = x.length - i ∧ st = r3St n s p x i) = J at *
  unfold r3St fnNo at hQ ⊢
  refine wk (an2 @q1 @zmap) ?_
  exact hQ
theorem zwl (xs : List UInt8) (hx : xs.length ≤ 1048600) : Told Tryz.prog 56 [sD 1 (xs.map encB)] [aD (encCh (readC xs)),vI (readE xs)]:=by
 refine z9l rfl ?_
 have o1:=zpl xs (by omega)
 have hol : (openL xs).length ≤ xs.length:=by
  unfold openL
  split
  ·rw [List.length_take]; omega
  ·simp
 have hz : aD (encCh zeroC) = aD [vI 0,vI 0,vI 0,vI 0,sD 1 [],sD 1 []]:=rfl
 by_cases h1 : okL xs = false
 ·have hE : readE xs = 7:=by unfold readE; rw [if_pos h1]
  have hC : readC xs = zeroC:=by unfold readC; rw [hE,if_neg (by decide)]
  rw [hE,hC,hz]
  rw [h1] at o1
  refine wk0 ?_
  refine cg0 [[sD 1 ((openL xs).map encB),vB false]] ?_ ?_
  ·exact zb o1 zd
  refine wk Bool.not_false ?_
  refine cg [[aD [vI 0,vI 0,vI 0,vI 0,sD 1 [],sD 1 []],vI 7]] @callNo ?_ ?_
  ·exact zb (ztk 7) zd
  refine wk0 ?_
  repeat' (first | exact zj | exact zo | exact es_nil | exact CVLe.refl _ | exact LfLe.refl _ | exact LfLe.nil _ | exact EsLe.refl _ | refine zf ?_ ?_ | refine zk ?_ ?_ | refine zp ?_ ?_ | refine EsLe.app ?_ ?_ | refine CVLe.row ?_ | refine CVLe.leafV ?_ | refine CVLe.leafS ?_ | refine LfLe.s ?_)
 have h1' : okL xs = true:=by simpa using h1
 rw [h1'] at o1
 have hE0 : readE xs = if shortL (openL xs) = true then 8 else wrongL (zcb (openL xs)):=by unfold readE; rw [if_neg h1]
 have hC0 : readC xs = if readE xs = 0 then zcb (openL xs) else zeroC:=rfl
 have hxl : (openL xs).length ≤ 1048600:=by omega
 rw [hC0,hE0]
 clear hE0 hC0 hol h1 h1'
 generalize openL xs = x at *
 have z0 : (0 : Int) ≤ 0:=by decide
 have z1 : (0 : Int).toNat = 0:=rfl
 have z2 : (0 : Int) ≤ 1:=by decide
 have z3 : (1 : Int).toNat = 1:=rfl
 by_cases hl2 : x.length < 2
 ·have hs : shortL x = true:=by unfold shortL; rw [decide_eq_true hl2]; rfl
  have g1 : (x.length : Int) < 2:=by omega
  rw [hs,if_pos rfl,if_neg (by decide),hz]
  refine wk0 ?_
  refine cg0 [[sD 1 (x.map encB),vB true]] ?_ ?_
  ·exact zb o1 zd
  refine wk (an3 @g1 Bool.not_true @zmap) ?_
  refine cg [[aD [vI 0,vI 0,vI 0,vI 0,sD 1 [],sD 1 []],vI 8]] @callNo ?_ ?_
  ·exact zb (ztk 8) zd
  refine wk0 ?_
  repeat' (first | exact zj | exact zo | exact es_nil | exact CVLe.refl _ | exact LfLe.refl _ | exact LfLe.nil _ | exact EsLe.refl _ | refine zf ?_ ?_ | refine zk ?_ ?_ | refine zp ?_ ?_ | refine EsLe.app ?_ ?_ | refine CVLe.row ?_ | refine CVLe.leafV ?_ | refine CVLe.leafS ?_ | refine LfLe.s ?_)
 have g1 : ¬ (x.length : Int) < 2:=by omega
 have g2 : (1 : Int) < (x.length : Int):=by omega
 have g0:=at_bs (x:=x) (i:=0) (by omega)
 have g3:=at_bs (x:=x) (i:=1) (by omega)
 have w0:=z1d (u8_lt (x.getD 0 0))
 have w1:=z1d (u8_lt (x.getD 1 0))
 have hs0 : shortL x = (decide (i8 (x.getD 0 0) = 1) && decide (x.length < 4)):=by unfold shortL; rw [decide_eq_false hl2]; rfl
 by_cases hk : i8 (x.getD 0 0) = 1
 ·have hk':=hk
  unfold i8 at hk'
  rw [hk'] at g0 w0
  by_cases hl4 : x.length < 4
  ·have hs : shortL x = true:=by rw [hs0,decide_eq_true hk,decide_eq_true hl4]; rfl
   have g4 : (x.length : Int) < 4:=by omega
   rw [hs,if_pos rfl,if_neg (by decide),hz]
   refine wk0 ?_
   refine cg0 [[sD 1 (x.map encB),vB true]] ?_ ?_
   ·exact zb o1 zd
   refine wk (an8 @g0 @g1 @g4 @z0 @z1 @zbeq Bool.not_true @zmap) ?_
   refine cg [[aD [vI 0,vI 0,vI 0,vI 0,sD 1 [],sD 1 []],vI 8]] @callNo ?_ ?_
   ·exact zb (ztk 8) zd
   refine wk0 ?_
   repeat' (first | exact zj | exact zo | exact es_nil | exact CVLe.refl _ | exact LfLe.refl _ | exact LfLe.nil _ | exact EsLe.refl _ | refine zf ?_ ?_ | refine zk ?_ ?_ | refine zp ?_ ?_ | refine EsLe.app ?_ ?_ | refine CVLe.row ?_ | refine CVLe.leafV ?_ | refine CVLe.leafS ?_ | refine LfLe.s ?_)
  have hs : shortL x = false:=by rw [hs0,decide_eq_false hl4]; simp
  have g4 : ¬ (x.length : Int) < 4:=by omega
  have hf : zcb x = ⟨1,i8 (x.getD 1 0),i8 (x.getD 2 0),i8 (x.getD 3 0),x.drop 4,[]⟩:=by unfold zcb; rw [if_pos hk]
  have hloop:=fun Q => zk2 ((x.getD 1 0).toNat : Int) x hxl (by omega) Q
  have o4:=z6j (zcb x) (by rw [hf]; simp)
  rw [hs]
  simp only [Bool.false_eq_true,if_false]
  refine wk0 ?_
  refine cg0 [[sD 1 (x.map encB),vB true]] ?_ ?_
  ·exact zb o1 zd
  refine wk (an14 @g0 @g1 @g2 @g3 @g4 @w0 @w1 @z0 @z1 @z2 @z3 @zbeq Bool.not_true @zmap) ?_
  refine z0k (st':=r3St ((x.getD 1 0).toNat : Int) ((x.getD 2 0).toNat : Int) ((x.getD 3 0).toNat : Int) x 2) ?_ (hloop _ ?_)
  ·have e : r3St ((x.getD 1 0).toNat : Int) ((x.getD 2 0).toNat : Int) ((x.getD 3 0).toNat : Int) x 2 = ⟨[(2,pD 2 0),(4,fnNo),(5,sD 1 (x.map encB)),(7,pD 7 0),(8,vI 2)],[(2,[vI 0,vI 0,vI 0,vI 0,vD (.slice none 0 0),vD (.slice none 0 0)]),(7,[vI 1,vI ((x.getD 1 0).toNat : Int),vI 0,vI 0,sD 1 [],vD (.slice none 0 0)])],[((7,some 4),(5,1,none))]⟩:=by
    unfold r3St
    rw [if_neg (by omega),if_neg (by omega),show (x.take 2).drop 4 = [] from List.drop_of_length_le (by rw [List.length_take]; omega)]
    rfl
   rw [e]
   exact (Le.nilB 7 4 5 1 (by decide) rfl rfl).trans (Le.keep (lv:=[2,4,5,7,8]) (lb:=[2,7]) (by simp only [ev0,ev1,ev2,look,lookF,zh,offT,offP,List.tail_nil,List.length_nil,Int.cast_ofNat_Int,Nat.reduceEqDiff,Nat.reduceAdd,Nat.reduceMul,Nat.reduceLeDiff,Nat.reduceLT,↓reduceIte,reduceCtorEq,Int.reduceBEq,Int.reduceBNe,Int.reduceLT,Int.reduceLE,Int.reduceToNat]; rfl))
  have e4 : (x.take x.length).drop 4 = x.drop 4:=by rw [List.take_length]
  unfold r3St fnNo
  rw [if_pos (show 3 ≤ x.length by omega),if_pos (show 4 ≤ x.length by omega),e4]
  simp only [List.cons_append,List.nil_append]
  rw [hf] at o4 ⊢
  simp only [encCh,List.map_nil] at o4
  unfold i8 at o4 ⊢
  by_cases hw : wrongL ⟨1,((x.getD 1 0).toNat : Int),((x.getD 2 0).toNat : Int),((x.getD 3 0).toNat : Int),x.drop 4,[]⟩ = 0
  ·rw [hw,if_pos rfl]
   rw [hw] at o4
   simp only [encCh,List.map_nil]
   refine wk0 ?_
   refine cg0 [[vI 0]] ?_ ?_
   ·refine ⟨⟨_,?_,o4⟩,trivial⟩
    repeat' (first | exact zj | exact zo | exact es_nil | exact CVLe.refl _ | exact LfLe.refl _ | exact LfLe.nil _ | exact EsLe.refl _ | refine zf ?_ ?_ | refine zk ?_ ?_ | refine zp ?_ ?_ | refine EsLe.app ?_ ?_ | refine CVLe.row ?_ | refine CVLe.leafV ?_ | refine CVLe.leafS ?_ | refine LfLe.s ?_)
   refine wk @zbne ?_
   repeat' (first | exact zj | exact zo | exact es_nil | exact CVLe.refl _ | exact LfLe.refl _ | exact LfLe.nil _ | exact EsLe.refl _ | refine zf ?_ ?_ | refine zk ?_ ?_ | refine zp ?_ ?_ | refine EsLe.app ?_ ?_ | refine CVLe.row ?_ | refine CVLe.leafV ?_ | refine CVLe.leafS ?_ | refine LfLe.s ?_)
  ·rw [if_neg hw,hz]
   have e5 : (wrongL ⟨1,((x.getD 1 0).toNat : Int),((x.getD 2 0).toNat : Int),((x.getD 3 0).toNat : Int),x.drop 4,[]⟩ != 0) = true:=by simpa using hw
   generalize wrongL ⟨1,((x.getD 1 0).toNat : Int),((x.getD 2 0).toNat : Int),((x.getD 3 0).toNat : Int),x.drop 4,[]⟩ = e at *
   refine wk0 ?_
   refine cg0 [[vI e]] ?_ ?_
   ·refine ⟨⟨_,?_,o4⟩,trivial⟩
    repeat' (first | exact zj | exact zo | exact es_nil | exact CVLe.refl _ | exact LfLe.refl _ | exact LfLe.nil _ | exact EsLe.refl _ | refine zf ?_ ?_ | refine zk ?_ ?_ | refine zp ?_ ?_ | refine EsLe.app ?_ ?_ | refine CVLe.row ?_ | refine CVLe.leafV ?_ | refine CVLe.leafS ?_ | refine LfLe.s ?_)
   refine wk @e5 ?_
   refine cg [[aD [vI 0,vI 0,vI 0,vI 0,sD 1 [],sD 1 []],vI e]] @callNo ?_ ?_
   ·exact zb (ztk e) zd
   refine wk0 ?_
   repeat' (first | exact zj | exact zo | exact es_nil | exact CVLe.refl _ | exact LfLe.refl _ | exact LfLe.nil _ | exact EsLe.refl _ | refine zf ?_ ?_ | refine zk ?_ ?_ | refine zp ?_ ?_ | refine EsLe.app ?_ ?_ | refine CVLe.row ?_ | refine CVLe.leafV ?_ | refine CVLe.leafS ?_ | refine LfLe.s ?_)
 ·have hs : shortL x = false:=by rw [hs0,decide_eq_false hk]; rfl
  have hf : zcb x = ⟨i8 (x.getD 0 0),i8 (x.getD 1 0),0,0,[],(x.drop 2).map i8⟩:=by unfold zcb; rw [if_neg hk]
  have hk':=hk
  unfold i8 at hk'
  have e1 : (((x.getD 0 0).toNat : Int) == 1) = false:=by simpa using hk'
  have hloop:=fun Q => zq1 ((x.getD 0 0).toNat : Int) ((x.getD 1 0).toNat : Int) x hxl (by omega) hk' Q
  have o4:=z6j (zcb x) (by rw [hf]; simp only [List.length_map,List.length_drop]; omega)
  rw [hs]
  simp only [Bool.false_eq_true,if_false]
  refine wk0 ?_
  refine cg0 [[sD 1 (x.map encB),vB true]] ?_ ?_
  ·exact zb o1 zd
  refine wk (an13 @g0 @g1 @g2 @g3 @e1 @w0 @w1 @z0 @z1 @z2 @z3 Bool.not_true @zmap) ?_
  refine z0k (st':=r2St ((x.getD 0 0).toNat : Int) ((x.getD 1 0).toNat : Int) x 2) ?_ (hloop _ ?_)
  ·have e : r2St ((x.getD 0 0).toNat : Int) ((x.getD 1 0).toNat : Int) x 2 = ⟨[(2,pD 2 0),(4,fnNo),(5,sD 1 (x.map encB)),(7,pD 7 0),(8,vI 2)],[(2,[vI 0,vI 0,vI 0,vI 0,vD (.slice none 0 0),vD (.slice none 0 0)]),(7,[vI ((x.getD 0 0).toNat : Int),vI ((x.getD 1 0).toNat : Int),vI 0,vI 0,vD (.slice none 0 0),sD 1 []])],[((7,some 5),(3,1,none))]⟩:=by
    unfold r2St
    rw [show (x.take 2).drop 2 = [] from List.drop_of_length_le (by rw [List.length_take]; omega)]
    rfl
   rw [e]
   exact (Le.nilB 7 5 3 1 (by decide) rfl rfl).trans (Le.keep (lv:=[2,4,5,7,8]) (lb:=[2,7]) (by simp only [ev0,ev1,ev2,look,lookF,zh,offT,offP,List.tail_nil,List.length_nil,Int.cast_ofNat_Int,Nat.reduceEqDiff,Nat.reduceAdd,Nat.reduceMul,Nat.reduceLeDiff,Nat.reduceLT,↓reduceIte,reduceCtorEq,Int.reduceBEq,Int.reduceBNe,Int.reduceLT,Int.reduceLE,Int.reduceToNat]; rfl))
  have e4 : (x.take x.length).drop 2 = x.drop 2:=by rw [List.take_length]
  unfold r2St fnNo
  rw [e4]
  simp only [List.cons_append,List.nil_append]
  rw [hf] at o4 ⊢
  simp only [encCh,List.map_nil] at o4
  rw [show i8 (x.getD 0 0) = ((x.getD 0 0).toNat : Int) from rfl,show i8 (x.getD 1 0) = ((x.getD 1 0).toNat : Int) from rfl] at o4 ⊢
  by_cases hw : wrongL ⟨((x.getD 0 0).toNat : Int),((x.getD 1 0).toNat : Int),0,0,[],(x.drop 2).map i8⟩ = 0
  ·rw [hw,if_pos rfl]
   rw [hw] at o4
   simp only [encCh,List.map_nil]
   refine wk0 ?_
   refine cg0 [[vI 0]] ?_ ?_
   ·refine ⟨⟨_,?_,o4⟩,trivial⟩
    repeat' (first | exact zj | exact zo | exact es_nil | exact CVLe.refl _ | exact LfLe.refl _ | exact LfLe.nil _ | exact EsLe.refl _ | refine zf ?_ ?_ | refine zk ?_ ?_ | refine zp ?_ ?_ | refine EsLe.app ?_ ?_ | refine CVLe.row ?_ | refine CVLe.leafV ?_ | refine CVLe.leafS ?_ | refine LfLe.s ?_)
   refine wk @zbne ?_
   repeat' (first | exact zj | exact zo | exact es_nil | exact CVLe.refl _ | exact LfLe.refl _ | exact LfLe.nil _ | exact EsLe.refl _ | refine zf ?_ ?_ | refine zk ?_ ?_ | refine zp ?_ ?_ | refine EsLe.app ?_ ?_ | refine CVLe.row ?_ | refine CVLe.leafV ?_ | refine CVLe.leafS ?_ | refine LfLe.s ?_)
  ·rw [if_neg hw,hz]
   have e5 : (wrongL ⟨((x.getD 0 0).toNat : Int),((x.getD 1 0).toNat : Int),0,0,[],(x.drop 2).map i8⟩ != 0) = true:=by simpa using hw
   generalize wrongL ⟨((x.getD 0 0).toNat : Int),((x.getD 1 0).toNat : Int),0,0,[],(x.drop 2).map i8⟩ = e at *
   refine wk0 ?_
   refine cg0 [[vI e]] ?_ ?_
   ·refine ⟨⟨_,?_,o4⟩,trivial⟩
    repeat' (first | exact zj | exact zo | exact es_nil | exact CVLe.refl _ | exact LfLe.refl _ | exact LfLe.nil _ | exact EsLe.refl _ | refine zf ?_ ?_ | refine zk ?_ ?_ | refine zp ?_ ?_ | refine EsLe.app ?_ ?_ | refine CVLe.row ?_ | refine CVLe.leafV ?_ | refine CVLe.leafS ?_ | refine LfLe.s ?_)
   refine wk @e5 ?_
   refine cg [[aD [vI 0,vI 0,vI 0,vI 0,sD 1 [],sD 1 []],vI e]] @callNo ?_ ?_
   ·exact zb (ztk e) zd
   refine wk0 ?_
   repeat' (first | exact zj | exact zo | exact es_nil | exact CVLe.refl _ | exact LfLe.refl _ | exact LfLe.nil _ | exact EsLe.refl _ | refine zf ?_ ?_ | refine zk ?_ ?_ | refine zp ?_ ?_ | refine EsLe.app ?_ ?_ | refine CVLe.row ?_ | refine CVLe.leafV ?_ | refine CVLe.leafS ?_ | refine LfLe.s ?_)
end Go.Proofs.YtgaofjiidedcbacGreat.ab
