import Derived.Test.YtgaofjiidedcbadM21
import Derived.Test.YtgaofjiidedcbadM19
set_option maxHeartbeats 16000000
set_option linter.unusedVariables false
set_option linter.unusedSimpArgs false
namespace Go.Proofs.Ytgaofjiidedcbad.ab
open Go Go.RowKit
open mth
theorem lwrongMsg_told (m : Ms) : Told Try.prog 32 [aD (encMs m)] [vI (wrongMsgL m.stream m.data)]:=by
 refine told_chunk_WrongMsg rfl ?_
 simp only [encMs]
 unfold wrongMsgL
 by_cases h1 : m.stream < 0
 ·rw [if_pos (by omega)]
  refine wk @h1 ?_
  exact ValsLe.refl _
 ·by_cases h2 : 3 ≤ m.stream
  ·rw [if_pos (by omega)]
   refine wk (an2 @h1 @h2) ?_
   exact ValsLe.refl _
  ·rw [if_neg (by omega)]
   by_cases h3 : 6 < m.data.length
   ·have h3' : 6 < (m.data.length : Int):=by omega
    rw [if_pos (by omega)]
    refine wk (an4 @h1 @h2 @h3' @zmap) ?_
    exact ValsLe.refl _
   ·have h3' : ¬ 6 < (m.data.length : Int):=by omega
    rw [if_neg (by omega)]
    refine wk (an4 @h1 @h2 @h3' @zmap) ?_
    exact ValsLe.refl _
def csSt (l : List Int) (g : Int) (k : Nat) : St:=⟨[(1,vI g),(7,sD 1 (l.map vI)),(8,vI l.length),(9,vI k)],[],[]⟩
theorem at_is {l : List Int} {i : Nat} {x : Int} (h : l[i]? = some x) : (l.map vI)[i]? = some (vI x):=by simp [h]
theorem rises_told (l : List Int) (f : Int) (hl : l.length ≤ 9223372036854775807) : Told Try.prog 86 [sD 1 (l.map vI),vI f] [vB (risesL f l)]:=by
 refine told_chunk_rises rfl ?_
 obtain ⟨R,hR⟩ : ∃ R,R = risesL f l:=⟨_,rfl⟩
 rw [← hR]
 refine wk @zmap ?_
 refine aw_loop (fun m st => ∃ k g,k ≤ l.length ∧ m = l.length - k ∧ R = risesL g (l.drop k) ∧ st = csSt l g k) l.length (csSt l f 0) (Le.refl _) ⟨0,f,by omega,by omega,hR,rfl⟩ ?_
 rintro m st ⟨k,g,hk,hm,hg,rfl⟩
 by_cases hlt : k < l.length
 ·obtain ⟨x,hx⟩ : ∃ x,l[k]? = some x:=⟨l[k],List.getElem?_eq_getElem hlt⟩
  have hd:=rises_drop g l k x hx
  have g1 : (k : Int) < (l.length : Int):=by omega
  have g2 : (0 : Int) ≤ (k : Int):=by omega
  have g3:=at_is hx
  have g4 : inR .i64 ((k : Int) + 1) = true:=inR_of (by omega)
  by_cases h1 : x ≤ g
  ·have hf : R = false:=by
    rw [hg,hd,decide_eq_false (by omega : ¬ g < x)]
    rfl
   rw [hf]
   simp only [csSt]
   refine wk (an6 @g1 @g2 @g3 @h1 @zmap @Int.toNat_natCast) ?_
   exact ValsLe.refl _
  by_cases h2 : 40 ≤ x
  ·have hf : R = false:=by
    rw [hg,hd,decide_eq_false (by omega : ¬ x ≤ 39)]
    simp
   rw [hf]
   simp only [csSt]
   refine wk (an7 @g1 @g2 @g3 @h1 @h2 @zmap @Int.toNat_natCast) ?_
   exact ValsLe.refl _
  have hn : R = risesL x (l.drop (k + 1)):=by
   rw [hg,hd,decide_eq_true (by omega : g < x),decide_eq_true (by omega : x ≤ 39)]
   rfl
  have hnx : Next (fun m st => ∃ k g,k ≤ l.length ∧ m = l.length - k ∧ R = risesL g (l.drop k) ∧ st = csSt l g k) m (csSt l x (k + 1)):=⟨l.length - (k + 1),_,by omega,Le.refl _,k + 1,x,by omega,rfl,hn,rfl⟩
  generalize (fun m st => ∃ k g,k ≤ l.length ∧ m = l.length - k ∧ R = risesL g (l.drop k) ∧ st = csSt l g k) = J at *
  simp only [csSt,Int.natCast_add,Int.cast_ofNat_Int] at hnx ⊢
  refine wk (an8 @g1 @g2 @g3 @g4 @h1 @h2 @zmap @Int.toNat_natCast) ?_
  exact hnx
 ·have hin : k = l.length:=by omega
  subst hin
  have hf : R = true:=by
   rw [hg,List.drop_length]
   rfl
  subst hf
  have g1 : ¬ (l.length : Int) < (l.length : Int):=by omega
  simp only [csSt]
  refine wk @g1 ?_
  exact ValsLe.refl _
theorem wrongData_told (c : Ch) (hn : 0 ≤ c.number ∧ c.number ≤ 40) : Told Try.prog 76 [aD (encCh c)] [vI (if 39 < c.number ∨ c.place < 0 ∨ c.number < c.place then 3 else if c.early.length ≠ 0 then 5 else wrongMsgL c.stream c.data)]:=by
 refine told_chunk_wrongData rfl ?_
 simp only [encCh]
 by_cases h : 39 < c.number ∨ c.place < 0 ∨ c.number < c.place
 ·rw [if_pos h]
  by_cases h1 : c.number = 40
  ·have e1 : (c.number == 40) = true:=by simpa using h1
   refine wk @e1 ?_
   exact ValsLe.refl _
  ·have e1 : (c.number == 40) = false:=by simpa using h1
   by_cases h2 : c.place < 0
   ·refine wk (an2 @e1 @h2) ?_
    exact ValsLe.refl _
   ·have h3 : c.number < c.place:=by omega
    refine wk (an3 @e1 @h2 @h3) ?_
    exact ValsLe.refl _
 ·rw [if_neg h]
  have e1 : (c.number == 40) = false:=by
   have : ¬ c.number = 40:=by omega
   simpa using this
  have h2 : ¬ c.place < 0:=by omega
  have h3 : ¬ c.number < c.place:=by omega
  by_cases h4 : c.early.length = 0
  ·have e4 : ¬ 0 < (c.early.length : Int):=by omega
   rw [if_neg (by omega)]
   have hm:=lwrongMsg_told ⟨c.stream,c.data⟩
   simp only [encMs] at hm
   refine wk (an5 @e1 @h2 @h3 @e4 @zmap) ?_
   refine cg0 [[vI (wrongMsgL c.stream c.data)]] ?_ ?_
   ·exact obl_cons hm obl_nil
   refine wk0 ?_
   exact ValsLe.refl _
  ·have e4 : 0 < (c.early.length : Int):=by omega
   rw [if_pos h4]
   refine wk (an5 @e1 @h2 @h3 @e4 @zmap) ?_
   exact ValsLe.refl _
theorem wrongAck_told (c : Ch) (hl : c.early.length ≤ 9223372036854775807) : Told Try.prog 77 [aD (encCh c)] [vI (if c.stream ≠ 0 ∨ c.place ≠ 0 then 3 else if c.data.length ≠ 0 ∨ 3 < c.early.length then 5 else if risesL c.number c.early = true then 0 else 3)]:=by
 refine told_chunk_wrongAck rfl ?_
 simp only [encCh]
 by_cases h : c.stream ≠ 0 ∨ c.place ≠ 0
 ·rw [if_pos h]
  by_cases h1 : c.stream = 0
  ·have e1 : (c.stream != 0) = false:=by simpa using h1
   have e2 : (c.place != 0) = true:=by
    have : ¬ c.place = 0:=by omega
    simpa using this
   refine wk (an2 @e1 @e2) ?_
   exact ValsLe.refl _
  ·have e1 : (c.stream != 0) = true:=by simpa using h1
   refine wk @e1 ?_
   exact ValsLe.refl _
 rw [if_neg h]
 have e1 : (c.stream != 0) = false:=by
  have : c.stream = 0:=by omega
  simpa using this
 have e2 : (c.place != 0) = false:=by
  have : c.place = 0:=by omega
  simpa using this
 by_cases h3 : c.data.length ≠ 0 ∨ 3 < c.early.length
 ·rw [if_pos h3]
  by_cases h4 : c.data.length = 0
  ·have e4 : ¬ 0 < (c.data.length : Int):=by omega
   have e5 : 3 < (c.early.length : Int):=by omega
   refine wk (an5 @e1 @e2 @e4 @e5 @zmap) ?_
   exact ValsLe.refl _
  ·have e4 : 0 < (c.data.length : Int):=by omega
   refine wk (an4 @e1 @e2 @e4 @zmap) ?_
   exact ValsLe.refl _
 rw [if_neg h3]
 have e4 : ¬ 0 < (c.data.length : Int):=by omega
 have e5 : ¬ 3 < (c.early.length : Int):=by omega
 have hr:=rises_told c.early c.number hl
 refine wk (an5 @e1 @e2 @e4 @e5 @zmap) ?_
 cases hb : risesL c.number c.early with
 | true =>
  rw [hb] at hr
  rw [if_pos rfl]
  refine cg [[vB true]] Bool.not_true ?_ ?_
  ·exact obl_cons hr obl_nil
  refine wk0 ?_
  exact ValsLe.refl _
 | false =>
  rw [hb] at hr
  rw [if_neg (by decide)]
  refine cg [[vB false]] Bool.not_false ?_ ?_
  ·exact obl_cons hr obl_nil
  refine wk0 ?_
  exact ValsLe.refl _
theorem cWrong_told (c : Ch) (hl : c.early.length ≤ 9223372036854775807) : Told Try.prog 65 [aD (encCh c)] [vI (wrongL c)]:=by
 refine told_chunk_Wrong rfl ?_
 by_cases hk : c.kind ≠ 1 ∧ c.kind ≠ 2
 ·have hw : wrongL c = 1:=by unfold wrongL; rw [if_pos hk]
  have e1 : (c.kind != 1) = true:=by simpa using hk.1
  have e2 : (c.kind != 2) = true:=by simpa using hk.2
  rw [hw]
  simp only [encCh]
  refine wk (an2 @e1 @e2) ?_
  exact ValsLe.refl _
 by_cases hn : c.number < 0 ∨ 40 < c.number
 ·have hw : wrongL c = 3:=by unfold wrongL; rw [if_neg hk,if_pos hn]
  rw [hw]
  simp only [encCh]
  by_cases h1 : c.kind = 1
  ·have e1 : (c.kind != 1) = false:=by simpa using h1
   by_cases n1 : c.number < 0
   ·refine wk (an2 @e1 @n1) ?_
    exact ValsLe.refl _
   ·have n2 : 40 < c.number:=by omega
    refine wk (an3 @e1 @n1 @n2) ?_
    exact ValsLe.refl _
  ·have e1 : (c.kind != 1) = true:=by simpa using h1
   have e2 : (c.kind != 2) = false:=by
    have : c.kind = 2:=by omega
    simpa using this
   by_cases n1 : c.number < 0
   ·refine wk (an3 @e1 @e2 @n1) ?_
    exact ValsLe.refl _
   ·have n2 : 40 < c.number:=by omega
    refine wk (an4 @e1 @e2 @n1 @n2) ?_
    exact ValsLe.refl _
 have n1 : ¬ c.number < 0:=by omega
 have n2 : ¬ 40 < c.number:=by omega
 by_cases h1 : c.kind = 1
 ·have e1 : (c.kind != 1) = false:=by simpa using h1
  have e3 : (c.kind == 1) = true:=by simpa using h1
  have hd:=wrongData_told c (by omega)
  have hw : wrongL c = if 39 < c.number ∨ c.place < 0 ∨ c.number < c.place then 3 else if c.early.length ≠ 0 then 5 else wrongMsgL c.stream c.data:=by unfold wrongL; rw [if_neg hk,if_neg hn,if_pos h1]
  rw [← hw] at hd
  simp only [encCh] at hd ⊢
  refine wk (an4 @e1 @e3 @n1 @n2) ?_
  refine cg0 [[vI (wrongL c)]] ?_ ?_
  ·exact obl_cons hd obl_nil
  refine wk0 ?_
  exact ValsLe.refl _
 ·have e1 : (c.kind != 1) = true:=by simpa using h1
  have e2 : (c.kind != 2) = false:=by
   have : c.kind = 2:=by omega
   simpa using this
  have e3 : (c.kind == 1) = false:=by simpa using h1
  have hd:=wrongAck_told c hl
  have hw : wrongL c = if c.stream ≠ 0 ∨ c.place ≠ 0 then 3 else if c.data.length ≠ 0 ∨ 3 < c.early.length then 5 else if risesL c.number c.early = true then 0 else 3:=by unfold wrongL; rw [if_neg hk,if_neg hn,if_neg h1]
  rw [← hw] at hd
  simp only [encCh] at hd ⊢
  refine wk (an5 @e1 @e2 @e3 @n1 @n2) ?_
  refine cg0 [[vI (wrongL c)]] ?_ ?_
  ·exact obl_cons hd obl_nil
  refine wk0 ?_
  exact ValsLe.refl _
theorem at_bs {x : List UInt8} {i : Nat} (h : i < x.length) : (x.map encB)[i]? = some (vD (.int .u8 ((x.getD i 0).toNat : Int))):=by
 rw [List.getElem?_map,List.getElem?_eq_getElem h,List.getD_eq_getElem?_getD,List.getElem?_eq_getElem h]
 rfl
theorem u8_lt (x : UInt8) : (0 : Int) ≤ (x.toNat : Int) ∧ (x.toNat : Int) ≤ 255:=by have:=x.toNat_lt; omega
theorem wrap_64 {n : Int} (h : 0 ≤ n ∧ n ≤ 255) : IntKind.i64.wrap n = n:=by rw [IntKind.wrap_i64]; omega
theorem wrap_8 {n : Int} (h : 0 ≤ n ∧ n ≤ 255) : IntKind.u8.wrap n = n:=by
 show n % 256 = n
 omega
theorem ends_told (x : List UInt8) : Told Try.prog 63 [sD 1 (x.map encB)] [vB (shortL x)]:=by
 refine told_chunk_endsTooSoon rfl ?_
 have z0 : (0 : Int) ≤ 0:=by decide
 have z1 : (0 : Int).toNat = 0:=rfl
 by_cases h : x.length < 2
 ·have hs : shortL x = true:=by unfold shortL; rw [decide_eq_true h]; rfl
  have g1 : (x.length : Int) < 2:=by omega
  rw [hs]
  refine wk (an2 @g1 @zmap) ?_
  exact ValsLe.refl _
 have g1 : ¬ (x.length : Int) < 2:=by omega
 have g2:=at_bs (x:=x) (i:=0) (by omega)
 have hs : shortL x = (decide (i8 (x.getD 0 0) = 1) && decide (x.length < 4)):=by unfold shortL; rw [decide_eq_false h]; rfl
 rw [hs]
 unfold i8
 by_cases h1 : ((x.getD 0 0).toNat : Int) = 1
 ·have e1 : (((x.getD 0 0).toNat : Int) == 1) = true:=by simpa using h1
  by_cases h2 : x.length < 4
  ·have g3 : (x.length : Int) < 4:=by omega
   rw [decide_eq_true h1,decide_eq_true h2]
   refine wk (an7 @g1 @g2 @g3 @z0 @z1 @e1 @zmap) ?_
   exact ValsLe.refl _
  ·have g3 : ¬ (x.length : Int) < 4:=by omega
   rw [decide_eq_true h1,decide_eq_false h2]
   refine wk (an7 @g1 @g2 @g3 @z0 @z1 @e1 @zmap) ?_
   exact ValsLe.refl _
 ·have e1 : (((x.getD 0 0).toNat : Int) == 1) = false:=by simpa using h1
  rw [decide_eq_false h1]
  refine wk (an6 @g1 @g2 @z0 @z1 @e1 @zmap) ?_
  exact ValsLe.refl _
def fieldsB (x : List UInt8) : Ch :=
 if i8 (x.getD 0 0) = 1 then ⟨1,i8 (x.getD 1 0),i8 (x.getD 2 0),i8 (x.getD 3 0),x.drop 4,[]⟩
 else ⟨i8 (x.getD 0 0),i8 (x.getD 1 0),0,0,[],if i8 (x.getD 0 0) = 2 then (x.drop 2).map i8 else []⟩
def fbSt (k n : Int) (y : List UInt8) (j : Nat) : St :=
 ⟨[(2,pD 2 0),(3,pD 3 0),(38,sD 1 (y.map encB)),(39,vI y.length),(40,vI j)],[(2,[vI 0,vI 0,vI 0,vI 0,vD (.slice none 0 0),vD (.slice none 0 0)]),(3,[vI k,vI n,vI 0,vI 0,vD (.slice none 0 0),sD 1 (((y.take j).map i8).map vI)])],[((3,some 5),(3,1,none))]⟩
theorem drop_enc (x : List UInt8) (k : Nat) : (x.map encB).drop k = (x.drop k).map encB:=List.map_drop.symm
theorem take_enc (x : List UInt8) : (x.map encB).take x.length = x.map encB:=List.take_of_length_le (by simp)
theorem from_told (x : List UInt8) (hx : x.length ≤ 1048600) (hs : shortL x = false) : Told Try.prog 64 [sD 1 (x.map encB)] [aD (encCh (fieldsB x))]:=by
 refine told_chunk_fromBytes rfl ?_
 unfold shortL at hs
 simp only [Bool.or_eq_false_iff,decide_eq_false_iff_not,Bool.and_eq_false_iff] at hs
 obtain ⟨h2,h4⟩:=hs
 have z0 : (0 : Int) ≤ 0:=by decide
 have z1 : (0 : Int).toNat = 0:=rfl
 have z2 : (0 : Int) ≤ 1:=by decide
 have z3 : (1 : Int).toNat = 1:=rfl
 have z4 : (0 : Int) ≤ 2:=by decide
 have z5 : (2 : Int).toNat = 2:=rfl
 have z6 : (0 : Int) ≤ 3:=by decide
 have z7 : (3 : Int).toNat = 3:=rfl
 have z8 : (0 : Int) ≤ 4:=by decide
 have z9 : (4 : Int).toNat = 4:=rfl
 have g0:=at_bs (x:=x) (i:=0) (by omega)
 have g1:=at_bs (x:=x) (i:=1) (by omega)
 have w0:=wrap_64 (u8_lt (x.getD 0 0))
 have w1:=wrap_64 (u8_lt (x.getD 1 0))
 by_cases hk : i8 (x.getD 0 0) = 1
 ·have hl : 4 ≤ x.length:=by
   rcases h4 with h4 | h4
   ·exact absurd hk h4
   ·omega
  have g2:=at_bs (x:=x) (i:=2) (by omega)
  have g3:=at_bs (x:=x) (i:=3) (by omega)
  have w2:=wrap_64 (u8_lt (x.getD 2 0))
  have w3:=wrap_64 (u8_lt (x.getD 3 0))
  have hf : fieldsB x = ⟨1,i8 (x.getD 1 0),i8 (x.getD 2 0),i8 (x.getD 3 0),x.drop 4,[]⟩:=by unfold fieldsB; rw [if_pos hk]
  rw [hf]
  unfold i8 at hk ⊢
  have e1 : (((x.getD 0 0).toNat : Int) == 1) = true:=by simpa using hk
  have e2 : (4 : Int) ≤ (x.length : Int):=by omega
  have b1 : (x.drop 4).length * 1 ≤ 140737488355328:=by rw [List.length_drop]; omega
  simp only [encCh,List.map_nil]
  rw [hk] at w0 g0
  generalize ((x.getD 1 0).toNat : Int) = n1 at *
  generalize ((x.getD 2 0).toNat : Int) = n2 at *
  generalize ((x.getD 3 0).toNat : Int) = n3 at *
  repeat (first | refine aw_seq ?_ | refine aw_block ?_ | with_reducible refine aw_ret ?_ | with_reducible refine aw_skip ?_ | with_reducible refine aw_exit ?_ | refine thn_normal ?_ | refine thn_out ?_ | refine blk_normal ?_ | refine blk_ret ?_ | refine blk_exit ?_ | ((first | refine aw_regO ?_ | refine aw_regDO ?_ | refine aw_condO ?_ | refine fin_retO ?_); (conv => (arg 1; simp (maxSteps:=30000) only [ev0,ev1,ev2,look,lookF,cellsFrom,offT,offP,List.tail_nil,List.length_nil,Int.cast_ofNat_Int,Nat.reduceEqDiff,Nat.reduceAdd,Nat.reduceMul,Nat.reduceLeDiff,Nat.reduceLT,↓reduceIte,reduceCtorEq,Int.reduceBEq,Int.reduceBNe,Int.reduceLT,Int.reduceLE,Int.reduceToNat,g0,g1,g2,g3,w0,w1,w2,w3,e1,e2,b1,z0,z1,z2,z3,z4,z5,z6,z7,z8,z9,beq_self_eq_true,drop_enc,take_enc,List.length_map,Int.toNat_natCast,Int.le_refl])); (first | with_reducible refine on_yes ?_ | with_reducible refine on_no ?_ | with_reducible refine on_reg ?_ | (with_reducible refine on_regD (by decide +kernel) ?_) | with_reducible refine on_fin ?_)))
  repeat' (first | exact vals_nil | exact row_nil | exact es_nil | exact CVLe.refl _ | exact LfLe.refl _ | exact LfLe.nil _ | exact EsLe.refl _ | refine vals_cons ?_ ?_ | refine row_cons ?_ ?_ | refine es_cons ?_ ?_ | refine EsLe.app ?_ ?_ | refine CVLe.row ?_ | refine CVLe.leafV ?_ | refine CVLe.leafS ?_ | refine LfLe.s ?_)
 ·have hf : fieldsB x = ⟨i8 (x.getD 0 0),i8 (x.getD 1 0),0,0,[],if i8 (x.getD 0 0) = 2 then (x.drop 2).map i8 else []⟩:=by unfold fieldsB; rw [if_neg hk]
  rw [hf]
  unfold i8 at hk
  have e1 : (((x.getD 0 0).toNat : Int) == 1) = false:=by simpa using hk
  by_cases hk2 : i8 (x.getD 0 0) = 2
  ·rw [if_pos hk2]
   unfold i8 at hk2
   have e2 : (2 : Int) ≤ (x.length : Int):=by omega
   have e3 : ((2 : Int) == 1) = false:=by decide
   rw [show i8 (x.getD 0 0) = 2 from hk2,show i8 (x.getD 1 0) = ((x.getD 1 0).toNat : Int) from rfl]
   rw [hk2] at w0 g0
   have hyl : (x.drop 2).length ≤ 1048600:=by rw [List.length_drop]; omega
   simp only [encCh,List.map_nil]
   refine wk (an18 @g0 @g1 @w0 @w1 @e2 @e3 @z0 @z1 @z2 @z3 @z4 @z5 @zbeq @drop_enc @take_enc @zmap @Int.toNat_natCast @Int.le_refl) ?_
   generalize ((x.getD 1 0).toNat : Int) = n1 at *
   generalize x.drop 2 = y at *
   refine aw_loop (fun m st => ∃ j,j ≤ y.length ∧ m = y.length - j ∧ st = fbSt 2 n1 y j) y.length (fbSt 2 n1 y 0) ((Le.nilB 3 5 3 1 (by decide) rfl rfl).trans (Le.keep (lv:=[2,3,38,39,40]) (lb:=[2,3]) (by simp only [ev0,ev1,ev2,look,lookF,cellsFrom,offT,offP,List.tail_nil,List.length_nil,Int.cast_ofNat_Int,Nat.reduceEqDiff,Nat.reduceAdd,Nat.reduceMul,Nat.reduceLeDiff,Nat.reduceLT,↓reduceIte,reduceCtorEq,Int.reduceBEq,Int.reduceBNe,Int.reduceLT,Int.reduceLE,Int.reduceToNat]; rfl))) ⟨0,by omega,by omega,rfl⟩ ?_
   rintro m st ⟨j,hj,hm,rfl⟩
   by_cases hlt : j < y.length
   ·have q1 : (j : Int) < (y.length : Int):=by omega
    have q2 : (0 : Int) ≤ (j : Int):=by omega
    have q3:=at_bs hlt
    have q4 : inR .i64 ((j : Int) + 1) = true:=inR_of (by omega)
    have q5:=wrap_64 (u8_lt (y.getD j 0))
    have q6 : (y.take (j + 1)).map i8 = (y.take j).map i8 ++ [((y.getD j 0).toNat : Int)]:=by
     rw [List.take_add_one,List.map_append,List.getD_eq_getElem?_getD,List.getElem?_eq_getElem hlt]
     rfl
    have b1 : (((y.take j).map i8).length + 1) * 8 ≤ 140737488355328:=by rw [List.length_map,List.length_take]; omega
    have hnx : Next (fun m st => ∃ j,j ≤ y.length ∧ m = y.length - j ∧ st = fbSt 2 n1 y j) m (fbSt 2 n1 y (j + 1)):=⟨y.length - (j + 1),_,by omega,Le.refl _,j + 1,by omega,rfl,rfl⟩
    generalize (fun m st => ∃ j,j ≤ y.length ∧ m = y.length - j ∧ st = fbSt 2 n1 y j) = J at *
    unfold fbSt at hnx ⊢
    rw [q6] at hnx
    generalize (y.take j).map i8 = E at *
    simp only [List.map_append,List.map_cons,List.map_nil,Int.natCast_add,Int.cast_ofNat_Int] at hnx ⊢
    refine wk (an8 @q1 @q2 @q3 @q4 @q5 @b1 @zmap @Int.toNat_natCast) ?_
    exact hnx
   ·have hin : j = y.length:=by omega
    subst hin
    have q1 : ¬ (y.length : Int) < (y.length : Int):=by omega
    generalize (fun m st => ∃ j,j ≤ y.length ∧ m = y.length - j ∧ st = fbSt 2 n1 y j) = J at *
    unfold fbSt
    rw [List.take_length]
    refine wk @q1 ?_
    repeat' (first | exact vals_nil | exact row_nil | exact es_nil | exact CVLe.refl _ | exact LfLe.refl _ | exact LfLe.nil _ | exact EsLe.refl _ | refine vals_cons ?_ ?_ | refine row_cons ?_ ?_ | refine es_cons ?_ ?_ | refine EsLe.app ?_ ?_ | refine CVLe.row ?_ | refine CVLe.leafV ?_ | refine CVLe.leafS ?_ | refine LfLe.s ?_)
  ·rw [if_neg hk2]
   unfold i8 at hk2
   have e2 : (((x.getD 0 0).toNat : Int) == 2) = false:=by simpa using hk2
   simp only [encCh,List.map_nil]
   unfold i8
   generalize ((x.getD 1 0).toNat : Int) = n1 at *
   generalize ((x.getD 0 0).toNat : Int) = n0 at *
   refine wk (an11 @g0 @g1 @w0 @w1 @e1 @e2 @z0 @z1 @z2 @z3 @zmap) ?_
   repeat' (first | exact vals_nil | exact row_nil | exact es_nil | exact CVLe.refl _ | exact LfLe.refl _ | exact LfLe.nil _ | exact EsLe.refl _ | refine vals_cons ?_ ?_ | refine row_cons ?_ ?_ | refine es_cons ?_ ?_ | refine EsLe.app ?_ ?_ | refine CVLe.row ?_ | refine CVLe.leafV ?_ | refine CVLe.leafS ?_ | refine LfLe.s ?_)
theorem fields_same (x : List UInt8) : wrongL (fieldsB x) = wrongL (fieldsL x) ∧ (wrongL (fieldsL x) = 0 → fieldsB x = fieldsL x):=by
 by_cases h1 : i8 (x.getD 0 0) = 1
 ·have e : fieldsB x = fieldsL x:=by unfold fieldsB fieldsL; rw [if_pos h1,if_pos h1]
  exact ⟨by rw [e],fun _ => e⟩
 ·by_cases h2 : i8 (x.getD 0 0) = 2
  ·have e : fieldsB x = fieldsL x:=by unfold fieldsB fieldsL; rw [if_neg h1,if_neg h1,if_pos h2]
   exact ⟨by rw [e],fun _ => e⟩
  ·have a : wrongL (fieldsB x) = 1:=by unfold fieldsB; rw [if_neg h1]; exact wrongL_kind _ h1 h2
   have b : wrongL (fieldsL x) = 1:=by unfold fieldsL; rw [if_neg h1]; exact wrongL_kind _ h1 h2
   exact ⟨by rw [a,b],fun h => by rw [b] at h; cases h⟩
theorem read_told (xs : List UInt8) (hx : xs.length ≤ 1048600) : Told Try.prog 51 [sD 1 (xs.map encB)] [aD (encCh (readC xs)),vI (readE xs)]:=by
 refine told_chunk_Read rfl ?_
 have o1:=open_told xs (by omega)
 have hol : (openL xs).length ≤ xs.length:=by
  unfold openL
  split
  ·rw [List.length_take]; omega
  ·simp
 have hz : aD (encCh zeroC) = aD [vI 0,vI 0,vI 0,vI 0,sD 1 [],sD 1 []]:=rfl
 by_cases h1 : okL xs = false
 ·have hE : readE xs = 7:=by unfold readE; rw [if_pos h1]
  have hC : readC xs = zeroC:=by unfold readC; rw [hE,if_neg (by decide)]
  rw [hE,hC,hz]
  rw [h1] at o1
  refine wk0 ?_
  refine cg0 [[sD 1 ((openL xs).map encB),vB false]] ?_ ?_
  ·exact obl_cons o1 obl_nil
  refine wk Bool.not_false ?_
  repeat' (first | exact vals_nil | exact row_nil | exact es_nil | exact CVLe.refl _ | exact LfLe.refl _ | exact LfLe.nil _ | exact EsLe.refl _ | refine vals_cons ?_ ?_ | refine row_cons ?_ ?_ | refine es_cons ?_ ?_ | refine EsLe.app ?_ ?_ | refine CVLe.row ?_ | refine CVLe.leafV ?_ | refine CVLe.leafS ?_ | refine LfLe.s ?_)
 have h1' : okL xs = true:=by simpa using h1
 rw [h1'] at o1
 have o2:=ends_told (openL xs)
 by_cases h2 : shortL (openL xs) = true
 ·have hE : readE xs = 8:=by unfold readE; rw [if_neg h1,if_pos h2]
  have hC : readC xs = zeroC:=by unfold readC; rw [hE,if_neg (by decide)]
  rw [hE,hC,hz]
  rw [h2] at o2
  refine wk0 ?_
  refine cg0 [[sD 1 ((openL xs).map encB),vB true]] ?_ ?_
  ·exact obl_cons o1 obl_nil
  refine wk Bool.not_true ?_
  refine cg0 [[vB true]] ?_ ?_
  ·exact obl_cons o2 obl_nil
  refine wk0 ?_
  repeat' (first | exact vals_nil | exact row_nil | exact es_nil | exact CVLe.refl _ | exact LfLe.refl _ | exact LfLe.nil _ | exact EsLe.refl _ | refine vals_cons ?_ ?_ | refine row_cons ?_ ?_ | refine es_cons ?_ ?_ | refine EsLe.app ?_ ?_ | refine CVLe.row ?_ | refine CVLe.leafV ?_ | refine CVLe.leafS ?_ | refine LfLe.s ?_)
 have h2' : shortL (openL xs) = false:=by simpa using h2
 rw [h2'] at o2
 have o3:=from_told (openL xs) (by omega) h2'
 obtain ⟨f1,f2⟩:=fields_same (openL xs)
 have hel : (fieldsB (openL xs)).early.length ≤ 9223372036854775807:=by
  unfold fieldsB
  split
  ·simp
  ·simp only
   split
   ·rw [List.length_map,List.length_drop]; omega
   ·simp
 have o4:=cWrong_told (fieldsB (openL xs)) hel
 rw [f1] at o4
 have hE : readE xs = wrongL (fieldsL (openL xs)):=by unfold readE; rw [if_neg h1,if_neg h2]
 by_cases h3 : wrongL (fieldsL (openL xs)) = 0
 ·have hC : readC xs = fieldsL (openL xs):=by unfold readC; rw [hE,if_pos h3]
  rw [hE,hC,h3]
  rw [h3] at o4
  rw [f2 h3] at o3 o4
  generalize fieldsL (openL xs) = c at *
  simp only [encCh] at o3 o4 ⊢
  refine wk0 ?_
  refine cg0 [[sD 1 ((openL xs).map encB),vB true]] ?_ ?_
  ·exact obl_cons o1 obl_nil
  refine wk Bool.not_true ?_
  refine cg0 [[vB false]] ?_ ?_
  ·exact obl_cons o2 obl_nil
  refine wk0 ?_
  refine cg [[aD (encCh c)]] @encCh.eq_1 ?_ ?_
  ·exact obl_cons o3 obl_nil
  refine wk0 ?_
  refine cg0 [[vI 0]] ?_ ?_
  ·exact obl_cons o4 obl_nil
  refine wk @zbne ?_
  exact ValsLe.refl _
 ·have hC : readC xs = zeroC:=by unfold readC; rw [hE,if_neg h3]
  rw [hE,hC,hz]
  have e3 : (wrongL (fieldsL (openL xs)) != 0) = true:=by simpa using h3
  generalize wrongL (fieldsL (openL xs)) = e at *
  generalize fieldsB (openL xs) = c at *
  simp only [encCh] at o3 o4 ⊢
  refine wk0 ?_
  refine cg0 [[sD 1 ((openL xs).map encB),vB true]] ?_ ?_
  ·exact obl_cons o1 obl_nil
  refine wk Bool.not_true ?_
  refine cg0 [[vB false]] ?_ ?_
  ·exact obl_cons o2 obl_nil
  refine wk0 ?_
  refine cg [[aD (encCh c)]] @encCh.eq_1 ?_ ?_
  ·exact obl_cons o3 obl_nil
  refine wk0 ?_
  refine cg0 [[vI e]] ?_ ?_
  ·exact obl_cons o4 obl_nil
  refine wk @e3 ?_
  repeat' (first | exact vals_nil | exact row_nil | exact es_nil | exact CVLe.refl _ | exact LfLe.refl _ | exact LfLe.nil _ | exact EsLe.refl _ | refine vals_cons ?_ ?_ | refine row_cons ?_ ?_ | refine es_cons ?_ ?_ | refine EsLe.app ?_ ?_ | refine CVLe.row ?_ | refine CVLe.leafV ?_ | refine CVLe.leafS ?_ | refine LfLe.s ?_)
end Go.Proofs.Ytgaofjiidedcbad.ab
