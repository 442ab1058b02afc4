import Derived.Test.YtgaofjiidedcbacGreatM36
import Derived.Test.YtgaofjiidedcbacGreatM20
import Derived.Test.YtgaofjiidedcbacGreatM32
import Derived.ChangeOld
import Derived.SizedLaws
import Derived.Test.YtgaofjiidedcbacGreatProg
set_option maxHeartbeats 16000000
set_option linter.unusedVariables false
set_option linter.unusedSimpArgs false
namespace Go.Proofs.YtgaofjiidedcbacGreat.ab
open Go Go.RowKit
open mth
def fa1 (n : Int) (l : List Sp) (t r : Int) (i : Nat) : St:=⟨[(0,vI n),(1,sD 7 (encSl l)),(2,vI t),(3,vI r),(9,sD 7 (encSl (onlyW (l.take i) t))),(46,sD 7 (encSl l)),(47,vI l.length),(48,vI i)],[],[((9,none),(45,7,none))]⟩
def fa2 (n t r : Nat) (w x : Wd) (i : Nat) : St:=⟨[(0,vI n),(2,vI t),(12,pD 12 0),(14,pD 14 0),(78,vI r),(79,vI i)],[(12,encWd (roundN i w)),(14,encWd (roundN i x))],[]⟩
theorem fairAlone_not (hP : CFPlay 7) (hR : CFRound 11) (hT : CFSettle 13) (n : Int) (l : List Sp) (t r : Int) (h : n < 1 ∨ 3 < n ∨ t < 0 ∨ n ≤ t ∨ r < 0 ∨ 40 < r ∨ 160 < (l.length : Int)) : Told Tryz.prog 6 [vI n,sD 7 (encSl l),vI t,vI r] [vB true]:=by
 refine told_w12_FairAlone rfl ?_
 have hA:=alive12_told hP hR hT
 refine wk0 ?_
 refine cg [[vB true]] Bool.not_true ?_ ?_
 ·exact obl_cons hA obl_nil
 by_cases n1 : n < 1
 ·refine wk @n1 ?_
  exact ValsLe.refl _
 by_cases n2 : 3 < n
 ·refine wk (an2 @n1 @n2) ?_
  exact ValsLe.refl _
 by_cases n3 : t < 0
 ·refine wk (an3 @n1 @n2 @n3) ?_
  exact ValsLe.refl _
 by_cases n4 : n ≤ t
 ·refine wk (an4 @n1 @n2 @n3 @n4) ?_
  exact ValsLe.refl _
 by_cases n5 : r < 0
 ·refine wk (an5 @n1 @n2 @n3 @n4 @n5) ?_
  exact ValsLe.refl _
 by_cases n6 : 40 < r
 ·refine wk (an6 @n1 @n2 @n3 @n4 @n5 @n6) ?_
  exact ValsLe.refl _
 have n7 : 160 < (l.length : Int):=by omega
 refine wk (an8 @n1 @n2 @n3 @n4 @n5 @n6 @n7 @len_sl) ?_
 exact ValsLe.refl _
theorem fairAlone_good (hS : CSpoilR 34) (hP : CFPlay 7) (hR : CFRound 11) (hT : CFSettle 13) (n : Nat) (hn : 1 ≤ n ∧ n ≤ 3) (l : List Sp) (hl : l.length ≤ 160) (t : Nat) (ht : t < n) (r : Nat) (hr : r ≤ 40) :
  Told Tryz.prog 6 [vI n,sD 7 (encSl l),vI t,vI r] [vB true]:=by
 refine told_w12_FairAlone rfl ?_
 have hA:=alive12_told hP hR hT
 have hol:=only_len l t
 have p1:=play_told hS n hn l (by omega)
 have p2:=play_told hS n hn (onlyW l t) (by omega)
 rw [List.take_of_length_le hl] at p1
 rw [List.take_of_length_le (by omega)] at p2
 have hsim:=sim_run t (newW n) l
 obtain ⟨hw,hwt,_⟩:=good_run (good_new hn) l 160
 rw [List.take_of_length_le hl] at hw hwt
 obtain ⟨hx,hxt,_⟩:=good_run (good_new hn) (onlyW l t) 160
 rw [List.take_of_length_le (by omega)] at hx hxt
 have ht0 : (newW n).ticks = 0:=rfl
 rw [ht0] at hwt hxt
 have hwn : (runW (newW n) l).1.lanes.length = n:=by rw [lenW_run]; simp [newW]
 generalize (runW (newW n) l).2 = e1 at *
 generalize (runW (newW n) l).1 = w at *
 generalize (runW (newW n) (onlyW l t)).2 = e2 at *
 generalize (runW (newW n) (onlyW l t)).1 = x at *
 have n1 : ¬ (n : Int) < 1:=by omega
 have n2 : ¬ 3 < (n : Int):=by omega
 have n3 : ¬ (t : Int) < 0:=by omega
 have n4 : ¬ (n : Int) ≤ (t : Int):=by omega
 have n5 : ¬ (r : Int) < 0:=by omega
 have n6 : ¬ 40 < (r : Int):=by omega
 have n7 : ¬ 160 < (l.length : Int):=by omega
 simp only [encWd] at p1 p2
 refine wk0 ?_
 refine cg [[vB true]] Bool.not_true ?_ ?_
 ·exact obl_cons hA obl_nil
 refine wk (an8 @n1 @n2 @n3 @n4 @n5 @n6 @n7 @len_sl) ?_
 refine aw_loop (fun m st => ∃ i : Nat,i ≤ l.length ∧ m = l.length - i ∧ st = fa1 n l t r i) l.length (fa1 n l t r 0) ((Le.nilS 9 45 7 rfl).trans (Le.keep (lv:=[0,1,2,3,9,46,47,48]) (lb:=[]) (by simp only [ev0,ev1,ev2,look,lookF,cellsFrom,offT,offP,List.tail_nil,List.length_nil,Int.cast_ofNat_Int,Nat.reduceEqDiff,Nat.reduceAdd,Nat.reduceMul,Nat.reduceLeDiff,Nat.reduceLT,↓reduceIte,reduceCtorEq,Int.reduceBEq,Int.reduceBNe,Int.reduceLT,Int.reduceLE,Int.reduceToNat]; rfl))) ⟨0,by omega,by omega,rfl⟩ ?_
 rintro m st ⟨i,hi,hm,rfl⟩
 by_cases hlt : i < l.length
 ·obtain ⟨s,hs⟩ : ∃ s,l[i]? = some s:=⟨l[i],List.getElem?_eq_getElem hlt⟩
  have g1 : (i : Int) < (l.length : Int):=by omega
  have g2 : (0 : Int) ≤ (i : Int):=by omega
  have g3:=at_sl hs
  have g4 : inR .i64 ((i : Int) + 1) = true:=inR_of (by omega)
  have hlen:=only_len (l.take i) t
  rw [List.length_take] at hlen
  have b1 : ((onlyW (l.take i) t).length + 1) * 72 ≤ 140737488355328:=by omega
  have hnx : Next (fun m st => ∃ i : Nat,i ≤ l.length ∧ m = l.length - i ∧ st = fa1 n l t r i) m (fa1 n l t r (i + 1)):=⟨l.length - (i + 1),_,by omega,Le.refl _,i + 1,by omega,rfl,rfl⟩
  have e : onlyW (l.take (i + 1)) t = onlyW (l.take i) t ++ (if mineB t s = true then [s] else []):=by rw [List.take_add_one,hs,Option.toList_some,only_snoc]
  generalize (fun m st => ∃ i : Nat,i ≤ l.length ∧ m = l.length - i ∧ st = fa1 n l t r i) = J at *
  unfold fa1 at hnx ⊢
  rw [e] at hnx
  generalize onlyW (l.take i) t = O at *
  by_cases h1 : s.kind = 1
  ·have q1 : (s.kind == 1) = true:=by simpa using h1
   rw [if_pos (by unfold mineB; rw [q1]; rfl),sl_snoc] at hnx
   simp only [encSp,Int.natCast_add,Int.cast_ofNat_Int] at hnx
   refine wk (an7 @g1 @g2 @g3 @q1 @b1 @len_sl @Int.toNat_natCast) ?_
   refine wk @g4 ?_
   exact hnx
  have q1 : (s.kind == 1) = false:=by simpa using h1
  by_cases h2 : s.tenant = t
  ·have q2 : (s.tenant == (t : Int)) = true:=by simpa using h2
   rw [if_pos (by unfold mineB; rw [q2]; simp),sl_snoc] at hnx
   simp only [encSp,Int.natCast_add,Int.cast_ofNat_Int] at hnx
   refine wk (an8 @g1 @g2 @g3 @q1 @q2 @b1 @len_sl @Int.toNat_natCast) ?_
   refine wk @g4 ?_
   exact hnx
  ·have q2 : (s.tenant == (t : Int)) = false:=by simpa using h2
   rw [if_neg (by unfold mineB; rw [q1,q2]; simp),List.append_nil] at hnx
   simp only [Int.natCast_add,Int.cast_ofNat_Int] at hnx
   refine wk (an7 @g1 @g2 @g3 @q1 @q2 @len_sl @Int.toNat_natCast) ?_
   refine wk @g4 ?_
   exact hnx
 have hin : i = l.length:=by omega
 subst hin
 have g1 : ¬ (l.length : Int) < (l.length : Int):=by omega
 generalize (fun m st => ∃ i : Nat,i ≤ l.length ∧ m = l.length - i ∧ st = fa1 n l t r i) = J1 at *
 simp only [fa1,List.take_length]
 refine wk @g1 ?_
 refine cg [[aD (encWd w),sD 1 (e1.map vI)]] @encWd.eq_1 ?_ ?_
 ·exact obl_cons p1 obl_nil
 refine wk0 ?_
 refine cg [[aD (encWd x),sD 1 (e2.map vI)]] @encWd.eq_1 ?_ ?_
 ·exact obl_cons p2 obl_nil
 refine wk0 ?_
 refine aw_loop (fun m st => ∃ i : Nat,i ≤ r ∧ m = r - i ∧ st = fa2 n t r w x i) r (fa2 n t r w x 0) (Le.refl _) ⟨0,by omega,by omega,rfl⟩ ?_
 rintro m st ⟨i,hi,hm,rfl⟩
 by_cases hlt : i < r
 ·have g1 : (i : Int) < (r : Int):=by omega
  have g4 : inR .i64 ((i : Int) + 1) = true:=inR_of (by omega)
  have h1:=hR (roundN i w) (hw.rounds i) (by rw [roundN_ticks]; omega)
  rw [show roundW (roundN i w) = roundN (i + 1) w from rfl] at h1
  have h2:=hR (roundN i x) (hx.rounds i) (by rw [roundN_ticks]; omega)
  rw [show roundW (roundN i x) = roundN (i + 1) x from rfl] at h2
  have hnx : Next (fun m st => ∃ i : Nat,i ≤ r ∧ m = r - i ∧ st = fa2 n t r w x i) m (fa2 n t r w x (i + 1)):=⟨r - (i + 1),_,by omega,Le.refl _,i + 1,by omega,rfl,rfl⟩
  generalize (fun m st => ∃ i : Nat,i ≤ r ∧ m = r - i ∧ st = fa2 n t r w x i) = J at *
  unfold fa2 at hnx ⊢
  generalize roundN (i + 1) w = y2 at *
  generalize roundN i w = y1 at *
  generalize roundN (i + 1) x = z2 at *
  generalize roundN i x = z1 at *
  simp only [encWd,Int.natCast_add,Int.cast_ofNat_Int] at h1 h2 hnx ⊢
  refine wk @g1 ?_
  refine cd [[aD (encWd y2)],[aD (encWd z2)]] @encWd.eq_1 ?_ ?_
  ·exact obl_cons h1 (obl_cons h2 obl_nil)
  refine wk @g4 ?_
  exact hnx
 have hin : i = r:=by omega
 subst hin
 have g1' : ¬ (i : Int) < (i : Int):=by omega
 generalize (fun m st => ∃ k : Nat,k ≤ i ∧ m = i - k ∧ st = fa2 n t i w x k) = J2 at *
 have hs2:=hsim.rounds i
 have hwl:=roundN_len i w
 have hgw:=hw.rounds i
 unfold fa2
 generalize roundN i w = y at *
 generalize roundN i x = z at *
 obtain ⟨a,ha⟩ : ∃ a,y.lanes[t]? = some a:=⟨_,List.getElem?_eq_getElem (by omega)⟩
 have hb : z.lanes[t]? = some a:=by rw [← hs2.l]; exact ha
 have s1:=sameLn_good (hgw.l a (List.mem_of_getElem? ha))
 have k1:=at_ll ha
 have k2:=at_ll hb
 have k3 : (0 : Int) ≤ (t : Int):=by omega
 have k4 : (t : Int) < (y.lanes.length : Int):=by omega
 have k5 : (t : Int) < (z.lanes.length : Int):=by have:=hs2.n; omega
 have k6 : ((y.lanes.length : Int) == (n : Int)) = true:=by rw [hwl,hwn]; exact beq_self_eq_true _
 have k7 : ((z.lanes.length : Int) == (n : Int)) = true:=by rw [← hs2.n,hwl,hwn]; exact beq_self_eq_true _
 simp only [encWd,encLn] at k1 k2 s1 ⊢
 repeat (first | refine aw_seq ?_ | refine aw_block ?_ | with_reducible refine aw_ret ?_ | with_reducible refine aw_skip ?_ | with_reducible refine aw_exit ?_ | refine thn_normal ?_ | refine thn_out ?_ | refine blk_normal ?_ | refine blk_ret ?_ | refine blk_exit ?_ | ((first | refine aw_regO ?_ | refine aw_condO ?_ | refine fin_retO ?_); (conv => (arg 1; simp (maxSteps:=30000) only [ev0,ev1,ev2,look,lookF,cellsFrom,offT,offP,List.tail_nil,List.length_nil,Int.cast_ofNat_Int,Nat.reduceEqDiff,Nat.reduceAdd,Nat.reduceMul,Nat.reduceLeDiff,Nat.reduceLT,↓reduceIte,reduceCtorEq,Int.reduceBEq,Int.reduceBNe,Int.reduceLT,Int.reduceLE,Int.reduceToNat,g1'])); (first | with_reducible refine on_yes ?_ | with_reducible refine on_no ?_ | with_reducible refine on_reg ?_ | (with_reducible refine on_regD (by decide +kernel) ?_) | with_reducible refine on_fin ?_)))
 refine aw_oneC [[vB true]] ?_; (repeat (refine goC_op ?_; (conv => (arg 1; simp only [ev0,ev1,ev2,look,lookF,cellsFrom,offT,offP,List.tail_nil,List.length_nil,Int.cast_ofNat_Int,Nat.reduceEqDiff,Nat.reduceAdd,Nat.reduceMul,Nat.reduceLeDiff,Nat.reduceLT,↓reduceIte,reduceCtorEq,Int.reduceBEq,Int.reduceBNe,Int.reduceLT,Int.reduceLE,Int.reduceToNat,List.headD_cons,List.headD_nil,List.tail_cons,k1,k2,k3,k4,k5,k6,k7,len_ll,Int.toNat_natCast])); with_reducible refine on_s ?_; (conv => (arg 1; simp only [ev0,ev1,ev2,look,lookF,cellsFrom,offT,offP,List.tail_nil,List.length_nil,Int.cast_ofNat_Int,Nat.reduceEqDiff,Nat.reduceAdd,Nat.reduceMul,Nat.reduceLeDiff,Nat.reduceLT,↓reduceIte,reduceCtorEq,Int.reduceBEq,Int.reduceBNe,Int.reduceLT,Int.reduceLE,Int.reduceToNat])); (conv => (arg 2; simp only [ev0,ev1,ev2,look,lookF,cellsFrom,offT,offP,List.tail_nil,List.length_nil,Int.cast_ofNat_Int,Nat.reduceEqDiff,Nat.reduceAdd,Nat.reduceMul,Nat.reduceLeDiff,Nat.reduceLT,↓reduceIte,reduceCtorEq,Int.reduceBEq,Int.reduceBNe,Int.reduceLT,Int.reduceLE,Int.reduceToNat])); with_reducible refine on_e ?_))
 refine goC_call ?_; (conv => (arg 1; simp only [ev0,ev1,ev2,look,lookF,cellsFrom,offT,offP,List.tail_nil,List.length_nil,Int.cast_ofNat_Int,Nat.reduceEqDiff,Nat.reduceAdd,Nat.reduceMul,Nat.reduceLeDiff,Nat.reduceLT,↓reduceIte,reduceCtorEq,Int.reduceBEq,Int.reduceBNe,Int.reduceLT,Int.reduceLE,Int.reduceToNat,List.headD_cons,List.headD_nil,List.tail_cons])); with_reducible refine on_c ⟨?_,?_⟩
 ·exact obl_cons s1 obl_nil
 (conv => (arg 1; simp only [ev0,ev1,ev2,look,lookF,cellsFrom,offT,offP,List.tail_nil,List.length_nil,Int.cast_ofNat_Int,Nat.reduceEqDiff,Nat.reduceAdd,Nat.reduceMul,Nat.reduceLeDiff,Nat.reduceLT,↓reduceIte,reduceCtorEq,Int.reduceBEq,Int.reduceBNe,Int.reduceLT,Int.reduceLE,Int.reduceToNat])); (conv => (arg 2; simp only [ev0,ev1,ev2,look,lookF,cellsFrom,offT,offP,List.tail_nil,List.length_nil,Int.cast_ofNat_Int,Nat.reduceEqDiff,Nat.reduceAdd,Nat.reduceMul,Nat.reduceLeDiff,Nat.reduceLT,↓reduceIte,reduceCtorEq,Int.reduceBEq,Int.reduceBNe,Int.reduceLT,Int.reduceLE,Int.reduceToNat])); with_reducible refine on_e ?_; (repeat (refine goC_op ?_; (conv => (arg 1; simp only [ev0,ev1,ev2,look,lookF,cellsFrom,offT,offP,List.tail_nil,List.length_nil,Int.cast_ofNat_Int,Nat.reduceEqDiff,Nat.reduceAdd,Nat.reduceMul,Nat.reduceLeDiff,Nat.reduceLT,↓reduceIte,reduceCtorEq,Int.reduceBEq,Int.reduceBNe,Int.reduceLT,Int.reduceLE,Int.reduceToNat,List.headD_cons,List.headD_nil,List.tail_cons])); with_reducible refine on_s ?_; (conv => (arg 1; simp only [ev0,ev1,ev2,look,lookF,cellsFrom,offT,offP,List.tail_nil,List.length_nil,Int.cast_ofNat_Int,Nat.reduceEqDiff,Nat.reduceAdd,Nat.reduceMul,Nat.reduceLeDiff,Nat.reduceLT,↓reduceIte,reduceCtorEq,Int.reduceBEq,Int.reduceBNe,Int.reduceLT,Int.reduceLE,Int.reduceToNat])); (conv => (arg 2; simp only [ev0,ev1,ev2,look,lookF,cellsFrom,offT,offP,List.tail_nil,List.length_nil,Int.cast_ofNat_Int,Nat.reduceEqDiff,Nat.reduceAdd,Nat.reduceMul,Nat.reduceLeDiff,Nat.reduceLT,↓reduceIte,reduceCtorEq,Int.reduceBEq,Int.reduceBNe,Int.reduceLT,Int.reduceLE,Int.reduceToNat])); with_reducible refine on_e ?_)); refine goC_end (by decide +kernel) ?_; (conv => (arg 1; simp only [ev0,ev1,ev2,look,lookF,cellsFrom,offT,offP,List.tail_nil,List.length_nil,Int.cast_ofNat_Int,Nat.reduceEqDiff,Nat.reduceAdd,Nat.reduceMul,Nat.reduceLeDiff,Nat.reduceLT,↓reduceIte,reduceCtorEq,Int.reduceBEq,Int.reduceBNe,Int.reduceLT,Int.reduceLE,Int.reduceToNat])); with_reducible refine on_k ?_
 refine wk0 ?_
 exact ValsLe.refl _
theorem fairAlone_told (hS : CSpoilR 34) (hP : CFPlay 7) (hR : CFRound 11) (hT : CFSettle 13) (n : Int) (l : List Sp) (hl : l.length ≤ 9223372036854775807) (t r : Int) : Told Tryz.prog 6 [vI n,sD 7 (encSl l),vI t,vI r] [vB true]:=by
 by_cases h : n < 1 ∨ 3 < n ∨ t < 0 ∨ n ≤ t ∨ r < 0 ∨ 40 < r ∨ 160 < (l.length : Int)
 ·exact fairAlone_not hP hR hT n l t r h
 ·obtain ⟨q,rfl⟩ : ∃ q : Nat,n = q:=⟨n.toNat,by omega⟩
  obtain ⟨u,rfl⟩ : ∃ u : Nat,t = u:=⟨t.toNat,by omega⟩
  obtain ⟨v,rfl⟩ : ∃ v : Nat,r = v:=⟨r.toNat,by omega⟩
  exact fairAlone_good hS hP hR hT q (by omega) l (by omega) u (by omega) v (by omega)
end Go.Proofs.YtgaofjiidedcbacGreat.ab
namespace Go.Proofs.YtgaofjiidedcbacGreat.fairAlone
open Go Go.ChangeShapes Go.WideShapes Go.ChangeAt Go.RowKit
open ab mth
set_option maxRecDepth 100000 in
theorem lifted (hS : CSpoilR 34) (hP : CFPlay 7) (hR : CFRound 11) (hT : CFSettle 13) (os : Os) (started : os.Started) (H : Type) (enc : TypeId × Value → H) :
  ReturnsInHanded {} Tryz.checked os 6 .any (Rows.fairAloneSpec.pre6 enc Tryz.prog Tryz.f6 Rows.fairAloneRow.domain false) (Rows.fairAloneSpec.post enc Tryz.prog Tryz.f6 false true false false):=by
 refine returnsInHanded_of_change_sized (C:=Tryz.checked) own started (by kernel_rfl) Tryz.func6
  (ChangeSpec.witness6 (enc:=enc) (C:=Tryz.checked) false ⟨#[],#[.int .i64 0,.slice none 0 0,.int .i64 0,.int .i64 0],[]⟩ 8 (by kernel_rfl) (by kernel_rfl) (by kernel_rfl) (by kernel_rfl)) ?_
 intro W base args ds gs before hval0 hW0 hcnd hsz0 _
 have hval : ∀ (j : Nat) t v,Tryz.f6.params[j]? = some t → args[j]? = some v → Value.okWide Tryz.prog W .any base t v:=hval0
 have hW':=hW0
 obtain ⟨p,q,hA0,hV,rfl,hfz,hnd⟩:=hW0
 have hA : DataW.TrodAll enc Tryz.prog W 0 (fun _ => true) true Tryz.f6.params.toList args.toList ds p:=hA0
 rw [Tryz.params6] at hA hval
 obtain ⟨v0,vs0,d0,ds0,p0,q0,hargs,rfl,rfl,h0,r0⟩:=trodAll_cons hA
 obtain ⟨v1,vs1,d1,ds1,p1,q1,rfl,rfl,rfl,h1,r1⟩:=trodAll_cons r0
 obtain ⟨v2,vs2,d2,ds2,p2,q2,rfl,rfl,rfl,h2,r2⟩:=trodAll_cons r1
 obtain ⟨v3,vs3,d3,ds3,p3,q3,rfl,rfl,rfl,h3,r3⟩:=trodAll_cons r2
 obtain ⟨rfl,rfl,rfl⟩:=trodAll_nil r3
 obtain rfl : args = #[v0,v1,v2,v3]:=by cases args; simp_all
 obtain ⟨rfl,rfl⟩:=trodVars_none hV
 have lt0 : ∀ x ∈ p0,x.block < W.heap.size:=by obtain ⟨m,hm⟩:=h0; exact DataW.trod_lt m _ _ _ hm
 have lt1 : ∀ x ∈ p1,x.block < W.heap.size:=by obtain ⟨m,hm⟩:=h1; exact DataW.trod_lt m _ _ _ hm
 have lt2 : ∀ x ∈ p2,x.block < W.heap.size:=by obtain ⟨m,hm⟩:=h2; exact DataW.trod_lt m _ _ _ hm
 have lt3 : ∀ x ∈ p3,x.block < W.heap.size:=by obtain ⟨m,hm⟩:=h3; exact DataW.trod_lt m _ _ _ hm
 obtain ⟨n0,rfl⟩:=okWide_int Tryz.underlying3 (hval 0 3 v0 rfl rfl)
 obtain ⟨a1,len1,cap1,rfl⟩:=okWide_slice Tryz.underlying22 (hval 1 22 v1 rfl rfl)
 obtain ⟨x1,hM1,hu1,_⟩:=(by obtain ⟨fuel,hf⟩:=h1; exact in_steps hf : ∃ cs : List Sp,CRep (AllOf W) W (sD 7 (encSl cs)) (.slice a1 len1 cap1) ∧ cs.length ≤ Rows.uptoBulk d1 ∧ ∀ c ∈ cs,True)
 have hl1:=hM1.len
 rw [len_sl] at hl1
 obtain ⟨n2,rfl⟩:=okWide_int Tryz.underlying3 (hval 2 3 v2 rfl rfl)
 obtain ⟨n3,rfl⟩:=okWide_int Tryz.underlying3 (hval 3 3 v3 rfl rfl)
 clear hA0 hval0
 refine ((fairAlone_told hS hP hR hT n0 x1 hl1 n2 n3).yes (W:=W) (vs:=[.int .i64 n0,.slice a1 len1 cap1,.int .i64 n2,.int .i64 n3]) (Vals.cons (.inl (CRep.v rfl)) (Vals.cons (.inl hM1) (Vals.cons (.inl (CRep.v rfl)) (Vals.cons (.inl (CRep.v rfl)) Vals.nil))))).mono fun e W' ⟨he,bel⟩ => ?_
 subst he
 exact ⟨_,rfl,_,_,_,[],_,[],hW',trodAll_mk1 (shut_bool Tryz.underlying4 _),(trodAll_cons_mk (Below.trod laidOut (by kernel_rfl) (of_decide_eq_true (by kernel_rfl)) h0 bel lt0) (trodAll_cons_mk (Below.trod laidOut (by kernel_rfl) (of_decide_eq_true (by kernel_rfl)) h1 bel lt1) (trodAll_cons_mk (Below.trod laidOut (by kernel_rfl) (of_decide_eq_true (by kernel_rfl)) h2 bel lt2) (trodAll_cons_mk (Below.trod laidOut (by kernel_rfl) (of_decide_eq_true (by kernel_rfl)) h3 bel lt3) trodAll_mk0)))),rfl,bel.frame _,fun h => by cases h⟩
theorem over (hS : CSpoilR 34) (hP : CFPlay 7) (hR : CFRound 11) (hT : CFSettle 13) : Rows.fairAloneRow.holds Tryz.pinned (OpenSpec.ofChange Rows.fairAloneSpec) :=
 OpenClaim.holds_of_wide 6 Tryz.f6 rfl rfl rfl rfl rfl rfl rfl ⟨rfl,rfl,rfl,rfl,rfl⟩ rfl rfl rfl rfl rfl (by kernel_rfl) Tryz.func6 (by kernel_rfl)
  (of_decide_eq_true (by kernel_rfl)) (by unfold Func.isWrapper; first | (rw [if_pos (by decide +kernel)]; kernel_rfl) | (rw [if_neg (by decide +kernel)]; exact ⟨rfl,rfl⟩))
  (fun os started H enc _ => lifted hS hP hR hT os started H enc)
end Go.Proofs.YtgaofjiidedcbacGreat.fairAlone
namespace Go.Proofs.YtgaofjiidedcbacGreat.ab
set_option maxRecDepth 100000
open Go Go.RowKit
def Q13r0 : IC:=cReg Tryz.prog [⟨some 4,none,iAlo 4 [zS,zI]⟩,⟨some 5,none,iMov 5 (.const (.slice none 0 0)) true⟩,⟨some 6,none,iMov 6 (.const (.int .i64 0)) true⟩] [0,1,4] [4]
def Q13r1 : IC:=cReg Tryz.prog [xM 13 0,xV1 14 19 13,xM 12 14,xE 15 12 0,xE 16 12 1,⟨some 7,none,iAlo 7 [zS,zI]⟩,xS 2 7 15,xT 8 16] [1,4,7,8] [4,7]
def Q13r2 : IC:=cReg Tryz.prog [xM 17 8,xC 18 .neq 17 0] [1,4,7,8,18] [4,7]
def Q13r3 : IC:=cReg Tryz.prog [⟨some 19,none,iBld 19 [zS,zI] [] []⟩,xM 20 8,xS 2 4 19,⟨some 5,none,iMov 5 (.const (.slice none 0 0)) true⟩,xT 6 20] [4,5,6] [4]
def Q13c1a : IC:=(cSeq Q13r3 cRet)
def Q13c1 : IC:=cCond (.tmp 18) Q13c1a cSkip
def Q13r4 : IC:=cReg Tryz.prog [xM 21 1,xN 22 21,xC 23 .gtr 22 160] [1,4,7,23] [4,7]
def Q13r5 : IC:=cReg Tryz.prog [⟨some 24,none,iBld 24 [zS,zI] [] []⟩,xS 2 4 24,⟨some 5,none,iMov 5 (.const (.slice none 0 0)) true⟩,⟨some 6,none,iMov 6 (.const (.int .i64 5)) true⟩] [4,5,6] [4]
def Q13c2a : IC:=(cSeq Q13r5 cRet)
def Q13c2 : IC:=cCond (.tmp 23) Q13c2a cSkip
def Q13r6 : IC:=cReg Tryz.prog [xM 25 1,xN 26 25,⟨some 27,none,iMkS 27 1 8 (zI) (.tmp 26) (.tmp 26)⟩,xT 9 27] [1,4,7,9] [4,7,100027]
def Q13r7 : IC:=cReg Tryz.prog [xM 28 1,xN 29 28,⟨some 30,none,iMov 30 (.const (.int .i64 0)) false⟩] [4,7,9,28,29,30] [4,7,100027]
def Q13r8 : IC:=cReg Tryz.prog [xB 31 .lss 30 29] [4,7,9,28,29,30,31] [4,7,100027]
def Q13c5 : IC:=cCond (.tmp 31) cSkip (cExit 0)
def Q13r9 : IC:=cReg Tryz.prog [xM 32 30,xI 33 7 28 30,xA 34 7 33,⟨some 11,none,iAlo 11 [zI,zI,zI,zI,zF,zI,zS]⟩,xT 10 32,xS 7 11 34] [4,7,9,10,11,28,29,30] [4,7,11,100027]
def Q13r10 : IC:=cReg Tryz.prog [xM 36 9,xM 37 10,xA 38 2 7,xA 39 7 11,xV2 40 20 38 39,xM 35 40,xE 41 35 0,xE 42 35 1,xS 2 7 41,xI 43 1 36 37,xS 1 43 42] [4,7,9,28,29,30] [4,7,100027]
def Q13b6 : IC:=cBlock 1 (cSeq Q13r9 Q13r10)
def Q13r11 : IC:=cReg Tryz.prog [xC 44 .add 30 1,xM 30 44] [4,7,9,28,29,30] [4,7,100027]
def Q13l4a : IC:=(cSeq Q13r8 (cSeq Q13c5 (cSeq Q13b6 Q13r11)))
def Q13l4 : IC:=cLoop Q13l4a
def Q13b3 : IC:=cBlock 0 Q13l4
def Q13r12 : IC:=cReg Tryz.prog [xA 45 2 7,xM 46 9,xS 2 4 45,xT 5 46,⟨some 6,none,iMov 6 (.const (.int .i64 0)) true⟩] [4,5,6] [4]
def fair_Play : IC:=(cSeq Q13r0 (cSeq Q13r1 (cSeq (cSeq Q13r2 Q13c1) (cSeq (cSeq Q13r4 Q13c2) (cSeq Q13r6 (cSeq (cSeq Q13r7 Q13b3) (cSeq Q13r12 cRet)))))))
theorem told_fair_Play {args r : List D} (hl : args.length = 2) (h : fair_Play (start args) (fin [(4,some (2,true)),(5,none),(6,none)] r)) : Told Tryz.prog 7 args r :=
 told_of follows Tryz.func7 rfl (an:=[([],[0,1,4],[4],[]),([],[1,4,7,8],[4,7],[]),([],[1,4,7,8,18],[4,7],[]),([],[4,5,6],[4],[]),([],[1,4,7,23],[4,7],[]),([],[4,5,6],[4],[]),([],[1,4,7,9],[4,7,100027],[]),([],[4,7,9,28,29,30],[4,7,100027],[]),([],[4,7,9,28,29,30,31],[4,7,100027],[]),([],[4,7,9,10,11,28,29,30],[4,7,11,100027],[]),([],[4,7,9,28,29,30],[4,7,100027],[]),([],[4,7,9,28,29,30],[4,7,100027],[]),([],[4,5,6],[4],[])]) (by kernel_rfl) (by kernel_rfl) (by rw [hl]; decide +kernel) h
def Q16r0 : IC:=cReg Tryz.prog [xX 2 0,⟨some 4,none,iAlo 4 [zS,zI,zI,zI,zI,zS,zI,zI,zS,zI,zI,zI,zS,zS,zF,zS,zS]⟩] [1,2,4] [2,4]
def Q16r1 : IC:=cReg Tryz.prog [xA 8 17 2,xM 9 1,⟨some 10,none,iCall 10 37 [(.tmp 8),(.const (.int .i64 0)),(.tmp 9)]⟩,xM 7 10,xE 11 7 0,xE 12 7 1,⟨some 5,none,iAlo 5 [zS,zI,zI,zI,zI,zS,zI,zI,zS,zI,zI,zI,zS,zS,zF,zS,zS]⟩,xS 17 5 11,xT 6 12] [1,2,4,5,6] [2,4,5]
def Q16r2 : IC:=cReg Tryz.prog [xM 13 6,xC 14 .neq 13 0] [1,2,4,5,14] [2,4,5]
def Q16r3 : IC:=cReg Tryz.prog [xA 15 17 2,xS 17 4 15] [4] [4]
def Q16c4a : IC:=(cSeq Q16r3 cRet)
def Q16c4 : IC:=cCond (.tmp 14) Q16c4a cSkip
def Q16r4 : IC:=cReg Tryz.prog [xA 16 17 5,xS 17 2 16] [1,2,4] [2,4]
def Q16b3 : IC:=cBlock 1 (cSeq Q16r1 (cSeq (cSeq Q16r2 Q16c4) Q16r4))
def Q16l2a : IC:=Q16b3
def Q16l2 : IC:=cLoop Q16l2a
def Q16b1 : IC:=cBlock 0 Q16l2
def fair_allCome : IC:=(cSeq Q16r0 Q16b1)
theorem told_fair_allCome {args r : List D} (hl : args.length = 2) (h : fair_allCome (start args) (fin [(4,some (17,true))] r)) : Told Tryz.prog 23 args r :=
 told_of follows Tryz.func23 rfl (an:=[([],[1,2,4],[2,4],[]),([],[1,2,4,5,6],[2,4,5],[]),([],[1,2,4,5,14],[2,4,5],[]),([],[4],[4],[]),([],[1,2,4],[2,4],[])]) (by kernel_rfl) (by kernel_rfl) (by rw [hl]; decide +kernel) h
def Q15r0 : IC:=cReg Tryz.prog [xX 1 0,⟨some 2,none,iAlo 2 [zS,zI]⟩,⟨some 3,none,iMov 3 (.const (.int .i64 0)) true⟩] [1,2] [1,2]
def Q15r1 : IC:=cReg Tryz.prog [xA 5 2 1,xV1 6 22 5,xS 2 1 6] [1,2] [1,2]
def Q15r2 : IC:=cReg Tryz.prog [⟨some 4,none,iMov 4 (.const (.int .i64 0)) true⟩] [1,2,4] [1,2]
def Q15r3 : IC:=cReg Tryz.prog [xM 7 4,xC 8 .lss 7 200,xM 9 8,xG 9 true (xA 10 2 1),xG 9 true (xV1 11 24 10),xG 9 true (xO 12 11),xQ 13 9 12] [1,2,4,13] [1,2]
def Q15c3 : IC:=cCond (.tmp 13) cSkip (cExit 0)
def Q15r4 : IC:=cReg Tryz.prog [xA 14 2 1,xV1 15 11 14,xS 2 1 15] [1,2,4] [1,2]
def Q15r5 : IC:=cReg Tryz.prog [xM 16 4,xC 17 .add 16 1,xT 4 17] [1,2,4] [1,2]
def Q15b4 : IC:=cBlock 1 (cSeq Q15r4 Q15r5)
def Q15l2a : IC:=(cSeq (cSeq Q15r3 Q15c3) Q15b4)
def Q15l2 : IC:=cLoop Q15l2a
def Q15b1 : IC:=cBlock 0 Q15l2
def Q15r6 : IC:=cReg Tryz.prog [xA 18 2 1,xM 19 4,xS 2 2 18,xT 3 19] [2,3] [2]
def fair_Settle : IC:=(cSeq Q15r0 (cSeq Q15r1 (cSeq Q15r2 (cSeq Q15b1 (cSeq Q15r6 cRet)))))
theorem told_fair_Settle {args r : List D} (hl : args.length = 1) (h : fair_Settle (start args) (fin [(2,some (2,true)),(3,none)] r)) : Told Tryz.prog 13 args r :=
 told_of follows Tryz.func13 rfl (an:=[([],[1,2],[1,2],[]),([],[1,2],[1,2],[]),([],[1,2,4],[1,2],[]),([],[1,2,4,13],[1,2],[]),([],[1,2,4],[1,2],[]),([],[1,2,4],[1,2],[]),([],[2,3],[2],[])]) (by kernel_rfl) (by kernel_rfl) (by rw [hl]; decide +kernel) h
end Go.Proofs.YtgaofjiidedcbacGreat.ab
