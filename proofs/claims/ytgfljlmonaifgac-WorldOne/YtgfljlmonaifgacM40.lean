import Derived.Test.YtgfljlmonaifgacM38
import Derived.Test.YtgfljlmonaifgacIrLaw9
import Derived.Test.YtgfljlmonaifgacM20
import Derived.Test.YtgfljlmonaifgacM35
import Derived.ChangeOld
import Derived.SizedLaws
import Derived.Test.YtgfljlmonaifgacAbsHandX
set_option maxHeartbeats 16000000
set_option linter.unusedVariables false
set_option linter.unusedSimpArgs false
namespace Go.Proofs.Ytgfljlmonaifgac.ab
open Go Go.RowKit
open mth
def asP : Sp:=⟨2,1,0,0,false,⟨0,[97]⟩⟩
def asT : Sp:=⟨1,0,0,0,false,⟨0,[]⟩⟩
def asC : Sp:=⟨3,1,0,0,false,⟨0,[]⟩⟩
def aw1 : Wd:=(doW (newW 2) asP).1
def aw2 : Wd:=(doW aw1 asT).1
def aw3 : Wd:=(doW aw2 asT).1
def aw4 : Wd:=(doW aw3 asC).1
theorem aw_errs : (doW (newW 2) asP).2 = 0 ∧ (doW aw1 asT).2 = 0 ∧ (doW aw2 asT).2 = 0 ∧ (doW aw3 asC).2 = 0:=⟨rfl,rfl,rfl,by decide +kernel⟩
theorem aw_ticks : aw1.ticks = 0 ∧ aw2.ticks = 1 ∧ aw3.ticks = 2:=⟨rfl,rfl,rfl⟩
theorem aw3_there : ∃ l,aw3.lanes[1]? = some l ∧ l.there.length = 1:=⟨_,rfl,rfl⟩
theorem aw4_told : ∃ l,aw4.lanes[1]? = some l ∧ l.r.told.length = 1:=⟨aw4.lanes.getD 1 zeroL,rfl,by decide +kernel⟩
theorem encB_97 : encB 97 = vD (.int .u8 97):=rfl
theorem alive9_told (hO : CWOwn 11) (hN : CWNew 10) (hD : CWDo 7) : Told Try.prog 5 [] [vB true]:=by
 refine told_w9_alive rfl ?_
 have g0 : GoodW (newW 2):=good_new (by decide)
 have g1 : GoodW aw1:=g0.step _
 have g2 : GoodW aw2:=g1.step _
 have g3 : GoodW aw3:=g2.step _
 obtain ⟨e1,e2,e3,e4⟩:=aw_errs
 obtain ⟨t1,t2,t3⟩:=aw_ticks
 have h0:=hN.1 2 (by decide) (by decide)
 have h1:=hD (newW 2) asP g0 (by decide)
 have h2:=hD aw1 asT g1 (by omega)
 have h3:=hD aw2 asT g2 (by omega)
 have h4:=hD aw3 asC g3 (by omega)
 have h5:=hN.2 0 (by decide)
 have h6:=hO aw3 g3
 rw [e1,show (doW (newW 2) asP).1 = aw1 from rfl] at h1
 rw [e2,show (doW aw1 asT).1 = aw2 from rfl] at h2
 rw [e3,show (doW aw2 asT).1 = aw3 from rfl] at h3
 rw [e4,show (doW aw3 asC).1 = aw4 from rfl] at h4
 obtain ⟨l3,q3,p3⟩:=aw3_there
 obtain ⟨l4,q4,p4⟩:=aw4_told
 have r3:=at_ll q3
 have r4:=at_ll q4
 have n3 : aw3.lanes.length = 2:=rfl
 have n4 : aw4.lanes.length = 2:=rfl
 have k2 : ((aw3.lanes.length : Nat) : Int) = 2:=by rw [n3]; rfl
 have k4 : ((aw4.lanes.length : Nat) : Int) = 2:=by rw [n4]; rfl
 have z3 : ((l3.there.length : Nat) : Int) = 1:=by rw [p3]; rfl
 have z4 : ((l4.r.told.length : Nat) : Int) = 1:=by rw [p4]; rfl
 have cn : ((2 : Nat) : Int) = 2:=rfl
 rw [cn] at h0
 generalize newW 2 = w0 at *
 generalize aw1 = w1 at *
 generalize aw2 = w2 at *
 generalize aw3 = w3 at *
 generalize aw4 = w4 at *
 rw [show encWd ⟨[],0⟩ = [sD 17 [],vI 0] from rfl] at h5
 simp only [encWd,encSp,encLn,asP,asT,asC,encB_97,List.map_cons,List.map_nil] at h0 h1 h2 h3 h4 h6 r3 r4
 refine wk0 ?_
 refine cg [[aD (encWd w0),vI 0]] @encWd.eq_1 ?_ ?_
 ·exact obl_cons h0 obl_nil
 refine wk0 ?_
 refine cg [[aD (encWd w1),vI 0]] @encWd.eq_1 ?_ ?_
 ·refine ⟨⟨_,?_,h1⟩,trivial⟩
  repeat' (first | exact vals_nil | exact row_nil | exact es_nil | exact CVLe.refl _ | exact LfLe.refl _ | exact LfLe.nil _ | exact EsLe.refl _ | refine vals_cons ?_ ?_ | refine row_cons ?_ ?_ | refine es_cons ?_ ?_ | refine EsLe.app ?_ ?_ | refine CVLe.row ?_ | refine CVLe.leafV ?_ | refine CVLe.leafS ?_ | refine LfLe.s ?_)
 refine wk0 ?_
 refine cg [[aD (encWd w2),vI 0]] @encWd.eq_1 ?_ ?_
 ·refine ⟨⟨_,?_,h2⟩,trivial⟩
  repeat' (first | exact vals_nil | exact row_nil | exact es_nil | exact CVLe.refl _ | exact LfLe.refl _ | exact LfLe.nil _ | exact EsLe.refl _ | refine vals_cons ?_ ?_ | refine row_cons ?_ ?_ | refine es_cons ?_ ?_ | refine EsLe.app ?_ ?_ | refine CVLe.row ?_ | refine CVLe.leafV ?_ | refine CVLe.leafS ?_ | refine LfLe.s ?_)
 refine wk0 ?_
 refine cg [[aD (encWd w3),vI 0]] @encWd.eq_1 ?_ ?_
 ·refine ⟨⟨_,?_,h3⟩,trivial⟩
  repeat' (first | exact vals_nil | exact row_nil | exact es_nil | exact CVLe.refl _ | exact LfLe.refl _ | exact LfLe.nil _ | exact EsLe.refl _ | refine vals_cons ?_ ?_ | refine row_cons ?_ ?_ | refine es_cons ?_ ?_ | refine EsLe.app ?_ ?_ | refine CVLe.row ?_ | refine CVLe.leafV ?_ | refine CVLe.leafS ?_ | refine LfLe.s ?_)
 refine wk0 ?_
 refine cg [[aD (encWd w4),vI 0]] @encWd.eq_1 ?_ ?_
 ·refine ⟨⟨_,?_,h4⟩,trivial⟩
  repeat' (first | exact vals_nil | exact row_nil | exact es_nil | exact CVLe.refl _ | exact LfLe.refl _ | exact LfLe.nil _ | exact EsLe.refl _ | refine vals_cons ?_ ?_ | refine row_cons ?_ ?_ | refine es_cons ?_ ?_ | refine EsLe.app ?_ ?_ | refine CVLe.row ?_ | refine CVLe.leafV ?_ | refine CVLe.leafS ?_ | refine LfLe.s ?_)
 refine wk0 ?_
 refine cg0 [[aD [sD 17 [],vI 0],vI 3]] ?_ ?_
 ·exact obl_cons h5 obl_nil
 refine wk (an11 @t3 @k2 @k4 @r3 @r4 @z3 @z4 @len_ll @len_pk @len_ml @Int.toNat_one) ?_
 rw [t3] at h6
 refine cg [[aD [sD 17 (encLl w3.lanes),vI 2]]] (an11 @t3 @k2 @k4 @r3 @r4 @z3 @z4 @len_ll @len_pk @len_ml @Int.toNat_one) ?_ ?_
 ·exact obl_cons h6 obl_nil
 refine wk (an2 @k2 @len_ll) ?_
 exact ValsLe.refl _
theorem worldOne_not (hO : CWOwn 11) (hN : CWNew 10) (hD : CWDo 7) (n : Int) (l : List Sp) (s : Sp) (h : n < 1 ∨ 3 < n) : Told Try.prog 4 [vI n,sD 7 (encSl l),aD (encSp s)] [vB true]:=by
 refine told_w9_WorldOne rfl ?_
 have hA:=alive9_told hO hN hD
 simp only [encSp]
 refine wk0 ?_
 refine cg [[vB true]] Bool.not_true ?_ ?_
 ·exact obl_cons hA obl_nil
 by_cases n1 : n < 1
 ·refine wk @n1 ?_
  exact ValsLe.refl _
 have n2 : 3 < n:=by omega
 refine wk (an2 @n1 @n2) ?_
 exact ValsLe.refl _
theorem worldOne_err (hS : CSpoilR 23) (hO : CWOwn 11) (hN : CWNew 10) (hD : CWDo 7) (n : Nat) (hn : 1 ≤ n ∧ n ≤ 3) (l : List Sp) (hl : l.length ≤ 9223372036854775807) (s : Sp) (he : (doW (runW (newW n) (l.take 160)).1 s).2 ≠ 0) :
  Told Try.prog 4 [vI n,sD 7 (encSl l),aD (encSp s)] [vB true]:=by
 refine told_w9_WorldOne rfl ?_
 have hA:=alive9_told hO hN hD
 have h4:=play_told hS n hn l hl
 obtain ⟨hw,hk,_⟩:=good_run (good_new hn) l 160
 have ht0 : (newW n).ticks = 0:=rfl
 generalize newW n = w0 at *
 generalize (runW w0 (l.take 160)).2 = es at *
 generalize (runW w0 (l.take 160)).1 = w at *
 have h5:=hD w s hw (by omega)
 have h9:=sameW_good hw
 rw [do_err hw he] at h5
 generalize (doW w s).2 = e at *
 have f1 : (e != 0) = true:=by simpa using he
 have n1 : ¬ (n : Int) < 1:=by omega
 have n2 : ¬ 3 < (n : Int):=by omega
 simp only [encWd,encSp] at h4 h5 h9 ⊢
 refine wk0 ?_
 refine cg [[vB true]] Bool.not_true ?_ ?_
 ·exact obl_cons hA obl_nil
 refine wk (an2 @n1 @n2) ?_
 refine cg [[aD (encWd w),sD 1 (es.map vI)]] @encWd.eq_1 ?_ ?_
 ·exact obl_cons h4 obl_nil
 refine wk0 ?_
 refine cg [[aD (encWd w),vI e]] @encWd.eq_1 ?_ ?_
 ·exact obl_cons h5 obl_nil
 refine wk @f1 ?_
 refine cg [[vB true]] @f1 ?_ ?_
 ·exact obl_cons h9 obl_nil
 refine wk0 ?_
 exact ValsLe.refl _
def oneSt (w x : Wd) (s : Sp) (j k : Nat) : St:=⟨[(5,pD 5 0),(7,pD 7 0),(9,pD 9 0),(11,vI j),(49,vI w.lanes.length),(50,vI k)],[(5,encSp s),(7,encWd w),(9,encWd x)],[]⟩
def oneJ (w x : Wd) (s : Sp) (j : Nat) : Nat → St → Prop:=fun m st => ∃ k : Nat,k ≤ w.lanes.length ∧ m = w.lanes.length - k ∧ st = oneSt w x s j k
theorem worldOne_ok (hS : CSpoilR 23) (hO : CWOwn 11) (hN : CWNew 10) (hD : CWDo 7) (n : Nat) (hn : 1 ≤ n ∧ n ≤ 3) (l : List Sp) (hl : l.length ≤ 9223372036854775807) (s : Sp) (he : (doW (runW (newW n) (l.take 160)).1 s).2 = 0) :
  Told Try.prog 4 [vI n,sD 7 (encSl l),aD (encSp s)] [vB true]:=by
 refine told_w9_WorldOne rfl ?_
 have hA:=alive9_told hO hN hD
 have h4:=play_told hS n hn l hl
 obtain ⟨hw,hk,_⟩:=good_run (good_new hn) l 160
 have ht0 : (newW n).ticks = 0:=rfl
 have hlen:=run_len (newW n) (l.take 160)
 rw [show (newW n).lanes.length = n by simp [newW]] at hlen
 generalize newW n = w0 at *
 generalize (runW w0 (l.take 160)).2 = es at *
 generalize (runW w0 (l.take 160)).1 = w at *
 have h5:=hD w s hw (by omega)
 have htk:=do_tickT w s he
 obtain ⟨j,hj⟩ : ∃ j : Nat,whoW w s = j:=⟨(whoW w s).toNat,by have:=(who_range hw he).1; omega⟩
 have hjr:=(who_range hw he).2
 have hoth : ∀ i : Nat,i ≠ j → (doW w s).1.lanes[i]? = w.lanes[i]?:=fun i hi => do_other (by rw [hj]; omega)
 have hln:=do_len w s
 rw [he] at h5
 generalize (doW w s).1 = x at *
 have n1 : ¬ (n : Int) < 1:=by omega
 have n2 : ¬ 3 < (n : Int):=by omega
 have n3 : ((n : Int) == 0) = false:=by rw [beq_eq_false_iff_ne]; omega
 have n4 : ¬ (n : Int) = 0:=by omega
 have n5 : inR .i64 (j : Int) = true:=inR_of (by have:=hw.n; omega)
 have n6 : inR .i64 (w.ticks + 1) = true:=inR_of (by have:=hw.t; omega)
 have hb : ∃ b : Bool,(s.kind == 1) = b ∧ (x.ticks == w.ticks + 1) = b ∧ (x.ticks == w.ticks) = !b ∧ (s.kind != 1) = !b ∧ (b = true → w.ticks.tmod n = j) ∧ (b = false → s.tenant = j):=by
  by_cases h1 : s.kind = 1
  ·rw [if_pos h1] at htk
   refine ⟨true,by simpa using h1,by simpa using htk,?_,by simpa using h1,fun _ => ?_,fun q => by cases q⟩
   ·rw [htk]; show (w.ticks + 1 == w.ticks) = false
    rw [beq_eq_false_iff_ne]; omega
   ·unfold whoW at hj; rw [if_pos h1,hlen] at hj; exact hj
  ·rw [if_neg h1] at htk
   refine ⟨false,by simpa using h1,?_,by simpa using htk,by simpa using h1,fun q => (by cases q),fun _ => ?_⟩
   ·rw [htk,beq_eq_false_iff_ne]; omega
   ·unfold whoW at hj; rw [if_neg h1] at hj; exact hj
 obtain ⟨b,f1,f2,f3,f4,f5,f6⟩:=hb
 have hstep : ∀ (k m : Nat),k < w.lanes.length → m = w.lanes.length - k → Next (oneJ w x s j) m (oneSt w x s j (k + 1)):=fun k m h1 h2 => ⟨w.lanes.length - (k + 1),_,by omega,Le.refl _,k + 1,by omega,rfl,rfl⟩
 have hgl:=hw.l
 have hn3:=hw.n.2
 clear htk he hw hk ht0 hD hS hN hO
 obtain ⟨sk,st',sn,sm,sb,sg⟩:=s
 simp only at f1 f4 f6
 simp only [encWd,encSp] at h4 h5 ⊢
 refine wk0 ?_
 refine cg [[vB true]] Bool.not_true ?_ ?_
 ·exact obl_cons hA obl_nil
 refine wk (an2 @n1 @n2) ?_
 refine cg [[aD (encWd w),sD 1 (es.map vI)]] @encWd.eq_1 ?_ ?_
 ·exact obl_cons h4 obl_nil
 refine wk0 ?_
 refine cg [[aD (encWd x),vI 0]] @encWd.eq_1 ?_ ?_
 ·exact obl_cons h5 obl_nil
 cases b with
 | true =>
  have g5:=f5 rfl
  simp only [Bool.not_true] at f3 f4
  refine wk (an6 @f1 @g5 @n3 @n4 @n5 @len_ll) ?_
  refine aw_loop (oneJ w x ⟨sk,st',sn,sm,sb,sg⟩ j) w.lanes.length (oneSt w x ⟨sk,st',sn,sm,sb,sg⟩ j 0) (Le.refl _) ⟨0,by omega,by omega,rfl⟩ ?_
  rintro m st ⟨k,hk,hm,rfl⟩
  by_cases hlt : k < w.lanes.length
  ·obtain ⟨y,hy⟩ : ∃ y,w.lanes[k]? = some y:=⟨w.lanes[k],List.getElem?_eq_getElem hlt⟩
   have g1 : (k : Int) < (w.lanes.length : Int):=by omega
   have g2 : (0 : Int) ≤ (k : Int):=by omega
   have g3:=at_ll hy
   have g4 : inR .i64 ((k : Int) + 1) = true:=inR_of (by omega)
   have g6 : (k : Int) < (x.lanes.length : Int):=by omega
   have hnx:=hstep k m hlt hm
   by_cases hkj : k = j
   ·have q : ((k : Int) != (j : Int)) = false:=by rw [hkj]; exact bne_self_eq_false _
    generalize oneJ w x ⟨sk,st',sn,sm,sb,sg⟩ j = J at *
    simp only [oneSt,encWd,encSp,Int.natCast_add,Int.cast_ofNat_Int] at hnx ⊢
    refine wk (an3 @g1 @q @g4) ?_
    exact hnx
   ·have q : ((k : Int) != (j : Int)) = true:=by rw [bne_iff_ne]; omega
    have hxk:=hoth k hkj
    rw [hy] at hxk
    have g7:=at_ll hxk
    have s1:=sameLn_good (hgl y (List.mem_of_getElem? hy))
    generalize oneJ w x ⟨sk,st',sn,sm,sb,sg⟩ j = J at *
    simp only [oneSt,encWd,encSp,encLn,Int.natCast_add,Int.cast_ofNat_Int] at g3 g7 s1 hnx ⊢
    refine wk @g1 ?_
    refine cd [[vB true]] (an9 @q @g1 @g2 @g3 @g6 @g7 @len_ll @Int.toNat_natCast Bool.not_true) ?_ ?_
    ·exact obl_cons s1 obl_nil
    refine wk @g4 ?_
    exact hnx
  ·have hkn : k = w.lanes.length:=by omega
   have g1 : ¬ (k : Int) < (w.lanes.length : Int):=by omega
   generalize oneJ w x ⟨sk,st',sn,sm,sb,sg⟩ j = J at *
   simp only [oneSt,encWd,encSp] at ⊢
   refine wk (an6 @g1 @n6 @f1 @f2 @f3 @f4) ?_
   exact ValsLe.refl _
 | false =>
  have g5:=f6 rfl
  subst g5
  simp only [Bool.not_false] at f3 f4
  refine wk (an2 @f1 @len_ll) ?_
  refine aw_loop (oneJ w x ⟨sk,(j : Int),sn,sm,sb,sg⟩ j) w.lanes.length (oneSt w x ⟨sk,(j : Int),sn,sm,sb,sg⟩ j 0) (Le.refl _) ⟨0,by omega,by omega,rfl⟩ ?_
  rintro m st ⟨k,hk,hm,rfl⟩
  by_cases hlt : k < w.lanes.length
  ·obtain ⟨y,hy⟩ : ∃ y,w.lanes[k]? = some y:=⟨w.lanes[k],List.getElem?_eq_getElem hlt⟩
   have g1 : (k : Int) < (w.lanes.length : Int):=by omega
   have g2 : (0 : Int) ≤ (k : Int):=by omega
   have g3:=at_ll hy
   have g4 : inR .i64 ((k : Int) + 1) = true:=inR_of (by omega)
   have g6 : (k : Int) < (x.lanes.length : Int):=by omega
   have hnx:=hstep k m hlt hm
   by_cases hkj : k = j
   ·have q : ((k : Int) != (j : Int)) = false:=by rw [hkj]; exact bne_self_eq_false _
    generalize oneJ w x ⟨sk,(j : Int),sn,sm,sb,sg⟩ j = J at *
    simp only [oneSt,encWd,encSp,Int.natCast_add,Int.cast_ofNat_Int] at hnx ⊢
    refine wk (an3 @g1 @q @g4) ?_
    exact hnx
   ·have q : ((k : Int) != (j : Int)) = true:=by rw [bne_iff_ne]; omega
    have hxk:=hoth k hkj
    rw [hy] at hxk
    have g7:=at_ll hxk
    have s1:=sameLn_good (hgl y (List.mem_of_getElem? hy))
    generalize oneJ w x ⟨sk,(j : Int),sn,sm,sb,sg⟩ j = J at *
    simp only [oneSt,encWd,encSp,encLn,Int.natCast_add,Int.cast_ofNat_Int] at g3 g7 s1 hnx ⊢
    refine wk @g1 ?_
    refine cd [[vB true]] (an9 @q @g1 @g2 @g3 @g6 @g7 @len_ll @Int.toNat_natCast Bool.not_true) ?_ ?_
    ·exact obl_cons s1 obl_nil
    refine wk @g4 ?_
    exact hnx
  ·have hkn : k = w.lanes.length:=by omega
   have g1 : ¬ (k : Int) < (w.lanes.length : Int):=by omega
   generalize oneJ w x ⟨sk,(j : Int),sn,sm,sb,sg⟩ j = J at *
   simp only [oneSt,encWd,encSp] at ⊢
   refine wk (an6 @g1 @n6 @f1 @f2 @f3 @f4) ?_
   exact ValsLe.refl _
theorem worldOne_told (hS : CSpoilR 23) (hO : CWOwn 11) (hN : CWNew 10) (hD : CWDo 7) (n : Int) (l : List Sp) (hl : l.length ≤ 9223372036854775807) (s : Sp) :
  Told Try.prog 4 [vI n,sD 7 (encSl l),aD (encSp s)] [vB true]:=by
 by_cases h : n < 1 ∨ 3 < n
 ·exact worldOne_not hO hN hD n l s h
 ·obtain ⟨q,rfl⟩ : ∃ q : Nat,n = q:=⟨n.toNat,by omega⟩
  by_cases he : (doW (runW (newW q) (l.take 160)).1 s).2 = 0
  ·exact worldOne_ok hS hO hN hD q (by omega) l hl s he
  ·exact worldOne_err hS hO hN hD q (by omega) l hl s he
end Go.Proofs.Ytgfljlmonaifgac.ab
namespace Go.Proofs.Ytgfljlmonaifgac.worldOne
open Go Go.ChangeShapes Go.WideShapes Go.ChangeAt Go.RowKit
open ab mth
set_option maxRecDepth 100000 in
theorem lifted (hS : CSpoilR 23) (hO : CWOwn 11) (hN : CWNew 10) (hD : CWDo 7) (os : Os) (started : os.Started) (H : Type) (enc : TypeId × Value → H) :
  ReturnsInHanded {} Try.checked os 4 .any (Rows.worldOneSpec.pre6 enc Try.prog Try.f4 Rows.worldOneRow.domain false) (Rows.worldOneSpec.post enc Try.prog Try.f4 false true false false):=by
 refine returnsInHanded_of_change_sized (C:=Try.checked) own started (by kernel_rfl) Try.func4
  (ChangeSpec.witness6 (enc:=enc) (C:=Try.checked) false ⟨#[],#[.int .i64 0,.slice none 0 0,.agg #[.int .i64 0,.int .i64 0,.int .i64 0,.int .i64 0,.bool false,.int .i64 0,.slice none 0 0]],[]⟩ 8 (by kernel_rfl) (by kernel_rfl) (by kernel_rfl) (by kernel_rfl)) ?_
 intro W base args ds gs before hval0 hW0 hcnd hsz0 _
 have hval : ∀ (j : Nat) t v,Try.f4.params[j]? = some t → args[j]? = some v → Value.okWide Try.prog W .any base t v:=hval0
 have hW':=hW0
 obtain ⟨p,q,hA0,hV,rfl,hfz,hnd⟩:=hW0
 have hA : DataW.TrodAll enc Try.prog W 0 (fun _ => true) true Try.f4.params.toList args.toList ds p:=hA0
 rw [Try.params4] at hA hval
 obtain ⟨v0,vs0,d0,ds0,p0,q0,hargs,rfl,rfl,h0,r0⟩:=trodAll_cons hA
 obtain ⟨v1,vs1,d1,ds1,p1,q1,rfl,rfl,rfl,h1,r1⟩:=trodAll_cons r0
 obtain ⟨v2,vs2,d2,ds2,p2,q2,rfl,rfl,rfl,h2,r2⟩:=trodAll_cons r1
 obtain ⟨rfl,rfl,rfl⟩:=trodAll_nil r2
 obtain rfl : args = #[v0,v1,v2]:=by cases args; simp_all
 obtain ⟨rfl,rfl⟩:=trodVars_none hV
 have lt0 : ∀ x ∈ p0,x.block < W.heap.size:=by obtain ⟨m,hm⟩:=h0; exact DataW.trod_lt m _ _ _ hm
 have lt1 : ∀ x ∈ p1,x.block < W.heap.size:=by obtain ⟨m,hm⟩:=h1; exact DataW.trod_lt m _ _ _ hm
 have lt2 : ∀ x ∈ p2,x.block < W.heap.size:=by obtain ⟨m,hm⟩:=h2; exact DataW.trod_lt m _ _ _ hm
 obtain ⟨n0,rfl⟩:=okWide_int Try.underlying3 (hval 0 3 v0 rfl rfl)
 obtain ⟨a1,len1,cap1,rfl⟩:=okWide_slice Try.underlying22 (hval 1 22 v1 rfl rfl)
 obtain ⟨x1,hM1,_,_⟩:=(by obtain ⟨fuel,hf⟩:=h1; exact in_steps hf : ∃ cs : List Sp,CRep (AllOf W) W (sD 7 (encSl cs)) (.slice a1 len1 cap1) ∧ cs.length ≤ Rows.uptoBulk d1 ∧ ∀ c ∈ cs,True)
 have hl1:=hM1.len
 rw [len_sl] at hl1
 obtain ⟨s2,hM2⟩:=arg_step (hval 2 27 v2 rfl rfl) h2
 clear hA0 hval0
 refine ((worldOne_told hS hO hN hD n0 x1 hl1 s2).yes (W:=W) (vs:=[.int .i64 n0,.slice a1 len1 cap1,v2]) (Vals.cons (.inl (CRep.v rfl)) (Vals.cons (.inl hM1) (Vals.cons hM2 Vals.nil)))).mono fun e W' ⟨he,bel⟩ => ?_
 subst he
 exact ⟨_,rfl,_,_,_,[],_,[],hW',trodAll_mk1 (shut_bool Try.underlying4 _),(trodAll_cons_mk (Below.trod laidOut (by kernel_rfl) (of_decide_eq_true (by kernel_rfl)) h0 bel lt0) (trodAll_cons_mk (Below.trod laidOut (by kernel_rfl) (of_decide_eq_true (by kernel_rfl)) h1 bel lt1) (trodAll_cons_mk (Below.trod laidOut (by kernel_rfl) (of_decide_eq_true (by kernel_rfl)) h2 bel lt2) trodAll_mk0))),rfl,bel.frame _,fun h => by cases h⟩
theorem over (hS : CSpoilR 23) (hO : CWOwn 11) (hN : CWNew 10) (hD : CWDo 7) : Rows.worldOneRow.holds Try.pinned (OpenSpec.ofChange Rows.worldOneSpec) :=
 OpenClaim.holds_of_wide 4 Try.f4 rfl rfl rfl rfl rfl rfl rfl ⟨rfl,rfl,rfl,rfl,rfl⟩ rfl rfl rfl rfl rfl (by kernel_rfl) Try.func4 (by kernel_rfl)
  (of_decide_eq_true (by kernel_rfl)) (by unfold Func.isWrapper; first | (rw [if_pos (by decide +kernel)]; kernel_rfl) | (rw [if_neg (by decide +kernel)]; exact ⟨rfl,rfl⟩))
  (fun os started H enc _ => lifted hS hO hN hD os started H enc)
end Go.Proofs.Ytgfljlmonaifgac.worldOne
namespace Go.Proofs.Ytgfljlmonaifgac.ab
open Go Go.RowKit
theorem own_repN {base : Nat → Prop} {I : Still} {ρ : Nat → Option Nat} {w : World} {e z : Nat} {es : List D} {u : Value} (h : Own I ρ base w e (z,some es) u) {I1 : Still} (hI : ∀ b j,I b j → I1 b j) (hu : ∀ g j,u.ownBlock = some g → j < es.length * z → I1 g j) : CRep I1 w (sD z es) u:=by
 obtain ⟨n,xs,hrow,_,hh⟩:=h
 obtain ⟨hn,hel⟩:=hh es rfl
 simp only at hrow hel
 subst hn
 rcases hrow.2 with ⟨q1,q2⟩ | ⟨g,cap,cur,q1,_,hg,hnc,hcm,hcs,htk⟩
 ·have : es = []:=List.eq_nil_of_length_eq_zero q2
  subst this; rw [q1]; exact nil_rep z
 ·rw [q1]
  refine CRep.s ⟨fun i j => (xs[i * z + j]?).getD undef,hnc,(fun e => by cases e),hcm,hel.1,fun hne => ⟨g,0,rfl,fun i j hi hj => ?_⟩,fun i j x l hx hl => ?_⟩
  ·have hlt : i * z + j < xs.length:=by rw [hrow.1]; exact cell_in hi hj
   refine ⟨?_,?_⟩
   ·show _ = some ((xs[i * z + j]?).getD undef)
    rw [show 0 + i * z + j = i * z + j by omega,cell_of_row w g _ cur e (0,0) hg,List.getElem?_eq_getElem hlt]
    have h3 : xs[i * z + j]? = cur[i * z + j]?:=by
     rw [← htk,List.getElem?_take,if_pos (cell_in hi hj)]; simp
    rw [← h3,List.getElem?_eq_getElem hlt]; rfl
   ·rw [show 0 + i * z + j = i * z + j by omega]
    exact hu g _ (by rw [q1]; rfl) (cell_in hi hj)
  ·obtain ⟨y,r1,r2⟩:=hel.2.2 i j x l hx hl
   show CRep _ _ l ((xs[i * z + j]?).getD undef)
   rw [r1]
   exact r2.keep hI (fun _ _ _ => rfl)
theorem le_openH {st : St} {b off e z : Nat} {es cs : List D} (hlt : b < 100000) (hb : look st.bx b = some cs) (hoff : off < cs.length) (hf : lookF st.fl (b,some off) = some (e,z,some es)) :
  Le st ⟨st.tm,(b,over cs off [sD z es]) :: st.bx,((b,some off),(e,z,none)) :: offP st.fl [(b,some off)]⟩:=by
 intro base w0 I0 N a w ⟨I,ρ,hr⟩
 obtain ⟨u,hat,hown⟩:=hr.fl b (some off) e (z,some es) hf
 obtain ⟨gb,hgb,hbb,hbox,hnIb⟩:=hr.bx b cs hb
 obtain ⟨us,tyB,hblk,hrowL⟩:=hbox.cells hlt
 have huo : us[off]? = some u:=by
  simp only [At,hgb,Option.bind_some] at hat
  rw [cell_of_row w gb off us.toArray tyB (0,0) hblk] at hat
  simpa using hat
 let I' : Still:=fun k j => I k j ∨ (u.ownBlock = some k ∧ k < w.heap.size ∧ j < es.length * z)
 have hI : ∀ k j,I k j → I' k j:=fun _ _ => .inl
 have hrep : CRep I' w (sD z es) u:=own_repN hown hI (fun k j hk hj => .inr ⟨hk,(own_lt hown k hk).2,hj⟩)
 have hfl : ∀ s o x,lookF (((b,some off),(e,z,none)) :: offP st.fl [(b,some off)]) (s,o) = some x → ((s = b ∧ o = some off) ∧ x = (e,z,none)) ∨ (¬ (s = b ∧ o = some off) ∧ st.F.fl s o = some x):=by
  intro s o x hx
  simp only [lookF] at hx
  split at hx
  ·rename_i hm; cases hx; cases hm; exact .inl ⟨⟨rfl,rfl⟩,rfl⟩
  ·rw [lookF_off] at hx
   split at hx
   ·cases hx
   ·rename_i hm
    simp only [List.mem_singleton,Prod.mk.injEq] at hm
    exact .inr ⟨hm,hx⟩
 have hfl' : ∀ s o x,lookF (((b,some off),(e,z,none)) :: offP st.fl [(b,some off)]) (s,o) = some x → ∃ y,st.F.fl s o = some y:=fun s o x hx => by
  rcases hfl s o x hx with ⟨⟨rfl,rfl⟩,_⟩ | ⟨_,q⟩
  ·exact ⟨_,hf⟩
  ·exact ⟨_,q⟩
 have hρu : ∀ c g,ρ c = some g → u.ownBlock ≠ some g:=fun c g hc hu => by
  obtain ⟨n,xs,_,k2,_⟩:=hown
  exact (k2 g hu).2.2 c hc
 refine ⟨I',ρ,hr.defers,hr.size,fun s v hv => ?_,hr.cap,fun c o' x hx => by obtain ⟨y,q⟩:=hfl' _ _ _ hx; exact hr.flc c o' y q,fun c ds hc => ?_,hr.inj,fun c hc => ?_,fun s o e' z' hx => ?_,fun s o s' o' x x' y y' g' h1 h2 h3 h4 h5 h6 => ?_,fun k j hi => hi.elim (hr.lt k j) (fun q => q.2.1),fun k j hi => hi.elim (hr.sub k j) (fun q => .inr (own_lt hown k q.1).1),hr.below,hr.room,fun k j hi => ⟨hI k j (hr.mon k j hi).1,(hr.mon k j hi).2⟩⟩
 ·obtain ⟨y,q1,q2⟩:=hr.tm s v hv
  exact ⟨y,q1,q2.keep hI (fun _ _ _ h => h) (fun _ _ _ => rfl)⟩
 ·have hc' : look ((b,over cs off [sD z es]) :: st.bx) c = some ds:=hc
  simp only [look] at hc'
  split at hc'
  ·rename_i ebc; cases hc'; subst ebc
   refine ⟨gb,hgb,hbb,.inl ⟨hlt,us,tyB,hblk,by rw [over_len (by simp; omega)]; exact hrowL.1,fun j c' y hj hy => ?_⟩,fun j hj => hj.elim (hnIb j) (fun q => hρu _ _ hgb q.1)⟩
   by_cases hjo : j = off
   ·subst hjo
    have:=over_in (cs:=cs) (ds:=[sD z es]) (off:=j) (j:=0) (by simp; omega) (by simp)
    rw [Nat.add_zero] at this
    rw [this] at hj
    simp at hj; subst hj
    rw [huo] at hy; cases hy
    exact .inl hrep
   ·rw [over_out (by simp; omega) (by simp; omega)] at hj
    exact (hrowL.2 j c' y hj hy).keep hI (fun _ _ _ h => h) (fun _ _ _ => rfl)
  ·obtain ⟨g',q1,q2,q3,q4⟩:=hr.bx c ds hc'
   exact ⟨g',q1,q2,q3.keep hI (fun _ _ _ h => h) (fun _ _ _ => rfl) rfl,fun j hj => hj.elim (q4 j) (fun q => hρu _ _ q1 q.1)⟩
 ·have hc' : look ((b,over cs off [sD z es]) :: st.bx) c = none:=hc
  simp only [look] at hc'
  split at hc'
  ·cases hc'
  ·exact hr.nob c hc'
 ·rcases hfl _ _ _ hx with ⟨⟨rfl,rfl⟩,q⟩ | ⟨n1,q⟩
  ·cases q
   obtain ⟨n,xs,k1,k2,k3⟩:=hown
   obtain ⟨k4,_⟩:=k3 es rfl
   refine ⟨u,hat,n,xs,k1,fun g hg => ⟨(k2 g hg).1,fun j hj hi => ?_,(k2 g hg).2.2⟩,fun es he => by cases he⟩
   rcases hi with hi | hi
   ·exact (k2 g hg).2.1 j (fun q => by cases q) hi
   ·have:=hj rfl; simp only at this; rw [k4] at this; omega
  ·obtain ⟨y,q1,q2⟩:=hr.fl s o e' z' q
   refine ⟨y,q1,own_keep q2 (fun _ _ => rfl) (fun g' j hg' hi => hi.elim id (fun k => absurd (hr.apart s o b (some off) _ _ y u g' q hf q1 hat hg' k.1) n1)) (fun _ _ _ h => h) hI (fun _ _ _ => rfl)⟩
 ·obtain ⟨y1,q1⟩:=hfl' _ _ _ h1
  obtain ⟨y2,q2⟩:=hfl' _ _ _ h2
  exact hr.apart s o s' o' y1 y2 y y' g' q1 q2 h3 h4 h5 h6
end Go.Proofs.Ytgfljlmonaifgac.ab
