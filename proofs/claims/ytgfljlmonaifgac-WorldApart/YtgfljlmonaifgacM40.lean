import Derived.Test.YtgfljlmonaifgacM38
import Derived.Test.YtgfljlmonaifgacIrLaw9
import Derived.Test.YtgfljlmonaifgacM20
import Derived.Test.YtgfljlmonaifgacM35
import Derived.ChangeOld
import Derived.SizedLaws
import Derived.Test.YtgfljlmonaifgacAbsHandX
import Derived.Test.YtgfljlmonaifgacProg
set_option maxHeartbeats 16000000
set_option linter.unusedVariables false
set_option linter.unusedSimpArgs false
namespace Go.Proofs.Ytgfljlmonaifgac.ab
open Go Go.RowKit
open mth
def asP : Sp:=⟨2,1,0,0,false,⟨0,[97]⟩⟩
def asT : Sp:=⟨1,0,0,0,false,⟨0,[]⟩⟩
def asC : Sp:=⟨3,1,0,0,false,⟨0,[]⟩⟩
def aw1 : Wd:=(doW (newW 2) asP).1
def aw2 : Wd:=(doW aw1 asT).1
def aw3 : Wd:=(doW aw2 asT).1
def aw4 : Wd:=(doW aw3 asC).1
theorem aw_errs : (doW (newW 2) asP).2 = 0 ∧ (doW aw1 asT).2 = 0 ∧ (doW aw2 asT).2 = 0 ∧ (doW aw3 asC).2 = 0:=⟨rfl,rfl,rfl,by decide +kernel⟩
theorem aw_ticks : aw1.ticks = 0 ∧ aw2.ticks = 1 ∧ aw3.ticks = 2:=⟨rfl,rfl,rfl⟩
theorem aw3_there : ∃ l,aw3.lanes[1]? = some l ∧ l.there.length = 1:=⟨_,rfl,rfl⟩
theorem aw4_told : ∃ l,aw4.lanes[1]? = some l ∧ l.r.told.length = 1:=⟨aw4.lanes.getD 1 zeroL,rfl,by decide +kernel⟩
theorem encB_97 : encB 97 = vD (.int .u8 97):=rfl
theorem alive9_told (hO : CWOwn 11) (hN : CWNew 10) (hD : CWDo 7) : Told Try.prog 5 [] [vB true]:=by
 refine told_w9_alive rfl ?_
 have g0 : GoodW (newW 2):=good_new (by decide)
 have g1 : GoodW aw1:=g0.step _
 have g2 : GoodW aw2:=g1.step _
 have g3 : GoodW aw3:=g2.step _
 obtain ⟨e1,e2,e3,e4⟩:=aw_errs
 obtain ⟨t1,t2,t3⟩:=aw_ticks
 have h0:=hN.1 2 (by decide) (by decide)
 have h1:=hD (newW 2) asP g0 (by decide)
 have h2:=hD aw1 asT g1 (by omega)
 have h3:=hD aw2 asT g2 (by omega)
 have h4:=hD aw3 asC g3 (by omega)
 have h5:=hN.2 0 (by decide)
 have h6:=hO aw3 g3
 rw [e1,show (doW (newW 2) asP).1 = aw1 from rfl] at h1
 rw [e2,show (doW aw1 asT).1 = aw2 from rfl] at h2
 rw [e3,show (doW aw2 asT).1 = aw3 from rfl] at h3
 rw [e4,show (doW aw3 asC).1 = aw4 from rfl] at h4
 obtain ⟨l3,q3,p3⟩:=aw3_there
 obtain ⟨l4,q4,p4⟩:=aw4_told
 have r3:=at_ll q3
 have r4:=at_ll q4
 have n3 : aw3.lanes.length = 2:=rfl
 have n4 : aw4.lanes.length = 2:=rfl
 have k2 : ((aw3.lanes.length : Nat) : Int) = 2:=by rw [n3]; rfl
 have k4 : ((aw4.lanes.length : Nat) : Int) = 2:=by rw [n4]; rfl
 have z3 : ((l3.there.length : Nat) : Int) = 1:=by rw [p3]; rfl
 have z4 : ((l4.r.told.length : Nat) : Int) = 1:=by rw [p4]; rfl
 have cn : ((2 : Nat) : Int) = 2:=rfl
 rw [cn] at h0
 generalize newW 2 = w0 at *
 generalize aw1 = w1 at *
 generalize aw2 = w2 at *
 generalize aw3 = w3 at *
 generalize aw4 = w4 at *
 rw [show encWd ⟨[],0⟩ = [sD 17 [],vI 0] from rfl] at h5
 simp only [encWd,encSp,encLn,asP,asT,asC,encB_97,List.map_cons,List.map_nil] at h0 h1 h2 h3 h4 h6 r3 r4
 refine wk0 ?_
 refine cg [[aD (encWd w0),vI 0]] @encWd.eq_1 ?_ ?_
 ·exact obl_cons h0 obl_nil
 refine wk0 ?_
 refine cg [[aD (encWd w1),vI 0]] @encWd.eq_1 ?_ ?_
 ·refine ⟨⟨_,?_,h1⟩,trivial⟩
  repeat' (first | exact vals_nil | exact row_nil | exact es_nil | exact CVLe.refl _ | exact LfLe.refl _ | exact LfLe.nil _ | exact EsLe.refl _ | refine vals_cons ?_ ?_ | refine row_cons ?_ ?_ | refine es_cons ?_ ?_ | refine EsLe.app ?_ ?_ | refine CVLe.row ?_ | refine CVLe.leafV ?_ | refine CVLe.leafS ?_ | refine LfLe.s ?_)
 refine wk0 ?_
 refine cg [[aD (encWd w2),vI 0]] @encWd.eq_1 ?_ ?_
 ·refine ⟨⟨_,?_,h2⟩,trivial⟩
  repeat' (first | exact vals_nil | exact row_nil | exact es_nil | exact CVLe.refl _ | exact LfLe.refl _ | exact LfLe.nil _ | exact EsLe.refl _ | refine vals_cons ?_ ?_ | refine row_cons ?_ ?_ | refine es_cons ?_ ?_ | refine EsLe.app ?_ ?_ | refine CVLe.row ?_ | refine CVLe.leafV ?_ | refine CVLe.leafS ?_ | refine LfLe.s ?_)
 refine wk0 ?_
 refine cg [[aD (encWd w3),vI 0]] @encWd.eq_1 ?_ ?_
 ·refine ⟨⟨_,?_,h3⟩,trivial⟩
  repeat' (first | exact vals_nil | exact row_nil | exact es_nil | exact CVLe.refl _ | exact LfLe.refl _ | exact LfLe.nil _ | exact EsLe.refl _ | refine vals_cons ?_ ?_ | refine row_cons ?_ ?_ | refine es_cons ?_ ?_ | refine EsLe.app ?_ ?_ | refine CVLe.row ?_ | refine CVLe.leafV ?_ | refine CVLe.leafS ?_ | refine LfLe.s ?_)
 refine wk0 ?_
 refine cg [[aD (encWd w4),vI 0]] @encWd.eq_1 ?_ ?_
 ·refine ⟨⟨_,?_,h4⟩,trivial⟩
  repeat' (first | exact vals_nil | exact row_nil | exact es_nil | exact CVLe.refl _ | exact LfLe.refl _ | exact LfLe.nil _ | exact EsLe.refl _ | refine vals_cons ?_ ?_ | refine row_cons ?_ ?_ | refine es_cons ?_ ?_ | refine EsLe.app ?_ ?_ | refine CVLe.row ?_ | refine CVLe.leafV ?_ | refine CVLe.leafS ?_ | refine LfLe.s ?_)
 refine wk0 ?_
 refine cg0 [[aD [sD 17 [],vI 0],vI 3]] ?_ ?_
 ·exact obl_cons h5 obl_nil
 refine wk (an11 @t3 @k2 @k4 @r3 @r4 @z3 @z4 @len_ll @len_pk @len_ml @Int.toNat_one) ?_
 rw [t3] at h6
 refine cg [[aD [sD 17 (encLl w3.lanes),vI 2]]] (an11 @t3 @k2 @k4 @r3 @r4 @z3 @z4 @len_ll @len_pk @len_ml @Int.toNat_one) ?_ ?_
 ·exact obl_cons h6 obl_nil
 refine wk (an2 @k2 @len_ll) ?_
 exact ValsLe.refl _
theorem worldApart_not (hO : CWOwn 11) (hN : CWNew 10) (hD : CWDo 7) (n : Int) (l : List Sp) (a b : Sp) (h : (n < 1 ∨ 3 < n) ∨ a.tenant = b.tenant ∨ a.kind = 1 ∨ b.kind = 1) : Told Try.prog 3 [vI n,sD 7 (encSl l),aD (encSp a),aD (encSp b)] [vB true]:=by
 refine told_w9_WorldApart rfl ?_
 have hA:=alive9_told hO hN hD
 obtain ⟨ak,at',an',am,ab,amsg⟩:=a
 obtain ⟨bk,bt,bn,bm,bb,bmsg⟩:=b
 simp only at h
 simp only [encSp]
 refine wk0 ?_
 refine cg [[vB true]] Bool.not_true ?_ ?_
 ·exact obl_cons hA obl_nil
 by_cases n1 : n < 1
 ·refine wk @n1 ?_
  exact ValsLe.refl _
 by_cases n2 : 3 < n
 ·refine wk (an2 @n1 @n2) ?_
  exact ValsLe.refl _
 by_cases n3 : at' = bt
 ·have q3 : (at' == bt) = true:=by simpa using n3
  refine wk (an3 @n1 @n2 @q3) ?_
  exact ValsLe.refl _
 have q3 : (at' == bt) = false:=by simpa using n3
 by_cases n4 : ak = 1
 ·have q4 : (ak == 1) = true:=by simpa using n4
  refine wk (an4 @n1 @n2 @q3 @q4) ?_
  exact ValsLe.refl _
 have q4 : (ak == 1) = false:=by simpa using n4
 have q5 : (bk == 1) = true:=by
  have : bk = 1:=by omega
  simpa using this
 refine wk (an5 @n1 @n2 @q3 @q4 @q5) ?_
 exact ValsLe.refl _
theorem worldApart_good (hS : CSpoilR 23) (hO : CWOwn 11) (hN : CWNew 10) (hD : CWDo 7) (n : Nat) (hn : 1 ≤ n ∧ n ≤ 3) (l : List Sp) (hl : l.length ≤ 9223372036854775807) (a b : Sp) (ht : a.tenant ≠ b.tenant) (ha : a.kind ≠ 1) (hb : b.kind ≠ 1) :
  Told Try.prog 3 [vI n,sD 7 (encSl l),aD (encSp a),aD (encSp b)] [vB true]:=by
 refine told_w9_WorldApart rfl ?_
 have hA:=alive9_told hO hN hD
 have h4:=play_told hS n hn l hl
 obtain ⟨hw,hk,_⟩:=good_run (good_new hn) l 160
 have ht0 : (newW n).ticks = 0:=rfl
 generalize newW n = w0 at *
 generalize (runW w0 (l.take 160)).2 = es at *
 generalize (runW w0 (l.take 160)).1 = w at *
 have hk' : w.ticks ≤ 160:=by rw [ht0] at hk; omega
 have h5:=hD w a hw (by omega)
 have h6:=hD w b hw (by omega)
 have h7:=hD (doW w a).1 b (hw.step a) (by have:=ticks_do w a; omega)
 have h8:=hD (doW w b).1 a (hw.step b) (by have:=ticks_do w b; omega)
 have h9:=sameW_good ((hw.step a).step b)
 obtain ⟨m1,m2,m3⟩:=do_apart w a b ht ha hb
 rw [← m1] at h8
 rw [m2] at h7
 rw [m3] at h8
 clear m1 m2 m3
 generalize (doW (doW w a).1 b).1 = x at *
 generalize (doW w a).1 = x1 at *
 generalize (doW w b).1 = y1 at *
 generalize (doW w a).2 = e at *
 generalize (doW w b).2 = f at *
 have z1 : (e == e) = true:=beq_self_eq_true e
 have z2 : (f == f) = true:=beq_self_eq_true f
 obtain ⟨ak,at',an',am,ab,amsg⟩:=a
 obtain ⟨bk,bt,bn,bm,bb,bmsg⟩:=b
 simp only at ht ha hb
 have n1 : ¬ (n : Int) < 1:=by omega
 have n2 : ¬ 3 < (n : Int):=by omega
 have q3 : (at' == bt) = false:=by simpa using ht
 have q4 : (ak == 1) = false:=by simpa using ha
 have q5 : (bk == 1) = false:=by simpa using hb
 simp only [encWd,encSp] at h4 h5 h6 h7 h8 h9 ⊢
 refine wk0 ?_
 refine cg [[vB true]] Bool.not_true ?_ ?_
 ·exact obl_cons hA obl_nil
 refine wk (an5 @n1 @n2 @q3 @q4 @q5) ?_
 refine cg [[aD (encWd w),sD 1 (es.map vI)]] @encWd.eq_1 ?_ ?_
 ·exact obl_cons h4 obl_nil
 refine wk0 ?_
 refine cg [[aD (encWd x1),vI e]] @encWd.eq_1 ?_ ?_
 ·exact obl_cons h5 obl_nil
 refine wk0 ?_
 refine cg [[aD (encWd x),vI f]] @encWd.eq_1 ?_ ?_
 ·exact obl_cons h7 obl_nil
 refine wk0 ?_
 refine cg [[aD (encWd y1),vI f]] @encWd.eq_1 ?_ ?_
 ·exact obl_cons h6 obl_nil
 refine wk0 ?_
 refine cg [[aD (encWd x),vI e]] @encWd.eq_1 ?_ ?_
 ·exact obl_cons h8 obl_nil
 refine wk (an2 @z1 @z2) ?_
 refine cg [[vB true]] (an2 @z1 @z2) ?_ ?_
 ·exact obl_cons h9 obl_nil
 refine wk0 ?_
 exact ValsLe.refl _
theorem worldApart_told (hS : CSpoilR 23) (hO : CWOwn 11) (hN : CWNew 10) (hD : CWDo 7) (n : Int) (l : List Sp) (hl : l.length ≤ 9223372036854775807) (a b : Sp) :
  Told Try.prog 3 [vI n,sD 7 (encSl l),aD (encSp a),aD (encSp b)] [vB true]:=by
 by_cases h : (n < 1 ∨ 3 < n) ∨ a.tenant = b.tenant ∨ a.kind = 1 ∨ b.kind = 1
 ·exact worldApart_not hO hN hD n l a b h
 ·obtain ⟨q,rfl⟩ : ∃ q : Nat,n = q:=⟨n.toNat,by omega⟩
  exact worldApart_good hS hO hN hD q (by omega) l hl a b (fun e => h (.inr (.inl e))) (fun e => h (.inr (.inr (.inl e)))) (fun e => h (.inr (.inr (.inr e))))
end Go.Proofs.Ytgfljlmonaifgac.ab
namespace Go.Proofs.Ytgfljlmonaifgac.worldApart
open Go Go.ChangeShapes Go.WideShapes Go.ChangeAt Go.RowKit
open ab mth
set_option maxRecDepth 100000 in
theorem lifted (hS : CSpoilR 23) (hO : CWOwn 11) (hN : CWNew 10) (hD : CWDo 7) (os : Os) (started : os.Started) (H : Type) (enc : TypeId × Value → H) :
  ReturnsInHanded {} Try.checked os 3 .any (Rows.worldApartSpec.pre6 enc Try.prog Try.f3 Rows.worldApartRow.domain false) (Rows.worldApartSpec.post enc Try.prog Try.f3 false true false false):=by
 refine returnsInHanded_of_change_sized (C:=Try.checked) own started (by kernel_rfl) Try.func3
  (ChangeSpec.witness6 (enc:=enc) (C:=Try.checked) false ⟨#[],#[.int .i64 0,.slice none 0 0,.agg #[.int .i64 0,.int .i64 0,.int .i64 0,.int .i64 0,.bool false,.int .i64 0,.slice none 0 0],.agg #[.int .i64 0,.int .i64 0,.int .i64 0,.int .i64 0,.bool false,.int .i64 0,.slice none 0 0]],[]⟩ 8 (by kernel_rfl) (by kernel_rfl) (by kernel_rfl) (by kernel_rfl)) ?_
 intro W base args ds gs before hval0 hW0 hcnd hsz0 _
 have hval : ∀ (j : Nat) t v,Try.f3.params[j]? = some t → args[j]? = some v → Value.okWide Try.prog W .any base t v:=hval0
 have hW':=hW0
 obtain ⟨p,q,hA0,hV,rfl,hfz,hnd⟩:=hW0
 have hA : DataW.TrodAll enc Try.prog W 0 (fun _ => true) true Try.f3.params.toList args.toList ds p:=hA0
 rw [Try.params3] at hA hval
 obtain ⟨v0,vs0,d0,ds0,p0,q0,hargs,rfl,rfl,h0,r0⟩:=trodAll_cons hA
 obtain ⟨v1,vs1,d1,ds1,p1,q1,rfl,rfl,rfl,h1,r1⟩:=trodAll_cons r0
 obtain ⟨v2,vs2,d2,ds2,p2,q2,rfl,rfl,rfl,h2,r2⟩:=trodAll_cons r1
 obtain ⟨v3,vs3,d3,ds3,p3,q3,rfl,rfl,rfl,h3,r3⟩:=trodAll_cons r2
 obtain ⟨rfl,rfl,rfl⟩:=trodAll_nil r3
 obtain rfl : args = #[v0,v1,v2,v3]:=by cases args; simp_all
 obtain ⟨rfl,rfl⟩:=trodVars_none hV
 have lt0 : ∀ x ∈ p0,x.block < W.heap.size:=by obtain ⟨m,hm⟩:=h0; exact DataW.trod_lt m _ _ _ hm
 have lt1 : ∀ x ∈ p1,x.block < W.heap.size:=by obtain ⟨m,hm⟩:=h1; exact DataW.trod_lt m _ _ _ hm
 have lt2 : ∀ x ∈ p2,x.block < W.heap.size:=by obtain ⟨m,hm⟩:=h2; exact DataW.trod_lt m _ _ _ hm
 have lt3 : ∀ x ∈ p3,x.block < W.heap.size:=by obtain ⟨m,hm⟩:=h3; exact DataW.trod_lt m _ _ _ hm
 obtain ⟨n0,rfl⟩:=okWide_int Try.underlying3 (hval 0 3 v0 rfl rfl)
 obtain ⟨a1,len1,cap1,rfl⟩:=okWide_slice Try.underlying22 (hval 1 22 v1 rfl rfl)
 obtain ⟨x1,hM1,_,_⟩:=(by obtain ⟨fuel,hf⟩:=h1; exact in_steps hf : ∃ cs : List Sp,CRep (AllOf W) W (sD 7 (encSl cs)) (.slice a1 len1 cap1) ∧ cs.length ≤ Rows.uptoBulk d1 ∧ ∀ c ∈ cs,True)
 have hl1:=hM1.len
 rw [len_sl] at hl1
 obtain ⟨s2,hM2⟩:=arg_step (hval 2 27 v2 rfl rfl) h2
 obtain ⟨s3,hM3⟩:=arg_step (hval 3 27 v3 rfl rfl) h3
 clear hA0 hval0
 refine ((worldApart_told hS hO hN hD n0 x1 hl1 s2 s3).yes (W:=W) (vs:=[.int .i64 n0,.slice a1 len1 cap1,v2,v3]) (Vals.cons (.inl (CRep.v rfl)) (Vals.cons (.inl hM1) (Vals.cons hM2 (Vals.cons hM3 Vals.nil))))).mono fun e W' ⟨he,bel⟩ => ?_
 subst he
 exact ⟨_,rfl,_,_,_,[],_,[],hW',trodAll_mk1 (shut_bool Try.underlying4 _),(trodAll_cons_mk (Below.trod laidOut (by kernel_rfl) (of_decide_eq_true (by kernel_rfl)) h0 bel lt0) (trodAll_cons_mk (Below.trod laidOut (by kernel_rfl) (of_decide_eq_true (by kernel_rfl)) h1 bel lt1) (trodAll_cons_mk (Below.trod laidOut (by kernel_rfl) (of_decide_eq_true (by kernel_rfl)) h2 bel lt2) (trodAll_cons_mk (Below.trod laidOut (by kernel_rfl) (of_decide_eq_true (by kernel_rfl)) h3 bel lt3) trodAll_mk0)))),rfl,bel.frame _,fun h => by cases h⟩
theorem over (hS : CSpoilR 23) (hO : CWOwn 11) (hN : CWNew 10) (hD : CWDo 7) : Rows.worldApartRow.holds Try.pinned (OpenSpec.ofChange Rows.worldApartSpec) :=
 OpenClaim.holds_of_wide 3 Try.f3 rfl rfl rfl rfl rfl rfl rfl ⟨rfl,rfl,rfl,rfl,rfl⟩ rfl rfl rfl rfl rfl (by kernel_rfl) Try.func3 (by kernel_rfl)
  (of_decide_eq_true (by kernel_rfl)) (by unfold Func.isWrapper; first | (rw [if_pos (by decide +kernel)]; kernel_rfl) | (rw [if_neg (by decide +kernel)]; exact ⟨rfl,rfl⟩))
  (fun os started H enc _ => lifted hS hO hN hD os started H enc)
end Go.Proofs.Ytgfljlmonaifgac.worldApart
namespace Go.Proofs.Ytgfljlmonaifgac.ab
open Go Go.RowKit
theorem own_repN {base : Nat → Prop} {I : Still} {ρ : Nat → Option Nat} {w : World} {e z : Nat} {es : List D} {u : Value} (h : Own I ρ base w e (z,some es) u) {I1 : Still} (hI : ∀ b j,I b j → I1 b j) (hu : ∀ g j,u.ownBlock = some g → j < es.length * z → I1 g j) : CRep I1 w (sD z es) u:=by
 obtain ⟨n,xs,hrow,_,hh⟩:=h
 obtain ⟨hn,hel⟩:=hh es rfl
 simp only at hrow hel
 subst hn
 rcases hrow.2 with ⟨q1,q2⟩ | ⟨g,cap,cur,q1,_,hg,hnc,hcm,hcs,htk⟩
 ·have : es = []:=List.eq_nil_of_length_eq_zero q2
  subst this; rw [q1]; exact nil_rep z
 ·rw [q1]
  refine CRep.s ⟨fun i j => (xs[i * z + j]?).getD undef,hnc,(fun e => by cases e),hcm,hel.1,fun hne => ⟨g,0,rfl,fun i j hi hj => ?_⟩,fun i j x l hx hl => ?_⟩
  ·have hlt : i * z + j < xs.length:=by rw [hrow.1]; exact cell_in hi hj
   refine ⟨?_,?_⟩
   ·show _ = some ((xs[i * z + j]?).getD undef)
    rw [show 0 + i * z + j = i * z + j by omega,cell_of_row w g _ cur e (0,0) hg,List.getElem?_eq_getElem hlt]
    have h3 : xs[i * z + j]? = cur[i * z + j]?:=by
     rw [← htk,List.getElem?_take,if_pos (cell_in hi hj)]; simp
    rw [← h3,List.getElem?_eq_getElem hlt]; rfl
   ·rw [show 0 + i * z + j = i * z + j by omega]
    exact hu g _ (by rw [q1]; rfl) (cell_in hi hj)
  ·obtain ⟨y,r1,r2⟩:=hel.2.2 i j x l hx hl
   show CRep _ _ l ((xs[i * z + j]?).getD undef)
   rw [r1]
   exact r2.keep hI (fun _ _ _ => rfl)
theorem le_openH {st : St} {b off e z : Nat} {es cs : List D} (hlt : b < 100000) (hb : look st.bx b = some cs) (hoff : off < cs.length) (hf : lookF st.fl (b,some off) = some (e,z,some es)) :
  Le st ⟨st.tm,(b,over cs off [sD z es]) :: st.bx,((b,some off),(e,z,none)) :: offP st.fl [(b,some off)]⟩:=by
 intro base w0 I0 N a w ⟨I,ρ,hr⟩
 obtain ⟨u,hat,hown⟩:=hr.fl b (some off) e (z,some es) hf
 obtain ⟨gb,hgb,hbb,hbox,hnIb⟩:=hr.bx b cs hb
 obtain ⟨us,tyB,hblk,hrowL⟩:=hbox.cells hlt
 have huo : us[off]? = some u:=by
  simp only [At,hgb,Option.bind_some] at hat
  rw [cell_of_row w gb off us.toArray tyB (0,0) hblk] at hat
  simpa using hat
 let I' : Still:=fun k j => I k j ∨ (u.ownBlock = some k ∧ k < w.heap.size ∧ j < es.length * z)
 have hI : ∀ k j,I k j → I' k j:=fun _ _ => .inl
 have hrep : CRep I' w (sD z es) u:=own_repN hown hI (fun k j hk hj => .inr ⟨hk,(own_lt hown k hk).2,hj⟩)
 have hfl : ∀ s o x,lookF (((b,some off),(e,z,none)) :: offP st.fl [(b,some off)]) (s,o) = some x → ((s = b ∧ o = some off) ∧ x = (e,z,none)) ∨ (¬ (s = b ∧ o = some off) ∧ st.F.fl s o = some x):=by
  intro s o x hx
  simp only [lookF] at hx
  split at hx
  ·rename_i hm; cases hx; cases hm; exact .inl ⟨⟨rfl,rfl⟩,rfl⟩
  ·rw [lookF_off] at hx
   split at hx
   ·cases hx
   ·rename_i hm
    simp only [List.mem_singleton,Prod.mk.injEq] at hm
    exact .inr ⟨hm,hx⟩
 have hfl' : ∀ s o x,lookF (((b,some off),(e,z,none)) :: offP st.fl [(b,some off)]) (s,o) = some x → ∃ y,st.F.fl s o = some y:=fun s o x hx => by
  rcases hfl s o x hx with ⟨⟨rfl,rfl⟩,_⟩ | ⟨_,q⟩
  ·exact ⟨_,hf⟩
  ·exact ⟨_,q⟩
 have hρu : ∀ c g,ρ c = some g → u.ownBlock ≠ some g:=fun c g hc hu => by
  obtain ⟨n,xs,_,k2,_⟩:=hown
  exact (k2 g hu).2.2 c hc
 refine ⟨I',ρ,hr.defers,hr.size,fun s v hv => ?_,hr.cap,fun c o' x hx => by obtain ⟨y,q⟩:=hfl' _ _ _ hx; exact hr.flc c o' y q,fun c ds hc => ?_,hr.inj,fun c hc => ?_,fun s o e' z' hx => ?_,fun s o s' o' x x' y y' g' h1 h2 h3 h4 h5 h6 => ?_,fun k j hi => hi.elim (hr.lt k j) (fun q => q.2.1),fun k j hi => hi.elim (hr.sub k j) (fun q => .inr (own_lt hown k q.1).1),hr.below,hr.room,fun k j hi => ⟨hI k j (hr.mon k j hi).1,(hr.mon k j hi).2⟩⟩
 ·obtain ⟨y,q1,q2⟩:=hr.tm s v hv
  exact ⟨y,q1,q2.keep hI (fun _ _ _ h => h) (fun _ _ _ => rfl)⟩
 ·have hc' : look ((b,over cs off [sD z es]) :: st.bx) c = some ds:=hc
  simp only [look] at hc'
  split at hc'
  ·rename_i ebc; cases hc'; subst ebc
   refine ⟨gb,hgb,hbb,.inl ⟨hlt,us,tyB,hblk,by rw [over_len (by simp; omega)]; exact hrowL.1,fun j c' y hj hy => ?_⟩,fun j hj => hj.elim (hnIb j) (fun q => hρu _ _ hgb q.1)⟩
   by_cases hjo : j = off
   ·subst hjo
    have:=over_in (cs:=cs) (ds:=[sD z es]) (off:=j) (j:=0) (by simp; omega) (by simp)
    rw [Nat.add_zero] at this
    rw [this] at hj
    simp at hj; subst hj
    rw [huo] at hy; cases hy
    exact .inl hrep
   ·rw [over_out (by simp; omega) (by simp; omega)] at hj
    exact (hrowL.2 j c' y hj hy).keep hI (fun _ _ _ h => h) (fun _ _ _ => rfl)
  ·obtain ⟨g',q1,q2,q3,q4⟩:=hr.bx c ds hc'
   exact ⟨g',q1,q2,q3.keep hI (fun _ _ _ h => h) (fun _ _ _ => rfl) rfl,fun j hj => hj.elim (q4 j) (fun q => hρu _ _ q1 q.1)⟩
 ·have hc' : look ((b,over cs off [sD z es]) :: st.bx) c = none:=hc
  simp only [look] at hc'
  split at hc'
  ·cases hc'
  ·exact hr.nob c hc'
 ·rcases hfl _ _ _ hx with ⟨⟨rfl,rfl⟩,q⟩ | ⟨n1,q⟩
  ·cases q
   obtain ⟨n,xs,k1,k2,k3⟩:=hown
   obtain ⟨k4,_⟩:=k3 es rfl
   refine ⟨u,hat,n,xs,k1,fun g hg => ⟨(k2 g hg).1,fun j hj hi => ?_,(k2 g hg).2.2⟩,fun es he => by cases he⟩
   rcases hi with hi | hi
   ·exact (k2 g hg).2.1 j (fun q => by cases q) hi
   ·have:=hj rfl; simp only at this; rw [k4] at this; omega
  ·obtain ⟨y,q1,q2⟩:=hr.fl s o e' z' q
   refine ⟨y,q1,own_keep q2 (fun _ _ => rfl) (fun g' j hg' hi => hi.elim id (fun k => absurd (hr.apart s o b (some off) _ _ y u g' q hf q1 hat hg' k.1) n1)) (fun _ _ _ h => h) hI (fun _ _ _ => rfl)⟩
 ·obtain ⟨y1,q1⟩:=hfl' _ _ _ h1
  obtain ⟨y2,q2⟩:=hfl' _ _ _ h2
  exact hr.apart s o s' o' y1 y2 y y' g' q1 q2 h3 h4 h5 h6
set_option maxRecDepth 100000
def world_tick_r0 : IC:=cReg Try.prog [
  ⟨some 2,none,iAlo 2 [vD (.slice none 0 0),vD (.int .i64 0)]⟩,
  ⟨some 3,none,iMov 3 (.const (.int .i64 0)) true⟩] [1,2] [1,2]
def world_tick_r1_0 : IC:=cLe
def world_tick_r1_1 : IC:=cReg Try.prog [
  ⟨some 7,none,iFad 7 1 (.tmp 1)⟩,
  ⟨some 8,none,iLoad 8 1 false (.tmp 7) false⟩,
  ⟨some 9,none,iFad 9 0 (.tmp 1)⟩,
  ⟨some 10,none,iLoad 10 1 false (.tmp 9) false⟩,
  ⟨some 11,none,iLen 11 false (.tmp 10)⟩,
  ⟨some 12,none,iCall 12 24 [(.tmp 8),(.tmp 11)]⟩,
  ⟨some 6,none,iMov 6 (.tmp 12) false⟩,
  ⟨some 13,none,iExt 13 (.tmp 6) 0⟩,
  ⟨some 14,none,iExt 14 (.tmp 6) 1⟩,
  ⟨some 4,none,iMov 4 (.tmp 13) true⟩,
  ⟨some 5,none,iMov 5 (.tmp 14) true⟩] [1,2,4,5] [1,2,100001]
def world_tick_r1 : IC:=(cSeq world_tick_r1_0 world_tick_r1_1)
def world_tick_r2 : IC:=cReg Try.prog [
  ⟨some 15,none,iMov 15 (.tmp 5) false⟩,
  ⟨some 16,none,iBin 16 .neq (.tmp 15) (.const (.int .i64 0))⟩] [1,2,4,5,16] [1,2,100001]
def world_tick_r3 : IC:=cReg Try.prog [
  ⟨some 17,none,iLoad 17 2 true (.tmp 1) false⟩,
  ⟨some 18,none,iMov 18 (.tmp 5) false⟩,
  ⟨none,none,iStor 2 (.tmp 2) (.tmp 17)⟩,
  ⟨some 3,none,iMov 3 (.tmp 18) true⟩] [2,3] [2]
def world_tick_c1a : IC:=(cSeq world_tick_r3 cRet)
def world_tick_c1 : IC:=cCond (.tmp 16) world_tick_c1a cSkip
def world_tick_r4 : IC:=cRegD Try.prog [
  ⟨some 19,none,iFad 19 0 (.tmp 1)⟩,
  ⟨some 20,none,iLoad 20 1 false (.tmp 19) false⟩,
  ⟨some 21,none,iMov 21 (.tmp 4) false⟩,
  ⟨some 22,none,iFad 22 0 (.tmp 1)⟩,
  ⟨some 23,none,iLoad 23 1 false (.tmp 22) false⟩,
  ⟨some 24,none,iMov 24 (.tmp 4) false⟩,
  ⟨some 25,none,iIaS 25 17 (.tmp 23) (.tmp 24)⟩,
  ⟨some 26,none,iLoad 26 17 true (.tmp 25) false⟩,
  ⟨some 27,none,iCall 27 25 [(.tmp 26)]⟩,
  ⟨some 28,none,iIaS 28 17 (.tmp 20) (.tmp 21)⟩,
  ⟨none,none,iStor 17 (.tmp 28) (.tmp 27)⟩] [[],[0],[],[],[3],[],[4,5,3],[6,4,5,3],[7,6,4,5,3],[1,2,0,3,4,5,6,7,8],[9,8,0,1,2,3,4,5,6,7]] [1,2] [1,2]
def world_tick_r5 : IC:=cReg Try.prog [
  ⟨some 29,none,iFad 29 1 (.tmp 1)⟩,
  ⟨some 30,none,iLoad 30 1 false (.tmp 29) false⟩,
  ⟨some 31,none,iBin 31 .add (.tmp 30) (.const (.int .i64 1))⟩,
  ⟨some 32,none,iFad 32 1 (.tmp 1)⟩,
  ⟨none,none,iStor 1 (.tmp 32) (.tmp 31)⟩] [1,2] [1,2]
def world_tick_r6 : IC:=cReg Try.prog [
  ⟨some 33,none,iLoad 33 2 true (.tmp 1) false⟩,
  ⟨none,none,iStor 2 (.tmp 2) (.tmp 33)⟩,
  ⟨some 3,none,iMov 3 (.const (.int .i64 0)) true⟩] [2,3] [2]
def world_tick : IC:=cSeq world_tick_r0 (cSeq world_tick_r1 (cSeq (cSeq world_tick_r2 world_tick_c1) (cSeq world_tick_r4 (cSeq world_tick_r5 (cSeq world_tick_r6 cRet)))))
theorem toldI_world_tick {cs r : List D} {off e : Nat} {z : Pay} (h : world_tick ⟨[(1,pD 1 0),(0,aD cs)],[(1,cs)],[((1,some off),(e,z))]⟩ (fin [(2,some (2,true)),(3,none)] r)) : ToldI Try.prog 14 [aD cs] 0 (some off) e z r :=
 toldI_cell follows Try.func14 rfl rfl rfl rfl rfl (by decide +kernel) (rw:=[]) (cuts:=[]) (lv:=[1,2]) (lb:=[1,2]) (an:=[([(12000,[],[])],[1,2,4,5],[1,2,100001],[]),([],[1,2,4,5,16],[1,2,100001],[]),([],[2,3],[2],[]),([],[1,2],[1,2],[]),([],[1,2],[1,2],[]),([],[2,3],[2],[])]) (by kernel_rfl) (by kernel_rfl) (by kernel_rfl) (by decide +kernel) (by rw [fin_eq]; exact h)
def world_step_r0 : IC:=cReg Try.prog [
  ⟨some 2,none,iBox 2 (.tmp 0)⟩,
  ⟨some 3,none,iBox 3 (.tmp 1)⟩,
  ⟨some 4,none,iAlo 4 [vD (.slice none 0 0),vD (.int .i64 0),vD (.int .i64 0),vD (.int .i64 0),vD (.int .i64 0),vD (.slice none 0 0),vD (.int .i64 0),vD (.int .i64 0),vD (.slice none 0 0),vD (.int .i64 0),vD (.int .i64 0),vD (.int .i64 0),vD (.slice none 0 0),vD (.slice none 0 0),vD (.bool false),vD (.slice none 0 0),vD (.slice none 0 0)]⟩,
  ⟨some 5,none,iMov 5 (.const (.int .i64 0)) true⟩] [2,3,4] [2,3,4]
def world_step_r1 : IC:=cReg Try.prog [
  ⟨some 6,none,iMov 6 (.const (.int .i64 0)) true⟩] [2,3,4,6] [2,3,4]
def world_step_r2 : IC:=cReg Try.prog [
  ⟨some 7,none,iFad 7 0 (.tmp 3)⟩,
  ⟨some 8,none,iLoad 8 1 false (.tmp 7) false⟩] [2,3,4,6,8] [2,3,4]
def world_step_r3 : IC:=cReg Try.prog [
  ⟨some 10,none,iBin 10 .eql (.tmp 8) (.const (.int .i64 2))⟩,
  ⟨some 9,none,iMov 9 (.tmp 10) true⟩] [2,3,4,6,8,9] [2,3,4]
def world_step_r4 : IC:=cReg Try.prog [
  ⟨some 12,none,iFad 12 0 (.tmp 2)⟩,
  ⟨some 13,none,iLoad 13 7 true (.tmp 12) false⟩,
  ⟨some 14,none,iFad 14 5 (.tmp 3)⟩,
  ⟨some 15,none,iLoad 15 2 true (.tmp 14) false⟩,
  ⟨some 16,none,iCall 16 26 [(.tmp 13),(.tmp 15)]⟩,
  ⟨some 11,none,iMov 11 (.tmp 16) false⟩,
  ⟨some 17,none,iExt 17 (.tmp 11) 0⟩,
  ⟨some 18,none,iExt 18 (.tmp 11) 1⟩,
  ⟨some 19,none,iFad 19 0 (.tmp 2)⟩,
  ⟨none,none,iStor 7 (.tmp 19) (.tmp 17)⟩,
  ⟨some 6,none,iMov 6 (.tmp 18) true⟩] [2,4,6] [2,4]
def world_step_r5 : IC:=cReg Try.prog [
  ⟨some 21,none,iBin 21 .eql (.tmp 8) (.const (.int .i64 3))⟩,
  ⟨some 20,none,iMov 20 (.tmp 21) true⟩] [2,3,4,6,8,20] [2,3,4]
def world_step_r6 : IC:=cReg Try.prog [
  ⟨some 23,none,iLoad 23 17 true (.tmp 2) false⟩,
  ⟨some 24,none,iFad 24 2 (.tmp 3)⟩,
  ⟨some 25,none,iLoad 25 1 false (.tmp 24) false⟩,
  ⟨some 26,none,iFad 26 4 (.tmp 3)⟩,
  ⟨some 27,none,iLoad 27 1 false (.tmp 26) false⟩,
  ⟨some 28,none,iCall 28 27 [(.tmp 23),(.tmp 25),(.tmp 27)]⟩,
  ⟨some 22,none,iMov 22 (.tmp 28) false⟩,
  ⟨some 29,none,iExt 29 (.tmp 22) 0⟩,
  ⟨some 30,none,iExt 30 (.tmp 22) 1⟩,
  ⟨none,none,iStor 17 (.tmp 2) (.tmp 29)⟩,
  ⟨some 6,none,iMov 6 (.tmp 30) true⟩] [2,4,6] [2,4]
def world_step_r7 : IC:=cReg Try.prog [
  ⟨some 32,none,iBin 32 .eql (.tmp 8) (.const (.int .i64 4))⟩,
  ⟨some 31,none,iMov 31 (.tmp 32) true⟩] [2,3,4,6,8,31] [2,3,4]
def world_step_r8 : IC:=cReg Try.prog [
  ⟨some 34,none,iLoad 34 17 true (.tmp 2) false⟩,
  ⟨some 35,none,iFad 35 2 (.tmp 3)⟩,
  ⟨some 36,none,iLoad 36 1 false (.tmp 35) false⟩,
  ⟨some 37,none,iFad 37 4 (.tmp 3)⟩,
  ⟨some 38,none,iLoad 38 1 false (.tmp 37) false⟩,
  ⟨some 39,none,iCall 39 28 [(.tmp 34),(.tmp 36),(.tmp 38)]⟩,
  ⟨some 33,none,iMov 33 (.tmp 39) false⟩,
  ⟨some 40,none,iExt 40 (.tmp 33) 0⟩,
  ⟨some 41,none,iExt 41 (.tmp 33) 1⟩,
  ⟨none,none,iStor 17 (.tmp 2) (.tmp 40)⟩,
  ⟨some 6,none,iMov 6 (.tmp 41) true⟩] [2,4,6] [2,4]
def world_step_r9 : IC:=cReg Try.prog [
  ⟨some 43,none,iBin 43 .eql (.tmp 8) (.const (.int .i64 5))⟩,
  ⟨some 42,none,iMov 42 (.tmp 43) true⟩] [2,3,4,6,8,42] [2,3,4]
def world_step_r10 : IC:=cReg Try.prog [
  ⟨some 45,none,iLoad 45 17 true (.tmp 2) false⟩,
  ⟨some 46,none,iFad 46 2 (.tmp 3)⟩,
  ⟨some 47,none,iLoad 47 1 false (.tmp 46) false⟩,
  ⟨some 48,none,iFad 48 4 (.tmp 3)⟩,
  ⟨some 49,none,iLoad 49 1 false (.tmp 48) false⟩,
  ⟨some 50,none,iCall 50 29 [(.tmp 45),(.tmp 47),(.tmp 49)]⟩,
  ⟨some 44,none,iMov 44 (.tmp 50) false⟩,
  ⟨some 51,none,iExt 51 (.tmp 44) 0⟩,
  ⟨some 52,none,iExt 52 (.tmp 44) 1⟩,
  ⟨none,none,iStor 17 (.tmp 2) (.tmp 51)⟩,
  ⟨some 6,none,iMov 6 (.tmp 52) true⟩] [2,4,6] [2,4]
def world_step_r11 : IC:=cReg Try.prog [
  ⟨some 54,none,iBin 54 .eql (.tmp 8) (.const (.int .i64 6))⟩,
  ⟨some 53,none,iMov 53 (.tmp 54) true⟩] [2,3,4,6,53] [2,3,4]
def world_step_r12 : IC:=cReg Try.prog [
  ⟨some 56,none,iLoad 56 17 true (.tmp 2) false⟩,
  ⟨some 57,none,iFad 57 2 (.tmp 3)⟩,
  ⟨some 58,none,iLoad 58 1 false (.tmp 57) false⟩,
  ⟨some 59,none,iFad 59 3 (.tmp 3)⟩,
  ⟨some 60,none,iLoad 60 1 false (.tmp 59) false⟩,
  ⟨some 61,none,iFad 61 4 (.tmp 3)⟩,
  ⟨some 62,none,iLoad 62 1 false (.tmp 61) false⟩,
  ⟨some 63,none,iCall 63 30 [(.tmp 56),(.tmp 58),(.tmp 60),(.tmp 62)]⟩,
  ⟨some 55,none,iMov 55 (.tmp 63) false⟩,
  ⟨some 64,none,iExt 64 (.tmp 55) 0⟩,
  ⟨some 65,none,iExt 65 (.tmp 55) 1⟩,
  ⟨none,none,iStor 17 (.tmp 2) (.tmp 64)⟩,
  ⟨some 6,none,iMov 6 (.tmp 65) true⟩] [2,4,6] [2,4]
def world_step_c6 : IC:=cCond (.tmp 53) world_step_r12 cSkip
def world_step_c5b : IC:=(cSeq world_step_r11 world_step_c6)
def world_step_c5 : IC:=cCond (.tmp 42) world_step_r10 world_step_c5b
def world_step_c4b : IC:=(cSeq world_step_r9 world_step_c5)
def world_step_c4 : IC:=cCond (.tmp 31) world_step_r8 world_step_c4b
def world_step_c3b : IC:=(cSeq world_step_r7 world_step_c4)
def world_step_c3 : IC:=cCond (.tmp 20) world_step_r6 world_step_c3b
def world_step_c2b : IC:=(cSeq world_step_r5 world_step_c3)
def world_step_c2 : IC:=cCond (.tmp 9) world_step_r4 world_step_c2b
def world_step_b1 : IC:=cBlock 0 (cSeq world_step_r3 world_step_c2)
def world_step_r13 : IC:=cReg Try.prog [
  ⟨some 66,none,iLoad 66 17 true (.tmp 2) false⟩,
  ⟨some 67,none,iMov 67 (.tmp 6) false⟩,
  ⟨none,none,iStor 17 (.tmp 4) (.tmp 66)⟩,
  ⟨some 5,none,iMov 5 (.tmp 67) true⟩] [4,5] [4]
def world_step : IC:=(cSeq world_step_r0 (cSeq world_step_r1 (cSeq (cSeq world_step_r2 world_step_b1) (cSeq world_step_r13 cRet))))
theorem told_world_step {args r : List D} (hl : args.length = 2) (h : world_step (start args) (fin [(4,some (17,true)),(5,none)] r)) : Told Try.prog 15 args r :=
 told_of follows Try.func15 rfl (an:=[([],[2,3,4],[2,3,4],[]),([],[2,3,4,6],[2,3,4],[]),([],[2,3,4,6,8],[2,3,4],[]),([],[2,3,4,6,8,9],[2,3,4],[]),([],[2,4,6],[2,4],[]),([],[2,3,4,6,8,20],[2,3,4],[]),([],[2,4,6],[2,4],[]),([],[2,3,4,6,8,31],[2,3,4],[]),([],[2,4,6],[2,4],[]),([],[2,3,4,6,8,42],[2,3,4],[]),([],[2,4,6],[2,4],[]),([],[2,3,4,6,53],[2,3,4],[]),([],[2,4,6],[2,4],[]),([],[4,5],[4],[])]) (by kernel_rfl) (by kernel_rfl) (by rw [hl]; decide +kernel) h
def world_Do_r0 : IC:=cReg Try.prog [
  ⟨some 2,none,iBox 2 (.tmp 0)⟩,
  ⟨some 3,none,iBox 3 (.tmp 1)⟩,
  ⟨some 4,none,iAlo 4 [vD (.slice none 0 0),vD (.int .i64 0)]⟩,
  ⟨some 5,none,iMov 5 (.const (.int .i64 0)) true⟩] [2,3,4] [2,3,4]
def world_Do_r1_0 : IC:=cOwn Try.prog 2 7 8 11 2
def world_Do_r1_1 : IC:=cReg Try.prog [] [2,3,4] [2,3,4]
def world_Do_r1 : IC:=(cSeq world_Do_r1_0 world_Do_r1_1)
def world_Do_r2 : IC:=cReg Try.prog [
  ⟨some 10,none,iFad 10 0 (.tmp 3)⟩,
  ⟨some 11,none,iLoad 11 1 false (.tmp 10) false⟩,
  ⟨some 12,none,iBin 12 .eql (.tmp 11) (.const (.int .i64 1))⟩,
  ⟨some 9,none,iMov 9 (.tmp 12) true⟩] [2,3,4,9] [2,3,4]
def world_Do_r3_0 : IC:=cInn Try.prog 2 13 14 14 2
def world_Do_r3_1 : IC:=cReg Try.prog [
  ⟨some 15,none,iExt 15 (.tmp 14) 0⟩,
  ⟨some 16,none,iExt 16 (.tmp 14) 1⟩,
  ⟨none,none,iStor 2 (.tmp 4) (.tmp 15)⟩,
  ⟨some 5,none,iMov 5 (.tmp 16) true⟩] [4,5] [4]
def world_Do_r3 : IC:=(cSeq world_Do_r3_0 world_Do_r3_1)
def world_Do_r4 : IC:=cReg Try.prog [
  ⟨some 18,none,iFad 18 0 (.tmp 3)⟩,
  ⟨some 19,none,iLoad 19 1 false (.tmp 18) false⟩,
  ⟨some 20,none,iBin 20 .lss (.tmp 19) (.const (.int .i64 1))⟩,
  ⟨some 21,none,iMov 21 (.tmp 20) false⟩,
  ⟨some 22,some (21,false),iFad 22 0 (.tmp 3)⟩,
  ⟨some 23,some (21,false),iLoad 23 1 false (.tmp 22) false⟩,
  ⟨some 24,some (21,false),iBin 24 .gtr (.tmp 23) (.const (.int .i64 6))⟩,
  ⟨some 25,none,iPick 25 (.tmp 21) (.const (.bool true)) (.tmp 24)⟩,
  ⟨some 17,none,iMov 17 (.tmp 25) true⟩] [2,3,4,17] [2,3,4]
def world_Do_r5_0 : IC:=cLe
def world_Do_r5_1 : IC:=cReg Try.prog [
  ⟨some 26,none,iLoad 26 2 true (.tmp 2) false⟩,
  ⟨none,none,iStor 2 (.tmp 4) (.tmp 26)⟩,
  ⟨some 5,none,iMov 5 (.const (.int .i64 1)) true⟩] [4,5] [4]
def world_Do_r5 : IC:=(cSeq world_Do_r5_0 world_Do_r5_1)
def world_Do_r6_0 : IC:=cLe
def world_Do_r6_1 : IC:=cReg Try.prog [
  ⟨some 28,none,iFad 28 1 (.tmp 3)⟩,
  ⟨some 29,none,iLoad 29 1 false (.tmp 28) false⟩,
  ⟨some 30,none,iBin 30 .lss (.tmp 29) (.const (.int .i64 0))⟩,
  ⟨some 31,none,iMov 31 (.tmp 30) false⟩,
  ⟨some 32,some (31,false),iFad 32 1 (.tmp 3)⟩,
  ⟨some 33,some (31,false),iLoad 33 1 false (.tmp 32) false⟩,
  ⟨some 34,some (31,false),iFad 34 0 (.tmp 2)⟩,
  ⟨some 35,some (31,false),iLoad 35 1 false (.tmp 34) false⟩,
  ⟨some 36,some (31,false),iLen 36 false (.tmp 35)⟩,
  ⟨some 37,some (31,false),iBin 37 .geq (.tmp 33) (.tmp 36)⟩,
  ⟨some 38,none,iPick 38 (.tmp 31) (.const (.bool true)) (.tmp 37)⟩,
  ⟨some 27,none,iMov 27 (.tmp 38) true⟩] [2,3,4,27] [2,3,4,100002]
def world_Do_r6 : IC:=(cSeq world_Do_r6_0 world_Do_r6_1)
def world_Do_r7_0 : IC:=cLe
def world_Do_r7_1 : IC:=cReg Try.prog [
  ⟨some 39,none,iLoad 39 2 true (.tmp 2) false⟩,
  ⟨none,none,iStor 2 (.tmp 4) (.tmp 39)⟩,
  ⟨some 5,none,iMov 5 (.const (.int .i64 6)) true⟩] [4,5] [4]
def world_Do_r7 : IC:=(cSeq world_Do_r7_0 world_Do_r7_1)
def world_Do_c4a : IC:=(cSeq world_Do_r7 cRet)
def world_Do_c4 : IC:=cCond (.tmp 27) world_Do_c4a cSkip
def world_Do_c3a : IC:=(cSeq world_Do_r5 cRet)
def world_Do_c3b : IC:=(cSeq world_Do_r6 world_Do_c4)
def world_Do_c3 : IC:=cCond (.tmp 17) world_Do_c3a world_Do_c3b
def world_Do_c2a : IC:=(cSeq world_Do_r3 cRet)
def world_Do_c2b : IC:=(cSeq world_Do_r4 world_Do_c3)
def world_Do_c2 : IC:=cCond (.tmp 9) world_Do_c2a world_Do_c2b
def world_Do_b1 : IC:=cBlock 0 (cSeq world_Do_r2 world_Do_c2)
def world_Do_r8 : IC:=cReg Try.prog [
  ⟨some 6,none,iMov 6 (.const (.int .i64 0)) true⟩] [2,3,4] [2,3,4,100002]
def world_Do_r9 : IC:=cRegD Try.prog [
  ⟨some 41,none,iFad 41 0 (.tmp 2)⟩,
  ⟨some 42,none,iLoad 42 1 false (.tmp 41) false⟩,
  ⟨some 43,none,iFad 43 1 (.tmp 3)⟩,
  ⟨some 44,none,iLoad 44 1 false (.tmp 43) false⟩,
  ⟨some 45,none,iFad 45 0 (.tmp 2)⟩,
  ⟨some 46,none,iLoad 46 1 false (.tmp 45) false⟩,
  ⟨some 47,none,iFad 47 1 (.tmp 3)⟩,
  ⟨some 48,none,iLoad 48 1 false (.tmp 47) false⟩,
  ⟨some 49,none,iIaS 49 17 (.tmp 46) (.tmp 48)⟩,
  ⟨some 50,none,iLoad 50 17 true (.tmp 49) false⟩,
  ⟨some 51,none,iLoad 51 7 true (.tmp 3) false⟩,
  ⟨some 52,none,iCall 52 15 [(.tmp 50),(.tmp 51)]⟩,
  ⟨some 40,none,iMov 40 (.tmp 52) false⟩,
  ⟨some 53,none,iExt 53 (.tmp 40) 0⟩,
  ⟨some 54,none,iExt 54 (.tmp 40) 1⟩,
  ⟨some 55,none,iIaS 55 17 (.tmp 42) (.tmp 44)⟩,
  ⟨none,none,iStor 17 (.tmp 55) (.tmp 53)⟩,
  ⟨some 6,none,iMov 6 (.tmp 54) true⟩] [[],[0],[],[2],[],[4],[],[6],[5,7,4,6],[8,5,7,4,6],[],[9,10,8,5,7,4,6],[11,9,10,8,5,7,4,6],[12,11,9,10,8,5,7,4,6],[12,11,9,10,8,5,7,4,6],[1,3,0,2,4,5,6,7,8,9,10,11,12,13],[15,13,11,0,1,2,3,4,5,6,7,8,9,10,12],[14,16,0,1,2,3,4,5,6,7,8,9,10,11,12,13,15]] [2,4,6] [2,4]
def world_Do_r10 : IC:=cReg Try.prog [
  ⟨some 56,none,iLoad 56 2 true (.tmp 2) false⟩,
  ⟨some 57,none,iMov 57 (.tmp 6) false⟩,
  ⟨none,none,iStor 2 (.tmp 4) (.tmp 56)⟩,
  ⟨some 5,none,iMov 5 (.tmp 57) true⟩] [4,5] [4]
def world_Do : IC:=(cSeq world_Do_r0 (cSeq world_Do_r1 (cSeq world_Do_b1 (cSeq world_Do_r8 (cSeq world_Do_r9 (cSeq world_Do_r10 cRet))))))
theorem told_world_Do {args r : List D} (hl : args.length = 2) (h : world_Do (start args) (fin [(4,some (2,true)),(5,none)] r)) : Told Try.prog 7 args r :=
 told_of follows Try.func7 rfl (an:=[([],[2,3,4],[2,3,4],[]),([(1003,[],[])],[2,3,4],[2,3,4],[]),([],[2,3,4,9],[2,3,4],[]),([(3002,[],[])],[4,5],[4],[]),([],[2,3,4,17],[2,3,4],[]),([(12000,[],[])],[4,5],[4],[]),([(12000,[],[])],[2,3,4,27],[2,3,4,100002],[]),([(12000,[],[])],[4,5],[4],[]),([],[2,3,4],[2,3,4,100002],[]),([],[2,4,6],[2,4],[]),([],[4,5],[4],[])]) (by kernel_rfl) (by kernel_rfl) (by rw [hl]; decide +kernel) h
end Go.Proofs.Ytgfljlmonaifgac.ab
