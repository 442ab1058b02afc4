import Derived.Test.YtgaofjiidedcbadM37
import Derived.Test.YtgaofjiidedcbadM46
import Derived.Test.YtgaofjiidedcbadM43
import Derived.Test.YtgaofjiidedcbadM38
import Derived.Test.YtgaofjiidedcbadM20
import Derived.Test.YtgaofjiidedcbadProg
import Derived.Test.YtgaofjiidedcbadM29
import Derived.Test.YtgaofjiidedcbadPLane3
import Derived.Test.YtgaofjiidedcbadM33
import Derived.Test.YtgaofjiidedcbadM36
import Derived.Test.YtgaofjiidedcbadM27
import Derived.Test.YtgaofjiidedcbadM22
import Derived.Deep.RegionWith
import Derived.BigRegion
set_option maxHeartbeats 4000000
set_option linter.unusedVariables false
set_option linter.unusedSimpArgs false
namespace Go.Proofs.Ytgaofjiidedcbad.ab
theorem landW_own : CWOwn 20:=ownWd_told landL_own
theorem landW_new : CWNew 18:=newWd_told
theorem landW_do : CWDo 19:=lDo_told landL_own landL_speak (fun s m h => lput_told s m h) landL_come landL_lose landL_twice landL_spoil
theorem landF_playX : CFPlay 9:=landF_play landW_new landW_do
theorem landF_roundX : CFRound 17:=landF_round landL_own landL_come landW_do
theorem landF_settleX : CFSettle 10:=landF_settle landW_own landF_roundX landK_still
set_option maxRecDepth 100000
open Go Go.RowKit
def Q58r0 : IC:=cReg Try.prog [xX 2 0,⟨some 4,none,iAlo 4 [zS,zI,zI,zI,zI,zS,zI,zI,zS,zI,zI,zI,zS,zS,zF,zS,zS]⟩,⟨some 5,none,iMov 5 (.const (.bool false)) true⟩] [1,2,4] [2,4]
def Q58r1 : IC:=cReg Try.prog [xM 6 1,xC 7 .lss 6 0,xM 8 7,xG 8 false (xM 9 1),xG 8 false (xF 10 0 2),xG 8 false (xL 11 1 10),xG 8 false (xN 12 11),xG 8 false (xB 13 .geq 9 12),xP 14 8 13] [1,2,4,14] [2,4]
def Q58r2 : IC:=cReg Try.prog [⟨some 15,none,iBld 15 [zS,zI,zI,zI,zI,zS,zI,zI,zS,zI,zI,zI,zS,zS,zF,zS,zS] [] []⟩,xS 17 4 15,⟨some 5,none,iMov 5 (.const (.bool false)) true⟩] [4,5] [4]
def Q58c1a : IC:=(cSeq Q58r2 cRet)
def Q58c1 : IC:=cCond (.tmp 14) Q58c1a cSkip
def Q58r3 : IC:=cReg Try.prog [xF 16 0 2,xL 17 1 16,xM 18 1,xI 19 17 17 18,xA 20 17 19,xV1 21 24 20,xS 17 4 21,⟨some 5,none,iMov 5 (.const (.bool true)) true⟩] [4,5] [4]
def view_Of : IC:=(cSeq Q58r0 (cSeq (cSeq Q58r1 Q58c1) (cSeq Q58r3 cRet)))
theorem told_view_Of {args r : List D} (hl : args.length = 2) (h : view_Of (start args) (fin [(4,some (17,true)),(5,none)] r)) : Told Try.prog 15 args r :=
 told_of follows Try.func15 rfl (an:=[([],[1,2,4],[2,4],[]),([],[1,2,4,14],[2,4],[]),([],[4,5],[4],[]),([],[4,5],[4],[])]) (by kernel_rfl) (by kernel_rfl) (by rw [hl]; decide +kernel) h
set_option maxRecDepth 100000
open mth
theorem landV_of (hO : CLOwn 24) : CVOf 15:=by
 intro w t hw
 refine told_view_Of rfl ?_
 have hwn:=hw.n
 by_cases h1 : t < 0
 ·rw [of_out (.inl h1)]
  simp only [encWd,encLn,zeroL,zeroS,zeroR,encMl,encCl,encPk,List.map_nil]
  refine wk @h1 ?_
  repeat' (first | exact vals_nil | exact row_nil | exact es_nil | exact CVLe.refl _ | exact LfLe.refl _ | exact LfLe.nil _ | exact EsLe.refl _ | refine vals_cons ?_ ?_ | refine row_cons ?_ ?_ | refine es_cons ?_ ?_ | refine EsLe.app ?_ ?_ | refine CVLe.row ?_ | refine CVLe.leafV ?_ | refine CVLe.leafS ?_ | refine LfLe.s ?_)
 by_cases h2 : (w.lanes.length : Int) ≤ t
 ·rw [of_out (.inr h2)]
  simp only [encWd,encLn,zeroL,zeroS,zeroR,encMl,encCl,encPk,List.map_nil]
  refine wk (an3 @h1 @h2 @len_ll) ?_
  repeat' (first | exact vals_nil | exact row_nil | exact es_nil | exact CVLe.refl _ | exact LfLe.refl _ | exact LfLe.nil _ | exact EsLe.refl _ | refine vals_cons ?_ ?_ | refine row_cons ?_ ?_ | refine es_cons ?_ ?_ | refine EsLe.app ?_ ?_ | refine CVLe.row ?_ | refine CVLe.leafV ?_ | refine CVLe.leafS ?_ | refine LfLe.s ?_)
 obtain ⟨u,rfl⟩ : ∃ u : Nat,t = u:=⟨t.toNat,by omega⟩
 obtain ⟨x,hx⟩ : ∃ x,w.lanes[u]? = some x:=⟨w.lanes[u],List.getElem?_eq_getElem (by omega)⟩
 rw [of_in (by omega)]
 have e : w.lanes.getD u zeroL = x:=by rw [List.getD_eq_getElem?_getD,hx]; rfl
 rw [e]
 have g2 : (0 : Int) ≤ (u : Int):=by omega
 have g3:=at_ll hx
 have o1:=hO x (hw.l _ (List.mem_of_getElem? hx))
 simp only [encWd,encLn] at g3 o1 ⊢
 refine wk (an6 @h1 @h2 @g2 @g3 @len_ll @Int.toNat_natCast) ?_
 refine cg [[aD (encLn x)]] (an7 @encLn.eq_1 @h1 @h2 @g2 @g3 @len_ll @Int.toNat_natCast) ?_ ?_
 ·exact obl_cons o1 obl_nil
 refine wk0 ?_
 exact ValsLe.refl _
end Go.Proofs.Ytgaofjiidedcbad.ab
namespace Go.Proofs.Ytgaofjiidedcbad.leaf
set_option maxRecDepth 10000
open Go.RowKit
open mth
def I64 (n : Int) : Prop:=-9223372036854775808 ≤ n ∧ n ≤ 9223372036854775807
def Is (w : World) (v : Value) (xs : List Int) : Prop :=
 ∃ (a : Option Addr) (cap : Nat),v = .slice a xs.length cap ∧ xs.length ≤ cap ∧ (a = none → cap = 0) ∧ (∀ i,i < xs.length → ∃ x,a = some x ∧ w.cell? (x.add i) = some (.int .i64 (xs.getD i 0))) ∧ (∀ n ∈ xs,I64 n) ∧ cap ≤ maxLen
theorem Is.later {w w' : World} {v : Value} {xs : List Int} (h : Is w v xs) (hb : Below w.heap.size w w') : Is w' v xs:=by
 obtain ⟨a,cap,rfl,hlc,hno,hc,hn,hm⟩:=h
 refine ⟨a,cap,rfl,hlc,hno,fun i hi => ?_,hn,hm⟩
 obtain ⟨x,rfl,hcc⟩:=hc i hi
 exact ⟨x,rfl,(hb.cell (World.block_lt_of_cell? w _ hcc)).trans hcc⟩
theorem Is.drewN {w : World} {v : Value} {xs : List Int} (h : Is w v xs) (n : Nat) : Is (w.drewN n) v xs:=h
theorem Is.num {w : World} {v : Value} {xs : List Int} (h : Is w v xs) : ∀ n ∈ xs,I64 n:=by
 obtain ⟨a,cap,rfl,_,_,_,hn,_⟩:=h; exact hn
theorem Is.at {w : World} {a : Option Addr} {n cap : Nat} {xs : List Int} (h : Is w (.slice a n cap) xs) (hp : xs.length ≠ 0) : ∃ b off,a = some ⟨b,off,none⟩ ∧ ∀ j x,xs[j]? = some x → w.cell? ⟨b,off + j,none⟩ = some (.int .i64 x):=by
 obtain ⟨a',cap',he,hlc,hno,hc,hn,hm⟩:=h
 injection he with h1 _ h2
 subst h1 h2
 obtain ⟨x,rfl,hc0⟩:=hc 0 (by omega)
 obtain ⟨b,off,spot⟩:=x
 have hspot : spot = none:=by simpa [Addr.add] using World.cell?_spot hc0
 subst hspot
 refine ⟨b,off,rfl,fun j y hy => ?_⟩
 have hj : j < xs.length:=(List.getElem?_eq_some_iff.1 hy).1
 obtain ⟨x',hx',hcc⟩:=hc j hj
 simp at hx'
 subst hx'
 rw [Addr.add_lit] at hcc
 rw [hcc]
 simp [List.getD,hy]
theorem some_at {α : Type} {xs : List α} {k : Nat} (h : k < xs.length) : ∃ x,xs[k]? = some x:=⟨xs[k],List.getElem?_eq_getElem h⟩
set_option maxRecDepth 10000
theorem ite3 (s : Int) (d : List UInt8) (n : Int) (h : n = if s < 0 ∨ 2 < s then 3 else if 6 < d.length then 4 else 0) : Ending.returned (.int .i64 n) = .returned (.int .i64 (wrongMsgL s d)):=by
 rw [h]; rfl
def Cv (w : World) (v : Value) (c : Ch) : Prop :=
 ∃ dv ev,v = .agg #[.int .i64 c.kind,.int .i64 c.number,.int .i64 c.stream,.int .i64 c.place,dv,ev] ∧ Bs w dv c.data ∧ Is w ev c.early ∧ c.data.length ≤ maxLen ∧ I64 c.kind ∧ I64 c.number ∧ I64 c.stream ∧ I64 c.place
theorem Cv.later {w w' : World} {v : Value} {c : Ch} (h : Cv w v c) (hb : Below w.heap.size w w') : Cv w' v c:=by
 obtain ⟨dv,ev,rfl,h1,h2,r⟩:=h
 exact ⟨dv,ev,rfl,h1.later hb,h2.later hb,r⟩
set_option maxRecDepth 10000
end Go.Proofs.Ytgaofjiidedcbad.leaf
