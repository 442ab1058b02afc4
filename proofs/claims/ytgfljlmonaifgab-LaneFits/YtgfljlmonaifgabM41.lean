import Derived.Test.YtgfljlmonaifgabAbsHandX
import Derived.Test.YtgfljlmonaifgabM20
import Derived.Test.YtgfljlmonaifgabProg
set_option linter.unusedVariables false
set_option linter.unusedSimpArgs false
namespace Go.Proofs.Ytgfljlmonaifgab.ab
open Go Go.RowKit
theorem own_repN {base : Nat → Prop} {I : Still} {ρ : Nat → Option Nat} {w : World} {e z : Nat} {es : List D} {u : Value} (h : Own I ρ base w e (z,some es) u) {I1 : Still} (hI : ∀ b j,I b j → I1 b j) (hu : ∀ g j,u.ownBlock = some g → j < es.length * z → I1 g j) : CRep I1 w (sD z es) u:=by
 obtain ⟨n,xs,hrow,_,hh⟩:=h
 obtain ⟨hn,hel⟩:=hh es rfl
 simp only at hrow hel
 subst hn
 rcases hrow.2 with ⟨q1,q2⟩ | ⟨g,cap,cur,q1,_,hg,hnc,hcm,hcs,htk⟩
 ·have : es = []:=List.eq_nil_of_length_eq_zero q2
  subst this; rw [q1]; exact nil_rep z
 ·rw [q1]
  refine CRep.s ⟨fun i j => (xs[i * z + j]?).getD undef,hnc,(fun e => by cases e),hcm,hel.1,fun hne => ⟨g,0,rfl,fun i j hi hj => ?_⟩,fun i j x l hx hl => ?_⟩
  ·have hlt : i * z + j < xs.length:=by rw [hrow.1]; exact cell_in hi hj
   refine ⟨?_,?_⟩
   ·show _ = some ((xs[i * z + j]?).getD undef)
    rw [show 0 + i * z + j = i * z + j by omega,cell_of_row w g _ cur e (0,0) hg,List.getElem?_eq_getElem hlt]
    have h3 : xs[i * z + j]? = cur[i * z + j]?:=by
     rw [← htk,List.getElem?_take,if_pos (cell_in hi hj)]; simp
    rw [← h3,List.getElem?_eq_getElem hlt]; rfl
   ·rw [show 0 + i * z + j = i * z + j by omega]
    exact hu g _ (by rw [q1]; rfl) (cell_in hi hj)
  ·obtain ⟨y,r1,r2⟩:=hel.2.2 i j x l hx hl
   show CRep _ _ l ((xs[i * z + j]?).getD undef)
   rw [r1]
   exact r2.keep hI (fun _ _ _ => rfl)
theorem le_openH {st : St} {b off e z : Nat} {es cs : List D} (hlt : b < 100000) (hb : look st.bx b = some cs) (hoff : off < cs.length) (hf : lookF st.fl (b,some off) = some (e,z,some es)) :
  Le st ⟨st.tm,(b,over cs off [sD z es]) :: st.bx,((b,some off),(e,z,none)) :: offP st.fl [(b,some off)]⟩:=by
 intro base w0 I0 N a w ⟨I,ρ,hr⟩
 obtain ⟨u,hat,hown⟩:=hr.fl b (some off) e (z,some es) hf
 obtain ⟨gb,hgb,hbb,hbox,hnIb⟩:=hr.bx b cs hb
 obtain ⟨us,tyB,hblk,hrowL⟩:=hbox.cells hlt
 have huo : us[off]? = some u:=by
  simp only [At,hgb,Option.bind_some] at hat
  rw [cell_of_row w gb off us.toArray tyB (0,0) hblk] at hat
  simpa using hat
 let I' : Still:=fun k j => I k j ∨ (u.ownBlock = some k ∧ k < w.heap.size ∧ j < es.length * z)
 have hI : ∀ k j,I k j → I' k j:=fun _ _ => .inl
 have hrep : CRep I' w (sD z es) u:=own_repN hown hI (fun k j hk hj => .inr ⟨hk,(own_lt hown k hk).2,hj⟩)
 have hfl : ∀ s o x,lookF (((b,some off),(e,z,none)) :: offP st.fl [(b,some off)]) (s,o) = some x → ((s = b ∧ o = some off) ∧ x = (e,z,none)) ∨ (¬ (s = b ∧ o = some off) ∧ st.F.fl s o = some x):=by
  intro s o x hx
  simp only [lookF] at hx
  split at hx
  ·rename_i hm; cases hx; cases hm; exact .inl ⟨⟨rfl,rfl⟩,rfl⟩
  ·rw [lookF_off] at hx
   split at hx
   ·cases hx
   ·rename_i hm
    simp only [List.mem_singleton,Prod.mk.injEq] at hm
    exact .inr ⟨hm,hx⟩
 have hfl' : ∀ s o x,lookF (((b,some off),(e,z,none)) :: offP st.fl [(b,some off)]) (s,o) = some x → ∃ y,st.F.fl s o = some y:=fun s o x hx => by
  rcases hfl s o x hx with ⟨⟨rfl,rfl⟩,_⟩ | ⟨_,q⟩
  ·exact ⟨_,hf⟩
  ·exact ⟨_,q⟩
 have hρu : ∀ c g,ρ c = some g → u.ownBlock ≠ some g:=fun c g hc hu => by
  obtain ⟨n,xs,_,k2,_⟩:=hown
  exact (k2 g hu).2.2 c hc
 refine ⟨I',ρ,hr.defers,hr.size,fun s v hv => ?_,hr.cap,fun c o' x hx => by obtain ⟨y,q⟩:=hfl' _ _ _ hx; exact hr.flc c o' y q,fun c ds hc => ?_,hr.inj,fun c hc => ?_,fun s o e' z' hx => ?_,fun s o s' o' x x' y y' g' h1 h2 h3 h4 h5 h6 => ?_,fun k j hi => hi.elim (hr.lt k j) (fun q => q.2.1),fun k j hi => hi.elim (hr.sub k j) (fun q => .inr (own_lt hown k q.1).1),hr.below,hr.room,fun k j hi => ⟨hI k j (hr.mon k j hi).1,(hr.mon k j hi).2⟩⟩
 ·obtain ⟨y,q1,q2⟩:=hr.tm s v hv
  exact ⟨y,q1,q2.keep hI (fun _ _ _ h => h) (fun _ _ _ => rfl)⟩
 ·have hc' : look ((b,over cs off [sD z es]) :: st.bx) c = some ds:=hc
  simp only [look] at hc'
  split at hc'
  ·rename_i ebc; cases hc'; subst ebc
   refine ⟨gb,hgb,hbb,.inl ⟨hlt,us,tyB,hblk,by rw [over_len (by simp; omega)]; exact hrowL.1,fun j c' y hj hy => ?_⟩,fun j hj => hj.elim (hnIb j) (fun q => hρu _ _ hgb q.1)⟩
   by_cases hjo : j = off
   ·subst hjo
    have:=over_in (cs:=cs) (ds:=[sD z es]) (off:=j) (j:=0) (by simp; omega) (by simp)
    rw [Nat.add_zero] at this
    rw [this] at hj
    simp at hj; subst hj
    rw [huo] at hy; cases hy
    exact .inl hrep
   ·rw [over_out (by simp; omega) (by simp; omega)] at hj
    exact (hrowL.2 j c' y hj hy).keep hI (fun _ _ _ h => h) (fun _ _ _ => rfl)
  ·obtain ⟨g',q1,q2,q3,q4⟩:=hr.bx c ds hc'
   exact ⟨g',q1,q2,q3.keep hI (fun _ _ _ h => h) (fun _ _ _ => rfl) rfl,fun j hj => hj.elim (q4 j) (fun q => hρu _ _ q1 q.1)⟩
 ·have hc' : look ((b,over cs off [sD z es]) :: st.bx) c = none:=hc
  simp only [look] at hc'
  split at hc'
  ·cases hc'
  ·exact hr.nob c hc'
 ·rcases hfl _ _ _ hx with ⟨⟨rfl,rfl⟩,q⟩ | ⟨n1,q⟩
  ·cases q
   obtain ⟨n,xs,k1,k2,k3⟩:=hown
   obtain ⟨k4,_⟩:=k3 es rfl
   refine ⟨u,hat,n,xs,k1,fun g hg => ⟨(k2 g hg).1,fun j hj hi => ?_,(k2 g hg).2.2⟩,fun es he => by cases he⟩
   rcases hi with hi | hi
   ·exact (k2 g hg).2.1 j (fun q => by cases q) hi
   ·have:=hj rfl; simp only at this; rw [k4] at this; omega
  ·obtain ⟨y,q1,q2⟩:=hr.fl s o e' z' q
   refine ⟨y,q1,own_keep q2 (fun _ _ => rfl) (fun g' j hg' hi => hi.elim id (fun k => absurd (hr.apart s o b (some off) _ _ y u g' q hf q1 hat hg' k.1) n1)) (fun _ _ _ h => h) hI (fun _ _ _ => rfl)⟩
 ·obtain ⟨y1,q1⟩:=hfl' _ _ _ h1
  obtain ⟨y2,q2⟩:=hfl' _ _ _ h2
  exact hr.apart s o s' o' y1 y2 y y' g' q1 q2 h3 h4 h5 h6
set_option maxRecDepth 100000
def lane_Speak_r0 : IC:=cReg Try.prog [
  ⟨some 1,none,iBox 1 (.tmp 0)⟩,
  ⟨some 2,none,iAlo 2 [vD (.slice none 0 0),vD (.int .i64 0),vD (.int .i64 0),vD (.int .i64 0),vD (.int .i64 0),vD (.slice none 0 0),vD (.int .i64 0),vD (.int .i64 0),vD (.slice none 0 0),vD (.int .i64 0),vD (.int .i64 0),vD (.int .i64 0),vD (.slice none 0 0),vD (.slice none 0 0),vD (.bool false),vD (.slice none 0 0),vD (.slice none 0 0)]⟩] [1,2] [1,2]
def lane_Speak_r1_0 : IC:=cXs Try.prog 1 5 6 34 17 none
def lane_Speak_r1_1 : IC:=cReg Try.prog [] [1,2] [1,2]
def lane_Speak_r1 : IC:=(cSeq lane_Speak_r1_0 lane_Speak_r1_1)
def lane_Speak_r2_0 : IC:=cLe
def lane_Speak_r2_1 : IC:=cReg Try.prog [
  ⟨some 3,none,iAlo 3 [vD (.int .i64 0),vD (.int .i64 0),vD (.int .i64 0),vD (.int .i64 0),vD (.slice none 0 0),vD (.slice none 0 0)]⟩] [1,2,3] [1,2,3]
def lane_Speak_r2 : IC:=(cSeq lane_Speak_r2_0 lane_Speak_r2_1)
def lane_Speak_r3 : IC:=cReg Try.prog [
  ⟨some 4,none,iMov 4 (.const (.bool false)) true⟩] [1,2,3] [1,2,3]
def lane_Speak_r4 : IC:=cReg Try.prog [
  ⟨some 8,none,iFad 8 0 (.tmp 1)⟩,
  ⟨some 9,none,iLoad 9 7 true (.tmp 8) false⟩,
  ⟨some 10,none,iCall 10 17 [(.tmp 9)]⟩,
  ⟨some 7,none,iMov 7 (.tmp 10) false⟩,
  ⟨some 11,none,iExt 11 (.tmp 7) 0⟩,
  ⟨some 12,none,iExt 12 (.tmp 7) 1⟩,
  ⟨some 13,none,iExt 13 (.tmp 7) 2⟩,
  ⟨some 14,none,iFad 14 0 (.tmp 1)⟩,
  ⟨none,none,iStor 7 (.tmp 14) (.tmp 11)⟩,
  ⟨none,none,iStor 6 (.tmp 3) (.tmp 12)⟩,
  ⟨some 4,none,iMov 4 (.tmp 13) true⟩] [1,2,3,4] [1,2,3]
def lane_Speak_r5 : IC:=cReg Try.prog [
  ⟨some 15,none,iMov 15 (.tmp 4) false⟩] [1,2,3,15] [1,2,3]
def lane_Speak_r6 : IC:=cRegD Try.prog [
  ⟨some 16,none,iFad 16 15 (.tmp 1)⟩,
  ⟨some 17,none,iLoad 17 1 false (.tmp 16) true⟩,
  ⟨some 18,none,iLoad 18 6 true (.tmp 3) false⟩,
  ⟨some 19,none,iCall 19 77 [(.tmp 18)]⟩,
  ⟨some 20,none,iCall 20 76 [(.tmp 17),(.tmp 19)]⟩,
  ⟨some 21,none,iFad 21 15 (.tmp 1)⟩,
  ⟨none,none,iStor 1 (.tmp 21) (.tmp 20)⟩] [[],[0],[],[2],[1,3,0,2],[0,1,2,3,4],[5,4,0,1,2,3]] [1,2,3] [1,2,3]
def lane_Speak_c1 : IC:=cCond (.tmp 15) lane_Speak_r6 cSkip
def lane_Speak_r7 : IC:=cReg Try.prog [
  ⟨some 23,none,iFad 23 7 (.tmp 1)⟩,
  ⟨some 24,none,iLoad 24 8 true (.tmp 23) false⟩,
  ⟨some 25,none,iCall 25 22 [(.tmp 24)]⟩,
  ⟨some 22,none,iMov 22 (.tmp 25) false⟩,
  ⟨some 26,none,iExt 26 (.tmp 22) 0⟩,
  ⟨some 27,none,iExt 27 (.tmp 22) 1⟩,
  ⟨some 28,none,iExt 28 (.tmp 22) 2⟩,
  ⟨some 29,none,iFad 29 7 (.tmp 1)⟩,
  ⟨none,none,iStor 8 (.tmp 29) (.tmp 26)⟩,
  ⟨none,none,iStor 6 (.tmp 3) (.tmp 27)⟩,
  ⟨some 4,none,iMov 4 (.tmp 28) true⟩] [1,2,3,4] [1,2,3]
def lane_Speak_r8 : IC:=cReg Try.prog [
  ⟨some 30,none,iMov 30 (.tmp 4) false⟩] [1,2,3,30] [1,2,3]
def lane_Speak_r9 : IC:=cRegD Try.prog [
  ⟨some 31,none,iFad 31 16 (.tmp 1)⟩,
  ⟨some 32,none,iLoad 32 1 false (.tmp 31) true⟩,
  ⟨some 33,none,iLoad 33 6 true (.tmp 3) false⟩,
  ⟨some 34,none,iCall 34 77 [(.tmp 33)]⟩,
  ⟨some 35,none,iCall 35 76 [(.tmp 32),(.tmp 34)]⟩,
  ⟨some 36,none,iFad 36 16 (.tmp 1)⟩,
  ⟨none,none,iStor 1 (.tmp 36) (.tmp 35)⟩] [[],[0],[],[2],[1,3,0,2],[0,1,2,3,4],[5,4,0,1,2,3]] [1,2] [1,2]
def lane_Speak_c2 : IC:=cCond (.tmp 30) lane_Speak_r9 cSkip
def lane_Speak_r10 : IC:=cReg Try.prog [
  ⟨some 37,none,iLoad 37 17 true (.tmp 1) false⟩,
  ⟨none,none,iStor 17 (.tmp 2) (.tmp 37)⟩] [2] [2]
def lane_Speak : IC:=(cSeq lane_Speak_r0 (cSeq lane_Speak_r1 (cSeq lane_Speak_r2 (cSeq lane_Speak_r3 (cSeq (cSeq lane_Speak_r4 (cSeq lane_Speak_r5 lane_Speak_c1)) (cSeq (cSeq lane_Speak_r7 (cSeq lane_Speak_r8 lane_Speak_c2)) (cSeq lane_Speak_r10 cRet)))))))
theorem told_lane_Speak {args r : List D} (hl : args.length = 1) (h : lane_Speak (start args) (fin [(2,some (17,true))] r)) : Told Try.prog 35 args r :=
 told_of follows Try.func35 rfl (an:=[([],[1,2],[1,2],[]),([(4003,[],[])],[1,2],[1,2],[]),([(12000,[],[])],[1,2,3],[1,2,3],[]),([],[1,2,3],[1,2,3],[]),([],[1,2,3,4],[1,2,3],[]),([],[1,2,3,15],[1,2,3],[]),([],[1,2,3],[1,2,3],[17]),([],[1,2,3,4],[1,2,3],[]),([],[1,2,3,30],[1,2,3],[]),([],[1,2],[1,2],[32]),([],[2],[2],[])]) (by kernel_rfl) (by kernel_rfl) (by rw [hl]; decide +kernel) h
def lane_Lose_r0 : IC:=cReg Try.prog [
  ⟨some 3,none,iBox 3 (.tmp 0)⟩,
  ⟨some 6,none,iAlo 6 [vD (.slice none 0 0),vD (.int .i64 0),vD (.int .i64 0),vD (.int .i64 0),vD (.int .i64 0),vD (.slice none 0 0),vD (.int .i64 0),vD (.int .i64 0),vD (.slice none 0 0),vD (.int .i64 0),vD (.int .i64 0),vD (.int .i64 0),vD (.slice none 0 0),vD (.slice none 0 0),vD (.bool false),vD (.slice none 0 0),vD (.slice none 0 0)]⟩,
  ⟨some 7,none,iMov 7 (.const (.int .i64 0)) true⟩] [1,2,3,6] [3,6]
def lane_Lose_r1_0 : IC:=cXs Try.prog 3 9 10 34 17 none
def lane_Lose_r1_1 : IC:=cReg Try.prog [] [1,2,3,6] [3,6]
def lane_Lose_r1 : IC:=(cSeq lane_Lose_r1_0 lane_Lose_r1_1)
def lane_Lose_r2_0 : IC:=cLe
def lane_Lose_r2_1 : IC:=cReg Try.prog [
  ⟨some 11,none,iMov 11 (.tmp 2) false⟩,
  ⟨some 12,none,iCallP 12 80 [(.tmp 3),(.tmp 11)]⟩,
  ⟨some 8,none,iMov 8 (.tmp 12) true⟩] [1,3,6,8] [3,6,100001]
def lane_Lose_r2 : IC:=(cSeq lane_Lose_r2_0 lane_Lose_r2_1)
def lane_Lose_r3 : IC:=cReg Try.prog [
  ⟨some 13,none,iMov 13 (.tmp 8) false⟩,
  ⟨some 14,none,iNck 14 (.tmp 13)⟩,
  ⟨some 15,none,iLoad 15 1 false (.tmp 14) false⟩,
  ⟨some 16,none,iMov 16 (.tmp 1) false⟩,
  ⟨some 17,none,iCallL 17 81 [(.tmp 15),(.tmp 16)]⟩,
  ⟨some 18,none,iNot 18 (.tmp 17)⟩] [1,3,6,8,18] [3,6,100001]
def lane_Lose_r4 : IC:=cReg Try.prog [
  ⟨some 19,none,iLoad 19 17 true (.tmp 3) false⟩,
  ⟨none,none,iStor 17 (.tmp 6) (.tmp 19)⟩,
  ⟨some 7,none,iMov 7 (.const (.int .i64 6)) true⟩] [6,7] [6]
def lane_Lose_c1a : IC:=(cSeq lane_Lose_r4 cRet)
def lane_Lose_c1 : IC:=cCond (.tmp 18) lane_Lose_c1a cSkip
def lane_Lose_r5 : IC:=cReg Try.prog [
  ⟨some 20,none,iMov 20 (.tmp 8) false⟩,
  ⟨some 21,none,iMov 21 (.tmp 8) false⟩,
  ⟨some 22,none,iNck 22 (.tmp 21)⟩,
  ⟨some 23,none,iLoad 23 1 false (.tmp 22) false⟩,
  ⟨some 24,none,iMov 24 (.tmp 1) false⟩,
  ⟨some 25,none,iMov 25 (.tmp 1) false⟩,
  ⟨some 26,none,iBin 26 .add (.tmp 25) (.const (.int .i64 1))⟩,
  ⟨some 27,none,iCallL 27 83 [(.tmp 23),(.tmp 24),(.tmp 26)]⟩,
  ⟨some 28,none,iNck 28 (.tmp 20)⟩,
  ⟨none,none,iStor 1 (.tmp 28) (.tmp 27)⟩] [3,6] [3,6]
def lane_Lose_r6 : IC:=cReg Try.prog [
  ⟨some 29,none,iLoad 29 17 true (.tmp 3) false⟩,
  ⟨none,none,iStor 17 (.tmp 6) (.tmp 29)⟩,
  ⟨some 7,none,iMov 7 (.const (.int .i64 0)) true⟩] [6,7] [6]
def lane_Lose : IC:=(cSeq lane_Lose_r0 (cSeq lane_Lose_r1 (cSeq lane_Lose_r2 (cSeq (cSeq lane_Lose_r3 lane_Lose_c1) (cSeq lane_Lose_r5 (cSeq lane_Lose_r6 cRet))))))
theorem told_lane_Lose {args r : List D} (hl : args.length = 3) (h : lane_Lose (start args) (fin [(6,some (17,true)),(7,none)] r)) : Told Try.prog 39 args r :=
 told_of follows Try.func39 rfl (an:=[([],[1,2,3,6],[3,6],[]),([(4003,[],[])],[1,2,3,6],[3,6],[]),([(12000,[],[])],[1,3,6,8],[3,6,100001],[2000012]),([],[1,3,6,8,18],[3,6,100001],[17]),([],[6,7],[6],[]),([],[3,6],[3,6],[27]),([],[6,7],[6],[])]) (by kernel_rfl) (by kernel_rfl) (by rw [hl]; decide +kernel) h
def lane_Twice_r0 : IC:=cReg Try.prog [
  ⟨some 3,none,iBox 3 (.tmp 0)⟩,
  ⟨some 6,none,iAlo 6 [vD (.slice none 0 0),vD (.int .i64 0),vD (.int .i64 0),vD (.int .i64 0),vD (.int .i64 0),vD (.slice none 0 0),vD (.int .i64 0),vD (.int .i64 0),vD (.slice none 0 0),vD (.int .i64 0),vD (.int .i64 0),vD (.int .i64 0),vD (.slice none 0 0),vD (.slice none 0 0),vD (.bool false),vD (.slice none 0 0),vD (.slice none 0 0)]⟩,
  ⟨some 7,none,iMov 7 (.const (.int .i64 0)) true⟩] [1,2,3,6] [3,6]
def lane_Twice_r1_0 : IC:=cXs Try.prog 3 9 10 34 17 none
def lane_Twice_r1_1 : IC:=cReg Try.prog [] [1,2,3,6] [3,6]
def lane_Twice_r1 : IC:=(cSeq lane_Twice_r1_0 lane_Twice_r1_1)
def lane_Twice_r2_0 : IC:=cLe
def lane_Twice_r2_1 : IC:=cReg Try.prog [
  ⟨some 11,none,iMov 11 (.tmp 2) false⟩,
  ⟨some 12,none,iCallP 12 80 [(.tmp 3),(.tmp 11)]⟩,
  ⟨some 8,none,iMov 8 (.tmp 12) true⟩] [1,3,6,8] [3,6]
def lane_Twice_r2 : IC:=(cSeq lane_Twice_r2_0 lane_Twice_r2_1)
def lane_Twice_r3 : IC:=cReg Try.prog [
  ⟨some 13,none,iMov 13 (.tmp 8) false⟩,
  ⟨some 14,none,iNck 14 (.tmp 13)⟩,
  ⟨some 15,none,iLoad 15 1 false (.tmp 14) false⟩,
  ⟨some 16,none,iMov 16 (.tmp 1) false⟩,
  ⟨some 17,none,iCallL 17 81 [(.tmp 15),(.tmp 16)]⟩,
  ⟨some 18,none,iNot 18 (.tmp 17)⟩] [1,3,6,8,18] [3,6]
def lane_Twice_r4 : IC:=cReg Try.prog [
  ⟨some 19,none,iLoad 19 17 true (.tmp 3) false⟩,
  ⟨none,none,iStor 17 (.tmp 6) (.tmp 19)⟩,
  ⟨some 7,none,iMov 7 (.const (.int .i64 6)) true⟩] [6,7] [6]
def lane_Twice_c1a : IC:=(cSeq lane_Twice_r4 cRet)
def lane_Twice_c1 : IC:=cCond (.tmp 18) lane_Twice_c1a cSkip
def lane_Twice_r5 : IC:=cRegD Try.prog [
  ⟨some 20,none,iMov 20 (.tmp 8) false⟩,
  ⟨some 21,none,iMov 21 (.tmp 8) false⟩,
  ⟨some 22,none,iNck 22 (.tmp 21)⟩,
  ⟨some 23,none,iLoad 23 1 false (.tmp 22) true⟩,
  ⟨some 24,none,iMov 24 (.tmp 8) false⟩,
  ⟨some 25,none,iNck 25 (.tmp 24)⟩,
  ⟨some 26,none,iLoad 26 1 false (.tmp 25) false⟩,
  ⟨some 27,none,iMov 27 (.tmp 1) false⟩,
  ⟨some 28,none,iIaS 28 1 (.tmp 26) (.tmp 27)⟩,
  ⟨some 29,none,iLoad 29 1 false (.tmp 28) false⟩,
  ⟨some 30,none,iCall 30 75 [(.tmp 29)]⟩,
  ⟨some 31,none,iCall 31 76 [(.tmp 23),(.tmp 30)]⟩,
  ⟨some 32,none,iNck 32 (.tmp 20)⟩,
  ⟨none,none,iStor 1 (.tmp 32) (.tmp 31)⟩] [[],[],[1],[2,1],[],[4],[5,4],[],[6,7,5,4],[8,6,7,5,4],[9,8,6,7,5,4],[3,10,2,1,9,8,6,7,5,4],[0,1,2,3,4,5,6,7,8,9,10,11],[12,11,0,1,2,3,4,5,6,7,8,9,10]] [3,6] [3,6]
def lane_Twice_r6 : IC:=cReg Try.prog [
  ⟨some 33,none,iLoad 33 17 true (.tmp 3) false⟩,
  ⟨none,none,iStor 17 (.tmp 6) (.tmp 33)⟩,
  ⟨some 7,none,iMov 7 (.const (.int .i64 0)) true⟩] [6,7] [6]
def lane_Twice : IC:=(cSeq lane_Twice_r0 (cSeq lane_Twice_r1 (cSeq lane_Twice_r2 (cSeq (cSeq lane_Twice_r3 lane_Twice_c1) (cSeq lane_Twice_r5 (cSeq lane_Twice_r6 cRet))))))
theorem told_lane_Twice {args r : List D} (hl : args.length = 3) (h : lane_Twice (start args) (fin [(6,some (17,true)),(7,none)] r)) : Told Try.prog 40 args r :=
 told_of follows Try.func40 rfl (an:=[([],[1,2,3,6],[3,6],[]),([(4003,[],[])],[1,2,3,6],[3,6],[]),([(12000,[],[])],[1,3,6,8],[3,6],[2000012]),([],[1,3,6,8,18],[3,6],[17]),([],[6,7],[6],[]),([],[3,6],[3,6],[23]),([],[6,7],[6],[])]) (by kernel_rfl) (by kernel_rfl) (by rw [hl]; decide +kernel) h
def lane_Come_r0 : IC:=cReg Try.prog [
  ⟨some 3,none,iBox 3 (.tmp 0)⟩,
  ⟨some 6,none,iAlo 6 [vD (.slice none 0 0),vD (.int .i64 0),vD (.int .i64 0),vD (.int .i64 0),vD (.int .i64 0),vD (.slice none 0 0),vD (.int .i64 0),vD (.int .i64 0),vD (.slice none 0 0),vD (.int .i64 0),vD (.int .i64 0),vD (.int .i64 0),vD (.slice none 0 0),vD (.slice none 0 0),vD (.bool false),vD (.slice none 0 0),vD (.slice none 0 0)]⟩,
  ⟨some 7,none,iMov 7 (.const (.int .i64 0)) true⟩] [1,2,3,6] [3,6]
def lane_Come_r1_0 : IC:=cXs Try.prog 3 11 12 34 17 none
def lane_Come_r1_1 : IC:=cReg Try.prog [] [1,2,3,6] [3,6]
def lane_Come_r1 : IC:=(cSeq lane_Come_r1_0 lane_Come_r1_1)
def lane_Come_r2_0 : IC:=cLe
def lane_Come_r2_1 : IC:=cReg Try.prog [
  ⟨some 13,none,iMov 13 (.tmp 2) false⟩,
  ⟨some 14,none,iCallP 14 80 [(.tmp 3),(.tmp 13)]⟩,
  ⟨some 8,none,iMov 8 (.tmp 14) true⟩] [1,2,3,6,8] [3,6,100001]
def lane_Come_r2 : IC:=(cSeq lane_Come_r2_0 lane_Come_r2_1)
def lane_Come_r3 : IC:=cReg Try.prog [
  ⟨some 15,none,iMov 15 (.tmp 8) false⟩,
  ⟨some 16,none,iNck 16 (.tmp 15)⟩,
  ⟨some 17,none,iLoad 17 1 false (.tmp 16) false⟩,
  ⟨some 18,none,iMov 18 (.tmp 1) false⟩,
  ⟨some 19,none,iCallL 19 81 [(.tmp 17),(.tmp 18)]⟩,
  ⟨some 20,none,iNot 20 (.tmp 19)⟩] [1,2,3,6,8,20] [3,6,100001]
def lane_Come_r4 : IC:=cReg Try.prog [
  ⟨some 21,none,iLoad 21 17 true (.tmp 3) false⟩,
  ⟨none,none,iStor 17 (.tmp 6) (.tmp 21)⟩,
  ⟨some 7,none,iMov 7 (.const (.int .i64 6)) true⟩] [6,7] [6]
def lane_Come_c1a : IC:=(cSeq lane_Come_r4 cRet)
def lane_Come_c1 : IC:=cCond (.tmp 20) lane_Come_c1a cSkip
def lane_Come_r5 : IC:=cReg Try.prog [
  ⟨some 23,none,iMov 23 (.tmp 8) false⟩,
  ⟨some 24,none,iNck 24 (.tmp 23)⟩,
  ⟨some 25,none,iLoad 25 1 false (.tmp 24) false⟩,
  ⟨some 26,none,iMov 26 (.tmp 1) false⟩,
  ⟨some 27,none,iIaS 27 1 (.tmp 25) (.tmp 26)⟩,
  ⟨some 28,none,iLoad 28 1 false (.tmp 27) false⟩,
  ⟨some 29,none,iCall 29 82 [(.tmp 28)]⟩,
  ⟨some 22,none,iMov 22 (.tmp 29) false⟩,
  ⟨some 30,none,iExt 30 (.tmp 22) 0⟩,
  ⟨some 31,none,iExt 31 (.tmp 22) 1⟩,
  ⟨some 9,none,iAlo 9 [vD (.int .i64 0),vD (.int .i64 0),vD (.int .i64 0),vD (.int .i64 0),vD (.slice none 0 0),vD (.slice none 0 0)]⟩,
  ⟨none,none,iStor 6 (.tmp 9) (.tmp 30)⟩,
  ⟨some 10,none,iMov 10 (.tmp 31) true⟩] [1,2,3,6,8,9,10] [3,6,9,100001]
def lane_Come_r6 : IC:=cReg Try.prog [
  ⟨some 32,none,iMov 32 (.tmp 8) false⟩,
  ⟨some 33,none,iMov 33 (.tmp 8) false⟩,
  ⟨some 34,none,iNck 34 (.tmp 33)⟩,
  ⟨some 35,none,iLoad 35 1 false (.tmp 34) false⟩,
  ⟨some 36,none,iMov 36 (.tmp 1) false⟩,
  ⟨some 37,none,iMov 37 (.tmp 1) false⟩,
  ⟨some 38,none,iBin 38 .add (.tmp 37) (.const (.int .i64 1))⟩,
  ⟨some 39,none,iCallL 39 83 [(.tmp 35),(.tmp 36),(.tmp 38)]⟩,
  ⟨some 40,none,iNck 40 (.tmp 32)⟩,
  ⟨none,none,iStor 1 (.tmp 40) (.tmp 39)⟩] [2,3,6,9,10] [3,6,9]
def lane_Come_r8 : IC:=cReg Try.prog [
  ⟨some 47,none,iMov 47 (.tmp 10) false⟩,
  ⟨some 48,none,iBin 48 .neq (.tmp 47) (.const (.int .i64 0))⟩,
  ⟨some 46,none,iMov 46 (.tmp 48) true⟩] [2,3,6,9,46] [3,6,9]
def lane_Come_r9 : IC:=cReg Try.prog [
  ⟨some 50,none,iMov 50 (.tmp 2) false⟩,
  ⟨some 49,none,iMov 49 (.tmp 50) true⟩] [3,6,9,49] [3,6,9]
def lane_Come_r10 : IC:=cReg Try.prog [
  ⟨some 51,none,iFad 51 0 (.tmp 3)⟩,
  ⟨some 52,none,iLoad 52 7 true (.tmp 51) false⟩,
  ⟨some 53,none,iLoad 53 6 true (.tmp 9) false⟩,
  ⟨some 54,none,iCall 54 56 [(.tmp 52),(.tmp 53)]⟩,
  ⟨some 55,none,iFad 55 0 (.tmp 3)⟩,
  ⟨none,none,iStor 7 (.tmp 55) (.tmp 54)⟩] [3,6] [3,6]
def lane_Come_r7 : IC:=cReg Try.prog [
  ⟨some 41,none,iFad 41 7 (.tmp 3)⟩,
  ⟨some 42,none,iLoad 42 8 true (.tmp 41) false⟩,
  ⟨some 43,none,iLoad 43 6 true (.tmp 9) false⟩,
  ⟨some 44,none,iCall 44 26 [(.tmp 42),(.tmp 43)]⟩,
  ⟨some 45,none,iFad 45 7 (.tmp 3)⟩,
  ⟨none,none,iStor 8 (.tmp 45) (.tmp 44)⟩] [3,6] [3,6]
def lane_Come_c4 : IC:=cCond (.tmp 49) lane_Come_r10 lane_Come_r7
def lane_Come_c3b : IC:=(cSeq lane_Come_r9 lane_Come_c4)
def lane_Come_c3 : IC:=cCond (.tmp 46) cSkip lane_Come_c3b
def lane_Come_b2 : IC:=cBlock 0 (cSeq lane_Come_r8 lane_Come_c3)
def lane_Come_r11 : IC:=cReg Try.prog [
  ⟨some 56,none,iLoad 56 17 true (.tmp 3) false⟩,
  ⟨none,none,iStor 17 (.tmp 6) (.tmp 56)⟩,
  ⟨some 7,none,iMov 7 (.const (.int .i64 0)) true⟩] [6,7] [6]
def lane_Come : IC:=(cSeq lane_Come_r0 (cSeq lane_Come_r1 (cSeq lane_Come_r2 (cSeq (cSeq lane_Come_r3 lane_Come_c1) (cSeq lane_Come_r5 (cSeq lane_Come_r6 (cSeq lane_Come_b2 (cSeq lane_Come_r11 cRet))))))))
theorem told_lane_Come {args r : List D} (hl : args.length = 3) (h : lane_Come (start args) (fin [(6,some (17,true)),(7,none)] r)) : Told Try.prog 37 args r :=
 told_of follows Try.func37 rfl (an:=[([],[1,2,3,6],[3,6],[]),([(4003,[],[])],[1,2,3,6],[3,6],[]),([(12000,[],[])],[1,2,3,6,8],[3,6,100001],[2000014]),([],[1,2,3,6,8,20],[3,6,100001],[19]),([],[6,7],[6],[]),([],[1,2,3,6,8,9,10],[3,6,9,100001],[]),([],[2,3,6,9,10],[3,6,9],[39]),([],[2,3,6,9,46],[3,6,9],[]),([],[3,6,9,49],[3,6,9],[]),([],[3,6],[3,6],[]),([],[3,6],[3,6],[]),([],[6,7],[6],[])]) (by kernel_rfl) (by kernel_rfl) (by rw [hl]; decide +kernel) h
section
variable {tm : List (Nat × D)} {bx : List (Nat × List D)} {b e : Nat} {p q : List D} {c0 c1 c2 c3 c4 c5 c6 c7 c8 c9 c10 c11 c12 c13 c14 : D}
theorem le_lane16 (hb : b < 100000) (hq : q ≠ []) (hnew : look bx 100001 = none) :
  Le ⟨tm,(b,[c0,c1,c2,c3,c4,c5,c6,c7,c8,c9,c10,c11,c12,c13,c14,xD,xD]) :: bx,[((b,some 15),(e,(1,some p))),((b,some 16),(e,(1,some q)))]⟩
   ⟨tm,(b,[c0,c1,c2,c3,c4,c5,c6,c7,c8,c9,c10,c11,c12,c13,c14,sD 1 p,oD 100001 q.length]) :: (100001,[sD 1 q]) :: (b,[c0,c1,c2,c3,c4,c5,c6,c7,c8,c9,c10,c11,c12,c13,c14,xD,oD 100001 q.length]) :: (b,[c0,c1,c2,c3,c4,c5,c6,c7,c8,c9,c10,c11,c12,c13,c14,xD,xD]) :: bx,[]⟩:=by
 have h1:=le_name (st:=⟨tm,(b,[c0,c1,c2,c3,c4,c5,c6,c7,c8,c9,c10,c11,c12,c13,c14,xD,xD]) :: bx,[((b,some 15),(e,(1,some p))),((b,some 16),(e,(1,some q)))]⟩) (b:=b) (cs:=[c0,c1,c2,c3,c4,c5,c6,c7,c8,c9,c10,c11,c12,c13,c14,xD,xD]) (off:=16) (k:=100001) (e:=e) (z:=1) (es:=q) hb (by simp [look]) (show 16 < 17 by decide) (by simp [lookF]) hq ⟨by decide,by decide⟩ (by simp only [look]; rw [if_neg (by omega)]; exact hnew)
 have e1 : over [c0,c1,c2,c3,c4,c5,c6,c7,c8,c9,c10,c11,c12,c13,c14,xD,xD] 16 [oD 100001 q.length] = [c0,c1,c2,c3,c4,c5,c6,c7,c8,c9,c10,c11,c12,c13,c14,xD,oD 100001 q.length]:=rfl
 have e2 : offP [((b,some 15),(e,(1,some p))),((b,some 16),(e,(1,some q)))] [(b,some 16)] = [((b,some 15),(e,((1,some p) : Pay)))]:=by simp [offP]
 rw [e1,e2] at h1
 have h2:=le_frzH (st:=⟨tm,(100001,[sD 1 q]) :: (b,[c0,c1,c2,c3,c4,c5,c6,c7,c8,c9,c10,c11,c12,c13,c14,xD,oD 100001 q.length]) :: (b,[c0,c1,c2,c3,c4,c5,c6,c7,c8,c9,c10,c11,c12,c13,c14,xD,xD]) :: bx,[((b,some 15),(e,(1,some p)))]⟩) (b:=b) (cs:=[c0,c1,c2,c3,c4,c5,c6,c7,c8,c9,c10,c11,c12,c13,c14,xD,oD 100001 q.length]) (off:=15) (e:=e) (z:=1) (es:=p) hb (by simp only [look]; rw [if_neg (by omega)]; simp) (show 15 < 17 by decide) (by simp [lookF])
 have e3 : over [c0,c1,c2,c3,c4,c5,c6,c7,c8,c9,c10,c11,c12,c13,c14,xD,oD 100001 q.length] 15 [sD 1 p] = [c0,c1,c2,c3,c4,c5,c6,c7,c8,c9,c10,c11,c12,c13,c14,sD 1 p,oD 100001 q.length]:=rfl
 have e4 : offP [((b,some 15),(e,((1,some p) : Pay)))] [(b,some 15)] = []:=by simp [offP]
 rw [e3,e4] at h2
 exact h1.trans h2
theorem le_lane15 (hb : b < 100000) (hp : p ≠ []) (hnew : look bx 100001 = none) :
  Le ⟨tm,(b,[c0,c1,c2,c3,c4,c5,c6,c7,c8,c9,c10,c11,c12,c13,c14,xD,xD]) :: bx,[((b,some 15),(e,(1,some p))),((b,some 16),(e,(1,some q)))]⟩
   ⟨tm,(b,[c0,c1,c2,c3,c4,c5,c6,c7,c8,c9,c10,c11,c12,c13,c14,oD 100001 p.length,sD 1 q]) :: (100001,[sD 1 p]) :: (b,[c0,c1,c2,c3,c4,c5,c6,c7,c8,c9,c10,c11,c12,c13,c14,oD 100001 p.length,xD]) :: (b,[c0,c1,c2,c3,c4,c5,c6,c7,c8,c9,c10,c11,c12,c13,c14,xD,xD]) :: bx,[]⟩:=by
 have h1:=le_name (st:=⟨tm,(b,[c0,c1,c2,c3,c4,c5,c6,c7,c8,c9,c10,c11,c12,c13,c14,xD,xD]) :: bx,[((b,some 15),(e,(1,some p))),((b,some 16),(e,(1,some q)))]⟩) (b:=b) (cs:=[c0,c1,c2,c3,c4,c5,c6,c7,c8,c9,c10,c11,c12,c13,c14,xD,xD]) (off:=15) (k:=100001) (e:=e) (z:=1) (es:=p) hb (by simp [look]) (show 15 < 17 by decide) (by simp [lookF]) hp ⟨by decide,by decide⟩ (by simp only [look]; rw [if_neg (by omega)]; exact hnew)
 have e1 : over [c0,c1,c2,c3,c4,c5,c6,c7,c8,c9,c10,c11,c12,c13,c14,xD,xD] 15 [oD 100001 p.length] = [c0,c1,c2,c3,c4,c5,c6,c7,c8,c9,c10,c11,c12,c13,c14,oD 100001 p.length,xD]:=rfl
 have e2 : offP [((b,some 15),(e,(1,some p))),((b,some 16),(e,(1,some q)))] [(b,some 15)] = [((b,some 16),(e,((1,some q) : Pay)))]:=by simp [offP]
 rw [e1,e2] at h1
 have h2:=le_frzH (st:=⟨tm,(100001,[sD 1 p]) :: (b,[c0,c1,c2,c3,c4,c5,c6,c7,c8,c9,c10,c11,c12,c13,c14,oD 100001 p.length,xD]) :: (b,[c0,c1,c2,c3,c4,c5,c6,c7,c8,c9,c10,c11,c12,c13,c14,xD,xD]) :: bx,[((b,some 16),(e,(1,some q)))]⟩) (b:=b) (cs:=[c0,c1,c2,c3,c4,c5,c6,c7,c8,c9,c10,c11,c12,c13,c14,oD 100001 p.length,xD]) (off:=16) (e:=e) (z:=1) (es:=q) hb (by simp only [look]; rw [if_neg (by omega)]; simp) (show 16 < 17 by decide) (by simp [lookF])
 have e3 : over [c0,c1,c2,c3,c4,c5,c6,c7,c8,c9,c10,c11,c12,c13,c14,oD 100001 p.length,xD] 16 [sD 1 q] = [c0,c1,c2,c3,c4,c5,c6,c7,c8,c9,c10,c11,c12,c13,c14,oD 100001 p.length,sD 1 q]:=rfl
 have e4 : offP [((b,some 16),(e,((1,some q) : Pay)))] [(b,some 16)] = []:=by simp [offP]
 rw [e3,e4] at h2
 exact h1.trans h2
theorem le_laneN (hb : b < 100000) :
  Le ⟨tm,(b,[c0,c1,c2,c3,c4,c5,c6,c7,c8,c9,c10,c11,c12,c13,c14,xD,xD]) :: bx,[((b,some 15),(e,(1,some p))),((b,some 16),(e,(1,some q)))]⟩
   ⟨tm,(b,[c0,c1,c2,c3,c4,c5,c6,c7,c8,c9,c10,c11,c12,c13,c14,sD 1 p,sD 1 q]) :: (b,[c0,c1,c2,c3,c4,c5,c6,c7,c8,c9,c10,c11,c12,c13,c14,sD 1 p,xD]) :: (b,[c0,c1,c2,c3,c4,c5,c6,c7,c8,c9,c10,c11,c12,c13,c14,xD,xD]) :: bx,[((b,some 16),(e,(1,none))),((b,some 15),(e,(1,none)))]⟩:=by
 have h1:=le_openH (st:=⟨tm,(b,[c0,c1,c2,c3,c4,c5,c6,c7,c8,c9,c10,c11,c12,c13,c14,xD,xD]) :: bx,[((b,some 15),(e,(1,some p))),((b,some 16),(e,(1,some q)))]⟩) (b:=b) (cs:=[c0,c1,c2,c3,c4,c5,c6,c7,c8,c9,c10,c11,c12,c13,c14,xD,xD]) (off:=15) (e:=e) (z:=1) (es:=p) hb (by simp [look]) (show 15 < 17 by decide) (by simp [lookF])
 have e1 : over [c0,c1,c2,c3,c4,c5,c6,c7,c8,c9,c10,c11,c12,c13,c14,xD,xD] 15 [sD 1 p] = [c0,c1,c2,c3,c4,c5,c6,c7,c8,c9,c10,c11,c12,c13,c14,sD 1 p,xD]:=rfl
 have e2 : offP [((b,some 15),(e,(1,some p))),((b,some 16),(e,(1,some q)))] [(b,some 15)] = [((b,some 16),(e,((1,some q) : Pay)))]:=by simp [offP]
 rw [e1,e2] at h1
 have h2:=le_openH (st:=⟨tm,(b,[c0,c1,c2,c3,c4,c5,c6,c7,c8,c9,c10,c11,c12,c13,c14,sD 1 p,xD]) :: (b,[c0,c1,c2,c3,c4,c5,c6,c7,c8,c9,c10,c11,c12,c13,c14,xD,xD]) :: bx,[((b,some 15),(e,(1,none))),((b,some 16),(e,(1,some q)))]⟩) (b:=b) (cs:=[c0,c1,c2,c3,c4,c5,c6,c7,c8,c9,c10,c11,c12,c13,c14,sD 1 p,xD]) (off:=16) (e:=e) (z:=1) (es:=q) hb (by simp [look]) (show 16 < 17 by decide) (by simp [lookF])
 have e3 : over [c0,c1,c2,c3,c4,c5,c6,c7,c8,c9,c10,c11,c12,c13,c14,sD 1 p,xD] 16 [sD 1 q] = [c0,c1,c2,c3,c4,c5,c6,c7,c8,c9,c10,c11,c12,c13,c14,sD 1 p,sD 1 q]:=rfl
 have e4 : offP [((b,some 15),(e,((1,none) : Pay))),((b,some 16),(e,(1,some q)))] [(b,some 16)] = [((b,some 15),(e,((1,none) : Pay)))]:=by simp [offP]
 rw [e3,e4] at h2
 exact h1.trans h2
end
set_option maxRecDepth 100000
def lane_join_r0 : IC:=cReg Try.prog [
  ⟨some 4,none,iMov 4 (.const (.slice none 0 0)) true⟩] [0,1] []
def lane_join_r1 : IC:=cReg Try.prog [
  ⟨some 5,none,iMov 5 (.tmp 0) false⟩,
  ⟨some 6,none,iLen 6 false (.tmp 5)⟩,
  ⟨some 7,none,iBin 7 .geq (.tmp 6) (.const (.int .i64 6))⟩] [0,1,7] []
def lane_join_r2 : IC:=cReg Try.prog [
  ⟨some 8,none,iMov 8 (.tmp 0) false⟩,
  ⟨some 4,none,iMov 4 (.tmp 8) true⟩] [4] []
def lane_join_c1a : IC:=(cSeq lane_join_r2 cRet)
def lane_join_c1 : IC:=cCond (.tmp 7) lane_join_c1a cSkip
def lane_join_r3 : IC:=cReg Try.prog [
  ⟨some 9,none,iMov 9 (.tmp 0) true⟩,
  ⟨some 10,none,iMov 10 (.tmp 1) false⟩,
  ⟨some 11,none,iRow 11 30 1 [(.tmp 10)]⟩,
  ⟨some 12,none,iApp 12 30 1 24 (.tmp 9) (.tmp 11)⟩,
  ⟨some 4,none,iMov 4 (.tmp 12) true⟩] [4] []
def lane_join : IC:=(cSeq lane_join_r0 (cSeq (cSeq lane_join_r1 lane_join_c1) (cSeq lane_join_r3 cRet)))
theorem toldI_lane_join {args r : List D} {x : D} {e : Nat} {z : Pay} (hl : args.length = 1) (h : lane_join ⟨startT (x :: args) 0,[],[((0,none),(e,z))]⟩ (fin [(4,none)] r)) : ToldI Try.prog 76 (x :: args) 0 none e z r :=
 toldI_slot follows Try.func76 rfl (an:=[([],[0,1],[],[]),([],[0,1,7],[],[]),([],[4],[],[]),([],[4],[],[])]) (by kernel_rfl) (by kernel_rfl) (by rw [hl]; decide +kernel) (by rw [fin_eq]; exact h)
def lane_hasP_r0 : IC:=cReg Try.prog [
  ⟨some 4,none,iMov 4 (.const (.bool false)) true⟩] [0,1] []
def lane_hasP_r1 : IC:=cReg Try.prog [
  ⟨some 5,none,iMov 5 (.tmp 1) false⟩,
  ⟨some 6,none,iBin 6 .geq (.tmp 5) (.const (.int .i64 0))⟩,
  ⟨some 7,none,iMov 7 (.tmp 6) false⟩,
  ⟨some 8,some (7,true),iMov 8 (.tmp 1) false⟩,
  ⟨some 9,some (7,true),iMov 9 (.tmp 0) false⟩,
  ⟨some 10,some (7,true),iLen 10 false (.tmp 9)⟩,
  ⟨some 11,some (7,true),iBin 11 .lss (.tmp 8) (.tmp 10)⟩,
  ⟨some 12,none,iPick 12 (.tmp 7) (.tmp 11) (.const (.bool false))⟩,
  ⟨some 4,none,iMov 4 (.tmp 12) true⟩] [4] []
def lane_hasP : IC:=(cSeq lane_hasP_r0 (cSeq lane_hasP_r1 cRet))
theorem told_lane_hasP {args r : List D} (hl : args.length = 2) (h : lane_hasP (start args) (fin [(4,none)] r)) : Told Try.prog 81 args r :=
 told_of follows Try.func81 rfl (an:=[([],[0,1],[],[]),([],[4],[],[])]) (by kernel_rfl) (by kernel_rfl) (by rw [hl]; decide +kernel) h
def lane_hasB_r0 : IC:=cReg Try.prog [
  ⟨some 4,none,iMov 4 (.const (.bool false)) true⟩] [0,1] []
def lane_hasB_r1 : IC:=cReg Try.prog [
  ⟨some 5,none,iMov 5 (.tmp 1) false⟩,
  ⟨some 6,none,iBin 6 .geq (.tmp 5) (.const (.int .i64 0))⟩,
  ⟨some 7,none,iMov 7 (.tmp 6) false⟩,
  ⟨some 8,some (7,true),iMov 8 (.tmp 1) false⟩,
  ⟨some 9,some (7,true),iMov 9 (.tmp 0) false⟩,
  ⟨some 10,some (7,true),iLen 10 false (.tmp 9)⟩,
  ⟨some 11,some (7,true),iBin 11 .lss (.tmp 8) (.tmp 10)⟩,
  ⟨some 12,none,iPick 12 (.tmp 7) (.tmp 11) (.const (.bool false))⟩,
  ⟨some 4,none,iMov 4 (.tmp 12) true⟩] [4] []
def lane_hasB : IC:=(cSeq lane_hasB_r0 (cSeq lane_hasB_r1 cRet))
theorem told_lane_hasB {args r : List D} (hl : args.length = 2) (h : lane_hasB (start args) (fin [(4,none)] r)) : Told Try.prog 88 args r :=
 told_of follows Try.func88 rfl (an:=[([],[0,1],[],[]),([],[4],[],[])]) (by kernel_rfl) (by kernel_rfl) (by rw [hl]; decide +kernel) h
set_option maxRecDepth 100000
def bytes_CloneO_r0 : IC:=cReg Try.prog [
  ⟨some 2,none,iMov 2 (.const (.slice none 0 0)) true⟩] [0] []
def bytes_CloneO_r1 : IC:=cReg Try.prog [
  ⟨some 3,none,iMov 3 (.tmp 0) false⟩,
  ⟨some 4,none,iNil 4 true (.tmp 3)⟩] [0,4] []
def bytes_CloneO_r2 : IC:=cReg Try.prog [
  ⟨some 2,none,iMov 2 (.const (.slice none 0 0)) true⟩] [2] []
def bytes_CloneO_c1a : IC:=(cSeq bytes_CloneO_r2 cRet)
def bytes_CloneO_c1 : IC:=cCond (.tmp 4) bytes_CloneO_c1a cSkip
def bytes_CloneO_r3 : IC:=cReg Try.prog [
  ⟨some 5,none,iRow 5 5 1 []⟩,
  ⟨some 6,none,iMov 6 (.tmp 0) false⟩,
  ⟨some 7,none,iApp 7 5 1 1 (.tmp 5) (.tmp 6)⟩,
  ⟨some 2,none,iMov 2 (.tmp 7) true⟩] [2] []
def bytes_CloneO : IC:=(cSeq bytes_CloneO_r0 (cSeq (cSeq bytes_CloneO_r1 bytes_CloneO_c1) (cSeq bytes_CloneO_r3 cRet)))
theorem toldO_bytes_CloneO {args : List D} {r : D} {e : Nat} {z : Pay} (hl : args.length = 1) (h : bytes_CloneO (start args) (fin1 fun st => ∃ r',look st.tm 2 = some r' ∧ isC r' = true ∧ CVLe r' r ∧ lookF st.fl (2,none) = some (e,z))) : ToldO Try.prog 75 args [r] none e z :=
 toldO_slot follows Try.func75 rfl (an:=[([],[0],[],[]),([],[0,4],[],[]),([],[2],[],[]),([],[2],[],[])]) (by kernel_rfl) rfl (by rw [hl]; decide +kernel) h
set_option maxRecDepth 100000
def lane_Own_r0 : IC:=cReg Try.prog [
  ⟨some 1,none,iBox 1 (.tmp 0)⟩,
  ⟨some 2,none,iAlo 2 [vD (.slice none 0 0),vD (.int .i64 0),vD (.int .i64 0),vD (.int .i64 0),vD (.int .i64 0),vD (.slice none 0 0),vD (.int .i64 0),vD (.int .i64 0),vD (.slice none 0 0),vD (.int .i64 0),vD (.int .i64 0),vD (.int .i64 0),vD (.slice none 0 0),vD (.slice none 0 0),vD (.bool false),vD (.slice none 0 0),vD (.slice none 0 0)]⟩] [1,2] [1,2]
def lane_Own_r1 : IC:=cRegD Try.prog [
  ⟨some 3,none,iFad 3 0 (.tmp 1)⟩,
  ⟨some 4,none,iLoad 4 7 true (.tmp 3) false⟩,
  ⟨some 5,none,iCall 5 57 [(.tmp 4)]⟩,
  ⟨some 6,none,iFad 6 7 (.tmp 1)⟩,
  ⟨some 7,none,iLoad 7 8 true (.tmp 6) false⟩,
  ⟨some 8,none,iCall 8 25 [(.tmp 7)]⟩,
  ⟨some 9,none,iFad 9 15 (.tmp 1)⟩,
  ⟨some 10,none,iLoad 10 1 false (.tmp 9) false⟩,
  ⟨some 11,none,iCall 11 74 [(.tmp 10),(.func 75)]⟩,
  ⟨some 12,none,iFad 12 16 (.tmp 1)⟩,
  ⟨some 13,none,iLoad 13 1 false (.tmp 12) false⟩,
  ⟨some 14,none,iCall 14 74 [(.tmp 13),(.func 75)]⟩,
  ⟨some 15,none,iBld 15 [vD (.slice none 0 0),vD (.int .i64 0),vD (.int .i64 0),vD (.int .i64 0),vD (.int .i64 0),vD (.slice none 0 0),vD (.int .i64 0),vD (.int .i64 0),vD (.slice none 0 0),vD (.int .i64 0),vD (.int .i64 0),vD (.int .i64 0),vD (.slice none 0 0),vD (.slice none 0 0),vD (.bool false),vD (.slice none 0 0),vD (.slice none 0 0)] [(0,7),(7,8),(15,1),(16,1)] [(.tmp 5),(.tmp 8),(.tmp 11),(.tmp 14)]⟩,
  ⟨none,none,iStor 17 (.tmp 2) (.tmp 15)⟩] [[],[0],[1,0],[],[3],[4,2,3,1,0],[],[6],[7,5,6,4,2,3,1,0],[],[9],[10,8,9,7,5,6,4,2,3,1,0],[2,5,8,11,1,0,4,3,7,6,10,9],[12,11,0,1,2,3,4,5,6,7,8,9,10]] [2] [2]
def lane_Own : IC:=(cSeq lane_Own_r0 (cSeq lane_Own_r1 cRet))
theorem told_lane_Own {args r : List D} (hl : args.length = 1) (h : lane_Own (start args) (fin [(2,some (17,true))] r)) : Told Try.prog 34 args r :=
 told_of follows Try.func34 rfl (an:=[([],[1,2],[1,2],[]),([],[2],[2],[])]) (by kernel_rfl) (by kernel_rfl) (by rw [hl]; decide +kernel) h
def list_OwnP_r0 : IC:=cReg Try.prog [
  ⟨some 4,none,iMov 4 (.const (.slice none 0 0)) true⟩] [0,1] []
def list_OwnP_r1 : IC:=cReg Try.prog [
  ⟨some 5,none,iMov 5 (.const (.slice none 0 0)) true⟩] [0,1,5] []
def list_OwnP_r2 : IC:=cReg Try.prog [
  ⟨some 8,none,iMov 8 (.tmp 0) false⟩,
  ⟨some 9,none,iLen 9 false (.tmp 8)⟩,
  ⟨some 10,none,iMov 10 (.const (.int .i64 0)) false⟩] [1,5,8,9,10] []
def list_OwnP_r3 : IC:=cReg Try.prog [
  ⟨some 11,none,iBin 11 .lss (.tmp 10) (.tmp 9)⟩] [1,5,8,9,10,11] []
def list_OwnP_c3 : IC:=cCond (.tmp 11) cSkip (cExit 0)
def list_OwnP_r4 : IC:=cReg Try.prog [
  ⟨some 12,none,iIaS 12 1 (.tmp 8) (.tmp 10)⟩,
  ⟨some 13,none,iLoad 13 1 false (.tmp 12) false⟩,
  ⟨some 7,none,iMov 7 (.tmp 13) true⟩] [1,5,7,8,9,10] []
def list_OwnP_r5 : IC:=cReg Try.prog [
  ⟨some 14,none,iMov 14 (.tmp 5) true⟩,
  ⟨some 15,none,iMov 15 (.tmp 1) false⟩,
  ⟨some 16,none,iMov 16 (.tmp 7) false⟩,
  ⟨some 17,none,iCallV 17 Try.prog 15 [(.tmp 16)]⟩,
  ⟨some 18,none,iRow 18 30 1 [(.tmp 17)]⟩,
  ⟨some 19,none,iApp 19 30 1 24 (.tmp 14) (.tmp 18)⟩,
  ⟨some 5,none,iMov 5 (.tmp 19) true⟩] [1,5,8,9,10] []
def list_OwnP_b4 : IC:=cBlock 1 (cSeq list_OwnP_r4 list_OwnP_r5)
def list_OwnP_r6 : IC:=cReg Try.prog [
  ⟨some 20,none,iBin 20 .add (.tmp 10) (.const (.int .i64 1))⟩,
  ⟨some 10,none,iMov 10 (.tmp 20) false⟩] [1,5,8,9,10] []
def list_OwnP_l2a : IC:=(cSeq list_OwnP_r3 (cSeq list_OwnP_c3 (cSeq list_OwnP_b4 list_OwnP_r6)))
def list_OwnP_l2 : IC:=cLoop list_OwnP_l2a
def list_OwnP_b1 : IC:=cBlock 0 list_OwnP_l2
def list_OwnP_r7 : IC:=cReg Try.prog [
  ⟨some 21,none,iMov 21 (.tmp 5) false⟩,
  ⟨some 4,none,iMov 4 (.tmp 21) true⟩] [4] []
def list_OwnP : IC:=(cSeq list_OwnP_r0 (cSeq list_OwnP_r1 (cSeq (cSeq list_OwnP_r2 list_OwnP_b1) (cSeq list_OwnP_r7 cRet))))
theorem told_list_OwnP {args r : List D} (hl : args.length = 2) (h : list_OwnP (start args) (fin [(4,none)] r)) : Told Try.prog 74 args r :=
 told_of follows Try.func74 rfl (an:=[([],[0,1],[],[]),([],[0,1,5],[],[]),([],[1,5,8,9,10],[],[]),([],[1,5,8,9,10,11],[],[]),([],[1,5,7,8,9,10],[],[]),([],[1,5,8,9,10],[],[]),([],[1,5,8,9,10],[],[]),([],[4],[],[])]) (by kernel_rfl) (by kernel_rfl) (by rw [hl]; decide +kernel) h
def bytes_CloneL_r0 : IC:=cReg Try.prog [
  ⟨some 2,none,iMov 2 (.const (.slice none 0 0)) true⟩] [0] []
def bytes_CloneL_r1 : IC:=cReg Try.prog [
  ⟨some 3,none,iMov 3 (.tmp 0) false⟩,
  ⟨some 4,none,iNil 4 true (.tmp 3)⟩] [0,4] []
def bytes_CloneL_r2 : IC:=cReg Try.prog [
  ⟨some 2,none,iMov 2 (.const (.slice none 0 0)) true⟩] [2] []
def bytes_CloneL_c1a : IC:=(cSeq bytes_CloneL_r2 cRet)
def bytes_CloneL_c1 : IC:=cCond (.tmp 4) bytes_CloneL_c1a cSkip
def bytes_CloneL_r3 : IC:=cReg Try.prog [
  ⟨some 5,none,iRow 5 5 1 []⟩,
  ⟨some 6,none,iMov 6 (.tmp 0) false⟩,
  ⟨some 7,none,iApp 7 5 1 1 (.tmp 5) (.tmp 6)⟩,
  ⟨some 2,none,iMov 2 (.tmp 7) true⟩] [2] []
def bytes_CloneL : IC:=(cSeq bytes_CloneL_r0 (cSeq (cSeq bytes_CloneL_r1 bytes_CloneL_c1) (cSeq bytes_CloneL_r3 cRet)))
theorem told_bytes_CloneL {args r : List D} (hl : args.length = 1) (h : bytes_CloneL (start args) (fin [(2,none)] r)) : Told Try.prog 75 args r :=
 told_of follows Try.func75 rfl (an:=[([],[0],[],[]),([],[0,4],[],[]),([],[2],[],[]),([],[2],[],[])]) (by kernel_rfl) (by kernel_rfl) (by rw [hl]; decide +kernel) h
end Go.Proofs.Ytgfljlmonaifgab.ab
