import Derived.Test.YtgaofjiidedcbadM34
import Derived.Test.YtgaofjiidedcbadM19
import Derived.Test.YtgaofjiidedcbadProg
import Derived.Test.YtgaofjiidedcbadM24
set_option maxHeartbeats 4000000
set_option linter.unusedVariables false
set_option linter.unusedSimpArgs false
namespace Go.Proofs.Ytgaofjiidedcbad.ab
open Go Go.RowKit
theorem own_repN {base : Nat → Prop} {I : Still} {ρ : Nat → Option Nat} {w : World} {e z : Nat} {es : List D} {u : Value} (h : Own I ρ base w e (z,some es) u) {I1 : Still} (hI : ∀ b j,I b j → I1 b j) (hu : ∀ g j,u.ownBlock = some g → j < es.length * z → I1 g j) : CRep I1 w (sD z es) u:=by
 obtain ⟨n,xs,hrow,_,hh⟩:=h
 obtain ⟨hn,hel⟩:=hh es rfl
 simp only at hrow hel
 subst hn
 rcases hrow.2 with ⟨q1,q2⟩ | ⟨g,cap,cur,q1,_,hg,hnc,hcm,hcs,htk⟩
 ·have : es = []:=List.eq_nil_of_length_eq_zero q2
  subst this; rw [q1]; exact nil_rep z
 ·rw [q1]
  refine CRep.s ⟨fun i j => (xs[i * z + j]?).getD undef,hnc,(fun e => by cases e),hcm,hel.1,fun hne => ⟨g,0,rfl,fun i j hi hj => ?_⟩,fun i j x l hx hl => ?_⟩
  ·have hlt : i * z + j < xs.length:=by rw [hrow.1]; exact cell_in hi hj
   refine ⟨?_,?_⟩
   ·show _ = some ((xs[i * z + j]?).getD undef)
    rw [show 0 + i * z + j = i * z + j by omega,cell_of_row w g _ cur e (0,0) hg,List.getElem?_eq_getElem hlt]
    have h3 : xs[i * z + j]? = cur[i * z + j]?:=by
     rw [← htk,List.getElem?_take,if_pos (cell_in hi hj)]; simp
    rw [← h3,List.getElem?_eq_getElem hlt]; rfl
   ·rw [show 0 + i * z + j = i * z + j by omega]
    exact hu g _ (by rw [q1]; rfl) (cell_in hi hj)
  ·obtain ⟨y,r1,r2⟩:=hel.2.2 i j x l hx hl
   show CRep _ _ l ((xs[i * z + j]?).getD undef)
   rw [r1]
   exact r2.keep hI (fun _ _ _ => rfl)
theorem le_openH {st : St} {b off e z : Nat} {es cs : List D} (hlt : b < 100000) (hb : look st.bx b = some cs) (hoff : off < cs.length) (hf : lookF st.fl (b,some off) = some (e,z,some es)) :
  Le st ⟨st.tm,(b,over cs off [sD z es]) :: st.bx,((b,some off),(e,z,none)) :: offP st.fl [(b,some off)]⟩:=by
 intro base w0 I0 N a w ⟨I,ρ,hr⟩
 obtain ⟨u,hat,hown⟩:=hr.fl b (some off) e (z,some es) hf
 obtain ⟨gb,hgb,hbb,hbox,hnIb⟩:=hr.bx b cs hb
 obtain ⟨us,tyB,hblk,hrowL⟩:=hbox.cells hlt
 have huo : us[off]? = some u:=by
  simp only [At,hgb,Option.bind_some] at hat
  rw [cell_of_row w gb off us.toArray tyB (0,0) hblk] at hat
  simpa using hat
 let I' : Still:=fun k j => I k j ∨ (u.ownBlock = some k ∧ k < w.heap.size ∧ j < es.length * z)
 have hI : ∀ k j,I k j → I' k j:=fun _ _ => .inl
 have hrep : CRep I' w (sD z es) u:=own_repN hown hI (fun k j hk hj => .inr ⟨hk,(own_lt hown k hk).2,hj⟩)
 have hfl : ∀ s o x,lookF (((b,some off),(e,z,none)) :: offP st.fl [(b,some off)]) (s,o) = some x → ((s = b ∧ o = some off) ∧ x = (e,z,none)) ∨ (¬ (s = b ∧ o = some off) ∧ st.F.fl s o = some x):=by
  intro s o x hx
  simp only [lookF] at hx
  split at hx
  ·rename_i hm; cases hx; cases hm; exact .inl ⟨⟨rfl,rfl⟩,rfl⟩
  ·rw [lookF_off] at hx
   split at hx
   ·cases hx
   ·rename_i hm
    simp only [List.mem_singleton,Prod.mk.injEq] at hm
    exact .inr ⟨hm,hx⟩
 have hfl' : ∀ s o x,lookF (((b,some off),(e,z,none)) :: offP st.fl [(b,some off)]) (s,o) = some x → ∃ y,st.F.fl s o = some y:=fun s o x hx => by
  rcases hfl s o x hx with ⟨⟨rfl,rfl⟩,_⟩ | ⟨_,q⟩
  ·exact ⟨_,hf⟩
  ·exact ⟨_,q⟩
 have hρu : ∀ c g,ρ c = some g → u.ownBlock ≠ some g:=fun c g hc hu => by
  obtain ⟨n,xs,_,k2,_⟩:=hown
  exact (k2 g hu).2.2 c hc
 refine ⟨I',ρ,hr.defers,hr.size,fun s v hv => ?_,hr.cap,fun c o' x hx => by obtain ⟨y,q⟩:=hfl' _ _ _ hx; exact hr.flc c o' y q,fun c ds hc => ?_,hr.inj,fun c hc => ?_,fun s o e' z' hx => ?_,fun s o s' o' x x' y y' g' h1 h2 h3 h4 h5 h6 => ?_,fun k j hi => hi.elim (hr.lt k j) (fun q => q.2.1),fun k j hi => hi.elim (hr.sub k j) (fun q => .inr (own_lt hown k q.1).1),hr.below,hr.room,fun k j hi => ⟨hI k j (hr.mon k j hi).1,(hr.mon k j hi).2⟩⟩
 ·obtain ⟨y,q1,q2⟩:=hr.tm s v hv
  exact ⟨y,q1,q2.keep hI (fun _ _ _ h => h) (fun _ _ _ => rfl)⟩
 ·have hc' : look ((b,over cs off [sD z es]) :: st.bx) c = some ds:=hc
  simp only [look] at hc'
  split at hc'
  ·rename_i ebc; cases hc'; subst ebc
   refine ⟨gb,hgb,hbb,.inl ⟨hlt,us,tyB,hblk,by rw [over_len (by simp; omega)]; exact hrowL.1,fun j c' y hj hy => ?_⟩,fun j hj => hj.elim (hnIb j) (fun q => hρu _ _ hgb q.1)⟩
   by_cases hjo : j = off
   ·subst hjo
    have:=over_in (cs:=cs) (ds:=[sD z es]) (off:=j) (j:=0) (by simp; omega) (by simp)
    rw [Nat.add_zero] at this
    rw [this] at hj
    simp at hj; subst hj
    rw [huo] at hy; cases hy
    exact .inl hrep
   ·rw [over_out (by simp; omega) (by simp; omega)] at hj
    exact (hrowL.2 j c' y hj hy).keep hI (fun _ _ _ h => h) (fun _ _ _ => rfl)
  ·obtain ⟨g',q1,q2,q3,q4⟩:=hr.bx c ds hc'
   exact ⟨g',q1,q2,q3.keep hI (fun _ _ _ h => h) (fun _ _ _ => rfl) rfl,fun j hj => hj.elim (q4 j) (fun q => hρu _ _ q1 q.1)⟩
 ·have hc' : look ((b,over cs off [sD z es]) :: st.bx) c = none:=hc
  simp only [look] at hc'
  split at hc'
  ·cases hc'
  ·exact hr.nob c hc'
 ·rcases hfl _ _ _ hx with ⟨⟨rfl,rfl⟩,q⟩ | ⟨n1,q⟩
  ·cases q
   obtain ⟨n,xs,k1,k2,k3⟩:=hown
   obtain ⟨k4,_⟩:=k3 es rfl
   refine ⟨u,hat,n,xs,k1,fun g hg => ⟨(k2 g hg).1,fun j hj hi => ?_,(k2 g hg).2.2⟩,fun es he => by cases he⟩
   rcases hi with hi | hi
   ·exact (k2 g hg).2.1 j (fun q => by cases q) hi
   ·have:=hj rfl; simp only at this; rw [k4] at this; omega
  ·obtain ⟨y,q1,q2⟩:=hr.fl s o e' z' q
   refine ⟨y,q1,own_keep q2 (fun _ _ => rfl) (fun g' j hg' hi => hi.elim id (fun k => absurd (hr.apart s o b (some off) _ _ y u g' q hf q1 hat hg' k.1) n1)) (fun _ _ _ h => h) hI (fun _ _ _ => rfl)⟩
 ·obtain ⟨y1,q1⟩:=hfl' _ _ _ h1
  obtain ⟨y2,q2⟩:=hfl' _ _ _ h2
  exact hr.apart s o s' o' y1 y2 y y' g' q1 q2 h3 h4 h5 h6
set_option maxRecDepth 100000
def Q15r0 : IC:=cReg Try.prog [xX 1 0,⟨some 2,none,iAlo 2 [zS,zI]⟩] [1,2] [1,2]
def Q15r1_0 : IC:=cOwn Try.prog 1 5 6 20 2
def Q15r1_1 : IC:=cReg Try.prog [] [1,2] [1,2]
def Q15r1 : IC:=(cSeq Q15r1_0 Q15r1_1)
def Q15r2_0 : IC:=cLe
def Q15r2_1 : IC:=cReg Try.prog [xF 7 0 1,xL 8 1 7,xN 9 8,⟨some 10,none,iMov 10 (.const (.int .i64 0)) false⟩] [1,2,8,9,10] [1,2,100001]
def Q15r2 : IC:=(cSeq Q15r2_0 Q15r2_1)
def Q15r3 : IC:=cReg Try.prog [xB 11 .lss 10 9] [1,2,8,9,10,11] [1,2,100001]
def Q15c3 : IC:=cCond (.tmp 11) cSkip (cExit 0)
def Q15r4 : IC:=cReg Try.prog [xM 12 10,xI 13 17 8 10,xA 14 17 13,⟨some 4,none,iAlo 4 [zS,zI,zI,zI,zI,zS,zI,zI,zS,zI,zI,zI,zS,zS,zF,zS,zS]⟩,xT 3 12,xS 17 4 14] [1,2,3,4,8,9,10] [1,2,4,100001]
def Q15r5 : IC:=cRegD Try.prog [xF 15 0 1,xL 16 1 15,xM 17 3,xA 18 17 4,⟨some 19,none,iCall 19 27 [(.tmp 18),(.const (.bool false))]⟩,⟨some 20,none,iCall 20 27 [(.tmp 19),(.const (.bool true))]⟩,xI 21 17 16 17,xS 17 21 20] [[],[0],[],[],[3],[4,3],[1,2,0,3,4,5],[6,5,0,1,2,3,4]] [1,2,8,9,10] [1,2,100001]
def Q15b4 : IC:=cBlock 1 (cSeq Q15r4 Q15r5)
def Q15r6 : IC:=cReg Try.prog [xC 22 .add 10 1,xM 10 22] [1,2,8,9,10] [1,2,100001]
def Q15l2a : IC:=(cSeq Q15r3 (cSeq Q15c3 (cSeq Q15b4 Q15r6)))
def Q15l2 : IC:=cLoop Q15l2a
def Q15b1 : IC:=cBlock 0 Q15l2
def Q15r7_0 : IC:=cLe
def Q15r7_1 : IC:=cReg Try.prog [xA 24 2 1,⟨some 25,none,iBld 25 [zI,zI,zI,zI,zF,zI,zS] [(0,1)] [(.const (.int .i64 1))]⟩,xV2 26 19 24 25,xM 23 26,xE 27 23 0,xE 28 23 1,xS 2 1 27] [1,2] [1,2]
def Q15r7 : IC:=(cSeq Q15r7_0 Q15r7_1)
def Q15r8 : IC:=cReg Try.prog [xA 29 2 1,xS 2 2 29] [2] [2]
def fair_Round : IC:=(cSeq Q15r0 (cSeq Q15r1 (cSeq (cSeq Q15r2 Q15b1) (cSeq Q15r7 (cSeq Q15r8 cRet)))))
theorem told_fair_Round {args r : List D} (hl : args.length = 1) (h : fair_Round (start args) (fin [(2,some (2,true))] r)) : Told Try.prog 17 args r :=
 told_of follows Try.func17 rfl (an:=[([],[1,2],[1,2],[]),([(1003,[],[])],[1,2],[1,2],[]),([(12000,[],[])],[1,2,8,9,10],[1,2,100001],[]),([],[1,2,8,9,10,11],[1,2,100001],[]),([],[1,2,3,4,8,9,10],[1,2,4,100001],[]),([],[1,2,8,9,10],[1,2,100001],[]),([],[1,2,8,9,10],[1,2,100001],[]),([(12000,[],[])],[1,2],[1,2],[]),([],[2],[2],[])]) (by kernel_rfl) (by kernel_rfl) (by rw [hl]; decide +kernel) h
set_option maxRecDepth 100000
def Q69r0 : IC:=cReg Try.prog [⟨some 2,none,iAlo 2 [zS,zI]⟩,⟨some 3,none,iMov 3 (.const (.int .i64 0)) true⟩] [1,2] [1,2]
def Q69r1_0 : IC:=cLe
def Q69r1_1 : IC:=cReg Try.prog [xF 7 1 1,xL 8 1 7,xF 9 0 1,xL 10 1 9,xN 11 10,xV2 12 39 8 11,xM 6 12,xE 13 6 0,xE 14 6 1,xT 4 13,xT 5 14] [1,2,4,5] [1,2,100001]
def Q69r1 : IC:=(cSeq Q69r1_0 Q69r1_1)
def Q69r2 : IC:=cReg Try.prog [xM 15 5,xC 16 .neq 15 0] [1,2,4,5,16] [1,2,100001]
def Q69r3 : IC:=cReg Try.prog [xA 17 2 1,xM 18 5,xS 2 2 17,xT 3 18] [2,3] [2]
def Q69c1a : IC:=(cSeq Q69r3 cRet)
def Q69c1 : IC:=cCond (.tmp 16) Q69c1a cSkip
def Q69r4 : IC:=cRegD Try.prog [xF 19 0 1,xL 20 1 19,xM 21 4,xF 22 0 1,xL 23 1 22,xM 24 4,xI 25 17 23 24,xA 26 17 25,xV1 27 40 26,xI 28 17 20 21,xS 17 28 27] [[],[0],[],[],[3],[],[4,5,3],[6,4,5,3],[7,6,4,5,3],[1,2,0,3,4,5,6,7,8],[9,8,0,1,2,3,4,5,6,7]] [1,2] [1,2]
def Q69r5 : IC:=cReg Try.prog [xF 29 1 1,xL 30 1 29,xC 31 .add 30 1,xF 32 1 1,xS 1 32 31] [1,2] [1,2]
def Q69r6 : IC:=cReg Try.prog [xA 33 2 1,xS 2 2 33,⟨some 3,none,iMov 3 (.const (.int .i64 0)) true⟩] [2,3] [2]
def world_tick : IC:=cSeq Q69r0 (cSeq Q69r1 (cSeq (cSeq Q69r2 Q69c1) (cSeq Q69r4 (cSeq Q69r5 (cSeq Q69r6 cRet)))))
theorem toldI_world_tick {cs r : List D} {off e : Nat} {z : Pay} (h : world_tick ⟨[(1,pD 1 0),(0,aD cs)],[(1,cs)],[((1,some off),(e,z))]⟩ (fin [(2,some (2,true)),(3,none)] r)) : ToldI Try.prog 28 [aD cs] 0 (some off) e z r :=
 toldI_cell follows Try.func28 rfl rfl rfl rfl rfl (by decide +kernel) (rw:=[]) (cuts:=[]) (lv:=[1,2]) (lb:=[1,2]) (an:=[([(12000,[],[])],[1,2,4,5],[1,2,100001],[]),([],[1,2,4,5,16],[1,2,100001],[]),([],[2,3],[2],[]),([],[1,2],[1,2],[]),([],[1,2],[1,2],[]),([],[2,3],[2],[])]) (by kernel_rfl) (by kernel_rfl) (by kernel_rfl) (by decide +kernel) (by rw [fin_eq]; exact h)
def Q68r0 : IC:=cReg Try.prog [xX 2 0,xX 3 1,⟨some 4,none,iAlo 4 [zS,zI,zI,zI,zI,zS,zI,zI,zS,zI,zI,zI,zS,zS,zF,zS,zS]⟩,⟨some 5,none,iMov 5 (.const (.int .i64 0)) true⟩] [2,3,4] [2,3,4]
def Q68r1 : IC:=cReg Try.prog [⟨some 6,none,iMov 6 (.const (.int .i64 0)) true⟩] [2,3,4,6] [2,3,4]
def Q68r2 : IC:=cReg Try.prog [xF 7 0 3,xL 8 1 7] [2,3,4,6,8] [2,3,4]
def Q68r3 : IC:=cReg Try.prog [xC 10 .eql 8 2,xT 9 10] [2,3,4,6,8,9] [2,3,4]
def Q68r4 : IC:=cReg Try.prog [xF 12 0 2,xA 13 7 12,xF 14 5 3,xA 15 2 14,xV2 16 41 13 15,xM 11 16,xE 17 11 0,xE 18 11 1,xF 19 0 2,xS 7 19 17,xT 6 18] [2,4,6] [2,4]
def Q68r5 : IC:=cReg Try.prog [xC 21 .eql 8 3,xT 20 21] [2,3,4,6,8,20] [2,3,4]
def Q68r6 : IC:=cReg Try.prog [xA 23 17 2,xF 24 2 3,xL 25 1 24,xF 26 4 3,xL 27 1 26,⟨some 28,none,iCall 28 38 [(.tmp 23),(.tmp 25),(.tmp 27)]⟩,xM 22 28,xE 29 22 0,xE 30 22 1,xS 17 2 29,xT 6 30] [2,4,6] [2,4]
def Q68r7 : IC:=cReg Try.prog [xC 32 .eql 8 4,xT 31 32] [2,3,4,6,8,31] [2,3,4]
def Q68r8 : IC:=cReg Try.prog [xA 34 17 2,xF 35 2 3,xL 36 1 35,xF 37 4 3,xL 38 1 37,⟨some 39,none,iCall 39 42 [(.tmp 34),(.tmp 36),(.tmp 38)]⟩,xM 33 39,xE 40 33 0,xE 41 33 1,xS 17 2 40,xT 6 41] [2,4,6] [2,4]
def Q68r9 : IC:=cReg Try.prog [xC 43 .eql 8 5,xT 42 43] [2,3,4,6,8,42] [2,3,4]
def Q68r10 : IC:=cReg Try.prog [xA 45 17 2,xF 46 2 3,xL 47 1 46,xF 48 4 3,xL 49 1 48,⟨some 50,none,iCall 50 43 [(.tmp 45),(.tmp 47),(.tmp 49)]⟩,xM 44 50,xE 51 44 0,xE 52 44 1,xS 17 2 51,xT 6 52] [2,4,6] [2,4]
def Q68r11 : IC:=cReg Try.prog [xC 54 .eql 8 6,xT 53 54] [2,3,4,6,53] [2,3,4]
def Q68r12 : IC:=cReg Try.prog [xA 56 17 2,xF 57 2 3,xL 58 1 57,xF 59 3 3,xL 60 1 59,xF 61 4 3,xL 62 1 61,⟨some 63,none,iCall 63 44 [(.tmp 56),(.tmp 58),(.tmp 60),(.tmp 62)]⟩,xM 55 63,xE 64 55 0,xE 65 55 1,xS 17 2 64,xT 6 65] [2,4,6] [2,4]
def Q68c6 : IC:=cCond (.tmp 53) Q68r12 cSkip
def Q68c5b : IC:=(cSeq Q68r11 Q68c6)
def Q68c5 : IC:=cCond (.tmp 42) Q68r10 Q68c5b
def Q68c4b : IC:=(cSeq Q68r9 Q68c5)
def Q68c4 : IC:=cCond (.tmp 31) Q68r8 Q68c4b
def Q68c3b : IC:=(cSeq Q68r7 Q68c4)
def Q68c3 : IC:=cCond (.tmp 20) Q68r6 Q68c3b
def Q68c2b : IC:=(cSeq Q68r5 Q68c3)
def Q68c2 : IC:=cCond (.tmp 9) Q68r4 Q68c2b
def Q68b1 : IC:=cBlock 0 (cSeq Q68r3 Q68c2)
def Q68r13 : IC:=cReg Try.prog [xA 66 17 2,xM 67 6,xS 17 4 66,xT 5 67] [4,5] [4]
def world_step : IC:=(cSeq Q68r0 (cSeq Q68r1 (cSeq (cSeq Q68r2 Q68b1) (cSeq Q68r13 cRet))))
theorem told_world_step {args r : List D} (hl : args.length = 2) (h : world_step (start args) (fin [(4,some (17,true)),(5,none)] r)) : Told Try.prog 29 args r :=
 told_of follows Try.func29 rfl (an:=[([],[2,3,4],[2,3,4],[]),([],[2,3,4,6],[2,3,4],[]),([],[2,3,4,6,8],[2,3,4],[]),([],[2,3,4,6,8,9],[2,3,4],[]),([],[2,4,6],[2,4],[]),([],[2,3,4,6,8,20],[2,3,4],[]),([],[2,4,6],[2,4],[]),([],[2,3,4,6,8,31],[2,3,4],[]),([],[2,4,6],[2,4],[]),([],[2,3,4,6,8,42],[2,3,4],[]),([],[2,4,6],[2,4],[]),([],[2,3,4,6,53],[2,3,4],[]),([],[2,4,6],[2,4],[]),([],[4,5],[4],[])]) (by kernel_rfl) (by kernel_rfl) (by rw [hl]; decide +kernel) h
def Q64r0 : IC:=cReg Try.prog [xX 2 0,xX 3 1,⟨some 4,none,iAlo 4 [zS,zI]⟩,⟨some 5,none,iMov 5 (.const (.int .i64 0)) true⟩] [2,3,4] [2,3,4]
def Q64r1_0 : IC:=cOwn Try.prog 2 7 8 20 2
def Q64r1_1 : IC:=cReg Try.prog [] [2,3,4] [2,3,4]
def Q64r1 : IC:=(cSeq Q64r1_0 Q64r1_1)
def Q64r2 : IC:=cReg Try.prog [xF 10 0 3,xL 11 1 10,xC 12 .eql 11 1,xT 9 12] [2,3,4,9] [2,3,4]
def Q64r3_0 : IC:=cInn Try.prog 2 13 14 28 2
def Q64r3_1 : IC:=cReg Try.prog [xE 15 14 0,xE 16 14 1,xS 2 4 15,xT 5 16] [4,5] [4]
def Q64r3 : IC:=(cSeq Q64r3_0 Q64r3_1)
def Q64r4 : IC:=cReg Try.prog [xF 18 0 3,xL 19 1 18,xC 20 .lss 19 1,xM 21 20,xG 21 false (xF 22 0 3),xG 21 false (xL 23 1 22),xG 21 false (xC 24 .gtr 23 6),xP 25 21 24,xT 17 25] [2,3,4,17] [2,3,4]
def Q64r5_0 : IC:=cLe
def Q64r5_1 : IC:=cReg Try.prog [xA 26 2 2,xS 2 4 26,⟨some 5,none,iMov 5 (.const (.int .i64 1)) true⟩] [4,5] [4]
def Q64r5 : IC:=(cSeq Q64r5_0 Q64r5_1)
def Q64r6_0 : IC:=cLe
def Q64r6_1 : IC:=cReg Try.prog [xF 28 1 3,xL 29 1 28,xC 30 .lss 29 0,xM 31 30,xG 31 false (xF 32 1 3),xG 31 false (xL 33 1 32),xG 31 false (xF 34 0 2),xG 31 false (xL 35 1 34),xG 31 false (xN 36 35),xG 31 false (xB 37 .geq 33 36),xP 38 31 37,xT 27 38] [2,3,4,27] [2,3,4,100002]
def Q64r6 : IC:=(cSeq Q64r6_0 Q64r6_1)
def Q64r7_0 : IC:=cLe
def Q64r7_1 : IC:=cReg Try.prog [xA 39 2 2,xS 2 4 39,⟨some 5,none,iMov 5 (.const (.int .i64 6)) true⟩] [4,5] [4]
def Q64r7 : IC:=(cSeq Q64r7_0 Q64r7_1)
def Q64c4a : IC:=(cSeq Q64r7 cRet)
def Q64c4 : IC:=cCond (.tmp 27) Q64c4a cSkip
def Q64c3a : IC:=(cSeq Q64r5 cRet)
def Q64c3b : IC:=(cSeq Q64r6 Q64c4)
def Q64c3 : IC:=cCond (.tmp 17) Q64c3a Q64c3b
def Q64c2a : IC:=(cSeq Q64r3 cRet)
def Q64c2b : IC:=(cSeq Q64r4 Q64c3)
def Q64c2 : IC:=cCond (.tmp 9) Q64c2a Q64c2b
def Q64b1 : IC:=cBlock 0 (cSeq Q64r2 Q64c2)
def Q64r8 : IC:=cReg Try.prog [⟨some 6,none,iMov 6 (.const (.int .i64 0)) true⟩] [2,3,4] [2,3,4,100002]
def Q64r9 : IC:=cRegD Try.prog [xF 41 0 2,xL 42 1 41,xF 43 1 3,xL 44 1 43,xF 45 0 2,xL 46 1 45,xF 47 1 3,xL 48 1 47,xI 49 17 46 48,xA 50 17 49,xA 51 7 3,xV2 52 29 50 51,xM 40 52,xE 53 40 0,xE 54 40 1,xI 55 17 42 44,xS 17 55 53,xT 6 54] [[],[0],[],[2],[],[4],[],[6],[5,7,4,6],[8,5,7,4,6],[],[9,10,8,5,7,4,6],[11,9,10,8,5,7,4,6],[12,11,9,10,8,5,7,4,6],[12,11,9,10,8,5,7,4,6],[1,3,0,2,4,5,6,7,8,9,10,11,12,13],[15,13,11,0,1,2,3,4,5,6,7,8,9,10,12],[14,16,0,1,2,3,4,5,6,7,8,9,10,11,12,13,15]] [2,4,6] [2,4]
def Q64r10 : IC:=cReg Try.prog [xA 56 2 2,xM 57 6,xS 2 4 56,xT 5 57] [4,5] [4]
def world_Do : IC:=(cSeq Q64r0 (cSeq Q64r1 (cSeq Q64b1 (cSeq Q64r8 (cSeq Q64r9 (cSeq Q64r10 cRet))))))
theorem told_world_Do {args r : List D} (hl : args.length = 2) (h : world_Do (start args) (fin [(4,some (2,true)),(5,none)] r)) : Told Try.prog 19 args r :=
 told_of follows Try.func19 rfl (an:=[([],[2,3,4],[2,3,4],[]),([(1003,[],[])],[2,3,4],[2,3,4],[]),([],[2,3,4,9],[2,3,4],[]),([(3002,[],[])],[4,5],[4],[]),([],[2,3,4,17],[2,3,4],[]),([(12000,[],[])],[4,5],[4],[]),([(12000,[],[])],[2,3,4,27],[2,3,4,100002],[]),([(12000,[],[])],[4,5],[4],[]),([],[2,3,4],[2,3,4,100002],[]),([],[2,4,6],[2,4],[]),([],[4,5],[4],[])]) (by kernel_rfl) (by kernel_rfl) (by rw [hl]; decide +kernel) h
set_option maxRecDepth 100000
def Q30r0 : IC:=cReg Try.prog [⟨some 4,none,iMov 4 (.const (.slice none 0 0)) true⟩] [0,1] []
def Q30r1 : IC:=cReg Try.prog [⟨some 5,none,iMov 5 (.const (.slice none 0 0)) true⟩] [0,1,5] []
def Q30r2 : IC:=cReg Try.prog [xM 8 0,xN 9 8,⟨some 10,none,iMov 10 (.const (.int .i64 0)) false⟩] [1,5,8,9,10] []
def Q30r3 : IC:=cReg Try.prog [xB 11 .lss 10 9] [1,5,8,9,10,11] []
def Q30c3 : IC:=cCond (.tmp 11) cSkip (cExit 0)
def Q30r4 : IC:=cReg Try.prog [xI 12 17 8 10,xA 13 17 12,⟨some 7,none,iAlo 7 [zS,zI,zI,zI,zI,zS,zI,zI,zS,zI,zI,zI,zS,zS,zF,zS,zS]⟩,xS 17 7 13] [1,5,7,8,9,10] [7]
def Q30r5 : IC:=cReg Try.prog [xT 14 5,xM 15 1,xA 16 17 7,⟨some 17,none,iCallV 17 Try.prog 15 [(.tmp 16)]⟩,xR 18 51 17 17,xW 19 51 17 248 14 18,xT 5 19] [1,5,8,9,10] []
def Q30b4 : IC:=cBlock 1 (cSeq Q30r4 Q30r5)
def Q30r6 : IC:=cReg Try.prog [xC 20 .add 10 1,xM 10 20] [1,5,8,9,10] []
def Q30l2a : IC:=(cSeq Q30r3 (cSeq Q30c3 (cSeq Q30b4 Q30r6)))
def Q30l2 : IC:=cLoop Q30l2a
def Q30b1 : IC:=cBlock 0 Q30l2
def Q30r7 : IC:=cReg Try.prog [xT 21 5,xT 4 21] [4] []
def list_OwnW : IC:=(cSeq Q30r0 (cSeq Q30r1 (cSeq (cSeq Q30r2 Q30b1) (cSeq Q30r7 cRet))))
theorem toldO_list_OwnW {args : List D} {r : D} {e : Nat} {z : Pay} (hl : args.length = 2) (h : list_OwnW (start args) (fin1 fun st => ∃ r',look st.tm 4 = some r' ∧ isC r' = true ∧ CVLe r' r ∧ lookF st.fl (4,none) = some (e,z))) : ToldO Try.prog 30 args [r] none e z :=
 toldO_slot follows Try.func30 rfl (an:=[([],[0,1],[],[]),([],[0,1,5],[],[]),([],[1,5,8,9,10],[],[]),([],[1,5,8,9,10,11],[],[]),([],[1,5,7,8,9,10],[7],[]),([],[1,5,8,9,10],[],[]),([],[1,5,8,9,10],[],[]),([],[4],[],[21])]) (by kernel_rfl) rfl (by rw [hl]; decide +kernel) h
theorem told_list_OwnW {args r : List D} (hl : args.length = 2) (h : list_OwnW (start args) (fin [(4,none)] r)) : Told Try.prog 30 args r :=
 told_of follows Try.func30 rfl (an:=[([],[0,1],[],[]),([],[0,1,5],[],[]),([],[1,5,8,9,10],[],[]),([],[1,5,8,9,10,11],[],[]),([],[1,5,7,8,9,10],[7],[]),([],[1,5,8,9,10],[],[]),([],[1,5,8,9,10],[],[]),([],[4],[],[21])]) (by kernel_rfl) (by kernel_rfl) (by rw [hl]; decide +kernel) h
def Q66r0 : IC:=cReg Try.prog [xX 1 0,⟨some 2,none,iAlo 2 [zS,zI]⟩] [1,2] [1,2]
def Q66r1 : IC:=cReg Try.prog [xF 3 0 1,xL 4 1 3,⟨some 5,none,iCall 5 30 [(.tmp 4),(.func 24)]⟩,xF 6 0 1,xS 1 6 5] [1,2] [1,2]
def Q66r2 : IC:=cReg Try.prog [xA 7 2 1,xS 2 2 7] [2] [2]
def world_Own : IC:=(cSeq Q66r0 (cSeq Q66r1 (cSeq Q66r2 cRet)))
theorem told_world_Own {args r : List D} (hl : args.length = 1) (h : world_Own (start args) (fin [(2,some (2,true))] r)) : Told Try.prog 20 args r :=
 told_of follows Try.func20 rfl (an:=[([],[1,2],[1,2],[]),([],[1,2],[1,2],[]),([],[2],[2],[])]) (by kernel_rfl) (by kernel_rfl) (by rw [hl]; decide +kernel) h
def Q67r0 : IC:=cReg Try.prog [xX 1 0,⟨some 2,none,iAlo 2 [zS,zI]⟩] [1,2] [1,2]
def Q67r1 : IC:=cReg Try.prog [xF 3 0 1,xL 4 1 3,⟨some 5,none,iCall 5 30 [(.tmp 4),(.func 24)]⟩,xF 6 0 1,xS 1 6 5] [1,2] [1,2]
def Q67r2_0 : IC:=cCpy 1 2 7 2
def Q67r2_1 : IC:=cReg Try.prog [] [2] [2]
def Q67r2 : IC:=(cSeq Q67r2_0 Q67r2_1)
def world_OwnO : IC:=(cSeq Q67r0 (cSeq Q67r1 (cSeq Q67r2 cRet)))
theorem toldO_world_OwnO {args rs : List D} {off e : Nat} {z : Pay} (hl : args.length = 1) (h : world_OwnO (start args) (fin1 fun st => ∃ b cs,look st.tm 2 = some (pD b 0) ∧ look st.bx b = some cs ∧ cs.length = 2 ∧ cs.all isL = true ∧ RowLe cs rs ∧ off < 2 ∧ lookF st.fl (b,some off) = some (e,z))) : ToldO Try.prog 20 args [aD rs] (some off) e z :=
 toldO_cell follows Try.func20 rfl (an:=[([],[1,2],[1,2],[]),([],[1,2],[1,2],[]),([(2002,[],[])],[2],[2],[])]) (by kernel_rfl) rfl (by kernel_rfl) (by kernel_rfl) (by rw [hl]; decide +kernel) h
def Q65r0 : IC:=cReg Try.prog [⟨some 2,none,iAlo 2 [zS,zI]⟩,⟨some 3,none,iMov 3 (.const (.int .i64 0)) true⟩] [0,2] [2]
def Q65r1 : IC:=cReg Try.prog [xM 4 0,xC 5 .lss 4 1,xM 6 5,xG 6 false (xM 7 0),xG 6 false (xC 8 .gtr 7 3),xP 9 6 8] [0,2,9] [2]
def Q65r2 : IC:=cReg Try.prog [⟨some 10,none,iBld 10 [zS,zI] [] []⟩,xS 2 2 10,⟨some 3,none,iMov 3 (.const (.int .i64 3)) true⟩] [2,3] [2]
def Q65c1a : IC:=(cSeq Q65r2 cRet)
def Q65c1 : IC:=cCond (.tmp 9) Q65c1a cSkip
def Q65r3_0 : IC:=cReg Try.prog [xM 11 0,⟨some 12,none,iMkS 12 17 248 (aD [zS,zI,zI,zI,zI,zS,zI,zI,zS,zI,zI,zI,zS,zS,zF,zS,zS]) (.tmp 11) (.tmp 11)⟩] [2,12] [2]
def Q65r3_1 : IC:=cReg Try.prog [⟨some 13,none,iBld 13 [zS,zI] [(0,1)] [(.tmp 12)]⟩,xS 2 2 13,⟨some 3,none,iMov 3 (.const (.int .i64 0)) true⟩] [2,3] [2]
def Q65r3 : IC:=(cSeq Q65r3_0 Q65r3_1)
def world_New : IC:=(cSeq Q65r0 (cSeq (cSeq Q65r1 Q65c1) (cSeq Q65r3 cRet)))
theorem told_world_New {args r : List D} (hl : args.length = 1) (h : world_New (start args) (fin [(2,some (2,true)),(3,none)] r)) : Told Try.prog 18 args r :=
 told_of follows Try.func18 rfl (an:=[([],[0,2],[2],[]),([],[0,2,9],[2],[]),([],[2,3],[2],[]),([(2,[2,12],[2])],[2,3],[2],[])]) (by kernel_rfl) (by kernel_rfl) (by rw [hl]; decide +kernel) h
set_option maxRecDepth 100000
def Q5r0 : IC:=cReg Try.prog [xX 1 0,⟨some 2,none,iAlo 2 [zI,zS]⟩] [1,2] [1,2]
def Q5r1 : IC:=cReg Try.prog [xF 3 1 1,xL 4 1 3,⟨some 5,none,iApp 5 5 1 1 (.const (.slice none 0 0)) (.tmp 4)⟩,xF 6 1 1,xS 1 6 5] [1,2] [1,2]
def Q5r2 : IC:=cReg Try.prog [xA 7 2 1,xS 2 2 7] [2] [2]
def chunk_OwnMsg : IC:=(cSeq Q5r0 (cSeq Q5r1 (cSeq Q5r2 cRet)))
theorem told_chunk_OwnMsg {args r : List D} (hl : args.length = 1) (h : chunk_OwnMsg (start args) (fin [(2,some (2,true))] r)) : Told Try.prog 23 args r :=
 told_of follows Try.func23 rfl (an:=[([],[1,2],[1,2],[]),([],[1,2],[1,2],[]),([],[2],[2],[])]) (by kernel_rfl) (by kernel_rfl) (by rw [hl]; decide +kernel) h
def Q4r0 : IC:=cReg Try.prog [xX 1 0,⟨some 2,none,iAlo 2 [zI,zI,zI,zI,zS,zS]⟩] [1,2] [1,2]
def Q4r1 : IC:=cReg Try.prog [xF 3 4 1,xL 4 1 3,⟨some 5,none,iApp 5 5 1 1 (.const (.slice none 0 0)) (.tmp 4)⟩,xF 6 4 1,xS 1 6 5] [1,2] [1,2]
def Q4r2 : IC:=cReg Try.prog [xF 7 5 1,xL 8 1 7,⟨some 9,none,iApp 9 3 1 8 (.const (.slice none 0 0)) (.tmp 8)⟩,xF 10 5 1,xS 1 10 9] [1,2] [1,2]
def Q4r3 : IC:=cReg Try.prog [xA 11 6 1,xS 6 2 11] [2] [2]
def chunk_Own : IC:=(cSeq Q4r0 (cSeq Q4r1 (cSeq Q4r2 (cSeq Q4r3 cRet))))
theorem told_chunk_Own {args r : List D} (hl : args.length = 1) (h : chunk_Own (start args) (fin [(2,some (6,true))] r)) : Told Try.prog 48 args r :=
 told_of follows Try.func48 rfl (an:=[([],[1,2],[1,2],[]),([],[1,2],[1,2],[]),([],[1,2],[1,2],[]),([],[2],[2],[])]) (by kernel_rfl) (by kernel_rfl) (by rw [hl]; decide +kernel) h
def Q28r0 : IC:=cReg Try.prog [⟨some 4,none,iMov 4 (.const (.slice none 0 0)) true⟩] [0,1] []
def Q28r1 : IC:=cReg Try.prog [⟨some 5,none,iMov 5 (.const (.slice none 0 0)) true⟩] [0,1,5] []
def Q28r2 : IC:=cReg Try.prog [xM 8 0,xN 9 8,⟨some 10,none,iMov 10 (.const (.int .i64 0)) false⟩] [1,5,8,9,10] []
def Q28r3 : IC:=cReg Try.prog [xB 11 .lss 10 9] [1,5,8,9,10,11] []
def Q28c3 : IC:=cCond (.tmp 11) cSkip (cExit 0)
def Q28r4 : IC:=cReg Try.prog [xI 12 2 8 10,xA 13 2 12,⟨some 7,none,iAlo 7 [zI,zS]⟩,xS 2 7 13] [1,5,7,8,9,10] [7]
def Q28r5 : IC:=cReg Try.prog [xT 14 5,xM 15 1,xA 16 2 7,⟨some 17,none,iCallV 17 Try.prog 15 [(.tmp 16)]⟩,xR 18 28 2 17,xW 19 28 2 32 14 18,xT 5 19] [1,5,8,9,10] []
def Q28b4 : IC:=cBlock 1 (cSeq Q28r4 Q28r5)
def Q28r6 : IC:=cReg Try.prog [xC 20 .add 10 1,xM 10 20] [1,5,8,9,10] []
def Q28l2a : IC:=(cSeq Q28r3 (cSeq Q28c3 (cSeq Q28b4 Q28r6)))
def Q28l2 : IC:=cLoop Q28l2a
def Q28b1 : IC:=cBlock 0 Q28l2
def Q28r7 : IC:=cReg Try.prog [xT 21 5,xT 4 21] [4] []
def list_OwnM : IC:=(cSeq Q28r0 (cSeq Q28r1 (cSeq (cSeq Q28r2 Q28b1) (cSeq Q28r7 cRet))))
theorem toldO_list_OwnM {args : List D} {r : D} {e : Nat} {z : Pay} (hl : args.length = 2) (h : list_OwnM (start args) (fin1 fun st => ∃ r',look st.tm 4 = some r' ∧ isC r' = true ∧ CVLe r' r ∧ lookF st.fl (4,none) = some (e,z))) : ToldO Try.prog 46 args [r] none e z :=
 toldO_slot follows Try.func46 rfl (an:=[([],[0,1],[],[]),([],[0,1,5],[],[]),([],[1,5,8,9,10],[],[]),([],[1,5,8,9,10,11],[],[]),([],[1,5,7,8,9,10],[7],[]),([],[1,5,8,9,10],[],[]),([],[1,5,8,9,10],[],[]),([],[4],[],[21])]) (by kernel_rfl) rfl (by rw [hl]; decide +kernel) h
theorem told_list_OwnM {args r : List D} (hl : args.length = 2) (h : list_OwnM (start args) (fin [(4,none)] r)) : Told Try.prog 46 args r :=
 told_of follows Try.func46 rfl (an:=[([],[0,1],[],[]),([],[0,1,5],[],[]),([],[1,5,8,9,10],[],[]),([],[1,5,8,9,10,11],[],[]),([],[1,5,7,8,9,10],[7],[]),([],[1,5,8,9,10],[],[]),([],[1,5,8,9,10],[],[]),([],[4],[],[21])]) (by kernel_rfl) (by kernel_rfl) (by rw [hl]; decide +kernel) h
def Q27r0 : IC:=cReg Try.prog [⟨some 4,none,iMov 4 (.const (.slice none 0 0)) true⟩] [0,1] []
def Q27r1 : IC:=cReg Try.prog [⟨some 5,none,iMov 5 (.const (.slice none 0 0)) true⟩] [0,1,5] []
def Q27r2 : IC:=cReg Try.prog [xM 8 0,xN 9 8,⟨some 10,none,iMov 10 (.const (.int .i64 0)) false⟩] [1,5,8,9,10] []
def Q27r3 : IC:=cReg Try.prog [xB 11 .lss 10 9] [1,5,8,9,10,11] []
def Q27c3 : IC:=cCond (.tmp 11) cSkip (cExit 0)
def Q27r4 : IC:=cReg Try.prog [xI 12 6 8 10,xA 13 6 12,⟨some 7,none,iAlo 7 [zI,zI,zI,zI,zS,zS]⟩,xS 6 7 13] [1,5,7,8,9,10] [7]
def Q27r5 : IC:=cReg Try.prog [xT 14 5,xM 15 1,xA 16 6 7,⟨some 17,none,iCallV 17 Try.prog 15 [(.tmp 16)]⟩,xR 18 97 6 17,xW 19 97 6 80 14 18,xT 5 19] [1,5,8,9,10] []
def Q27b4 : IC:=cBlock 1 (cSeq Q27r4 Q27r5)
def Q27r6 : IC:=cReg Try.prog [xC 20 .add 10 1,xM 10 20] [1,5,8,9,10] []
def Q27l2a : IC:=(cSeq Q27r3 (cSeq Q27c3 (cSeq Q27b4 Q27r6)))
def Q27l2 : IC:=cLoop Q27l2a
def Q27b1 : IC:=cBlock 0 Q27l2
def Q27r7 : IC:=cReg Try.prog [xT 21 5,xT 4 21] [4] []
def list_OwnC : IC:=(cSeq Q27r0 (cSeq Q27r1 (cSeq (cSeq Q27r2 Q27b1) (cSeq Q27r7 cRet))))
theorem toldO_list_OwnC {args : List D} {r : D} {e : Nat} {z : Pay} (hl : args.length = 2) (h : list_OwnC (start args) (fin1 fun st => ∃ r',look st.tm 4 = some r' ∧ isC r' = true ∧ CVLe r' r ∧ lookF st.fl (4,none) = some (e,z))) : ToldO Try.prog 47 args [r] none e z :=
 toldO_slot follows Try.func47 rfl (an:=[([],[0,1],[],[]),([],[0,1,5],[],[]),([],[1,5,8,9,10],[],[]),([],[1,5,8,9,10,11],[],[]),([],[1,5,7,8,9,10],[7],[]),([],[1,5,8,9,10],[],[]),([],[1,5,8,9,10],[],[]),([],[4],[],[21])]) (by kernel_rfl) rfl (by rw [hl]; decide +kernel) h
theorem told_list_OwnC {args r : List D} (hl : args.length = 2) (h : list_OwnC (start args) (fin [(4,none)] r)) : Told Try.prog 47 args r :=
 told_of follows Try.func47 rfl (an:=[([],[0,1],[],[]),([],[0,1,5],[],[]),([],[1,5,8,9,10],[],[]),([],[1,5,8,9,10,11],[],[]),([],[1,5,7,8,9,10],[7],[]),([],[1,5,8,9,10],[],[]),([],[1,5,8,9,10],[],[]),([],[4],[],[21])]) (by kernel_rfl) (by kernel_rfl) (by rw [hl]; decide +kernel) h
def Q50r0 : IC:=cReg Try.prog [xX 1 0,⟨some 2,none,iAlo 2 [zS,zI,zI,zI,zI,zS,zI]⟩] [1,2] [1,2]
def Q50r1 : IC:=cReg Try.prog [xF 3 0 1,xL 4 1 3,⟨some 5,none,iCall 5 46 [(.tmp 4),(.func 23)]⟩,xF 6 0 1,xS 1 6 5] [1,2] [1,2]
def Q50r2 : IC:=cReg Try.prog [xF 7 5 1,xL 8 1 7,⟨some 9,none,iCall 9 47 [(.tmp 8),(.func 48)]⟩,xF 10 5 1,xS 1 10 9] [1,2] [1,2]
def Q50r3 : IC:=cReg Try.prog [xA 11 7 1,xS 7 2 11] [2] [2]
def send_Own : IC:=(cSeq Q50r0 (cSeq Q50r1 (cSeq Q50r2 (cSeq Q50r3 cRet))))
theorem told_send_Own {args r : List D} (hl : args.length = 1) (h : send_Own (start args) (fin [(2,some (7,true))] r)) : Told Try.prog 33 args r :=
 told_of follows Try.func33 rfl (an:=[([],[1,2],[1,2],[]),([],[1,2],[1,2],[]),([],[1,2],[1,2],[]),([],[2],[2],[])]) (by kernel_rfl) (by kernel_rfl) (by rw [hl]; decide +kernel) h
def Q51r0 : IC:=cReg Try.prog [xX 1 0,⟨some 2,none,iAlo 2 [zS,zI,zI,zI,zI,zS,zI]⟩] [1,2] [1,2]
def Q51r1 : IC:=cReg Try.prog [xF 3 0 1,xL 4 1 3,⟨some 5,none,iCall 5 46 [(.tmp 4),(.func 23)]⟩,xF 6 0 1,xS 1 6 5] [1,2] [1,2]
def Q51r2 : IC:=cReg Try.prog [xF 7 5 1,xL 8 1 7,⟨some 9,none,iCall 9 47 [(.tmp 8),(.func 48)]⟩,xF 10 5 1,xS 1 10 9] [1,2] [1,2]
def Q51r3_0 : IC:=cCpy 1 2 11 7
def Q51r3_1 : IC:=cReg Try.prog [] [2] [2]
def Q51r3 : IC:=(cSeq Q51r3_0 Q51r3_1)
def send_OwnO : IC:=(cSeq Q51r0 (cSeq Q51r1 (cSeq Q51r2 (cSeq Q51r3 cRet))))
theorem toldO_send_OwnO {args rs : List D} {off e : Nat} {z : Pay} (hl : args.length = 1) (h : send_OwnO (start args) (fin1 fun st => ∃ b cs,look st.tm 2 = some (pD b 0) ∧ look st.bx b = some cs ∧ cs.length = 7 ∧ cs.all isL = true ∧ RowLe cs rs ∧ off < 7 ∧ lookF st.fl (b,some off) = some (e,z))) : ToldO Try.prog 33 args [aD rs] (some off) e z :=
 toldO_cell follows Try.func33 rfl (an:=[([],[1,2],[1,2],[]),([],[1,2],[1,2],[]),([],[1,2],[1,2],[]),([(2002,[],[])],[2],[2],[])]) (by kernel_rfl) rfl (by kernel_rfl) (by kernel_rfl) (by rw [hl]; decide +kernel) h
open mth
theorem ownMsg_told (m : Ms) (h : m.data.length ≤ 1048576) : Told Try.prog 23 [aD (encMs m)] [aD (encMs m)]:=by
 refine told_chunk_OwnMsg rfl ?_
 simp only [encMs]
 have h1 : m.data.length * 1 ≤ 140737488355328:=by omega
 refine wk (an2 @h1 @zmap) ?_
 exact ValsLe.refl _
theorem ownCh_told (c : Ch) (h : c.data.length ≤ 1048576) (h' : c.early.length ≤ 1048576) : Told Try.prog 48 [aD (encCh c)] [aD (encCh c)]:=by
 refine told_chunk_Own rfl ?_
 simp only [encCh]
 have h1 : c.data.length * 1 ≤ 140737488355328:=by omega
 have h2 : c.early.length * 8 ≤ 140737488355328:=by omega
 refine wk (an3 @h1 @h2 @zmap) ?_
 exact ValsLe.refl _
theorem callM : callableB Try.prog 23 = true:=by kernel_rfl
theorem callC : callableB Try.prog 48 = true:=by kernel_rfl
def omSt (l : List Ms) (k : Nat) : St:=⟨[(1,vD (.func (.func 23) #[] #[])),(5,sD 2 (encMl (l.take k))),(8,sD 2 (encMl l)),(9,vI l.length),(10,vI k)],[],[((5,none),(28,2,none))]⟩
theorem ml_snoc (l : List Ms) (m : Ms) : encMl (l ++ [m]) = encMl l ++ [aD [vI m.stream,sD 1 (m.data.map encB)]]:=by simp [encMl,encMs]
theorem ownM_core (l : List Ms) (hl : l.length ≤ 1048576) (hm : ∀ m ∈ l,m.data.length ≤ 1048576) (Q : AX → St → Prop) (hQ : Q (some none) ⟨[(4,sD 2 (encMl l))],[],[((4,none),(28,2,none))]⟩) : list_OwnM (start [sD 2 (encMl l),vD (.func (.func 23) #[] #[])]) Q:=by
 refine wk @len_ml ?_
 refine aw_loop (fun n st => ∃ k,k ≤ l.length ∧ n = l.length - k ∧ st = omSt l k) l.length (omSt l 0) ((Le.nilS 5 28 2 rfl).trans (Le.keep (lv:=[1,5,8,9,10]) (lb:=[]) (by simp only [ev0,ev1,ev2,look,lookF,cellsFrom,offT,offP,List.tail_nil,List.length_nil,Int.cast_ofNat_Int,Nat.reduceEqDiff,Nat.reduceAdd,Nat.reduceMul,Nat.reduceLeDiff,Nat.reduceLT,↓reduceIte,reduceCtorEq,Int.reduceBEq,Int.reduceBNe,Int.reduceLT,Int.reduceLE,Int.reduceToNat]; rfl))) ⟨0,by omega,by omega,rfl⟩ ?_
 rintro n st ⟨k,hk',hn,rfl⟩
 by_cases hlt : k < l.length
 ·obtain ⟨x,hx⟩ : ∃ m,l[k]? = some m:=⟨l[k],List.getElem?_eq_getElem hlt⟩
  have g1 : (k : Int) < (l.length : Int):=by omega
  have g2 : (0 : Int) ≤ (k : Int):=by omega
  have g3:=at_ml hx
  have g4 : inR .i64 ((k : Int) + 1) = true:=inR_of (by omega)
  have hlen : (l.take k).length = k:=by rw [List.length_take]; omega
  have hb1 : ((l.take k).length + 1) * 32 ≤ 140737488355328:=by omega
  have hnx : Next (fun n st => ∃ k,k ≤ l.length ∧ n = l.length - k ∧ st = omSt l k) n
    ⟨[(1,vD (.func (.func 23) #[] #[])),(5,sD 2 (encMl (l.take k) ++ [aD [vI x.stream,sD 1 (x.data.map encB)]])),(8,sD 2 (encMl l)),(9,vI l.length),(10,vI ((k : Int) + 1))],[],[((5,none),(28,2,none))]⟩:=by
   rw [← ml_snoc,show l.take k ++ [x] = l.take (k + 1) by rw [List.take_add_one,hx]; rfl]
   exact ⟨l.length - (k + 1),_,by omega,Le.refl _,k + 1,by omega,rfl,by simp only [omSt,Int.natCast_add,Int.cast_ofNat_Int]⟩
  generalize (fun n st => ∃ k,k ≤ l.length ∧ n = l.length - k ∧ st = omSt l k) = J at *
  simp only [omSt]
  generalize l.take k = G at *
  refine wk (an6 @g1 @g2 @g3 @callM @hb1 @len_ml) ?_
  refine cg [[aD [vI x.stream,sD 1 (x.data.map encB)]]] (an3 @callM @hb1 @len_ml) ?_ ?_
  ·exact obl_cons (ownMsg_told x (hm x (List.mem_of_getElem? hx))) obl_nil
  refine wk @g4 ?_
  exact hnx
 ·have hk'' : k = l.length:=by omega
  subst hk''
  have g1 : ¬ (l.length : Int) < (l.length : Int):=by omega
  simp only [omSt,List.take_length]
  refine wk @g1 ?_
  exact hQ
theorem ownM_told (l : List Ms) (hl : l.length ≤ 1048576) (hm : ∀ m ∈ l,m.data.length ≤ 1048576) : Told Try.prog 46 [sD 2 (encMl l),vD (.func (.func 23) #[] #[])] [sD 2 (encMl l)] :=
 told_list_OwnM rfl (ownM_core l hl hm _ ⟨[sD 2 (encMl l)],rfl,ValsLe.refl _⟩)
theorem ownM_toldO (l : List Ms) (hl : l.length ≤ 1048576) (hm : ∀ m ∈ l,m.data.length ≤ 1048576) : ToldO Try.prog 46 [sD 2 (encMl l),vD (.func (.func 23) #[] #[])] [sD 2 (encMl l)] none 28 (2,none) :=
 toldO_list_OwnM rfl (ownM_core l hl hm _ ⟨sD 2 (encMl l),rfl,rfl,CVLe.refl _,rfl⟩)
theorem cl_snoc' (l : List Ch) (c : Ch) : encCl (l ++ [c]) = encCl l ++ [aD [vI c.kind,vI c.number,vI c.stream,vI c.place,sD 1 (c.data.map encB),sD 1 (c.early.map vI)]]:=by simp [encCl,encCh]
def ocSt (l : List Ch) (k : Nat) : St:=⟨[(1,vD (.func (.func 48) #[] #[])),(5,sD 6 (encCl (l.take k))),(8,sD 6 (encCl l)),(9,vI l.length),(10,vI k)],[],[((5,none),(97,6,none))]⟩
theorem ownC_core (l : List Ch) (hl : l.length ≤ 1048576) (hm : ∀ m ∈ l,m.data.length ≤ 1048576 ∧ m.early.length ≤ 1048576) (Q : AX → St → Prop) (hQ : Q (some none) ⟨[(4,sD 6 (encCl l))],[],[((4,none),(97,6,none))]⟩) : list_OwnC (start [sD 6 (encCl l),vD (.func (.func 48) #[] #[])]) Q:=by
 refine wk @len_cl ?_
 refine aw_loop (fun n st => ∃ k,k ≤ l.length ∧ n = l.length - k ∧ st = ocSt l k) l.length (ocSt l 0) ((Le.nilS 5 97 6 rfl).trans (Le.keep (lv:=[1,5,8,9,10]) (lb:=[]) (by simp only [ev0,ev1,ev2,look,lookF,cellsFrom,offT,offP,List.tail_nil,List.length_nil,Int.cast_ofNat_Int,Nat.reduceEqDiff,Nat.reduceAdd,Nat.reduceMul,Nat.reduceLeDiff,Nat.reduceLT,↓reduceIte,reduceCtorEq,Int.reduceBEq,Int.reduceBNe,Int.reduceLT,Int.reduceLE,Int.reduceToNat]; rfl))) ⟨0,by omega,by omega,rfl⟩ ?_
 rintro n st ⟨k,hk',hn,rfl⟩
 by_cases hlt : k < l.length
 ·obtain ⟨x,hx⟩ : ∃ m,l[k]? = some m:=⟨l[k],List.getElem?_eq_getElem hlt⟩
  have g1 : (k : Int) < (l.length : Int):=by omega
  have g2 : (0 : Int) ≤ (k : Int):=by omega
  have g3:=at_cl hx
  have g4 : inR .i64 ((k : Int) + 1) = true:=inR_of (by omega)
  have hlen : (l.take k).length = k:=by rw [List.length_take]; omega
  have hb1 : ((l.take k).length + 1) * 80 ≤ 140737488355328:=by omega
  have hnx : Next (fun n st => ∃ k,k ≤ l.length ∧ n = l.length - k ∧ st = ocSt l k) n
    ⟨[(1,vD (.func (.func 48) #[] #[])),(5,sD 6 (encCl (l.take k) ++ [aD [vI x.kind,vI x.number,vI x.stream,vI x.place,sD 1 (x.data.map encB),sD 1 (x.early.map vI)]])),(8,sD 6 (encCl l)),(9,vI l.length),(10,vI ((k : Int) + 1))],[],[((5,none),(97,6,none))]⟩:=by
   rw [← cl_snoc',show l.take k ++ [x] = l.take (k + 1) by rw [List.take_add_one,hx]; rfl]
   exact ⟨l.length - (k + 1),_,by omega,Le.refl _,k + 1,by omega,rfl,by simp only [ocSt,Int.natCast_add,Int.cast_ofNat_Int]⟩
  generalize (fun n st => ∃ k,k ≤ l.length ∧ n = l.length - k ∧ st = ocSt l k) = J at *
  simp only [ocSt]
  generalize l.take k = G at *
  refine wk (an6 @g1 @g2 @g3 @callC @hb1 @len_cl) ?_
  refine cg [[aD [vI x.kind,vI x.number,vI x.stream,vI x.place,sD 1 (x.data.map encB),sD 1 (x.early.map vI)]]] (an3 @callC @hb1 @len_cl) ?_ ?_
  ·exact obl_cons (ownCh_told x (hm x (List.mem_of_getElem? hx)).1 (hm x (List.mem_of_getElem? hx)).2) obl_nil
  refine wk @g4 ?_
  exact hnx
 ·have hk'' : k = l.length:=by omega
  subst hk''
  have g1 : ¬ (l.length : Int) < (l.length : Int):=by omega
  simp only [ocSt,List.take_length]
  refine wk @g1 ?_
  exact hQ
def ohSt (l : List Ch) (k : Nat) : St:=⟨[(1,vD (.func (.func 48) #[] #[])),(5,xD),(8,sD 6 (encCl l)),(9,vI l.length),(10,vI k)],[],[((5,none),(97,6,some (encCl (l.take k))))]⟩
theorem ownH_core (l : List Ch) (hl : l.length ≤ 1048576) (hm : ∀ m ∈ l,m.data.length ≤ 1048576 ∧ m.early.length ≤ 1048576) (Q : AX → St → Prop) (hQ : Q (some none) ⟨[(4,xD)],[],[((4,none),(97,6,some (encCl l)))]⟩) : list_OwnC (start [sD 6 (encCl l),vD (.func (.func 48) #[] #[])]) Q:=by
 refine wk @len_cl ?_
 refine aw_loop (fun n st => ∃ k,k ≤ l.length ∧ n = l.length - k ∧ st = ohSt l k) l.length (ohSt l 0) ((le_nilH 5 97 6 rfl).trans (Le.keep (lv:=[1,5,8,9,10]) (lb:=[]) (by simp only [ev0,ev1,ev2,look,lookF,cellsFrom,offT,offP,List.tail_nil,List.length_nil,Int.cast_ofNat_Int,Nat.reduceEqDiff,Nat.reduceAdd,Nat.reduceMul,Nat.reduceLeDiff,Nat.reduceLT,↓reduceIte,reduceCtorEq,Int.reduceBEq,Int.reduceBNe,Int.reduceLT,Int.reduceLE,Int.reduceToNat]; rfl))) ⟨0,by omega,by omega,rfl⟩ ?_
 rintro n st ⟨k,hk',hn,rfl⟩
 by_cases hlt : k < l.length
 ·obtain ⟨x,hx⟩ : ∃ m,l[k]? = some m:=⟨l[k],List.getElem?_eq_getElem hlt⟩
  have g1 : (k : Int) < (l.length : Int):=by omega
  have g2 : (0 : Int) ≤ (k : Int):=by omega
  have g3:=at_cl hx
  have g4 : inR .i64 ((k : Int) + 1) = true:=inR_of (by omega)
  have hlen : (l.take k).length = k:=by rw [List.length_take]; omega
  have hb1 : ((l.take k).length + 1) * 80 ≤ 140737488355328:=by omega
  have hnx : Next (fun n st => ∃ k,k ≤ l.length ∧ n = l.length - k ∧ st = ohSt l k) n
    ⟨[(1,vD (.func (.func 48) #[] #[])),(5,xD),(8,sD 6 (encCl l)),(9,vI l.length),(10,vI ((k : Int) + 1))],[],[((5,none),(97,6,some (encCl (l.take k) ++ [aD [vI x.kind,vI x.number,vI x.stream,vI x.place,sD 1 (x.data.map encB),sD 1 (x.early.map vI)]])))]⟩:=by
   rw [← cl_snoc',show l.take k ++ [x] = l.take (k + 1) by rw [List.take_add_one,hx]; rfl]
   exact ⟨l.length - (k + 1),_,by omega,Le.refl _,k + 1,by omega,rfl,by simp only [ohSt,Int.natCast_add,Int.cast_ofNat_Int]⟩
  generalize (fun n st => ∃ k,k ≤ l.length ∧ n = l.length - k ∧ st = ohSt l k) = J at *
  simp only [ohSt]
  generalize l.take k = G at *
  refine wk (an6 @g1 @g2 @g3 @callC @hb1 @len_cl) ?_
  refine cg [[aD [vI x.kind,vI x.number,vI x.stream,vI x.place,sD 1 (x.data.map encB),sD 1 (x.early.map vI)]]] (an3 @callC @hb1 @len_cl) ?_ ?_
  ·exact obl_cons (ownCh_told x (hm x (List.mem_of_getElem? hx)).1 (hm x (List.mem_of_getElem? hx)).2) obl_nil
  refine wk @g4 ?_
  exact hnx
 ·have hk'' : k = l.length:=by omega
  subst hk''
  have g1 : ¬ (l.length : Int) < (l.length : Int):=by omega
  simp only [ohSt,List.take_length]
  refine wk @g1 ?_
  exact hQ
theorem ownC_told (l : List Ch) (hl : l.length ≤ 1048576) (hm : ∀ m ∈ l,m.data.length ≤ 1048576 ∧ m.early.length ≤ 1048576) : Told Try.prog 47 [sD 6 (encCl l),vD (.func (.func 48) #[] #[])] [sD 6 (encCl l)] :=
 told_list_OwnC rfl (ownC_core l hl hm _ ⟨[sD 6 (encCl l)],rfl,ValsLe.refl _⟩)
theorem ownC_toldO (l : List Ch) (hl : l.length ≤ 1048576) (hm : ∀ m ∈ l,m.data.length ≤ 1048576 ∧ m.early.length ≤ 1048576) : ToldO Try.prog 47 [sD 6 (encCl l),vD (.func (.func 48) #[] #[])] [sD 6 (encCl l)] none 97 (6,none) :=
 toldO_list_OwnC rfl (ownC_core l hl hm _ ⟨sD 6 (encCl l),rfl,rfl,CVLe.refl _,rfl⟩)
theorem ownC_toldH (l : List Ch) (hl : l.length ≤ 1048576) (hm : ∀ m ∈ l,m.data.length ≤ 1048576 ∧ m.early.length ≤ 1048576) : ToldO Try.prog 47 [sD 6 (encCl l),vD (.func (.func 48) #[] #[])] [xD] none 97 (6,some (encCl l)) :=
 toldO_list_OwnC rfl (ownH_core l hl hm _ ⟨xD,rfl,rfl,CVLe.refl _,rfl⟩)
structure SmallS (s : Sd) : Prop where
 q : s.queue.length ≤ 1048576
 m : ∀ m ∈ s.queue,m.data.length ≤ 1048576
 f : s.flight.length ≤ 1048576
 c : ∀ c ∈ s.flight,c.data.length ≤ 1048576 ∧ c.early.length ≤ 1048576
theorem ownS_told (s : Sd) (h : SmallS s) : Told Try.prog 33 [aD (encSd s)] [aD (encSd s)]:=by
 refine told_send_Own rfl ?_
 simp only [encSd]
 refine wk0 ?_
 refine cg0 [[sD 2 (encMl s.queue)]] ?_ ?_
 ·exact obl_cons (ownM_told s.queue h.q h.m) obl_nil
 refine wk0 ?_
 refine cg0 [[sD 6 (encCl s.flight)]] ?_ ?_
 ·exact obl_cons (ownC_told s.flight h.f h.c) obl_nil
 refine wk0 ?_
 exact ValsLe.refl _
theorem row_refl : ∀ (cs : List D),RowLe cs cs
 | [] => trivial
 | _ :: r => ⟨LfLe.refl _,row_refl r⟩
theorem ownS_toldQ (s : Sd) (h : SmallS s) : ToldO Try.prog 33 [aD (encSd s)] [aD (encSd s)] (some 0) 28 (2,none):=by
 refine toldO_send_OwnO rfl ?_
 simp only [encSd]
 refine wk0 ?_
 refine cg0 [[mO (sD 2 (encMl s.queue)) 28 2 xD]] ?_ ?_
 ·exact obl_out (ownM_toldO s.queue h.q h.m) obl_nil
 refine wk0 ?_
 refine cg0 [[sD 6 (encCl s.flight)]] ?_ ?_
 ·exact obl_cons (ownC_told s.flight h.f h.c) obl_nil
 refine wk0 ?_
 refine ⟨1,2,_,_,0,_,rfl,rfl,by decide,rfl,rfl,rfl,rfl,rfl,by decide,rfl,?_⟩
 refine wk0 ?_
 exact fin1_ret ⟨2,_,rfl,rfl,rfl,rfl,row_refl _,by decide,rfl⟩
theorem ownS_toldF (s : Sd) (h : SmallS s) : ToldO Try.prog 33 [aD (encSd s)] [aD (encSd s)] (some 5) 97 (6,none):=by
 refine toldO_send_OwnO rfl ?_
 simp only [encSd]
 refine wk0 ?_
 refine cg0 [[sD 2 (encMl s.queue)]] ?_ ?_
 ·exact obl_cons (ownM_told s.queue h.q h.m) obl_nil
 refine wk0 ?_
 refine cg0 [[mO (sD 6 (encCl s.flight)) 97 6 xD]] ?_ ?_
 ·exact obl_out (ownC_toldO s.flight h.f h.c) obl_nil
 refine wk0 ?_
 refine ⟨1,2,_,_,5,_,rfl,rfl,by decide,rfl,rfl,rfl,rfl,rfl,by decide,rfl,?_⟩
 refine wk0 ?_
 exact fin1_ret ⟨2,_,rfl,rfl,rfl,rfl,row_refl _,by decide,rfl⟩
theorem ownS_toldH (s : Sd) (h : SmallS s) : ToldO Try.prog 33 [aD (encSd s)] [aD [sD 2 (encMl s.queue),vI s.next,vI s.p0,vI s.p1,vI s.p2,xD,vI s.turn]] (some 5) 97 (6,some (encCl s.flight)):=by
 refine toldO_send_OwnO rfl ?_
 simp only [encSd]
 refine wk0 ?_
 refine cg0 [[sD 2 (encMl s.queue)]] ?_ ?_
 ·exact obl_cons (ownM_told s.queue h.q h.m) obl_nil
 refine wk0 ?_
 refine cg0 [[mO xD 97 6 (aD (encCl s.flight))]] ?_ ?_
 ·exact obl_out (ownC_toldH s.flight h.f h.c) obl_nil
 refine wk0 ?_
 refine ⟨1,2,_,_,5,_,rfl,rfl,by decide,rfl,rfl,rfl,rfl,rfl,by decide,rfl,?_⟩
 refine wk0 ?_
 exact fin1_ret ⟨2,_,rfl,rfl,rfl,rfl,row_refl _,by decide,rfl⟩
end Go.Proofs.Ytgaofjiidedcbad.ab
