import Derived.Test.YtgaofjiidedcbacGreatM38
import Derived.Test.YtgaofjiidedcbacGreatM20
import Derived.Test.YtgaofjiidedcbacGreatProg
import Derived.Test.YtgaofjiidedcbacGreatM32
import Derived.Test.YtgaofjiidedcbacGreatM35
set_option linter.unusedVariables false
set_option linter.unusedSimpArgs false
namespace Go.Proofs.YtgaofjiidedcbacGreat.ab
open Go Go.RowKit
theorem zk0 {base : Nat → Prop} {I : Still} {ρ : Nat → Option Nat} {w : World} {e z : Nat} {es : List D} {u : Value} (h : Own I ρ base w e (z,some es) u) {I1 : Still} (hI : ∀ b j,I b j → I1 b j) (hu : ∀ g j,u.ownBlock = some g → j < es.length * z → I1 g j) : CRep I1 w (sD z es) u:=by
 obtain ⟨n,xs,hrow,_,hh⟩:=h
 obtain ⟨hn,hel⟩:=hh es rfl
 simp only at hrow hel
 subst hn
 rcases hrow.2 with ⟨q1,q2⟩ | ⟨g,cap,cur,q1,_,hg,hnc,hcm,hcs,htk⟩
 ·have : es = []:=List.eq_nil_of_length_eq_zero q2
  subst this; rw [q1]; exact zkf z
 ·rw [q1]
  refine CRep.s ⟨fun i j => (xs[i * z + j]?).getD undef,hnc,(fun e => by cases e),hcm,hel.1,fun hne => ⟨g,0,rfl,fun i j hi hj => ?_⟩,fun i j x l hx hl => ?_⟩
  ·have hlt : i * z + j < xs.length:=by rw [hrow.1]; exact zrb hi hj
   refine ⟨?_,?_⟩
   ·show _ = some ((xs[i * z + j]?).getD undef)
    rw [show 0 + i * z + j = i * z + j by omega,cell_of_row w g _ cur e (0,0) hg,List.getElem?_eq_getElem hlt]
    have h3 : xs[i * z + j]? = cur[i * z + j]?:=by
     rw [← htk,List.getElem?_take,if_pos (zrb hi hj)]; simp
    rw [← h3,List.getElem?_eq_getElem hlt]; rfl
   ·rw [show 0 + i * z + j = i * z + j by omega]
    exact hu g _ (by rw [q1]; rfl) (zrb hi hj)
  ·obtain ⟨y,r1,r2⟩:=hel.2.2 i j x l hx hl
   show CRep _ _ l ((xs[i * z + j]?).getD undef)
   rw [r1]
   exact r2.keep hI (fun _ _ _ => rfl)
theorem z9r {st : St} {b off e z : Nat} {es cs : List D} (hlt : b < 100000) (hb : look st.bx b = some cs) (hoff : off < cs.length) (hf : lookF st.fl (b,some off) = some (e,z,some es)) :
  Le st ⟨st.tm,(b,over cs off [sD z es]) :: st.bx,((b,some off),(e,z,none)) :: offP st.fl [(b,some off)]⟩:=by
 intro base w0 I0 N a w ⟨I,ρ,hr⟩
 obtain ⟨u,hat,hown⟩:=hr.fl b (some off) e (z,some es) hf
 obtain ⟨gb,hgb,hbb,hbox,hnIb⟩:=hr.bx b cs hb
 obtain ⟨us,tyB,hblk,hrowL⟩:=hbox.cells hlt
 have huo : us[off]? = some u:=by
  simp only [At,hgb,Option.bind_some] at hat
  rw [cell_of_row w gb off us.toArray tyB (0,0) hblk] at hat
  simpa using hat
 let I' : Still:=fun k j => I k j ∨ (u.ownBlock = some k ∧ k < w.heap.size ∧ j < es.length * z)
 have hI : ∀ k j,I k j → I' k j:=fun _ _ => .inl
 have hrep : CRep I' w (sD z es) u:=zk0 hown hI (fun k j hk hj => .inr ⟨hk,(own_lt hown k hk).2,hj⟩)
 have hfl : ∀ s o x,lookF (((b,some off),(e,z,none)) :: offP st.fl [(b,some off)]) (s,o) = some x → ((s = b ∧ o = some off) ∧ x = (e,z,none)) ∨ (¬ (s = b ∧ o = some off) ∧ st.F.fl s o = some x):=by
  intro s o x hx
  simp only [lookF] at hx
  split at hx
  ·rename_i hm; cases hx; cases hm; exact .inl ⟨⟨rfl,rfl⟩,rfl⟩
  ·rw [zdb] at hx
   split at hx
   ·cases hx
   ·rename_i hm
    simp only [List.mem_singleton,Prod.mk.injEq] at hm
    exact .inr ⟨hm,hx⟩
 have hfl' : ∀ s o x,lookF (((b,some off),(e,z,none)) :: offP st.fl [(b,some off)]) (s,o) = some x → ∃ y,st.F.fl s o = some y:=fun s o x hx => by
  rcases hfl s o x hx with ⟨⟨rfl,rfl⟩,_⟩ | ⟨_,q⟩
  ·exact ⟨_,hf⟩
  ·exact ⟨_,q⟩
 have hρu : ∀ c g,ρ c = some g → u.ownBlock ≠ some g:=fun c g hc hu => by
  obtain ⟨n,xs,_,k2,_⟩:=hown
  exact (k2 g hu).2.2 c hc
 refine ⟨I',ρ,hr.defers,hr.size,fun s v hv => ?_,hr.cap,fun c o' x hx => by obtain ⟨y,q⟩:=hfl' _ _ _ hx; exact hr.flc c o' y q,fun c ds hc => ?_,hr.inj,fun c hc => ?_,fun s o e' z' hx => ?_,fun s o s' o' x x' y y' g' h1 h2 h3 h4 h5 h6 => ?_,fun k j hi => hi.elim (hr.lt k j) (fun q => q.2.1),fun k j hi => hi.elim (hr.sub k j) (fun q => .inr (own_lt hown k q.1).1),hr.below,hr.room,fun k j hi => ⟨hI k j (hr.mon k j hi).1,(hr.mon k j hi).2⟩⟩
 ·obtain ⟨y,q1,q2⟩:=hr.tm s v hv
  exact ⟨y,q1,q2.keep hI (fun _ _ _ h => h) (fun _ _ _ => rfl)⟩
 ·have hc' : look ((b,over cs off [sD z es]) :: st.bx) c = some ds:=hc
  simp only [look] at hc'
  split at hc'
  ·rename_i ebc; cases hc'; subst ebc
   refine ⟨gb,hgb,hbb,.inl ⟨hlt,us,tyB,hblk,by rw [zmb (by simp; omega)]; exact hrowL.1,fun j c' y hj hy => ?_⟩,fun j hj => hj.elim (hnIb j) (fun q => hρu _ _ hgb q.1)⟩
   by_cases hjo : j = off
   ·subst hjo
    have:=z4b (cs:=cs) (ds:=[sD z es]) (off:=j) (j:=0) (by simp; omega) (by simp)
    rw [Nat.add_zero] at this
    rw [this] at hj
    simp at hj; subst hj
    rw [huo] at hy; cases hy
    exact .inl hrep
   ·rw [znb (by simp; omega) (by simp; omega)] at hj
    exact (hrowL.2 j c' y hj hy).keep hI (fun _ _ _ h => h) (fun _ _ _ => rfl)
  ·obtain ⟨g',q1,q2,q3,q4⟩:=hr.bx c ds hc'
   exact ⟨g',q1,q2,q3.keep hI (fun _ _ _ h => h) (fun _ _ _ => rfl) rfl,fun j hj => hj.elim (q4 j) (fun q => hρu _ _ q1 q.1)⟩
 ·have hc' : look ((b,over cs off [sD z es]) :: st.bx) c = none:=hc
  simp only [look] at hc'
  split at hc'
  ·cases hc'
  ·exact hr.nob c hc'
 ·rcases hfl _ _ _ hx with ⟨⟨rfl,rfl⟩,q⟩ | ⟨n1,q⟩
  ·cases q
   obtain ⟨n,xs,k1,k2,k3⟩:=hown
   obtain ⟨k4,_⟩:=k3 es rfl
   refine ⟨u,hat,n,xs,k1,fun g hg => ⟨(k2 g hg).1,fun j hj hi => ?_,(k2 g hg).2.2⟩,fun es he => by cases he⟩
   rcases hi with hi | hi
   ·exact (k2 g hg).2.1 j (fun q => by cases q) hi
   ·have:=hj rfl; simp only at this; rw [k4] at this; omega
  ·obtain ⟨y,q1,q2⟩:=hr.fl s o e' z' q
   refine ⟨y,q1,zeb q2 (fun _ _ => rfl) (fun g' j hg' hi => hi.elim id (fun k => absurd (hr.apart s o b (some off) _ _ y u g' q hf q1 hat hg' k.1) n1)) (fun _ _ _ h => h) hI (fun _ _ _ => rfl)⟩
 ·obtain ⟨y1,q1⟩:=hfl' _ _ _ h1
  obtain ⟨y2,q2⟩:=hfl' _ _ _ h2
  exact hr.apart s o s' o' y1 y2 y y' g' q1 q2 h3 h4 h5 h6
set_option maxRecDepth 100000
def Q14r0 : IC:=cReg Tryz.prog [xX 1 0,⟨some 2,none,iAlo 2 [zS,zI]⟩] [1,2] [1,2]
def zm4 : IC:=cOwn Tryz.prog 1 5 6 22 2
def zz0 : IC:=cReg Tryz.prog [] [1,2] [1,2]
def Q14r1 : IC:=(cSeq zm4 zz0)
def zk6 : IC:=cLe
def z42 : IC:=cReg Tryz.prog [xF 7 0 1,xL 8 1 7,xN 9 8,⟨some 10,none,iMov 10 (.const (.int .i64 0)) false⟩] [1,2,8,9,10] [1,2,100001]
def Q14r2 : IC:=(cSeq zk6 z42)
def Q14r3 : IC:=cReg Tryz.prog [xB 11 .lss 10 9] [1,2,8,9,10,11] [1,2,100001]
def Q14c3 : IC:=cCond (.tmp 11) cSkip (cExit 0)
def Q14r4 : IC:=cReg Tryz.prog [xM 12 10,xI 13 17 8 10,xA 14 17 13,⟨some 4,none,iAlo 4 [zS,zI,zI,zI,zI,zS,zI,zI,zS,zI,zI,zI,zS,zS,zF,zS,zS]⟩,xT 3 12,xS 17 4 14] [1,2,3,4,8,9,10] [1,2,4,100001]
def Q14r5 : IC:=cRegD Tryz.prog [xF 15 0 1,xL 16 1 15,xM 17 3,xA 18 17 4,⟨some 19,none,iCall 19 23 [(.tmp 18),(.const (.bool false))]⟩,⟨some 20,none,iCall 20 23 [(.tmp 19),(.const (.bool true))]⟩,xI 21 17 16 17,xS 17 21 20] [[],[0],[],[],[3],[4,3],[1,2,0,3,4,5],[6,5,0,1,2,3,4]] [1,2,8,9,10] [1,2,100001]
def Q14b4 : IC:=cBlock 1 (cSeq Q14r4 Q14r5)
def Q14r6 : IC:=cReg Tryz.prog [xC 22 .add 10 1,xM 10 22] [1,2,8,9,10] [1,2,100001]
def Q14l2a : IC:=(cSeq Q14r3 (cSeq Q14c3 (cSeq Q14b4 Q14r6)))
def Q14l2 : IC:=cLoop Q14l2a
def Q14b1 : IC:=cBlock 0 Q14l2
def zh6 : IC:=cLe
def zr5 : IC:=cReg Tryz.prog [xA 24 2 1,⟨some 25,none,iBld 25 [zI,zI,zI,zI,zF,zI,zS] [(0,1)] [(.const (.int .i64 1))]⟩,xV2 26 20 24 25,xM 23 26,xE 27 23 0,xE 28 23 1,xS 2 1 27] [1,2] [1,2]
def Q14r7 : IC:=(cSeq zh6 zr5)
def Q14r8 : IC:=cReg Tryz.prog [xA 29 2 1,xS 2 2 29] [2] [2]
def zgs : IC:=(cSeq Q14r0 (cSeq Q14r1 (cSeq (cSeq Q14r2 Q14b1) (cSeq Q14r7 (cSeq Q14r8 cRet)))))
theorem zkh {args r : List D} (hl : args.length = 1) (h : zgs (start args) (fin [(2,some (2,true))] r)) : Told Tryz.prog 11 args r :=
 ze follows Tryz.func11 rfl (an:=[([],[1,2],[1,2],[]),([(1003,[],[])],[1,2],[1,2],[]),([(12000,[],[])],[1,2,8,9,10],[1,2,100001],[]),([],[1,2,8,9,10,11],[1,2,100001],[]),([],[1,2,3,4,8,9,10],[1,2,4,100001],[]),([],[1,2,8,9,10],[1,2,100001],[]),([],[1,2,8,9,10],[1,2,100001],[]),([(12000,[],[])],[1,2],[1,2],[]),([],[2],[2],[])]) (by kernel_rfl) (by kernel_rfl) (by rw [hl]; decide +kernel) h
open mth
structure SmallN (l : Ln) : Prop where
 q : l.s.queue.length ≤ 1048576
 f : l.s.flight.length ≤ 1048576
 e : l.r.early.length ≤ 1048576
 h : l.r.hold.length ≤ 1048576
 t : l.r.told.length ≤ 1048576
 th : l.there.length ≤ 1048576
 b : l.back.length ≤ 1048576
def CKIdle (f : Nat) : Prop:=∀ l,SmallN l → Told Tryz.prog f [aD (encLn l)] [vB (idleL l)]
def zkx (f : Nat) : Prop:=∀ w : Wd,w.lanes.length ≤ 1048576 → (∀ l ∈ w.lanes,SmallN l) → Told Tryz.prog f [aD (encWd w)] [vB (stillW w)]
theorem zfp {l : Ln} (h : GoodL l) : SmallN l:=by
 have h1:=zoe h.r
 have h4:=h.s.q
 have h5:=h.s.f
 have h6:=h.t
 have h7:=h.b
 exact ⟨by omega,by omega,by omega,by omega,by omega,by omega,by omega⟩
set_option maxRecDepth 100000
def Q94r0 : IC:=cReg Tryz.prog [⟨some 2,none,iAlo 2 [zS,zI]⟩,⟨some 3,none,iMov 3 (.const (.int .i64 0)) true⟩] [1,2] [1,2]
def zz1 : IC:=cLe
def zs4 : IC:=cReg Tryz.prog [xF 7 1 1,xL 8 1 7,xF 9 0 1,xL 10 1 9,xN 11 10,xV2 12 42 8 11,xM 6 12,xE 13 6 0,xE 14 6 1,xT 4 13,xT 5 14] [1,2,4,5] [1,2,100001]
def Q94r1 : IC:=(cSeq zz1 zs4)
def Q94r2 : IC:=cReg Tryz.prog [xM 15 5,xC 16 .neq 15 0] [1,2,4,5,16] [1,2,100001]
def Q94r3 : IC:=cReg Tryz.prog [xA 17 2 1,xM 18 5,xS 2 2 17,xT 3 18] [2,3] [2]
def Q94c1a : IC:=(cSeq Q94r3 cRet)
def Q94c1 : IC:=cCond (.tmp 16) Q94c1a cSkip
def Q94r4 : IC:=cRegD Tryz.prog [xF 19 0 1,xL 20 1 19,xM 21 4,xF 22 0 1,xL 23 1 22,xM 24 4,xI 25 17 23 24,xA 26 17 25,xV1 27 43 26,xI 28 17 20 21,xS 17 28 27] [[],[0],[],[],[3],[],[4,5,3],[6,4,5,3],[7,6,4,5,3],[1,2,0,3,4,5,6,7,8],[9,8,0,1,2,3,4,5,6,7]] [1,2] [1,2]
def Q94r5 : IC:=cReg Tryz.prog [xF 29 1 1,xL 30 1 29,xC 31 .add 30 1,xF 32 1 1,xS 1 32 31] [1,2] [1,2]
def Q94r6 : IC:=cReg Tryz.prog [xA 33 2 1,xS 2 2 33,⟨some 3,none,iMov 3 (.const (.int .i64 0)) true⟩] [2,3] [2]
def z1p : IC:=cSeq Q94r0 (cSeq Q94r1 (cSeq (cSeq Q94r2 Q94c1) (cSeq Q94r4 (cSeq Q94r5 (cSeq Q94r6 cRet)))))
theorem z2g {cs r : List D} {off e : Nat} {z : Pay} (h : z1p ⟨[(1,pD 1 0),(0,aD cs)],[(1,cs)],[((1,some off),(e,z))]⟩ (fin [(2,some (2,true)),(3,none)] r)) : ToldI Tryz.prog 30 [aD cs] 0 (some off) e z r :=
 zal follows Tryz.func30 rfl rfl rfl rfl rfl (by decide +kernel) (rw:=[]) (cuts:=[]) (lv:=[1,2]) (lb:=[1,2]) (an:=[([(12000,[],[])],[1,2,4,5],[1,2,100001],[]),([],[1,2,4,5,16],[1,2,100001],[]),([],[2,3],[2],[]),([],[1,2],[1,2],[]),([],[1,2],[1,2],[]),([],[2,3],[2],[])]) (by kernel_rfl) (by kernel_rfl) (by kernel_rfl) (by decide +kernel) (by rw [fin_eq]; exact h)
def Q93r0 : IC:=cReg Tryz.prog [xX 2 0,xX 3 1,⟨some 4,none,iAlo 4 [zS,zI,zI,zI,zI,zS,zI,zI,zS,zI,zI,zI,zS,zS,zF,zS,zS]⟩,⟨some 5,none,iMov 5 (.const (.int .i64 0)) true⟩] [2,3,4] [2,3,4]
def Q93r1 : IC:=cReg Tryz.prog [⟨some 6,none,iMov 6 (.const (.int .i64 0)) true⟩] [2,3,4,6] [2,3,4]
def Q93r2 : IC:=cReg Tryz.prog [xF 7 0 3,xL 8 1 7] [2,3,4,6,8] [2,3,4]
def Q93r3 : IC:=cReg Tryz.prog [xC 10 .eql 8 2,xT 9 10] [2,3,4,6,8,9] [2,3,4]
def Q93r4 : IC:=cReg Tryz.prog [xF 12 0 2,xA 13 7 12,xF 14 5 3,xA 15 2 14,xV2 16 44 13 15,xM 11 16,xE 17 11 0,xE 18 11 1,xF 19 0 2,xS 7 19 17,xT 6 18] [2,4,6] [2,4]
def Q93r5 : IC:=cReg Tryz.prog [xC 21 .eql 8 3,xT 20 21] [2,3,4,6,8,20] [2,3,4]
def Q93r6 : IC:=cReg Tryz.prog [xA 23 17 2,xF 24 2 3,xL 25 1 24,xF 26 4 3,xL 27 1 26,⟨some 28,none,iCall 28 37 [(.tmp 23),(.tmp 25),(.tmp 27)]⟩,xM 22 28,xE 29 22 0,xE 30 22 1,xS 17 2 29,xT 6 30] [2,4,6] [2,4]
def Q93r7 : IC:=cReg Tryz.prog [xC 32 .eql 8 4,xT 31 32] [2,3,4,6,8,31] [2,3,4]
def Q93r8 : IC:=cReg Tryz.prog [xA 34 17 2,xF 35 2 3,xL 36 1 35,xF 37 4 3,xL 38 1 37,⟨some 39,none,iCall 39 45 [(.tmp 34),(.tmp 36),(.tmp 38)]⟩,xM 33 39,xE 40 33 0,xE 41 33 1,xS 17 2 40,xT 6 41] [2,4,6] [2,4]
def Q93r9 : IC:=cReg Tryz.prog [xC 43 .eql 8 5,xT 42 43] [2,3,4,6,8,42] [2,3,4]
def Q93r10 : IC:=cReg Tryz.prog [xA 45 17 2,xF 46 2 3,xL 47 1 46,xF 48 4 3,xL 49 1 48,⟨some 50,none,iCall 50 46 [(.tmp 45),(.tmp 47),(.tmp 49)]⟩,xM 44 50,xE 51 44 0,xE 52 44 1,xS 17 2 51,xT 6 52] [2,4,6] [2,4]
def Q93r11 : IC:=cReg Tryz.prog [xC 54 .eql 8 6,xT 53 54] [2,3,4,6,53] [2,3,4]
def Q93r12 : IC:=cReg Tryz.prog [xA 56 17 2,xF 57 2 3,xL 58 1 57,xF 59 3 3,xL 60 1 59,xF 61 4 3,xL 62 1 61,⟨some 63,none,iCall 63 47 [(.tmp 56),(.tmp 58),(.tmp 60),(.tmp 62)]⟩,xM 55 63,xE 64 55 0,xE 65 55 1,xS 17 2 64,xT 6 65] [2,4,6] [2,4]
def Q93c6 : IC:=cCond (.tmp 53) Q93r12 cSkip
def Q93c5b : IC:=(cSeq Q93r11 Q93c6)
def Q93c5 : IC:=cCond (.tmp 42) Q93r10 Q93c5b
def Q93c4b : IC:=(cSeq Q93r9 Q93c5)
def Q93c4 : IC:=cCond (.tmp 31) Q93r8 Q93c4b
def Q93c3b : IC:=(cSeq Q93r7 Q93c4)
def Q93c3 : IC:=cCond (.tmp 20) Q93r6 Q93c3b
def Q93c2b : IC:=(cSeq Q93r5 Q93c3)
def Q93c2 : IC:=cCond (.tmp 9) Q93r4 Q93c2b
def Q93b1 : IC:=cBlock 0 (cSeq Q93r3 Q93c2)
def Q93r13 : IC:=cReg Tryz.prog [xA 66 17 2,xM 67 6,xS 17 4 66,xT 5 67] [4,5] [4]
def z2s : IC:=(cSeq Q93r0 (cSeq Q93r1 (cSeq (cSeq Q93r2 Q93b1) (cSeq Q93r13 cRet))))
theorem z2d {args r : List D} (hl : args.length = 2) (h : z2s (start args) (fin [(4,some (17,true)),(5,none)] r)) : Told Tryz.prog 31 args r :=
 ze follows Tryz.func31 rfl (an:=[([],[2,3,4],[2,3,4],[]),([],[2,3,4,6],[2,3,4],[]),([],[2,3,4,6,8],[2,3,4],[]),([],[2,3,4,6,8,9],[2,3,4],[]),([],[2,4,6],[2,4],[]),([],[2,3,4,6,8,20],[2,3,4],[]),([],[2,4,6],[2,4],[]),([],[2,3,4,6,8,31],[2,3,4],[]),([],[2,4,6],[2,4],[]),([],[2,3,4,6,8,42],[2,3,4],[]),([],[2,4,6],[2,4],[]),([],[2,3,4,6,53],[2,3,4],[]),([],[2,4,6],[2,4],[]),([],[4,5],[4],[])]) (by kernel_rfl) (by kernel_rfl) (by rw [hl]; decide +kernel) h
def Q89r0 : IC:=cReg Tryz.prog [xX 2 0,xX 3 1,⟨some 4,none,iAlo 4 [zS,zI]⟩,⟨some 5,none,iMov 5 (.const (.int .i64 0)) true⟩] [2,3,4] [2,3,4]
def z73 : IC:=cOwn Tryz.prog 2 7 8 22 2
def zd2 : IC:=cReg Tryz.prog [] [2,3,4] [2,3,4]
def Q89r1 : IC:=(cSeq z73 zd2)
def Q89r2 : IC:=cReg Tryz.prog [xF 10 0 3,xL 11 1 10,xC 12 .eql 11 1,xT 9 12] [2,3,4,9] [2,3,4]
def zu5 : IC:=cInn Tryz.prog 2 13 14 30 2
def zh4 : IC:=cReg Tryz.prog [xE 15 14 0,xE 16 14 1,xS 2 4 15,xT 5 16] [4,5] [4]
def Q89r3 : IC:=(cSeq zu5 zh4)
def Q89r4 : IC:=cReg Tryz.prog [xF 18 0 3,xL 19 1 18,xC 20 .lss 19 1,xM 21 20,xG 21 false (xF 22 0 3),xG 21 false (xL 23 1 22),xG 21 false (xC 24 .gtr 23 6),xP 25 21 24,xT 17 25] [2,3,4,17] [2,3,4]
def z82 : IC:=cLe
def z91 : IC:=cReg Tryz.prog [xA 26 2 2,xS 2 4 26,⟨some 5,none,iMov 5 (.const (.int .i64 1)) true⟩] [4,5] [4]
def Q89r5 : IC:=(cSeq z82 z91)
def z01 : IC:=cLe
def zr4 : IC:=cReg Tryz.prog [xF 28 1 3,xL 29 1 28,xC 30 .lss 29 0,xM 31 30,xG 31 false (xF 32 1 3),xG 31 false (xL 33 1 32),xG 31 false (xF 34 0 2),xG 31 false (xL 35 1 34),xG 31 false (xN 36 35),xG 31 false (xB 37 .geq 33 36),xP 38 31 37,xT 27 38] [2,3,4,27] [2,3,4,100002]
def Q89r6 : IC:=(cSeq z01 zr4)
def z84 : IC:=cLe
def zd5 : IC:=cReg Tryz.prog [xA 39 2 2,xS 2 4 39,⟨some 5,none,iMov 5 (.const (.int .i64 6)) true⟩] [4,5] [4]
def Q89r7 : IC:=(cSeq z84 zd5)
def Q89c4a : IC:=(cSeq Q89r7 cRet)
def Q89c4 : IC:=cCond (.tmp 27) Q89c4a cSkip
def Q89c3a : IC:=(cSeq Q89r5 cRet)
def Q89c3b : IC:=(cSeq Q89r6 Q89c4)
def Q89c3 : IC:=cCond (.tmp 17) Q89c3a Q89c3b
def Q89c2a : IC:=(cSeq Q89r3 cRet)
def Q89c2b : IC:=(cSeq Q89r4 Q89c3)
def Q89c2 : IC:=cCond (.tmp 9) Q89c2a Q89c2b
def Q89b1 : IC:=cBlock 0 (cSeq Q89r2 Q89c2)
def Q89r8 : IC:=cReg Tryz.prog [⟨some 6,none,iMov 6 (.const (.int .i64 0)) true⟩] [2,3,4] [2,3,4,100002]
def Q89r9 : IC:=cRegD Tryz.prog [xF 41 0 2,xL 42 1 41,xF 43 1 3,xL 44 1 43,xF 45 0 2,xL 46 1 45,xF 47 1 3,xL 48 1 47,xI 49 17 46 48,xA 50 17 49,xA 51 7 3,xV2 52 31 50 51,xM 40 52,xE 53 40 0,xE 54 40 1,xI 55 17 42 44,xS 17 55 53,xT 6 54] [[],[0],[],[2],[],[4],[],[6],[5,7,4,6],[8,5,7,4,6],[],[9,10,8,5,7,4,6],[11,9,10,8,5,7,4,6],[12,11,9,10,8,5,7,4,6],[12,11,9,10,8,5,7,4,6],[1,3,0,2,4,5,6,7,8,9,10,11,12,13],[15,13,11,0,1,2,3,4,5,6,7,8,9,10,12],[14,16,0,1,2,3,4,5,6,7,8,9,10,11,12,13,15]] [2,4,6] [2,4]
def Q89r10 : IC:=cReg Tryz.prog [xA 56 2 2,xM 57 6,xS 2 4 56,xT 5 57] [4,5] [4]
def zqy : IC:=(cSeq Q89r0 (cSeq Q89r1 (cSeq Q89b1 (cSeq Q89r8 (cSeq Q89r9 (cSeq Q89r10 cRet))))))
theorem zdc {args r : List D} (hl : args.length = 2) (h : zqy (start args) (fin [(4,some (2,true)),(5,none)] r)) : Told Tryz.prog 20 args r :=
 ze follows Tryz.func20 rfl (an:=[([],[2,3,4],[2,3,4],[]),([(1003,[],[])],[2,3,4],[2,3,4],[]),([],[2,3,4,9],[2,3,4],[]),([(3002,[],[])],[4,5],[4],[]),([],[2,3,4,17],[2,3,4],[]),([(12000,[],[])],[4,5],[4],[]),([(12000,[],[])],[2,3,4,27],[2,3,4,100002],[]),([(12000,[],[])],[4,5],[4],[]),([],[2,3,4],[2,3,4,100002],[]),([],[2,4,6],[2,4],[]),([],[4,5],[4],[])]) (by kernel_rfl) (by kernel_rfl) (by rw [hl]; decide +kernel) h
end Go.Proofs.YtgaofjiidedcbacGreat.ab
