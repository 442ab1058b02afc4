import Derived.Test.YtgaofjiidedcbacGreatM20
import Derived.Test.YtgaofjiidedcbacGreatM32
import Derived.Test.YtgaofjiidedcbacGreatM38
import Derived.ChangeOld
import Derived.SizedLaws
import Derived.Test.YtgaofjiidedcbacGreatProg
import Derived.Test.YtgaofjiidedcbacGreatM36
import Derived.Test.YtgaofjiidedcbacGreatM35
import Derived.WalkKit
import Derived.Test.YtgaofjiidedcbacGreatM19
import Derived.Test.YtgaofjiidedcbacGreatM27
set_option maxHeartbeats 1000000
set_option linter.unusedVariables false
set_option linter.unusedSimpArgs false
namespace Go.Proofs.YtgaofjiidedcbacGreat.fairTells
open Go Go.ChangeShapes Go.WideShapes Go.ChangeAt Go.RowKit
open ab mth
set_option maxRecDepth 100000 in
theorem lifted (hS : CSpoilR 34) (hP : CFPlay 7) (hR : CFRound 11) (hT : CFSettle 13) (os : Os) (started : os.Started) (H : Type) (enc : TypeId × Value → H) :
  ReturnsInHanded {} Tryz.checked os 3 .any (Rows.fairTellsSpec.pre6 enc Tryz.prog Tryz.f3 Rows.fairTellsRow.domain false) (Rows.fairTellsSpec.post enc Tryz.prog Tryz.f3 false true false false):=by
 refine returnsInHanded_of_change_sized (C:=Tryz.checked) own started (by kernel_rfl) Tryz.func3
  (ChangeSpec.witness6 (enc:=enc) (C:=Tryz.checked) false ⟨#[],#[.int .i64 0,.slice none 0 0],[]⟩ 8 (by kernel_rfl) (by kernel_rfl) (by kernel_rfl) (by kernel_rfl)) ?_
 intro W base args ds gs before hval0 hW0 hcnd hsz0 _
 have hval : ∀ (j : Nat) t v,Tryz.f3.params[j]? = some t → args[j]? = some v → Value.okWide Tryz.prog W .any base t v:=hval0
 have hW':=hW0
 obtain ⟨p,q,hA0,hV,rfl,hfz,hnd⟩:=hW0
 have hA : DataW.TrodAll enc Tryz.prog W 0 (fun _ => true) true Tryz.f3.params.toList args.toList ds p:=hA0
 rw [Tryz.params3] at hA hval
 obtain ⟨v0,vs0,d0,ds0,p0,q0,hargs,rfl,rfl,h0,r0⟩:=trodAll_cons hA
 obtain ⟨v1,vs1,d1,ds1,p1,q1,rfl,rfl,rfl,h1,r1⟩:=trodAll_cons r0
 obtain ⟨rfl,rfl,rfl⟩:=trodAll_nil r1
 obtain rfl : args = #[v0,v1]:=by cases args; simp_all
 obtain ⟨rfl,rfl⟩:=trodVars_none hV
 have lt0 : ∀ x ∈ p0,x.block < W.heap.size:=by obtain ⟨m,hm⟩:=h0; exact DataW.trod_lt m _ _ _ hm
 have lt1 : ∀ x ∈ p1,x.block < W.heap.size:=by obtain ⟨m,hm⟩:=h1; exact DataW.trod_lt m _ _ _ hm
 obtain ⟨n0,rfl⟩:=okWide_int Tryz.underlying3 (hval 0 3 v0 rfl rfl)
 obtain ⟨a1,len1,cap1,rfl⟩:=okWide_slice Tryz.underlying22 (hval 1 22 v1 rfl rfl)
 obtain ⟨x1,hM1,hu1,_⟩:=(by obtain ⟨fuel,hf⟩:=h1; exact in_steps hf : ∃ cs : List Sp,CRep (AllOf W) W (sD 7 (encSl cs)) (.slice a1 len1 cap1) ∧ cs.length ≤ Rows.uptoBulk d1 ∧ ∀ c ∈ cs,True)
 have hl1:=hM1.len
 rw [len_sl] at hl1
 clear hA0 hval0
 refine ((fairTells_told hS hP hR hT n0 x1 hl1).yes (W:=W) (vs:=[.int .i64 n0,.slice a1 len1 cap1]) (Vals.cons (.inl (CRep.v rfl)) (Vals.cons (.inl hM1) Vals.nil))).mono fun e W' ⟨he,bel⟩ => ?_
 subst he
 exact ⟨_,rfl,_,_,_,[],_,[],hW',trodAll_mk1 (shut_bool Tryz.underlying4 _),(trodAll_cons_mk (Below.trod laidOut (by kernel_rfl) (of_decide_eq_true (by kernel_rfl)) h0 bel lt0) (trodAll_cons_mk (Below.trod laidOut (by kernel_rfl) (of_decide_eq_true (by kernel_rfl)) h1 bel lt1) trodAll_mk0)),rfl,bel.frame _,fun h => by cases h⟩
theorem over (hS : CSpoilR 34) (hP : CFPlay 7) (hR : CFRound 11) (hT : CFSettle 13) : Rows.fairTellsRow.holds Tryz.pinned (OpenSpec.ofChange Rows.fairTellsSpec) :=
 OpenClaim.holds_of_wide 3 Tryz.f3 rfl rfl rfl rfl rfl rfl rfl ⟨rfl,rfl,rfl,rfl,rfl⟩ rfl rfl rfl rfl rfl (by kernel_rfl) Tryz.func3 (by kernel_rfl)
  (of_decide_eq_true (by kernel_rfl)) (by unfold Func.isWrapper; first | (rw [if_pos (by decide +kernel)]; kernel_rfl) | (rw [if_neg (by decide +kernel)]; exact ⟨rfl,rfl⟩))
  (fun os started H enc _ => lifted hS hP hR hT os started H enc)
end Go.Proofs.YtgaofjiidedcbacGreat.fairTells
namespace Go.Proofs.YtgaofjiidedcbacGreat.ab
set_option maxRecDepth 100000
open Go Go.RowKit
def Q13r0 : IC:=cReg Tryz.prog [⟨some 4,none,iAlo 4 [zS,zI]⟩,⟨some 5,none,iMov 5 (.const (.slice none 0 0)) true⟩,⟨some 6,none,iMov 6 (.const (.int .i64 0)) true⟩] [0,1,4] [4]
def Q13r1 : IC:=cReg Tryz.prog [xM 13 0,xV1 14 19 13,xM 12 14,xE 15 12 0,xE 16 12 1,⟨some 7,none,iAlo 7 [zS,zI]⟩,xS 2 7 15,xT 8 16] [1,4,7,8] [4,7]
def Q13r2 : IC:=cReg Tryz.prog [xM 17 8,xC 18 .neq 17 0] [1,4,7,8,18] [4,7]
def Q13r3 : IC:=cReg Tryz.prog [⟨some 19,none,iBld 19 [zS,zI] [] []⟩,xM 20 8,xS 2 4 19,⟨some 5,none,iMov 5 (.const (.slice none 0 0)) true⟩,xT 6 20] [4,5,6] [4]
def Q13c1a : IC:=(cSeq Q13r3 cRet)
def Q13c1 : IC:=cCond (.tmp 18) Q13c1a cSkip
def Q13r4 : IC:=cReg Tryz.prog [xM 21 1,xN 22 21,xC 23 .gtr 22 160] [1,4,7,23] [4,7]
def Q13r5 : IC:=cReg Tryz.prog [⟨some 24,none,iBld 24 [zS,zI] [] []⟩,xS 2 4 24,⟨some 5,none,iMov 5 (.const (.slice none 0 0)) true⟩,⟨some 6,none,iMov 6 (.const (.int .i64 5)) true⟩] [4,5,6] [4]
def Q13c2a : IC:=(cSeq Q13r5 cRet)
def Q13c2 : IC:=cCond (.tmp 23) Q13c2a cSkip
def Q13r6 : IC:=cReg Tryz.prog [xM 25 1,xN 26 25,⟨some 27,none,iMkS 27 1 8 (zI) (.tmp 26) (.tmp 26)⟩,xT 9 27] [1,4,7,9] [4,7,100027]
def Q13r7 : IC:=cReg Tryz.prog [xM 28 1,xN 29 28,⟨some 30,none,iMov 30 (.const (.int .i64 0)) false⟩] [4,7,9,28,29,30] [4,7,100027]
def Q13r8 : IC:=cReg Tryz.prog [xB 31 .lss 30 29] [4,7,9,28,29,30,31] [4,7,100027]
def Q13c5 : IC:=cCond (.tmp 31) cSkip (cExit 0)
def Q13r9 : IC:=cReg Tryz.prog [xM 32 30,xI 33 7 28 30,xA 34 7 33,⟨some 11,none,iAlo 11 [zI,zI,zI,zI,zF,zI,zS]⟩,xT 10 32,xS 7 11 34] [4,7,9,10,11,28,29,30] [4,7,11,100027]
def Q13r10 : IC:=cReg Tryz.prog [xM 36 9,xM 37 10,xA 38 2 7,xA 39 7 11,xV2 40 20 38 39,xM 35 40,xE 41 35 0,xE 42 35 1,xS 2 7 41,xI 43 1 36 37,xS 1 43 42] [4,7,9,28,29,30] [4,7,100027]
def Q13b6 : IC:=cBlock 1 (cSeq Q13r9 Q13r10)
def Q13r11 : IC:=cReg Tryz.prog [xC 44 .add 30 1,xM 30 44] [4,7,9,28,29,30] [4,7,100027]
def Q13l4a : IC:=(cSeq Q13r8 (cSeq Q13c5 (cSeq Q13b6 Q13r11)))
def Q13l4 : IC:=cLoop Q13l4a
def Q13b3 : IC:=cBlock 0 Q13l4
def Q13r12 : IC:=cReg Tryz.prog [xA 45 2 7,xM 46 9,xS 2 4 45,xT 5 46,⟨some 6,none,iMov 6 (.const (.int .i64 0)) true⟩] [4,5,6] [4]
def fair_Play : IC:=(cSeq Q13r0 (cSeq Q13r1 (cSeq (cSeq Q13r2 Q13c1) (cSeq (cSeq Q13r4 Q13c2) (cSeq Q13r6 (cSeq (cSeq Q13r7 Q13b3) (cSeq Q13r12 cRet)))))))
theorem told_fair_Play {args r : List D} (hl : args.length = 2) (h : fair_Play (start args) (fin [(4,some (2,true)),(5,none),(6,none)] r)) : Told Tryz.prog 7 args r :=
 told_of follows Tryz.func7 rfl (an:=[([],[0,1,4],[4],[]),([],[1,4,7,8],[4,7],[]),([],[1,4,7,8,18],[4,7],[]),([],[4,5,6],[4],[]),([],[1,4,7,23],[4,7],[]),([],[4,5,6],[4],[]),([],[1,4,7,9],[4,7,100027],[]),([],[4,7,9,28,29,30],[4,7,100027],[]),([],[4,7,9,28,29,30,31],[4,7,100027],[]),([],[4,7,9,10,11,28,29,30],[4,7,11,100027],[]),([],[4,7,9,28,29,30],[4,7,100027],[]),([],[4,7,9,28,29,30],[4,7,100027],[]),([],[4,5,6],[4],[])]) (by kernel_rfl) (by kernel_rfl) (by rw [hl]; decide +kernel) h
def Q16r0 : IC:=cReg Tryz.prog [xX 2 0,⟨some 4,none,iAlo 4 [zS,zI,zI,zI,zI,zS,zI,zI,zS,zI,zI,zI,zS,zS,zF,zS,zS]⟩] [1,2,4] [2,4]
def Q16r1 : IC:=cReg Tryz.prog [xA 8 17 2,xM 9 1,⟨some 10,none,iCall 10 37 [(.tmp 8),(.const (.int .i64 0)),(.tmp 9)]⟩,xM 7 10,xE 11 7 0,xE 12 7 1,⟨some 5,none,iAlo 5 [zS,zI,zI,zI,zI,zS,zI,zI,zS,zI,zI,zI,zS,zS,zF,zS,zS]⟩,xS 17 5 11,xT 6 12] [1,2,4,5,6] [2,4,5]
def Q16r2 : IC:=cReg Tryz.prog [xM 13 6,xC 14 .neq 13 0] [1,2,4,5,14] [2,4,5]
def Q16r3 : IC:=cReg Tryz.prog [xA 15 17 2,xS 17 4 15] [4] [4]
def Q16c4a : IC:=(cSeq Q16r3 cRet)
def Q16c4 : IC:=cCond (.tmp 14) Q16c4a cSkip
def Q16r4 : IC:=cReg Tryz.prog [xA 16 17 5,xS 17 2 16] [1,2,4] [2,4]
def Q16b3 : IC:=cBlock 1 (cSeq Q16r1 (cSeq (cSeq Q16r2 Q16c4) Q16r4))
def Q16l2a : IC:=Q16b3
def Q16l2 : IC:=cLoop Q16l2a
def Q16b1 : IC:=cBlock 0 Q16l2
def fair_allCome : IC:=(cSeq Q16r0 Q16b1)
theorem told_fair_allCome {args r : List D} (hl : args.length = 2) (h : fair_allCome (start args) (fin [(4,some (17,true))] r)) : Told Tryz.prog 23 args r :=
 told_of follows Tryz.func23 rfl (an:=[([],[1,2,4],[2,4],[]),([],[1,2,4,5,6],[2,4,5],[]),([],[1,2,4,5,14],[2,4,5],[]),([],[4],[4],[]),([],[1,2,4],[2,4],[])]) (by kernel_rfl) (by kernel_rfl) (by rw [hl]; decide +kernel) h
def Q15r0 : IC:=cReg Tryz.prog [xX 1 0,⟨some 2,none,iAlo 2 [zS,zI]⟩,⟨some 3,none,iMov 3 (.const (.int .i64 0)) true⟩] [1,2] [1,2]
def Q15r1 : IC:=cReg Tryz.prog [xA 5 2 1,xV1 6 22 5,xS 2 1 6] [1,2] [1,2]
def Q15r2 : IC:=cReg Tryz.prog [⟨some 4,none,iMov 4 (.const (.int .i64 0)) true⟩] [1,2,4] [1,2]
def Q15r3 : IC:=cReg Tryz.prog [xM 7 4,xC 8 .lss 7 200,xM 9 8,xG 9 true (xA 10 2 1),xG 9 true (xV1 11 24 10),xG 9 true (xO 12 11),xQ 13 9 12] [1,2,4,13] [1,2]
def Q15c3 : IC:=cCond (.tmp 13) cSkip (cExit 0)
def Q15r4 : IC:=cReg Tryz.prog [xA 14 2 1,xV1 15 11 14,xS 2 1 15] [1,2,4] [1,2]
def Q15r5 : IC:=cReg Tryz.prog [xM 16 4,xC 17 .add 16 1,xT 4 17] [1,2,4] [1,2]
def Q15b4 : IC:=cBlock 1 (cSeq Q15r4 Q15r5)
def Q15l2a : IC:=(cSeq (cSeq Q15r3 Q15c3) Q15b4)
def Q15l2 : IC:=cLoop Q15l2a
def Q15b1 : IC:=cBlock 0 Q15l2
def Q15r6 : IC:=cReg Tryz.prog [xA 18 2 1,xM 19 4,xS 2 2 18,xT 3 19] [2,3] [2]
def fair_Settle : IC:=(cSeq Q15r0 (cSeq Q15r1 (cSeq Q15r2 (cSeq Q15b1 (cSeq Q15r6 cRet)))))
theorem told_fair_Settle {args r : List D} (hl : args.length = 1) (h : fair_Settle (start args) (fin [(2,some (2,true)),(3,none)] r)) : Told Tryz.prog 13 args r :=
 told_of follows Tryz.func13 rfl (an:=[([],[1,2],[1,2],[]),([],[1,2],[1,2],[]),([],[1,2,4],[1,2],[]),([],[1,2,4,13],[1,2],[]),([],[1,2,4],[1,2],[]),([],[1,2,4],[1,2],[]),([],[2,3],[2],[])]) (by kernel_rfl) (by kernel_rfl) (by rw [hl]; decide +kernel) h
theorem own_repN {base : Nat → Prop} {I : Still} {ρ : Nat → Option Nat} {w : World} {e z : Nat} {es : List D} {u : Value} (h : Own I ρ base w e (z,some es) u) {I1 : Still} (hI : ∀ b j,I b j → I1 b j) (hu : ∀ g j,u.ownBlock = some g → j < es.length * z → I1 g j) : CRep I1 w (sD z es) u:=by
 obtain ⟨n,xs,hrow,_,hh⟩:=h
 obtain ⟨hn,hel⟩:=hh es rfl
 simp only at hrow hel
 subst hn
 rcases hrow.2 with ⟨q1,q2⟩ | ⟨g,cap,cur,q1,_,hg,hnc,hcm,hcs,htk⟩
 ·have : es = []:=List.eq_nil_of_length_eq_zero q2
  subst this; rw [q1]; exact nil_rep z
 ·rw [q1]
  refine CRep.s ⟨fun i j => (xs[i * z + j]?).getD undef,hnc,(fun e => by cases e),hcm,hel.1,fun hne => ⟨g,0,rfl,fun i j hi hj => ?_⟩,fun i j x l hx hl => ?_⟩
  ·have hlt : i * z + j < xs.length:=by rw [hrow.1]; exact cell_in hi hj
   refine ⟨?_,?_⟩
   ·show _ = some ((xs[i * z + j]?).getD undef)
    rw [show 0 + i * z + j = i * z + j by omega,cell_of_row w g _ cur e (0,0) hg,List.getElem?_eq_getElem hlt]
    have h3 : xs[i * z + j]? = cur[i * z + j]?:=by
     rw [← htk,List.getElem?_take,if_pos (cell_in hi hj)]; simp
    rw [← h3,List.getElem?_eq_getElem hlt]; rfl
   ·rw [show 0 + i * z + j = i * z + j by omega]
    exact hu g _ (by rw [q1]; rfl) (cell_in hi hj)
  ·obtain ⟨y,r1,r2⟩:=hel.2.2 i j x l hx hl
   show CRep _ _ l ((xs[i * z + j]?).getD undef)
   rw [r1]
   exact r2.keep hI (fun _ _ _ => rfl)
theorem le_openH {st : St} {b off e z : Nat} {es cs : List D} (hlt : b < 100000) (hb : look st.bx b = some cs) (hoff : off < cs.length) (hf : lookF st.fl (b,some off) = some (e,z,some es)) :
  Le st ⟨st.tm,(b,over cs off [sD z es]) :: st.bx,((b,some off),(e,z,none)) :: offP st.fl [(b,some off)]⟩:=by
 intro base w0 I0 N a w ⟨I,ρ,hr⟩
 obtain ⟨u,hat,hown⟩:=hr.fl b (some off) e (z,some es) hf
 obtain ⟨gb,hgb,hbb,hbox,hnIb⟩:=hr.bx b cs hb
 obtain ⟨us,tyB,hblk,hrowL⟩:=hbox.cells hlt
 have huo : us[off]? = some u:=by
  simp only [At,hgb,Option.bind_some] at hat
  rw [cell_of_row w gb off us.toArray tyB (0,0) hblk] at hat
  simpa using hat
 let I' : Still:=fun k j => I k j ∨ (u.ownBlock = some k ∧ k < w.heap.size ∧ j < es.length * z)
 have hI : ∀ k j,I k j → I' k j:=fun _ _ => .inl
 have hrep : CRep I' w (sD z es) u:=own_repN hown hI (fun k j hk hj => .inr ⟨hk,(own_lt hown k hk).2,hj⟩)
 have hfl : ∀ s o x,lookF (((b,some off),(e,z,none)) :: offP st.fl [(b,some off)]) (s,o) = some x → ((s = b ∧ o = some off) ∧ x = (e,z,none)) ∨ (¬ (s = b ∧ o = some off) ∧ st.F.fl s o = some x):=by
  intro s o x hx
  simp only [lookF] at hx
  split at hx
  ·rename_i hm; cases hx; cases hm; exact .inl ⟨⟨rfl,rfl⟩,rfl⟩
  ·rw [lookF_off] at hx
   split at hx
   ·cases hx
   ·rename_i hm
    simp only [List.mem_singleton,Prod.mk.injEq] at hm
    exact .inr ⟨hm,hx⟩
 have hfl' : ∀ s o x,lookF (((b,some off),(e,z,none)) :: offP st.fl [(b,some off)]) (s,o) = some x → ∃ y,st.F.fl s o = some y:=fun s o x hx => by
  rcases hfl s o x hx with ⟨⟨rfl,rfl⟩,_⟩ | ⟨_,q⟩
  ·exact ⟨_,hf⟩
  ·exact ⟨_,q⟩
 have hρu : ∀ c g,ρ c = some g → u.ownBlock ≠ some g:=fun c g hc hu => by
  obtain ⟨n,xs,_,k2,_⟩:=hown
  exact (k2 g hu).2.2 c hc
 refine ⟨I',ρ,hr.defers,hr.size,fun s v hv => ?_,hr.cap,fun c o' x hx => by obtain ⟨y,q⟩:=hfl' _ _ _ hx; exact hr.flc c o' y q,fun c ds hc => ?_,hr.inj,fun c hc => ?_,fun s o e' z' hx => ?_,fun s o s' o' x x' y y' g' h1 h2 h3 h4 h5 h6 => ?_,fun k j hi => hi.elim (hr.lt k j) (fun q => q.2.1),fun k j hi => hi.elim (hr.sub k j) (fun q => .inr (own_lt hown k q.1).1),hr.below,hr.room,fun k j hi => ⟨hI k j (hr.mon k j hi).1,(hr.mon k j hi).2⟩⟩
 ·obtain ⟨y,q1,q2⟩:=hr.tm s v hv
  exact ⟨y,q1,q2.keep hI (fun _ _ _ h => h) (fun _ _ _ => rfl)⟩
 ·have hc' : look ((b,over cs off [sD z es]) :: st.bx) c = some ds:=hc
  simp only [look] at hc'
  split at hc'
  ·rename_i ebc; cases hc'; subst ebc
   refine ⟨gb,hgb,hbb,.inl ⟨hlt,us,tyB,hblk,by rw [over_len (by simp; omega)]; exact hrowL.1,fun j c' y hj hy => ?_⟩,fun j hj => hj.elim (hnIb j) (fun q => hρu _ _ hgb q.1)⟩
   by_cases hjo : j = off
   ·subst hjo
    have:=over_in (cs:=cs) (ds:=[sD z es]) (off:=j) (j:=0) (by simp; omega) (by simp)
    rw [Nat.add_zero] at this
    rw [this] at hj
    simp at hj; subst hj
    rw [huo] at hy; cases hy
    exact .inl hrep
   ·rw [over_out (by simp; omega) (by simp; omega)] at hj
    exact (hrowL.2 j c' y hj hy).keep hI (fun _ _ _ h => h) (fun _ _ _ => rfl)
  ·obtain ⟨g',q1,q2,q3,q4⟩:=hr.bx c ds hc'
   exact ⟨g',q1,q2,q3.keep hI (fun _ _ _ h => h) (fun _ _ _ => rfl) rfl,fun j hj => hj.elim (q4 j) (fun q => hρu _ _ q1 q.1)⟩
 ·have hc' : look ((b,over cs off [sD z es]) :: st.bx) c = none:=hc
  simp only [look] at hc'
  split at hc'
  ·cases hc'
  ·exact hr.nob c hc'
 ·rcases hfl _ _ _ hx with ⟨⟨rfl,rfl⟩,q⟩ | ⟨n1,q⟩
  ·cases q
   obtain ⟨n,xs,k1,k2,k3⟩:=hown
   obtain ⟨k4,_⟩:=k3 es rfl
   refine ⟨u,hat,n,xs,k1,fun g hg => ⟨(k2 g hg).1,fun j hj hi => ?_,(k2 g hg).2.2⟩,fun es he => by cases he⟩
   rcases hi with hi | hi
   ·exact (k2 g hg).2.1 j (fun q => by cases q) hi
   ·have:=hj rfl; simp only at this; rw [k4] at this; omega
  ·obtain ⟨y,q1,q2⟩:=hr.fl s o e' z' q
   refine ⟨y,q1,own_keep q2 (fun _ _ => rfl) (fun g' j hg' hi => hi.elim id (fun k => absurd (hr.apart s o b (some off) _ _ y u g' q hf q1 hat hg' k.1) n1)) (fun _ _ _ h => h) hI (fun _ _ _ => rfl)⟩
 ·obtain ⟨y1,q1⟩:=hfl' _ _ _ h1
  obtain ⟨y2,q2⟩:=hfl' _ _ _ h2
  exact hr.apart s o s' o' y1 y2 y y' g' q1 q2 h3 h4 h5 h6
set_option maxRecDepth 100000
def Q14r0 : IC:=cReg Tryz.prog [xX 1 0,⟨some 2,none,iAlo 2 [zS,zI]⟩] [1,2] [1,2]
def Q14r1_0 : IC:=cOwn Tryz.prog 1 5 6 22 2
def Q14r1_1 : IC:=cReg Tryz.prog [] [1,2] [1,2]
def Q14r1 : IC:=(cSeq Q14r1_0 Q14r1_1)
def Q14r2_0 : IC:=cLe
def Q14r2_1 : IC:=cReg Tryz.prog [xF 7 0 1,xL 8 1 7,xN 9 8,⟨some 10,none,iMov 10 (.const (.int .i64 0)) false⟩] [1,2,8,9,10] [1,2,100001]
def Q14r2 : IC:=(cSeq Q14r2_0 Q14r2_1)
def Q14r3 : IC:=cReg Tryz.prog [xB 11 .lss 10 9] [1,2,8,9,10,11] [1,2,100001]
def Q14c3 : IC:=cCond (.tmp 11) cSkip (cExit 0)
def Q14r4 : IC:=cReg Tryz.prog [xM 12 10,xI 13 17 8 10,xA 14 17 13,⟨some 4,none,iAlo 4 [zS,zI,zI,zI,zI,zS,zI,zI,zS,zI,zI,zI,zS,zS,zF,zS,zS]⟩,xT 3 12,xS 17 4 14] [1,2,3,4,8,9,10] [1,2,4,100001]
def Q14r5 : IC:=cRegD Tryz.prog [xF 15 0 1,xL 16 1 15,xM 17 3,xA 18 17 4,⟨some 19,none,iCall 19 23 [(.tmp 18),(.const (.bool false))]⟩,⟨some 20,none,iCall 20 23 [(.tmp 19),(.const (.bool true))]⟩,xI 21 17 16 17,xS 17 21 20] [[],[0],[],[],[3],[4,3],[1,2,0,3,4,5],[6,5,0,1,2,3,4]] [1,2,8,9,10] [1,2,100001]
def Q14b4 : IC:=cBlock 1 (cSeq Q14r4 Q14r5)
def Q14r6 : IC:=cReg Tryz.prog [xC 22 .add 10 1,xM 10 22] [1,2,8,9,10] [1,2,100001]
def Q14l2a : IC:=(cSeq Q14r3 (cSeq Q14c3 (cSeq Q14b4 Q14r6)))
def Q14l2 : IC:=cLoop Q14l2a
def Q14b1 : IC:=cBlock 0 Q14l2
def Q14r7_0 : IC:=cLe
def Q14r7_1 : IC:=cReg Tryz.prog [xA 24 2 1,⟨some 25,none,iBld 25 [zI,zI,zI,zI,zF,zI,zS] [(0,1)] [(.const (.int .i64 1))]⟩,xV2 26 20 24 25,xM 23 26,xE 27 23 0,xE 28 23 1,xS 2 1 27] [1,2] [1,2]
def Q14r7 : IC:=(cSeq Q14r7_0 Q14r7_1)
def Q14r8 : IC:=cReg Tryz.prog [xA 29 2 1,xS 2 2 29] [2] [2]
def fair_Round : IC:=(cSeq Q14r0 (cSeq Q14r1 (cSeq (cSeq Q14r2 Q14b1) (cSeq Q14r7 (cSeq Q14r8 cRet)))))
theorem told_fair_Round {args r : List D} (hl : args.length = 1) (h : fair_Round (start args) (fin [(2,some (2,true))] r)) : Told Tryz.prog 11 args r :=
 told_of follows Tryz.func11 rfl (an:=[([],[1,2],[1,2],[]),([(1003,[],[])],[1,2],[1,2],[]),([(12000,[],[])],[1,2,8,9,10],[1,2,100001],[]),([],[1,2,8,9,10,11],[1,2,100001],[]),([],[1,2,3,4,8,9,10],[1,2,4,100001],[]),([],[1,2,8,9,10],[1,2,100001],[]),([],[1,2,8,9,10],[1,2,100001],[]),([(12000,[],[])],[1,2],[1,2],[]),([],[2],[2],[])]) (by kernel_rfl) (by kernel_rfl) (by rw [hl]; decide +kernel) h
open mth
structure SmallN (l : Ln) : Prop where
 q : l.s.queue.length ≤ 1048576
 f : l.s.flight.length ≤ 1048576
 e : l.r.early.length ≤ 1048576
 h : l.r.hold.length ≤ 1048576
 t : l.r.told.length ≤ 1048576
 th : l.there.length ≤ 1048576
 b : l.back.length ≤ 1048576
def CKIdle (f : Nat) : Prop:=∀ l,SmallN l → Told Tryz.prog f [aD (encLn l)] [vB (idleL l)]
def CKStill (f : Nat) : Prop:=∀ w : Wd,w.lanes.length ≤ 1048576 → (∀ l ∈ w.lanes,SmallN l) → Told Tryz.prog f [aD (encWd w)] [vB (stillW w)]
theorem good_smallN {l : Ln} (h : GoodL l) : SmallN l:=by
 have h1:=good_sizes h.r
 have h4:=h.s.q
 have h5:=h.s.f
 have h6:=h.t
 have h7:=h.b
 exact ⟨by omega,by omega,by omega,by omega,by omega,by omega,by omega⟩
set_option maxRecDepth 100000
def Q95r0 : IC:=cReg Tryz.prog [⟨some 2,none,iAlo 2 [zS,zI]⟩,⟨some 3,none,iMov 3 (.const (.int .i64 0)) true⟩] [1,2] [1,2]
def Q95r1_0 : IC:=cLe
def Q95r1_1 : IC:=cReg Tryz.prog [xF 7 1 1,xL 8 1 7,xF 9 0 1,xL 10 1 9,xN 11 10,xV2 12 42 8 11,xM 6 12,xE 13 6 0,xE 14 6 1,xT 4 13,xT 5 14] [1,2,4,5] [1,2,100001]
def Q95r1 : IC:=(cSeq Q95r1_0 Q95r1_1)
def Q95r2 : IC:=cReg Tryz.prog [xM 15 5,xC 16 .neq 15 0] [1,2,4,5,16] [1,2,100001]
def Q95r3 : IC:=cReg Tryz.prog [xA 17 2 1,xM 18 5,xS 2 2 17,xT 3 18] [2,3] [2]
def Q95c1a : IC:=(cSeq Q95r3 cRet)
def Q95c1 : IC:=cCond (.tmp 16) Q95c1a cSkip
def Q95r4 : IC:=cRegD Tryz.prog [xF 19 0 1,xL 20 1 19,xM 21 4,xF 22 0 1,xL 23 1 22,xM 24 4,xI 25 17 23 24,xA 26 17 25,xV1 27 43 26,xI 28 17 20 21,xS 17 28 27] [[],[0],[],[],[3],[],[4,5,3],[6,4,5,3],[7,6,4,5,3],[1,2,0,3,4,5,6,7,8],[9,8,0,1,2,3,4,5,6,7]] [1,2] [1,2]
def Q95r5 : IC:=cReg Tryz.prog [xF 29 1 1,xL 30 1 29,xC 31 .add 30 1,xF 32 1 1,xS 1 32 31] [1,2] [1,2]
def Q95r6 : IC:=cReg Tryz.prog [xA 33 2 1,xS 2 2 33,⟨some 3,none,iMov 3 (.const (.int .i64 0)) true⟩] [2,3] [2]
def world_tick : IC:=cSeq Q95r0 (cSeq Q95r1 (cSeq (cSeq Q95r2 Q95c1) (cSeq Q95r4 (cSeq Q95r5 (cSeq Q95r6 cRet)))))
theorem toldI_world_tick {cs r : List D} {off e : Nat} {z : Pay} (h : world_tick ⟨[(1,pD 1 0),(0,aD cs)],[(1,cs)],[((1,some off),(e,z))]⟩ (fin [(2,some (2,true)),(3,none)] r)) : ToldI Tryz.prog 30 [aD cs] 0 (some off) e z r :=
 toldI_cell follows Tryz.func30 rfl rfl rfl rfl rfl (by decide +kernel) (rw:=[]) (cuts:=[]) (lv:=[1,2]) (lb:=[1,2]) (an:=[([(12000,[],[])],[1,2,4,5],[1,2,100001],[]),([],[1,2,4,5,16],[1,2,100001],[]),([],[2,3],[2],[]),([],[1,2],[1,2],[]),([],[1,2],[1,2],[]),([],[2,3],[2],[])]) (by kernel_rfl) (by kernel_rfl) (by kernel_rfl) (by decide +kernel) (by rw [fin_eq]; exact h)
def Q94r0 : IC:=cReg Tryz.prog [xX 2 0,xX 3 1,⟨some 4,none,iAlo 4 [zS,zI,zI,zI,zI,zS,zI,zI,zS,zI,zI,zI,zS,zS,zF,zS,zS]⟩,⟨some 5,none,iMov 5 (.const (.int .i64 0)) true⟩] [2,3,4] [2,3,4]
def Q94r1 : IC:=cReg Tryz.prog [⟨some 6,none,iMov 6 (.const (.int .i64 0)) true⟩] [2,3,4,6] [2,3,4]
def Q94r2 : IC:=cReg Tryz.prog [xF 7 0 3,xL 8 1 7] [2,3,4,6,8] [2,3,4]
def Q94r3 : IC:=cReg Tryz.prog [xC 10 .eql 8 2,xT 9 10] [2,3,4,6,8,9] [2,3,4]
def Q94r4 : IC:=cReg Tryz.prog [xF 12 0 2,xA 13 7 12,xF 14 5 3,xA 15 2 14,xV2 16 44 13 15,xM 11 16,xE 17 11 0,xE 18 11 1,xF 19 0 2,xS 7 19 17,xT 6 18] [2,4,6] [2,4]
def Q94r5 : IC:=cReg Tryz.prog [xC 21 .eql 8 3,xT 20 21] [2,3,4,6,8,20] [2,3,4]
def Q94r6 : IC:=cReg Tryz.prog [xA 23 17 2,xF 24 2 3,xL 25 1 24,xF 26 4 3,xL 27 1 26,⟨some 28,none,iCall 28 37 [(.tmp 23),(.tmp 25),(.tmp 27)]⟩,xM 22 28,xE 29 22 0,xE 30 22 1,xS 17 2 29,xT 6 30] [2,4,6] [2,4]
def Q94r7 : IC:=cReg Tryz.prog [xC 32 .eql 8 4,xT 31 32] [2,3,4,6,8,31] [2,3,4]
def Q94r8 : IC:=cReg Tryz.prog [xA 34 17 2,xF 35 2 3,xL 36 1 35,xF 37 4 3,xL 38 1 37,⟨some 39,none,iCall 39 45 [(.tmp 34),(.tmp 36),(.tmp 38)]⟩,xM 33 39,xE 40 33 0,xE 41 33 1,xS 17 2 40,xT 6 41] [2,4,6] [2,4]
def Q94r9 : IC:=cReg Tryz.prog [xC 43 .eql 8 5,xT 42 43] [2,3,4,6,8,42] [2,3,4]
def Q94r10 : IC:=cReg Tryz.prog [xA 45 17 2,xF 46 2 3,xL 47 1 46,xF 48 4 3,xL 49 1 48,⟨some 50,none,iCall 50 46 [(.tmp 45),(.tmp 47),(.tmp 49)]⟩,xM 44 50,xE 51 44 0,xE 52 44 1,xS 17 2 51,xT 6 52] [2,4,6] [2,4]
def Q94r11 : IC:=cReg Tryz.prog [xC 54 .eql 8 6,xT 53 54] [2,3,4,6,53] [2,3,4]
def Q94r12 : IC:=cReg Tryz.prog [xA 56 17 2,xF 57 2 3,xL 58 1 57,xF 59 3 3,xL 60 1 59,xF 61 4 3,xL 62 1 61,⟨some 63,none,iCall 63 47 [(.tmp 56),(.tmp 58),(.tmp 60),(.tmp 62)]⟩,xM 55 63,xE 64 55 0,xE 65 55 1,xS 17 2 64,xT 6 65] [2,4,6] [2,4]
def Q94c6 : IC:=cCond (.tmp 53) Q94r12 cSkip
def Q94c5b : IC:=(cSeq Q94r11 Q94c6)
def Q94c5 : IC:=cCond (.tmp 42) Q94r10 Q94c5b
def Q94c4b : IC:=(cSeq Q94r9 Q94c5)
def Q94c4 : IC:=cCond (.tmp 31) Q94r8 Q94c4b
def Q94c3b : IC:=(cSeq Q94r7 Q94c4)
def Q94c3 : IC:=cCond (.tmp 20) Q94r6 Q94c3b
def Q94c2b : IC:=(cSeq Q94r5 Q94c3)
def Q94c2 : IC:=cCond (.tmp 9) Q94r4 Q94c2b
def Q94b1 : IC:=cBlock 0 (cSeq Q94r3 Q94c2)
def Q94r13 : IC:=cReg Tryz.prog [xA 66 17 2,xM 67 6,xS 17 4 66,xT 5 67] [4,5] [4]
def world_step : IC:=(cSeq Q94r0 (cSeq Q94r1 (cSeq (cSeq Q94r2 Q94b1) (cSeq Q94r13 cRet))))
theorem told_world_step {args r : List D} (hl : args.length = 2) (h : world_step (start args) (fin [(4,some (17,true)),(5,none)] r)) : Told Tryz.prog 31 args r :=
 told_of follows Tryz.func31 rfl (an:=[([],[2,3,4],[2,3,4],[]),([],[2,3,4,6],[2,3,4],[]),([],[2,3,4,6,8],[2,3,4],[]),([],[2,3,4,6,8,9],[2,3,4],[]),([],[2,4,6],[2,4],[]),([],[2,3,4,6,8,20],[2,3,4],[]),([],[2,4,6],[2,4],[]),([],[2,3,4,6,8,31],[2,3,4],[]),([],[2,4,6],[2,4],[]),([],[2,3,4,6,8,42],[2,3,4],[]),([],[2,4,6],[2,4],[]),([],[2,3,4,6,53],[2,3,4],[]),([],[2,4,6],[2,4],[]),([],[4,5],[4],[])]) (by kernel_rfl) (by kernel_rfl) (by rw [hl]; decide +kernel) h
def Q90r0 : IC:=cReg Tryz.prog [xX 2 0,xX 3 1,⟨some 4,none,iAlo 4 [zS,zI]⟩,⟨some 5,none,iMov 5 (.const (.int .i64 0)) true⟩] [2,3,4] [2,3,4]
def Q90r1_0 : IC:=cOwn Tryz.prog 2 7 8 22 2
def Q90r1_1 : IC:=cReg Tryz.prog [] [2,3,4] [2,3,4]
def Q90r1 : IC:=(cSeq Q90r1_0 Q90r1_1)
def Q90r2 : IC:=cReg Tryz.prog [xF 10 0 3,xL 11 1 10,xC 12 .eql 11 1,xT 9 12] [2,3,4,9] [2,3,4]
def Q90r3_0 : IC:=cInn Tryz.prog 2 13 14 30 2
def Q90r3_1 : IC:=cReg Tryz.prog [xE 15 14 0,xE 16 14 1,xS 2 4 15,xT 5 16] [4,5] [4]
def Q90r3 : IC:=(cSeq Q90r3_0 Q90r3_1)
def Q90r4 : IC:=cReg Tryz.prog [xF 18 0 3,xL 19 1 18,xC 20 .lss 19 1,xM 21 20,xG 21 false (xF 22 0 3),xG 21 false (xL 23 1 22),xG 21 false (xC 24 .gtr 23 6),xP 25 21 24,xT 17 25] [2,3,4,17] [2,3,4]
def Q90r5_0 : IC:=cLe
def Q90r5_1 : IC:=cReg Tryz.prog [xA 26 2 2,xS 2 4 26,⟨some 5,none,iMov 5 (.const (.int .i64 1)) true⟩] [4,5] [4]
def Q90r5 : IC:=(cSeq Q90r5_0 Q90r5_1)
def Q90r6_0 : IC:=cLe
def Q90r6_1 : IC:=cReg Tryz.prog [xF 28 1 3,xL 29 1 28,xC 30 .lss 29 0,xM 31 30,xG 31 false (xF 32 1 3),xG 31 false (xL 33 1 32),xG 31 false (xF 34 0 2),xG 31 false (xL 35 1 34),xG 31 false (xN 36 35),xG 31 false (xB 37 .geq 33 36),xP 38 31 37,xT 27 38] [2,3,4,27] [2,3,4,100002]
def Q90r6 : IC:=(cSeq Q90r6_0 Q90r6_1)
def Q90r7_0 : IC:=cLe
def Q90r7_1 : IC:=cReg Tryz.prog [xA 39 2 2,xS 2 4 39,⟨some 5,none,iMov 5 (.const (.int .i64 6)) true⟩] [4,5] [4]
def Q90r7 : IC:=(cSeq Q90r7_0 Q90r7_1)
def Q90c4a : IC:=(cSeq Q90r7 cRet)
def Q90c4 : IC:=cCond (.tmp 27) Q90c4a cSkip
def Q90c3a : IC:=(cSeq Q90r5 cRet)
def Q90c3b : IC:=(cSeq Q90r6 Q90c4)
def Q90c3 : IC:=cCond (.tmp 17) Q90c3a Q90c3b
def Q90c2a : IC:=(cSeq Q90r3 cRet)
def Q90c2b : IC:=(cSeq Q90r4 Q90c3)
def Q90c2 : IC:=cCond (.tmp 9) Q90c2a Q90c2b
def Q90b1 : IC:=cBlock 0 (cSeq Q90r2 Q90c2)
def Q90r8 : IC:=cReg Tryz.prog [⟨some 6,none,iMov 6 (.const (.int .i64 0)) true⟩] [2,3,4] [2,3,4,100002]
def Q90r9 : IC:=cRegD Tryz.prog [xF 41 0 2,xL 42 1 41,xF 43 1 3,xL 44 1 43,xF 45 0 2,xL 46 1 45,xF 47 1 3,xL 48 1 47,xI 49 17 46 48,xA 50 17 49,xA 51 7 3,xV2 52 31 50 51,xM 40 52,xE 53 40 0,xE 54 40 1,xI 55 17 42 44,xS 17 55 53,xT 6 54] [[],[0],[],[2],[],[4],[],[6],[5,7,4,6],[8,5,7,4,6],[],[9,10,8,5,7,4,6],[11,9,10,8,5,7,4,6],[12,11,9,10,8,5,7,4,6],[12,11,9,10,8,5,7,4,6],[1,3,0,2,4,5,6,7,8,9,10,11,12,13],[15,13,11,0,1,2,3,4,5,6,7,8,9,10,12],[14,16,0,1,2,3,4,5,6,7,8,9,10,11,12,13,15]] [2,4,6] [2,4]
def Q90r10 : IC:=cReg Tryz.prog [xA 56 2 2,xM 57 6,xS 2 4 56,xT 5 57] [4,5] [4]
def world_Do : IC:=(cSeq Q90r0 (cSeq Q90r1 (cSeq Q90b1 (cSeq Q90r8 (cSeq Q90r9 (cSeq Q90r10 cRet))))))
theorem told_world_Do {args r : List D} (hl : args.length = 2) (h : world_Do (start args) (fin [(4,some (2,true)),(5,none)] r)) : Told Tryz.prog 20 args r :=
 told_of follows Tryz.func20 rfl (an:=[([],[2,3,4],[2,3,4],[]),([(1003,[],[])],[2,3,4],[2,3,4],[]),([],[2,3,4,9],[2,3,4],[]),([(3002,[],[])],[4,5],[4],[]),([],[2,3,4,17],[2,3,4],[]),([(12000,[],[])],[4,5],[4],[]),([(12000,[],[])],[2,3,4,27],[2,3,4,100002],[]),([(12000,[],[])],[4,5],[4],[]),([],[2,3,4],[2,3,4,100002],[]),([],[2,4,6],[2,4],[]),([],[4,5],[4],[])]) (by kernel_rfl) (by kernel_rfl) (by rw [hl]; decide +kernel) h
set_option maxRecDepth 100000
def Q88r0 : IC:=cReg Tryz.prog [⟨some 4,none,iMov 4 (.const (.int .i64 0)) true⟩,⟨some 5,none,iMov 5 (.const (.int .i64 0)) true⟩] [0,1] []
def Q88r1 : IC:=cReg Tryz.prog [xM 6 0,xC 7 .lss 6 0,xM 8 7,xG 8 false (xM 9 1),xG 8 false (xC 10 .lss 9 1),xP 11 8 10,xM 12 11,xG 12 false (xM 13 1),xG 12 false (xC 14 .gtr 13 3),xP 15 12 14] [0,1,15] []
def Q88r2 : IC:=cReg Tryz.prog [⟨some 4,none,iMov 4 (.const (.int .i64 0)) true⟩,⟨some 5,none,iMov 5 (.const (.int .i64 3)) true⟩] [4,5] []
def Q88c1a : IC:=(cSeq Q88r2 cRet)
def Q88c1 : IC:=cCond (.tmp 15) Q88c1a cSkip
def Q88r3 : IC:=cReg Tryz.prog [xM 16 0,xM 17 1,xB 18 .rem 16 17,xT 4 18,⟨some 5,none,iMov 5 (.const (.int .i64 0)) true⟩] [4,5] []
def slot_Whose : IC:=(cSeq Q88r0 (cSeq (cSeq Q88r1 Q88c1) (cSeq Q88r3 cRet)))
theorem told_slot_Whose {args r : List D} (hl : args.length = 2) (h : slot_Whose (start args) (fin [(4,none),(5,none)] r)) : Told Tryz.prog 42 args r :=
 told_of follows Tryz.func42 rfl (an:=[([],[0,1],[],[]),([],[0,1,15],[],[]),([],[4,5],[],[]),([],[4,5],[],[])]) (by kernel_rfl) (by kernel_rfl) (by rw [hl]; decide +kernel) h
end Go.Proofs.YtgaofjiidedcbacGreat.ab
namespace Go.Proofs.YtgaofjiidedcbacGreat.mth
def aheadP (tick n tenant : Int) : Int:=(tenant - tick % n + n) % n
def turnsP (tick many n tenant : Int) : Nat:=if many ≤ aheadP tick n tenant then 0 else ((many - aheadP tick n tenant - 1) / n + 1).toNat
theorem ahead_ok {tick n tenant : Int} (hn : n = 1 ∨ n = 2 ∨ n = 3) : 0 ≤ aheadP tick n tenant ∧ aheadP tick n tenant < n:=by
 unfold aheadP; rcases hn with rfl | rfl | rfl <;> omega
theorem turns_lt {tick many n tenant : Int} (hn : n = 1 ∨ n = 2 ∨ n = 3) {k : Nat} : k < turnsP tick many n tenant ↔ aheadP tick n tenant + (k : Int) * n < many:=by
 have:=ahead_ok (tick:=tick) (tenant:=tenant) hn
 unfold turnsP; split
 ·rcases hn with rfl | rfl | rfl <;> omega
 ·rcases hn with rfl | rfl | rfl <;> omega
structure Behind (tick many n tenant t : Int) (k : Nat) : Prop where
 lo : tick ≤ t
 hi : t ≤ tick + many
 ahead : t ≤ tick + aheadP tick n tenant + (k : Int) * n
 last : k = 0 ∨ tick + aheadP tick n tenant + ((k : Int) - 1) * n < t
theorem Behind.start {tick many n tenant : Int} (hn : n = 1 ∨ n = 2 ∨ n = 3) (hm : 0 ≤ many) : Behind tick many n tenant tick 0:=by
 have:=ahead_ok (tick:=tick) (tenant:=tenant) hn
 exact ⟨by omega,by omega,by simp; omega,.inl rfl⟩
theorem Behind.done {tick many n tenant : Int} {k : Nat} (hn : n = 1 ∨ n = 2 ∨ n = 3) (h : Behind tick many n tenant (tick + many) k) (hk : k ≤ turnsP tick many n tenant) : k = turnsP tick many n tenant:=by
 obtain ⟨a,b,c,d⟩:=h
 by_cases q : k < turnsP tick many n tenant
 ·have:=(turns_lt hn).1 q; omega
 ·omega
end Go.Proofs.YtgaofjiidedcbacGreat.mth
namespace Go.Proofs.YtgaofjiidedcbacGreat.ab
open Go Go.RowKit
open mth
theorem whose_ok (t n : Int) (ht : 0 ≤ t) (hn : 1 ≤ n ∧ n ≤ 3) : Told Tryz.prog 42 [vI t,vI n] [vI (t % n),vI 0]:=by
 refine told_slot_Whose rfl ?_
 have g1 : ¬ t < 0:=by omega
 have g2 : ¬ n < 1:=by omega
 have g3 : ¬ 3 < n:=by omega
 have g4 : n ≠ 0:=by omega
 have g5 : t.tmod n = t % n:=Int.tmod_eq_emod_of_nonneg ht
 refine wk (an5 @g1 @g2 @g3 @g4 @g5) ?_
 exact ValsLe.refl _
def CPutS (f : Nat) : Prop:=∀ s m,GoodS s → Told Tryz.prog f [aD (encSd s),aD (encMs m)] [aD (encSd (putS s m)),vI (putE s m)]
def CSayS (f : Nat) : Prop:=∀ s,GoodS s → Told Tryz.prog f [aD (encSd s)] [aD (encSd (sayL s).1),aD (encCh (sayL s).2.1),vB (sayL s).2.2]
def CHearS (f : Nat) : Prop:=∀ s c,GoodS s → wrongL c = 0 → Told Tryz.prog f [aD (encSd s),aD (encCh c)] [aD (encSd (hearS s c))]
theorem early_right {c : Ch} (h : wrongL c = 0) : c.early.length ≤ 3:=by
 unfold wrongL at h
 split at h
 ·cases h
 ·split at h
  ·cases h
  ·split at h
   ·split at h
    ·cases h
    ·split at h
     ·cases h
     ·rename_i he; omega
   ·split at h
    ·cases h
    ·split at h
     ·cases h
     ·rename_i he; omega
theorem say_early {s : Sd} (h : GoodS s) : (sayL s).2.1.early.length ≤ 3:=by
 unfold sayL
 split
 ·split
  ·simp [zeroC]
  ·rename_i hf
   have hk:=againK_lt h (by omega)
   have hlt : (againK s).toNat < s.flight.length:=by omega
   simp only [List.getD_eq_getElem?_getD,List.getElem?_eq_getElem hlt,Option.getD_some]
   rw [h.early _ (List.getElem_mem hlt)]
   simp
 ·split
  ·rename_i hf
   have hk:=againK_lt h (by omega)
   have hlt : (againK s).toNat < s.flight.length:=by omega
   simp only [List.getD_eq_getElem?_getD,List.getElem?_eq_getElem hlt,Option.getD_some]
   rw [h.early _ (List.getElem_mem hlt)]
   simp
  ·simp [newC]
end Go.Proofs.YtgaofjiidedcbacGreat.ab
