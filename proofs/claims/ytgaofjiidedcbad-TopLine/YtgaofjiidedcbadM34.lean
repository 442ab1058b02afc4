import Derived.Test.YtgaofjiidedcbadM20
import Derived.Test.YtgaofjiidedcbadM27
import Derived.Test.YtgaofjiidedcbadM33
import Derived.ChangeOld
import Derived.SizedLaws
import Derived.Test.YtgaofjiidedcbadM19
import Derived.Test.YtgaofjiidedcbadProg
import Derived.Test.YtgaofjiidedcbadM17
set_option maxHeartbeats 2000000
set_option linter.unusedVariables false
set_option linter.unusedSimpArgs false
namespace Go.Proofs.Ytgaofjiidedcbad.topLine
open Go Go.ChangeShapes Go.WideShapes Go.ChangeAt Go.RowKit
open ab mth
set_option maxRecDepth 100000 in
theorem lifted (hT : CTParse 22) (hP : CFPlay 9) (hS : CFSettle 10) (hK : CKStill 11) (hF : CPAll 12) (os : Os) (started : os.Started) (H : Type) (enc : TypeId × Value → H) :
  ReturnsInHanded {} Try.checked os 3 .any (Rows.topLineSpec.pre6 enc Try.prog Try.f3 Rows.topLineRow.domain false) (Rows.topLineSpec.post enc Try.prog Try.f3 false true false false):=by
 refine returnsInHanded_of_change_sized (C:=Try.checked) own started (by kernel_rfl) Try.func3
  (ChangeSpec.witness6 (enc:=enc) (C:=Try.checked) false ⟨#[],#[.int .i64 0,.int .i64 0,.slice none 0 0],[]⟩ 8 (by kernel_rfl) (by kernel_rfl) (by kernel_rfl) (by kernel_rfl)) ?_
 intro W base args ds gs before hval0 hW0 hcnd hsz0 _
 have hval : ∀ (j : Nat) t v,Try.f3.params[j]? = some t → args[j]? = some v → Value.okWide Try.prog W .any base t v:=hval0
 have hW':=hW0
 obtain ⟨p,q,hA0,hV,rfl,hfz,hnd⟩:=hW0
 have hA : DataW.TrodAll enc Try.prog W 0 (fun _ => true) true Try.f3.params.toList args.toList ds p:=hA0
 rw [Try.params3] at hA hval
 obtain ⟨v0,vs0,d0,ds0,p0,q0,hargs,rfl,rfl,h0,r0⟩:=trodAll_cons hA
 obtain ⟨v1,vs1,d1,ds1,p1,q1,rfl,rfl,rfl,h1,r1⟩:=trodAll_cons r0
 obtain ⟨v2,vs2,d2,ds2,p2,q2,rfl,rfl,rfl,h2,r2⟩:=trodAll_cons r1
 obtain ⟨rfl,rfl,rfl⟩:=trodAll_nil r2
 obtain rfl : args = #[v0,v1,v2]:=by cases args; simp_all
 obtain ⟨rfl,rfl⟩:=trodVars_none hV
 have lt0 : ∀ x ∈ p0,x.block < W.heap.size:=by obtain ⟨m,hm⟩:=h0; exact DataW.trod_lt m _ _ _ hm
 have lt1 : ∀ x ∈ p1,x.block < W.heap.size:=by obtain ⟨m,hm⟩:=h1; exact DataW.trod_lt m _ _ _ hm
 have lt2 : ∀ x ∈ p2,x.block < W.heap.size:=by obtain ⟨m,hm⟩:=h2; exact DataW.trod_lt m _ _ _ hm
 obtain ⟨n0,rfl⟩:=okWide_int Try.underlying3 (hval 0 3 v0 rfl rfl)
 obtain ⟨n1,rfl⟩:=okWide_int Try.underlying3 (hval 1 3 v1 rfl rfl)
 obtain ⟨a2,len2,cap2,rfl⟩:=okWide_slice Try.underlying22 (hval 2 22 v2 rfl rfl)
 obtain ⟨x2,hM2,hu2,_⟩:=(by obtain ⟨fuel,hf⟩:=h2; exact in_steps hf : ∃ cs : List Sp,CRep (AllOf W) W (sD 7 (encSl cs)) (.slice a2 len2 cap2) ∧ cs.length ≤ Rows.uptoBulk d2 ∧ ∀ c ∈ cs,True)
 have hl2:=hM2.len
 rw [len_sl] at hl2
 clear hA0 hval0
 refine ((topLine_told hT hP hS hK hF n0 n1 x2 hl2).yes (W:=W) (vs:=[.int .i64 n0,.int .i64 n1,.slice a2 len2 cap2]) (Vals.cons (.inl (CRep.v rfl)) (Vals.cons (.inl (CRep.v rfl)) (Vals.cons (.inl hM2) Vals.nil)))).mono fun e W' ⟨he,bel⟩ => ?_
 subst he
 exact ⟨_,rfl,_,_,_,[],_,[],hW',trodAll_mk1 (shut_bool Try.underlying4 _),(trodAll_cons_mk (Below.trod laidOut (by kernel_rfl) (of_decide_eq_true (by kernel_rfl)) h0 bel lt0) (trodAll_cons_mk (Below.trod laidOut (by kernel_rfl) (of_decide_eq_true (by kernel_rfl)) h1 bel lt1) (trodAll_cons_mk (Below.trod laidOut (by kernel_rfl) (of_decide_eq_true (by kernel_rfl)) h2 bel lt2) trodAll_mk0))),rfl,bel.frame _,fun h => by cases h⟩
theorem over (hT : CTParse 22) (hP : CFPlay 9) (hS : CFSettle 10) (hK : CKStill 11) (hF : CPAll 12) : Rows.topLineRow.holds Try.pinned (OpenSpec.ofChange Rows.topLineSpec) :=
 OpenClaim.holds_of_wide 3 Try.f3 rfl rfl rfl rfl rfl rfl rfl ⟨rfl,rfl,rfl,rfl,rfl⟩ rfl rfl rfl rfl rfl (by kernel_rfl) Try.func3 (by kernel_rfl)
  (of_decide_eq_true (by kernel_rfl)) (by unfold Func.isWrapper; first | (rw [if_pos (by decide +kernel)]; kernel_rfl) | (rw [if_neg (by decide +kernel)]; exact ⟨rfl,rfl⟩))
  (fun os started H enc _ => lifted hT hP hS hK hF os started H enc)
end Go.Proofs.Ytgaofjiidedcbad.topLine
namespace Go.Proofs.Ytgaofjiidedcbad.ab
set_option maxRecDepth 100000
open Go Go.RowKit
def Q14r0 : IC:=cReg Try.prog [⟨some 4,none,iAlo 4 [zS,zI]⟩,⟨some 5,none,iMov 5 (.const (.slice none 0 0)) true⟩,⟨some 6,none,iMov 6 (.const (.int .i64 0)) true⟩] [0,1,4] [4]
def Q14r1 : IC:=cReg Try.prog [xM 13 0,xV1 14 18 13,xM 12 14,xE 15 12 0,xE 16 12 1,⟨some 7,none,iAlo 7 [zS,zI]⟩,xS 2 7 15,xT 8 16] [1,4,7,8] [4,7]
def Q14r2 : IC:=cReg Try.prog [xM 17 8,xC 18 .neq 17 0] [1,4,7,8,18] [4,7]
def Q14r3 : IC:=cReg Try.prog [⟨some 19,none,iBld 19 [zS,zI] [] []⟩,xM 20 8,xS 2 4 19,⟨some 5,none,iMov 5 (.const (.slice none 0 0)) true⟩,xT 6 20] [4,5,6] [4]
def Q14c1a : IC:=(cSeq Q14r3 cRet)
def Q14c1 : IC:=cCond (.tmp 18) Q14c1a cSkip
def Q14r4 : IC:=cReg Try.prog [xM 21 1,xN 22 21,xC 23 .gtr 22 160] [1,4,7,23] [4,7]
def Q14r5 : IC:=cReg Try.prog [⟨some 24,none,iBld 24 [zS,zI] [] []⟩,xS 2 4 24,⟨some 5,none,iMov 5 (.const (.slice none 0 0)) true⟩,⟨some 6,none,iMov 6 (.const (.int .i64 5)) true⟩] [4,5,6] [4]
def Q14c2a : IC:=(cSeq Q14r5 cRet)
def Q14c2 : IC:=cCond (.tmp 23) Q14c2a cSkip
def Q14r6 : IC:=cReg Try.prog [xM 25 1,xN 26 25,⟨some 27,none,iMkS 27 1 8 (zI) (.tmp 26) (.tmp 26)⟩,xT 9 27] [1,4,7,9] [4,7,100027]
def Q14r7 : IC:=cReg Try.prog [xM 28 1,xN 29 28,⟨some 30,none,iMov 30 (.const (.int .i64 0)) false⟩] [4,7,9,28,29,30] [4,7,100027]
def Q14r8 : IC:=cReg Try.prog [xB 31 .lss 30 29] [4,7,9,28,29,30,31] [4,7,100027]
def Q14c5 : IC:=cCond (.tmp 31) cSkip (cExit 0)
def Q14r9 : IC:=cReg Try.prog [xM 32 30,xI 33 7 28 30,xA 34 7 33,⟨some 11,none,iAlo 11 [zI,zI,zI,zI,zF,zI,zS]⟩,xT 10 32,xS 7 11 34] [4,7,9,10,11,28,29,30] [4,7,11,100027]
def Q14r10 : IC:=cReg Try.prog [xM 36 9,xM 37 10,xA 38 2 7,xA 39 7 11,xV2 40 19 38 39,xM 35 40,xE 41 35 0,xE 42 35 1,xS 2 7 41,xI 43 1 36 37,xS 1 43 42] [4,7,9,28,29,30] [4,7,100027]
def Q14b6 : IC:=cBlock 1 (cSeq Q14r9 Q14r10)
def Q14r11 : IC:=cReg Try.prog [xC 44 .add 30 1,xM 30 44] [4,7,9,28,29,30] [4,7,100027]
def Q14l4a : IC:=(cSeq Q14r8 (cSeq Q14c5 (cSeq Q14b6 Q14r11)))
def Q14l4 : IC:=cLoop Q14l4a
def Q14b3 : IC:=cBlock 0 Q14l4
def Q14r12 : IC:=cReg Try.prog [xA 45 2 7,xM 46 9,xS 2 4 45,xT 5 46,⟨some 6,none,iMov 6 (.const (.int .i64 0)) true⟩] [4,5,6] [4]
def fair_Play : IC:=(cSeq Q14r0 (cSeq Q14r1 (cSeq (cSeq Q14r2 Q14c1) (cSeq (cSeq Q14r4 Q14c2) (cSeq Q14r6 (cSeq (cSeq Q14r7 Q14b3) (cSeq Q14r12 cRet)))))))
theorem told_fair_Play {args r : List D} (hl : args.length = 2) (h : fair_Play (start args) (fin [(4,some (2,true)),(5,none),(6,none)] r)) : Told Try.prog 9 args r :=
 told_of follows Try.func9 rfl (an:=[([],[0,1,4],[4],[]),([],[1,4,7,8],[4,7],[]),([],[1,4,7,8,18],[4,7],[]),([],[4,5,6],[4],[]),([],[1,4,7,23],[4,7],[]),([],[4,5,6],[4],[]),([],[1,4,7,9],[4,7,100027],[]),([],[4,7,9,28,29,30],[4,7,100027],[]),([],[4,7,9,28,29,30,31],[4,7,100027],[]),([],[4,7,9,10,11,28,29,30],[4,7,11,100027],[]),([],[4,7,9,28,29,30],[4,7,100027],[]),([],[4,7,9,28,29,30],[4,7,100027],[]),([],[4,5,6],[4],[])]) (by kernel_rfl) (by kernel_rfl) (by rw [hl]; decide +kernel) h
def Q17r0 : IC:=cReg Try.prog [xX 2 0,⟨some 4,none,iAlo 4 [zS,zI,zI,zI,zI,zS,zI,zI,zS,zI,zI,zI,zS,zS,zF,zS,zS]⟩] [1,2,4] [2,4]
def Q17r1 : IC:=cReg Try.prog [xA 8 17 2,xM 9 1,⟨some 10,none,iCall 10 38 [(.tmp 8),(.const (.int .i64 0)),(.tmp 9)]⟩,xM 7 10,xE 11 7 0,xE 12 7 1,⟨some 5,none,iAlo 5 [zS,zI,zI,zI,zI,zS,zI,zI,zS,zI,zI,zI,zS,zS,zF,zS,zS]⟩,xS 17 5 11,xT 6 12] [1,2,4,5,6] [2,4,5]
def Q17r2 : IC:=cReg Try.prog [xM 13 6,xC 14 .neq 13 0] [1,2,4,5,14] [2,4,5]
def Q17r3 : IC:=cReg Try.prog [xA 15 17 2,xS 17 4 15] [4] [4]
def Q17c4a : IC:=(cSeq Q17r3 cRet)
def Q17c4 : IC:=cCond (.tmp 14) Q17c4a cSkip
def Q17r4 : IC:=cReg Try.prog [xA 16 17 5,xS 17 2 16] [1,2,4] [2,4]
def Q17b3 : IC:=cBlock 1 (cSeq Q17r1 (cSeq (cSeq Q17r2 Q17c4) Q17r4))
def Q17l2a : IC:=Q17b3
def Q17l2 : IC:=cLoop Q17l2a
def Q17b1 : IC:=cBlock 0 Q17l2
def fair_allCome : IC:=(cSeq Q17r0 Q17b1)
theorem told_fair_allCome {args r : List D} (hl : args.length = 2) (h : fair_allCome (start args) (fin [(4,some (17,true))] r)) : Told Try.prog 27 args r :=
 told_of follows Try.func27 rfl (an:=[([],[1,2,4],[2,4],[]),([],[1,2,4,5,6],[2,4,5],[]),([],[1,2,4,5,14],[2,4,5],[]),([],[4],[4],[]),([],[1,2,4],[2,4],[])]) (by kernel_rfl) (by kernel_rfl) (by rw [hl]; decide +kernel) h
def Q16r0 : IC:=cReg Try.prog [xX 1 0,⟨some 2,none,iAlo 2 [zS,zI]⟩,⟨some 3,none,iMov 3 (.const (.int .i64 0)) true⟩] [1,2] [1,2]
def Q16r1 : IC:=cReg Try.prog [xA 5 2 1,xV1 6 20 5,xS 2 1 6] [1,2] [1,2]
def Q16r2 : IC:=cReg Try.prog [⟨some 4,none,iMov 4 (.const (.int .i64 0)) true⟩] [1,2,4] [1,2]
def Q16r3 : IC:=cReg Try.prog [xM 7 4,xC 8 .lss 7 200,xM 9 8,xG 9 true (xA 10 2 1),xG 9 true (xV1 11 11 10),xG 9 true (xO 12 11),xQ 13 9 12] [1,2,4,13] [1,2]
def Q16c3 : IC:=cCond (.tmp 13) cSkip (cExit 0)
def Q16r4 : IC:=cReg Try.prog [xA 14 2 1,xV1 15 17 14,xS 2 1 15] [1,2,4] [1,2]
def Q16r5 : IC:=cReg Try.prog [xM 16 4,xC 17 .add 16 1,xT 4 17] [1,2,4] [1,2]
def Q16b4 : IC:=cBlock 1 (cSeq Q16r4 Q16r5)
def Q16l2a : IC:=(cSeq (cSeq Q16r3 Q16c3) Q16b4)
def Q16l2 : IC:=cLoop Q16l2a
def Q16b1 : IC:=cBlock 0 Q16l2
def Q16r6 : IC:=cReg Try.prog [xA 18 2 1,xM 19 4,xS 2 2 18,xT 3 19] [2,3] [2]
def fair_Settle : IC:=(cSeq Q16r0 (cSeq Q16r1 (cSeq Q16r2 (cSeq Q16b1 (cSeq Q16r6 cRet)))))
theorem told_fair_Settle {args r : List D} (hl : args.length = 1) (h : fair_Settle (start args) (fin [(2,some (2,true)),(3,none)] r)) : Told Try.prog 10 args r :=
 told_of follows Try.func10 rfl (an:=[([],[1,2],[1,2],[]),([],[1,2],[1,2],[]),([],[1,2,4],[1,2],[]),([],[1,2,4,13],[1,2],[]),([],[1,2,4],[1,2],[]),([],[1,2,4],[1,2],[]),([],[2,3],[2],[])]) (by kernel_rfl) (by kernel_rfl) (by rw [hl]; decide +kernel) h
section
variable {P : Program}
theorem ToldX.of {f : FuncId} {args r : List D} (h : Told P f args r) : ToldX P f args [] r []:=by
 intro w I vs v hv hlt hv0 _ _
 refine (h w I vs hv hlt).mono fun x w' ⟨v',hx,h1,h2⟩ => ⟨v',_,hx,fun b j hi => ⟨.inl hi,h2.cell (p:=⟨b,j,none⟩) (hlt b j hi)⟩,fun b j hi => hi.elim .inl (fun q => .inr ⟨.inl q.1,q.2⟩),h1,(fun x hx => by cases hx),(fun x hx => by cases hx),⟨h2.os,h2.tape,h2.output,h2.size,fun k hk => h2.block k hk.1⟩⟩
theorem cell_out {fn : Func} {s T n b : Nat} {cs rs : List D} {ro : List (Nat × Nat × Pay)} (hres : fn.results = #[.cell s T]) (hn : sizeT P T = some n) (ha : aggT P T = some true) {base : Nat → Prop} {w0 : World} {I0 : Still} {N : Nat} {st' : St} {I' : Still} {ρ : Nat → Option Nat} {a' : Act} {w' : World}
  (h1 : look st'.tm s = some (pD b 0)) (h2 : look st'.bx b = some cs) (hcl : cs.length = n) (hL : cs.all isL = true) (hle : RowLe cs rs) (hro : ∀ x ∈ ro,x.1 < n ∧ lookF st'.fl (b,some x.1) = some x.2) (hr : RelI base w0 I0 N I' ρ st'.F a' w') :
  ∃ v',(results fn a'.tmps).run P w' = .ok v' w' ∧ RRep I' w' [aD rs] v' ∧ Hands I' (fun _ => none) base w' v' (upR ro) ∧ ApartV v' (upR ro):=by
 obtain ⟨up,hp1,hp2⟩:=hr.tm s _ h1
 obtain ⟨g,hlt',hg,rfl⟩:=hp2.invP
 obtain ⟨g',hg',hbs,hbx,hnI⟩:=hr.bx b cs h2
 rw [hg] at hg'; cases hg'
 obtain ⟨us,tyB,hblk,hrowL⟩:=hbx.cells hlt'
 have hrow:=row_of_all hrowL hL
 have hul : us.length = n:=by rw [← hrowL.1,hcl]
 have hload:=run_loadA (P:=P) hn ha hblk hul
 have hld : (loadVar T ⟨g,0,none⟩).run P w' = .ok (.agg us.toArray) w':=by simpa [Instr.loadAt,Instr.sureAddr] using hload
 have hrun : (results fn a'.tmps).run P w' = .ok (.agg us.toArray) w':=by
  have e1 : a'.tmps.getD s undef = .pointer (some ⟨g,0,none⟩):=by simp [Array.getD_eq_getD_getElem?,hp1]
  have e2 : (asAddr (.pointer (some ⟨g,0,none⟩))).run P w' = .ok ⟨g,0,none⟩ w':=rfl
  simp only [results,hres,Array.mapM_eq_mapM_toList,List.mapM_cons,List.mapM_nil]
  simp [e1,e2,hld]
 have hat : ∀ j,At ρ a'.tmps w' b (some j) = us[j]?:=fun j => by
  simp only [At,hg,Option.bind_some]
  rw [cell_of_row w' g j us.toArray tyB (0,0) hblk]; simp
 have hc : ∀ j,cellAt (.agg us.toArray) (some j) = us[j]?:=fun j => by simp [cellAt]
 refine ⟨_,hrun,.inr ⟨rs,us,rfl,rfl,hle.rep hrow⟩,fun x hx => ?_,fun x hx y hy u u' g' k1 k2 k3 k4 => ?_⟩
 ·obtain ⟨x',hx',rfl⟩:=List.mem_map.1 hx
  obtain ⟨u,q1,q2⟩:=hr.fl b (some x'.1) x'.2.1 x'.2.2 (hro x' hx').2
  obtain ⟨n',xs,r1,r2,r3⟩:=q2
  exact ⟨u,by rw [hc,← hat]; exact q1,n',xs,r1,fun g hg => ⟨(r2 g hg).1,(r2 g hg).2.1,fun b q => by cases q⟩,r3⟩
 ·obtain ⟨x',hx',rfl⟩:=List.mem_map.1 hx
  obtain ⟨y',hy',rfl⟩:=List.mem_map.1 hy
  rw [hc,← hat] at k1 k2
  exact (hr.apart b (some x'.1) b (some y'.1) x'.2 y'.2 u u' g' (hro x' hx').2 (hro y' hy').2 k1 k2 k3 k4).2
def cellFin (s n : Nat) (rs : List D) (ro : List (Nat × Nat × Pay)) (st : St) : Prop:=∃ b cs,look st.tm s = some (pD b 0) ∧ look st.bx b = some cs ∧ cs.length = n ∧ cs.all isL = true ∧ RowLe cs rs ∧ ∀ x ∈ ro,x.1 < n ∧ lookF st.fl (b,some x.1) = some x.2
theorem toldX_out (hm : P.follows .mixedOrders = true) {f : FuncId} {fn : Func} {c : Code} {ic : IC} {an : List Ann} {args rs : List D} {s T n : Nat} {ro : List (Nat × Nat × Pay)} (hf : P.funcs[f]? = some fn) (hb : fn.body = some c) (hc : compC P fn.ntmps c an = some (ic,[])) (hres : fn.results = #[.cell s T]) (hn : sizeT P T = some n) (ha : aggT P T = some true) (hl : args.length ≤ fn.ntmps ∧ fn.ntmps ≤ 100000)
  (h : ic (start args) (fin1 (cellFin s n rs ro))) : ToldX P f args [] [aD rs] (upR ro):=by
 intro w I vs v0 hv hlt hv0 _ _
 refine (calls_core (base:=fun b => b < w.heap.size) (w0:=w) (I0:=I) (Post:=fun v' w' => ∃ I',(∀ b j,I b j → I' b j ∧ w'.cell? ⟨b,j,none⟩ = w.cell? ⟨b,j,none⟩) ∧ (∀ b j,I' b j → I b j ∨ ((w.heap.size ≤ b ∨ HandB v0 [] b) ∧ b < w'.heap.size)) ∧ RRep I' w' [aD rs] v' ∧
   Hands I' (fun _ => none) (fun b => b < w.heap.size ∧ ¬ HandB v0 [] b) w' v' (upR ro) ∧ ApartV v' (upR ro) ∧ Kept (fun b => b < w.heap.size ∧ ¬ HandB v0 [] b) w w') hm hf hb (fun Q hQ => awp_sound hm c an [] ic hc (start args) _ Q _ w h ⟨I,_,start_rel hv hlt hl (fun _ h => h)⟩ hQ) (fun st' I' ρ a' w' hR hr => ?_)).mono fun x w' ⟨v,hx,I',hq⟩ => ⟨v,I',hx,hq⟩
 obtain ⟨b,cs,h1,h2,h3,h4,h5,h6⟩:=hR
 obtain ⟨v',q1,q2,q3,q4⟩:=cell_out hres hn ha h1 h2 h3 h4 h5 h6 hr
 refine ⟨v',q1,I',fun b j hi => ⟨(hr.mon b j hi).1,(hr.mon b j hi).2⟩,fun b j hi => ?_,q2,fun x hx => ?_,q4,⟨hr.below.os,hr.below.tape,hr.below.output,hr.below.size,fun k hk => hr.below.block k hk.1⟩⟩
 ·rcases hr.sub b j hi with q | q
  ·exact .inl q
  ·exact .inr ⟨.inl (Nat.le_of_not_lt q),hr.lt b j hi⟩
 ·obtain ⟨u,k1,k2⟩:=q3 x hx
  exact ⟨u,k1,own_less k2⟩
where
 own_less {I' : Still} {w w' : World} {v0 : Value} {e : Nat} {z : Pay} {u : Value} (h : Own I' (fun _ => none) (fun b => b < w.heap.size) w' e z u) : Own I' (fun _ => none) (fun b => b < w.heap.size ∧ ¬ HandB v0 [] b) w' e z u:=by
  obtain ⟨n,xs,h1,h2,h3⟩:=h
  exact ⟨n,xs,h1,fun g hg => ⟨fun q => (h2 g hg).1 q.1,(h2 g hg).2⟩,h3⟩
theorem le_name {st : St} {b off k e z : Nat} {es cs : List D} (hlt : b < 100000) (hb : look st.bx b = some cs) (hoff : off < cs.length) (hf : lookF st.fl (b,some off) = some (e,z,some es)) (hne : es ≠ []) (hk : 100000 ≤ k ∧ k < 200000) (hnew : look st.bx k = none) :
  Le st ⟨st.tm,(k,[sD z es]) :: (b,over cs off [oD k es.length]) :: st.bx,offP st.fl [(b,some off)]⟩:=by
 intro base w0 I0 N a w ⟨I,ρ,hr⟩
 obtain ⟨u,hat,hown⟩:=hr.fl b (some off) e (z,some es) hf
 obtain ⟨gb,hgb,_,hbox,hnIb⟩:=hr.bx b cs hb
 obtain ⟨us,tyB,hblk,hrowL⟩:=hbox.cells hlt
 have huo : us[off]? = some u:=by
  simp only [At,hgb,Option.bind_some] at hat
  rw [cell_of_row w gb off us.toArray tyB (0,0) hblk] at hat
  simpa using hat
 obtain ⟨n,xs,hrow,hsp,hh⟩:=hown
 obtain ⟨hn,hel⟩:=hh es rfl
 simp only at hrow hel hsp
 subst hn
 obtain ⟨g,cap,cur,hu,_,hg,hnc,hcm,hcs,htk⟩ : ∃ g cap cur,u = .slice (some ⟨g,0,none⟩) es.length cap ∧ 0 ≤ g ∧ w.heap[g]? = some (.cells cur e (0,0)) ∧ es.length ≤ cap ∧ cap ≤ maxLen ∧ cur.size = cap * z ∧ cur.toList.take (es.length * z) = xs:=by
  rcases hrow.2 with ⟨_,q⟩ | q
  ·exact absurd (List.eq_nil_of_length_eq_zero q) hne
  ·exact q
 have hob : u.ownBlock = some g:=by rw [hu]; rfl
 obtain ⟨hgb1,hgI,hgρ⟩:=hsp g hob
 have helems : ElemsAt I w z es cur.toList:=by
  refine ⟨hel.1,by rw [show cur.toList.length = cap * z by rw [Array.length_toList]; exact hcs]; exact Nat.mul_le_mul_right _ hnc,fun i j e' l he hl' => ?_⟩
  obtain ⟨y,q1,q2⟩:=hel.2.2 i j e' l he hl'
  refine ⟨y,?_,q2⟩
  rw [← htk,List.getElem?_take] at q1
  split at q1
  ·exact q1
  ·cases q1
 have hρk : ρ k = none:=hr.nob k hnew
 have hbk : b ≠ k:=by omega
 have hup : ∀ c g',ρ c = some g' → (if c = k then some g else ρ c) = some g':=fun c g' h => by
  rw [if_neg (fun e => by rw [e,hρk] at h; cases h)]; exact h
 have hat' : ∀ s o x,st.F.fl s o = some x → At (fun c => if c = k then some g else ρ c) a.tmps w s o = At ρ a.tmps w s o:=by
  intro s o x hx
  cases o with
  | none => rfl
  | some off' =>
   have:=hr.flc s off' x hx
   simp only [At]
   rw [if_neg (by omega)]
 have hfl : ∀ s o x,lookF (offP st.fl [(b,some off)]) (s,o) = some x → ¬ (s = b ∧ o = some off) ∧ st.F.fl s o = some x:=by
  intro s o x hx
  rw [lookF_off] at hx
  split at hx
  ·cases hx
  ·rename_i hm
   simp only [List.mem_singleton,Prod.mk.injEq] at hm
   exact ⟨hm,hx⟩
 refine ⟨I,fun c => if c = k then some g else ρ c,hr.defers,hr.size,fun s v hv => ?_,hr.cap,fun c o' x hx => hr.flc c o' x (hfl _ _ _ hx).2,fun c ds hc => ?_,fun c c' g' h1 h2 => ?_,fun c hc => ?_,fun s o e' z' hx => ?_,fun s o s' o' x x' y y' g' h1 h2 h3 h4 h5 h6 => ?_,hr.lt,hr.sub,hr.below,hr.room,hr.mon⟩
 ·obtain ⟨y,q1,q2⟩:=hr.tm s v hv
  exact ⟨y,q1,q2.keep (fun _ _ h => h) (fun c g' _ h => hup c g' h) (fun _ _ _ => rfl)⟩
 ·have hc' : look ((k,[sD z es]) :: (b,over cs off [oD k es.length]) :: st.bx) c = some ds:=hc
  simp only [look] at hc'
  split at hc'
  ·rename_i eck; cases hc'; subst eck
   exact ⟨g,by simp,hgb1,.inr (.inl ⟨hk,z,es,cur.toList,e,rfl,by rw [Array.toArray_toList]; exact hg,helems⟩),fun j => hgI j (fun q => by cases q)⟩
  ·split at hc'
   ·rename_i ebc; cases hc'; subst ebc
    refine ⟨gb,hup _ _ hgb,(hr.bx b cs hb).choose_spec.2.1 |> (fun q => by
     obtain ⟨g1,p1,p2,_⟩:=hr.bx b cs hb
     rw [hgb] at p1; cases p1; exact p2),.inl ⟨hlt,us,tyB,hblk,by rw [over_len (by simp; omega)]; exact hrowL.1,fun j c' y hj hy => ?_⟩,hnIb⟩
    by_cases hjo : j = off
    ·subst hjo
     have:=over_in (cs:=cs) (ds:=[oD k es.length]) (off:=j) (j:=0) (by simp; omega) (by simp)
     rw [Nat.add_zero] at this
     rw [this] at hj
     simp at hj; subst hj
     rw [huo] at hy; cases hy
     exact .inr ⟨k,es.length,rfl,g,cap,hk,by simp,hu,hnc,hcm⟩
    ·rw [over_out (by simp; omega) (by simp; omega)] at hj
     exact (hrowL.2 j c' y hj hy).keep (fun _ _ h => h) (fun c g' _ h => hup c g' h) (fun _ _ _ => rfl)
   ·obtain ⟨g',q1,q2,q3,q4⟩:=hr.bx c ds hc'
    exact ⟨g',hup _ _ q1,q2,q3.keep (fun _ _ h => h) (fun c g' _ h => hup c g' h) (fun _ _ _ => rfl) rfl,q4⟩
 ·by_cases e1 : c = k
  ·by_cases e2 : c' = k
   ·rw [e1,e2]
   ·rw [if_pos e1] at h1; cases h1
    rw [if_neg e2] at h2
    exact absurd h2 (hgρ c')
  ·rw [if_neg e1] at h1
   by_cases e2 : c' = k
   ·rw [if_pos e2] at h2; cases h2
    exact absurd h1 (hgρ c)
   ·rw [if_neg e2] at h2
    exact hr.inj c c' g' h1 h2
 ·have hc' : look ((k,[sD z es]) :: (b,over cs off [oD k es.length]) :: st.bx) c = none:=hc
  simp only [look] at hc'
  split at hc'
  ·cases hc'
  ·rename_i n1
   split at hc'
   ·cases hc'
   ·rw [if_neg (fun e => n1 e.symm)]; exact hr.nob c hc'
 ·obtain ⟨n1,q⟩:=hfl _ _ _ hx
  obtain ⟨y,q1,n',ys,q2,q3,q4⟩:=hr.fl s o e' z' q
  refine ⟨y,by rw [hat' s o _ q]; exact q1,n',ys,q2,fun g' hg' => ⟨(q3 g' hg').1,(q3 g' hg').2.1,fun c => ?_⟩,q4⟩
  show (if c = k then some g else ρ c) ≠ some g'
  split
  ·intro e'; cases e'
   exact n1 (hr.apart s o b (some off) _ _ y u g q hf q1 hat hg' hob)
  ·exact (q3 g' hg').2.2 c
 ·obtain ⟨_,q⟩:=hfl _ _ _ h1
  obtain ⟨_,q'⟩:=hfl _ _ _ h2
  rw [hat' s o _ q] at h3
  rw [hat' s' o' _ q'] at h4
  exact hr.apart s o s' o' x x' y y' g' q q' h3 h4 h5 h6
theorem le_frzH {st : St} {b off e z : Nat} {es cs : List D} (hlt : b < 100000) (hb : look st.bx b = some cs) (hoff : off < cs.length) (hf : lookF st.fl (b,some off) = some (e,z,some es)) :
  Le st ⟨st.tm,(b,over cs off [sD z es]) :: st.bx,offP st.fl [(b,some off)]⟩:=by
 intro base w0 I0 N a w ⟨I,ρ,hr⟩
 obtain ⟨u,hat,hown⟩:=hr.fl b (some off) e (z,some es) hf
 obtain ⟨gb,hgb,hbb,hbox,hnIb⟩:=hr.bx b cs hb
 obtain ⟨us,tyB,hblk,hrowL⟩:=hbox.cells hlt
 have huo : us[off]? = some u:=by
  simp only [At,hgb,Option.bind_some] at hat
  rw [cell_of_row w gb off us.toArray tyB (0,0) hblk] at hat
  simpa using hat
 let I' : Still:=fun k j => I k j ∨ (u.ownBlock = some k ∧ k < w.heap.size)
 have hI : ∀ k j,I k j → I' k j:=fun _ _ => .inl
 have hrep : CRep I' w (sD z es) u:=own_rep hown hI (fun k j hk => .inr ⟨hk,(own_lt hown k hk).2⟩)
 have hfl : ∀ s o x,lookF (offP st.fl [(b,some off)]) (s,o) = some x → ¬ (s = b ∧ o = some off) ∧ st.F.fl s o = some x:=by
  intro s o x hx
  rw [lookF_off] at hx
  split at hx
  ·cases hx
  ·rename_i hm
   simp only [List.mem_singleton,Prod.mk.injEq] at hm
   exact ⟨hm,hx⟩
 have hρu : ∀ c g,ρ c = some g → u.ownBlock ≠ some g:=fun c g hc hu => by
  obtain ⟨n,xs,_,k2,_⟩:=hown
  exact (k2 g hu).2.2 c hc
 refine ⟨I',ρ,hr.defers,hr.size,fun s v hv => ?_,hr.cap,fun c o' x hx => hr.flc c o' x (hfl _ _ _ hx).2,fun c ds hc => ?_,hr.inj,fun c hc => ?_,fun s o e' z' hx => ?_,fun s o s' o' x x' y y' g' h1 h2 h3 h4 h5 h6 => ?_,fun k j hi => hi.elim (hr.lt k j) (fun q => q.2),fun k j hi => hi.elim (hr.sub k j) (fun q => .inr (own_lt hown k q.1).1),hr.below,hr.room,fun k j hi => ⟨hI k j (hr.mon k j hi).1,(hr.mon k j hi).2⟩⟩
 ·obtain ⟨y,q1,q2⟩:=hr.tm s v hv
  exact ⟨y,q1,q2.keep hI (fun _ _ _ h => h) (fun _ _ _ => rfl)⟩
 ·have hc' : look ((b,over cs off [sD z es]) :: st.bx) c = some ds:=hc
  simp only [look] at hc'
  split at hc'
  ·rename_i ebc; cases hc'; subst ebc
   refine ⟨gb,hgb,hbb,.inl ⟨hlt,us,tyB,hblk,by rw [over_len (by simp; omega)]; exact hrowL.1,fun j c' y hj hy => ?_⟩,fun j hj => hj.elim (hnIb j) (fun q => hρu _ _ hgb q.1)⟩
   by_cases hjo : j = off
   ·subst hjo
    have:=over_in (cs:=cs) (ds:=[sD z es]) (off:=j) (j:=0) (by simp; omega) (by simp)
    rw [Nat.add_zero] at this
    rw [this] at hj
    simp at hj; subst hj
    rw [huo] at hy; cases hy
    exact .inl hrep
   ·rw [over_out (by simp; omega) (by simp; omega)] at hj
    exact (hrowL.2 j c' y hj hy).keep hI (fun _ _ _ h => h) (fun _ _ _ => rfl)
  ·obtain ⟨g',q1,q2,q3,q4⟩:=hr.bx c ds hc'
   exact ⟨g',q1,q2,q3.keep hI (fun _ _ _ h => h) (fun _ _ _ => rfl) rfl,fun j hj => hj.elim (q4 j) (fun q => hρu _ _ q1 q.1)⟩
 ·have hc' : look ((b,over cs off [sD z es]) :: st.bx) c = none:=hc
  simp only [look] at hc'
  split at hc'
  ·cases hc'
  ·exact hr.nob c hc'
 ·obtain ⟨n1,q⟩:=hfl _ _ _ hx
  obtain ⟨y,q1,q2⟩:=hr.fl s o e' z' q
  refine ⟨y,q1,own_keep q2 (fun _ _ => rfl) (fun g' j hg' hi => hi.elim id (fun k => absurd (hr.apart s o b (some off) _ _ y u g' q hf q1 hat hg' k.1) n1)) (fun _ _ _ h => h) hI (fun _ _ _ => rfl)⟩
 ·exact hr.apart s o s' o' x x' y y' g' (hfl _ _ _ h1).2 (hfl _ _ _ h2).2 h3 h4 h5 h6
theorem toldX_boxed (hm : P.follows .mixedOrders = true) {f : FuncId} {fn : Func} {id : Nat} {ops : Array Oper} {rest : Code} {o0 : Oper} {l : List Oper} {ic0 ic : IC} {an : List Ann} {rw lv lb : List Nat} {cuts : List (Nat × List Nat × List Nat)} {cs ex r : List D} {ri : List (Nat × Nat × Pay)} {ro : List Rt} {T d : Nat} {R : St → Prop} (hf : P.funcs[f]? = some fn) (hb : fn.body = some (.seq (.region id ops false) rest)) (hops : ops.toList = o0 :: l) (ho0 : o0.op = .box T (.tmp 0)) (hd0 : o0.dst = some d) (hg0 : o0.guard = none) (hdn : ex.length < d ∧ d < fn.ntmps)
  (hc0 : compRs P fn.ntmps rw ops l cuts lv lb = some ic0) (hc : compC P fn.ntmps rest an = some (ic,[])) (hl : fn.ntmps ≤ 100000) (hnd : (ri.map (·.1)).Nodup)
  (h : ∃ st1,Le ⟨(d,pD d 0) :: startT (aD cs :: ex) 0,[(d,cs)],flOf d ri⟩ st1 ∧ cSeq ic0 ic st1 (fin1 R))
  (post : ∀ (base : Nat → Prop) (w0 : World) (I0 : Still) (st' : St) (I' : Still) (ρ : Nat → Option Nat) (a' : Act) (w' : World),R st' → RelI base w0 I0 fn.ntmps I' ρ st'.F a' w' → ∃ v',(results fn a'.tmps).run P w' = .ok v' w' ∧ RRep I' w' r v' ∧ Hands I' (fun _ => none) base w' v' ro ∧ ApartV v' ro) :
  ToldX P f (aD cs :: ex) (upR ri) r ro:=by
 intro w I vs v0 hv hlt hv0 hha hap
 obtain ⟨v1,vs,rfl⟩ : ∃ v1 vr,vs = v1 :: vr:=by
  match vs,hv.1 with
  | v1 :: vr,_ => exact ⟨v1,vr,rfl⟩
  | [],q => simp at q
 simp only [List.getElem?_cons_zero,Option.some.injEq] at hv0
 subst hv0
 obtain ⟨us,rfl,hrow⟩:=CVRep.agg (hv.2 0 _ _ rfl rfl)
 have hca : ∀ j,cellAt (.agg us.toArray) (some j) = us[j]?:=fun j => by simp [cellAt]
 have hvl : vs.length = ex.length:=by have:=hv.1; simpa using this.symm
 have hs:=start_rel (N:=fn.ntmps) (args:=aD cs :: ex) (base:=fun b => b < w.heap.size ∧ ¬ HandB (.agg us.toArray) (upR ri) b) hv hlt ⟨by simp; omega,hl⟩ (fun _ h => h.1)
 refine (calls_core (base:=fun b => b < w.heap.size ∧ ¬ HandB (.agg us.toArray) (upR ri) b) (w0:=w) (I0:=I) (Post:=fun v' w' => ∃ I',(∀ b j,I b j → I' b j ∧ w'.cell? ⟨b,j,none⟩ = w.cell? ⟨b,j,none⟩) ∧ (∀ b j,I' b j → I b j ∨ ((w.heap.size ≤ b ∨ HandB (.agg us.toArray) (upR ri) b) ∧ b < w'.heap.size)) ∧ RRep I' w' r v' ∧
   Hands I' (fun _ => none) (fun b => b < w.heap.size ∧ ¬ HandB (.agg us.toArray) (upR ri) b) w' v' ro ∧ ApartV v' ro ∧ Kept (fun b => b < w.heap.size ∧ ¬ HandB (.agg us.toArray) (upR ri) b) w w') (R:=R) hm hf hb
  (fun Q hQ => ?_) (fun st' I' ρ a' w' hR hr => ?_)).mono fun x w' ⟨v,hx,I',hq⟩ => ⟨v,I',hx,hq⟩
 ·obtain ⟨st1,hle,h⟩:=h
  refine wp_seq (wp_region_list ?_)
  rw [hops]
  refine wpList_step fun K1 hK1 => ?_
  rw [if_pos (wanted_none hg0 _)]
  unfold Oper.wp
  have he0 : Act.eval { tmps:=(Value.agg us.toArray :: vs).toArray ++ Array.replicate (fn.ntmps - (Value.agg us.toArray :: vs).toArray.size) undef,defers:=[] } (.tmp 0) = .agg us.toArray:=by
   simp only [Act.eval,Array.getD_eq_getD_getElem?]
   rw [Array.getElem?_append_left (by simp)]
   rfl
  rw [show (execOp (Act.eval { tmps:=(Value.agg us.toArray :: vs).toArray ++ Array.replicate (fn.ntmps - (Value.agg us.toArray :: vs).toArray.size) undef,defers:=[] }) o0).run P w = .ok (.value (.pointer (some ⟨w.heap.size,0,none⟩))) (w.alloc (.cells us.toArray T)) by
   simp only [execOp,ho0,he0]
   simp [Instr.box,newVar,newRow,newObj,Sem.run,Value.cells]]
  show K1 (Act.put _ o0.dst _) _
  rw [hd0]
  refine hK1 _ _ ?_
  have hlt' : d < 100000:=by omega
  have hr1:=hs.newB hlt' (b:=d) (by simp [start,St.F,look]) (fun off => by simp [start,St.F,lookF]) T hrow.L
  have hr2:=hr1.put hdn.2 (v:=some (pD d 0)) (u:=.pointer (some ⟨w.heap.size,0,none⟩)) (fun x hx => by cases hx; exact AVRep.p hlt' (by simp))
  have hbel : Below w.heap.size w (w.alloc (.cells us.toArray T)):=(Below.refl _ _).alloc (Nat.le_refl _) _
  generalize hA : Act.put { tmps:=(Value.agg us.toArray :: vs).toArray ++ Array.replicate (fn.ntmps - (Value.agg us.toArray :: vs).toArray.size) undef,defers:=[] } (some d) (.pointer (some ⟨w.heap.size,0,none⟩)) = a1 at *
  have hat : ∀ j,At (fun c => if c = d then some w.heap.size else none) a1.tmps (w.alloc (.cells us.toArray T)) d (some j) = us[j]?:=fun j => by
   simp only [At,if_pos,Option.bind_some]
   rw [cell_of_row _ w.heap.size j us.toArray T (0,0) (heap_alloc_new _ _)]
   simp
  have hr3:=hr2.giveL hlt' hnd (fun x hx => by
   obtain ⟨u,q1,q2⟩:=hha (some x.1,x.2) (List.mem_map_of_mem hx)
   rw [hca] at q1
   obtain ⟨n,xs,k1,k2,k3⟩:=q2
   refine ⟨u,by rw [hat]; exact q1,⟨n,xs,k1.alloc _,fun g hg => ⟨fun q => q.2 ⟨_,List.mem_map_of_mem hx,u,by rw [hca]; exact q1,hg⟩,(k2 g hg).2.1,fun b q => ?_⟩,fun es he => ⟨(k3 es he).1,(k3 es he).2.keep (fun _ _ h => h) (fun b j hi => hbel.cell (p:=⟨b,j,none⟩) (hlt b j hi))⟩⟩,fun t p y v g hy => by simp [FS.setT,FS.setB,start,St.F,lookF] at hy⟩
   simp only at q
   split at q
   ·cases q; have:=(k1.lt _ hg).2; omega
   ·cases q) (fun x hx y hy u u' g k1 k2 k3 k4 => by
   rw [hat,← hca] at k1 k2
   have:=hap _ (List.mem_map_of_mem hx) _ (List.mem_map_of_mem hy) u u' g k1 k2 k3 k4
   simpa using this)
  have hst : Rel (fun b => b < w.heap.size ∧ ¬ HandB (.agg us.toArray) (upR ri) b) w I fn.ntmps (St.F ⟨(d,pD d 0) :: startT (aD cs :: ex) 0,[(d,cs)],flOf d ri⟩) a1 (w.alloc (.cells us.toArray T)):=by
   refine ⟨I,_,hr3.less (fun s x hx => ?_) ?_ (fun s p x hx => ?_)⟩
   ·rw [(giveFS_tm ri).1]
    have hx' : look ((d,pD d 0) :: startT (aD cs :: ex) 0) s = some x:=hx
    simp only [look] at hx'
    simp only [FS.setT]
    by_cases q : d = s
    ·subst q; simpa using hx'
    ·rw [if_neg q] at hx'
     rw [if_neg (fun e => q e.symm)]
     exact hx'
   ·rw [(giveFS_tm ri).2]
    funext b
    show look [(d,cs)] b = if b = d then some cs else look [] b
    simp only [look]
    by_cases q : d = b
    ·subst q; simp
    ·rw [if_neg q,if_neg (fun e => q e.symm)]
   ·refine giveFS_look (l:=[]) (fun s p x hx => by simp [lookF] at hx) ?_
    rw [List.append_nil]; exact hx
  refine run_cuts (R:=thn (fun st' => ic st' (fin1 R)) (fin1 R)) (fun st' a' w' hR hr' => ?_) cuts l lv lb ic0 st1 _ _ hc0 h (hle _ _ _ _ _ _ hst)
  exact awp_sound hm rest an [] ic hc st' _ Q a' w' hR hr' hQ
 ·obtain ⟨v',q1,q2,q3,q4⟩:=post _ _ _ _ _ _ _ _ hR hr
  refine ⟨v',q1,I',fun b j hi => ⟨(hr.mon b j hi).1,(hr.mon b j hi).2⟩,fun b j hi => ?_,q2,q3,q4,hr.below⟩
  rcases hr.sub b j hi with q | q
  ·exact .inl q
  ·refine .inr ⟨?_,hr.lt b j hi⟩
   by_cases hb2 : b < w.heap.size
   ·exact .inr (Classical.byContradiction fun q' => q ⟨hb2,q'⟩)
   ·exact .inl (Nat.le_of_not_lt hb2)
end
end Go.Proofs.Ytgaofjiidedcbad.ab
