import Derived.Test.YtgaofjiidedcbadM40
import Derived.Test.YtgaofjiidedcbadM40
set_option maxHeartbeats 16000000
set_option linter.unusedVariables false
set_option linter.unusedSimpArgs false
namespace Go.Proofs.Ytgaofjiidedcbad.ab
set_option maxRecDepth 10000
open Go Go.RowKit
open mth leaf
theorem box17 {w : World} {g : Nat} {t : TypeId} {a0 a1 a2 a3 a4 a5 a6 a7 a8 a9 a10 a11 a12 a13 a14 a15 a16 : Value} (h : w.heap[g]? = some (.cells #[a0,a1,a2,a3,a4,a5,a6,a7,a8,a9,a10,a11,a12,a13,a14,a15,a16] t (0,0))) :
  (w.cell? ⟨g,0,none⟩ = some a0 ∧ w.cell? ⟨g,1,none⟩ = some a1 ∧ w.cell? ⟨g,2,none⟩ = some a2 ∧ w.cell? ⟨g,3,none⟩ = some a3 ∧ w.cell? ⟨g,4,none⟩ = some a4 ∧ w.cell? ⟨g,5,none⟩ = some a5 ∧ w.cell? ⟨g,6,none⟩ = some a6) ∧
  (w.cell? ⟨g,7,none⟩ = some a7 ∧ w.cell? ⟨g,8,none⟩ = some a8 ∧ w.cell? ⟨g,9,none⟩ = some a9 ∧ w.cell? ⟨g,10,none⟩ = some a10 ∧ w.cell? ⟨g,11,none⟩ = some a11 ∧ w.cell? ⟨g,12,none⟩ = some a12 ∧ w.cell? ⟨g,13,none⟩ = some a13 ∧ w.cell? ⟨g,14,none⟩ = some a14) ∧
  w.cell? ⟨g,15,none⟩ = some a15 ∧ w.cell? ⟨g,16,none⟩ = some a16:=by
 have e : ∀ j,w.cell? ⟨g,j,none⟩ = (#[a0,a1,a2,a3,a4,a5,a6,a7,a8,a9,a10,a11,a12,a13,a14,a15,a16] : Array Value)[j]?:=fun j => cell_of_row w g j _ t (0,0) h
 refine ⟨⟨e 0,e 1,e 2,e 3,e 4,e 5,e 6⟩,⟨e 7,e 8,e 9,e 10,e 11,e 12,e 13,e 14⟩,e 15,e 16⟩
theorem list7 {α : Type} {l : List α} (h : l.length = 7) : ∃ s0 s1 s2 s3 s4 s5 s6,l = [s0,s1,s2,s3,s4,s5,s6]:=by
 match l,h with
 | [s0,s1,s2,s3,s4,s5,s6],_ => exact ⟨s0,s1,s2,s3,s4,s5,s6,rfl⟩
theorem list8 {α : Type} {l : List α} (h : l.length = 8) : ∃ s0 s1 s2 s3 s4 s5 s6 s7,l = [s0,s1,s2,s3,s4,s5,s6,s7]:=by
 match l,h with
 | [s0,s1,s2,s3,s4,s5,s6,s7],_ => exact ⟨s0,s1,s2,s3,s4,s5,s6,s7,rfl⟩
def zeroLn : List Value:=[.slice none 0 0,.int .i64 0,.int .i64 0,.int .i64 0,.int .i64 0,.slice none 0 0,.int .i64 0,.int .i64 0,.slice none 0 0,.int .i64 0,.int .i64 0,.int .i64 0,.slice none 0 0,.slice none 0 0,.bool false,.slice none 0 0,.slice none 0 0]
theorem wp_store17 {P : Program} {o : Oper} {a : Act} {w : World} {K : Act → World → Prop} {Q : Exit → Act → World → Prop} {t ty : TypeId} {n s d g : Nat} {cs us : List Value} (ho : o.op = .store t (.tmp s) (.tmp d)) (hd : o.dst = none) (hn : sizeT P t = some n)
  (e1 : a.eval (.tmp s) = .pointer (some ⟨g,0,none⟩)) (e2 : a.eval (.tmp d) = .agg us.toArray) (hul : us.length = n) (hone : ∀ x ∈ us,x.oneCell' = true) (hblk : w.heap[g]? = some (.cells cs.toArray ty (0,0))) (hcl : cs.length = n)
  (h : K (a.put none undef) (w.setRow g us.toArray)) : Oper.wp P o a w K Q:=by
 have hst:=run_storeP (P:=P) hn hblk (u:=.agg us.toArray) (off:=0) (by simpa [Value.cells] using hul) (by intro x hx; exact hone x (by simpa [Value.cells] using hx)) (by omega)
 have e3 : over cs 0 us = us:=by simp [over]; omega
 simp only [Value.cells,List.toList_toArray,e3] at hst
 unfold Oper.wp
 rw [show (execOp a.eval o).run P w = .ok .skip (w.setRow g us.toArray) by
  simp only [execOp,ho,e1,e2,Sem.run_bind,hst,Result.andThen_ok,Sem.run_pure]]
 show K (a.put o.dst undef) _
 rw [hd]
 exact h
theorem results_cell {P : Program} {fn : Func} {s T n g : Nat} {us : List Value} {ty : TypeId} {tmps : Array Value} {w : World} (hres : fn.results = #[.cell s T]) (hn : sizeT P T = some n) (ha : aggT P T = some true) (e1 : tmps.getD s undef = .pointer (some ⟨g,0,none⟩)) (hblk : w.heap[g]? = some (.cells us.toArray ty (0,0))) (hul : us.length = n) :
  (results fn tmps).run P w = .ok (.agg us.toArray) w:=by
 have hload:=run_loadA (P:=P) hn ha hblk hul
 have hld : (loadVar T ⟨g,0,none⟩).run P w = .ok (.agg us.toArray) w:=by simpa [Instr.loadAt,Instr.sureAddr] using hload
 have e2 : (asAddr (.pointer (some ⟨g,0,none⟩))).run P w = .ok ⟨g,0,none⟩ w:=rfl
 simp only [results,hres,Array.mapM_eq_mapM_toList,List.mapM_cons,List.mapM_nil]
 simp [e1,e2,hld]
theorem deep_keep {w w' : World} {base k : Nat} {u : Value} {xs : List Value} {p : List (List UInt8)} (h : Deep w base u k xs p) (hb : ∀ g,base ≤ g → g < w.heap.size → w'.heap[g]? = w.heap[g]?) : Deep w' base u k xs p:=by
 have hk : ∀ {e n : Nat} {y : Value} {ys : List Value},w.ownsRow base e 1 y n ys → w'.ownsRow base e 1 y n ys:=fun h => ⟨h.1,h.2.imp id fun ⟨g,cap,cur,k1,k2,k3,k4⟩ => ⟨g,cap,cur,k1,k2,(hb g k2 (Array.getElem?_eq_some_iff.1 k3).1).trans k3,k4⟩⟩
 exact ⟨hk h.own,fun j b hj hp => by obtain ⟨x,q1,q2⟩:=h.el j b hj hp; exact ⟨x,q1,hk q2⟩,h.apart⟩
def Under (top : Nat) (u : Value) (xs : List Value) : Prop:=(∀ g,u.ownBlock = some g → g < top) ∧ ∀ x ∈ xs,∀ g,x.ownBlock = some g → g < top
theorem deep_under {w : World} {base k : Nat} {u : Value} {xs : List Value} {p : List (List UInt8)} (h : Deep w base u k xs p) (hk : k ≤ p.length) : Under w.heap.size u xs:=by
 refine ⟨fun g hg => (h.own.lt g hg).2,fun x hx g hg => ?_⟩
 obtain ⟨j,hj,rfl⟩:=List.mem_iff_getElem.1 hx
 have hjk : j < k:=by have:=h.own.1; omega
 obtain ⟨x',q1,q2⟩:=h.el j p[j] hjk (List.getElem?_eq_getElem (by omega))
 rw [List.getElem?_eq_getElem hj] at q1; cases q1
 exact (q2.lt g hg).2
theorem deep_later {w w' : World} {base k : Nat} {u : Value} {xs : List Value} {p : List (List UInt8)} (h : Deep w base u k xs p) (hb : Below w.heap.size w w') : Deep w' base u k xs p :=
 ⟨ownsI_later h.own hb,fun j b hj hp => by obtain ⟨x,q1,q2⟩:=h.el j b hj hp; exact ⟨x,q1,ownsI_later q2 hb⟩,h.apart⟩
theorem laneOwn_walk (l : Ln) (hg : GoodL l) (a0 a1 a2 a3 a4 a5 a6 a7 a8 a9 a10 a11 a12 a13 a14 a15 a16 : Value) (w : World) (I : Still) (h : Row I w (encLn l) [a0,a1,a2,a3,a4,a5,a6,a7,a8,a9,a10,a11,a12,a13,a14,a15,a16]) (hlt : ∀ b j,I b j → b < w.heap.size) :
  Calls Try.prog 24 #[.agg #[a0,a1,a2,a3,a4,a5,a6,a7,a8,a9,a10,a11,a12,a13,a14,a15,a16]] w fun e w' => ∃ (s r : List Value) (u v : Value) (xs ys : List Value) (top mid : Nat),e = .returned (.agg (s ++ r ++ [u,v]).toArray) ∧ s.length = 7 ∧ r.length = 8 ∧ w.heap.size ≤ top ∧ top ≤ mid ∧ mid ≤ w'.heap.size ∧
   Row (fun b j => I b j ∨ (w.heap.size ≤ b ∧ b < top)) w' (encSd l.s ++ encRv l.r) (s ++ r) ∧ Deep w' top u l.there.length xs l.there ∧ Under mid u xs ∧ Deep w' mid v l.back.length ys l.back ∧ Below w.heap.size w w':=by
 have hs : Row I w (encSd l.s) [a0,a1,a2,a3,a4,a5,a6]:=h.take 7
 have hr : Row I w (encRv l.r) [a7,a8,a9,a10,a11,a12,a13,a14]:=(h.drop 7).take 8
 have ht : CRep I w (sD 1 (encPk l.there)) a15:=h.2 15 _ _ rfl rfl
 have hbk : CRep I w (sD 1 (encPk l.back)) a16:=h.2 16 _ _ rfl rfl
 have o1:=hide (ownS_told l.s (good_small hg.s))
 have o2:=hide (ownR_told l.r (good_smallR hg.r))
 have o3:=hide (listOwn_deep l.there (by have:=hg.t; omega) (fun m hm => by have:=hg.tn m hm; omega))
 have o4:=hide (listOwn_deep l.back (by have:=hg.b; omega) (fun m hm => by have:=hg.bn m hm; omega))
 have HS:=hide hs
 have HR:=hide hr
 have HT:=hide ht
 have HB:=hide hbk
 have HLT:=hide hlt
 clear h hs hr ht hbk hlt
 go_enter Try.func24,Try.ntmps24
 go_wp2_with fail
 obtain ⟨u,hu⟩ : ∃ u,u = ((w.alloc (Obj.cells #[a0,a1,a2,a3,a4,a5,a6,a7,a8,a9,a10,a11,a12,a13,a14,a15,a16] 51)).alloc (Obj.cells #[.slice none 0 0,.int .i64 0,.int .i64 0,.int .i64 0,.int .i64 0,.slice none 0 0,.int .i64 0,.int .i64 0,.slice none 0 0,.int .i64 0,.int .i64 0,.int .i64 0,.slice none 0 0,.slice none 0 0,.bool false,.slice none 0 0,.slice none 0 0] 51)):=⟨_,rfl⟩
 have hb0 : Below w.heap.size w u:=by rw [hu]; exact ((Below.refl _ _).alloc (Nat.le_refl _) _).alloc (by simp) _
 have hg1 : u.heap[w.heap.size]? = some (.cells #[a0,a1,a2,a3,a4,a5,a6,a7,a8,a9,a10,a11,a12,a13,a14,a15,a16] 51 (0,0)):=by rw [hu]; exact (Below.heap_alloc _ _ _ (by simp)).trans (heap_alloc_new _ _)
 have hg2 : u.heap[w.heap.size + 1]? = some (.cells #[.slice none 0 0,.int .i64 0,.int .i64 0,.int .i64 0,.int .i64 0,.slice none 0 0,.int .i64 0,.int .i64 0,.slice none 0 0,.int .i64 0,.int .i64 0,.int .i64 0,.slice none 0 0,.slice none 0 0,.bool false,.slice none 0 0,.slice none 0 0] 51 (0,0)):=by
  rw [hu]
  have:=heap_alloc_new (w.alloc (Obj.cells #[a0,a1,a2,a3,a4,a5,a6,a7,a8,a9,a10,a11,a12,a13,a14,a15,a16] 51)) (Obj.cells #[.slice none 0 0,.int .i64 0,.int .i64 0,.int .i64 0,.int .i64 0,.slice none 0 0,.int .i64 0,.int .i64 0,.slice none 0 0,.int .i64 0,.int .i64 0,.int .i64 0,.slice none 0 0,.slice none 0 0,.bool false,.slice none 0 0,.slice none 0 0] 51)
  simpa using this
 have hz : u.heap.size = w.heap.size + 2:=by rw [hu]; simp
 obtain ⟨⟨c0,c1,c2,c3,c4,c5,c6⟩,⟨c7,c8,c9,c10,c11,c12,c13,c14⟩,c15,c16⟩:=box17 hg1
 rw [← hu]
 clear hu
 have HB0:=hide hb0
 have HG2:=hide hg2
 have HZ:=hide hz
 have hz0 : w.heap.size < u.heap.size:=by omega
 have HK1 : Hid (Below u.heap.size u u.drew):=Below.drew (Below.refl _ _)
 clear hb0 hg2 hg1
 have HS0 : Hid (Below (w.heap.size + 1) u u.drew):=Below.drew (Below.refl _ _)
 refine regs.heldS_begin (S:=fun w' => Below (w.heap.size + 1) u w') (by kernel_rfl) ?_
 refine regs.heldS_take (i:=0) (v:=.pointer (some ⟨w.heap.size,0,none⟩)) rfl (by kernel_rfl) (by kernel_rfl) (by kernel_rfl) (fun _ _ _ h => h) (by rfl) (fun w' hb => by go_simp) HS0.out ?_
 simp only [Act.put,List.setIfInBounds_toArray,List.set_cons_zero,List.set_cons_succ,List.getElem_toArray,List.getElem_cons_zero]
 refine regs.heldS_take (i:=1) (v:=.agg #[a0,a1,a2,a3,a4,a5,a6]) rfl (by kernel_rfl) (by kernel_rfl) (by kernel_rfl) (fun _ _ _ h => h) (by rfl) (fun w' hb => by have d0:=(hb.cell (p:=⟨w.heap.size,0,none⟩) (Nat.lt_succ_self _)).trans c0; have d1:=(hb.cell (p:=⟨w.heap.size,1,none⟩) (Nat.lt_succ_self _)).trans c1; have d2:=(hb.cell (p:=⟨w.heap.size,2,none⟩) (Nat.lt_succ_self _)).trans c2; have d3:=(hb.cell (p:=⟨w.heap.size,3,none⟩) (Nat.lt_succ_self _)).trans c3; have d4:=(hb.cell (p:=⟨w.heap.size,4,none⟩) (Nat.lt_succ_self _)).trans c4; have d5:=(hb.cell (p:=⟨w.heap.size,5,none⟩) (Nat.lt_succ_self _)).trans c5; have d6:=(hb.cell (p:=⟨w.heap.size,6,none⟩) (Nat.lt_succ_self _)).trans c6; go_simp) HS0.out ?_
 simp only [Act.put,List.setIfInBounds_toArray,List.set_cons_zero,List.set_cons_succ,List.getElem_toArray,List.getElem_cons_zero,List.getElem_cons_succ]
 refine regs.heldS_take (i:=3) (v:=.pointer (some ⟨w.heap.size,7,none⟩)) rfl (by kernel_rfl) (by kernel_rfl) (by kernel_rfl) (fun _ _ _ h => h) (by rfl) (fun w' hb => by go_simp) HS0.out ?_
 simp only [Act.put,List.setIfInBounds_toArray,List.set_cons_zero,List.set_cons_succ,List.getElem_toArray,List.getElem_cons_zero,List.getElem_cons_succ]
 refine regs.heldS_take (i:=4) (v:=.agg #[a7,a8,a9,a10,a11,a12,a13,a14]) rfl (by kernel_rfl) (by kernel_rfl) (by kernel_rfl) (fun _ _ _ h => h) (by rfl) (fun w' hb => by have d7:=(hb.cell (p:=⟨w.heap.size,7,none⟩) (Nat.lt_succ_self _)).trans c7; have d8:=(hb.cell (p:=⟨w.heap.size,8,none⟩) (Nat.lt_succ_self _)).trans c8; have d9:=(hb.cell (p:=⟨w.heap.size,9,none⟩) (Nat.lt_succ_self _)).trans c9; have d10:=(hb.cell (p:=⟨w.heap.size,10,none⟩) (Nat.lt_succ_self _)).trans c10; have d11:=(hb.cell (p:=⟨w.heap.size,11,none⟩) (Nat.lt_succ_self _)).trans c11; have d12:=(hb.cell (p:=⟨w.heap.size,12,none⟩) (Nat.lt_succ_self _)).trans c12; have d13:=(hb.cell (p:=⟨w.heap.size,13,none⟩) (Nat.lt_succ_self _)).trans c13; have d14:=(hb.cell (p:=⟨w.heap.size,14,none⟩) (Nat.lt_succ_self _)).trans c14; go_simp) HS0.out ?_
 simp only [Act.put,List.setIfInBounds_toArray,List.set_cons_zero,List.set_cons_succ,List.getElem_toArray,List.getElem_cons_zero,List.getElem_cons_succ]
 refine regs.heldS_take (i:=6) (v:=.pointer (some ⟨w.heap.size,15,none⟩)) rfl (by kernel_rfl) (by kernel_rfl) (by kernel_rfl) (fun _ _ _ h => h) (by rfl) (fun w' hb => by go_simp) HS0.out ?_
 simp only [Act.put,List.setIfInBounds_toArray,List.set_cons_zero,List.set_cons_succ,List.getElem_toArray,List.getElem_cons_zero,List.getElem_cons_succ]
 refine regs.heldS_take (i:=7) (v:=a15) rfl (by kernel_rfl) (by kernel_rfl) (by kernel_rfl) (fun _ _ _ h => h) (by rfl) (fun w' hb => by have d15:=(hb.cell (p:=⟨w.heap.size,15,none⟩) (Nat.lt_succ_self _)).trans c15; go_simp) HS0.out ?_
 simp only [Act.put,List.setIfInBounds_toArray,List.set_cons_zero,List.set_cons_succ,List.getElem_toArray,List.getElem_cons_zero,List.getElem_cons_succ]
 refine regs.heldS_take (i:=9) (v:=.pointer (some ⟨w.heap.size,16,none⟩)) rfl (by kernel_rfl) (by kernel_rfl) (by kernel_rfl) (fun _ _ _ h => h) (by rfl) (fun w' hb => by go_simp) HS0.out ?_
 simp only [Act.put,List.setIfInBounds_toArray,List.set_cons_zero,List.set_cons_succ,List.getElem_toArray,List.getElem_cons_zero,List.getElem_cons_succ]
 refine regs.heldS_take (i:=10) (v:=a16) rfl (by kernel_rfl) (by kernel_rfl) (by kernel_rfl) (fun _ _ _ h => h) (by rfl) (fun w' hb => by have d16:=(hb.cell (p:=⟨w.heap.size,16,none⟩) (Nat.lt_succ_self _)).trans c16; go_simp) HS0.out ?_
 simp only [Act.put,List.setIfInBounds_toArray,List.set_cons_zero,List.set_cons_succ,List.getElem_toArray,List.getElem_cons_zero,List.getElem_cons_succ]
 have HW : Hid (Below w.heap.size w u.drew):=HB0.out.trans (HK1.out.mono HB0.out.size)
 have hlW : ∀ b j,I b j → b < u.drew.heap.size:=fun b j hi => Nat.lt_of_lt_of_le (HLT.out b j hi) HW.out.size
 have hcW : ∀ b j,I b j → u.drew.cell? ⟨b,j,none⟩ = w.cell? ⟨b,j,none⟩:=fun b j hi => HW.out.cell (p:=⟨b,j,none⟩) (HLT.out b j hi)
 have q1:=hide (o1.out u.drew I [.agg #[a0,a1,a2,a3,a4,a5,a6]] (Vals.cons (.inr ⟨_,_,rfl,rfl,HS.out.keep (fun _ _ h => h) hcW⟩) Vals.nil) hlW)
 refine regs.heldS_ready (rs:=[2]) (by kernel_rfl) (by simp) (regs.comes1 ⟨_,rfl,fun K hK => ?_⟩)
 go_simp
 go_wp2_with ((go_at_call 33; refine (q1.out).mono ?_; rintro e W1 ⟨v1,rfl,hv1,hb1⟩; obtain ⟨ss,rfl,hS1⟩:=CVRep.agg hv1; obtain ⟨s0,s1,s2,s3,s4,s5,s6,rfl⟩ : ∃ s0 s1 s2 s3 s4 s5 s6,ss = [s0,s1,s2,s3,s4,s5,s6]:=list7 (by rw [← hS1.1]; rfl); have HS1R:=hide hS1; clear hv1 hS1; have HT1:=hide hb1; have HW1 : Hid (Below w.heap.size w W1):=HW.out.trans (hb1.mono HW.out.size); have HS1 : Hid (Below (w.heap.size + 1) u W1):=HS0.out.trans (hb1.mono (by have:=HS0.out.size; omega)); clear hb1))
 refine hK.out _ _ HS1.out ?_
 clear hK K
 have q2:=hide (o2.out W1 I [.agg #[a7,a8,a9,a10,a11,a12,a13,a14]] (Vals.cons (.inr ⟨_,_,rfl,rfl,HR.out.keep (fun _ _ h => h) (fun b j hi => HW1.out.cell (p:=⟨b,j,none⟩) (HLT.out b j hi))⟩) Vals.nil) (fun b j hi => Nat.lt_of_lt_of_le (HLT.out b j hi) HW1.out.size))
 refine regs.heldS_ready (rs:=[5]) (by kernel_rfl) (by simp) (regs.comes1 ⟨_,rfl,fun K hK => ?_⟩)
 go_simp
 go_wp2_with ((go_at_call 34; refine (q2.out).mono ?_; rintro e W2 ⟨v2,rfl,hv2,hb2⟩; obtain ⟨rr,rfl,hR2⟩:=CVRep.agg hv2; obtain ⟨r0,r1,r2,r3,r4,r5,r6,r7,rfl⟩ : ∃ r0 r1 r2 r3 r4 r5 r6 r7,rr = [r0,r1,r2,r3,r4,r5,r6,r7]:=list8 (by rw [← hR2.1]; rfl); have HR2R:=hide hR2; clear hv2 hR2; have HT2:=hide hb2; have HW2 : Hid (Below w.heap.size w W2):=HW1.out.trans (hb2.mono HW1.out.size); have HS2 : Hid (Below (w.heap.size + 1) u W2):=HS1.out.trans (hb2.mono (by have:=HS1.out.size; omega)); clear hb2))
 refine hK.out _ _ HS2.out ?_
 clear hK K
 have q3:=hide (o3.out W2 I a15 (HT.out.keep (fun _ _ h => h) (fun b j hi => HW2.out.cell (p:=⟨b,j,none⟩) (HLT.out b j hi))) (fun b j hi => Nat.lt_of_lt_of_le (HLT.out b j hi) HW2.out.size))
 refine regs.heldS_ready (rs:=[8]) (by kernel_rfl) (by simp) (regs.comes1 ⟨_,rfl,fun K hK => ?_⟩)
 go_simp
 go_wp2_with ((go_at_call 35; refine (q3.out).mono ?_; rintro e W3 ⟨u3,xs3,rfl,hD3,hb3⟩; have HD3:=hide hD3; clear hD3; have HT3:=hide hb3; have HW3 : Hid (Below w.heap.size w W3):=HW2.out.trans (hb3.mono HW2.out.size); have HS3 : Hid (Below (w.heap.size + 1) u W3):=HS2.out.trans (hb3.mono (by have:=HS2.out.size; omega)); clear hb3))
 refine hK.out _ _ HS3.out ?_
 clear hK K
 have q4:=hide (o4.out W3 I a16 (HB.out.keep (fun _ _ h => h) (fun b j hi => HW3.out.cell (p:=⟨b,j,none⟩) (HLT.out b j hi))) (fun b j hi => Nat.lt_of_lt_of_le (HLT.out b j hi) HW3.out.size))
 refine regs.heldS_ready (rs:=[11]) (by kernel_rfl) (by simp) (regs.comes1 ⟨_,rfl,fun K hK => ?_⟩)
 go_simp
 go_wp2_with ((go_at_call 35; refine (q4.out).mono ?_; rintro e W4 ⟨u4,xs4,rfl,hD4,hb4⟩; have HD4:=hide hD4; clear hD4; have HT4:=hide hb4; have HW4 : Hid (Below w.heap.size w W4):=HW3.out.trans (hb4.mono HW3.out.size); have HS4 : Hid (Below (w.heap.size + 1) u W4):=HS3.out.trans (hb4.mono (by have:=HS3.out.size; omega)); clear hb4))
 refine hK.out _ _ HS4.out ?_
 clear hK K
 obtain ⟨x3,y3,e3⟩:=owns_form HD3.out.own
 obtain ⟨x4,y4,e4⟩:=owns_form HD4.out.own
 subst e3 e4
 refine regs.heldS_take (i:=12) (v:=.agg #[s0,s1,s2,s3,s4,s5,s6,r0,r1,r2,r3,r4,r5,r6,r7,.slice x3 l.there.length y3,.slice x4 l.back.length y4]) rfl (by kernel_rfl) (by kernel_rfl) (by kernel_rfl) (fun _ _ _ h => h) (by rfl) (fun w' hb => by go_simp) HS4.out ?_
 simp only [Act.put,List.setIfInBounds_toArray,List.set_cons_zero,List.set_cons_succ,List.getElem_toArray,List.getElem_cons_zero,List.getElem_cons_succ]
 have hne : 0 < 1:=by decide
 have hG2 : W4.heap[w.heap.size + 1]? = some (.cells (zeroLn.toArray) 51 (0,0)):=by
  have h1 : u.drew.heap[w.heap.size + 1]? = u.heap[w.heap.size + 1]?:=HK1.out.block _ (by rw [HZ.out]; omega)
  have hz4 : u.drew.heap.size = w.heap.size + 2:=HZ.out
  have b1:=HT1.out.block (w.heap.size + 1) (by omega)
  have b2:=HT2.out.block (w.heap.size + 1) (by have:=HT1.out.size; omega)
  have b3:=HT3.out.block (w.heap.size + 1) (by have:=HT1.out.size; have:=HT2.out.size; omega)
  have b4:=HT4.out.block (w.heap.size + 1) (by have:=HT1.out.size; have:=HT2.out.size; have:=HT3.out.size; omega)
  rw [b4,b3,b2,b1,h1]; exact HG2.out
 have hz4 : u.drew.heap.size = w.heap.size + 2:=HZ.out
 have z1:=HT1.out.size
 have z2:=HT2.out.size
 have z3:=HT3.out.size
 have z4:=HT4.out.size
 have hone : ∀ x ∈ [s0,s1,s2,s3,s4,s5,s6,r0,r1,r2,r3,r4,r5,r6,r7,.slice x3 l.there.length y3,.slice x4 l.back.length y4],x.oneCell' = true:=by
  intro x hx
  rw [show [s0,s1,s2,s3,s4,s5,s6,r0,r1,r2,r3,r4,r5,r6,r7,.slice x3 l.there.length y3,.slice x4 l.back.length y4] = ([s0,s1,s2,s3,s4,s5,s6] ++ [r0,r1,r2,r3,r4,r5,r6,r7]) ++ [.slice x3 l.there.length y3,.slice x4 l.back.length y4] from rfl] at hx
  rcases List.mem_append.1 hx with hx | hx
  ·rcases List.mem_append.1 hx with hx | hx
   ·exact HS1R.out.one x hx
   ·exact HR2R.out.one x hx
  ·simp only [List.mem_cons,List.not_mem_nil,or_false] at hx
   rcases hx with rfl | rfl <;> rfl
 refine regs.heldS_ready (rs:=[13]) (by kernel_rfl) (by simp) (regs.comes1 ⟨_,rfl,fun K hK => ?_⟩)
 rw [if_pos (by rfl)]
 refine wp_store17 (t:=51) (n:=17) (s:=2) (d:=15) (g:=w.heap.size + 1) (us:=[s0,s1,s2,s3,s4,s5,s6,r0,r1,r2,r3,r4,r5,r6,r7,.slice x3 l.there.length y3,.slice x4 l.back.length y4]) (cs:=zeroLn) rfl rfl (by kernel_rfl) rfl rfl rfl hone hG2 rfl ?_
 have hgr : W4.grownBy (W4.setRow (w.heap.size + 1) [s0,s1,s2,s3,s4,s5,s6,r0,r1,r2,r3,r4,r5,r6,r7,.slice x3 l.there.length y3,.slice x4 l.back.length y4].toArray) (some (w.heap.size + 1)):=⟨rfl,rfl,rfl,by simp,fun k _ hk => setRow_other W4 _ k _ (fun e => hk (by rw [e]))⟩
 refine hK.out _ _ ?_ ?_
 ·exact HS4.out.grown hgr (by omega) (fun k hk => by cases hk; omega)
 clear hK K
 refine regs.heldS_done (by kernel_rfl) ?_ _
 go_wp2_with fail
 have hFar : ∀ g,g ≠ w.heap.size + 1 → (W4.setRow (w.heap.size + 1) [s0,s1,s2,s3,s4,s5,s6,r0,r1,r2,r3,r4,r5,r6,r7,.slice x3 l.there.length y3,.slice x4 l.back.length y4].toArray).heap[g]? = W4.heap[g]?:=fun g hne => setRow_other W4 _ g _ hne
 have hFw : ∀ g,w.heap.size + 2 ≤ g → (W4.setRow (w.heap.size + 1) [s0,s1,s2,s3,s4,s5,s6,r0,r1,r2,r3,r4,r5,r6,r7,.slice x3 l.there.length y3,.slice x4 l.back.length y4].toArray).heap[g]? = W4.heap[g]?:=fun g hg => hFar g (by omega)
 refine bodyPost_ret (v:=.agg [s0,s1,s2,s3,s4,s5,s6,r0,r1,r2,r3,r4,r5,r6,r7,.slice x3 l.there.length y3,.slice x4 l.back.length y4].toArray) (results_cell (s:=2) (T:=51) (n:=17) (g:=w.heap.size + 1) (ty:=51) rfl (by kernel_rfl) (by kernel_rfl) rfl (setRow_heap W4 _ _ _ 51 (0,0) hG2) rfl) rfl ?_
 refine ⟨[s0,s1,s2,s3,s4,s5,s6],[r0,r1,r2,r3,r4,r5,r6,r7],.slice x3 l.there.length y3,.slice x4 l.back.length y4,xs3,xs4,W2.heap.size,W3.heap.size,rfl,rfl,rfl,by omega,by omega,by simp; omega,?_,?_,?_,?_,?_⟩
 ·have hin : ∀ b j,(I b j ∨ (u.drew.heap.size ≤ b ∧ b < W2.heap.size)) → I b j ∨ (w.heap.size ≤ b ∧ b < W2.heap.size):=fun b j hi => hi.imp id (fun q => ⟨by omega,q.2⟩)
  have hcl2 : ∀ b j,(I b j ∨ (u.drew.heap.size ≤ b ∧ b < W2.heap.size)) → (W4.setRow (w.heap.size + 1) [s0,s1,s2,s3,s4,s5,s6,r0,r1,r2,r3,r4,r5,r6,r7,.slice x3 l.there.length y3,.slice x4 l.back.length y4].toArray).cell? ⟨b,j,none⟩ = W2.cell? ⟨b,j,none⟩:=fun b j hi => by
   have hb : b < W2.heap.size:=hi.elim (fun q => Nat.lt_of_lt_of_le (HLT.out b j q) (by omega)) (fun q => q.2)
   have hne2 : b ≠ w.heap.size + 1:=hi.elim (fun q => by have:=HLT.out b j q; omega) (fun q => by omega)
   have h1 : (W4.setRow (w.heap.size + 1) [s0,s1,s2,s3,s4,s5,s6,r0,r1,r2,r3,r4,r5,r6,r7,.slice x3 l.there.length y3,.slice x4 l.back.length y4].toArray).heap[b]? = W2.heap[b]?:=by
    rw [hFar b hne2,HT4.out.block b (by omega),HT3.out.block b (by omega)]
   exact World.cell?_of_block (a:=⟨b,j,none⟩) h1
  have row1:=HS1R.out.keep (I':=fun b j => I b j ∨ (w.heap.size ≤ b ∧ b < W2.heap.size)) (w':=W4.setRow (w.heap.size + 1) [s0,s1,s2,s3,s4,s5,s6,r0,r1,r2,r3,r4,r5,r6,r7,.slice x3 l.there.length y3,.slice x4 l.back.length y4].toArray) (fun b j hi => hi.imp id (fun q => ⟨by omega,by omega⟩)) (fun b j hi => by
   have hb : b < W1.heap.size:=hi.elim (fun q => Nat.lt_of_lt_of_le (HLT.out b j q) (by omega)) (fun q => q.2)
   rw [hcl2 b j (hi.imp id (fun q => ⟨q.1,by omega⟩))]
   exact World.cell?_of_block (a:=⟨b,j,none⟩) (HT2.out.block b hb))
  have row2:=HR2R.out.keep (I':=fun b j => I b j ∨ (w.heap.size ≤ b ∧ b < W2.heap.size)) (w':=W4.setRow (w.heap.size + 1) [s0,s1,s2,s3,s4,s5,s6,r0,r1,r2,r3,r4,r5,r6,r7,.slice x3 l.there.length y3,.slice x4 l.back.length y4].toArray) (fun b j hi => hi.imp id (fun q => ⟨by omega,q.2⟩)) (fun b j hi => hcl2 b j (hi.imp id (fun q => ⟨by omega,q.2⟩)))
  exact row1.app row2
 ·exact deep_keep (deep_later HD3.out HT4.out) (fun g hg _ => hFw g (by omega))
 ·exact deep_under HD3.out (Nat.le_refl _)
 ·exact deep_keep HD4.out (fun g hg _ => hFw g (by omega))
 ·exact HW4.out.grown hgr (by omega) (fun k hk => by cases hk; omega)
end Go.Proofs.Ytgaofjiidedcbad.ab
