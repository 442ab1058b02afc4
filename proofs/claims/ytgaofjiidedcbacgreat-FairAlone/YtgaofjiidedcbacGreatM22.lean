import Derived.Test.YtgaofjiidedcbacGreatM21
import Derived.Deep.QuietTactic
import Derived.BigQuiet
import Derived.WalkSmall
import Derived.Test.YtgaofjiidedcbacGreatM20
import Derived.Test.YtgaofjiidedcbacGreatProg
set_option maxHeartbeats 400000
set_option linter.unusedVariables false
set_option linter.unusedSimpArgs false
namespace Go.Proofs.YtgaofjiidedcbacGreat.leaf
set_option maxRecDepth 10000
open Go.RowKit
open mth
theorem owns_nil (w : World) (b : Nat) : w.ownsRow b 5 1 (.slice none 0 0) 0 []:=⟨rfl,.inl ⟨rfl,rfl⟩⟩
theorem open_short (a : Option Addr) (cap : Nat) (xs : List UInt8) (w : World) (hs : xs.length < 2) :
  Calls Tryz.prog 84 #[.slice a xs.length cap] w fun e w' => ∃ v' n,e = .returned (.tuple #[v',.bool (okL xs)]) ∧ w'.ownsRow w.heap.size 5 1 v' n ((openL xs).map B) ∧ Below w.heap.size w w':=by
 have hk : okL xs = false:=by simp [okL]; omega
 have ho : openL xs = []:=by simp [openL,hk]
 rw [hk,ho]
 clear hk ho
 go_enter Tryz.func84,Tryz.ntmps84
 go_wp2
 go_ret2
 exact ⟨_,0,rfl,owns_nil _ _,Below.refl _ _⟩
theorem hide {p : Prop} (h : p) : Hid p:=h
theorem Bs_take {w : World} {b off cap : Nat} {ys zs : List UInt8} (h : Bs w (.slice (some ⟨b,off,none⟩) (ys ++ zs).length cap) (ys ++ zs)) : Bs w (.slice (some ⟨b,off,none⟩) ys.length cap) ys:=by
 obtain ⟨a',cap',hv,hlc,hno,hc⟩:=h
 injection hv with h1 _ h2
 subst h1 h2
 refine ⟨_,_,rfl,by simp at hlc; omega,fun h => by simp at h,fun i hi => ?_⟩
 obtain ⟨x,hx,hcc⟩:=hc i (by simp; omega)
 refine ⟨x,hx,hcc.trans ?_⟩
 simp [List.getD,List.getElem?_append_left hi]
theorem Bs_at {w : World} {b off cap : Nat} {xs : List UInt8} (h : Bs w (.slice (some ⟨b,off,none⟩) xs.length cap) xs) (i : Nat) (hi : i < xs.length) : w.cell? ⟨b,off + i,none⟩ = some (.int .u8 ((xs.getD i 0).toNat : Int)):=by
 obtain ⟨a',cap',hv,hlc,hno,hc⟩:=h
 injection hv with h1 _ h2
 subst h1 h2
 obtain ⟨x,hx,hcc⟩:=hc i hi
 simp at hx
 subst hx
 rw [Addr.add_lit] at hcc
 exact hcc
theorem Bs.drewN {w : World} {v : Value} {xs : List UInt8} (h : Bs w v xs) (n : Nat) : Bs (w.drewN n) v xs:=h
theorem or_bytes (x y : UInt8) : bits .or .i64 ((x.toNat : Int) * 256) (y.toNat : Int) = (x.toNat : Int) * 256 + (y.toNat : Int):=by
 have hx:=x.toNat_lt
 have hy:=y.toNat_lt
 generalize x.toNat = a at *
 generalize y.toNat = b at *
 have h : a <<< 8 + b = a <<< 8 ||| b:=Nat.shiftLeft_add_eq_or_of_lt hy a
 have e : a <<< 8 = a * 256:=by rw [Nat.shiftLeft_eq]
 rw [e] at h
 have ea : ((a : Int) * 256) = ((a * 256 : Nat) : Int):=by omega
 rw [ea]
 show IntKind.i64.wrap ((BitVec.ofInt 64 ((a * 256 : Nat) : Int) ||| BitVec.ofInt 64 (b : Int)).toNat : Int) = _
 rw [BitVec.toNat_or,BitVec.ofInt_natCast,BitVec.ofInt_natCast,BitVec.toNat_ofNat,BitVec.toNat_ofNat,Nat.mod_eq_of_lt (by omega),Nat.mod_eq_of_lt (by omega),← h,IntKind.wrap_i64]
 omega
theorem ok_last (ys : List UInt8) (x y : UInt8) : okL (ys ++ [x,y]) = decide ((x.toNat : Int) * 256 + (y.toNat : Int) = sumL ys):=by
 rw [Bool.eq_iff_iff,ok_iff _ (by simp)]
 simp [List.getD]
theorem open_last (ys : List UInt8) (x y : UInt8) : openL (ys ++ [x,y]) = if okL (ys ++ [x,y]) = true then ys else []:=by
 simp [openL]
theorem open_long (b off : Nat) (cap : Nat) (ys : List UInt8) (x y : UInt8) (w : World) (h : Bs w (.slice (some ⟨b,off,none⟩) (ys ++ [x,y]).length cap) (ys ++ [x,y])) (hcap : ys.length + 2 ≤ cap) (hr : ys.length + 2 ≤ 140737488355328) :
  Calls Tryz.prog 84 #[.slice (some ⟨b,off,none⟩) (ys.length + 2) cap] w fun e w' => ∃ v' n,e = .returned (.tuple #[v',.bool (okL (ys ++ [x,y]))]) ∧ w'.ownsRow w.heap.size 5 1 v' n ((openL (ys ++ [x,y])).map B) ∧ Below w.heap.size w w':=by
 have hcx : w.cell? ⟨b,off + ys.length,none⟩ = some (.int .u8 (x.toNat : Int)):=by
  have:=Bs_at h ys.length (by simp)
  simpa [List.getD] using this
 have hcy : w.cell? ⟨b,off + ys.length + 1,none⟩ = some (.int .u8 (y.toNat : Int)):=by
  have:=Bs_at h (ys.length + 1) (by simp)
  rw [← Nat.add_assoc] at this
  simpa [List.getD] using this
 have hb:=sumL_bd ys
 have hx:=x.toNat_lt
 have hy:=y.toNat_lt
 have hor:=or_bytes x y
 obtain ⟨i0,hi,hz0,hz1,hz2⟩:=info_parts info5
 have hmk : ∀ u : World,(Instr.makeSlice 41 (.int .i64 (ys.length : Int)) (.int .i64 (ys.length : Int))).run Tryz.prog u =
   .ok (.slice (some ⟨u.heap.size,0,none⟩) ys.length ys.length) (u.alloc (.cells (madeCells #[.int .u8 0] ys.length) 5)):=fun u => by
  have h:=run_make (P:=Tryz.prog) u 41 5 i0 (.int .u8 0) Tryz.underlying41 hi hz0 .i64 .i64 (ys.length : Int) (ys.length : Int) (by omega) (by omega) (by rw [hz2]; omega) (by omega)
  have e' : ((ys.length : Int)).toNat = ys.length:=by omega
  rw [e'] at h
  simpa [hz1,Value.cells] using h
 have HOK:=hide (ok_last ys x y)
 have HOP:=hide (open_last ys x y)
 obtain ⟨k,hk⟩ : ∃ k,k = okL (ys ++ [x,y]):=⟨_,rfl⟩
 obtain ⟨o,ho⟩ : ∃ o,o = openL (ys ++ [x,y]):=⟨_,rfl⟩
 rw [← hk,← ho]
 rw [← hk] at HOK HOP
 rw [← ho] at HOP
 clear hk ho
 go_enter Tryz.func84,Tryz.ntmps84
 go_wp2
 go_quiet (fail)
 obtain ⟨u,hu⟩ : ∃ u,u = w.drewN nq:=⟨_,rfl⟩
 rw [← hu]
 have hbu : Below w.heap.size w u:=by rw [hu]; exact below_drewN (Below.refl _ _) nq
 have hcx' : u.cell? ⟨b,off + ys.length,none⟩ = some (.int .u8 (x.toNat : Int)):=by rw [hu]; exact hcx
 have hcy' : u.cell? ⟨b,off + ys.length + 1,none⟩ = some (.int .u8 (y.toNat : Int)):=by rw [hu]; exact hcy
 have hof : ∀ n,Calls Tryz.prog 98 #[.slice (some ⟨b,off,none⟩) ys.length cap] (u.drewN n) fun e w' => e = .returned (.int .i64 (sumL ys)) ∧ w' = u.drewN n:=fun n =>
  (of_any (some ⟨b,off,none⟩) cap ys (u.drewN n) ((Bs_take (h.later hbu)).drewN n) (by unfold maxLen; omega)).mono fun e w' h => ⟨h.1,h.2.symm⟩
 have HOF:=hide hof
 clear hof hcx hcy hu nq
 go_wp2
 go_quiet ((go_at_call 98; exact Calls.quiet_of_same (HOF.out _)))
 obtain ⟨u2,hu2⟩ : ∃ u2,u2 = u.drewN nq:=⟨_,rfl⟩
 rw [← hu2]
 have hb2 : Below w.heap.size w u2:=by rw [hu2]; exact below_drewN hbu nq
 clear hcx' hcy' hbu HOF hu2 nq
 by_cases hs : (x.toNat : Int) * 256 + (y.toNat : Int) = sumL ys
 ·have hk : k = true:=by rw [HOK.out]; simpa using hs
  have ho : o = ys:=by rw [HOP.out,hk]; simp
  subst hk
  subst ho
  have hs' : ((x.toNat : Int) * 256 + (y.toNat : Int) != sumL o) = false:=by simpa using hs
  have hrow : (u2.alloc (.cells (madeCells #[.int .u8 0] o.length) 5)).heap[u2.heap.size]? = some (.cells (List.replicate o.length (Value.int .u8 0)).toArray 5 (0,0)):=by
   rw [heap_alloc_new]
   rw [← toList_madeCells_one]
  obtain ⟨w1,hcp,hown,hb1⟩:=run_copy (B0:=w.heap.size) (dcap:=o.length) (Bs_take h) (hb2.alloc hb2.size _) hrow hb2.size hb2.size (by simp) (by unfold maxLen; omega) (by simp)
  clear hrow hs HOK HOP
  go_wp2
  go_ret2
  exact ⟨_,_,rfl,hown,hb1⟩
 ·have hk : k = false:=by rw [HOK.out]; simpa using hs
  have ho : o = []:=by rw [HOP.out,hk]; simp
  subst hk
  subst ho
  have hs' : ((x.toNat : Int) * 256 + (y.toNat : Int) != sumL ys) = true:=by simpa using hs
  clear hs HOK HOP
  go_wp2
  go_ret2
  exact ⟨_,0,rfl,owns_nil _ _,hb2⟩
theorem open_own (a : Option Addr) (cap : Nat) (xs : List UInt8) (w : World) (h : Bs w (.slice a xs.length cap) xs) (hr : xs.length ≤ 140737488355328) :
  Calls Tryz.prog 84 #[.slice a xs.length cap] w fun e w' => ∃ v' n,e = .returned (.tuple #[v',.bool (okL xs)]) ∧ w'.ownsRow w.heap.size 5 1 v' n ((openL xs).map B) ∧ Below w.heap.size w w':=by
 by_cases hl : xs.length < 2
 ·exact open_short a cap xs w hl
 ·obtain ⟨ys,x,y,rfl⟩ : ∃ ys x y,xs = ys ++ [x,y]:=by
   refine ⟨xs.take (xs.length - 2),xs[xs.length - 2],xs[xs.length - 1],?_⟩
   exact last_two xs (by omega)
  obtain ⟨a',cap',hv,hlc,hno,hc⟩:=h
  injection hv with h1 _ h2
  subst h1 h2
  obtain ⟨z,rfl,hc0⟩:=hc 0 (by simp)
  obtain ⟨b,off,spot⟩:=z
  have hspot : spot = none:=by simpa [Addr.add] using World.cell?_spot hc0
  subst hspot
  have:=open_long b off cap ys x y w ⟨_,_,rfl,hlc,hno,hc⟩ (by simpa using hlc) (by simpa using hr)
  simpa using this
end Go.Proofs.YtgaofjiidedcbacGreat.leaf
namespace Go.Proofs.YtgaofjiidedcbacGreat.ab
open Go Go.RowKit
open mth
section
variable {I : Still} {w : World}
theorem add_lit (b o i : Nat) : (⟨b,o,none⟩ : Addr).add i = ⟨b,o + i,none⟩:=by
 unfold Addr.add
 split
 ·rename_i h; subst h; rfl
 ·rfl
theorem bs_of {xs : List UInt8} {v : Value} (h : CRep I w (sD 1 (xs.map encB)) v) : leaf.Bs w v xs ∧ xs.length ≤ 9223372036854775807:=by
 obtain ⟨a,cap,rfl,U,h1,h2,h3,h4,h5,h6⟩:=h.invS
 rw [List.length_map] at h1
 refine ⟨⟨a,cap,by rw [List.length_map],h1,h2,fun i hi => ?_⟩,by unfold maxLen at h3; omega⟩
 obtain ⟨b,off,rfl,hc⟩:=h5 (by intro e; rw [List.map_eq_nil_iff] at e; rw [e] at hi; simp at hi)
 refine ⟨_,rfl,?_⟩
 have q:=(hc i 0 (by rw [List.length_map]; exact hi) (by omega)).1
 have r:=h6 i 0 (encB xs[i]) (encB xs[i]) (by simp [hi]) rfl
 rw [(r.invV).1] at q
 rw [add_lit,show off + i = off + i * 1 + 0 by omega,q]
 simp [List.getD,hi]
theorem rep_owned {base n : Nat} {xs : List UInt8} {v : Value} (h : w.ownsRow base 5 1 v n (xs.map leaf.B)) (hI : ∀ b j,base ≤ b → b < w.heap.size → I b j) : CRep I w (sD 1 (xs.map encB)) v:=by
 obtain ⟨h1,h2⟩:=h
 rw [List.length_map,Nat.mul_one] at h1
 rcases h2 with ⟨rfl,rfl⟩ | ⟨g,cap,cur,rfl,hb,hg,hn,hm,hc,ht⟩
 ·rw [List.length_eq_zero_iff.1 h1]
  exact CRep.s (z:=1) (es:=[]) (a:=none) (cap:=0) ⟨fun _ _ => undef,by simp,fun _ => rfl,by unfold maxLen; omega,by simp,fun e => absurd rfl e,fun i j e l he => by simp at he⟩
 ·have hlt : g < w.heap.size:=(Array.getElem?_eq_some_iff.1 hg).1
  have hx : ∀ i (hi : i < xs.length),w.cell? ⟨g,i,none⟩ = some (leaf.B xs[i]):=fun i hi => by
   have : (cur.toList.take (n * 1))[i]? = some (leaf.B xs[i]):=by rw [ht]; simp [hi]
   rw [List.getElem?_take] at this
   split at this
   ·rw [cell_of_row w g i cur 5 (0,0) hg]; simpa using this
   ·cases this
  have hr:=CRep.s (I:=I) (w:=w) (z:=1) (es:=xs.map encB) (a:=some ⟨g,0,none⟩) (cap:=cap) ⟨fun i _ => leaf.B (xs.getD i 0),(by rw [List.length_map]; omega),(fun e => by cases e),hm,fun e he => ?_,fun _ => ⟨g,0,rfl,fun i j hi hj => ?_⟩,fun i j e l he hl => ?_⟩
  ·rw [List.length_map,h1] at hr; exact hr
  ·obtain ⟨x,_,rfl⟩:=List.mem_map.1 he; rfl
  ·rw [List.length_map] at hi
   obtain rfl : j = 0:=by omega
   refine ⟨?_,hI _ _ hb hlt⟩
   rw [show 0 + i * 1 + 0 = i by omega,hx i hi]
   simp [List.getD,hi]
  ·rw [List.getElem?_map] at he
   obtain ⟨x,hx',rfl⟩:=Option.map_eq_some_iff.1 he
   have : j = 0 ∧ l = encB x:=by
    cases j with
    | zero => simp [cellsD,encB] at hl; exact ⟨rfl,hl.symm⟩
    | succ k => simp [cellsD,encB] at hl
   obtain ⟨rfl,rfl⟩:=this
   show CRep I w (encB x) (leaf.B (xs.getD i 0))
   rw [show leaf.B (xs.getD i 0) = .int .u8 (x.toNat : Int) by simp [List.getD,hx',leaf.B]]
   exact CRep.v rfl
end
theorem owns_form {w : World} {base e n : Nat} {v : Value} {xs : List Value} (h : w.ownsRow base e 1 v n xs) : ∃ a c,v = .slice a n c:=by
 obtain ⟨h1,⟨rfl,h0⟩ | ⟨g,cap,cur,rfl,_⟩⟩:=h
 ·subst h0; exact ⟨none,0,rfl⟩
 ·exact ⟨_,_,rfl⟩
theorem ownsI_later {w w' : World} {base n : Nat} {v : Value} {e : TypeId} {xs : List Value} (h : w.ownsRow base e 1 v n xs) (hb : Below w.heap.size w w') : w'.ownsRow base e 1 v n xs:=by
 obtain ⟨h1,h2⟩:=h
 refine ⟨h1,?_⟩
 rcases h2 with h2 | ⟨g,cap,cur,hv,hg,hh,r⟩
 ·exact .inl h2
 ·exact .inr ⟨g,cap,cur,hv,hg,(hb.block g (Array.getElem?_eq_some_iff.1 hh).1).trans hh,r⟩
theorem seal_told (xs : List UInt8) (h : xs.length + 2 ≤ 140737488355328) : Told Tryz.prog 95 [sD 1 (xs.map encB)] [sD 1 ((sealL xs).map encB)]:=by
 intro w I vs hv hlt
 obtain ⟨hl,hr⟩:=hv
 match vs,hl with
 | [v],_ =>
  have hB:=(bs_of ((hr 0 _ v rfl rfl).leaf (fun cs e => by cases e))).1
  have hB':=hB
  obtain ⟨a,cap,rfl,_⟩:=hB'
  refine (leaf.seal_any a cap xs w hB h).mono fun e w' ⟨he,ho,hb⟩ => ⟨_,he,?_,hb⟩
  exact .inl (rep_owned ho (fun b j h1 h2 => .inr ⟨h1,h2⟩))
theorem open_told (xs : List UInt8) (h : xs.length ≤ 140737488355328) : Told Tryz.prog 84 [sD 1 (xs.map encB)] [sD 1 ((openL xs).map encB),vB (okL xs)]:=by
 intro w I vs hv hlt
 obtain ⟨hl,hr⟩:=hv
 match vs,hl with
 | [v],_ =>
  have hB:=(bs_of ((hr 0 _ v rfl rfl).leaf (fun cs e => by cases e))).1
  have hB':=hB
  obtain ⟨a,cap,rfl,_⟩:=hB'
  refine (leaf.open_own a cap xs w hB h).mono fun e w' ⟨v',n,he,ho,hb⟩ => ⟨_,he,?_,hb⟩
  exact ⟨[v',.bool (okL xs)],rfl,Vals.cons (.inl (rep_owned ho (fun b j h1 h2 => .inr ⟨h1,h2⟩))) (Vals.cons (.inl (CRep.v rfl)) Vals.nil)⟩
set_option maxRecDepth 100000
def Q7r0 : IC:=cReg Tryz.prog [xX 1 0,⟨some 2,none,iMov 2 (.const (.int .i64 0)) true⟩] [1] [1]
def Q7r1 : IC:=cReg Tryz.prog [xF 4 0 1,xL 5 1 4,xC 6 .lss 5 0,xM 7 6,xG 7 false (xF 8 0 1),xG 7 false (xL 9 1 8),xG 7 false (xC 10 .geq 9 3),xP 11 7 10,xT 3 11] [1,3] [1]
def Q7r2 : IC:=cReg Tryz.prog [⟨some 2,none,iMov 2 (.const (.int .i64 3)) true⟩] [2] []
def Q7r3 : IC:=cReg Tryz.prog [xF 13 1 1,xL 14 1 13,xN 15 14,xC 16 .gtr 15 6,xT 12 16] [12] []
def Q7r4 : IC:=cReg Tryz.prog [⟨some 2,none,iMov 2 (.const (.int .i64 4)) true⟩] [2] []
def Q7c3a : IC:=(cSeq Q7r4 cRet)
def Q7c3 : IC:=cCond (.tmp 12) Q7c3a cSkip
def Q7c2a : IC:=(cSeq Q7r2 cRet)
def Q7c2b : IC:=(cSeq Q7r3 Q7c3)
def Q7c2 : IC:=cCond (.tmp 3) Q7c2a Q7c2b
def Q7b1 : IC:=cBlock 0 (cSeq Q7r1 Q7c2)
def Q7r5 : IC:=cReg Tryz.prog [⟨some 2,none,iMov 2 (.const (.int .i64 0)) true⟩] [2] []
def chunk_WrongMsg : IC:=(cSeq Q7r0 (cSeq Q7b1 (cSeq Q7r5 cRet)))
theorem told_chunk_WrongMsg {args r : List D} (hl : args.length = 1) (h : chunk_WrongMsg (start args) (fin [(2,none)] r)) : Told Tryz.prog 96 args r :=
 told_of follows Tryz.func96 rfl (an:=[([],[1],[1],[]),([],[1,3],[1],[]),([],[2],[],[]),([],[12],[],[]),([],[2],[],[]),([],[2],[],[])]) (by kernel_rfl) (by kernel_rfl) (by rw [hl]; decide +kernel) h
set_option maxRecDepth 100000
def Q10r0 : IC:=cReg Tryz.prog [⟨some 4,none,iMov 4 (.const (.bool false)) true⟩] [0,1] []
def Q10r1 : IC:=cReg Tryz.prog [xM 7 0,xN 8 7,⟨some 9,none,iMov 9 (.const (.int .i64 0)) false⟩] [1,7,8,9] []
def Q10r2 : IC:=cReg Tryz.prog [xB 10 .lss 9 8] [1,7,8,9,10] []
def Q10c3 : IC:=cCond (.tmp 10) cSkip (cExit 0)
def Q10r3 : IC:=cReg Tryz.prog [xI 11 1 7 9,xL 12 1 11,xT 6 12] [1,6,7,8,9] []
def Q10r4 : IC:=cReg Tryz.prog [xM 13 6,xM 14 1,xB 15 .leq 13 14,xM 16 15,xG 16 false (xM 17 6),xG 16 false (xC 18 .geq 17 40),xP 19 16 18] [6,7,8,9,19] []
def Q10r5 : IC:=cReg Tryz.prog [⟨some 4,none,iMov 4 (.const (.bool false)) true⟩] [4] []
def Q10c5a : IC:=(cSeq Q10r5 cRet)
def Q10c5 : IC:=cCond (.tmp 19) Q10c5a cSkip
def Q10r6 : IC:=cReg Tryz.prog [xM 20 6,xT 1 20] [1,7,8,9] []
def Q10b4 : IC:=cBlock 1 (cSeq Q10r3 (cSeq (cSeq Q10r4 Q10c5) Q10r6))
def Q10r7 : IC:=cReg Tryz.prog [xC 21 .add 9 1,xM 9 21] [1,7,8,9] []
def Q10l2a : IC:=(cSeq Q10r2 (cSeq Q10c3 (cSeq Q10b4 Q10r7)))
def Q10l2 : IC:=cLoop Q10l2a
def Q10b1 : IC:=cBlock 0 Q10l2
def Q10r8 : IC:=cReg Tryz.prog [⟨some 4,none,iMov 4 (.const (.bool true)) true⟩] [4] []
def chunk_rises : IC:=(cSeq Q10r0 (cSeq (cSeq Q10r1 Q10b1) (cSeq Q10r8 cRet)))
theorem told_chunk_rises {args r : List D} (hl : args.length = 2) (h : chunk_rises (start args) (fin [(4,none)] r)) : Told Tryz.prog 108 args r :=
 told_of follows Tryz.func108 rfl (an:=[([],[0,1],[],[]),([],[1,7,8,9],[],[]),([],[1,7,8,9,10],[],[]),([],[1,6,7,8,9],[],[]),([],[6,7,8,9,19],[],[]),([],[4],[],[]),([],[1,7,8,9],[],[]),([],[1,7,8,9],[],[]),([],[4],[],[])]) (by kernel_rfl) (by kernel_rfl) (by rw [hl]; decide +kernel) h
def Q12r0 : IC:=cReg Tryz.prog [xX 1 0,⟨some 2,none,iMov 2 (.const (.int .i64 0)) true⟩] [1] [1]
def Q12r1_0 : IC:=cReg Tryz.prog [xF 4 1 1,xL 5 1 4,xC 6 .eql 5 40,xM 7 6,xG 7 false (xF 8 3 1),xG 7 false (xL 9 1 8),xG 7 false (xC 10 .lss 9 0),xP 11 7 10,xM 12 11,xG 12 false (xF 13 3 1)] [1,12,13] [1]
def Q12r1_1 : IC:=cReg Tryz.prog [xG 12 false (xL 14 1 13),xG 12 false (xF 15 1 1),xG 12 false (xL 16 1 15),xG 12 false (xB 17 .gtr 14 16),xP 18 12 17,xT 3 18] [1,3] [1]
def Q12r1 : IC:=(cSeq Q12r1_0 Q12r1_1)
def Q12r2 : IC:=cReg Tryz.prog [⟨some 2,none,iMov 2 (.const (.int .i64 3)) true⟩] [2] []
def Q12r3 : IC:=cReg Tryz.prog [xF 20 5 1,xL 21 1 20,xN 22 21,xC 23 .gtr 22 0,xT 19 23] [1,19] [1]
def Q12r4 : IC:=cReg Tryz.prog [⟨some 2,none,iMov 2 (.const (.int .i64 5)) true⟩] [2] []
def Q12c3a : IC:=(cSeq Q12r4 cRet)
def Q12c3 : IC:=cCond (.tmp 19) Q12c3a cSkip
def Q12c2a : IC:=(cSeq Q12r2 cRet)
def Q12c2b : IC:=(cSeq Q12r3 Q12c3)
def Q12c2 : IC:=cCond (.tmp 3) Q12c2a Q12c2b
def Q12b1 : IC:=cBlock 0 (cSeq Q12r1 Q12c2)
def Q12r5 : IC:=cReg Tryz.prog [xF 24 2 1,xL 25 1 24,xF 26 4 1,xL 27 1 26,⟨some 28,none,iBld 28 [zI,zS] [(0,1),(1,1)] [(.tmp 25),(.tmp 27)]⟩,xV1 29 96 28,xT 2 29] [2] []
def chunk_wrongData : IC:=(cSeq Q12r0 (cSeq Q12b1 (cSeq Q12r5 cRet)))
theorem told_chunk_wrongData {args r : List D} (hl : args.length = 1) (h : chunk_wrongData (start args) (fin [(2,none)] r)) : Told Tryz.prog 99 args r :=
 told_of follows Tryz.func99 rfl (an:=[([],[1],[1],[]),([(10,[1,12,13],[1])],[1,3],[1],[]),([],[2],[],[]),([],[1,19],[1],[]),([],[2],[],[]),([],[2],[],[])]) (by kernel_rfl) (by kernel_rfl) (by rw [hl]; decide +kernel) h
def Q11r0 : IC:=cReg Tryz.prog [xX 1 0,⟨some 2,none,iMov 2 (.const (.int .i64 0)) true⟩] [1] [1]
def Q11r1 : IC:=cReg Tryz.prog [xF 4 2 1,xL 5 1 4,xC 6 .neq 5 0,xM 7 6,xG 7 false (xF 8 3 1),xG 7 false (xL 9 1 8),xG 7 false (xC 10 .neq 9 0),xP 11 7 10,xT 3 11] [1,3] [1]
def Q11r2 : IC:=cReg Tryz.prog [⟨some 2,none,iMov 2 (.const (.int .i64 3)) true⟩] [2] []
def Q11r3 : IC:=cReg Tryz.prog [xF 13 4 1,xL 14 1 13,xN 15 14,xC 16 .gtr 15 0,xM 17 16,xG 17 false (xF 18 5 1),xG 17 false (xL 19 1 18),xG 17 false (xN 20 19),xG 17 false (xC 21 .gtr 20 3),xP 22 17 21,xT 12 22] [1,12] [1]
def Q11r4 : IC:=cReg Tryz.prog [⟨some 2,none,iMov 2 (.const (.int .i64 5)) true⟩] [2] []
def Q11r5 : IC:=cReg Tryz.prog [xF 24 5 1,xL 25 1 24,xF 26 1 1,xL 27 1 26,xV2 28 108 25 27,xO 29 28,xT 23 29] [23] []
def Q11r6 : IC:=cReg Tryz.prog [⟨some 2,none,iMov 2 (.const (.int .i64 3)) true⟩] [2] []
def Q11c4a : IC:=(cSeq Q11r6 cRet)
def Q11c4 : IC:=cCond (.tmp 23) Q11c4a cSkip
def Q11c3a : IC:=(cSeq Q11r4 cRet)
def Q11c3b : IC:=(cSeq Q11r5 Q11c4)
def Q11c3 : IC:=cCond (.tmp 12) Q11c3a Q11c3b
def Q11c2a : IC:=(cSeq Q11r2 cRet)
def Q11c2b : IC:=(cSeq Q11r3 Q11c3)
def Q11c2 : IC:=cCond (.tmp 3) Q11c2a Q11c2b
def Q11b1 : IC:=cBlock 0 (cSeq Q11r1 Q11c2)
def Q11r7 : IC:=cReg Tryz.prog [⟨some 2,none,iMov 2 (.const (.int .i64 0)) true⟩] [2] []
def chunk_wrongAck : IC:=(cSeq Q11r0 (cSeq Q11b1 (cSeq Q11r7 cRet)))
theorem told_chunk_wrongAck {args r : List D} (hl : args.length = 1) (h : chunk_wrongAck (start args) (fin [(2,none)] r)) : Told Tryz.prog 100 args r :=
 told_of follows Tryz.func100 rfl (an:=[([],[1],[1],[]),([],[1,3],[1],[]),([],[2],[],[]),([],[1,12],[1],[]),([],[2],[],[]),([],[23],[],[]),([],[2],[],[]),([],[2],[],[])]) (by kernel_rfl) (by kernel_rfl) (by rw [hl]; decide +kernel) h
def Q6r0 : IC:=cReg Tryz.prog [xX 1 0,⟨some 2,none,iMov 2 (.const (.int .i64 0)) true⟩] [1] [1]
def Q6r1 : IC:=cReg Tryz.prog [xF 3 0 1,xL 4 1 3,xC 5 .neq 4 1,xM 6 5,xG 6 true (xF 7 0 1),xG 6 true (xL 8 1 7),xG 6 true (xC 9 .neq 8 2),xQ 10 6 9] [1,10] [1]
def Q6r2 : IC:=cReg Tryz.prog [⟨some 2,none,iMov 2 (.const (.int .i64 1)) true⟩] [2] []
def Q6c1a : IC:=(cSeq Q6r2 cRet)
def Q6c1 : IC:=cCond (.tmp 10) Q6c1a cSkip
def Q6r3 : IC:=cReg Tryz.prog [xF 11 1 1,xL 12 1 11,xC 13 .lss 12 0,xM 14 13,xG 14 false (xF 15 1 1),xG 14 false (xL 16 1 15),xG 14 false (xC 17 .gtr 16 40),xP 18 14 17] [1,18] [1]
def Q6r4 : IC:=cReg Tryz.prog [⟨some 2,none,iMov 2 (.const (.int .i64 3)) true⟩] [2] []
def Q6c2a : IC:=(cSeq Q6r4 cRet)
def Q6c2 : IC:=cCond (.tmp 18) Q6c2a cSkip
def Q6r5 : IC:=cReg Tryz.prog [xF 19 0 1,xL 20 1 19,xC 21 .eql 20 1] [1,21] [1]
def Q6r6 : IC:=cReg Tryz.prog [xA 22 6 1,xV1 23 99 22,xT 2 23] [2] []
def Q6c3a : IC:=(cSeq Q6r6 cRet)
def Q6c3 : IC:=cCond (.tmp 21) Q6c3a cSkip
def Q6r7 : IC:=cReg Tryz.prog [xA 24 6 1,xV1 25 100 24,xT 2 25] [2] []
def chunk_Wrong : IC:=(cSeq Q6r0 (cSeq (cSeq Q6r1 Q6c1) (cSeq (cSeq Q6r3 Q6c2) (cSeq (cSeq Q6r5 Q6c3) (cSeq Q6r7 cRet)))))
theorem told_chunk_Wrong {args r : List D} (hl : args.length = 1) (h : chunk_Wrong (start args) (fin [(2,none)] r)) : Told Tryz.prog 87 args r :=
 told_of follows Tryz.func87 rfl (an:=[([],[1],[1],[]),([],[1,10],[1],[]),([],[2],[],[]),([],[1,18],[1],[]),([],[2],[],[]),([],[1,21],[1],[]),([],[2],[],[]),([],[2],[],[])]) (by kernel_rfl) (by kernel_rfl) (by rw [hl]; decide +kernel) h
def Q8r0 : IC:=cReg Tryz.prog [⟨some 2,none,iMov 2 (.const (.bool false)) true⟩] [0] []
def Q8r1_0 : IC:=cReg Tryz.prog [xM 3 0,xN 4 3,xC 5 .lss 4 2,xM 6 5,xG 6 false (xM 7 0),⟨some 8,some (6,false),iIaS 8 1 (.tmp 7) (.const (.int .i64 0))⟩,xG 6 false (xL 9 1 8),⟨some 10,some (6,false),iBin 10 .eql (.tmp 9) (.const (.int .u8 1))⟩,xG 6 false (xM 11 10),xG 11 true (xM 12 0)] [6,11,12] []
def Q8r1_1 : IC:=cReg Tryz.prog [xG 11 true (xN 13 12),xG 11 true (xC 14 .lss 13 4),xG 6 false (xQ 15 11 14),xP 16 6 15,xT 2 16] [2] []
def Q8r1 : IC:=(cSeq Q8r1_0 Q8r1_1)
def chunk_endsTooSoon : IC:=(cSeq Q8r0 (cSeq Q8r1 cRet))
theorem told_chunk_endsTooSoon {args r : List D} (hl : args.length = 1) (h : chunk_endsTooSoon (start args) (fin [(2,none)] r)) : Told Tryz.prog 85 args r :=
 told_of follows Tryz.func85 rfl (an:=[([],[0],[],[]),([(10,[6,11,12],[])],[2],[],[])]) (by kernel_rfl) (by kernel_rfl) (by rw [hl]; decide +kernel) h
def Q9r0 : IC:=cReg Tryz.prog [⟨some 2,none,iAlo 2 [zI,zI,zI,zI,zS,zS]⟩] [0,2] [2]
def Q9r1 : IC:=cRegD Tryz.prog [xM 6 0,⟨some 7,none,iIaS 7 1 (.tmp 6) (.const (.int .i64 0))⟩,xL 8 1 7,⟨some 9,none,iCvi 9 .i64 (.tmp 8)⟩,xM 10 0,⟨some 11,none,iIaS 11 1 (.tmp 10) (.const (.int .i64 1))⟩,xL 12 1 11,⟨some 13,none,iCvi 13 .i64 (.tmp 12)⟩,⟨some 14,none,iBld 14 [zI,zI,zI,zI,zS,zS] [(0,1),(1,1)] [(.tmp 9),(.tmp 13)]⟩,⟨some 3,none,iAlo 3 [zI,zI,zI,zI,zS,zS]⟩,xS 6 3 14] [[],[0],[1,0],[2,1,0],[],[4],[5,4],[6,5,4],[3,7,2,1,0,6,5,4],[],[9,8,0,1,2,3,4,5,6,7]] [0,2,3] [2,3]
def Q9r2 : IC:=cReg Tryz.prog [xF 15 0 3,xL 16 1 15] [0,2,3,16] [2,3]
def Q9r3 : IC:=cReg Tryz.prog [xC 18 .eql 16 1,xT 17 18] [0,2,3,16,17] [2,3]
def Q9r4 : IC:=cRegD Tryz.prog [xM 19 0,⟨some 20,none,iIaS 20 1 (.tmp 19) (.const (.int .i64 2))⟩,xL 21 1 20,⟨some 22,none,iCvi 22 .i64 (.tmp 21)⟩,xM 23 0,⟨some 24,none,iIaS 24 1 (.tmp 23) (.const (.int .i64 3))⟩,xL 25 1 24,⟨some 26,none,iCvi 26 .i64 (.tmp 25)⟩,xF 27 2 3,xS 1 27 22,xF 28 3 3,xS 1 28 26] [[],[0],[1,0],[2,1,0],[],[4],[5,4],[6,5,4],[0,1,2,3],[8,3,0,1,2],[0,1,2,3,4,5,6,7,8,9],[10,7,9,0,1,2,3,4,5,6,8]] [0,2,3] [2,3]
def Q9r5 : IC:=cRegD Tryz.prog [xF 29 4 3,xU 30 1 29,xM 31 0,⟨some 32,none,iSlc 32 1 (.tmp 31) (some (.const (.int .i64 4))) none⟩,xW 33 5 1 1 30 32,xF 34 4 3,xS 1 34 33] [[],[0],[],[2],[1,3,0,2],[0,1,2,3,4],[5,4,0,1,2,3]] [2,3] [2,3]
def Q9r6 : IC:=cReg Tryz.prog [xC 36 .eql 16 2,xT 35 36] [0,2,3,35] [2,3]
def Q9r7 : IC:=cReg Tryz.prog [xM 37 0,⟨some 38,none,iSlc 38 1 (.tmp 37) (some (.const (.int .i64 2))) none⟩,xN 39 38,⟨some 40,none,iMov 40 (.const (.int .i64 0)) false⟩] [2,3,38,39,40] [2,3]
def Q9r8 : IC:=cReg Tryz.prog [xB 41 .lss 40 39] [2,3,38,39,40,41] [2,3]
def Q9c6 : IC:=cCond (.tmp 41) cSkip (cExit 1)
def Q9r9 : IC:=cReg Tryz.prog [xI 42 1 38 40,xL 43 1 42,xT 5 43] [2,3,5,38,39,40] [2,3]
def Q9r10 : IC:=cReg Tryz.prog [xF 44 5 3,xU 45 1 44,xM 46 5,⟨some 47,none,iCvi 47 .i64 (.tmp 46)⟩,xR 48 3 1 47,xW 49 3 1 8 45 48,xF 50 5 3,xS 1 50 49] [2,3,38,39,40] [2,3]
def Q9b7 : IC:=cBlock 2 (cSeq Q9r9 Q9r10)
def Q9r11 : IC:=cReg Tryz.prog [xC 51 .add 40 1,xM 40 51] [2,3,38,39,40] [2,3]
def Q9l5a : IC:=(cSeq Q9r8 (cSeq Q9c6 (cSeq Q9b7 Q9r11)))
def Q9l5 : IC:=cLoop Q9l5a
def Q9b4 : IC:=cBlock 1 Q9l5
def Q9c3a : IC:=(cSeq Q9r7 Q9b4)
def Q9c3 : IC:=cCond (.tmp 35) Q9c3a cSkip
def Q9c2a : IC:=(cSeq Q9r4 Q9r5)
def Q9c2b : IC:=(cSeq Q9r6 Q9c3)
def Q9c2 : IC:=cCond (.tmp 17) Q9c2a Q9c2b
def Q9b1 : IC:=cBlock 0 (cSeq Q9r3 Q9c2)
def Q9r12 : IC:=cReg Tryz.prog [xA 52 6 3,xS 6 2 52] [2] [2]
def chunk_fromBytes : IC:=(cSeq Q9r0 (cSeq Q9r1 (cSeq (cSeq Q9r2 Q9b1) (cSeq Q9r12 cRet))))
theorem told_chunk_fromBytes {args r : List D} (hl : args.length = 1) (h : chunk_fromBytes (start args) (fin [(2,some (6,true))] r)) : Told Tryz.prog 86 args r :=
 told_of follows Tryz.func86 rfl (an:=[([],[0,2],[2],[]),([],[0,2,3],[2,3],[]),([],[0,2,3,16],[2,3],[]),([],[0,2,3,16,17],[2,3],[]),([],[0,2,3],[2,3],[]),([],[2,3],[2,3],[]),([],[0,2,3,35],[2,3],[]),([],[2,3,38,39,40],[2,3],[]),([],[2,3,38,39,40,41],[2,3],[]),([],[2,3,5,38,39,40],[2,3],[]),([],[2,3,38,39,40],[2,3],[]),([],[2,3,38,39,40],[2,3],[]),([],[2],[2],[])]) (by kernel_rfl) (by kernel_rfl) (by rw [hl]; decide +kernel) h
def Q2r0 : IC:=cReg Tryz.prog [xX 1 0,⟨some 2,none,iMov 2 (.const (.slice none 0 0)) true⟩] [1] [1]
def Q2r1 : IC:=cReg Tryz.prog [xF 6 0 1,xL 7 1 6,⟨some 8,none,iCvi 8 .u8 (.tmp 7)⟩,xF 9 1 1,xL 10 1 9,⟨some 11,none,iCvi 11 .u8 (.tmp 10)⟩,⟨some 12,none,iRow 12 5 1 [(.tmp 8),(.tmp 11)]⟩,xT 3 12] [1,3] [1]
def Q2r2 : IC:=cReg Tryz.prog [xF 13 0 1,xL 14 1 13] [1,3,14] [1]
def Q2r3 : IC:=cReg Tryz.prog [xC 16 .eql 14 1,xT 15 16] [1,3,14,15] [1]
def Q2r4 : IC:=cReg Tryz.prog [xT 17 3,xF 18 2 1,xL 19 1 18,⟨some 20,none,iCvi 20 .u8 (.tmp 19)⟩,xF 21 3 1,xL 22 1 21,⟨some 23,none,iCvi 23 .u8 (.tmp 22)⟩,⟨some 24,none,iRow 24 5 1 [(.tmp 20),(.tmp 23)]⟩,xW 25 5 1 1 17 24,xT 3 25] [1,3] [1]
def Q2r5 : IC:=cReg Tryz.prog [xT 26 3,xF 27 4 1,xL 28 1 27,xW 29 5 1 1 26 28,xT 3 29] [3] []
def Q2r6 : IC:=cReg Tryz.prog [xC 31 .eql 14 2,xT 30 31] [1,3,30] [1]
def Q2r7 : IC:=cReg Tryz.prog [xF 32 5 1,xL 33 1 32,xN 34 33,⟨some 35,none,iMov 35 (.const (.int .i64 0)) false⟩] [3,33,34,35] []
def Q2r8 : IC:=cReg Tryz.prog [xB 36 .lss 35 34] [3,33,34,35,36] []
def Q2c6 : IC:=cCond (.tmp 36) cSkip (cExit 1)
def Q2r9 : IC:=cReg Tryz.prog [xI 37 1 33 35,xL 38 1 37,xT 5 38] [3,5,33,34,35] []
def Q2r10 : IC:=cReg Tryz.prog [xT 39 3,xM 40 5,⟨some 41,none,iCvi 41 .u8 (.tmp 40)⟩,xR 42 5 1 41,xW 43 5 1 1 39 42,xT 3 43] [3,33,34,35] []
def Q2b7 : IC:=cBlock 2 (cSeq Q2r9 Q2r10)
def Q2r11 : IC:=cReg Tryz.prog [xC 44 .add 35 1,xM 35 44] [3,33,34,35] []
def Q2l5a : IC:=(cSeq Q2r8 (cSeq Q2c6 (cSeq Q2b7 Q2r11)))
def Q2l5 : IC:=cLoop Q2l5a
def Q2b4 : IC:=cBlock 1 Q2l5
def Q2c3a : IC:=(cSeq Q2r7 Q2b4)
def Q2c3 : IC:=cCond (.tmp 30) Q2c3a cSkip
def Q2c2a : IC:=(cSeq Q2r4 Q2r5)
def Q2c2b : IC:=(cSeq Q2r6 Q2c3)
def Q2c2 : IC:=cCond (.tmp 15) Q2c2a Q2c2b
def Q2b1 : IC:=cBlock 0 (cSeq Q2r3 Q2c2)
def Q2r12 : IC:=cReg Tryz.prog [xM 45 3,xV1 46 95 45,xT 2 46] [2] []
def chunk_Bytes : IC:=(cSeq Q2r0 (cSeq Q2r1 (cSeq (cSeq Q2r2 Q2b1) (cSeq Q2r12 cRet))))
theorem told_chunk_Bytes {args r : List D} (hl : args.length = 1) (h : chunk_Bytes (start args) (fin [(2,none)] r)) : Told Tryz.prog 72 args r :=
 told_of follows Tryz.func72 rfl (an:=[([],[1],[1],[]),([],[1,3],[1],[]),([],[1,3,14],[1],[]),([],[1,3,14,15],[1],[]),([],[1,3],[1],[]),([],[3],[],[]),([],[1,3,30],[1],[]),([],[3,33,34,35],[],[]),([],[3,33,34,35,36],[],[]),([],[3,5,33,34,35],[],[]),([],[3,33,34,35],[],[]),([],[3,33,34,35],[],[]),([],[2],[],[])]) (by kernel_rfl) (by kernel_rfl) (by rw [hl]; decide +kernel) h
def Q5r0 : IC:=cReg Tryz.prog [⟨some 2,none,iAlo 2 [zI,zI,zI,zI,zS,zS]⟩,⟨some 3,none,iMov 3 (.const (.int .i64 0)) true⟩] [0,2] [2]
def Q5r1 : IC:=cReg Tryz.prog [xM 9 0,xV1 10 84 9,xM 8 10,xE 11 8 0,xE 12 8 1,xT 4 11,xT 5 12] [2,4,5] [2]
def Q5r2 : IC:=cReg Tryz.prog [xM 13 5,xO 14 13] [2,4,14] [2]
def Q5r3 : IC:=cReg Tryz.prog [⟨some 15,none,iBld 15 [zI,zI,zI,zI,zS,zS] [] []⟩,xS 6 2 15,⟨some 3,none,iMov 3 (.const (.int .i64 7)) true⟩] [2,3] [2]
def Q5c1a : IC:=(cSeq Q5r3 cRet)
def Q5c1 : IC:=cCond (.tmp 14) Q5c1a cSkip
def Q5r4 : IC:=cReg Tryz.prog [xM 16 4,xV1 17 85 16] [2,4,17] [2]
def Q5r5 : IC:=cReg Tryz.prog [⟨some 18,none,iBld 18 [zI,zI,zI,zI,zS,zS] [] []⟩,xS 6 2 18,⟨some 3,none,iMov 3 (.const (.int .i64 8)) true⟩] [2,3] [2]
def Q5c2a : IC:=(cSeq Q5r5 cRet)
def Q5c2 : IC:=cCond (.tmp 17) Q5c2a cSkip
def Q5r6 : IC:=cReg Tryz.prog [xM 19 4,xV1 20 86 19,⟨some 6,none,iAlo 6 [zI,zI,zI,zI,zS,zS]⟩,xS 6 6 20] [2,6] [2,6]
def Q5r7 : IC:=cReg Tryz.prog [xA 21 6 6,xV1 22 87 21,xT 7 22] [2,6,7] [2,6]
def Q5r8 : IC:=cReg Tryz.prog [xM 23 7,xC 24 .neq 23 0] [2,6,7,24] [2,6]
def Q5r9 : IC:=cReg Tryz.prog [⟨some 25,none,iBld 25 [zI,zI,zI,zI,zS,zS] [] []⟩,xM 26 7,xS 6 2 25,xT 3 26] [2,3] [2]
def Q5c3a : IC:=(cSeq Q5r9 cRet)
def Q5c3 : IC:=cCond (.tmp 24) Q5c3a cSkip
def Q5r10 : IC:=cReg Tryz.prog [xA 27 6 6,xS 6 2 27,⟨some 3,none,iMov 3 (.const (.int .i64 0)) true⟩] [2,3] [2]
def chunk_Read : IC:=(cSeq Q5r0 (cSeq Q5r1 (cSeq (cSeq Q5r2 Q5c1) (cSeq (cSeq Q5r4 Q5c2) (cSeq Q5r6 (cSeq (cSeq Q5r7 (cSeq Q5r8 Q5c3)) (cSeq Q5r10 cRet)))))))
theorem told_chunk_Read {args r : List D} (hl : args.length = 1) (h : chunk_Read (start args) (fin [(2,some (6,true)),(3,none)] r)) : Told Tryz.prog 65 args r :=
 told_of follows Tryz.func65 rfl (an:=[([],[0,2],[2],[]),([],[2,4,5],[2],[]),([],[2,4,14],[2],[]),([],[2,3],[2],[]),([],[2,4,17],[2],[]),([],[2,3],[2],[]),([],[2,6],[2,6],[]),([],[2,6,7],[2,6],[]),([],[2,6,7,24],[2,6],[]),([],[2,3],[2],[]),([],[2,3],[2],[])]) (by kernel_rfl) (by kernel_rfl) (by rw [hl]; decide +kernel) h
end Go.Proofs.YtgaofjiidedcbacGreat.ab
