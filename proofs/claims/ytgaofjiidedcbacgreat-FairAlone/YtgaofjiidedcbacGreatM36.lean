import Derived.Test.YtgaofjiidedcbacGreatM35
import Derived.Test.YtgaofjiidedcbacGreatM32
import Derived.Test.YtgaofjiidedcbacGreatPLane3
import Derived.Test.YtgaofjiidedcbacGreatM20
import Derived.Test.YtgaofjiidedcbacGreatProg
import Derived.Test.YtgaofjiidedcbacGreatM19
set_option maxHeartbeats 16000000
set_option linter.unusedVariables false
set_option linter.unusedSimpArgs false
namespace Go.Proofs.YtgaofjiidedcbacGreat.mth
theorem KInv.lane {p : List Ms} {l : Ln} (h : KInv p l) (s : Sp) (h6 : s.kind ≠ 6) : KInv (p ++ (if (laneW l s).2 = 0 ∧ s.kind = 2 then [s.msg] else [])) (laneW l s).1:=by
 unfold laneW
 by_cases h1 : s.kind = 1
 ·rw [if_pos h1,if_neg (by omega),List.append_nil]
  exact h.speak
 rw [if_neg h1]
 by_cases h2 : s.kind = 2
 ·rw [if_pos h2]
  have:=h.put s.msg
  by_cases he : putE l.s s.msg = 0
  ·rw [if_pos he] at this
   rw [if_pos ⟨he,h2⟩]
   exact this
  ·rw [if_neg he] at this
   rw [if_neg (fun w => he w.1),List.append_nil]
   exact this
 ·rw [if_neg h2,if_neg (fun w => h2 w.2),List.append_nil]
  exact h.packet _ _ _ _ h6
def WKnow (p : Int → List Ms) (w : Wd) : Prop:=∀ (j : Nat) (x : Ln),w.lanes[j]? = some x → KInv (p j) x
theorem WKnow.step {p : Int → List Ms} {w : Wd} (h : WKnow p w) (s : Sp) (h6 : s.kind ≠ 6) : WKnow (fun t => p t ++ (if (doW w s).2 = 0 ∧ s.kind = 2 ∧ s.tenant = t then [s.msg] else [])) (doW w s).1:=by
 unfold doW
 split
 ·intro j x hx
  simp only
  rw [if_neg (by simp),List.append_nil]
  exact h j x hx
 split
 ·intro j x hx
  simp only
  rw [if_neg (by simp),List.append_nil]
  exact h j x hx
 ·rename_i h1 h2
  intro j x hx
  simp only at hx ⊢
  have hlt : (whoW w s).toNat < w.lanes.length:=by omega
  have hg : w.lanes.getD (whoW w s).toNat zeroL = w.lanes[(whoW w s).toNat]:=by rw [List.getD_eq_getElem?_getD,List.getElem?_eq_getElem hlt,Option.getD_some]
  rw [hg] at hx ⊢
  have hl:=h (whoW w s).toNat _ (List.getElem?_eq_getElem hlt)
  by_cases hj : (whoW w s).toNat = j
  ·subst hj
   rw [List.getElem?_set_self (by omega)] at hx
   cases hx
   have:=hl.lane s h6
   by_cases hk : (laneW w.lanes[(whoW w s).toNat] s).2 = 0 ∧ s.kind = 2
   ·have ht : s.tenant = ((whoW w s).toNat : Int):=by
     have : whoW w s = s.tenant:=by unfold whoW; rw [if_neg (by omega)]
     omega
    rw [if_pos hk] at this
    rw [if_pos ⟨hk.1,hk.2,ht⟩]
    exact this
   ·rw [if_neg hk] at this
    rw [if_neg (fun w => hk ⟨w.1,w.2.1⟩)]
    exact this
  ·rw [List.getElem?_set_ne hj] at hx
   rw [if_neg,List.append_nil]
   ·exact h j x hx
   ·rintro ⟨w1,w2,w3⟩
    have : whoW w s = s.tenant:=by unfold whoW; rw [if_neg (by omega)]
    omega
def tickS : Sp:=⟨1,0,0,0,false,⟨0,[]⟩⟩
def drainW (w : Wd) : Wd:=⟨w.lanes.map drainL,w.ticks⟩
def roundW (w : Wd) : Wd:=(doW (drainW w) tickS).1
def roundN : Nat → Wd → Wd
 | 0,w => w
 | k + 1,w => roundW (roundN k w)
def stillW (w : Wd) : Bool:=w.lanes.all idleL
theorem GoodL.there_all : ∀ (q : List (List UInt8)) {l : Ln},GoodL l → l.there = q → GoodL { l with r:=q.foldl hearP l.r,there:=[] }
 | [],l,h,e => by
  obtain ⟨s,r,t,b⟩:=l
  simp only at e
  subst e
  exact h
 | x :: q,l,h,e => by
  have h1:=h.come 0 false
  rw [come_there e] at h1
  exact GoodL.there_all q h1 rfl
theorem GoodL.back_all : ∀ (q : List (List UInt8)) {l : Ln},GoodL l → l.back = q → GoodL { l with s:=q.foldl hearQ l.s,back:=[] }
 | [],l,h,e => by
  obtain ⟨s,r,t,b⟩:=l
  simp only at e
  subst e
  exact h
 | x :: q,l,h,e => by
  have h1:=h.come 0 true
  rw [come_back e] at h1
  exact GoodL.back_all q h1 rfl
theorem GoodL.drain {l : Ln} (h : GoodL l) : GoodL (drainL l):=GoodL.back_all l.back (GoodL.there_all l.there h rfl) rfl
theorem GoodW.drain {w : Wd} (h : GoodW w) : GoodW (drainW w):=⟨by simpa [drainW] using h.n,h.t,fun l hl => by
 obtain ⟨x,hx,e⟩:=List.mem_map.1 hl
 rw [← e]; exact (h.l x hx).drain⟩
theorem GoodW.round {w : Wd} (h : GoodW w) : GoodW (roundW w):=h.drain.step tickS
theorem round_ticks (w : Wd) : (roundW w).ticks = w.ticks + 1:=by
 unfold roundW
 rw [doW_ticks,if_neg (by decide)]
 rfl
theorem round_len (w : Wd) : (roundW w).lanes.length = w.lanes.length:=by
 unfold roundW
 rw [do_len]
 simp [drainW]
theorem roundN_ticks (k : Nat) (w : Wd) : (roundN k w).ticks = w.ticks + k:=by
 induction k with
 | zero => simp [roundN]
 | succ k ih => rw [roundN,round_ticks,ih]; omega
theorem roundN_len (k : Nat) (w : Wd) : (roundN k w).lanes.length = w.lanes.length:=by
 induction k with
 | zero => rfl
 | succ k ih => rw [roundN,round_len,ih]
theorem GoodW.rounds {w : Wd} (h : GoodW w) (k : Nat) : GoodW (roundN k w):=by
 induction k with
 | zero => exact h
 | succ k ih => exact ih.round
theorem round_lane (w : Wd) (j : Nat) : (roundW w).lanes[j]? = (w.lanes[j]?).map fun x => if w.ticks.tmod w.lanes.length = j then speakL (drainL x) else drainL x:=by
 unfold roundW
 rw [doW_lane]
 have hw : whoW (drainW w) tickS = w.ticks.tmod w.lanes.length:=by
  unfold whoW
  rw [if_pos (by rfl)]
  show w.ticks.tmod ((w.lanes.map drainL).length : Nat) = _
  rw [List.length_map]
 have hl : (drainW w).lanes[j]? = (w.lanes[j]?).map drainL:=by simp [drainW]
 rw [hw,hl]
 by_cases e : w.ticks.tmod w.lanes.length = j
 ·rw [if_neg (by intro q; rcases q with q | q; exact absurd q (by decide); exact q e)]
  cases w.lanes[j]? with
  | none => rfl
  | some x =>
   simp only [Option.map_some,e,if_true]
   rfl
 ·rw [if_pos (.inr e)]
  cases w.lanes[j]? with
  | none => rfl
  | some x => simp only [Option.map_some,e,if_false]
theorem Sim.round {t : Nat} {w x : Wd} (h : Sim t w x) : Sim t (roundW w) (roundW x):=by
 refine ⟨by rw [round_ticks,round_ticks,h.k],by rw [round_len,round_len,h.n],?_⟩
 rw [round_lane,round_lane,h.l,h.k,h.n]
theorem Sim.rounds {t : Nat} {w x : Wd} (h : Sim t w x) (k : Nat) : Sim t (roundN k w) (roundN k x):=by
 induction k with
 | zero => exact h
 | succ k ih => exact ih.round
theorem WKnow.round {p : Int → List Ms} {w : Wd} (h : WKnow p w) : WKnow p (roundW w):=fun j y hy => by
 rw [round_lane] at hy
 cases hx : w.lanes[j]? with
 | none => rw [hx] at hy; cases hy
 | some x =>
  rw [hx] at hy
  simp only [Option.map_some,Option.some.injEq] at hy
  rw [← hy]
  split
  ·exact (h j x hx).drain.speak
  ·exact (h j x hx).drain
theorem WKnow.rounds {p : Int → List Ms} {w : Wd} (h : WKnow p w) (k : Nat) : WKnow p (roundN k w):=by
 induction k with
 | zero => exact h
 | succ k ih => exact ih.round
def settleK : Nat → Wd → Nat
 | 0,_ => 0
 | f + 1,w => if stillW w = true then 0 else settleK f (roundW w) + 1
theorem roundN_left (k : Nat) (w : Wd) : roundN (k + 1) w = roundN k (roundW w):=by
 induction k with
 | zero => rfl
 | succ k ih => rw [roundN,ih]; rfl
theorem settle_le : ∀ (f : Nat) (w : Wd),settleK f w ≤ f
 | 0,w => Nat.le_refl _
 | f + 1,w => by
  unfold settleK
  split
  ·omega
  ·have:=settle_le f (roundW w); omega
theorem settle_still : ∀ (f : Nat) (w : Wd),stillW (roundN (settleK f w) w) = true ∨ settleK f w = f
 | 0,w => .inr rfl
 | f + 1,w => by
  unfold settleK
  split
  ·rename_i h; exact .inl h
  ·rw [roundN_left]
   rcases settle_still f (roundW w) with q | q
   ·exact .inl q
   ·exact .inr (by rw [q])
theorem settle_not : ∀ (f : Nat) (w : Wd) (k : Nat),k < settleK f w → stillW (roundN k w) = false
 | 0,w,k,h => by cases h
 | f + 1,w,k,h => by
  unfold settleK at h
  split at h
  ·cases h
  ·rename_i hs
   cases k with
   | zero => simpa [roundN] using hs
   | succ k => rw [roundN_left]; exact settle_not f (roundW w) k (by omega)
end Go.Proofs.YtgaofjiidedcbacGreat.mth
namespace Go.Proofs.YtgaofjiidedcbacGreat.ab
open Go Go.RowKit
open mth
theorem sl_snoc (l : List Sp) (s : Sp) : encSl (l ++ [s]) = encSl l ++ [aD (encSp s)]:=by simp [encSl]
theorem only_snoc (l : List Sp) (s : Sp) (t : Int) : onlyW (l ++ [s]) t = onlyW l t ++ (if mineB t s = true then [s] else []):=by
 unfold onlyW
 rw [List.filter_append]
 congr 1
 cases h : mineB t s with
 | true => rw [List.filter_cons_of_pos h]; rfl
 | false => rw [List.filter_cons_of_neg (by rw [h]; simp)]; rfl
def CFPlay (f : Nat) : Prop:=(∀ (n : Int) (l : List Sp),l.length ≤ 9223372036854775807 → n < 1 ∨ 3 < n → Told Tryz.prog f [vI n,sD 7 (encSl l)] [aD (encWd ⟨[],0⟩),sD 1 [],vI 3]) ∧
 (∀ (n : Nat) (l : List Sp),1 ≤ n ∧ n ≤ 3 → l.length ≤ 9223372036854775807 → 160 < l.length → Told Tryz.prog f [vI n,sD 7 (encSl l)] [aD (encWd ⟨[],0⟩),sD 1 [],vI 5]) ∧
 (∀ (n : Nat) (l : List Sp),1 ≤ n ∧ n ≤ 3 → l.length ≤ 160 → Told Tryz.prog f [vI n,sD 7 (encSl l)] [aD (encWd (runW (newW n) l).1),sD 1 ((runW (newW n) l).2.map vI),vI 0])
def CFRound (f : Nat) : Prop:=∀ w,GoodW w → w.ticks ≤ 1000000 → Told Tryz.prog f [aD (encWd w)] [aD (encWd (roundW w))]
def CFSettle (f : Nat) : Prop:=∀ w,GoodW w → w.ticks ≤ 100000 → Told Tryz.prog f [aD (encWd w)] [aD (encWd (roundN (settleK 200 w) w)),vI (settleK 200 w)]
set_option maxRecDepth 100000
def Q87r0 : IC:=cReg Tryz.prog [⟨some 0,none,iMov 0 (.const (.bool false)) true⟩] [] []
def Q87r1 : IC:=cReg Tryz.prog [⟨some 7,none,iRow 7 5 1 [(.const (.int .u8 97))]⟩,⟨some 8,none,iCst 8 7⟩,⟨some 9,none,iBld 9 [zI,zS] [(1,1)] [(.tmp 8)]⟩,⟨some 10,none,iBld 10 [zI,zI,zI,zI,zF,zI,zS] [(0,1),(1,1),(5,2)] [(.const (.int .i64 2)),(.const (.int .i64 1)),(.tmp 9)]⟩,xR 11 45 7 10,⟨some 12,none,iCall 12 7 [(.const (.int .i64 2)),(.tmp 11)]⟩,xM 6 12,xE 13 6 0,xE 14 6 1,xE 15 6 2,⟨some 1,none,iAlo 1 [zS,zI]⟩,xS 2 1 13,xT 2 14,xT 3 15] [1,2,3] [1]
def Q87r2 : IC:=cReg Tryz.prog [xA 17 2 1,xV1 18 13 17,xM 16 18,xE 19 16 0,xE 20 16 1,⟨some 4,none,iAlo 4 [zS,zI]⟩,xS 2 4 19,xT 5 20] [1,2,3,4,5] [1,4]
def Q87r3_0 : IC:=cReg Tryz.prog [xM 21 3,xC 22 .eql 21 0,xM 23 22,xG 23 true (xM 24 2),xG 23 true (xN 25 24),xG 23 true (xC 26 .eql 25 1),xQ 27 23 26,xM 28 27,xG 28 true (xM 29 5),xG 28 true (xC 30 .gtr 29 1)] [1,4,28,30] [1,4]
def Q87r3_1 : IC:=cReg Tryz.prog [xQ 31 28 30,xM 32 31,xG 32 true (xF 33 0 4),xG 32 true (xL 34 1 33),⟨some 35,some (32,true),iIaS 35 17 (.tmp 34) (.const (.int .i64 1))⟩,xG 32 true (xF 36 7 35),xG 32 true (xF 37 6 36),xG 32 true (xL 38 1 37),xG 32 true (xN 39 38),xG 32 true (xC 40 .eql 39 1)] [1,4,32,40] [1,4]
def Q87r3_2 : IC:=cReg Tryz.prog [xQ 41 32 40,xM 42 41,xG 42 true (xF 43 0 4),xG 42 true (xL 44 1 43),⟨some 45,some (42,true),iIaS 45 17 (.tmp 44) (.const (.int .i64 1))⟩,xG 42 true (xF 46 0 45),xG 42 true (xF 47 5 46),xG 42 true (xL 48 1 47),xG 42 true (xN 49 48),xG 42 true (xC 50 .eql 49 0)] [1,42,50] [1]
def Q87r3_3 : IC:=cReg Tryz.prog [xQ 51 42 50,xM 52 51,xG 52 true (xA 53 2 1),xG 52 true (xV1 54 11 53),⟨some 55,some (52,true),iFld 55 1 1 false (.tmp 54)⟩,xG 52 true (xC 56 .eql 55 1),xQ 57 52 56,xT 0 57] [0] []
def Q87r3 : IC:=(cSeq Q87r3_0 (cSeq Q87r3_1 (cSeq Q87r3_2 Q87r3_3)))
def w12_alive : IC:=(cSeq Q87r0 (cSeq Q87r1 (cSeq Q87r2 (cSeq Q87r3 cRet))))
theorem told_w12_alive {args r : List D} (hl : args.length = 0) (h : w12_alive (start args) (fin [(0,none)] r)) : Told Tryz.prog 15 args r :=
 told_of follows Tryz.func15 rfl (an:=[([],[],[],[]),([],[1,2,3],[1],[]),([],[1,2,3,4,5],[1,4],[]),([(10,[1,4,28,30],[1,4]),(10,[1,4,32,40],[1,4]),(10,[1,42,50],[1])],[0],[],[])]) (by kernel_rfl) (by kernel_rfl) (by rw [hl]; decide +kernel) h
def afP : Sp:=⟨2,1,0,0,false,⟨0,[97]⟩⟩
def afW : Wd:=(runW (newW 2) [afP]).1
theorem af_k : settleK 200 afW = 5:=by decide +kernel
theorem af_told : ∃ l,(roundN 5 afW).lanes[1]? = some l ∧ l.r.told.length = 1 ∧ l.s.flight.length = 0:=⟨(roundN 5 afW).lanes.getD 1 zeroL,by rw [List.getD_eq_getElem?_getD,List.getElem?_eq_getElem (by decide +kernel)]; rfl,by decide +kernel,by decide +kernel⟩
theorem encB_97f : encB 97 = vD (.int .u8 97):=rfl
theorem alive12_told (hP : CFPlay 7) (hR : CFRound 11) (hT : CFSettle 13) : Told Tryz.prog 15 [] [vB true]:=by
 refine told_w12_alive rfl ?_
 have g0 : GoodW afW:=by
  have:=(good_run (good_new (by decide : 1 ≤ 2 ∧ 2 ≤ 3)) [afP] 1).1
  exact this
 have h1:=hP.2.2 2 [afP] (by decide) (by decide)
 have h2:=hT afW g0 (by decide)
 have h3:=hR afW g0 (by decide)
 rw [show (runW (newW 2) [afP]).1 = afW from rfl,show (runW (newW 2) [afP]).2 = [0] from rfl] at h1
 rw [af_k] at h2
 obtain ⟨l,q1,q2,q3⟩:=af_told
 have r1:=at_ll q1
 have t1 : (roundW afW).ticks = 1:=by rw [round_ticks]; rfl
 have n1 : (((roundN 5 afW).lanes.length : Nat) : Int) = 2:=by rw [roundN_len]; rfl
 have z1 : ((l.r.told.length : Nat) : Int) = 1:=by rw [q2]; rfl
 have z2 : ((l.s.flight.length : Nat) : Int) = 0:=by rw [q3]; rfl
 have cn : ((2 : Nat) : Int) = 2:=rfl
 have c4 : ((5 : Nat) : Int) = 5:=rfl
 rw [cn] at h1
 rw [c4] at h2
 generalize roundN 5 afW = x at *
 generalize roundW afW = y at *
 generalize afW = w at *
 simp only [encWd,encSl,encSp,afP,encB_97f,encLn,List.map_cons,List.map_nil] at h1 h2 h3 r1
 rw [t1] at h3
 refine wk0 ?_
 refine cg [[aD (encWd w),sD 1 [vI 0],vI 0]] @encWd.eq_1 ?_ ?_
 ·refine ⟨⟨_,?_,h1⟩,trivial⟩
  repeat' (first | exact vals_nil | exact row_nil | exact es_nil | exact CVLe.refl _ | exact LfLe.refl _ | exact LfLe.nil _ | exact EsLe.refl _ | refine vals_cons ?_ ?_ | refine row_cons ?_ ?_ | refine es_cons ?_ ?_ | refine EsLe.app ?_ ?_ | refine CVLe.row ?_ | refine CVLe.leafV ?_ | refine CVLe.leafS ?_ | refine LfLe.s ?_)
 refine wk0 ?_
 refine cg [[aD (encWd x),vI 5]] @encWd.eq_1 ?_ ?_
 ·exact obl_cons h2 obl_nil
 refine wk (an10 @n1 @r1 @z1 @z2 @len_ll @len_ml @len_cl @zcons @znil @Int.toNat_one) ?_
 refine cg0 [[aD [sD 17 (encLl y.lanes),vI 1]]] ?_ ?_
 ·exact obl_cons h3 obl_nil
 refine wk0 ?_
 exact ValsLe.refl _
def onS (x : Option (Ev × Option (Nat × List D × List D))) (K : Ev → Prop) : Prop:=∃ ev,x = some (ev,none) ∧ K ev
def onE (x : St) (f : Foot) (K : St → Foot → Prop) : Prop:=K x f
def onK (x : Option St) (K : St → Prop) : Prop:=∃ st,x = some st ∧ K st
section
variable {P : Program} {st st' : St} {Q : AX → St → Prop} {K : St → Prop} {ops : List IOp} {anc : List (List Nat)} {lv lb : List Nat} {fs : List Foot}
theorem on_s {ev : Ev} {K : Ev → Prop} (h : K ev) : onS (some (ev,none)) K:=⟨ev,rfl,h⟩
theorem on_e {f : Foot} {K : St → Foot → Prop} (h : K st f) : onE st f K:=h
theorem on_k (h : K st) : onK (some st) K:=⟨st,rfl,h⟩
end
def goC (P : Program) (fs : List Foot) (rs : List (List D)) (ops : List IOp) (anc : List (List Nat)) (lv lb : List Nat) (st : St) (K : St → Prop) : Prop:=∃ st' fs' st'' q,evalD ops rs st = some (st',fs',q) ∧ st'.keep lv lb = some st'' ∧ pairsOk anc (fs ++ fs') = true ∧ Obl P q ∧ K st''
def onC (x : Option (Ev × Option (Nat × List D × List D))) (K : Ev → Nat → List D → List D → Prop) : Prop:=∃ ev f cs ro,x = some (ev,some (f,cs,ro)) ∧ K ev f cs ro
section
variable {P : Program} {st st' : St} {Q : AX → St → Prop} {K : St → Prop} {ops : List IOp} {anc : List (List Nat)} {lv lb : List Nat} {fs : List Foot}
theorem aw_oneC (rs : List (List D)) (h : goC P [] rs ops anc lv lb st (Q none)) : cRegD P ops anc lv lb st Q:=by
 obtain ⟨st1,fs1,st2,q,h1,h2,h3,h5,h4⟩:=h
 refine ⟨rs,st2,q,?_,h5,h4⟩
 rw [List.nil_append] at h3
 simp only [evalRD,h1,h2,h3]
theorem goC_op {rs : List (List D)} {o : IOp} (h : onS (stepI o st (rs.headD [])) fun ev => onE (st.app ev) ev.fp fun st' f => goC P (fs ++ [f]) rs ops anc lv lb st' K) : goC P fs rs (o :: ops) anc lv lb st K:=by
 obtain ⟨ev,he,st1,fs1,st2,q,h1,h2,h3,h5,h4⟩:=h
 refine ⟨st1,ev.fp :: fs1,st2,q,?_,h2,?_,h5,h4⟩
 ·simp only [evalD,he,h1]
 ·rw [List.append_assoc] at h3
  exact h3
theorem goC_call {rs : List (List D)} {o : IOp} (h : onC (stepI o st (rs.headD [])) fun ev f cs ro => Obl P [(f,cs,ro)] ∧ onE (st.app ev) ev.fp fun st' f => goC P (fs ++ [f]) rs.tail ops anc lv lb st' K) : goC P fs rs (o :: ops) anc lv lb st K:=by
 obtain ⟨ev,f,cs,ro,he,hO,st1,fs1,st2,q,h1,h2,h3,h5,h4⟩:=h
 refine ⟨st1,ev.fp :: fs1,st2,(f,cs,ro) :: q,?_,h2,?_,⟨hO.1,h5⟩,h4⟩
 ·simp only [evalD,he,h1]
 ·rw [List.append_assoc] at h3
  exact h3
theorem goC_end {rs : List (List D)} (hp : pairsOk anc fs = true) (h : onK (st.keep lv lb) K) : goC P fs rs [] anc lv lb st K:=by
 obtain ⟨st2,h2,h4⟩:=h
 exact ⟨st,[],st2,[],rfl,h2,by rw [List.append_nil]; exact hp,trivial,h4⟩
theorem on_c {ev : Ev} {f : Nat} {cs ro : List D} {K : Ev → Nat → List D → List D → Prop} (h : K ev f cs ro) : onC (some (ev,some (f,cs,ro))) K:=⟨ev,f,cs,ro,rfl,h⟩
end
set_option maxRecDepth 100000
def Q86r0 : IC:=cReg Tryz.prog [⟨some 8,none,iMov 8 (.const (.bool false)) true⟩] [0,1,2,3] []
def Q86r1 : IC:=cReg Tryz.prog [⟨some 16,none,iCall 16 15 []⟩,xO 17 16] [0,1,2,3,17] []
def Q86r2 : IC:=cReg Tryz.prog [⟨some 8,none,iMov 8 (.const (.bool false)) true⟩] [8] []
def Q86c1a : IC:=(cSeq Q86r2 cRet)
def Q86c1 : IC:=cCond (.tmp 17) Q86c1a cSkip
def Q86r3_0 : IC:=cReg Tryz.prog [xM 18 0,xC 19 .lss 18 1,xM 20 19,xG 20 false (xM 21 0),xG 20 false (xC 22 .gtr 21 3),xP 23 20 22,xM 24 23,xG 24 false (xM 25 2),xG 24 false (xC 26 .lss 25 0),xP 27 24 26] [0,1,2,3,27] []
def Q86r3_1 : IC:=cReg Tryz.prog [xM 28 27,xG 28 false (xM 29 2),xG 28 false (xM 30 0),xG 28 false (xB 31 .geq 29 30),xP 32 28 31,xM 33 32,xG 33 false (xM 34 3),xG 33 false (xC 35 .lss 34 0),xP 36 33 35,xM 37 36] [0,1,2,3,37] []
def Q86r3_2 : IC:=cReg Tryz.prog [xG 37 false (xM 38 3),xG 37 false (xC 39 .gtr 38 40),xP 40 37 39,xM 41 40,xG 41 false (xM 42 1),xG 41 false (xN 43 42),xG 41 false (xC 44 .gtr 43 160),xP 45 41 44] [0,1,2,3,45] []
def Q86r3 : IC:=(cSeq Q86r3_0 (cSeq Q86r3_1 Q86r3_2))
def Q86r4 : IC:=cReg Tryz.prog [⟨some 8,none,iMov 8 (.const (.bool true)) true⟩] [8] []
def Q86c2a : IC:=(cSeq Q86r4 cRet)
def Q86c2 : IC:=cCond (.tmp 45) Q86c2a cSkip
def Q86r5 : IC:=cReg Tryz.prog [⟨some 9,none,iMov 9 (.const (.slice none 0 0)) true⟩] [0,1,2,3,9] []
def Q86r6 : IC:=cReg Tryz.prog [xM 46 1,xN 47 46,⟨some 48,none,iMov 48 (.const (.int .i64 0)) false⟩] [0,1,2,3,9,46,47,48] []
def Q86r7 : IC:=cReg Tryz.prog [xB 49 .lss 48 47] [0,1,2,3,9,46,47,48,49] []
def Q86c5 : IC:=cCond (.tmp 49) cSkip (cExit 0)
def Q86r8 : IC:=cReg Tryz.prog [xI 50 7 46 48,xA 51 7 50,⟨some 11,none,iAlo 11 [zI,zI,zI,zI,zF,zI,zS]⟩,xS 7 11 51] [0,1,2,3,9,11,46,47,48] [11]
def Q86r9 : IC:=cReg Tryz.prog [xF 52 0 11,xL 53 1 52,xC 54 .eql 53 1,xM 55 54,xG 55 false (xF 56 1 11),xG 55 false (xL 57 1 56),xG 55 false (xM 58 2),xG 55 false (xB 59 .eql 57 58),xP 60 55 59] [0,1,2,3,9,11,46,47,48,60] [11]
def Q86r10 : IC:=cReg Tryz.prog [xT 61 9,xA 62 7 11,xR 63 45 7 62,xW 64 45 7 72 61 63,xT 9 64] [0,1,2,3,9,46,47,48] []
def Q86c7 : IC:=cCond (.tmp 60) Q86r10 cSkip
def Q86b6 : IC:=cBlock 1 (cSeq Q86r8 (cSeq Q86r9 Q86c7))
def Q86r11 : IC:=cReg Tryz.prog [xC 65 .add 48 1,xM 48 65] [0,1,2,3,9,46,47,48] []
def Q86l4a : IC:=(cSeq Q86r7 (cSeq Q86c5 (cSeq Q86b6 Q86r11)))
def Q86l4 : IC:=cLoop Q86l4a
def Q86b3 : IC:=cBlock 0 Q86l4
def Q86r12 : IC:=cReg Tryz.prog [xM 67 0,xM 68 1,xV2 69 9 67 68,xM 66 69,xE 70 66 0,xE 71 66 1,⟨some 12,none,iAlo 12 [zS,zI]⟩,xS 2 12 70,xT 13 71] [0,2,3,9,12] [12]
def Q86r13 : IC:=cReg Tryz.prog [xM 73 0,xM 74 9,xV2 75 9 73 74,xM 72 75,xE 76 72 0,xE 77 72 1,⟨some 14,none,iAlo 14 [zS,zI]⟩,xS 2 14 76,xT 15 77] [0,2,3,12,14] [12,14]
def Q86r14 : IC:=cReg Tryz.prog [xM 78 3,⟨some 79,none,iMov 79 (.const (.int .i64 0)) false⟩] [0,2,12,14,78,79] [12,14]
def Q86r15 : IC:=cReg Tryz.prog [xB 80 .lss 79 78] [0,2,12,14,78,79,80] [12,14]
def Q86c10 : IC:=cCond (.tmp 80) cSkip (cExit 2)
def Q86r16 : IC:=cRegD Tryz.prog [xA 81 2 12,xV1 82 11 81,xA 83 2 14,xV1 84 11 83,xS 2 12 82,xS 2 14 84] [[],[0],[],[2,1,0],[1,3,0,2],[3,4,0,1,2]] [0,2,12,14,78,79] [12,14]
def Q86b11 : IC:=cBlock 3 Q86r16
def Q86r17 : IC:=cReg Tryz.prog [xC 85 .add 79 1,xM 79 85] [0,2,12,14,78,79] [12,14]
def Q86l9a : IC:=(cSeq Q86r15 (cSeq Q86c10 (cSeq Q86b11 Q86r17)))
def Q86l9 : IC:=cLoop Q86l9a
def Q86b8 : IC:=cBlock 2 Q86l9
def Q86r18 : IC:=cRegD Tryz.prog [xF 86 0 12,xL 87 1 86,xN 88 87,xM 89 0,xB 90 .eql 88 89,xM 91 90,xG 91 true (xF 92 0 14),xG 91 true (xL 93 1 92),xG 91 true (xN 94 93),xG 91 true (xM 95 0),xG 91 true (xB 96 .eql 94 95),xQ 97 91 96,xM 98 97,xG 98 true (xF 99 0 12),xG 98 true (xL 100 1 99),xG 98 true (xM 101 2),xG 98 true (xI 102 17 100 101),xG 98 true (xA 103 17 102),xG 98 true (xF 104 0 14),xG 98 true (xL 105 1 104),xG 98 true (xM 106 2),xG 98 true (xI 107 17 105 106),xG 98 true (xA 108 17 107),xG 98 true (xV2 109 18 103 108),xQ 110 98 109,xT 8 110] [[],[0],[1,0],[],[2,3,1,0],[4,2,3,1,0],[5,4,2,3,1,0],[6,5,4,2,3,1,0],[7,5,6,4,2,3,1,0],[5,4,2,3,1,0],[8,9,5,7,6,4,2,3,1,0],[5,10,4,2,3,1,0,8,9,7,6],[11,5,10,4,2,3,1,0,8,9,7,6],[12,11,5,10,4,2,3,1,0,8,9,7,6],[13,12,11,5,10,4,2,3,1,0,8,9,7,6],[12,11,5,10,4,2,3,1,0,8,9,7,6],[14,15,12,13,11,5,10,4,2,3,1,0,8,9,7,6],[16,12,14,15,13,11,5,10,4,2,3,1,0,8,9,7,6],[12,11,5,10,4,2,3,1,0,8,9,7,6],[18,12,11,5,10,4,2,3,1,0,8,9,7,6],[12,11,5,10,4,2,3,1,0,8,9,7,6],[19,20,12,18,11,5,10,4,2,3,1,0,8,9,7,6],[21,12,19,20,18,11,5,10,4,2,3,1,0,8,9,7,6],[17,22,12,16,14,15,13,11,5,10,4,2,3,1,0,8,9,7,6,21,19,20,18],[12,23,11,5,10,4,2,3,1,0,8,9,7,6,17,22,16,14,15,13,21,19,20,18],[24,23,0,1,2,3,4,5,6,7,8,9,10,11,12,13,14,15,16,17,18,19,20,21,22]] [8] []
def w12_FairAlone : IC:=(cSeq Q86r0 (cSeq (cSeq Q86r1 Q86c1) (cSeq (cSeq Q86r3 Q86c2) (cSeq Q86r5 (cSeq (cSeq Q86r6 Q86b3) (cSeq Q86r12 (cSeq Q86r13 (cSeq (cSeq Q86r14 Q86b8) (cSeq Q86r18 cRet)))))))))
theorem told_w12_FairAlone {args r : List D} (hl : args.length = 4) (h : w12_FairAlone (start args) (fin [(8,none)] r)) : Told Tryz.prog 6 args r :=
 told_of follows Tryz.func6 rfl (an:=[([],[0,1,2,3],[],[]),([],[0,1,2,3,17],[],[]),([],[8],[],[]),([(10,[0,1,2,3,27],[]),(10,[0,1,2,3,37],[])],[0,1,2,3,45],[],[]),([],[8],[],[]),([],[0,1,2,3,9],[],[]),([],[0,1,2,3,9,46,47,48],[],[]),([],[0,1,2,3,9,46,47,48,49],[],[]),([],[0,1,2,3,9,11,46,47,48],[11],[]),([],[0,1,2,3,9,11,46,47,48,60],[11],[]),([],[0,1,2,3,9,46,47,48],[],[]),([],[0,1,2,3,9,46,47,48],[],[]),([],[0,2,3,9,12],[12],[]),([],[0,2,3,12,14],[12,14],[]),([],[0,2,12,14,78,79],[12,14],[]),([],[0,2,12,14,78,79,80],[12,14],[]),([],[0,2,12,14,78,79],[12,14],[]),([],[0,2,12,14,78,79],[12,14],[]),([],[8],[],[])]) (by kernel_rfl) (by kernel_rfl) (by rw [hl]; decide +kernel) h
end Go.Proofs.YtgaofjiidedcbacGreat.ab
