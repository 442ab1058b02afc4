import Derived.Test.YtgaofjiidedcbadM32
import Derived.Test.YtgaofjiidedcbadM29
import Derived.Test.YtgaofjiidedcbadPLane3
import Derived.Test.YtgaofjiidedcbadM20
import Derived.Test.YtgaofjiidedcbadProg
set_option maxHeartbeats 16000000
set_option linter.unusedVariables false
set_option linter.unusedSimpArgs false
namespace Go.Proofs.Ytgaofjiidedcbad.mth
theorem KInv.lane {p : List Ms} {l : Ln} (h : KInv p l) (s : Sp) (h6 : s.kind ≠ 6) : KInv (p ++ (if (laneW l s).2 = 0 ∧ s.kind = 2 then [s.msg] else [])) (laneW l s).1:=by
 unfold laneW
 by_cases h1 : s.kind = 1
 ·rw [if_pos h1,if_neg (by omega),List.append_nil]
  exact h.speak
 rw [if_neg h1]
 by_cases h2 : s.kind = 2
 ·rw [if_pos h2]
  have:=h.put s.msg
  by_cases he : putE l.s s.msg = 0
  ·rw [if_pos he] at this
   rw [if_pos ⟨he,h2⟩]
   exact this
  ·rw [if_neg he] at this
   rw [if_neg (fun w => he w.1),List.append_nil]
   exact this
 ·rw [if_neg h2,if_neg (fun w => h2 w.2),List.append_nil]
  exact h.packet _ _ _ _ h6
def WKnow (p : Int → List Ms) (w : Wd) : Prop:=∀ (j : Nat) (x : Ln),w.lanes[j]? = some x → KInv (p j) x
theorem WKnow.step {p : Int → List Ms} {w : Wd} (h : WKnow p w) (s : Sp) (h6 : s.kind ≠ 6) : WKnow (fun t => p t ++ (if (doW w s).2 = 0 ∧ s.kind = 2 ∧ s.tenant = t then [s.msg] else [])) (doW w s).1:=by
 unfold doW
 split
 ·intro j x hx
  simp only
  rw [if_neg (by simp),List.append_nil]
  exact h j x hx
 split
 ·intro j x hx
  simp only
  rw [if_neg (by simp),List.append_nil]
  exact h j x hx
 ·rename_i h1 h2
  intro j x hx
  simp only at hx ⊢
  have hlt : (whoW w s).toNat < w.lanes.length:=by omega
  have hg : w.lanes.getD (whoW w s).toNat zeroL = w.lanes[(whoW w s).toNat]:=by rw [List.getD_eq_getElem?_getD,List.getElem?_eq_getElem hlt,Option.getD_some]
  rw [hg] at hx ⊢
  have hl:=h (whoW w s).toNat _ (List.getElem?_eq_getElem hlt)
  by_cases hj : (whoW w s).toNat = j
  ·subst hj
   rw [List.getElem?_set_self (by omega)] at hx
   cases hx
   have:=hl.lane s h6
   by_cases hk : (laneW w.lanes[(whoW w s).toNat] s).2 = 0 ∧ s.kind = 2
   ·have ht : s.tenant = ((whoW w s).toNat : Int):=by
     have : whoW w s = s.tenant:=by unfold whoW; rw [if_neg (by omega)]
     omega
    rw [if_pos hk] at this
    rw [if_pos ⟨hk.1,hk.2,ht⟩]
    exact this
   ·rw [if_neg hk] at this
    rw [if_neg (fun w => hk ⟨w.1,w.2.1⟩)]
    exact this
  ·rw [List.getElem?_set_ne hj] at hx
   rw [if_neg,List.append_nil]
   ·exact h j x hx
   ·rintro ⟨w1,w2,w3⟩
    have : whoW w s = s.tenant:=by unfold whoW; rw [if_neg (by omega)]
    omega
def tickS : Sp:=⟨1,0,0,0,false,⟨0,[]⟩⟩
def drainW (w : Wd) : Wd:=⟨w.lanes.map drainL,w.ticks⟩
def roundW (w : Wd) : Wd:=(doW (drainW w) tickS).1
def roundN : Nat → Wd → Wd
 | 0,w => w
 | k + 1,w => roundW (roundN k w)
def stillW (w : Wd) : Bool:=w.lanes.all idleL
theorem GoodL.there_all : ∀ (q : List (List UInt8)) {l : Ln},GoodL l → l.there = q → GoodL { l with r:=q.foldl hearP l.r,there:=[] }
 | [],l,h,e => by
  obtain ⟨s,r,t,b⟩:=l
  simp only at e
  subst e
  exact h
 | x :: q,l,h,e => by
  have h1:=h.come 0 false
  rw [come_there e] at h1
  exact GoodL.there_all q h1 rfl
theorem GoodL.back_all : ∀ (q : List (List UInt8)) {l : Ln},GoodL l → l.back = q → GoodL { l with s:=q.foldl hearQ l.s,back:=[] }
 | [],l,h,e => by
  obtain ⟨s,r,t,b⟩:=l
  simp only at e
  subst e
  exact h
 | x :: q,l,h,e => by
  have h1:=h.come 0 true
  rw [come_back e] at h1
  exact GoodL.back_all q h1 rfl
theorem GoodL.drain {l : Ln} (h : GoodL l) : GoodL (drainL l):=GoodL.back_all l.back (GoodL.there_all l.there h rfl) rfl
theorem GoodW.drain {w : Wd} (h : GoodW w) : GoodW (drainW w):=⟨by simpa [drainW] using h.n,h.t,fun l hl => by
 obtain ⟨x,hx,e⟩:=List.mem_map.1 hl
 rw [← e]; exact (h.l x hx).drain⟩
theorem GoodW.round {w : Wd} (h : GoodW w) : GoodW (roundW w):=h.drain.step tickS
theorem round_ticks (w : Wd) : (roundW w).ticks = w.ticks + 1:=by
 unfold roundW
 rw [doW_ticks,if_neg (by decide)]
 rfl
theorem round_len (w : Wd) : (roundW w).lanes.length = w.lanes.length:=by
 unfold roundW
 rw [do_len]
 simp [drainW]
theorem roundN_ticks (k : Nat) (w : Wd) : (roundN k w).ticks = w.ticks + k:=by
 induction k with
 | zero => simp [roundN]
 | succ k ih => rw [roundN,round_ticks,ih]; omega
theorem roundN_len (k : Nat) (w : Wd) : (roundN k w).lanes.length = w.lanes.length:=by
 induction k with
 | zero => rfl
 | succ k ih => rw [roundN,round_len,ih]
theorem GoodW.rounds {w : Wd} (h : GoodW w) (k : Nat) : GoodW (roundN k w):=by
 induction k with
 | zero => exact h
 | succ k ih => exact ih.round
theorem round_lane (w : Wd) (j : Nat) : (roundW w).lanes[j]? = (w.lanes[j]?).map fun x => if w.ticks.tmod w.lanes.length = j then speakL (drainL x) else drainL x:=by
 unfold roundW
 rw [doW_lane]
 have hw : whoW (drainW w) tickS = w.ticks.tmod w.lanes.length:=by
  unfold whoW
  rw [if_pos (by rfl)]
  show w.ticks.tmod ((w.lanes.map drainL).length : Nat) = _
  rw [List.length_map]
 have hl : (drainW w).lanes[j]? = (w.lanes[j]?).map drainL:=by simp [drainW]
 rw [hw,hl]
 by_cases e : w.ticks.tmod w.lanes.length = j
 ·rw [if_neg (by intro q; rcases q with q | q; exact absurd q (by decide); exact q e)]
  cases w.lanes[j]? with
  | none => rfl
  | some x =>
   simp only [Option.map_some,e,if_true]
   rfl
 ·rw [if_pos (.inr e)]
  cases w.lanes[j]? with
  | none => rfl
  | some x => simp only [Option.map_some,e,if_false]
theorem Sim.round {t : Nat} {w x : Wd} (h : Sim t w x) : Sim t (roundW w) (roundW x):=by
 refine ⟨by rw [round_ticks,round_ticks,h.k],by rw [round_len,round_len,h.n],?_⟩
 rw [round_lane,round_lane,h.l,h.k,h.n]
theorem Sim.rounds {t : Nat} {w x : Wd} (h : Sim t w x) (k : Nat) : Sim t (roundN k w) (roundN k x):=by
 induction k with
 | zero => exact h
 | succ k ih => exact ih.round
theorem WKnow.round {p : Int → List Ms} {w : Wd} (h : WKnow p w) : WKnow p (roundW w):=fun j y hy => by
 rw [round_lane] at hy
 cases hx : w.lanes[j]? with
 | none => rw [hx] at hy; cases hy
 | some x =>
  rw [hx] at hy
  simp only [Option.map_some,Option.some.injEq] at hy
  rw [← hy]
  split
  ·exact (h j x hx).drain.speak
  ·exact (h j x hx).drain
theorem WKnow.rounds {p : Int → List Ms} {w : Wd} (h : WKnow p w) (k : Nat) : WKnow p (roundN k w):=by
 induction k with
 | zero => exact h
 | succ k ih => exact ih.round
def settleK : Nat → Wd → Nat
 | 0,_ => 0
 | f + 1,w => if stillW w = true then 0 else settleK f (roundW w) + 1
theorem roundN_left (k : Nat) (w : Wd) : roundN (k + 1) w = roundN k (roundW w):=by
 induction k with
 | zero => rfl
 | succ k ih => rw [roundN,ih]; rfl
theorem settle_le : ∀ (f : Nat) (w : Wd),settleK f w ≤ f
 | 0,w => Nat.le_refl _
 | f + 1,w => by
  unfold settleK
  split
  ·omega
  ·have:=settle_le f (roundW w); omega
theorem settle_still : ∀ (f : Nat) (w : Wd),stillW (roundN (settleK f w) w) = true ∨ settleK f w = f
 | 0,w => .inr rfl
 | f + 1,w => by
  unfold settleK
  split
  ·rename_i h; exact .inl h
  ·rw [roundN_left]
   rcases settle_still f (roundW w) with q | q
   ·exact .inl q
   ·exact .inr (by rw [q])
theorem settle_not : ∀ (f : Nat) (w : Wd) (k : Nat),k < settleK f w → stillW (roundN k w) = false
 | 0,w,k,h => by cases h
 | f + 1,w,k,h => by
  unfold settleK at h
  split at h
  ·cases h
  ·rename_i hs
   cases k with
   | zero => simpa [roundN] using hs
   | succ k => rw [roundN_left]; exact settle_not f (roundW w) k (by omega)
end Go.Proofs.Ytgaofjiidedcbad.mth
namespace Go.Proofs.Ytgaofjiidedcbad.ab
open Go Go.RowKit
open mth
def CVOf (f : Nat) : Prop:=∀ (w : Wd) (t : Int),GoodW w → Told Try.prog f [aD (encWd w),vI t] [aD (encLn (ofW w t).1),vB (ofW w t).2]
theorem of_in {w : Wd} {t : Nat} (h : t < w.lanes.length) : ofW w t = (w.lanes.getD t zeroL,true):=by
 unfold ofW
 rw [if_neg (by omega)]
 rfl
theorem of_out {w : Wd} {t : Int} (h : t < 0 ∨ (w.lanes.length : Int) ≤ t) : ofW w t = (zeroL,false):=by
 unfold ofW
 rw [if_pos h]
theorem sl_snoc (l : List Sp) (s : Sp) : encSl (l ++ [s]) = encSl l ++ [aD (encSp s)]:=by simp [encSl]
theorem only_snoc (l : List Sp) (s : Sp) (t : Int) : onlyW (l ++ [s]) t = onlyW l t ++ (if mineB t s = true then [s] else []):=by
 unfold onlyW
 rw [List.filter_append]
 congr 1
 cases h : mineB t s with
 | true => rw [List.filter_cons_of_pos h]; rfl
 | false => rw [List.filter_cons_of_neg (by rw [h]; simp)]; rfl
def CFPlay (f : Nat) : Prop:=(∀ (n : Int) (l : List Sp),l.length ≤ 9223372036854775807 → n < 1 ∨ 3 < n → Told Try.prog f [vI n,sD 7 (encSl l)] [aD (encWd ⟨[],0⟩),sD 1 [],vI 3]) ∧
 (∀ (n : Nat) (l : List Sp),1 ≤ n ∧ n ≤ 3 → l.length ≤ 9223372036854775807 → 160 < l.length → Told Try.prog f [vI n,sD 7 (encSl l)] [aD (encWd ⟨[],0⟩),sD 1 [],vI 5]) ∧
 (∀ (n : Nat) (l : List Sp),1 ≤ n ∧ n ≤ 3 → l.length ≤ 160 → Told Try.prog f [vI n,sD 7 (encSl l)] [aD (encWd (runW (newW n) l).1),sD 1 ((runW (newW n) l).2.map vI),vI 0])
def CFRound (f : Nat) : Prop:=∀ w,GoodW w → w.ticks ≤ 1000000 → Told Try.prog f [aD (encWd w)] [aD (encWd (roundW w))]
def CFSettle (f : Nat) : Prop:=∀ w,GoodW w → w.ticks ≤ 100000 → Told Try.prog f [aD (encWd w)] [aD (encWd (roundN (settleK 200 w) w)),vI (settleK 200 w)]
structure SmallN (l : Ln) : Prop where
 q : l.s.queue.length ≤ 1048576
 f : l.s.flight.length ≤ 1048576
 e : l.r.early.length ≤ 1048576
 h : l.r.hold.length ≤ 1048576
 t : l.r.told.length ≤ 1048576
 th : l.there.length ≤ 1048576
 b : l.back.length ≤ 1048576
def CKIdle (f : Nat) : Prop:=∀ l,SmallN l → Told Try.prog f [aD (encLn l)] [vB (idleL l)]
def CKStill (f : Nat) : Prop:=∀ w : Wd,w.lanes.length ≤ 1048576 → (∀ l ∈ w.lanes,SmallN l) → Told Try.prog f [aD (encWd w)] [vB (stillW w)]
theorem good_smallN {l : Ln} (h : GoodL l) : SmallN l:=by
 have h1:=good_sizes h.r
 have h4:=h.s.q
 have h5:=h.s.f
 have h6:=h.t
 have h7:=h.b
 exact ⟨by omega,by omega,by omega,by omega,by omega,by omega,by omega⟩
end Go.Proofs.Ytgaofjiidedcbad.ab
namespace Go.Proofs.Ytgaofjiidedcbad.mth
def putSp (t : Int) (m : Ms) : Sp:=⟨2,t,0,0,false,m⟩
def msA : Ms:=⟨0,[97]⟩
theorem soon_told : ∀ n t : Nat,1 ≤ n → n ≤ 3 → t < n → ∃ l,(roundN (n + 1) (runW (newW n) [putSp t msA]).1).lanes[t]? = some l ∧ l.r.told = [msA]:=by
 intro n t h1 h2 h3
 have hn : n = 1 ∨ n = 2 ∨ n = 3:=by omega
 have key : ((roundN (n + 1) (runW (newW n) [putSp t msA]).1).lanes.getD t zeroL).r.told.map (fun m => (m.stream,m.data)) = [(0,[97])]:=by
  rcases hn with rfl | rfl | rfl
  ·obtain rfl : t = 0:=by omega
   decide +kernel
  ·rcases (by omega : t = 0 ∨ t = 1) with rfl | rfl <;> decide +kernel
  ·rcases (by omega : t = 0 ∨ t = 1 ∨ t = 2) with rfl | rfl | rfl <;> decide +kernel
 refine ⟨(roundN (n + 1) (runW (newW n) [putSp t msA]).1).lanes.getD t zeroL,getD_get (by rw [roundN_len,lenW_run]; simp [newW]; exact h3),?_⟩
 generalize ((roundN (n + 1) (runW (newW n) [putSp t msA]).1).lanes.getD t zeroL).r.told = T at key ⊢
 match T,key with
 | [m],k =>
  obtain ⟨a,b⟩:=m
  simp only [List.map_cons,List.map_nil,List.cons.injEq,Prod.mk.injEq,and_true] at k
  rw [k.1,k.2]
  rfl
 | [],k => cases k
 | _ :: _ :: _,k => simp at k
end Go.Proofs.Ytgaofjiidedcbad.mth
namespace Go.Proofs.Ytgaofjiidedcbad.ab
set_option maxRecDepth 100000
open Go Go.RowKit
def Q32r0 : IC:=cReg Try.prog [⟨some 4,none,iAlo 4 [zI,zI,zI,zI,zF,zI,zS]⟩] [0,1,4] [4]
def Q32r1 : IC:=cReg Try.prog [xM 8 1,xV1 9 22 8,xM 7 9,xE 10 7 0,xE 11 7 1,⟨some 5,none,iAlo 5 [zI,zS]⟩,xS 2 5 10,xT 6 11] [0,4,5] [4,5]
def Q32r2 : IC:=cReg Try.prog [xM 12 0,xA 13 2 5,⟨some 14,none,iBld 14 [zI,zI,zI,zI,zF,zI,zS] [(0,1),(1,1),(5,2)] [(.const (.int .i64 2)),(.tmp 12),(.tmp 13)]⟩,xS 7 4 14] [4] [4]
def lktop_put : IC:=(cSeq Q32r0 (cSeq Q32r1 (cSeq Q32r2 cRet)))
theorem told_lktop_put {args r : List D} (hl : args.length = 2) (h : lktop_put (start args) (fin [(4,some (7,true))] r)) : Told Try.prog 13 args r :=
 told_of follows Try.func13 rfl (an:=[([],[0,1,4],[4],[]),([],[0,4,5],[4,5],[]),([],[4],[4],[])]) (by kernel_rfl) (by kernel_rfl) (by rw [hl]; decide +kernel) h
def Q31r0 : IC:=cReg Try.prog [⟨some 0,none,iMov 0 (.const (.bool false)) true⟩] [] []
def Q31r1 : IC:=cReg Try.prog [⟨some 7,none,iCall 7 13 [(.const (.int .i64 0)),(.const (.string ⟨#[48,58,54,49]⟩))]⟩,⟨some 8,none,iCall 8 13 [(.const (.int .i64 1)),(.const (.string ⟨#[49,58,54,50]⟩))]⟩,⟨some 9,none,iRow 9 30 7 [(.tmp 7),(.tmp 8)]⟩,⟨some 10,none,iCall 10 9 [(.const (.int .i64 2)),(.tmp 9)]⟩,xM 6 10,xE 11 6 0,xE 12 6 1,xE 13 6 2,⟨some 1,none,iAlo 1 [zS,zI]⟩,xS 2 1 11,xT 2 12,xT 3 13] [1,3] [1]
def Q31r2 : IC:=cReg Try.prog [xA 15 2 1,xV1 16 10 15,xM 14 16,xE 17 14 0,xE 18 14 1,⟨some 4,none,iAlo 4 [zS,zI]⟩,xS 2 4 17,xT 5 18] [3,4] [4]
def Q31r3_0 : IC:=cReg Try.prog [xM 19 3,xC 20 .eql 19 0,xM 21 20,xG 21 true (xA 22 2 4),xG 21 true (xV1 23 11 22),xQ 24 21 23,xM 25 24,xG 25 true (xF 26 0 4),xG 25 true (xL 27 1 26),xG 25 true (xN 28 27)] [4,25,28] [4]
def Q31r3_1 : IC:=cReg Try.prog [xG 25 true (xC 29 .eql 28 2),xQ 30 25 29,xM 31 30,xG 31 true (xF 32 0 4),xG 31 true (xL 33 1 32),⟨some 34,some (31,true),iIaS 34 17 (.tmp 33) (.const (.int .i64 1))⟩,xG 31 true (xF 35 7 34),xG 31 true (xF 36 6 35),xG 31 true (xL 37 1 36),xG 31 true (xN 38 37),xG 31 true (xC 39 .eql 38 1),xQ 40 31 39,xT 0 40] [0] []
def Q31r3 : IC:=(cSeq Q31r3_0 Q31r3_1)
def lktop_alive : IC:=(cSeq Q31r0 (cSeq Q31r1 (cSeq Q31r2 (cSeq Q31r3 cRet))))
theorem told_lktop_alive {args r : List D} (hl : args.length = 0) (h : lktop_alive (start args) (fin [(0,none)] r)) : Told Try.prog 7 args r :=
 told_of follows Try.func7 rfl (an:=[([],[],[],[]),([],[1,3],[1],[]),([],[3,4],[4],[]),([(10,[4,25,28],[4])],[0],[],[])]) (by kernel_rfl) (by kernel_rfl) (by rw [hl]; decide +kernel) h
def Q30r0 : IC:=cReg Try.prog [⟨some 6,none,iMov 6 (.const (.bool false)) true⟩] [0,1,2] []
def Q30r1 : IC:=cReg Try.prog [⟨some 15,none,iCall 15 7 []⟩,xO 16 15] [0,1,2,16] []
def Q30r2 : IC:=cReg Try.prog [⟨some 6,none,iMov 6 (.const (.bool false)) true⟩] [6] []
def Q30c1a : IC:=(cSeq Q30r2 cRet)
def Q30c1 : IC:=cCond (.tmp 16) Q30c1a cSkip
def Q30r3_0 : IC:=cReg Try.prog [xM 17 0,xC 18 .lss 17 1,xM 19 18,xG 19 false (xM 20 0),xG 19 false (xC 21 .gtr 20 3),xP 22 19 21,xM 23 22,xG 23 false (xM 24 1),xG 23 false (xC 25 .lss 24 0),xP 26 23 25] [0,1,2,26] []
def Q30r3_1 : IC:=cReg Try.prog [xM 27 26,xG 27 false (xM 28 1),xG 27 false (xM 29 0),xG 27 false (xB 30 .geq 28 29),xP 31 27 30,xM 32 31,xG 32 false (xM 33 2),xG 32 false (xC 34 .lss 33 0),xP 35 32 34,xM 36 35,xG 36 false (xM 37 2),xG 36 false (xC 38 .gtr 37 20),xP 39 36 38] [0,1,2,39] []
def Q30r3 : IC:=(cSeq Q30r3_0 Q30r3_1)
def Q30r4 : IC:=cReg Try.prog [⟨some 6,none,iMov 6 (.const (.bool true)) true⟩] [6] []
def Q30c2a : IC:=(cSeq Q30r4 cRet)
def Q30c2 : IC:=cCond (.tmp 39) Q30c2a cSkip
def Q30r5 : IC:=cReg Try.prog [⟨some 7,none,iMov 7 (.const (.slice none 0 0)) true⟩] [0,1,2,7] []
def Q30r6 : IC:=cReg Try.prog [xM 40 2,⟨some 41,none,iMov 41 (.const (.int .i64 0)) false⟩] [0,1,7,40,41] []
def Q30r7 : IC:=cReg Try.prog [xB 42 .lss 41 40] [0,1,7,40,41,42] []
def Q30c5 : IC:=cCond (.tmp 42) cSkip (cExit 0)
def Q30r8 : IC:=cReg Try.prog [xM 43 41,xT 8 43] [0,1,7,8,40,41] []
def Q30r9 : IC:=cReg Try.prog [xM 44 8,xM 45 0,xB 46 .rem 44 45,xT 9 46] [0,1,7,9,40,41] []
def Q30r10 : IC:=cReg Try.prog [xM 47 9,xM 48 1,xB 49 .neq 47 48] [0,1,7,9,40,41,49] []
def Q30r11 : IC:=cReg Try.prog [xT 50 7,xM 51 9,⟨some 52,none,iCall 52 13 [(.tmp 51),(.const (.string ⟨#[50,58,102,102,102,102]⟩))]⟩,xR 53 30 7 52,xW 54 30 7 72 50 53,xT 7 54] [0,1,7,40,41] []
def Q30c7 : IC:=cCond (.tmp 49) Q30r11 cSkip
def Q30b6 : IC:=cBlock 1 (cSeq Q30r8 (cSeq Q30r9 (cSeq Q30r10 Q30c7)))
def Q30r12 : IC:=cReg Try.prog [xC 55 .add 41 1,xM 41 55] [0,1,7,40,41] []
def Q30l4a : IC:=(cSeq Q30r7 (cSeq Q30c5 (cSeq Q30b6 Q30r12)))
def Q30l4 : IC:=cLoop Q30l4a
def Q30b3 : IC:=cBlock 0 Q30l4
def Q30r13_0 : IC:=cReg Try.prog [xM 57 0,xT 58 7,xM 59 1,⟨some 60,none,iCall 60 13 [(.tmp 59),(.const (.string ⟨#[48,58,54,49]⟩))]⟩,xR 61 30 7 60,xW 62 30 7 72 58 61,xV2 63 9 57 62,xM 56 63,xE 64 56 0,xE 65 56 1] [0,1,56,64,65] []
def Q30r13_1 : IC:=cReg Try.prog [xE 66 56 2,⟨some 10,none,iAlo 10 [zS,zI]⟩,xS 2 10 64,xT 11 65,xT 12 66] [0,1,10,12] [10]
def Q30r13 : IC:=(cSeq Q30r13_0 Q30r13_1)
def Q30r14 : IC:=cReg Try.prog [xM 67 0,xC 68 .add 67 1,⟨some 69,none,iMov 69 (.const (.int .i64 0)) false⟩] [1,10,12,68,69] [10]
def Q30r15 : IC:=cReg Try.prog [xB 70 .lss 69 68] [1,10,12,68,69,70] [10]
def Q30c10 : IC:=cCond (.tmp 70) cSkip (cExit 2)
def Q30r16 : IC:=cReg Try.prog [xA 71 2 10,xV1 72 17 71,xS 2 10 72] [1,10,12,68,69] [10]
def Q30b11 : IC:=cBlock 3 Q30r16
def Q30r17 : IC:=cReg Try.prog [xC 73 .add 69 1,xM 69 73] [1,10,12,68,69] [10]
def Q30l9a : IC:=(cSeq Q30r15 (cSeq Q30c10 (cSeq Q30b11 Q30r17)))
def Q30l9 : IC:=cLoop Q30l9a
def Q30b8 : IC:=cBlock 2 Q30l9
def Q30r18 : IC:=cReg Try.prog [xA 75 2 10,xM 76 1,xV2 77 15 75 76,xM 74 77,xE 78 74 0,xE 79 74 1,⟨some 13,none,iAlo 13 [zS,zI,zI,zI,zI,zS,zI,zI,zS,zI,zI,zI,zS,zS,zF,zS,zS]⟩,xS 17 13 78,xT 14 79] [12,13,14] [13]
def Q30r19_0 : IC:=cReg Try.prog [xM 80 12,xC 81 .eql 80 0,xM 82 81,xG 82 true (xM 83 14),xQ 84 82 83,xM 85 84,xG 85 true (xF 86 7 13),xG 85 true (xF 87 6 86),xG 85 true (xL 88 1 87),xG 85 true (xN 89 88)] [13,85,89] [13]
def Q30r19_1 : IC:=cReg Try.prog [xG 85 true (xC 90 .eql 89 1),xQ 91 85 90,xM 92 91,xG 92 true (xF 93 7 13),xG 92 true (xF 94 6 93),xG 92 true (xL 95 1 94),⟨some 96,some (92,true),iIaS 96 2 (.tmp 95) (.const (.int .i64 0))⟩,xG 92 true (xF 97 1 96),xG 92 true (xL 98 1 97),⟨some 99,some (92,true),iStr 99 (.tmp 98)⟩,⟨some 100,some (92,true),iBin 100 .eql (.tmp 99) (.const (.string ⟨#[97]⟩))⟩,xQ 101 92 100,xT 6 101] [6] []
def Q30r19 : IC:=(cSeq Q30r19_0 Q30r19_1)
def lktop_TopSoon : IC:=(cSeq Q30r0 (cSeq (cSeq Q30r1 Q30c1) (cSeq (cSeq Q30r3 Q30c2) (cSeq Q30r5 (cSeq (cSeq Q30r6 Q30b3) (cSeq Q30r13 (cSeq (cSeq Q30r14 Q30b8) (cSeq Q30r18 (cSeq Q30r19 cRet)))))))))
theorem told_lktop_TopSoon {args r : List D} (hl : args.length = 3) (h : lktop_TopSoon (start args) (fin [(6,none)] r)) : Told Try.prog 6 args r :=
 told_of follows Try.func6 rfl (an:=[([],[0,1,2],[],[]),([],[0,1,2,16],[],[]),([],[6],[],[]),([(10,[0,1,2,26],[])],[0,1,2,39],[],[]),([],[6],[],[]),([],[0,1,2,7],[],[]),([],[0,1,7,40,41],[],[]),([],[0,1,7,40,41,42],[],[]),([],[0,1,7,8,40,41],[],[]),([],[0,1,7,9,40,41],[],[]),([],[0,1,7,9,40,41,49],[],[]),([],[0,1,7,40,41],[],[]),([],[0,1,7,40,41],[],[]),([(10,[0,1,56,64,65],[])],[0,1,10,12],[10],[]),([],[1,10,12,68,69],[10],[]),([],[1,10,12,68,69,70],[10],[]),([],[1,10,12,68,69],[10],[]),([],[1,10,12,68,69],[10],[]),([],[12,13,14],[13],[]),([(10,[13,85,89],[13])],[6],[],[])]) (by kernel_rfl) (by kernel_rfl) (by rw [hl]; decide +kernel) h
open mth
def CTParse (f : Nat) : Prop:=∀ (S : ByteArray) (xs : List UInt8),S.data.toList = xs → S.size ≤ 100 → parseE xs = 0 → Told Try.prog f [vD (.string S)] [aD (encMs (parseM xs)),vI 0]
theorem tput_told (hT : CTParse 22) (t : Int) (S : ByteArray) (xs : List UInt8) (h1 : S.data.toList = xs) (h2 : S.size ≤ 100) (h3 : parseE xs = 0) : Told Try.prog 13 [vI t,vD (.string S)] [aD (encSp (putSp t (parseM xs)))]:=by
 refine told_lktop_put rfl ?_
 have hq:=hT S xs h1 h2 h3
 generalize parseM xs = m at *
 simp only [encSp,putSp,encMs] at hq ⊢
 refine wk0 ?_
 refine cg [[aD (encMs m),vI 0]] @encMs.eq_1 ?_ ?_
 ·exact obl_cons hq obl_nil
 refine wk0 ?_
 exact ValsLe.refl _
def msB : Ms:=⟨1,[98]⟩
def msF : Ms:=⟨2,[255,255]⟩
def atW : Wd:=(runW (newW 2) [putSp 0 msA,putSp 1 msB]).1
theorem at_k : settleK 200 atW = 5:=by decide +kernel
theorem at_still : stillW (roundN 5 atW) = true:=by decide +kernel
theorem at_told : ∃ l,(roundN 5 atW).lanes[1]? = some l ∧ l.r.told.length = 1:=⟨(roundN 5 atW).lanes.getD 1 zeroL,getD_get (by decide +kernel),by decide +kernel⟩
theorem aliveTop_told (hT : CTParse 22) (hP : CFPlay 9) (hS : CFSettle 10) (hK : CKStill 11) : Told Try.prog 7 [] [vB true]:=by
 refine told_lktop_alive rfl ?_
 have g0 : GoodW atW:=by
  have:=(good_run (good_new (by decide : 1 ≤ 2 ∧ 2 ≤ 3)) [putSp 0 msA,putSp 1 msB] 2).1
  exact this
 have a1:=tput_told hT 0 ⟨#[48,58,54,49]⟩ [48,58,54,49] rfl (by decide) (by decide)
 have a2:=tput_told hT 1 ⟨#[49,58,54,50]⟩ [49,58,54,50] rfl (by decide) (by decide)
 rw [show parseM [48,58,54,49] = msA from rfl] at a1
 rw [show parseM [49,58,54,50] = msB from rfl] at a2
 have h1:=hP.2.2 2 [putSp 0 msA,putSp 1 msB] (by decide) (by decide)
 have h2:=hS atW g0 (by decide)
 have g6:=g0.rounds 5
 have h3:=hK (roundN 5 atW) (by have:=g6.n; omega) (fun l hl => good_smallN (g6.l l hl))
 rw [show (runW (newW 2) [putSp 0 msA,putSp 1 msB]).1 = atW from rfl] at h1
 rw [at_k] at h2
 rw [at_still] at h3
 obtain ⟨l,q1,q2⟩:=at_told
 have r1:=at_ll q1
 have n1 : (((roundN 5 atW).lanes.length : Nat) : Int) = 2:=by rw [roundN_len]; rfl
 have z1 : ((l.r.told.length : Nat) : Int) = 1:=by rw [q2]; rfl
 have cn : ((2 : Nat) : Int) = 2:=rfl
 have c6 : ((5 : Nat) : Int) = 5:=rfl
 rw [cn] at h1
 rw [c6] at h2
 generalize (runW (newW 2) [putSp 0 msA,putSp 1 msB]).2 = es at *
 generalize roundN 5 atW = x at *
 generalize atW = w at *
 generalize hs1 : putSp 0 msA = s1 at *
 generalize hs2 : putSp 1 msB = s2 at *
 simp only [encWd,encSl,encSp,encLn,List.map_cons,List.map_nil] at h1 h2 h3 a1 a2 r1
 refine wk0 ?_
 refine cg [[aD (encSp s1)],[aD (encSp s2)],[aD (encWd w),sD 1 (es.map vI),vI 0]] (an2 @encWd.eq_1 @encSp.eq_1) ?_ ?_
 ·exact obl_cons a1 (obl_cons a2 (obl_cons h1 obl_nil))
 refine wk0 ?_
 refine cg [[aD (encWd x),vI 5]] @encWd.eq_1 ?_ ?_
 ·exact obl_cons h2 obl_nil
 refine wk (an6 @n1 @r1 @z1 @len_ll @len_ml @Int.toNat_one) ?_
 refine cg [[vB true]] (an6 @n1 @r1 @z1 @len_ll @len_ml @Int.toNat_one) ?_ ?_
 ·exact obl_cons h3 obl_nil
 refine wk (an6 @n1 @r1 @z1 @len_ll @len_ml @Int.toNat_one) ?_
 exact ValsLe.refl _
end Go.Proofs.Ytgaofjiidedcbad.ab
