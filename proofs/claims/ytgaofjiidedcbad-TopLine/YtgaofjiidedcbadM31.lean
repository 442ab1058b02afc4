import Derived.Test.YtgaofjiidedcbadM30
import Derived.Test.YtgaofjiidedcbadM28
import Derived.Test.YtgaofjiidedcbadM29
import Derived.Test.YtgaofjiidedcbadM19
import Derived.Test.YtgaofjiidedcbadProg
set_option linter.unusedVariables false
set_option linter.unusedSimpArgs false
namespace Go.Proofs.Ytgaofjiidedcbad.mth
theorem KInv.lane {p : List Ms} {l : Ln} (h : KInv p l) (s : Sp) (h6 : s.kind ≠ 6) : KInv (p ++ (if (laneW l s).2 = 0 ∧ s.kind = 2 then [s.msg] else [])) (laneW l s).1:=by
 unfold laneW
 by_cases h1 : s.kind = 1
 ·rw [if_pos h1,if_neg (by omega),List.append_nil]
  exact h.speak
 rw [if_neg h1]
 by_cases h2 : s.kind = 2
 ·rw [if_pos h2]
  have:=h.put s.msg
  by_cases he : putE l.s s.msg = 0
  ·rw [if_pos he] at this
   rw [if_pos ⟨he,h2⟩]
   exact this
  ·rw [if_neg he] at this
   rw [if_neg (fun w => he w.1),List.append_nil]
   exact this
 ·rw [if_neg h2,if_neg (fun w => h2 w.2),List.append_nil]
  exact h.packet _ _ _ _ h6
def WKnow (p : Int → List Ms) (w : Wd) : Prop:=∀ (j : Nat) (x : Ln),w.lanes[j]? = some x → KInv (p j) x
theorem wknow_new (n : Nat) : WKnow (fun _ => []) (newW n):=fun j x hx => by
 have : x ∈ (newW n).lanes:=List.mem_of_getElem? hx
 rw [(List.mem_replicate.1 this).2]
 exact kinv_zero
theorem WKnow.step {p : Int → List Ms} {w : Wd} (h : WKnow p w) (s : Sp) (h6 : s.kind ≠ 6) : WKnow (fun t => p t ++ (if (doW w s).2 = 0 ∧ s.kind = 2 ∧ s.tenant = t then [s.msg] else [])) (doW w s).1:=by
 unfold doW
 split
 ·intro j x hx
  simp only
  rw [if_neg (by simp),List.append_nil]
  exact h j x hx
 split
 ·intro j x hx
  simp only
  rw [if_neg (by simp),List.append_nil]
  exact h j x hx
 ·rename_i h1 h2
  intro j x hx
  simp only at hx ⊢
  have hlt : (whoW w s).toNat < w.lanes.length:=by omega
  have hg : w.lanes.getD (whoW w s).toNat zeroL = w.lanes[(whoW w s).toNat]:=by rw [List.getD_eq_getElem?_getD,List.getElem?_eq_getElem hlt,Option.getD_some]
  rw [hg] at hx ⊢
  have hl:=h (whoW w s).toNat _ (List.getElem?_eq_getElem hlt)
  by_cases hj : (whoW w s).toNat = j
  ·subst hj
   rw [List.getElem?_set_self (by omega)] at hx
   cases hx
   have:=hl.lane s h6
   by_cases hk : (laneW w.lanes[(whoW w s).toNat] s).2 = 0 ∧ s.kind = 2
   ·have ht : s.tenant = ((whoW w s).toNat : Int):=by
     have : whoW w s = s.tenant:=by unfold whoW; rw [if_neg (by omega)]
     omega
    rw [if_pos hk] at this
    rw [if_pos ⟨hk.1,hk.2,ht⟩]
    exact this
   ·rw [if_neg hk] at this
    rw [if_neg (fun w => hk ⟨w.1,w.2.1⟩)]
    exact this
  ·rw [List.getElem?_set_ne hj] at hx
   rw [if_neg,List.append_nil]
   ·exact h j x hx
   ·rintro ⟨w1,w2,w3⟩
    have : whoW w s = s.tenant:=by unfold whoW; rw [if_neg (by omega)]
    omega
theorem wknow_run (n : Nat) (l : List Sp) (hs : ∀ s ∈ l,s.kind ≠ 6) : ∀ k,k ≤ l.length → WKnow (fun t => putsW (l.take k) (runW (newW n) (l.take k)).2 t) (runW (newW n) (l.take k)).1:=by
 intro k
 induction k with
 | zero => intro _; exact wknow_new n
 | succ k ih =>
  intro hk
  have hi:=ih (by omega)
  have hlen:=run_len (newW n) l k (by omega)
  rw [List.take_add_one,List.getElem?_eq_getElem (by omega),Option.toList_some]
  have hst:=hi.step l[k] (hs _ (List.getElem_mem (by omega)))
  rw [runW_snoc]
  intro j x hx
  have:=hst j x hx
  simp only
  rw [putsW_snoc (by rw [hlen,List.length_take]; omega)]
  exact this
def tickS : Sp:=⟨1,0,0,0,false,⟨0,[]⟩⟩
def drainW (w : Wd) : Wd:=⟨w.lanes.map drainL,w.ticks⟩
def roundW (w : Wd) : Wd:=(doW (drainW w) tickS).1
def roundN : Nat → Wd → Wd
 | 0,w => w
 | k + 1,w => roundW (roundN k w)
def stillW (w : Wd) : Bool:=w.lanes.all idleL
theorem GoodL.there_all : ∀ (q : List (List UInt8)) {l : Ln},GoodL l → l.there = q → GoodL { l with r:=q.foldl hearP l.r,there:=[] }
 | [],l,h,e => by
  obtain ⟨s,r,t,b⟩:=l
  simp only at e
  subst e
  exact h
 | x :: q,l,h,e => by
  have h1:=h.come 0 false
  rw [come_there e] at h1
  exact GoodL.there_all q h1 rfl
theorem GoodL.back_all : ∀ (q : List (List UInt8)) {l : Ln},GoodL l → l.back = q → GoodL { l with s:=q.foldl hearQ l.s,back:=[] }
 | [],l,h,e => by
  obtain ⟨s,r,t,b⟩:=l
  simp only at e
  subst e
  exact h
 | x :: q,l,h,e => by
  have h1:=h.come 0 true
  rw [come_back e] at h1
  exact GoodL.back_all q h1 rfl
theorem GoodL.drain {l : Ln} (h : GoodL l) : GoodL (drainL l):=GoodL.back_all l.back (GoodL.there_all l.there h rfl) rfl
theorem GoodW.drain {w : Wd} (h : GoodW w) : GoodW (drainW w):=⟨by simpa [drainW] using h.n,h.t,fun l hl => by
 obtain ⟨x,hx,e⟩:=List.mem_map.1 hl
 rw [← e]; exact (h.l x hx).drain⟩
theorem GoodW.round {w : Wd} (h : GoodW w) : GoodW (roundW w):=h.drain.step tickS
theorem round_ticks (w : Wd) : (roundW w).ticks = w.ticks + 1:=by
 unfold roundW
 rw [doW_ticks,if_neg (by decide)]
 rfl
theorem round_len (w : Wd) : (roundW w).lanes.length = w.lanes.length:=by
 unfold roundW
 rw [do_len]
 simp [drainW]
theorem roundN_ticks (k : Nat) (w : Wd) : (roundN k w).ticks = w.ticks + k:=by
 induction k with
 | zero => simp [roundN]
 | succ k ih => rw [roundN,round_ticks,ih]; omega
theorem roundN_len (k : Nat) (w : Wd) : (roundN k w).lanes.length = w.lanes.length:=by
 induction k with
 | zero => rfl
 | succ k ih => rw [roundN,round_len,ih]
theorem GoodW.rounds {w : Wd} (h : GoodW w) (k : Nat) : GoodW (roundN k w):=by
 induction k with
 | zero => exact h
 | succ k ih => exact ih.round
theorem round_lane (w : Wd) (j : Nat) : (roundW w).lanes[j]? = (w.lanes[j]?).map fun x => if w.ticks.tmod w.lanes.length = j then speakL (drainL x) else drainL x:=by
 unfold roundW
 rw [doW_lane]
 have hw : whoW (drainW w) tickS = w.ticks.tmod w.lanes.length:=by
  unfold whoW
  rw [if_pos (by rfl)]
  show w.ticks.tmod ((w.lanes.map drainL).length : Nat) = _
  rw [List.length_map]
 have hl : (drainW w).lanes[j]? = (w.lanes[j]?).map drainL:=by simp [drainW]
 rw [hw,hl]
 by_cases e : w.ticks.tmod w.lanes.length = j
 ·rw [if_neg (by intro q; rcases q with q | q; exact absurd q (by decide); exact q e)]
  cases w.lanes[j]? with
  | none => rfl
  | some x =>
   simp only [Option.map_some,e,if_true]
   rfl
 ·rw [if_pos (.inr e)]
  cases w.lanes[j]? with
  | none => rfl
  | some x => simp only [Option.map_some,e,if_false]
theorem Sim.round {t : Nat} {w x : Wd} (h : Sim t w x) : Sim t (roundW w) (roundW x):=by
 refine ⟨by rw [round_ticks,round_ticks,h.k],by rw [round_len,round_len,h.n],?_⟩
 rw [round_lane,round_lane,h.l,h.k,h.n]
theorem Sim.rounds {t : Nat} {w x : Wd} (h : Sim t w x) (k : Nat) : Sim t (roundN k w) (roundN k x):=by
 induction k with
 | zero => exact h
 | succ k ih => exact ih.round
def cntT (n : Nat) (j : Nat) (t : Int) : Nat → Nat
 | 0 => 0
 | k + 1 => cntT n j t k + if (t + k) % n = j then 1 else 0
theorem cnt_add (n j : Nat) (t : Int) (a b : Nat) : cntT n j t (a + b) = cntT n j t a + cntT n j (t + a) b:=by
 induction b with
 | zero => rfl
 | succ b ih =>
  show cntT n j t (a + b) + (if (t + ((a + b : Nat) : Int)) % n = j then 1 else 0) = cntT n j t a + (cntT n j (t + a) b + if (t + a + b) % n = j then 1 else 0)
  rw [ih,show t + ((a + b : Nat) : Int) = t + (a : Int) + (b : Int) by omega]
  omega
theorem cnt_one {n j : Nat} (hn : 1 ≤ n ∧ n ≤ 3) (hj : j < n) (t : Int) : cntT n j t n = 1:=by
 rcases (by omega : n = 1 ∨ n = 2 ∨ n = 3) with rfl | rfl | rfl
 ·simp only [cntT]
  rw [if_pos (by omega)]
 ·simp only [cntT]
  split <;> split <;> omega
 ·simp only [cntT]
  split <;> split <;> split <;> omega
theorem cnt_many {n j : Nat} (hn : 1 ≤ n ∧ n ≤ 3) (hj : j < n) (t : Int) (K : Nat) : cntT n j t (n * K) = K:=by
 induction K with
 | zero => rfl
 | succ K ih => rw [Nat.mul_succ,cnt_add,ih,cnt_one hn hj]
theorem cnt_mono (n j : Nat) (t : Int) {a b : Nat} (h : a ≤ b) : cntT n j t a ≤ cntT n j t b:=by
 obtain ⟨d,rfl⟩ : ∃ d,b = a + d:=⟨b - a,by omega⟩
 rw [cnt_add]; omega
theorem roundN_drain {w : Wd} (ht : 0 ≤ w.ticks) {j : Nat} {x : Ln} (hx : w.lanes[j]? = some x) (k : Nat) : ∃ y,(roundN k w).lanes[j]? = some y ∧ drainL y = goN (cntT w.lanes.length j w.ticks k) (drainL x):=by
 induction k with
 | zero => exact ⟨x,hx,rfl⟩
 | succ k ih =>
  obtain ⟨y,hy,e⟩:=ih
  refine ⟨_,by rw [roundN,round_lane,hy]; rfl,?_⟩
  rw [roundN_ticks,roundN_len]
  have h0 : (w.ticks + (k : Int)).tmod w.lanes.length = (w.ticks + (k : Int)) % w.lanes.length:=Int.tmod_eq_emod_of_nonneg (by omega)
  rw [h0]
  show drainL (if _ then _ else _) = goN (cntT _ _ _ k + if _ then 1 else 0) _
  by_cases q : (w.ticks + (k : Int)) % w.lanes.length = j
  ·rw [if_pos q,if_pos q,goN_succ,← e]; rfl
  ·rw [if_neg q,if_neg q,Nat.add_zero,← e]; rfl
theorem idle_speak {l : Ln} (hi : idleL l = true) : idleL (speakL l) = true:=by
 unfold idleL at hi
 rw [Bool.and_eq_true] at hi
 have hq:=List.isEmpty_iff.1 hi.1
 have hf:=List.isEmpty_iff.1 hi.2
 have hs : (sayL l.s).1 = l.s:=by
  unfold sayL
  rw [hq]
  simp only
  rw [if_pos (by rw [hf]; rfl)]
 unfold idleL speakL
 simp only
 rw [hs,hq,hf]
 rfl
theorem still_at {p : Int → List Ms} {w : Wd} (hw : GoodW w) (hk : WKnow p w) : stillW (roundN 200 w) = true:=by
 unfold stillW
 rw [List.all_eq_true]
 intro z hz
 obtain ⟨j,hj⟩:=List.getElem?_of_mem hz
 have hlt : j < w.lanes.length:=by
  have:=(List.getElem?_eq_some_iff.1 hj).1
  rw [roundN_len] at this
  exact this
 obtain ⟨x,hx⟩ : ∃ x,w.lanes[j]? = some x:=⟨_,List.getElem?_eq_getElem hlt⟩
 obtain ⟨y,hy,e⟩:=roundN_drain hw.t hx 199
 have hc : 61 ≤ cntT w.lanes.length j w.ticks 199:=by
  have h1:=cnt_many hw.n hlt w.ticks 66
  have h2:=cnt_mono w.lanes.length j w.ticks (by have:=hw.n; omega : w.lanes.length * 66 ≤ 199)
  omega
 have hi : idleL (drainL y) = true:=by
  rw [e]
  exact idle_at (hk j x hx).drain rfl rfl _ hc
 have : (roundN 200 w).lanes[j]? = _:=round_lane (roundN 199 w) j
 rw [hj,hy] at this
 simp only [Option.map_some,Option.some.injEq] at this
 rw [this]
 split
 ·exact idle_speak hi
 ·exact hi
theorem WKnow.round {p : Int → List Ms} {w : Wd} (h : WKnow p w) : WKnow p (roundW w):=fun j y hy => by
 rw [round_lane] at hy
 cases hx : w.lanes[j]? with
 | none => rw [hx] at hy; cases hy
 | some x =>
  rw [hx] at hy
  simp only [Option.map_some,Option.some.injEq] at hy
  rw [← hy]
  split
  ·exact (h j x hx).drain.speak
  ·exact (h j x hx).drain
theorem WKnow.rounds {p : Int → List Ms} {w : Wd} (h : WKnow p w) (k : Nat) : WKnow p (roundN k w):=by
 induction k with
 | zero => exact h
 | succ k ih => exact ih.round
def settleK : Nat → Wd → Nat
 | 0,_ => 0
 | f + 1,w => if stillW w = true then 0 else settleK f (roundW w) + 1
theorem roundN_left (k : Nat) (w : Wd) : roundN (k + 1) w = roundN k (roundW w):=by
 induction k with
 | zero => rfl
 | succ k ih => rw [roundN,ih]; rfl
theorem settle_le : ∀ (f : Nat) (w : Wd),settleK f w ≤ f
 | 0,w => Nat.le_refl _
 | f + 1,w => by
  unfold settleK
  split
  ·omega
  ·have:=settle_le f (roundW w); omega
theorem settle_still : ∀ (f : Nat) (w : Wd),stillW (roundN (settleK f w) w) = true ∨ settleK f w = f
 | 0,w => .inr rfl
 | f + 1,w => by
  unfold settleK
  split
  ·rename_i h; exact .inl h
  ·rw [roundN_left]
   rcases settle_still f (roundW w) with q | q
   ·exact .inl q
   ·exact .inr (by rw [q])
theorem settle_not : ∀ (f : Nat) (w : Wd) (k : Nat),k < settleK f w → stillW (roundN k w) = false
 | 0,w,k,h => by cases h
 | f + 1,w,k,h => by
  unfold settleK at h
  split at h
  ·cases h
  ·rename_i hs
   cases k with
   | zero => simpa [roundN] using hs
   | succ k => rw [roundN_left]; exact settle_not f (roundW w) k (by omega)
theorem settle_ends {p : Int → List Ms} {w : Wd} (hw : GoodW w) (hk : WKnow p w) : stillW (roundN (settleK 200 w) w) = true:=by
 rcases settle_still 200 w with q | q
 ·exact q
 ·rw [q]; exact still_at hw hk
theorem KInv.ends {p : List Ms} {l : Ln} (h : KInv p l) (hi : idleL l = true) : l.r.told.length = p.length ∧ fitsS l.r.told p = true:=by
 obtain ⟨g,m,cs,e,k⟩:=h
 unfold idleL at hi
 rw [Bool.and_eq_true] at hi
 have hq:=List.isEmpty_iff.1 hi.1
 have hf:=List.isEmpty_iff.1 hi.2
 have h1:=k.idle hf
 rw [hq,List.append_nil] at e
 subst e
 have h2:=k.s.n
 refine ⟨by omega,?_⟩
 have:=k.r.fits []
 rw [List.append_nil] at this
 exact this
end Go.Proofs.Ytgaofjiidedcbad.mth
namespace Go.Proofs.Ytgaofjiidedcbad.ab
open Go Go.RowKit
open mth
def CFPlay (f : Nat) : Prop:=(∀ (n : Int) (l : List Sp),l.length ≤ 9223372036854775807 → n < 1 ∨ 3 < n → Told Try.prog f [vI n,sD 7 (encSl l)] [aD (encWd ⟨[],0⟩),sD 1 [],vI 3]) ∧
 (∀ (n : Nat) (l : List Sp),1 ≤ n ∧ n ≤ 3 → l.length ≤ 9223372036854775807 → 160 < l.length → Told Try.prog f [vI n,sD 7 (encSl l)] [aD (encWd ⟨[],0⟩),sD 1 [],vI 5]) ∧
 (∀ (n : Nat) (l : List Sp),1 ≤ n ∧ n ≤ 3 → l.length ≤ 160 → Told Try.prog f [vI n,sD 7 (encSl l)] [aD (encWd (runW (newW n) l).1),sD 1 ((runW (newW n) l).2.map vI),vI 0])
def CFRound (f : Nat) : Prop:=∀ w,GoodW w → w.ticks ≤ 1000000 → Told Try.prog f [aD (encWd w)] [aD (encWd (roundW w))]
def CFSettle (f : Nat) : Prop:=∀ w,GoodW w → w.ticks ≤ 100000 → Told Try.prog f [aD (encWd w)] [aD (encWd (roundN (settleK 200 w) w)),vI (settleK 200 w)]
structure SmallN (l : Ln) : Prop where
 q : l.s.queue.length ≤ 1048576
 f : l.s.flight.length ≤ 1048576
 e : l.r.early.length ≤ 1048576
 h : l.r.hold.length ≤ 1048576
 t : l.r.told.length ≤ 1048576
 th : l.there.length ≤ 1048576
 b : l.back.length ≤ 1048576
def CKIdle (f : Nat) : Prop:=∀ l,SmallN l → Told Try.prog f [aD (encLn l)] [vB (idleL l)]
def CKStill (f : Nat) : Prop:=∀ w : Wd,w.lanes.length ≤ 1048576 → (∀ l ∈ w.lanes,SmallN l) → Told Try.prog f [aD (encWd w)] [vB (stillW w)]
theorem good_smallN {l : Ln} (h : GoodL l) : SmallN l:=by
 have h1:=good_sizes h.r
 have h4:=h.s.q
 have h5:=h.s.f
 have h6:=h.t
 have h7:=h.b
 exact ⟨by omega,by omega,by omega,by omega,by omega,by omega,by omega⟩
end Go.Proofs.Ytgaofjiidedcbad.ab
namespace Go.Proofs.Ytgaofjiidedcbad.mth
def putSp (t : Int) (m : Ms) : Sp:=⟨2,t,0,0,false,m⟩
def msA : Ms:=⟨0,[97]⟩
end Go.Proofs.Ytgaofjiidedcbad.mth
namespace Go.Proofs.Ytgaofjiidedcbad.ab
set_option maxRecDepth 100000
open Go Go.RowKit
def Q34r0 : IC:=cReg Try.prog [⟨some 4,none,iAlo 4 [zI,zI,zI,zI,zF,zI,zS]⟩] [0,1,4] [4]
def Q34r1 : IC:=cReg Try.prog [xM 8 1,xV1 9 22 8,xM 7 9,xE 10 7 0,xE 11 7 1,⟨some 5,none,iAlo 5 [zI,zS]⟩,xS 2 5 10,xT 6 11] [0,4,5] [4,5]
def Q34r2 : IC:=cReg Try.prog [xM 12 0,xA 13 2 5,⟨some 14,none,iBld 14 [zI,zI,zI,zI,zF,zI,zS] [(0,1),(1,1),(5,2)] [(.const (.int .i64 2)),(.tmp 12),(.tmp 13)]⟩,xS 7 4 14] [4] [4]
def lktop_put : IC:=(cSeq Q34r0 (cSeq Q34r1 (cSeq Q34r2 cRet)))
theorem told_lktop_put {args r : List D} (hl : args.length = 2) (h : lktop_put (start args) (fin [(4,some (7,true))] r)) : Told Try.prog 13 args r :=
 told_of follows Try.func13 rfl (an:=[([],[0,1,4],[4],[]),([],[0,4,5],[4,5],[]),([],[4],[4],[])]) (by kernel_rfl) (by kernel_rfl) (by rw [hl]; decide +kernel) h
def Q32r0 : IC:=cReg Try.prog [⟨some 0,none,iMov 0 (.const (.bool false)) true⟩] [] []
def Q32r1 : IC:=cReg Try.prog [⟨some 7,none,iCall 7 13 [(.const (.int .i64 0)),(.const (.string ⟨#[48,58,54,49]⟩))]⟩,⟨some 8,none,iCall 8 13 [(.const (.int .i64 1)),(.const (.string ⟨#[49,58,54,50]⟩))]⟩,⟨some 9,none,iRow 9 30 7 [(.tmp 7),(.tmp 8)]⟩,⟨some 10,none,iCall 10 9 [(.const (.int .i64 2)),(.tmp 9)]⟩,xM 6 10,xE 11 6 0,xE 12 6 1,xE 13 6 2,⟨some 1,none,iAlo 1 [zS,zI]⟩,xS 2 1 11,xT 2 12,xT 3 13] [1,3] [1]
def Q32r2 : IC:=cReg Try.prog [xA 15 2 1,xV1 16 10 15,xM 14 16,xE 17 14 0,xE 18 14 1,⟨some 4,none,iAlo 4 [zS,zI]⟩,xS 2 4 17,xT 5 18] [3,4] [4]
def Q32r3_0 : IC:=cReg Try.prog [xM 19 3,xC 20 .eql 19 0,xM 21 20,xG 21 true (xA 22 2 4),xG 21 true (xV1 23 11 22),xQ 24 21 23,xM 25 24,xG 25 true (xF 26 0 4),xG 25 true (xL 27 1 26),xG 25 true (xN 28 27)] [4,25,28] [4]
def Q32r3_1 : IC:=cReg Try.prog [xG 25 true (xC 29 .eql 28 2),xQ 30 25 29,xM 31 30,xG 31 true (xF 32 0 4),xG 31 true (xL 33 1 32),⟨some 34,some (31,true),iIaS 34 17 (.tmp 33) (.const (.int .i64 1))⟩,xG 31 true (xF 35 7 34),xG 31 true (xF 36 6 35),xG 31 true (xL 37 1 36),xG 31 true (xN 38 37),xG 31 true (xC 39 .eql 38 1),xQ 40 31 39,xT 0 40] [0] []
def Q32r3 : IC:=(cSeq Q32r3_0 Q32r3_1)
def lktop_alive : IC:=(cSeq Q32r0 (cSeq Q32r1 (cSeq Q32r2 (cSeq Q32r3 cRet))))
theorem told_lktop_alive {args r : List D} (hl : args.length = 0) (h : lktop_alive (start args) (fin [(0,none)] r)) : Told Try.prog 7 args r :=
 told_of follows Try.func7 rfl (an:=[([],[],[],[]),([],[1,3],[1],[]),([],[3,4],[4],[]),([(10,[4,25,28],[4])],[0],[],[])]) (by kernel_rfl) (by kernel_rfl) (by rw [hl]; decide +kernel) h
end Go.Proofs.Ytgaofjiidedcbad.ab
