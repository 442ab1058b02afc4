import Derived.Test.YtgaofjiidedcbadM32
import Derived.Test.YtgaofjiidedcbadM29
import Derived.Test.YtgaofjiidedcbadPLane3
import Derived.Test.YtgaofjiidedcbadM20
import Derived.Test.YtgaofjiidedcbadProg
set_option maxHeartbeats 16000000
set_option linter.unusedVariables false
set_option linter.unusedSimpArgs false
namespace Go.Proofs.Ytgaofjiidedcbad.mth
theorem KInv.lane {p : List Ms} {l : Ln} (h : KInv p l) (s : Sp) (h6 : s.kind ≠ 6) : KInv (p ++ (if (laneW l s).2 = 0 ∧ s.kind = 2 then [s.msg] else [])) (laneW l s).1:=by
 unfold laneW
 by_cases h1 : s.kind = 1
 ·rw [if_pos h1,if_neg (by omega),List.append_nil]
  exact h.speak
 rw [if_neg h1]
 by_cases h2 : s.kind = 2
 ·rw [if_pos h2]
  have:=h.put s.msg
  by_cases he : putE l.s s.msg = 0
  ·rw [if_pos he] at this
   rw [if_pos ⟨he,h2⟩]
   exact this
  ·rw [if_neg he] at this
   rw [if_neg (fun w => he w.1),List.append_nil]
   exact this
 ·rw [if_neg h2,if_neg (fun w => h2 w.2),List.append_nil]
  exact h.packet _ _ _ _ h6
def WKnow (p : Int → List Ms) (w : Wd) : Prop:=∀ (j : Nat) (x : Ln),w.lanes[j]? = some x → KInv (p j) x
theorem wknow_new (n : Nat) : WKnow (fun _ => []) (newW n):=fun j x hx => by
 have : x ∈ (newW n).lanes:=List.mem_of_getElem? hx
 rw [(List.mem_replicate.1 this).2]
 exact kinv_zero
theorem WKnow.step {p : Int → List Ms} {w : Wd} (h : WKnow p w) (s : Sp) (h6 : s.kind ≠ 6) : WKnow (fun t => p t ++ (if (doW w s).2 = 0 ∧ s.kind = 2 ∧ s.tenant = t then [s.msg] else [])) (doW w s).1:=by
 unfold doW
 split
 ·intro j x hx
  simp only
  rw [if_neg (by simp),List.append_nil]
  exact h j x hx
 split
 ·intro j x hx
  simp only
  rw [if_neg (by simp),List.append_nil]
  exact h j x hx
 ·rename_i h1 h2
  intro j x hx
  simp only at hx ⊢
  have hlt : (whoW w s).toNat < w.lanes.length:=by omega
  have hg : w.lanes.getD (whoW w s).toNat zeroL = w.lanes[(whoW w s).toNat]:=by rw [List.getD_eq_getElem?_getD,List.getElem?_eq_getElem hlt,Option.getD_some]
  rw [hg] at hx ⊢
  have hl:=h (whoW w s).toNat _ (List.getElem?_eq_getElem hlt)
  by_cases hj : (whoW w s).toNat = j
  ·subst hj
   rw [List.getElem?_set_self (by omega)] at hx
   cases hx
   have:=hl.lane s h6
   by_cases hk : (laneW w.lanes[(whoW w s).toNat] s).2 = 0 ∧ s.kind = 2
   ·have ht : s.tenant = ((whoW w s).toNat : Int):=by
     have : whoW w s = s.tenant:=by unfold whoW; rw [if_neg (by omega)]
     omega
    rw [if_pos hk] at this
    rw [if_pos ⟨hk.1,hk.2,ht⟩]
    exact this
   ·rw [if_neg hk] at this
    rw [if_neg (fun w => hk ⟨w.1,w.2.1⟩)]
    exact this
  ·rw [List.getElem?_set_ne hj] at hx
   rw [if_neg,List.append_nil]
   ·exact h j x hx
   ·rintro ⟨w1,w2,w3⟩
    have : whoW w s = s.tenant:=by unfold whoW; rw [if_neg (by omega)]
    omega
theorem wknow_run (n : Nat) (l : List Sp) (hs : ∀ s ∈ l,s.kind ≠ 6) : ∀ k,k ≤ l.length → WKnow (fun t => putsW (l.take k) (runW (newW n) (l.take k)).2 t) (runW (newW n) (l.take k)).1:=by
 intro k
 induction k with
 | zero => intro _; exact wknow_new n
 | succ k ih =>
  intro hk
  have hi:=ih (by omega)
  have hlen:=run_len (newW n) l k (by omega)
  rw [List.take_add_one,List.getElem?_eq_getElem (by omega),Option.toList_some]
  have hst:=hi.step l[k] (hs _ (List.getElem_mem (by omega)))
  rw [runW_snoc]
  intro j x hx
  have:=hst j x hx
  simp only
  rw [putsW_snoc (by rw [hlen,List.length_take]; omega)]
  exact this
def tickS : Sp:=⟨1,0,0,0,false,⟨0,[]⟩⟩
def drainW (w : Wd) : Wd:=⟨w.lanes.map drainL,w.ticks⟩
def roundW (w : Wd) : Wd:=(doW (drainW w) tickS).1
def roundN : Nat → Wd → Wd
 | 0,w => w
 | k + 1,w => roundW (roundN k w)
def stillW (w : Wd) : Bool:=w.lanes.all idleL
theorem GoodL.there_all : ∀ (q : List (List UInt8)) {l : Ln},GoodL l → l.there = q → GoodL { l with r:=q.foldl hearP l.r,there:=[] }
 | [],l,h,e => by
  obtain ⟨s,r,t,b⟩:=l
  simp only at e
  subst e
  exact h
 | x :: q,l,h,e => by
  have h1:=h.come 0 false
  rw [come_there e] at h1
  exact GoodL.there_all q h1 rfl
theorem GoodL.back_all : ∀ (q : List (List UInt8)) {l : Ln},GoodL l → l.back = q → GoodL { l with s:=q.foldl hearQ l.s,back:=[] }
 | [],l,h,e => by
  obtain ⟨s,r,t,b⟩:=l
  simp only at e
  subst e
  exact h
 | x :: q,l,h,e => by
  have h1:=h.come 0 true
  rw [come_back e] at h1
  exact GoodL.back_all q h1 rfl
theorem GoodL.drain {l : Ln} (h : GoodL l) : GoodL (drainL l):=GoodL.back_all l.back (GoodL.there_all l.there h rfl) rfl
theorem GoodW.drain {w : Wd} (h : GoodW w) : GoodW (drainW w):=⟨by simpa [drainW] using h.n,h.t,fun l hl => by
 obtain ⟨x,hx,e⟩:=List.mem_map.1 hl
 rw [← e]; exact (h.l x hx).drain⟩
theorem GoodW.round {w : Wd} (h : GoodW w) : GoodW (roundW w):=h.drain.step tickS
theorem round_ticks (w : Wd) : (roundW w).ticks = w.ticks + 1:=by
 unfold roundW
 rw [doW_ticks,if_neg (by decide)]
 rfl
theorem round_len (w : Wd) : (roundW w).lanes.length = w.lanes.length:=by
 unfold roundW
 rw [do_len]
 simp [drainW]
theorem roundN_ticks (k : Nat) (w : Wd) : (roundN k w).ticks = w.ticks + k:=by
 induction k with
 | zero => simp [roundN]
 | succ k ih => rw [roundN,round_ticks,ih]; omega
theorem roundN_len (k : Nat) (w : Wd) : (roundN k w).lanes.length = w.lanes.length:=by
 induction k with
 | zero => rfl
 | succ k ih => rw [roundN,round_len,ih]
theorem GoodW.rounds {w : Wd} (h : GoodW w) (k : Nat) : GoodW (roundN k w):=by
 induction k with
 | zero => exact h
 | succ k ih => exact ih.round
theorem round_lane (w : Wd) (j : Nat) : (roundW w).lanes[j]? = (w.lanes[j]?).map fun x => if w.ticks.tmod w.lanes.length = j then speakL (drainL x) else drainL x:=by
 unfold roundW
 rw [doW_lane]
 have hw : whoW (drainW w) tickS = w.ticks.tmod w.lanes.length:=by
  unfold whoW
  rw [if_pos (by rfl)]
  show w.ticks.tmod ((w.lanes.map drainL).length : Nat) = _
  rw [List.length_map]
 have hl : (drainW w).lanes[j]? = (w.lanes[j]?).map drainL:=by simp [drainW]
 rw [hw,hl]
 by_cases e : w.ticks.tmod w.lanes.length = j
 ·rw [if_neg (by intro q; rcases q with q | q; exact absurd q (by decide); exact q e)]
  cases w.lanes[j]? with
  | none => rfl
  | some x =>
   simp only [Option.map_some,e,if_true]
   rfl
 ·rw [if_pos (.inr e)]
  cases w.lanes[j]? with
  | none => rfl
  | some x => simp only [Option.map_some,e,if_false]
theorem Sim.round {t : Nat} {w x : Wd} (h : Sim t w x) : Sim t (roundW w) (roundW x):=by
 refine ⟨by rw [round_ticks,round_ticks,h.k],by rw [round_len,round_len,h.n],?_⟩
 rw [round_lane,round_lane,h.l,h.k,h.n]
theorem Sim.rounds {t : Nat} {w x : Wd} (h : Sim t w x) (k : Nat) : Sim t (roundN k w) (roundN k x):=by
 induction k with
 | zero => exact h
 | succ k ih => exact ih.round
def cntT (n : Nat) (j : Nat) (t : Int) : Nat → Nat
 | 0 => 0
 | k + 1 => cntT n j t k + if (t + k) % n = j then 1 else 0
theorem cnt_add (n j : Nat) (t : Int) (a b : Nat) : cntT n j t (a + b) = cntT n j t a + cntT n j (t + a) b:=by
 induction b with
 | zero => rfl
 | succ b ih =>
  show cntT n j t (a + b) + (if (t + ((a + b : Nat) : Int)) % n = j then 1 else 0) = cntT n j t a + (cntT n j (t + a) b + if (t + a + b) % n = j then 1 else 0)
  rw [ih,show t + ((a + b : Nat) : Int) = t + (a : Int) + (b : Int) by omega]
  omega
theorem cnt_one {n j : Nat} (hn : 1 ≤ n ∧ n ≤ 3) (hj : j < n) (t : Int) : cntT n j t n = 1:=by
 rcases (by omega : n = 1 ∨ n = 2 ∨ n = 3) with rfl | rfl | rfl
 ·simp only [cntT]
  rw [if_pos (by omega)]
 ·simp only [cntT]
  split <;> split <;> omega
 ·simp only [cntT]
  split <;> split <;> split <;> omega
theorem cnt_many {n j : Nat} (hn : 1 ≤ n ∧ n ≤ 3) (hj : j < n) (t : Int) (K : Nat) : cntT n j t (n * K) = K:=by
 induction K with
 | zero => rfl
 | succ K ih => rw [Nat.mul_succ,cnt_add,ih,cnt_one hn hj]
theorem cnt_mono (n j : Nat) (t : Int) {a b : Nat} (h : a ≤ b) : cntT n j t a ≤ cntT n j t b:=by
 obtain ⟨d,rfl⟩ : ∃ d,b = a + d:=⟨b - a,by omega⟩
 rw [cnt_add]; omega
theorem roundN_drain {w : Wd} (ht : 0 ≤ w.ticks) {j : Nat} {x : Ln} (hx : w.lanes[j]? = some x) (k : Nat) : ∃ y,(roundN k w).lanes[j]? = some y ∧ drainL y = goN (cntT w.lanes.length j w.ticks k) (drainL x):=by
 induction k with
 | zero => exact ⟨x,hx,rfl⟩
 | succ k ih =>
  obtain ⟨y,hy,e⟩:=ih
  refine ⟨_,by rw [roundN,round_lane,hy]; rfl,?_⟩
  rw [roundN_ticks,roundN_len]
  have h0 : (w.ticks + (k : Int)).tmod w.lanes.length = (w.ticks + (k : Int)) % w.lanes.length:=Int.tmod_eq_emod_of_nonneg (by omega)
  rw [h0]
  show drainL (if _ then _ else _) = goN (cntT _ _ _ k + if _ then 1 else 0) _
  by_cases q : (w.ticks + (k : Int)) % w.lanes.length = j
  ·rw [if_pos q,if_pos q,goN_succ,← e]; rfl
  ·rw [if_neg q,if_neg q,Nat.add_zero,← e]; rfl
theorem idle_speak {l : Ln} (hi : idleL l = true) : idleL (speakL l) = true:=by
 unfold idleL at hi
 rw [Bool.and_eq_true] at hi
 have hq:=List.isEmpty_iff.1 hi.1
 have hf:=List.isEmpty_iff.1 hi.2
 have hs : (sayL l.s).1 = l.s:=by
  unfold sayL
  rw [hq]
  simp only
  rw [if_pos (by rw [hf]; rfl)]
 unfold idleL speakL
 simp only
 rw [hs,hq,hf]
 rfl
theorem still_at {p : Int → List Ms} {w : Wd} (hw : GoodW w) (hk : WKnow p w) : stillW (roundN 200 w) = true:=by
 unfold stillW
 rw [List.all_eq_true]
 intro z hz
 obtain ⟨j,hj⟩:=List.getElem?_of_mem hz
 have hlt : j < w.lanes.length:=by
  have:=(List.getElem?_eq_some_iff.1 hj).1
  rw [roundN_len] at this
  exact this
 obtain ⟨x,hx⟩ : ∃ x,w.lanes[j]? = some x:=⟨_,List.getElem?_eq_getElem hlt⟩
 obtain ⟨y,hy,e⟩:=roundN_drain hw.t hx 199
 have hc : 61 ≤ cntT w.lanes.length j w.ticks 199:=by
  have h1:=cnt_many hw.n hlt w.ticks 66
  have h2:=cnt_mono w.lanes.length j w.ticks (by have:=hw.n; omega : w.lanes.length * 66 ≤ 199)
  omega
 have hi : idleL (drainL y) = true:=by
  rw [e]
  exact idle_at (hk j x hx).drain rfl rfl _ hc
 have : (roundN 200 w).lanes[j]? = _:=round_lane (roundN 199 w) j
 rw [hj,hy] at this
 simp only [Option.map_some,Option.some.injEq] at this
 rw [this]
 split
 ·exact idle_speak hi
 ·exact hi
theorem WKnow.round {p : Int → List Ms} {w : Wd} (h : WKnow p w) : WKnow p (roundW w):=fun j y hy => by
 rw [round_lane] at hy
 cases hx : w.lanes[j]? with
 | none => rw [hx] at hy; cases hy
 | some x =>
  rw [hx] at hy
  simp only [Option.map_some,Option.some.injEq] at hy
  rw [← hy]
  split
  ·exact (h j x hx).drain.speak
  ·exact (h j x hx).drain
theorem WKnow.rounds {p : Int → List Ms} {w : Wd} (h : WKnow p w) (k : Nat) : WKnow p (roundN k w):=by
 induction k with
 | zero => exact h
 | succ k ih => exact ih.round
def settleK : Nat → Wd → Nat
 | 0,_ => 0
 | f + 1,w => if stillW w = true then 0 else settleK f (roundW w) + 1
theorem roundN_left (k : Nat) (w : Wd) : roundN (k + 1) w = roundN k (roundW w):=by
 induction k with
 | zero => rfl
 | succ k ih => rw [roundN,ih]; rfl
theorem settle_le : ∀ (f : Nat) (w : Wd),settleK f w ≤ f
 | 0,w => Nat.le_refl _
 | f + 1,w => by
  unfold settleK
  split
  ·omega
  ·have:=settle_le f (roundW w); omega
theorem settle_still : ∀ (f : Nat) (w : Wd),stillW (roundN (settleK f w) w) = true ∨ settleK f w = f
 | 0,w => .inr rfl
 | f + 1,w => by
  unfold settleK
  split
  ·rename_i h; exact .inl h
  ·rw [roundN_left]
   rcases settle_still f (roundW w) with q | q
   ·exact .inl q
   ·exact .inr (by rw [q])
theorem settle_not : ∀ (f : Nat) (w : Wd) (k : Nat),k < settleK f w → stillW (roundN k w) = false
 | 0,w,k,h => by cases h
 | f + 1,w,k,h => by
  unfold settleK at h
  split at h
  ·cases h
  ·rename_i hs
   cases k with
   | zero => simpa [roundN] using hs
   | succ k => rw [roundN_left]; exact settle_not f (roundW w) k (by omega)
theorem settle_ends {p : Int → List Ms} {w : Wd} (hw : GoodW w) (hk : WKnow p w) : stillW (roundN (settleK 200 w) w) = true:=by
 rcases settle_still 200 w with q | q
 ·exact q
 ·rw [q]; exact still_at hw hk
theorem KInv.ends {p : List Ms} {l : Ln} (h : KInv p l) (hi : idleL l = true) : l.r.told.length = p.length ∧ fitsS l.r.told p = true:=by
 obtain ⟨g,m,cs,e,k⟩:=h
 unfold idleL at hi
 rw [Bool.and_eq_true] at hi
 have hq:=List.isEmpty_iff.1 hi.1
 have hf:=List.isEmpty_iff.1 hi.2
 have h1:=k.idle hf
 rw [hq,List.append_nil] at e
 subst e
 have h2:=k.s.n
 refine ⟨by omega,?_⟩
 have:=k.r.fits []
 rw [List.append_nil] at this
 exact this
end Go.Proofs.Ytgaofjiidedcbad.mth
namespace Go.Proofs.Ytgaofjiidedcbad.ab
open Go Go.RowKit
open mth
theorem sl_snoc (l : List Sp) (s : Sp) : encSl (l ++ [s]) = encSl l ++ [aD (encSp s)]:=by simp [encSl]
def CFPlay (f : Nat) : Prop:=(∀ (n : Int) (l : List Sp),l.length ≤ 9223372036854775807 → n < 1 ∨ 3 < n → Told Try.prog f [vI n,sD 7 (encSl l)] [aD (encWd ⟨[],0⟩),sD 1 [],vI 3]) ∧
 (∀ (n : Nat) (l : List Sp),1 ≤ n ∧ n ≤ 3 → l.length ≤ 9223372036854775807 → 160 < l.length → Told Try.prog f [vI n,sD 7 (encSl l)] [aD (encWd ⟨[],0⟩),sD 1 [],vI 5]) ∧
 (∀ (n : Nat) (l : List Sp),1 ≤ n ∧ n ≤ 3 → l.length ≤ 160 → Told Try.prog f [vI n,sD 7 (encSl l)] [aD (encWd (runW (newW n) l).1),sD 1 ((runW (newW n) l).2.map vI),vI 0])
def CFRound (f : Nat) : Prop:=∀ w,GoodW w → w.ticks ≤ 1000000 → Told Try.prog f [aD (encWd w)] [aD (encWd (roundW w))]
def CFSettle (f : Nat) : Prop:=∀ w,GoodW w → w.ticks ≤ 100000 → Told Try.prog f [aD (encWd w)] [aD (encWd (roundN (settleK 200 w) w)),vI (settleK 200 w)]
structure SmallN (l : Ln) : Prop where
 q : l.s.queue.length ≤ 1048576
 f : l.s.flight.length ≤ 1048576
 e : l.r.early.length ≤ 1048576
 h : l.r.hold.length ≤ 1048576
 t : l.r.told.length ≤ 1048576
 th : l.there.length ≤ 1048576
 b : l.back.length ≤ 1048576
def CKIdle (f : Nat) : Prop:=∀ l,SmallN l → Told Try.prog f [aD (encLn l)] [vB (idleL l)]
def CKStill (f : Nat) : Prop:=∀ w : Wd,w.lanes.length ≤ 1048576 → (∀ l ∈ w.lanes,SmallN l) → Told Try.prog f [aD (encWd w)] [vB (stillW w)]
theorem good_smallN {l : Ln} (h : GoodL l) : SmallN l:=by
 have h1:=good_sizes h.r
 have h4:=h.s.q
 have h5:=h.s.f
 have h6:=h.t
 have h7:=h.b
 exact ⟨by omega,by omega,by omega,by omega,by omega,by omega,by omega⟩
end Go.Proofs.Ytgaofjiidedcbad.ab
namespace Go.Proofs.Ytgaofjiidedcbad.mth
def putSp (t : Int) (m : Ms) : Sp:=⟨2,t,0,0,false,m⟩
def msA : Ms:=⟨0,[97]⟩
def fullL (k : Nat) : Ln:=⟨{ zeroS with queue:=List.replicate k msA },zeroR,[],[]⟩
theorem full_put {k : Nat} (h : k < 6) : putE (fullL k).s msA = 0 ∧ ({ (fullL k) with s:=putS (fullL k).s msA } : Ln) = fullL (k + 1):=by
 have e : putE (fullL k).s msA = 0:=by
  unfold putE
  rw [if_neg (by decide)]
  show (if 5 < (List.replicate k msA).length then (9 : Int) else if (39 : Int) < 0 + ((List.replicate k msA).length : Int) then 4 else 0) = 0
  rw [List.length_replicate,if_neg (by omega),if_neg (by omega)]
 refine ⟨e,?_⟩
 unfold putS
 rw [if_pos e]
 unfold fullL
 simp only [List.replicate_succ']
theorem full_no : putE (fullL 6).s msA = 9 ∧ ({ (fullL 6) with s:=putS (fullL 6).s msA } : Ln) = fullL 6:=by
 have e : putE (fullL 6).s msA = 9:=by decide
 refine ⟨e,?_⟩
 unfold putS
 rw [if_neg (by rw [e]; decide)]
def fullW (k : Nat) : Wd:=⟨[fullL k],0⟩
theorem do_full (k : Nat) : doW (fullW k) (putSp 0 msA) = (⟨[{ (fullL k) with s:=putS (fullL k).s msA }],0⟩,putE (fullL k).s msA):=rfl
def errN (k : Nat) : List Int:=List.replicate (min k 6) 0 ++ List.replicate (k - 6) 9
theorem run_full (k : Nat) : runW (newW 1) (List.replicate k (putSp 0 msA)) = (fullW (min k 6),errN k):=by
 induction k with
 | zero => rfl
 | succ k ih =>
  rw [List.replicate_succ',runW_snoc,ih]
  simp only
  rw [do_full]
  by_cases h : k < 6
  ·have e1 : min k 6 = k:=by omega
   have e2 : min (k + 1) 6 = k + 1:=by omega
   obtain ⟨f1,f2⟩:=full_put h
   rw [e1,e2,f1,f2]
   unfold errN
   rw [e1,e2,show k - 6 = 0 by omega,show k + 1 - 6 = 0 by omega]
   simp only [List.replicate_zero,List.append_nil,List.replicate_succ']
   rfl
  ·have e1 : min k 6 = 6:=by omega
   have e2 : min (k + 1) 6 = 6:=by omega
   obtain ⟨f1,f2⟩:=full_no
   rw [e1,e2,f1,f2]
   unfold errN
   rw [e1,e2,show k + 1 - 6 = (k - 6) + 1 by omega,List.append_assoc,List.replicate_succ' (n:=k - 6)]
   rfl
theorem errN_at {k i : Nat} (h : i < k) : (errN k)[i]? = some (if i < 6 then 0 else 9):=by
 unfold errN
 by_cases h6 : i < 6
 ·rw [List.getElem?_append_left (by rw [List.length_replicate]; omega),List.getElem?_replicate,if_pos (by omega),if_pos h6]
 ·rw [List.getElem?_append_right (by rw [List.length_replicate]; omega),List.length_replicate,List.getElem?_replicate,if_pos (by omega),if_neg h6]
theorem errN_len (k : Nat) : (errN k).length = k:=by unfold errN; simp; omega
theorem full_told : ∃ l,(roundN (settleK 200 (fullW 6)) (fullW 6)).lanes[0]? = some l ∧ l.r.told.length = 6:=by
 have hr:=run_full 6
 have hw : GoodW (fullW 6):=by
  have:=(good_run (good_new (by decide : 1 ≤ 1 ∧ 1 ≤ 3)) (List.replicate 6 (putSp 0 msA)) 6).1
  rw [List.take_of_length_le (by simp),hr] at this
  exact this
 have hk:=wknow_run 1 (List.replicate 6 (putSp 0 msA)) (fun s hs => by rw [(List.mem_replicate.1 hs).2]; decide) 6 (by simp)
 rw [List.take_of_length_le (by simp),hr] at hk
 have hend:=settle_ends hw hk
 have hx:=hk.rounds (settleK 200 (fullW 6))
 have hl : (roundN (settleK 200 (fullW 6)) (fullW 6)).lanes.length = 1:=by rw [roundN_len]; rfl
 obtain ⟨y,hy⟩ : ∃ y,(roundN (settleK 200 (fullW 6)) (fullW 6)).lanes[0]? = some y:=⟨_,List.getElem?_eq_getElem (by omega)⟩
 refine ⟨y,hy,?_⟩
 have hid : idleL y = true:=by unfold stillW at hend; exact List.all_eq_true.1 hend y (List.mem_of_getElem? hy)
 have:=((hx 0 y hy).ends hid).1
 rw [this]
 rfl
end Go.Proofs.Ytgaofjiidedcbad.mth
namespace Go.Proofs.Ytgaofjiidedcbad.ab
set_option maxRecDepth 100000
open Go Go.RowKit
def Q32r0 : IC:=cReg Try.prog [⟨some 4,none,iAlo 4 [zI,zI,zI,zI,zF,zI,zS]⟩] [0,1,4] [4]
def Q32r1 : IC:=cReg Try.prog [xM 8 1,xV1 9 22 8,xM 7 9,xE 10 7 0,xE 11 7 1,⟨some 5,none,iAlo 5 [zI,zS]⟩,xS 2 5 10,xT 6 11] [0,4,5] [4,5]
def Q32r2 : IC:=cReg Try.prog [xM 12 0,xA 13 2 5,⟨some 14,none,iBld 14 [zI,zI,zI,zI,zF,zI,zS] [(0,1),(1,1),(5,2)] [(.const (.int .i64 2)),(.tmp 12),(.tmp 13)]⟩,xS 7 4 14] [4] [4]
def lktop_put : IC:=(cSeq Q32r0 (cSeq Q32r1 (cSeq Q32r2 cRet)))
theorem told_lktop_put {args r : List D} (hl : args.length = 2) (h : lktop_put (start args) (fin [(4,some (7,true))] r)) : Told Try.prog 13 args r :=
 told_of follows Try.func13 rfl (an:=[([],[0,1,4],[4],[]),([],[0,4,5],[4,5],[]),([],[4],[4],[])]) (by kernel_rfl) (by kernel_rfl) (by rw [hl]; decide +kernel) h
def Q31r0 : IC:=cReg Try.prog [⟨some 0,none,iMov 0 (.const (.bool false)) true⟩] [] []
def Q31r1 : IC:=cReg Try.prog [⟨some 7,none,iCall 7 13 [(.const (.int .i64 0)),(.const (.string ⟨#[48,58,54,49]⟩))]⟩,⟨some 8,none,iCall 8 13 [(.const (.int .i64 1)),(.const (.string ⟨#[49,58,54,50]⟩))]⟩,⟨some 9,none,iRow 9 30 7 [(.tmp 7),(.tmp 8)]⟩,⟨some 10,none,iCall 10 9 [(.const (.int .i64 2)),(.tmp 9)]⟩,xM 6 10,xE 11 6 0,xE 12 6 1,xE 13 6 2,⟨some 1,none,iAlo 1 [zS,zI]⟩,xS 2 1 11,xT 2 12,xT 3 13] [1,3] [1]
def Q31r2 : IC:=cReg Try.prog [xA 15 2 1,xV1 16 10 15,xM 14 16,xE 17 14 0,xE 18 14 1,⟨some 4,none,iAlo 4 [zS,zI]⟩,xS 2 4 17,xT 5 18] [3,4] [4]
def Q31r3_0 : IC:=cReg Try.prog [xM 19 3,xC 20 .eql 19 0,xM 21 20,xG 21 true (xA 22 2 4),xG 21 true (xV1 23 11 22),xQ 24 21 23,xM 25 24,xG 25 true (xF 26 0 4),xG 25 true (xL 27 1 26),xG 25 true (xN 28 27)] [4,25,28] [4]
def Q31r3_1 : IC:=cReg Try.prog [xG 25 true (xC 29 .eql 28 2),xQ 30 25 29,xM 31 30,xG 31 true (xF 32 0 4),xG 31 true (xL 33 1 32),⟨some 34,some (31,true),iIaS 34 17 (.tmp 33) (.const (.int .i64 1))⟩,xG 31 true (xF 35 7 34),xG 31 true (xF 36 6 35),xG 31 true (xL 37 1 36),xG 31 true (xN 38 37),xG 31 true (xC 39 .eql 38 1),xQ 40 31 39,xT 0 40] [0] []
def Q31r3 : IC:=(cSeq Q31r3_0 Q31r3_1)
def lktop_alive : IC:=(cSeq Q31r0 (cSeq Q31r1 (cSeq Q31r2 (cSeq Q31r3 cRet))))
theorem told_lktop_alive {args r : List D} (hl : args.length = 0) (h : lktop_alive (start args) (fin [(0,none)] r)) : Told Try.prog 7 args r :=
 told_of follows Try.func7 rfl (an:=[([],[],[],[]),([],[1,3],[1],[]),([],[3,4],[4],[]),([(10,[4,25,28],[4])],[0],[],[])]) (by kernel_rfl) (by kernel_rfl) (by rw [hl]; decide +kernel) h
def Q30r0 : IC:=cReg Try.prog [⟨some 2,none,iMov 2 (.const (.bool false)) true⟩] [0] []
def Q30r1 : IC:=cReg Try.prog [⟨some 11,none,iCall 11 7 []⟩,xO 12 11] [0,12] []
def Q30r2 : IC:=cReg Try.prog [⟨some 2,none,iMov 2 (.const (.bool false)) true⟩] [2] []
def Q30c1a : IC:=(cSeq Q30r2 cRet)
def Q30c1 : IC:=cCond (.tmp 12) Q30c1a cSkip
def Q30r3 : IC:=cReg Try.prog [xM 13 0,xC 14 .lss 13 0,xM 15 14,xG 15 false (xM 16 0),xG 15 false (xC 17 .gtr 16 20),xP 18 15 17] [0,18] []
def Q30r4 : IC:=cReg Try.prog [⟨some 2,none,iMov 2 (.const (.bool true)) true⟩] [2] []
def Q30c2a : IC:=(cSeq Q30r4 cRet)
def Q30c2 : IC:=cCond (.tmp 18) Q30c2a cSkip
def Q30r5 : IC:=cReg Try.prog [⟨some 3,none,iMov 3 (.const (.slice none 0 0)) true⟩] [0,3] []
def Q30r6 : IC:=cReg Try.prog [xM 19 0,⟨some 20,none,iBin 20 .add (.const (.int .i64 6)) (.tmp 19)⟩,⟨some 21,none,iMov 21 (.const (.int .i64 0)) false⟩] [3,20,21] []
def Q30r7 : IC:=cReg Try.prog [xB 22 .lss 21 20] [3,20,21,22] []
def Q30c5 : IC:=cCond (.tmp 22) cSkip (cExit 0)
def Q30r8 : IC:=cReg Try.prog [xT 23 3,⟨some 24,none,iCall 24 13 [(.const (.int .i64 0)),(.const (.string ⟨#[48,58,54,49]⟩))]⟩,xR 25 30 7 24,xW 26 30 7 72 23 25,xT 3 26] [3,20,21] []
def Q30b6 : IC:=cBlock 1 Q30r8
def Q30r9 : IC:=cReg Try.prog [xC 27 .add 21 1,xM 21 27] [3,20,21] []
def Q30l4a : IC:=(cSeq Q30r7 (cSeq Q30c5 (cSeq Q30b6 Q30r9)))
def Q30l4 : IC:=cLoop Q30l4a
def Q30b3 : IC:=cBlock 0 Q30l4
def Q30r10 : IC:=cReg Try.prog [xM 29 3,⟨some 30,none,iCall 30 9 [(.const (.int .i64 1)),(.tmp 29)]⟩,xM 28 30,xE 31 28 0,xE 32 28 1,xE 33 28 2,⟨some 4,none,iAlo 4 [zS,zI]⟩,xS 2 4 31,xT 5 32,xT 6 33] [3,4,5,6] [4]
def Q30r11 : IC:=cReg Try.prog [xM 34 6,xC 35 .neq 34 0,xM 36 35,xG 36 false (xM 37 5),xG 36 false (xN 38 37),xG 36 false (xM 39 3),xG 36 false (xN 40 39),xG 36 false (xB 41 .neq 38 40),xP 42 36 41] [4,5,42] [4]
def Q30r12 : IC:=cReg Try.prog [⟨some 2,none,iMov 2 (.const (.bool false)) true⟩] [2] []
def Q30c7a : IC:=(cSeq Q30r12 cRet)
def Q30c7 : IC:=cCond (.tmp 42) Q30c7a cSkip
def Q30r13 : IC:=cReg Try.prog [xM 43 5,xN 44 43,⟨some 45,none,iMov 45 (.const (.int .i64 0)) false⟩] [4,43,44,45] [4]
def Q30r14 : IC:=cReg Try.prog [xB 46 .lss 45 44] [4,43,44,45,46] [4]
def Q30c10 : IC:=cCond (.tmp 46) cSkip (cExit 2)
def Q30r15 : IC:=cReg Try.prog [xM 47 45,xI 48 1 43 45,xL 49 1 48,xT 7 47,xT 8 49] [4,7,8,43,44,45] [4]
def Q30r16 : IC:=cReg Try.prog [xM 50 8,xC 51 .eql 50 0,xM 52 7,xC 53 .lss 52 6,⟨some 54,none,iBinB 54 false (.tmp 51) (.tmp 53)⟩] [4,43,44,45,54] [4]
def Q30r17 : IC:=cReg Try.prog [⟨some 2,none,iMov 2 (.const (.bool false)) true⟩] [2] []
def Q30c12a : IC:=(cSeq Q30r17 cRet)
def Q30c12 : IC:=cCond (.tmp 54) Q30c12a cSkip
def Q30b11 : IC:=cBlock 3 (cSeq Q30r15 (cSeq Q30r16 Q30c12))
def Q30r18 : IC:=cReg Try.prog [xC 55 .add 45 1,xM 45 55] [4,43,44,45] [4]
def Q30l9a : IC:=(cSeq Q30r14 (cSeq Q30c10 (cSeq Q30b11 Q30r18)))
def Q30l9 : IC:=cLoop Q30l9a
def Q30b8 : IC:=cBlock 2 Q30l9
def Q30r19 : IC:=cReg Try.prog [xA 57 2 4,xV1 58 10 57,xM 56 58,xE 59 56 0,xE 60 56 1,⟨some 9,none,iAlo 9 [zS,zI]⟩,xS 2 9 59,xT 10 60] [9] [9]
def Q30r20 : IC:=cReg Try.prog [xA 61 2 9,xV1 62 11 61,xM 63 62,xG 63 true (xF 64 0 9),xG 63 true (xL 65 1 64),⟨some 66,some (63,true),iIaS 66 17 (.tmp 65) (.const (.int .i64 0))⟩,xG 63 true (xF 67 7 66),xG 63 true (xF 68 6 67),xG 63 true (xL 69 1 68),xG 63 true (xN 70 69),xG 63 true (xC 71 .eql 70 6),xQ 72 63 71,xT 2 72] [2] []
def lktop_TopFull : IC:=(cSeq Q30r0 (cSeq (cSeq Q30r1 Q30c1) (cSeq (cSeq Q30r3 Q30c2) (cSeq Q30r5 (cSeq (cSeq Q30r6 Q30b3) (cSeq Q30r10 (cSeq (cSeq Q30r11 Q30c7) (cSeq (cSeq Q30r13 Q30b8) (cSeq Q30r19 (cSeq Q30r20 cRet))))))))))
theorem told_lktop_TopFull {args r : List D} (hl : args.length = 1) (h : lktop_TopFull (start args) (fin [(2,none)] r)) : Told Try.prog 5 args r :=
 told_of follows Try.func5 rfl (an:=[([],[0],[],[]),([],[0,12],[],[]),([],[2],[],[]),([],[0,18],[],[]),([],[2],[],[]),([],[0,3],[],[]),([],[3,20,21],[],[]),([],[3,20,21,22],[],[]),([],[3,20,21],[],[]),([],[3,20,21],[],[]),([],[3,4,5,6],[4],[]),([],[4,5,42],[4],[]),([],[2],[],[]),([],[4,43,44,45],[4],[]),([],[4,43,44,45,46],[4],[]),([],[4,7,8,43,44,45],[4],[]),([],[4,43,44,45,54],[4],[]),([],[2],[],[]),([],[4,43,44,45],[4],[]),([],[9],[9],[]),([],[2],[],[])]) (by kernel_rfl) (by kernel_rfl) (by rw [hl]; decide +kernel) h
open mth
def CTParse (f : Nat) : Prop:=∀ (S : ByteArray) (xs : List UInt8),S.data.toList = xs → S.size ≤ 100 → parseE xs = 0 → Told Try.prog f [vD (.string S)] [aD (encMs (parseM xs)),vI 0]
theorem tput_told (hT : CTParse 22) (t : Int) (S : ByteArray) (xs : List UInt8) (h1 : S.data.toList = xs) (h2 : S.size ≤ 100) (h3 : parseE xs = 0) : Told Try.prog 13 [vI t,vD (.string S)] [aD (encSp (putSp t (parseM xs)))]:=by
 refine told_lktop_put rfl ?_
 have hq:=hT S xs h1 h2 h3
 generalize parseM xs = m at *
 simp only [encSp,putSp,encMs] at hq ⊢
 refine wk0 ?_
 refine cg [[aD (encMs m),vI 0]] @encMs.eq_1 ?_ ?_
 ·exact obl_cons hq obl_nil
 refine wk0 ?_
 exact ValsLe.refl _
def msB : Ms:=⟨1,[98]⟩
def atW : Wd:=(runW (newW 2) [putSp 0 msA,putSp 1 msB]).1
theorem at_k : settleK 200 atW = 5:=by decide +kernel
theorem at_still : stillW (roundN 5 atW) = true:=by decide +kernel
theorem at_told : ∃ l,(roundN 5 atW).lanes[1]? = some l ∧ l.r.told.length = 1:=⟨(roundN 5 atW).lanes.getD 1 zeroL,getD_get (by decide +kernel),by decide +kernel⟩
theorem aliveTop_told (hT : CTParse 22) (hP : CFPlay 9) (hS : CFSettle 10) (hK : CKStill 11) : Told Try.prog 7 [] [vB true]:=by
 refine told_lktop_alive rfl ?_
 have g0 : GoodW atW:=by
  have:=(good_run (good_new (by decide : 1 ≤ 2 ∧ 2 ≤ 3)) [putSp 0 msA,putSp 1 msB] 2).1
  exact this
 have a1:=tput_told hT 0 ⟨#[48,58,54,49]⟩ [48,58,54,49] rfl (by decide) (by decide)
 have a2:=tput_told hT 1 ⟨#[49,58,54,50]⟩ [49,58,54,50] rfl (by decide) (by decide)
 rw [show parseM [48,58,54,49] = msA from rfl] at a1
 rw [show parseM [49,58,54,50] = msB from rfl] at a2
 have h1:=hP.2.2 2 [putSp 0 msA,putSp 1 msB] (by decide) (by decide)
 have h2:=hS atW g0 (by decide)
 have g6:=g0.rounds 5
 have h3:=hK (roundN 5 atW) (by have:=g6.n; omega) (fun l hl => good_smallN (g6.l l hl))
 rw [show (runW (newW 2) [putSp 0 msA,putSp 1 msB]).1 = atW from rfl] at h1
 rw [at_k] at h2
 rw [at_still] at h3
 obtain ⟨l,q1,q2⟩:=at_told
 have r1:=at_ll q1
 have n1 : (((roundN 5 atW).lanes.length : Nat) : Int) = 2:=by rw [roundN_len]; rfl
 have z1 : ((l.r.told.length : Nat) : Int) = 1:=by rw [q2]; rfl
 have cn : ((2 : Nat) : Int) = 2:=rfl
 have c6 : ((5 : Nat) : Int) = 5:=rfl
 rw [cn] at h1
 rw [c6] at h2
 generalize (runW (newW 2) [putSp 0 msA,putSp 1 msB]).2 = es at *
 generalize roundN 5 atW = x at *
 generalize atW = w at *
 generalize hs1 : putSp 0 msA = s1 at *
 generalize hs2 : putSp 1 msB = s2 at *
 simp only [encWd,encSl,encSp,encLn,List.map_cons,List.map_nil] at h1 h2 h3 a1 a2 r1
 refine wk0 ?_
 refine cg [[aD (encSp s1)],[aD (encSp s2)],[aD (encWd w),sD 1 (es.map vI),vI 0]] (an2 @encWd.eq_1 @encSp.eq_1) ?_ ?_
 ·exact obl_cons a1 (obl_cons a2 (obl_cons h1 obl_nil))
 refine wk0 ?_
 refine cg [[aD (encWd x),vI 5]] @encWd.eq_1 ?_ ?_
 ·exact obl_cons h2 obl_nil
 refine wk (an6 @n1 @r1 @z1 @len_ll @len_ml @Int.toNat_one) ?_
 refine cg [[vB true]] (an6 @n1 @r1 @z1 @len_ll @len_ml @Int.toNat_one) ?_ ?_
 ·exact obl_cons h3 obl_nil
 refine wk (an6 @n1 @r1 @z1 @len_ll @len_ml @Int.toNat_one) ?_
 exact ValsLe.refl _
end Go.Proofs.Ytgaofjiidedcbad.ab
