import Derived.Test.YtgaofjiidedcbadM30
import Derived.Test.YtgaofjiidedcbadM27
import Derived.Test.YtgaofjiidedcbadM28
import Derived.Test.YtgaofjiidedcbadPLane3
set_option linter.unusedVariables false
set_option linter.unusedSimpArgs false
namespace Go.Proofs.Ytgaofjiidedcbad.mth
theorem live_new {m : List Ms} {cs : List Ch} {l : Ln} (h : Know m cs l) {x : Ms} {rest : List Ms} (hq : l.s.queue = x :: rest) (hf : l.s.flight.length ≤ 3) {y : Ln}
  (hy : y = ⟨hearS (newS l.s x rest) (ackC l.r),hearR (sayR l.r).1 (newC l.s x),[],[]⟩) : phiL y < phiL l:=by
 have h':=h.new hq hf
 have hn:=h.s.n
 have hcn : (newC l.s x).number = l.s.next:=rfl
 have hnc : ¬ CameN l.r (newC l.s x).number:=by
  rw [hcn]
  rintro (w | w)
  ·have:=h.r.n; omega
  ·have:=h.r.e _ (List.contains_iff_mem.1 w); omega
 have hcc : newC l.s x ∈ cs ++ [newC l.s x]:=by simp
 have hb : cameL (ackC l.r) (newC l.s x).number = false:=by
  cases e : cameL (ackC l.r) (newC l.s x).number with
  | false => rfl
  | true => exact absurd (came_ack.1 e) hnc
 have hfl : y.s.flight = unseen l ++ [newC l.s x]:=by
  rw [hy,ack_eq]
  show (l.s.flight ++ [newC l.s x]).filter _ = _
  rw [List.filter_append,List.filter_cons_of_pos (by rw [hb]; rfl)]
  rfl
 have hqy : y.s.queue = rest:=by rw [hy,ack_eq]; rfl
 have hry : y.r = hearR (sayR l.r).1 (newC l.s x):=by rw [hy]
 have hcame : ∀ z ∈ cs ++ [newC l.s x],CameN y.r z.number ↔ CameN l.r z.number ∨ (seenR l.r (newC l.s x).number = false ∧ z = newC l.s x):=fun z hz => by
  rw [hry,hear_came h'.s.m h.r.g.say hcc hz,say_came,say_seen]
 have hU : ∀ z ∈ unseen l,z ∈ l.s.flight ∧ ¬ CameN l.r z.number:=fun z hz => by
  obtain ⟨q1,q2⟩:=List.mem_filter.1 hz
  refine ⟨q1,fun w => ?_⟩
  rw [came_ack.2 w] at q2
  cases q2
 have huU : (unseen l).filter (fun z => !cameL (ackC y.r) z.number) = unseen l:=by
  refine List.filter_eq_self.2 fun z hz => ?_
  obtain ⟨q1,q2⟩:=hU z hz
  cases hb : cameL (ackC y.r) z.number with
  | false => rfl
  | true =>
   rcases (hcame z (List.mem_append_left _ (h.s.f z q1))).1 (came_ack.1 hb) with w | w
   ·exact absurd w q2
   ·have h1:=(h.s.m.num z (h.s.f z q1)).2
    rw [w.2,hcn] at h1
    omega
 have huy : unseen y = unseen l ++ [newC l.s x].filter (fun z => !cameL (ackC y.r) z.number):=by
  unfold unseen
  rw [hfl,List.filter_append]
  exact congrArg (· ++ _) huU
 have hul:=unseen_le l
 have hql : l.s.queue.length = rest.length + 1:=by rw [hq]; rfl
 unfold phiL
 rw [hqy,hfl,hql,List.length_append,List.length_singleton]
 by_cases hs : seenR l.r (newC l.s x).number = true
 ·have e : [newC l.s x].filter (fun z => !cameL (ackC y.r) z.number) = [newC l.s x]:=by
   refine List.filter_eq_self.2 fun z hz => ?_
   rw [List.mem_singleton.1 hz]
   cases hb : cameL (ackC y.r) (newC l.s x).number with
   | false => rfl
   | true =>
    rcases (hcame _ hcc).1 (came_ack.1 hb) with w | w
    ·exact absurd w hnc
    ·rw [hs] at w; cases w.1
  rw [huy,e,List.length_append,List.length_singleton,Nat.sub_self]
  exact phi_more (by omega)
 ·have hs : seenR l.r (newC l.s x).number = false:=by simpa using hs
  have e : [newC l.s x].filter (fun z => !cameL (ackC y.r) z.number) = []:=by
   refine List.filter_eq_nil_iff.2 fun z hz => ?_
   rw [List.mem_singleton.1 hz,came_ack.2 ((hcame _ hcc).2 (.inr ⟨hs,rfl⟩))]
   simp
  rw [huy,e,List.append_nil,show (unseen l).length + 1 - (unseen l).length = 1 by omega]
  exact phi_new (by omega)
theorem sayL_again {s : Sd} (h : (s.queue = [] ∧ s.flight.length ≠ 0) ∨ 3 < s.flight.length) : sayL s = ({ s with turn:=againK s + 1 },s.flight.getD (againK s).toNat zeroC,true):=by
 unfold sayL
 split
 ·rw [if_neg (by omega)]
 ·rename_i x r hq
  rw [if_pos (by
   rcases h with ⟨w,_⟩ | w
   ·rw [hq] at w; cases w
   ·exact w)]
theorem sayL_new {s : Sd} {x : Ms} {r : List Ms} (hq : s.queue = x :: r) (hf : ¬ 3 < s.flight.length) : sayL s = (newS s x r,newC s x,true):=by
 unfold sayL
 rw [hq]
 simp only
 rw [if_neg hf]
theorem live_step {p : List Ms} {l : Ln} (h : KInv p l) (ht : l.there = []) (hb : l.back = []) (hi : idleL l = false) (ho : l.r.owes = true) : phiL (goL l) < phiL l:=by
 have e:=go_eq h.1 ht hb hi
 rw [if_pos ho] at e
 obtain ⟨g,m,cs,ep,k⟩:=h
 unfold idleL at hi
 have hf4:=g.s.f
 by_cases hf : 3 < l.s.flight.length
 ·rw [sayL_again (.inr hf)] at e
  exact live_again k (.inr (by omega)) (by omega) e
 ·cases hq : l.s.queue with
  | nil =>
   rw [hq] at hi
   have hne : l.s.flight.length ≠ 0:=by
    intro q
    rw [List.length_eq_zero_iff.1 q] at hi
    cases hi
   rw [sayL_again (.inl ⟨hq,hne⟩)] at e
   exact live_again k (.inl (by rw [hq]; rfl)) (by omega) e
  | cons x r =>
   rw [sayL_new hq hf] at e
   exact live_new k hq (by omega) e
def Soon (p : List Ms) (k : Nat) (l : Ln) : Prop:=l.there = [] ∧ l.back = [] ∧ (idleL l = true ∨ (KInv p l ∧ l.r.owes = true ∧ phiL l ≤ k))
theorem Soon.zero {p : List Ms} {l : Ln} (h : Soon p 0 l) : idleL l = true:=by
 obtain ⟨h1,h2,h3⟩:=h
 cases hi : idleL l with
 | true => rfl
 | false =>
  rcases h3 with q | ⟨q1,q2,q3⟩
  ·rw [hi] at q; cases q
  ·have:=live_step q1 h1 h2 hi q2; omega
theorem getD_get {α : Type} {l : List α} {j : Nat} {d : α} (h : j < l.length) : l[j]? = some (l.getD j d):=by
 rw [List.getD_eq_getElem?_getD,List.getElem?_eq_getElem h]; rfl
theorem do_len (w : Wd) (s : Sp) : (doW w s).1.lanes.length = w.lanes.length:=by
 unfold doW
 split
 ·rfl
 ·split
  ·rfl
  ·simp
theorem lenW_run (w : Wd) (l : List Sp) : (runW w l).1.lanes.length = w.lanes.length:=by
 have : ∀ (l : List Sp) (x : Wd × List Int),(l.foldl (fun x s => ((doW x.1 s).1,x.2 ++ [(doW x.1 s).2])) x).1.lanes.length = x.1.lanes.length:=by
  intro l
  induction l with
  | nil => intro x; rfl
  | cons s l ih => intro x; rw [List.foldl_cons,ih]; exact do_len _ _
 exact this l (w,[])
def mineB (t : Int) (s : Sp) : Bool:=s.kind == 1 || s.tenant == t
def onlyW (l : List Sp) (t : Int) : List Sp:=l.filter (mineB t)
structure Sim (t : Nat) (w x : Wd) : Prop where
 k : w.ticks = x.ticks
 n : w.lanes.length = x.lanes.length
 l : w.lanes[t]? = x.lanes[t]?
theorem Sim.refl (t : Nat) (w : Wd) : Sim t w w:=⟨rfl,rfl,rfl⟩
theorem Sim.symm {t : Nat} {w x : Wd} (h : Sim t w x) : Sim t x w:=⟨h.k.symm,h.n.symm,h.l.symm⟩
theorem Sim.trans {t : Nat} {w x y : Wd} (h : Sim t w x) (g : Sim t x y) : Sim t w y:=⟨h.k.trans g.k,h.n.trans g.n,h.l.trans g.l⟩
theorem who_sim {t : Nat} {w x : Wd} (h : Sim t w x) (s : Sp) : whoW w s = whoW x s:=by unfold whoW; rw [h.k,h.n]
theorem ticks_sim {t : Nat} {w x : Wd} (h : Sim t w x) (s : Sp) : ticksW w s = ticksW x s:=by unfold ticksW; rw [h.k]
theorem doW_ticks (w : Wd) (s : Sp) : (doW w s).1.ticks = if s.kind < 1 ∨ 6 < s.kind then w.ticks else ticksW w s:=by
 unfold doW
 split
 ·rfl
 ·split
  ·rfl
  ·rfl
theorem doW_lane (w : Wd) (s : Sp) (t : Nat) : (doW w s).1.lanes[t]? = if (s.kind < 1 ∨ 6 < s.kind) ∨ whoW w s ≠ t then w.lanes[t]? else (w.lanes[t]?).map fun l => (laneW l s).1:=by
 unfold doW
 by_cases h1 : s.kind < 1 ∨ 6 < s.kind
 ·rw [if_pos h1,if_pos (.inl h1)]
 rw [if_neg h1]
 by_cases h2 : whoW w s < 0 ∨ (w.lanes.length : Int) ≤ whoW w s
 ·rw [if_pos h2]
  by_cases h3 : whoW w s = t
  ·rw [if_neg (by intro q; rcases q with q | q; exact h1 q; exact q h3)]
   simp only
   rw [List.getElem?_eq_none (by omega)]
   rfl
  ·rw [if_pos (.inr h3)]
 rw [if_neg h2]
 simp only
 by_cases h3 : whoW w s = t
 ·rw [if_neg (by intro q; rcases q with q | q; exact h1 q; exact q h3)]
  rw [h3,Int.toNat_natCast,List.getElem?_set_self (by omega),getD_get (d:=zeroL) (by omega : t < w.lanes.length)]
  rfl
 ·rw [if_pos (.inr h3),List.getElem?_set_ne (by omega)]
theorem Sim.step {t : Nat} {w x : Wd} (h : Sim t w x) (s : Sp) : Sim t (doW w s).1 (doW x s).1:=by
 refine ⟨?_,by rw [do_len,do_len]; exact h.n,?_⟩
 ·rw [doW_ticks,doW_ticks,ticks_sim h,h.k]
 ·rw [doW_lane,doW_lane,who_sim h,h.l]
theorem Sim.other {t : Nat} {w x : Wd} (h : Sim t w x) {s : Sp} (h1 : s.kind ≠ 1) (ht : s.tenant ≠ t) : Sim t (doW w s).1 x:=by
 refine ⟨?_,by rw [do_len]; exact h.n,?_⟩
 ·rw [doW_ticks]
  unfold ticksW
  rw [if_neg h1]
  split <;> exact h.k
 ·rw [doW_lane,if_pos (.inr (by unfold whoW; rw [if_neg h1]; exact ht))]
  exact h.l
def steps (w : Wd) (l : List Sp) : Wd:=l.foldl (fun x s => (doW x s).1) w
theorem runW_fst (w : Wd) (l : List Sp) : (runW w l).1 = steps w l:=by
 have : ∀ (l : List Sp) (x : Wd × List Int),(l.foldl (fun x s => ((doW x.1 s).1,x.2 ++ [(doW x.1 s).2])) x).1 = steps x.1 l:=by
  intro l
  induction l with
  | nil => intro x; rfl
  | cons s l ih => intro x; rw [List.foldl_cons,ih]; rfl
 exact this l (w,[])
theorem sim_only (t : Nat) : ∀ (l : List Sp) {w x : Wd},Sim t w x → Sim t (steps w l) (steps x (onlyW l t))
 | [],w,x,h => h
 | s :: l,w,x,h => by
  unfold onlyW
  cases hm : mineB t s with
  | true =>
   rw [List.filter_cons_of_pos hm]
   exact sim_only t l (h.step s)
  | false =>
   rw [List.filter_cons_of_neg (by rw [hm]; simp)]
   unfold mineB at hm
   simp only [Bool.or_eq_false_iff,beq_eq_false_iff_ne] at hm
   exact sim_only t l (h.other hm.1 hm.2)
theorem sim_run (t : Nat) (w : Wd) (l : List Sp) : Sim t (runW w l).1 (runW w (onlyW l t)).1:=by
 rw [runW_fst,runW_fst]; exact sim_only t l (Sim.refl t w)
theorem sim_same (t : Nat) (w : Wd) {l m : List Sp} (h : onlyW l t = onlyW m t) : Sim t (runW w l).1 (runW w m).1 :=
 (sim_run t w l).trans (by rw [h]; exact (sim_run t w m).symm)
theorem only_len (l : List Sp) (t : Int) : (onlyW l t).length ≤ l.length:=List.length_filter_le _ _
def ofW (w : Wd) (t : Int) : Ln × Bool:=if t < 0 ∨ (w.lanes.length : Int) ≤ t then (zeroL,false) else (w.lanes.getD t.toNat zeroL,true)
theorem KInv.lane {p : List Ms} {l : Ln} (h : KInv p l) (s : Sp) (h6 : s.kind ≠ 6) : KInv (p ++ (if (laneW l s).2 = 0 ∧ s.kind = 2 then [s.msg] else [])) (laneW l s).1:=by
 unfold laneW
 by_cases h1 : s.kind = 1
 ·rw [if_pos h1,if_neg (by omega),List.append_nil]
  exact h.speak
 rw [if_neg h1]
 by_cases h2 : s.kind = 2
 ·rw [if_pos h2]
  have:=h.put s.msg
  by_cases he : putE l.s s.msg = 0
  ·rw [if_pos he] at this
   rw [if_pos ⟨he,h2⟩]
   exact this
  ·rw [if_neg he] at this
   rw [if_neg (fun w => he w.1),List.append_nil]
   exact this
 ·rw [if_neg h2,if_neg (fun w => h2 w.2),List.append_nil]
  exact h.packet _ _ _ _ h6
def WKnow (p : Int → List Ms) (w : Wd) : Prop:=∀ (j : Nat) (x : Ln),w.lanes[j]? = some x → KInv (p j) x
theorem WKnow.step {p : Int → List Ms} {w : Wd} (h : WKnow p w) (s : Sp) (h6 : s.kind ≠ 6) : WKnow (fun t => p t ++ (if (doW w s).2 = 0 ∧ s.kind = 2 ∧ s.tenant = t then [s.msg] else [])) (doW w s).1:=by
 unfold doW
 split
 ·intro j x hx
  simp only
  rw [if_neg (by simp),List.append_nil]
  exact h j x hx
 split
 ·intro j x hx
  simp only
  rw [if_neg (by simp),List.append_nil]
  exact h j x hx
 ·rename_i h1 h2
  intro j x hx
  simp only at hx ⊢
  have hlt : (whoW w s).toNat < w.lanes.length:=by omega
  have hg : w.lanes.getD (whoW w s).toNat zeroL = w.lanes[(whoW w s).toNat]:=by rw [List.getD_eq_getElem?_getD,List.getElem?_eq_getElem hlt,Option.getD_some]
  rw [hg] at hx ⊢
  have hl:=h (whoW w s).toNat _ (List.getElem?_eq_getElem hlt)
  by_cases hj : (whoW w s).toNat = j
  ·subst hj
   rw [List.getElem?_set_self (by omega)] at hx
   cases hx
   have:=hl.lane s h6
   by_cases hk : (laneW w.lanes[(whoW w s).toNat] s).2 = 0 ∧ s.kind = 2
   ·have ht : s.tenant = ((whoW w s).toNat : Int):=by
     have : whoW w s = s.tenant:=by unfold whoW; rw [if_neg (by omega)]
     omega
    rw [if_pos hk] at this
    rw [if_pos ⟨hk.1,hk.2,ht⟩]
    exact this
   ·rw [if_neg hk] at this
    rw [if_neg (fun w => hk ⟨w.1,w.2.1⟩)]
    exact this
  ·rw [List.getElem?_set_ne hj] at hx
   rw [if_neg,List.append_nil]
   ·exact h j x hx
   ·rintro ⟨w1,w2,w3⟩
    have : whoW w s = s.tenant:=by unfold whoW; rw [if_neg (by omega)]
    omega
def tickS : Sp:=⟨1,0,0,0,false,⟨0,[]⟩⟩
def drainW (w : Wd) : Wd:=⟨w.lanes.map drainL,w.ticks⟩
def roundW (w : Wd) : Wd:=(doW (drainW w) tickS).1
def roundN : Nat → Wd → Wd
 | 0,w => w
 | k + 1,w => roundW (roundN k w)
def stillW (w : Wd) : Bool:=w.lanes.all idleL
theorem GoodL.there_all : ∀ (q : List (List UInt8)) {l : Ln},GoodL l → l.there = q → GoodL { l with r:=q.foldl hearP l.r,there:=[] }
 | [],l,h,e => by
  obtain ⟨s,r,t,b⟩:=l
  simp only at e
  subst e
  exact h
 | x :: q,l,h,e => by
  have h1:=h.come 0 false
  rw [come_there e] at h1
  exact GoodL.there_all q h1 rfl
theorem GoodL.back_all : ∀ (q : List (List UInt8)) {l : Ln},GoodL l → l.back = q → GoodL { l with s:=q.foldl hearQ l.s,back:=[] }
 | [],l,h,e => by
  obtain ⟨s,r,t,b⟩:=l
  simp only at e
  subst e
  exact h
 | x :: q,l,h,e => by
  have h1:=h.come 0 true
  rw [come_back e] at h1
  exact GoodL.back_all q h1 rfl
theorem GoodL.drain {l : Ln} (h : GoodL l) : GoodL (drainL l):=GoodL.back_all l.back (GoodL.there_all l.there h rfl) rfl
theorem GoodW.drain {w : Wd} (h : GoodW w) : GoodW (drainW w):=⟨by simpa [drainW] using h.n,h.t,fun l hl => by
 obtain ⟨x,hx,e⟩:=List.mem_map.1 hl
 rw [← e]; exact (h.l x hx).drain⟩
theorem GoodW.round {w : Wd} (h : GoodW w) : GoodW (roundW w):=h.drain.step tickS
theorem round_ticks (w : Wd) : (roundW w).ticks = w.ticks + 1:=by
 unfold roundW
 rw [doW_ticks,if_neg (by decide)]
 rfl
theorem round_len (w : Wd) : (roundW w).lanes.length = w.lanes.length:=by
 unfold roundW
 rw [do_len]
 simp [drainW]
theorem roundN_ticks (k : Nat) (w : Wd) : (roundN k w).ticks = w.ticks + k:=by
 induction k with
 | zero => simp [roundN]
 | succ k ih => rw [roundN,round_ticks,ih]; omega
theorem roundN_len (k : Nat) (w : Wd) : (roundN k w).lanes.length = w.lanes.length:=by
 induction k with
 | zero => rfl
 | succ k ih => rw [roundN,round_len,ih]
theorem GoodW.rounds {w : Wd} (h : GoodW w) (k : Nat) : GoodW (roundN k w):=by
 induction k with
 | zero => exact h
 | succ k ih => exact ih.round
theorem round_lane (w : Wd) (j : Nat) : (roundW w).lanes[j]? = (w.lanes[j]?).map fun x => if w.ticks.tmod w.lanes.length = j then speakL (drainL x) else drainL x:=by
 unfold roundW
 rw [doW_lane]
 have hw : whoW (drainW w) tickS = w.ticks.tmod w.lanes.length:=by
  unfold whoW
  rw [if_pos (by rfl)]
  show w.ticks.tmod ((w.lanes.map drainL).length : Nat) = _
  rw [List.length_map]
 have hl : (drainW w).lanes[j]? = (w.lanes[j]?).map drainL:=by simp [drainW]
 rw [hw,hl]
 by_cases e : w.ticks.tmod w.lanes.length = j
 ·rw [if_neg (by intro q; rcases q with q | q; exact absurd q (by decide); exact q e)]
  cases w.lanes[j]? with
  | none => rfl
  | some x =>
   simp only [Option.map_some,e,if_true]
   rfl
 ·rw [if_pos (.inr e)]
  cases w.lanes[j]? with
  | none => rfl
  | some x => simp only [Option.map_some,e,if_false]
theorem Sim.round {t : Nat} {w x : Wd} (h : Sim t w x) : Sim t (roundW w) (roundW x):=by
 refine ⟨by rw [round_ticks,round_ticks,h.k],by rw [round_len,round_len,h.n],?_⟩
 rw [round_lane,round_lane,h.l,h.k,h.n]
theorem Sim.rounds {t : Nat} {w x : Wd} (h : Sim t w x) (k : Nat) : Sim t (roundN k w) (roundN k x):=by
 induction k with
 | zero => exact h
 | succ k ih => exact ih.round
theorem WKnow.round {p : Int → List Ms} {w : Wd} (h : WKnow p w) : WKnow p (roundW w):=fun j y hy => by
 rw [round_lane] at hy
 cases hx : w.lanes[j]? with
 | none => rw [hx] at hy; cases hy
 | some x =>
  rw [hx] at hy
  simp only [Option.map_some,Option.some.injEq] at hy
  rw [← hy]
  split
  ·exact (h j x hx).drain.speak
  ·exact (h j x hx).drain
theorem WKnow.rounds {p : Int → List Ms} {w : Wd} (h : WKnow p w) (k : Nat) : WKnow p (roundN k w):=by
 induction k with
 | zero => exact h
 | succ k ih => exact ih.round
def settleK : Nat → Wd → Nat
 | 0,_ => 0
 | f + 1,w => if stillW w = true then 0 else settleK f (roundW w) + 1
theorem roundN_left (k : Nat) (w : Wd) : roundN (k + 1) w = roundN k (roundW w):=by
 induction k with
 | zero => rfl
 | succ k ih => rw [roundN,ih]; rfl
theorem settle_le : ∀ (f : Nat) (w : Wd),settleK f w ≤ f
 | 0,w => Nat.le_refl _
 | f + 1,w => by
  unfold settleK
  split
  ·omega
  ·have:=settle_le f (roundW w); omega
theorem settle_still : ∀ (f : Nat) (w : Wd),stillW (roundN (settleK f w) w) = true ∨ settleK f w = f
 | 0,w => .inr rfl
 | f + 1,w => by
  unfold settleK
  split
  ·rename_i h; exact .inl h
  ·rw [roundN_left]
   rcases settle_still f (roundW w) with q | q
   ·exact .inl q
   ·exact .inr (by rw [q])
theorem settle_not : ∀ (f : Nat) (w : Wd) (k : Nat),k < settleK f w → stillW (roundN k w) = false
 | 0,w,k,h => by cases h
 | f + 1,w,k,h => by
  unfold settleK at h
  split at h
  ·cases h
  ·rename_i hs
   cases k with
   | zero => simpa [roundN] using hs
   | succ k => rw [roundN_left]; exact settle_not f (roundW w) k (by omega)
end Go.Proofs.Ytgaofjiidedcbad.mth
namespace Go.Proofs.Ytgaofjiidedcbad.ab
open Go Go.RowKit
open mth
def CVOf (f : Nat) : Prop:=∀ (w : Wd) (t : Int),GoodW w → Told Try.prog f [aD (encWd w),vI t] [aD (encLn (ofW w t).1),vB (ofW w t).2]
def SmallD (l : List Sp) : Prop:=∀ s ∈ l,s.msg.data.length ≤ 1048576
def CVOnly (f : Nat) : Prop:=∀ (l : List Sp) (t : Int),l.length ≤ 1048576 → SmallD l → Told Try.prog f [sD 7 (encSl l),vI t] [sD 7 (encSl (onlyW l t))]
theorem of_in {w : Wd} {t : Nat} (h : t < w.lanes.length) : ofW w t = (w.lanes.getD t zeroL,true):=by
 unfold ofW
 rw [if_neg (by omega)]
 rfl
theorem of_out {w : Wd} {t : Int} (h : t < 0 ∨ (w.lanes.length : Int) ≤ t) : ofW w t = (zeroL,false):=by
 unfold ofW
 rw [if_pos h]
theorem sim_of {t : Nat} {w x : Wd} (h : Sim t w x) : ofW w t = ofW x t:=by
 have e : w.lanes.getD t zeroL = x.lanes.getD t zeroL:=by rw [List.getD_eq_getElem?_getD,List.getD_eq_getElem?_getD,h.l]
 unfold ofW
 rw [h.n,Int.toNat_natCast,e]
theorem sl_snoc (l : List Sp) (s : Sp) : encSl (l ++ [s]) = encSl l ++ [aD (encSp s)]:=by simp [encSl]
theorem only_snoc (l : List Sp) (s : Sp) (t : Int) : onlyW (l ++ [s]) t = onlyW l t ++ (if mineB t s = true then [s] else []):=by
 unfold onlyW
 rw [List.filter_append]
 congr 1
 cases h : mineB t s with
 | true => rw [List.filter_cons_of_pos h]; rfl
 | false => rw [List.filter_cons_of_neg (by rw [h]; simp)]; rfl
def CFPlay (f : Nat) : Prop:=(∀ (n : Int) (l : List Sp),l.length ≤ 9223372036854775807 → n < 1 ∨ 3 < n → Told Try.prog f [vI n,sD 7 (encSl l)] [aD (encWd ⟨[],0⟩),sD 1 [],vI 3]) ∧
 (∀ (n : Nat) (l : List Sp),1 ≤ n ∧ n ≤ 3 → l.length ≤ 9223372036854775807 → 160 < l.length → Told Try.prog f [vI n,sD 7 (encSl l)] [aD (encWd ⟨[],0⟩),sD 1 [],vI 5]) ∧
 (∀ (n : Nat) (l : List Sp),1 ≤ n ∧ n ≤ 3 → l.length ≤ 160 → Told Try.prog f [vI n,sD 7 (encSl l)] [aD (encWd (runW (newW n) l).1),sD 1 ((runW (newW n) l).2.map vI),vI 0])
def CFRound (f : Nat) : Prop:=∀ w,GoodW w → w.ticks ≤ 1000000 → Told Try.prog f [aD (encWd w)] [aD (encWd (roundW w))]
def CFSettle (f : Nat) : Prop:=∀ w,GoodW w → w.ticks ≤ 100000 → Told Try.prog f [aD (encWd w)] [aD (encWd (roundN (settleK 200 w) w)),vI (settleK 200 w)]
structure SmallN (l : Ln) : Prop where
 q : l.s.queue.length ≤ 1048576
 f : l.s.flight.length ≤ 1048576
 e : l.r.early.length ≤ 1048576
 h : l.r.hold.length ≤ 1048576
 t : l.r.told.length ≤ 1048576
 th : l.there.length ≤ 1048576
 b : l.back.length ≤ 1048576
def CKIdle (f : Nat) : Prop:=∀ l,SmallN l → Told Try.prog f [aD (encLn l)] [vB (idleL l)]
def CKStill (f : Nat) : Prop:=∀ w : Wd,w.lanes.length ≤ 1048576 → (∀ l ∈ w.lanes,SmallN l) → Told Try.prog f [aD (encWd w)] [vB (stillW w)]
theorem good_smallN {l : Ln} (h : GoodL l) : SmallN l:=by
 have h1:=good_sizes h.r
 have h4:=h.s.q
 have h5:=h.s.f
 have h6:=h.t
 have h7:=h.b
 exact ⟨by omega,by omega,by omega,by omega,by omega,by omega,by omega⟩
end Go.Proofs.Ytgaofjiidedcbad.ab
namespace Go.Proofs.Ytgaofjiidedcbad.mth
def putSp (t : Int) (m : Ms) : Sp:=⟨2,t,0,0,false,m⟩
def msA : Ms:=⟨0,[97]⟩
end Go.Proofs.Ytgaofjiidedcbad.mth
