import Derived.Test.YtgaofjiidedcbadM31
import Derived.Test.YtgaofjiidedcbadM28
set_option linter.unusedVariables false
set_option linter.unusedSimpArgs false
namespace Go.Proofs.Ytgaofjiidedcbad.mth
theorem live_new {m : List Ms} {cs : List Ch} {l : Ln} (h : Know m cs l) {x : Ms} {rest : List Ms} (hq : l.s.queue = x :: rest) (hf : l.s.flight.length ≤ 3) {y : Ln}
  (hy : y = ⟨hearS (newS l.s x rest) (ackC l.r),hearR (sayR l.r).1 (newC l.s x),[],[]⟩) : phiL y < phiL l:=by
 have h':=h.new hq hf
 have hn:=h.s.n
 have hcn : (newC l.s x).number = l.s.next:=rfl
 have hnc : ¬ CameN l.r (newC l.s x).number:=by
  rw [hcn]
  rintro (w | w)
  ·have:=h.r.n; omega
  ·have:=h.r.e _ (List.contains_iff_mem.1 w); omega
 have hcc : newC l.s x ∈ cs ++ [newC l.s x]:=by simp
 have hb : cameL (ackC l.r) (newC l.s x).number = false:=by
  cases e : cameL (ackC l.r) (newC l.s x).number with
  | false => rfl
  | true => exact absurd (came_ack.1 e) hnc
 have hfl : y.s.flight = unseen l ++ [newC l.s x]:=by
  rw [hy,ack_eq]
  show (l.s.flight ++ [newC l.s x]).filter _ = _
  rw [List.filter_append,List.filter_cons_of_pos (by rw [hb]; rfl)]
  rfl
 have hqy : y.s.queue = rest:=by rw [hy,ack_eq]; rfl
 have hry : y.r = hearR (sayR l.r).1 (newC l.s x):=by rw [hy]
 have hcame : ∀ z ∈ cs ++ [newC l.s x],CameN y.r z.number ↔ CameN l.r z.number ∨ (seenR l.r (newC l.s x).number = false ∧ z = newC l.s x):=fun z hz => by
  rw [hry,hear_came h'.s.m h.r.g.say hcc hz,say_came,say_seen]
 have hU : ∀ z ∈ unseen l,z ∈ l.s.flight ∧ ¬ CameN l.r z.number:=fun z hz => by
  obtain ⟨q1,q2⟩:=List.mem_filter.1 hz
  refine ⟨q1,fun w => ?_⟩
  rw [came_ack.2 w] at q2
  cases q2
 have huU : (unseen l).filter (fun z => !cameL (ackC y.r) z.number) = unseen l:=by
  refine List.filter_eq_self.2 fun z hz => ?_
  obtain ⟨q1,q2⟩:=hU z hz
  cases hb : cameL (ackC y.r) z.number with
  | false => rfl
  | true =>
   rcases (hcame z (List.mem_append_left _ (h.s.f z q1))).1 (came_ack.1 hb) with w | w
   ·exact absurd w q2
   ·have h1:=(h.s.m.num z (h.s.f z q1)).2
    rw [w.2,hcn] at h1
    omega
 have huy : unseen y = unseen l ++ [newC l.s x].filter (fun z => !cameL (ackC y.r) z.number):=by
  unfold unseen
  rw [hfl,List.filter_append]
  exact congrArg (· ++ _) huU
 have hul:=unseen_le l
 have hql : l.s.queue.length = rest.length + 1:=by rw [hq]; rfl
 unfold phiL
 rw [hqy,hfl,hql,List.length_append,List.length_singleton]
 by_cases hs : seenR l.r (newC l.s x).number = true
 ·have e : [newC l.s x].filter (fun z => !cameL (ackC y.r) z.number) = [newC l.s x]:=by
   refine List.filter_eq_self.2 fun z hz => ?_
   rw [List.mem_singleton.1 hz]
   cases hb : cameL (ackC y.r) (newC l.s x).number with
   | false => rfl
   | true =>
    rcases (hcame _ hcc).1 (came_ack.1 hb) with w | w
    ·exact absurd w hnc
    ·rw [hs] at w; cases w.1
  rw [huy,e,List.length_append,List.length_singleton,Nat.sub_self]
  exact phi_more (by omega)
 ·have hs : seenR l.r (newC l.s x).number = false:=by simpa using hs
  have e : [newC l.s x].filter (fun z => !cameL (ackC y.r) z.number) = []:=by
   refine List.filter_eq_nil_iff.2 fun z hz => ?_
   rw [List.mem_singleton.1 hz,came_ack.2 ((hcame _ hcc).2 (.inr ⟨hs,rfl⟩))]
   simp
  rw [huy,e,List.append_nil,show (unseen l).length + 1 - (unseen l).length = 1 by omega]
  exact phi_new (by omega)
theorem sayL_again {s : Sd} (h : (s.queue = [] ∧ s.flight.length ≠ 0) ∨ 3 < s.flight.length) : sayL s = ({ s with turn:=againK s + 1 },s.flight.getD (againK s).toNat zeroC,true):=by
 unfold sayL
 split
 ·rw [if_neg (by omega)]
 ·rename_i x r hq
  rw [if_pos (by
   rcases h with ⟨w,_⟩ | w
   ·rw [hq] at w; cases w
   ·exact w)]
theorem sayL_new {s : Sd} {x : Ms} {r : List Ms} (hq : s.queue = x :: r) (hf : ¬ 3 < s.flight.length) : sayL s = (newS s x r,newC s x,true):=by
 unfold sayL
 rw [hq]
 simp only
 rw [if_neg hf]
theorem live_step {p : List Ms} {l : Ln} (h : KInv p l) (ht : l.there = []) (hb : l.back = []) (hi : idleL l = false) (ho : l.r.owes = true) : phiL (goL l) < phiL l:=by
 have e:=go_eq h.1 ht hb hi
 rw [if_pos ho] at e
 obtain ⟨g,m,cs,ep,k⟩:=h
 unfold idleL at hi
 have hf4:=g.s.f
 by_cases hf : 3 < l.s.flight.length
 ·rw [sayL_again (.inr hf)] at e
  exact live_again k (.inr (by omega)) (by omega) e
 ·cases hq : l.s.queue with
  | nil =>
   rw [hq] at hi
   have hne : l.s.flight.length ≠ 0:=by
    intro q
    rw [List.length_eq_zero_iff.1 q] at hi
    cases hi
   rw [sayL_again (.inl ⟨hq,hne⟩)] at e
   exact live_again k (.inl (by rw [hq]; rfl)) (by omega) e
  | cons x r =>
   rw [sayL_new hq hf] at e
   exact live_new k hq (by omega) e
def Soon (p : List Ms) (k : Nat) (l : Ln) : Prop:=l.there = [] ∧ l.back = [] ∧ (idleL l = true ∨ (KInv p l ∧ l.r.owes = true ∧ phiL l ≤ k))
theorem Soon.zero {p : List Ms} {l : Ln} (h : Soon p 0 l) : idleL l = true:=by
 obtain ⟨h1,h2,h3⟩:=h
 cases hi : idleL l with
 | true => rfl
 | false =>
  rcases h3 with q | ⟨q1,q2,q3⟩
  ·rw [hi] at q; cases q
  ·have:=live_step q1 h1 h2 hi q2; omega
theorem getD_get {α : Type} {l : List α} {j : Nat} {d : α} (h : j < l.length) : l[j]? = some (l.getD j d):=by
 rw [List.getD_eq_getElem?_getD,List.getElem?_eq_getElem h]; rfl
theorem do_len (w : Wd) (s : Sp) : (doW w s).1.lanes.length = w.lanes.length:=by
 unfold doW
 split
 ·rfl
 ·split
  ·rfl
  ·simp
theorem lenW_run (w : Wd) (l : List Sp) : (runW w l).1.lanes.length = w.lanes.length:=by
 have : ∀ (l : List Sp) (x : Wd × List Int),(l.foldl (fun x s => ((doW x.1 s).1,x.2 ++ [(doW x.1 s).2])) x).1.lanes.length = x.1.lanes.length:=by
  intro l
  induction l with
  | nil => intro x; rfl
  | cons s l ih => intro x; rw [List.foldl_cons,ih]; exact do_len _ _
 exact this l (w,[])
def mineB (t : Int) (s : Sp) : Bool:=s.kind == 1 || s.tenant == t
def onlyW (l : List Sp) (t : Int) : List Sp:=l.filter (mineB t)
structure Sim (t : Nat) (w x : Wd) : Prop where
 k : w.ticks = x.ticks
 n : w.lanes.length = x.lanes.length
 l : w.lanes[t]? = x.lanes[t]?
theorem Sim.refl (t : Nat) (w : Wd) : Sim t w w:=⟨rfl,rfl,rfl⟩
theorem Sim.symm {t : Nat} {w x : Wd} (h : Sim t w x) : Sim t x w:=⟨h.k.symm,h.n.symm,h.l.symm⟩
theorem Sim.trans {t : Nat} {w x y : Wd} (h : Sim t w x) (g : Sim t x y) : Sim t w y:=⟨h.k.trans g.k,h.n.trans g.n,h.l.trans g.l⟩
theorem who_sim {t : Nat} {w x : Wd} (h : Sim t w x) (s : Sp) : whoW w s = whoW x s:=by unfold whoW; rw [h.k,h.n]
theorem ticks_sim {t : Nat} {w x : Wd} (h : Sim t w x) (s : Sp) : ticksW w s = ticksW x s:=by unfold ticksW; rw [h.k]
theorem doW_ticks (w : Wd) (s : Sp) : (doW w s).1.ticks = if s.kind < 1 ∨ 6 < s.kind then w.ticks else ticksW w s:=by
 unfold doW
 split
 ·rfl
 ·split
  ·rfl
  ·rfl
theorem doW_lane (w : Wd) (s : Sp) (t : Nat) : (doW w s).1.lanes[t]? = if (s.kind < 1 ∨ 6 < s.kind) ∨ whoW w s ≠ t then w.lanes[t]? else (w.lanes[t]?).map fun l => (laneW l s).1:=by
 unfold doW
 by_cases h1 : s.kind < 1 ∨ 6 < s.kind
 ·rw [if_pos h1,if_pos (.inl h1)]
 rw [if_neg h1]
 by_cases h2 : whoW w s < 0 ∨ (w.lanes.length : Int) ≤ whoW w s
 ·rw [if_pos h2]
  by_cases h3 : whoW w s = t
  ·rw [if_neg (by intro q; rcases q with q | q; exact h1 q; exact q h3)]
   simp only
   rw [List.getElem?_eq_none (by omega)]
   rfl
  ·rw [if_pos (.inr h3)]
 rw [if_neg h2]
 simp only
 by_cases h3 : whoW w s = t
 ·rw [if_neg (by intro q; rcases q with q | q; exact h1 q; exact q h3)]
  rw [h3,Int.toNat_natCast,List.getElem?_set_self (by omega),getD_get (d:=zeroL) (by omega : t < w.lanes.length)]
  rfl
 ·rw [if_pos (.inr h3),List.getElem?_set_ne (by omega)]
theorem Sim.step {t : Nat} {w x : Wd} (h : Sim t w x) (s : Sp) : Sim t (doW w s).1 (doW x s).1:=by
 refine ⟨?_,by rw [do_len,do_len]; exact h.n,?_⟩
 ·rw [doW_ticks,doW_ticks,ticks_sim h,h.k]
 ·rw [doW_lane,doW_lane,who_sim h,h.l]
theorem Sim.other {t : Nat} {w x : Wd} (h : Sim t w x) {s : Sp} (h1 : s.kind ≠ 1) (ht : s.tenant ≠ t) : Sim t (doW w s).1 x:=by
 refine ⟨?_,by rw [do_len]; exact h.n,?_⟩
 ·rw [doW_ticks]
  unfold ticksW
  rw [if_neg h1]
  split <;> exact h.k
 ·rw [doW_lane,if_pos (.inr (by unfold whoW; rw [if_neg h1]; exact ht))]
  exact h.l
def steps (w : Wd) (l : List Sp) : Wd:=l.foldl (fun x s => (doW x s).1) w
theorem runW_fst (w : Wd) (l : List Sp) : (runW w l).1 = steps w l:=by
 have : ∀ (l : List Sp) (x : Wd × List Int),(l.foldl (fun x s => ((doW x.1 s).1,x.2 ++ [(doW x.1 s).2])) x).1 = steps x.1 l:=by
  intro l
  induction l with
  | nil => intro x; rfl
  | cons s l ih => intro x; rw [List.foldl_cons,ih]; rfl
 exact this l (w,[])
theorem sim_only (t : Nat) : ∀ (l : List Sp) {w x : Wd},Sim t w x → Sim t (steps w l) (steps x (onlyW l t))
 | [],w,x,h => h
 | s :: l,w,x,h => by
  unfold onlyW
  cases hm : mineB t s with
  | true =>
   rw [List.filter_cons_of_pos hm]
   exact sim_only t l (h.step s)
  | false =>
   rw [List.filter_cons_of_neg (by rw [hm]; simp)]
   unfold mineB at hm
   simp only [Bool.or_eq_false_iff,beq_eq_false_iff_ne] at hm
   exact sim_only t l (h.other hm.1 hm.2)
theorem sim_run (t : Nat) (w : Wd) (l : List Sp) : Sim t (runW w l).1 (runW w (onlyW l t)).1:=by
 rw [runW_fst,runW_fst]; exact sim_only t l (Sim.refl t w)
theorem sim_same (t : Nat) (w : Wd) {l m : List Sp} (h : onlyW l t = onlyW m t) : Sim t (runW w l).1 (runW w m).1 :=
 (sim_run t w l).trans (by rw [h]; exact (sim_run t w m).symm)
def ofW (w : Wd) (t : Int) : Ln × Bool:=if t < 0 ∨ (w.lanes.length : Int) ≤ t then (zeroL,false) else (w.lanes.getD t.toNat zeroL,true)
end Go.Proofs.Ytgaofjiidedcbad.mth
