import Derived.Test.YtgaofjiidedcbadM31
import Derived.Test.YtgaofjiidedcbadM28
set_option linter.unusedVariables false
set_option linter.unusedSimpArgs false
namespace Go.Proofs.Ytgaofjiidedcbad.mth
theorem live_new {m : List Ms} {cs : List Ch} {l : Ln} (h : Know m cs l) {x : Ms} {rest : List Ms} (hq : l.s.queue = x :: rest) (hf : l.s.flight.length ≤ 3) {y : Ln}
  (hy : y = ⟨hearS (newS l.s x rest) (ackC l.r),hearR (sayR l.r).1 (newC l.s x),[],[]⟩) : phiL y < phiL l:=by
 have h':=h.new hq hf
 have hn:=h.s.n
 have hcn : (newC l.s x).number = l.s.next:=rfl
 have hnc : ¬ CameN l.r (newC l.s x).number:=by
  rw [hcn]
  rintro (w | w)
  ·have:=h.r.n; omega
  ·have:=h.r.e _ (List.contains_iff_mem.1 w); omega
 have hcc : newC l.s x ∈ cs ++ [newC l.s x]:=by simp
 have hb : cameL (ackC l.r) (newC l.s x).number = false:=by
  cases e : cameL (ackC l.r) (newC l.s x).number with
  | false => rfl
  | true => exact absurd (came_ack.1 e) hnc
 have hfl : y.s.flight = unseen l ++ [newC l.s x]:=by
  rw [hy,ack_eq]
  show (l.s.flight ++ [newC l.s x]).filter _ = _
  rw [List.filter_append,List.filter_cons_of_pos (by rw [hb]; rfl)]
  rfl
 have hqy : y.s.queue = rest:=by rw [hy,ack_eq]; rfl
 have hry : y.r = hearR (sayR l.r).1 (newC l.s x):=by rw [hy]
 have hcame : ∀ z ∈ cs ++ [newC l.s x],CameN y.r z.number ↔ CameN l.r z.number ∨ (seenR l.r (newC l.s x).number = false ∧ z = newC l.s x):=fun z hz => by
  rw [hry,hear_came h'.s.m h.r.g.say hcc hz,say_came,say_seen]
 have hU : ∀ z ∈ unseen l,z ∈ l.s.flight ∧ ¬ CameN l.r z.number:=fun z hz => by
  obtain ⟨q1,q2⟩:=List.mem_filter.1 hz
  refine ⟨q1,fun w => ?_⟩
  rw [came_ack.2 w] at q2
  cases q2
 have huU : (unseen l).filter (fun z => !cameL (ackC y.r) z.number) = unseen l:=by
  refine List.filter_eq_self.2 fun z hz => ?_
  obtain ⟨q1,q2⟩:=hU z hz
  cases hb : cameL (ackC y.r) z.number with
  | false => rfl
  | true =>
   rcases (hcame z (List.mem_append_left _ (h.s.f z q1))).1 (came_ack.1 hb) with w | w
   ·exact absurd w q2
   ·have h1:=(h.s.m.num z (h.s.f z q1)).2
    rw [w.2,hcn] at h1
    omega
 have huy : unseen y = unseen l ++ [newC l.s x].filter (fun z => !cameL (ackC y.r) z.number):=by
  unfold unseen
  rw [hfl,List.filter_append]
  exact congrArg (· ++ _) huU
 have hul:=unseen_le l
 have hql : l.s.queue.length = rest.length + 1:=by rw [hq]; rfl
 unfold phiL
 rw [hqy,hfl,hql,List.length_append,List.length_singleton]
 by_cases hs : seenR l.r (newC l.s x).number = true
 ·have e : [newC l.s x].filter (fun z => !cameL (ackC y.r) z.number) = [newC l.s x]:=by
   refine List.filter_eq_self.2 fun z hz => ?_
   rw [List.mem_singleton.1 hz]
   cases hb : cameL (ackC y.r) (newC l.s x).number with
   | false => rfl
   | true =>
    rcases (hcame _ hcc).1 (came_ack.1 hb) with w | w
    ·exact absurd w hnc
    ·rw [hs] at w; cases w.1
  rw [huy,e,List.length_append,List.length_singleton,Nat.sub_self]
  exact phi_more (by omega)
 ·have hs : seenR l.r (newC l.s x).number = false:=by simpa using hs
  have e : [newC l.s x].filter (fun z => !cameL (ackC y.r) z.number) = []:=by
   refine List.filter_eq_nil_iff.2 fun z hz => ?_
   rw [List.mem_singleton.1 hz,came_ack.2 ((hcame _ hcc).2 (.inr ⟨hs,rfl⟩))]
   simp
  rw [huy,e,List.append_nil,show (unseen l).length + 1 - (unseen l).length = 1 by omega]
  exact phi_new (by omega)
theorem go_kinv {p : List Ms} {l : Ln} (h : KInv p l) : KInv p (goL l):=h.speak.drain
theorem say_kind {l : Ln} (hg : GoodS l.s) (hi : idleL l = false) : (sayL l.s).2.1.kind = 1:=by
 have hag : ∀ (hf : 0 < l.s.flight.length),(l.s.flight.getD (againK l.s).toNat zeroC).kind = 1:=fun hf => by
  have hk:=againK_lt hg hf
  have hlt : (againK l.s).toNat < l.s.flight.length:=by omega
  rw [List.getD_eq_getElem?_getD,List.getElem?_eq_getElem hlt,Option.getD_some]
  exact (hg.c _ (List.getElem_mem hlt)).1
 unfold idleL at hi
 unfold sayL
 split
 ·rename_i hq
  rw [hq] at hi
  split
  ·rename_i hf
   rw [List.length_eq_zero_iff.1 hf] at hi
   cases hi
  ·exact hag (by omega)
 ·split
  ·exact hag (by omega)
  ·rfl
theorem go_owes {l : Ln} (hg : GoodL l) (ht : l.there = []) (hb : l.back = []) (hi : idleL l = false) : (goL l).r.owes = true:=by
 rw [go_eq hg ht hb hi]
 exact hear_owes (say_kind hg.s hi)
theorem sayL_again {s : Sd} (h : (s.queue = [] ∧ s.flight.length ≠ 0) ∨ 3 < s.flight.length) : sayL s = ({ s with turn:=againK s + 1 },s.flight.getD (againK s).toNat zeroC,true):=by
 unfold sayL
 split
 ·rw [if_neg (by omega)]
 ·rename_i x r hq
  rw [if_pos (by
   rcases h with ⟨w,_⟩ | w
   ·rw [hq] at w; cases w
   ·exact w)]
theorem sayL_new {s : Sd} {x : Ms} {r : List Ms} (hq : s.queue = x :: r) (hf : ¬ 3 < s.flight.length) : sayL s = (newS s x r,newC s x,true):=by
 unfold sayL
 rw [hq]
 simp only
 rw [if_neg hf]
theorem live_step {p : List Ms} {l : Ln} (h : KInv p l) (ht : l.there = []) (hb : l.back = []) (hi : idleL l = false) (ho : l.r.owes = true) : phiL (goL l) < phiL l:=by
 have e:=go_eq h.1 ht hb hi
 rw [if_pos ho] at e
 obtain ⟨g,m,cs,ep,k⟩:=h
 unfold idleL at hi
 have hf4:=g.s.f
 by_cases hf : 3 < l.s.flight.length
 ·rw [sayL_again (.inr hf)] at e
  exact live_again k (.inr (by omega)) (by omega) e
 ·cases hq : l.s.queue with
  | nil =>
   rw [hq] at hi
   have hne : l.s.flight.length ≠ 0:=by
    intro q
    rw [List.length_eq_zero_iff.1 q] at hi
    cases hi
   rw [sayL_again (.inl ⟨hq,hne⟩)] at e
   exact live_again k (.inl (by rw [hq]; rfl)) (by omega) e
  | cons x r =>
   rw [sayL_new hq hf] at e
   exact live_new k hq (by omega) e
theorem phiL_le {l : Ln} (h : GoodL l) : phiL l ≤ 60:=by
 have:=unseen_le l
 have:=h.s.f
 exact phi_le h.s.q (by omega)
def Soon (p : List Ms) (k : Nat) (l : Ln) : Prop:=l.there = [] ∧ l.back = [] ∧ (idleL l = true ∨ (KInv p l ∧ l.r.owes = true ∧ phiL l ≤ k))
theorem idle_go {l : Ln} (ht : l.there = []) (hi : idleL l = true) : idleL (goL l) = true:=by
 obtain ⟨h1,h2⟩:=go_idle ht hi
 unfold idleL
 rw [h1,h2]
 rfl
theorem Soon.go {p : List Ms} {k : Nat} {l : Ln} (h : Soon p (k + 1) l) : Soon p k (goL l):=by
 obtain ⟨h1,h2,h3⟩:=h
 refine ⟨rfl,rfl,?_⟩
 cases hi : idleL l with
 | true => exact .inl (idle_go h1 hi)
 | false =>
  rcases h3 with q | ⟨q1,q2,q3⟩
  ·rw [hi] at q; cases q
  ·exact .inr ⟨go_kinv q1,go_owes q1.1 h1 h2 hi,by have:=live_step q1 h1 h2 hi q2; omega⟩
theorem Soon.zero {p : List Ms} {l : Ln} (h : Soon p 0 l) : idleL l = true:=by
 obtain ⟨h1,h2,h3⟩:=h
 cases hi : idleL l with
 | true => rfl
 | false =>
  rcases h3 with q | ⟨q1,q2,q3⟩
  ·rw [hi] at q; cases q
  ·have:=live_step q1 h1 h2 hi q2; omega
theorem soon_first {p : List Ms} {l : Ln} (h : KInv p l) (ht : l.there = []) (hb : l.back = []) : Soon p 60 (goL l):=by
 refine ⟨rfl,rfl,?_⟩
 cases hi : idleL l with
 | true => exact .inl (idle_go ht hi)
 | false => exact .inr ⟨go_kinv h,go_owes h.1 ht hb hi,phiL_le (go_kinv h).1⟩
def goN : Nat → Ln → Ln
 | 0,l => l
 | k + 1,l => goN k (goL l)
theorem goN_succ (k : Nat) (l : Ln) : goN (k + 1) l = goL (goN k l):=by
 induction k generalizing l with
 | zero => rfl
 | succ k ih => show goN (k + 1) (goL l) = _; rw [ih]; rfl
theorem soon_idle {p : List Ms} : ∀ (k : Nat) {l : Ln},Soon p k l → idleL (goN k l) = true
 | 0,l,h => h.zero
 | k + 1,l,h => soon_idle k h.go
theorem goN_none (k : Nat) {l : Ln} (h1 : l.there = []) (h2 : l.back = []) : (goN k l).there = [] ∧ (goN k l).back = []:=by
 cases k with
 | zero => exact ⟨h1,h2⟩
 | succ k => rw [goN_succ]; exact ⟨rfl,rfl⟩
theorem idle_at {p : List Ms} {l : Ln} (h : KInv p l) (ht : l.there = []) (hb : l.back = []) : ∀ k,61 ≤ k → idleL (goN k l) = true:=by
 intro k hk
 obtain ⟨d,rfl⟩ : ∃ d,k = 61 + d:=⟨k - 61,by omega⟩
 clear hk
 induction d with
 | zero => exact soon_idle 60 (soon_first h ht hb)
 | succ d ih =>
  rw [show 61 + (d + 1) = (61 + d) + 1 by omega,goN_succ]
  exact idle_go (goN_none _ ht hb).1 ih
theorem getD_get {α : Type} {l : List α} {j : Nat} {d : α} (h : j < l.length) : l[j]? = some (l.getD j d):=by
 rw [List.getD_eq_getElem?_getD,List.getElem?_eq_getElem h]; rfl
theorem do_len (w : Wd) (s : Sp) : (doW w s).1.lanes.length = w.lanes.length:=by
 unfold doW
 split
 ·rfl
 ·split
  ·rfl
  ·simp
structure Sim (t : Nat) (w x : Wd) : Prop where
 k : w.ticks = x.ticks
 n : w.lanes.length = x.lanes.length
 l : w.lanes[t]? = x.lanes[t]?
theorem Sim.refl (t : Nat) (w : Wd) : Sim t w w:=⟨rfl,rfl,rfl⟩
theorem Sim.symm {t : Nat} {w x : Wd} (h : Sim t w x) : Sim t x w:=⟨h.k.symm,h.n.symm,h.l.symm⟩
theorem Sim.trans {t : Nat} {w x y : Wd} (h : Sim t w x) (g : Sim t x y) : Sim t w y:=⟨h.k.trans g.k,h.n.trans g.n,h.l.trans g.l⟩
theorem who_sim {t : Nat} {w x : Wd} (h : Sim t w x) (s : Sp) : whoW w s = whoW x s:=by unfold whoW; rw [h.k,h.n]
theorem ticks_sim {t : Nat} {w x : Wd} (h : Sim t w x) (s : Sp) : ticksW w s = ticksW x s:=by unfold ticksW; rw [h.k]
theorem doW_ticks (w : Wd) (s : Sp) : (doW w s).1.ticks = if s.kind < 1 ∨ 6 < s.kind then w.ticks else ticksW w s:=by
 unfold doW
 split
 ·rfl
 ·split
  ·rfl
  ·rfl
theorem doW_lane (w : Wd) (s : Sp) (t : Nat) : (doW w s).1.lanes[t]? = if (s.kind < 1 ∨ 6 < s.kind) ∨ whoW w s ≠ t then w.lanes[t]? else (w.lanes[t]?).map fun l => (laneW l s).1:=by
 unfold doW
 by_cases h1 : s.kind < 1 ∨ 6 < s.kind
 ·rw [if_pos h1,if_pos (.inl h1)]
 rw [if_neg h1]
 by_cases h2 : whoW w s < 0 ∨ (w.lanes.length : Int) ≤ whoW w s
 ·rw [if_pos h2]
  by_cases h3 : whoW w s = t
  ·rw [if_neg (by intro q; rcases q with q | q; exact h1 q; exact q h3)]
   simp only
   rw [List.getElem?_eq_none (by omega)]
   rfl
  ·rw [if_pos (.inr h3)]
 rw [if_neg h2]
 simp only
 by_cases h3 : whoW w s = t
 ·rw [if_neg (by intro q; rcases q with q | q; exact h1 q; exact q h3)]
  rw [h3,Int.toNat_natCast,List.getElem?_set_self (by omega),getD_get (d:=zeroL) (by omega : t < w.lanes.length)]
  rfl
 ·rw [if_pos (.inr h3),List.getElem?_set_ne (by omega)]
theorem Sim.step {t : Nat} {w x : Wd} (h : Sim t w x) (s : Sp) : Sim t (doW w s).1 (doW x s).1:=by
 refine ⟨?_,by rw [do_len,do_len]; exact h.n,?_⟩
 ·rw [doW_ticks,doW_ticks,ticks_sim h,h.k]
 ·rw [doW_lane,doW_lane,who_sim h,h.l]
end Go.Proofs.Ytgaofjiidedcbad.mth
