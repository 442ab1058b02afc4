import Derived.Test.YtgaofjiidedcbacGreatM34
import Derived.Test.YtgaofjiidedcbacGreatM31
import Derived.Test.YtgaofjiidedcbacGreatM32
import Derived.Test.YtgaofjiidedcbacGreatPLane3
import Derived.Test.YtgaofjiidedcbacGreatM20
import Derived.Test.YtgaofjiidedcbacGreatProg
set_option linter.unusedVariables false
set_option linter.unusedSimpArgs false
namespace Go.Proofs.YtgaofjiidedcbacGreat.mth
theorem live_new {m : List Ms} {cs : List Ch} {l : Ln} (h : Know m cs l) {x : Ms} {rest : List Ms} (hq : l.s.queue = x :: rest) (hf : l.s.flight.length ≤ 3) {y : Ln}
  (hy : y = ⟨hearS (newS l.s x rest) (ackC l.r),hearR (sayR l.r).1 (newC l.s x),[],[]⟩) : phiL y < phiL l:=by
 have h':=h.new hq hf
 have hn:=h.s.n
 have hcn : (newC l.s x).number = l.s.next:=rfl
 have hnc : ¬ CameN l.r (newC l.s x).number:=by
  rw [hcn]
  rintro (w | w)
  ·have:=h.r.n; omega
  ·have:=h.r.e _ (List.contains_iff_mem.1 w); omega
 have hcc : newC l.s x ∈ cs ++ [newC l.s x]:=by simp
 have hb : cameL (ackC l.r) (newC l.s x).number = false:=by
  cases e : cameL (ackC l.r) (newC l.s x).number with
  | false => rfl
  | true => exact absurd (came_ack.1 e) hnc
 have hfl : y.s.flight = unseen l ++ [newC l.s x]:=by
  rw [hy,ack_eq]
  show (l.s.flight ++ [newC l.s x]).filter _ = _
  rw [List.filter_append,List.filter_cons_of_pos (by rw [hb]; rfl)]
  rfl
 have hqy : y.s.queue = rest:=by rw [hy,ack_eq]; rfl
 have hry : y.r = hearR (sayR l.r).1 (newC l.s x):=by rw [hy]
 have hcame : ∀ z ∈ cs ++ [newC l.s x],CameN y.r z.number ↔ CameN l.r z.number ∨ (seenR l.r (newC l.s x).number = false ∧ z = newC l.s x):=fun z hz => by
  rw [hry,hear_came h'.s.m h.r.g.say hcc hz,say_came,say_seen]
 have hU : ∀ z ∈ unseen l,z ∈ l.s.flight ∧ ¬ CameN l.r z.number:=fun z hz => by
  obtain ⟨q1,q2⟩:=List.mem_filter.1 hz
  refine ⟨q1,fun w => ?_⟩
  rw [came_ack.2 w] at q2
  cases q2
 have huU : (unseen l).filter (fun z => !cameL (ackC y.r) z.number) = unseen l:=by
  refine List.filter_eq_self.2 fun z hz => ?_
  obtain ⟨q1,q2⟩:=hU z hz
  cases hb : cameL (ackC y.r) z.number with
  | false => rfl
  | true =>
   rcases (hcame z (List.mem_append_left _ (h.s.f z q1))).1 (came_ack.1 hb) with w | w
   ·exact absurd w q2
   ·have h1:=(h.s.m.num z (h.s.f z q1)).2
    rw [w.2,hcn] at h1
    omega
 have huy : unseen y = unseen l ++ [newC l.s x].filter (fun z => !cameL (ackC y.r) z.number):=by
  unfold unseen
  rw [hfl,List.filter_append]
  exact congrArg (· ++ _) huU
 have hul:=unseen_le l
 have hql : l.s.queue.length = rest.length + 1:=by rw [hq]; rfl
 unfold phiL
 rw [hqy,hfl,hql,List.length_append,List.length_singleton]
 by_cases hs : seenR l.r (newC l.s x).number = true
 ·have e : [newC l.s x].filter (fun z => !cameL (ackC y.r) z.number) = [newC l.s x]:=by
   refine List.filter_eq_self.2 fun z hz => ?_
   rw [List.mem_singleton.1 hz]
   cases hb : cameL (ackC y.r) (newC l.s x).number with
   | false => rfl
   | true =>
    rcases (hcame _ hcc).1 (came_ack.1 hb) with w | w
    ·exact absurd w hnc
    ·rw [hs] at w; cases w.1
  rw [huy,e,List.length_append,List.length_singleton,Nat.sub_self]
  exact phi_more (by omega)
 ·have hs : seenR l.r (newC l.s x).number = false:=by simpa using hs
  have e : [newC l.s x].filter (fun z => !cameL (ackC y.r) z.number) = []:=by
   refine List.filter_eq_nil_iff.2 fun z hz => ?_
   rw [List.mem_singleton.1 hz,came_ack.2 ((hcame _ hcc).2 (.inr ⟨hs,rfl⟩))]
   simp
  rw [huy,e,List.append_nil,show (unseen l).length + 1 - (unseen l).length = 1 by omega]
  exact phi_new (by omega)
theorem go_kinv {p : List Ms} {l : Ln} (h : KInv p l) : KInv p (goL l):=h.speak.drain
theorem say_kind {l : Ln} (hg : GoodS l.s) (hi : idleL l = false) : (sayL l.s).2.1.kind = 1:=by
 have hag : ∀ (hf : 0 < l.s.flight.length),(l.s.flight.getD (againK l.s).toNat zeroC).kind = 1:=fun hf => by
  have hk:=againK_lt hg hf
  have hlt : (againK l.s).toNat < l.s.flight.length:=by omega
  rw [List.getD_eq_getElem?_getD,List.getElem?_eq_getElem hlt,Option.getD_some]
  exact (hg.c _ (List.getElem_mem hlt)).1
 unfold idleL at hi
 unfold sayL
 split
 ·rename_i hq
  rw [hq] at hi
  split
  ·rename_i hf
   rw [List.length_eq_zero_iff.1 hf] at hi
   cases hi
  ·exact hag (by omega)
 ·split
  ·exact hag (by omega)
  ·rfl
theorem go_owes {l : Ln} (hg : GoodL l) (ht : l.there = []) (hb : l.back = []) (hi : idleL l = false) : (goL l).r.owes = true:=by
 rw [go_eq hg ht hb hi]
 exact hear_owes (say_kind hg.s hi)
theorem sayL_again {s : Sd} (h : (s.queue = [] ∧ s.flight.length ≠ 0) ∨ 3 < s.flight.length) : sayL s = ({ s with turn:=againK s + 1 },s.flight.getD (againK s).toNat zeroC,true):=by
 unfold sayL
 split
 ·rw [if_neg (by omega)]
 ·rename_i x r hq
  rw [if_pos (by
   rcases h with ⟨w,_⟩ | w
   ·rw [hq] at w; cases w
   ·exact w)]
theorem sayL_new {s : Sd} {x : Ms} {r : List Ms} (hq : s.queue = x :: r) (hf : ¬ 3 < s.flight.length) : sayL s = (newS s x r,newC s x,true):=by
 unfold sayL
 rw [hq]
 simp only
 rw [if_neg hf]
theorem live_step {p : List Ms} {l : Ln} (h : KInv p l) (ht : l.there = []) (hb : l.back = []) (hi : idleL l = false) (ho : l.r.owes = true) : phiL (goL l) < phiL l:=by
 have e:=go_eq h.1 ht hb hi
 rw [if_pos ho] at e
 obtain ⟨g,m,cs,ep,k⟩:=h
 unfold idleL at hi
 have hf4:=g.s.f
 by_cases hf : 3 < l.s.flight.length
 ·rw [sayL_again (.inr hf)] at e
  exact live_again k (.inr (by omega)) (by omega) e
 ·cases hq : l.s.queue with
  | nil =>
   rw [hq] at hi
   have hne : l.s.flight.length ≠ 0:=by
    intro q
    rw [List.length_eq_zero_iff.1 q] at hi
    cases hi
   rw [sayL_again (.inl ⟨hq,hne⟩)] at e
   exact live_again k (.inl (by rw [hq]; rfl)) (by omega) e
  | cons x r =>
   rw [sayL_new hq hf] at e
   exact live_new k hq (by omega) e
theorem phiL_le {l : Ln} (h : GoodL l) : phiL l ≤ 60:=by
 have:=unseen_le l
 have:=h.s.f
 exact phi_le h.s.q (by omega)
def Soon (p : List Ms) (k : Nat) (l : Ln) : Prop:=l.there = [] ∧ l.back = [] ∧ (idleL l = true ∨ (KInv p l ∧ l.r.owes = true ∧ phiL l ≤ k))
theorem idle_go {l : Ln} (ht : l.there = []) (hi : idleL l = true) : idleL (goL l) = true:=by
 obtain ⟨h1,h2⟩:=go_idle ht hi
 unfold idleL
 rw [h1,h2]
 rfl
theorem Soon.go {p : List Ms} {k : Nat} {l : Ln} (h : Soon p (k + 1) l) : Soon p k (goL l):=by
 obtain ⟨h1,h2,h3⟩:=h
 refine ⟨rfl,rfl,?_⟩
 cases hi : idleL l with
 | true => exact .inl (idle_go h1 hi)
 | false =>
  rcases h3 with q | ⟨q1,q2,q3⟩
  ·rw [hi] at q; cases q
  ·exact .inr ⟨go_kinv q1,go_owes q1.1 h1 h2 hi,by have:=live_step q1 h1 h2 hi q2; omega⟩
theorem Soon.zero {p : List Ms} {l : Ln} (h : Soon p 0 l) : idleL l = true:=by
 obtain ⟨h1,h2,h3⟩:=h
 cases hi : idleL l with
 | true => rfl
 | false =>
  rcases h3 with q | ⟨q1,q2,q3⟩
  ·rw [hi] at q; cases q
  ·have:=live_step q1 h1 h2 hi q2; omega
theorem soon_first {p : List Ms} {l : Ln} (h : KInv p l) (ht : l.there = []) (hb : l.back = []) : Soon p 60 (goL l):=by
 refine ⟨rfl,rfl,?_⟩
 cases hi : idleL l with
 | true => exact .inl (idle_go ht hi)
 | false => exact .inr ⟨go_kinv h,go_owes h.1 ht hb hi,phiL_le (go_kinv h).1⟩
def goN : Nat → Ln → Ln
 | 0,l => l
 | k + 1,l => goN k (goL l)
theorem goN_succ (k : Nat) (l : Ln) : goN (k + 1) l = goL (goN k l):=by
 induction k generalizing l with
 | zero => rfl
 | succ k ih => show goN (k + 1) (goL l) = _; rw [ih]; rfl
theorem soon_idle {p : List Ms} : ∀ (k : Nat) {l : Ln},Soon p k l → idleL (goN k l) = true
 | 0,l,h => h.zero
 | k + 1,l,h => soon_idle k h.go
theorem goN_none (k : Nat) {l : Ln} (h1 : l.there = []) (h2 : l.back = []) : (goN k l).there = [] ∧ (goN k l).back = []:=by
 cases k with
 | zero => exact ⟨h1,h2⟩
 | succ k => rw [goN_succ]; exact ⟨rfl,rfl⟩
theorem idle_at {p : List Ms} {l : Ln} (h : KInv p l) (ht : l.there = []) (hb : l.back = []) : ∀ k,61 ≤ k → idleL (goN k l) = true:=by
 intro k hk
 obtain ⟨d,rfl⟩ : ∃ d,k = 61 + d:=⟨k - 61,by omega⟩
 clear hk
 induction d with
 | zero => exact soon_idle 60 (soon_first h ht hb)
 | succ d ih =>
  rw [show 61 + (d + 1) = (61 + d) + 1 by omega,goN_succ]
  exact idle_go (goN_none _ ht hb).1 ih
theorem getD_get {α : Type} {l : List α} {j : Nat} {d : α} (h : j < l.length) : l[j]? = some (l.getD j d):=by
 rw [List.getD_eq_getElem?_getD,List.getElem?_eq_getElem h]; rfl
theorem do_len (w : Wd) (s : Sp) : (doW w s).1.lanes.length = w.lanes.length:=by
 unfold doW
 split
 ·rfl
 ·split
  ·rfl
  ·simp
theorem lenW_run (w : Wd) (l : List Sp) : (runW w l).1.lanes.length = w.lanes.length:=by
 have : ∀ (l : List Sp) (x : Wd × List Int),(l.foldl (fun x s => ((doW x.1 s).1,x.2 ++ [(doW x.1 s).2])) x).1.lanes.length = x.1.lanes.length:=by
  intro l
  induction l with
  | nil => intro x; rfl
  | cons s l ih => intro x; rw [List.foldl_cons,ih]; exact do_len _ _
 exact this l (w,[])
structure Sim (t : Nat) (w x : Wd) : Prop where
 k : w.ticks = x.ticks
 n : w.lanes.length = x.lanes.length
 l : w.lanes[t]? = x.lanes[t]?
theorem Sim.refl (t : Nat) (w : Wd) : Sim t w w:=⟨rfl,rfl,rfl⟩
theorem Sim.symm {t : Nat} {w x : Wd} (h : Sim t w x) : Sim t x w:=⟨h.k.symm,h.n.symm,h.l.symm⟩
theorem Sim.trans {t : Nat} {w x y : Wd} (h : Sim t w x) (g : Sim t x y) : Sim t w y:=⟨h.k.trans g.k,h.n.trans g.n,h.l.trans g.l⟩
theorem who_sim {t : Nat} {w x : Wd} (h : Sim t w x) (s : Sp) : whoW w s = whoW x s:=by unfold whoW; rw [h.k,h.n]
theorem ticks_sim {t : Nat} {w x : Wd} (h : Sim t w x) (s : Sp) : ticksW w s = ticksW x s:=by unfold ticksW; rw [h.k]
theorem doW_ticks (w : Wd) (s : Sp) : (doW w s).1.ticks = if s.kind < 1 ∨ 6 < s.kind then w.ticks else ticksW w s:=by
 unfold doW
 split
 ·rfl
 ·split
  ·rfl
  ·rfl
theorem doW_lane (w : Wd) (s : Sp) (t : Nat) : (doW w s).1.lanes[t]? = if (s.kind < 1 ∨ 6 < s.kind) ∨ whoW w s ≠ t then w.lanes[t]? else (w.lanes[t]?).map fun l => (laneW l s).1:=by
 unfold doW
 by_cases h1 : s.kind < 1 ∨ 6 < s.kind
 ·rw [if_pos h1,if_pos (.inl h1)]
 rw [if_neg h1]
 by_cases h2 : whoW w s < 0 ∨ (w.lanes.length : Int) ≤ whoW w s
 ·rw [if_pos h2]
  by_cases h3 : whoW w s = t
  ·rw [if_neg (by intro q; rcases q with q | q; exact h1 q; exact q h3)]
   simp only
   rw [List.getElem?_eq_none (by omega)]
   rfl
  ·rw [if_pos (.inr h3)]
 rw [if_neg h2]
 simp only
 by_cases h3 : whoW w s = t
 ·rw [if_neg (by intro q; rcases q with q | q; exact h1 q; exact q h3)]
  rw [h3,Int.toNat_natCast,List.getElem?_set_self (by omega),getD_get (d:=zeroL) (by omega : t < w.lanes.length)]
  rfl
 ·rw [if_pos (.inr h3),List.getElem?_set_ne (by omega)]
theorem Sim.step {t : Nat} {w x : Wd} (h : Sim t w x) (s : Sp) : Sim t (doW w s).1 (doW x s).1:=by
 refine ⟨?_,by rw [do_len,do_len]; exact h.n,?_⟩
 ·rw [doW_ticks,doW_ticks,ticks_sim h,h.k]
 ·rw [doW_lane,doW_lane,who_sim h,h.l]
theorem KInv.lane {p : List Ms} {l : Ln} (h : KInv p l) (s : Sp) (h6 : s.kind ≠ 6) : KInv (p ++ (if (laneW l s).2 = 0 ∧ s.kind = 2 then [s.msg] else [])) (laneW l s).1:=by
 unfold laneW
 by_cases h1 : s.kind = 1
 ·rw [if_pos h1,if_neg (by omega),List.append_nil]
  exact h.speak
 rw [if_neg h1]
 by_cases h2 : s.kind = 2
 ·rw [if_pos h2]
  have:=h.put s.msg
  by_cases he : putE l.s s.msg = 0
  ·rw [if_pos he] at this
   rw [if_pos ⟨he,h2⟩]
   exact this
  ·rw [if_neg he] at this
   rw [if_neg (fun w => he w.1),List.append_nil]
   exact this
 ·rw [if_neg h2,if_neg (fun w => h2 w.2),List.append_nil]
  exact h.packet _ _ _ _ h6
def WKnow (p : Int → List Ms) (w : Wd) : Prop:=∀ (j : Nat) (x : Ln),w.lanes[j]? = some x → KInv (p j) x
theorem wknow_new (n : Nat) : WKnow (fun _ => []) (newW n):=fun j x hx => by
 have : x ∈ (newW n).lanes:=List.mem_of_getElem? hx
 rw [(List.mem_replicate.1 this).2]
 exact kinv_zero
theorem WKnow.step {p : Int → List Ms} {w : Wd} (h : WKnow p w) (s : Sp) (h6 : s.kind ≠ 6) : WKnow (fun t => p t ++ (if (doW w s).2 = 0 ∧ s.kind = 2 ∧ s.tenant = t then [s.msg] else [])) (doW w s).1:=by
 unfold doW
 split
 ·intro j x hx
  simp only
  rw [if_neg (by simp),List.append_nil]
  exact h j x hx
 split
 ·intro j x hx
  simp only
  rw [if_neg (by simp),List.append_nil]
  exact h j x hx
 ·rename_i h1 h2
  intro j x hx
  simp only at hx ⊢
  have hlt : (whoW w s).toNat < w.lanes.length:=by omega
  have hg : w.lanes.getD (whoW w s).toNat zeroL = w.lanes[(whoW w s).toNat]:=by rw [List.getD_eq_getElem?_getD,List.getElem?_eq_getElem hlt,Option.getD_some]
  rw [hg] at hx ⊢
  have hl:=h (whoW w s).toNat _ (List.getElem?_eq_getElem hlt)
  by_cases hj : (whoW w s).toNat = j
  ·subst hj
   rw [List.getElem?_set_self (by omega)] at hx
   cases hx
   have:=hl.lane s h6
   by_cases hk : (laneW w.lanes[(whoW w s).toNat] s).2 = 0 ∧ s.kind = 2
   ·have ht : s.tenant = ((whoW w s).toNat : Int):=by
     have : whoW w s = s.tenant:=by unfold whoW; rw [if_neg (by omega)]
     omega
    rw [if_pos hk] at this
    rw [if_pos ⟨hk.1,hk.2,ht⟩]
    exact this
   ·rw [if_neg hk] at this
    rw [if_neg (fun w => hk ⟨w.1,w.2.1⟩)]
    exact this
  ·rw [List.getElem?_set_ne hj] at hx
   rw [if_neg,List.append_nil]
   ·exact h j x hx
   ·rintro ⟨w1,w2,w3⟩
    have : whoW w s = s.tenant:=by unfold whoW; rw [if_neg (by omega)]
    omega
theorem wknow_run (n : Nat) (l : List Sp) (hs : ∀ s ∈ l,s.kind ≠ 6) : ∀ k,k ≤ l.length → WKnow (fun t => putsW (l.take k) (runW (newW n) (l.take k)).2 t) (runW (newW n) (l.take k)).1:=by
 intro k
 induction k with
 | zero => intro _; exact wknow_new n
 | succ k ih =>
  intro hk
  have hi:=ih (by omega)
  have hlen:=run_len (newW n) l k (by omega)
  rw [List.take_add_one,List.getElem?_eq_getElem (by omega),Option.toList_some]
  have hst:=hi.step l[k] (hs _ (List.getElem_mem (by omega)))
  rw [runW_snoc]
  intro j x hx
  have:=hst j x hx
  simp only
  rw [putsW_snoc (by rw [hlen,List.length_take]; omega)]
  exact this
theorem idle_iff {l : Ln} : idleL l = true ↔ l.s.queue = [] ∧ l.s.flight = []:=by
 unfold idleL
 rw [Bool.and_eq_true,List.isEmpty_iff,List.isEmpty_iff]
def tickS : Sp:=⟨1,0,0,0,false,⟨0,[]⟩⟩
def drainW (w : Wd) : Wd:=⟨w.lanes.map drainL,w.ticks⟩
def roundW (w : Wd) : Wd:=(doW (drainW w) tickS).1
def roundN : Nat → Wd → Wd
 | 0,w => w
 | k + 1,w => roundW (roundN k w)
def stillW (w : Wd) : Bool:=w.lanes.all idleL
theorem GoodL.there_all : ∀ (q : List (List UInt8)) {l : Ln},GoodL l → l.there = q → GoodL { l with r:=q.foldl hearP l.r,there:=[] }
 | [],l,h,e => by
  obtain ⟨s,r,t,b⟩:=l
  simp only at e
  subst e
  exact h
 | x :: q,l,h,e => by
  have h1:=h.come 0 false
  rw [come_there e] at h1
  exact GoodL.there_all q h1 rfl
theorem GoodL.back_all : ∀ (q : List (List UInt8)) {l : Ln},GoodL l → l.back = q → GoodL { l with s:=q.foldl hearQ l.s,back:=[] }
 | [],l,h,e => by
  obtain ⟨s,r,t,b⟩:=l
  simp only at e
  subst e
  exact h
 | x :: q,l,h,e => by
  have h1:=h.come 0 true
  rw [come_back e] at h1
  exact GoodL.back_all q h1 rfl
theorem GoodL.drain {l : Ln} (h : GoodL l) : GoodL (drainL l):=GoodL.back_all l.back (GoodL.there_all l.there h rfl) rfl
theorem GoodW.drain {w : Wd} (h : GoodW w) : GoodW (drainW w):=⟨by simpa [drainW] using h.n,h.t,fun l hl => by
 obtain ⟨x,hx,e⟩:=List.mem_map.1 hl
 rw [← e]; exact (h.l x hx).drain⟩
theorem GoodW.round {w : Wd} (h : GoodW w) : GoodW (roundW w):=h.drain.step tickS
theorem round_ticks (w : Wd) : (roundW w).ticks = w.ticks + 1:=by
 unfold roundW
 rw [doW_ticks,if_neg (by decide)]
 rfl
theorem round_len (w : Wd) : (roundW w).lanes.length = w.lanes.length:=by
 unfold roundW
 rw [do_len]
 simp [drainW]
theorem roundN_ticks (k : Nat) (w : Wd) : (roundN k w).ticks = w.ticks + k:=by
 induction k with
 | zero => simp [roundN]
 | succ k ih => rw [roundN,round_ticks,ih]; omega
theorem roundN_len (k : Nat) (w : Wd) : (roundN k w).lanes.length = w.lanes.length:=by
 induction k with
 | zero => rfl
 | succ k ih => rw [roundN,round_len,ih]
theorem GoodW.rounds {w : Wd} (h : GoodW w) (k : Nat) : GoodW (roundN k w):=by
 induction k with
 | zero => exact h
 | succ k ih => exact ih.round
theorem round_lane (w : Wd) (j : Nat) : (roundW w).lanes[j]? = (w.lanes[j]?).map fun x => if w.ticks.tmod w.lanes.length = j then speakL (drainL x) else drainL x:=by
 unfold roundW
 rw [doW_lane]
 have hw : whoW (drainW w) tickS = w.ticks.tmod w.lanes.length:=by
  unfold whoW
  rw [if_pos (by rfl)]
  show w.ticks.tmod ((w.lanes.map drainL).length : Nat) = _
  rw [List.length_map]
 have hl : (drainW w).lanes[j]? = (w.lanes[j]?).map drainL:=by simp [drainW]
 rw [hw,hl]
 by_cases e : w.ticks.tmod w.lanes.length = j
 ·rw [if_neg (by intro q; rcases q with q | q; exact absurd q (by decide); exact q e)]
  cases w.lanes[j]? with
  | none => rfl
  | some x =>
   simp only [Option.map_some,e,if_true]
   rfl
 ·rw [if_pos (.inr e)]
  cases w.lanes[j]? with
  | none => rfl
  | some x => simp only [Option.map_some,e,if_false]
theorem Sim.round {t : Nat} {w x : Wd} (h : Sim t w x) : Sim t (roundW w) (roundW x):=by
 refine ⟨by rw [round_ticks,round_ticks,h.k],by rw [round_len,round_len,h.n],?_⟩
 rw [round_lane,round_lane,h.l,h.k,h.n]
theorem Sim.rounds {t : Nat} {w x : Wd} (h : Sim t w x) (k : Nat) : Sim t (roundN k w) (roundN k x):=by
 induction k with
 | zero => exact h
 | succ k ih => exact ih.round
def cntT (n : Nat) (j : Nat) (t : Int) : Nat → Nat
 | 0 => 0
 | k + 1 => cntT n j t k + if (t + k) % n = j then 1 else 0
theorem cnt_add (n j : Nat) (t : Int) (a b : Nat) : cntT n j t (a + b) = cntT n j t a + cntT n j (t + a) b:=by
 induction b with
 | zero => rfl
 | succ b ih =>
  show cntT n j t (a + b) + (if (t + ((a + b : Nat) : Int)) % n = j then 1 else 0) = cntT n j t a + (cntT n j (t + a) b + if (t + a + b) % n = j then 1 else 0)
  rw [ih,show t + ((a + b : Nat) : Int) = t + (a : Int) + (b : Int) by omega]
  omega
theorem cnt_one {n j : Nat} (hn : 1 ≤ n ∧ n ≤ 3) (hj : j < n) (t : Int) : cntT n j t n = 1:=by
 rcases (by omega : n = 1 ∨ n = 2 ∨ n = 3) with rfl | rfl | rfl
 ·simp only [cntT]
  rw [if_pos (by omega)]
 ·simp only [cntT]
  split <;> split <;> omega
 ·simp only [cntT]
  split <;> split <;> split <;> omega
theorem cnt_many {n j : Nat} (hn : 1 ≤ n ∧ n ≤ 3) (hj : j < n) (t : Int) (K : Nat) : cntT n j t (n * K) = K:=by
 induction K with
 | zero => rfl
 | succ K ih => rw [Nat.mul_succ,cnt_add,ih,cnt_one hn hj]
theorem cnt_mono (n j : Nat) (t : Int) {a b : Nat} (h : a ≤ b) : cntT n j t a ≤ cntT n j t b:=by
 obtain ⟨d,rfl⟩ : ∃ d,b = a + d:=⟨b - a,by omega⟩
 rw [cnt_add]; omega
theorem roundN_drain {w : Wd} (ht : 0 ≤ w.ticks) {j : Nat} {x : Ln} (hx : w.lanes[j]? = some x) (k : Nat) : ∃ y,(roundN k w).lanes[j]? = some y ∧ drainL y = goN (cntT w.lanes.length j w.ticks k) (drainL x):=by
 induction k with
 | zero => exact ⟨x,hx,rfl⟩
 | succ k ih =>
  obtain ⟨y,hy,e⟩:=ih
  refine ⟨_,by rw [roundN,round_lane,hy]; rfl,?_⟩
  rw [roundN_ticks,roundN_len]
  have h0 : (w.ticks + (k : Int)).tmod w.lanes.length = (w.ticks + (k : Int)) % w.lanes.length:=Int.tmod_eq_emod_of_nonneg (by omega)
  rw [h0]
  show drainL (if _ then _ else _) = goN (cntT _ _ _ k + if _ then 1 else 0) _
  by_cases q : (w.ticks + (k : Int)) % w.lanes.length = j
  ·rw [if_pos q,if_pos q,goN_succ,← e]; rfl
  ·rw [if_neg q,if_neg q,Nat.add_zero,← e]; rfl
theorem idle_speak {l : Ln} (hi : idleL l = true) : idleL (speakL l) = true:=by
 unfold idleL at hi
 rw [Bool.and_eq_true] at hi
 have hq:=List.isEmpty_iff.1 hi.1
 have hf:=List.isEmpty_iff.1 hi.2
 have hs : (sayL l.s).1 = l.s:=by
  unfold sayL
  rw [hq]
  simp only
  rw [if_pos (by rw [hf]; rfl)]
 unfold idleL speakL
 simp only
 rw [hs,hq,hf]
 rfl
theorem still_at {p : Int → List Ms} {w : Wd} (hw : GoodW w) (hk : WKnow p w) : stillW (roundN 200 w) = true:=by
 unfold stillW
 rw [List.all_eq_true]
 intro z hz
 obtain ⟨j,hj⟩:=List.getElem?_of_mem hz
 have hlt : j < w.lanes.length:=by
  have:=(List.getElem?_eq_some_iff.1 hj).1
  rw [roundN_len] at this
  exact this
 obtain ⟨x,hx⟩ : ∃ x,w.lanes[j]? = some x:=⟨_,List.getElem?_eq_getElem hlt⟩
 obtain ⟨y,hy,e⟩:=roundN_drain hw.t hx 199
 have hc : 61 ≤ cntT w.lanes.length j w.ticks 199:=by
  have h1:=cnt_many hw.n hlt w.ticks 66
  have h2:=cnt_mono w.lanes.length j w.ticks (by have:=hw.n; omega : w.lanes.length * 66 ≤ 199)
  omega
 have hi : idleL (drainL y) = true:=by
  rw [e]
  exact idle_at (hk j x hx).drain rfl rfl _ hc
 have : (roundN 200 w).lanes[j]? = _:=round_lane (roundN 199 w) j
 rw [hj,hy] at this
 simp only [Option.map_some,Option.some.injEq] at this
 rw [this]
 split
 ·exact idle_speak hi
 ·exact hi
theorem WKnow.round {p : Int → List Ms} {w : Wd} (h : WKnow p w) : WKnow p (roundW w):=fun j y hy => by
 rw [round_lane] at hy
 cases hx : w.lanes[j]? with
 | none => rw [hx] at hy; cases hy
 | some x =>
  rw [hx] at hy
  simp only [Option.map_some,Option.some.injEq] at hy
  rw [← hy]
  split
  ·exact (h j x hx).drain.speak
  ·exact (h j x hx).drain
theorem WKnow.rounds {p : Int → List Ms} {w : Wd} (h : WKnow p w) (k : Nat) : WKnow p (roundN k w):=by
 induction k with
 | zero => exact h
 | succ k ih => exact ih.round
def settleK : Nat → Wd → Nat
 | 0,_ => 0
 | f + 1,w => if stillW w = true then 0 else settleK f (roundW w) + 1
theorem roundN_left (k : Nat) (w : Wd) : roundN (k + 1) w = roundN k (roundW w):=by
 induction k with
 | zero => rfl
 | succ k ih => rw [roundN,ih]; rfl
theorem settle_le : ∀ (f : Nat) (w : Wd),settleK f w ≤ f
 | 0,w => Nat.le_refl _
 | f + 1,w => by
  unfold settleK
  split
  ·omega
  ·have:=settle_le f (roundW w); omega
theorem settle_still : ∀ (f : Nat) (w : Wd),stillW (roundN (settleK f w) w) = true ∨ settleK f w = f
 | 0,w => .inr rfl
 | f + 1,w => by
  unfold settleK
  split
  ·rename_i h; exact .inl h
  ·rw [roundN_left]
   rcases settle_still f (roundW w) with q | q
   ·exact .inl q
   ·exact .inr (by rw [q])
theorem settle_not : ∀ (f : Nat) (w : Wd) (k : Nat),k < settleK f w → stillW (roundN k w) = false
 | 0,w,k,h => by cases h
 | f + 1,w,k,h => by
  unfold settleK at h
  split at h
  ·cases h
  ·rename_i hs
   cases k with
   | zero => simpa [roundN] using hs
   | succ k => rw [roundN_left]; exact settle_not f (roundW w) k (by omega)
theorem settle_ends {p : Int → List Ms} {w : Wd} (hw : GoodW w) (hk : WKnow p w) : stillW (roundN (settleK 200 w) w) = true:=by
 rcases settle_still 200 w with q | q
 ·exact q
 ·rw [q]; exact still_at hw hk
theorem KInv.ends {p : List Ms} {l : Ln} (h : KInv p l) (hi : idleL l = true) : l.r.told.length = p.length ∧ fitsS l.r.told p = true:=by
 obtain ⟨g,m,cs,e,k⟩:=h
 unfold idleL at hi
 rw [Bool.and_eq_true] at hi
 have hq:=List.isEmpty_iff.1 hi.1
 have hf:=List.isEmpty_iff.1 hi.2
 have h1:=k.idle hf
 rw [hq,List.append_nil] at e
 subst e
 have h2:=k.s.n
 refine ⟨by omega,?_⟩
 have:=k.r.fits []
 rw [List.append_nil] at this
 exact this
end Go.Proofs.YtgaofjiidedcbacGreat.mth
namespace Go.Proofs.YtgaofjiidedcbacGreat.ab
open Go Go.RowKit
open mth
def CFPlay (f : Nat) : Prop:=(∀ (n : Int) (l : List Sp),l.length ≤ 9223372036854775807 → n < 1 ∨ 3 < n → Told Tryz.prog f [vI n,sD 7 (encSl l)] [aD (encWd ⟨[],0⟩),sD 1 [],vI 3]) ∧
 (∀ (n : Nat) (l : List Sp),1 ≤ n ∧ n ≤ 3 → l.length ≤ 9223372036854775807 → 160 < l.length → Told Tryz.prog f [vI n,sD 7 (encSl l)] [aD (encWd ⟨[],0⟩),sD 1 [],vI 5]) ∧
 (∀ (n : Nat) (l : List Sp),1 ≤ n ∧ n ≤ 3 → l.length ≤ 160 → Told Tryz.prog f [vI n,sD 7 (encSl l)] [aD (encWd (runW (newW n) l).1),sD 1 ((runW (newW n) l).2.map vI),vI 0])
def CFRound (f : Nat) : Prop:=∀ w,GoodW w → w.ticks ≤ 1000000 → Told Tryz.prog f [aD (encWd w)] [aD (encWd (roundW w))]
def CFSettle (f : Nat) : Prop:=∀ w,GoodW w → w.ticks ≤ 100000 → Told Tryz.prog f [aD (encWd w)] [aD (encWd (roundN (settleK 200 w) w)),vI (settleK 200 w)]
set_option maxRecDepth 100000
def Q84r0 : IC:=cReg Tryz.prog [⟨some 0,none,iMov 0 (.const (.bool false)) true⟩] [] []
def Q84r1 : IC:=cReg Tryz.prog [⟨some 7,none,iRow 7 5 1 [(.const (.int .u8 97))]⟩,⟨some 8,none,iCst 8 7⟩,⟨some 9,none,iBld 9 [zI,zS] [(1,1)] [(.tmp 8)]⟩,⟨some 10,none,iBld 10 [zI,zI,zI,zI,zF,zI,zS] [(0,1),(1,1),(5,2)] [(.const (.int .i64 2)),(.const (.int .i64 1)),(.tmp 9)]⟩,xR 11 45 7 10,⟨some 12,none,iCall 12 7 [(.const (.int .i64 2)),(.tmp 11)]⟩,xM 6 12,xE 13 6 0,xE 14 6 1,xE 15 6 2,⟨some 1,none,iAlo 1 [zS,zI]⟩,xS 2 1 13,xT 2 14,xT 3 15] [1,2,3] [1]
def Q84r2 : IC:=cReg Tryz.prog [xA 17 2 1,xV1 18 13 17,xM 16 18,xE 19 16 0,xE 20 16 1,⟨some 4,none,iAlo 4 [zS,zI]⟩,xS 2 4 19,xT 5 20] [1,2,3,4,5] [1,4]
def Q84r3_0 : IC:=cReg Tryz.prog [xM 21 3,xC 22 .eql 21 0,xM 23 22,xG 23 true (xM 24 2),xG 23 true (xN 25 24),xG 23 true (xC 26 .eql 25 1),xQ 27 23 26,xM 28 27,xG 28 true (xM 29 5),xG 28 true (xC 30 .gtr 29 1)] [1,4,28,30] [1,4]
def Q84r3_1 : IC:=cReg Tryz.prog [xQ 31 28 30,xM 32 31,xG 32 true (xF 33 0 4),xG 32 true (xL 34 1 33),⟨some 35,some (32,true),iIaS 35 17 (.tmp 34) (.const (.int .i64 1))⟩,xG 32 true (xF 36 7 35),xG 32 true (xF 37 6 36),xG 32 true (xL 38 1 37),xG 32 true (xN 39 38),xG 32 true (xC 40 .eql 39 1)] [1,4,32,40] [1,4]
def Q84r3_2 : IC:=cReg Tryz.prog [xQ 41 32 40,xM 42 41,xG 42 true (xF 43 0 4),xG 42 true (xL 44 1 43),⟨some 45,some (42,true),iIaS 45 17 (.tmp 44) (.const (.int .i64 1))⟩,xG 42 true (xF 46 0 45),xG 42 true (xF 47 5 46),xG 42 true (xL 48 1 47),xG 42 true (xN 49 48),xG 42 true (xC 50 .eql 49 0)] [1,42,50] [1]
def Q84r3_3 : IC:=cReg Tryz.prog [xQ 51 42 50,xM 52 51,xG 52 true (xA 53 2 1),xG 52 true (xV1 54 11 53),⟨some 55,some (52,true),iFld 55 1 1 false (.tmp 54)⟩,xG 52 true (xC 56 .eql 55 1),xQ 57 52 56,xT 0 57] [0] []
def Q84r3 : IC:=(cSeq Q84r3_0 (cSeq Q84r3_1 (cSeq Q84r3_2 Q84r3_3)))
def w12_alive : IC:=(cSeq Q84r0 (cSeq Q84r1 (cSeq Q84r2 (cSeq Q84r3 cRet))))
theorem told_w12_alive {args r : List D} (hl : args.length = 0) (h : w12_alive (start args) (fin [(0,none)] r)) : Told Tryz.prog 15 args r :=
 told_of follows Tryz.func15 rfl (an:=[([],[],[],[]),([],[1,2,3],[1],[]),([],[1,2,3,4,5],[1,4],[]),([(10,[1,4,28,30],[1,4]),(10,[1,4,32,40],[1,4]),(10,[1,42,50],[1])],[0],[],[])]) (by kernel_rfl) (by kernel_rfl) (by rw [hl]; decide +kernel) h
def Q83r0 : IC:=cReg Tryz.prog [⟨some 4,none,iMov 4 (.const (.bool false)) true⟩] [0,1] []
def Q83r1 : IC:=cReg Tryz.prog [⟨some 14,none,iCall 14 15 []⟩,xO 15 14] [0,1,15] []
def Q83r2 : IC:=cReg Tryz.prog [⟨some 4,none,iMov 4 (.const (.bool false)) true⟩] [4] []
def Q83c1a : IC:=(cSeq Q83r2 cRet)
def Q83c1 : IC:=cCond (.tmp 15) Q83c1a cSkip
def Q83r3 : IC:=cReg Tryz.prog [xM 16 1,xN 17 16,⟨some 18,none,iMov 18 (.const (.int .i64 0)) false⟩] [0,1,16,17,18] []
def Q83r4 : IC:=cReg Tryz.prog [xB 19 .lss 18 17] [0,1,16,17,18,19] []
def Q83c4 : IC:=cCond (.tmp 19) cSkip (cExit 0)
def Q83r5 : IC:=cReg Tryz.prog [xI 20 7 16 18,xA 21 7 20,⟨some 6,none,iAlo 6 [zI,zI,zI,zI,zF,zI,zS]⟩,xS 7 6 21] [0,1,6,16,17,18] [6]
def Q83r6 : IC:=cReg Tryz.prog [xF 22 0 6,xL 23 1 22,xC 24 .eql 23 6] [0,1,16,17,18,24] []
def Q83r7 : IC:=cReg Tryz.prog [⟨some 4,none,iMov 4 (.const (.bool true)) true⟩] [4] []
def Q83c6a : IC:=(cSeq Q83r7 cRet)
def Q83c6 : IC:=cCond (.tmp 24) Q83c6a cSkip
def Q83b5 : IC:=cBlock 1 (cSeq Q83r5 (cSeq Q83r6 Q83c6))
def Q83r8 : IC:=cReg Tryz.prog [xC 25 .add 18 1,xM 18 25] [0,1,16,17,18] []
def Q83l3a : IC:=(cSeq Q83r4 (cSeq Q83c4 (cSeq Q83b5 Q83r8)))
def Q83l3 : IC:=cLoop Q83l3a
def Q83b2 : IC:=cBlock 0 Q83l3
def Q83r9 : IC:=cReg Tryz.prog [xM 26 0,xC 27 .lss 26 1,xM 28 27,xG 28 false (xM 29 0),xG 28 false (xC 30 .gtr 29 3),xP 31 28 30] [0,1,31] []
def Q83r10 : IC:=cReg Tryz.prog [⟨some 4,none,iMov 4 (.const (.bool true)) true⟩] [4] []
def Q83c7a : IC:=(cSeq Q83r10 cRet)
def Q83c7 : IC:=cCond (.tmp 31) Q83c7a cSkip
def Q83r11 : IC:=cReg Tryz.prog [xM 33 0,xM 34 1,xV2 35 9 33 34,xM 32 35,xE 36 32 0,xE 37 32 1,⟨some 7,none,iAlo 7 [zS,zI]⟩,xS 2 7 36,xT 8 37] [0,1,7,8] [7]
def Q83r12 : IC:=cReg Tryz.prog [xA 39 2 7,xV1 40 13 39,xM 38 40,xE 41 38 0,xE 42 38 1,⟨some 9,none,iAlo 9 [zS,zI]⟩,xS 2 9 41,xT 10 42] [0,1,8,9,10] [9]
def Q83r13 : IC:=cReg Tryz.prog [xM 43 10,xC 44 .gtr 43 200,xM 45 44,xG 45 false (xF 46 0 9),xG 45 false (xL 47 1 46),xG 45 false (xN 48 47),xG 45 false (xM 49 0),xG 45 false (xB 50 .neq 48 49),xP 51 45 50,xM 52 51,xG 52 false (xA 53 2 9),xG 52 false (xV1 54 14 53),xG 52 false (xO 55 54),xP 56 52 55] [1,8,9,56] [9]
def Q83r14 : IC:=cReg Tryz.prog [⟨some 4,none,iMov 4 (.const (.bool false)) true⟩] [4] []
def Q83c8a : IC:=(cSeq Q83r14 cRet)
def Q83c8 : IC:=cCond (.tmp 56) Q83c8a cSkip
def Q83r15 : IC:=cReg Tryz.prog [xF 57 0 9,xL 58 1 57,xN 59 58,⟨some 60,none,iMov 60 (.const (.int .i64 0)) false⟩] [1,8,58,59,60] []
def Q83r16 : IC:=cReg Tryz.prog [xB 61 .lss 60 59] [1,8,58,59,60,61] []
def Q83c11 : IC:=cCond (.tmp 61) cSkip (cExit 2)
def Q83r17 : IC:=cReg Tryz.prog [xM 62 60,xI 63 17 58 60,xA 64 17 63,⟨some 12,none,iAlo 12 [zS,zI,zI,zI,zI,zS,zI,zI,zS,zI,zI,zI,zS,zS,zF,zS,zS]⟩,xT 11 62,xS 17 12 64] [1,8,11,12,58,59,60] [12]
def Q83r18 : IC:=cReg Tryz.prog [xM 65 1,xM 66 8,xM 67 11,⟨some 68,none,iCall 68 16 [(.tmp 65),(.tmp 66),(.tmp 67)]⟩,xT 13 68] [1,8,12,13,58,59,60] [12]
def Q83r19_0 : IC:=cReg Tryz.prog [xF 69 7 12,xF 70 6 69,xL 71 1 70,xM 72 13,xV2 73 17 71 72,xO 74 73,xM 75 74,xG 75 false (xF 76 7 12),xG 75 false (xF 77 6 76),xG 75 false (xL 78 1 77)] [1,8,13,58,59,60,75,78] []
def Q83r19_1 : IC:=cReg Tryz.prog [xG 75 false (xN 79 78),xG 75 false (xM 80 13),xG 75 false (xN 81 80),xG 75 false (xB 82 .neq 79 81),xP 83 75 82] [1,8,58,59,60,83] []
def Q83r19 : IC:=(cSeq Q83r19_0 Q83r19_1)
def Q83r20 : IC:=cReg Tryz.prog [⟨some 4,none,iMov 4 (.const (.bool false)) true⟩] [4] []
def Q83c13a : IC:=(cSeq Q83r20 cRet)
def Q83c13 : IC:=cCond (.tmp 83) Q83c13a cSkip
def Q83b12 : IC:=cBlock 3 (cSeq Q83r17 (cSeq Q83r18 (cSeq Q83r19 Q83c13)))
def Q83r21 : IC:=cReg Tryz.prog [xC 84 .add 60 1,xM 60 84] [1,8,58,59,60] []
def Q83l10a : IC:=(cSeq Q83r16 (cSeq Q83c11 (cSeq Q83b12 Q83r21)))
def Q83l10 : IC:=cLoop Q83l10a
def Q83b9 : IC:=cBlock 2 Q83l10
def Q83r22 : IC:=cReg Tryz.prog [⟨some 4,none,iMov 4 (.const (.bool true)) true⟩] [4] []
def w12_FairEnds : IC:=(cSeq Q83r0 (cSeq (cSeq Q83r1 Q83c1) (cSeq (cSeq Q83r3 Q83b2) (cSeq (cSeq Q83r9 Q83c7) (cSeq Q83r11 (cSeq Q83r12 (cSeq (cSeq Q83r13 Q83c8) (cSeq (cSeq Q83r15 Q83b9) (cSeq Q83r22 cRet)))))))))
theorem told_w12_FairEnds {args r : List D} (hl : args.length = 2) (h : w12_FairEnds (start args) (fin [(4,none)] r)) : Told Tryz.prog 4 args r :=
 told_of follows Tryz.func4 rfl (an:=[([],[0,1],[],[]),([],[0,1,15],[],[]),([],[4],[],[]),([],[0,1,16,17,18],[],[]),([],[0,1,16,17,18,19],[],[]),([],[0,1,6,16,17,18],[6],[]),([],[0,1,16,17,18,24],[],[]),([],[4],[],[]),([],[0,1,16,17,18],[],[]),([],[0,1,31],[],[]),([],[4],[],[]),([],[0,1,7,8],[7],[]),([],[0,1,8,9,10],[9],[]),([],[1,8,9,56],[9],[]),([],[4],[],[]),([],[1,8,58,59,60],[],[]),([],[1,8,58,59,60,61],[],[]),([],[1,8,11,12,58,59,60],[12],[]),([],[1,8,12,13,58,59,60],[12],[]),([(10,[1,8,13,58,59,60,75,78],[])],[1,8,58,59,60,83],[],[]),([],[4],[],[]),([],[1,8,58,59,60],[],[]),([],[4],[],[])]) (by kernel_rfl) (by kernel_rfl) (by rw [hl]; decide +kernel) h
end Go.Proofs.YtgaofjiidedcbacGreat.ab
