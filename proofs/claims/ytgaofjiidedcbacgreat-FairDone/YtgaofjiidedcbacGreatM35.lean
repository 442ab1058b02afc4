import Derived.Test.YtgaofjiidedcbacGreatM34
import Derived.Test.YtgaofjiidedcbacGreatM31
set_option linter.unusedVariables false
set_option linter.unusedSimpArgs false
namespace Go.Proofs.YtgaofjiidedcbacGreat.mth
theorem zmy {m : List Ms} {cs : List Ch} {l : Ln} (h : Know m cs l) {x : Ms} {rest : List Ms} (hq : l.s.queue = x :: rest) (hf : l.s.flight.length ≤ 3) {y : Ln}
  (hy : y = ⟨hearS (newS l.s x rest) (ackC l.r),hearR (sayR l.r).1 (newC l.s x),[],[]⟩) : phiL y < phiL l:=by
 have h':=h.new hq hf
 have hn:=h.s.n
 have hcn : (newC l.s x).number = l.s.next:=rfl
 have hnc : ¬ CameN l.r (newC l.s x).number:=by
  rw [hcn]
  rintro (w | w)
  ·have:=h.r.n; omega
  ·have:=h.r.e _ (List.contains_iff_mem.1 w); omega
 have hcc : newC l.s x ∈ cs ++ [newC l.s x]:=by simp
 have hb : cameL (ackC l.r) (newC l.s x).number = false:=by
  cases e : cameL (ackC l.r) (newC l.s x).number with
  | false => rfl
  | true => exact absurd (zab.1 e) hnc
 have hfl : y.s.flight = unseen l ++ [newC l.s x]:=by
  rw [hy,ack_eq]
  show (l.s.flight ++ [newC l.s x]).filter _ = _
  rw [List.filter_append,List.filter_cons_of_pos (by rw [hb]; rfl)]
  rfl
 have hqy : y.s.queue = rest:=by rw [hy,ack_eq]; rfl
 have hry : y.r = hearR (sayR l.r).1 (newC l.s x):=by rw [hy]
 have hcame : ∀ z ∈ cs ++ [newC l.s x],CameN y.r z.number ↔ CameN l.r z.number ∨ (seenR l.r (newC l.s x).number = false ∧ z = newC l.s x):=fun z hz => by
  rw [hry,zen h'.s.m h.r.g.say hcc hz,z9f,z9e]
 have hU : ∀ z ∈ unseen l,z ∈ l.s.flight ∧ ¬ CameN l.r z.number:=fun z hz => by
  obtain ⟨q1,q2⟩:=List.mem_filter.1 hz
  refine ⟨q1,fun w => ?_⟩
  rw [zab.2 w] at q2
  cases q2
 have huU : (unseen l).filter (fun z => !cameL (ackC y.r) z.number) = unseen l:=by
  refine List.filter_eq_self.2 fun z hz => ?_
  obtain ⟨q1,q2⟩:=hU z hz
  cases hb : cameL (ackC y.r) z.number with
  | false => rfl
  | true =>
   rcases (hcame z (List.mem_append_left _ (h.s.f z q1))).1 (zab.1 hb) with w | w
   ·exact absurd w q2
   ·have h1:=(h.s.m.num z (h.s.f z q1)).2
    rw [w.2,hcn] at h1
    omega
 have huy : unseen y = unseen l ++ [newC l.s x].filter (fun z => !cameL (ackC y.r) z.number):=by
  unfold unseen
  rw [hfl,List.filter_append]
  exact congrArg (· ++ _) huU
 have hul:=zme l
 have hql : l.s.queue.length = rest.length + 1:=by rw [hq]; rfl
 unfold phiL
 rw [hqy,hfl,hql,List.length_append,List.length_singleton]
 by_cases hs : seenR l.r (newC l.s x).number = true
 ·have e : [newC l.s x].filter (fun z => !cameL (ackC y.r) z.number) = [newC l.s x]:=by
   refine List.filter_eq_self.2 fun z hz => ?_
   rw [List.mem_singleton.1 hz]
   cases hb : cameL (ackC y.r) (newC l.s x).number with
   | false => rfl
   | true =>
    rcases (hcame _ hcc).1 (zab.1 hb) with w | w
    ·exact absurd w hnc
    ·rw [hs] at w; cases w.1
  rw [huy,e,List.length_append,List.length_singleton,Nat.sub_self]
  exact zyq (by omega)
 ·have hs : seenR l.r (newC l.s x).number = false:=by simpa using hs
  have e : [newC l.s x].filter (fun z => !cameL (ackC y.r) z.number) = []:=by
   refine List.filter_eq_nil_iff.2 fun z hz => ?_
   rw [List.mem_singleton.1 hz,zab.2 ((hcame _ hcc).2 (.inr ⟨hs,rfl⟩))]
   simp
  rw [huy,e,List.append_nil,show (unseen l).length + 1 - (unseen l).length = 1 by omega]
  exact zvx (by omega)
theorem zq6 {p : List Ms} {l : Ln} (h : KInv p l) : KInv p (goL l):=h.speak.drain
theorem zvy {l : Ln} (hg : GoodS l.s) (hi : idleL l = false) : (sayL l.s).2.1.kind = 1:=by
 have hag : ∀ (hf : 0 < l.s.flight.length),(l.s.flight.getD (againK l.s).toNat zeroC).kind = 1:=fun hf => by
  have hk:=zwb hg hf
  have hlt : (againK l.s).toNat < l.s.flight.length:=by omega
  rw [List.getD_eq_getElem?_getD,List.getElem?_eq_getElem hlt,Option.getD_some]
  exact (hg.c _ (List.getElem_mem hlt)).1
 unfold idleL at hi
 unfold sayL
 split
 ·rename_i hq
  rw [hq] at hi
  split
  ·rename_i hf
   rw [List.length_eq_zero_iff.1 hf] at hi
   cases hi
  ·exact hag (by omega)
 ·split
  ·exact hag (by omega)
  ·rfl
theorem zbu {l : Ln} (hg : GoodL l) (ht : l.there = []) (hb : l.back = []) (hi : idleL l = false) : (goL l).r.owes = true:=by
 rw [go_eq hg ht hb hi]
 exact zaw (zvy hg.s hi)
theorem zmc {s : Sd} (h : (s.queue = [] ∧ s.flight.length ≠ 0) ∨ 3 < s.flight.length) : sayL s = ({ s with turn:=againK s + 1 },s.flight.getD (againK s).toNat zeroC,true):=by
 unfold sayL
 split
 ·rw [if_neg (by omega)]
 ·rename_i x r hq
  rw [if_pos (by
   rcases h with ⟨w,_⟩ | w
   ·rw [hq] at w; cases w
   ·exact w)]
theorem zws {s : Sd} {x : Ms} {r : List Ms} (hq : s.queue = x :: r) (hf : ¬ 3 < s.flight.length) : sayL s = (newS s x r,newC s x,true):=by
 unfold sayL
 rw [hq]
 simp only
 rw [if_neg hf]
theorem z3n {p : List Ms} {l : Ln} (h : KInv p l) (ht : l.there = []) (hb : l.back = []) (hi : idleL l = false) (ho : l.r.owes = true) : phiL (goL l) < phiL l:=by
 have e:=go_eq h.1 ht hb hi
 rw [if_pos ho] at e
 obtain ⟨g,m,cs,ep,k⟩:=h
 unfold idleL at hi
 have hf4:=g.s.f
 by_cases hf : 3 < l.s.flight.length
 ·rw [zmc (.inr hf)] at e
  exact zbk k (.inr (by omega)) (by omega) e
 ·cases hq : l.s.queue with
  | nil =>
   rw [hq] at hi
   have hne : l.s.flight.length ≠ 0:=by
    intro q
    rw [List.length_eq_zero_iff.1 q] at hi
    cases hi
   rw [zmc (.inl ⟨hq,hne⟩)] at e
   exact zbk k (.inl (by rw [hq]; rfl)) (by omega) e
  | cons x r =>
   rw [zws hq hf] at e
   exact zmy k hq (by omega) e
theorem z41 {l : Ln} (h : GoodL l) : phiL l ≤ 60:=by
 have:=zme l
 have:=h.s.f
 exact phi_le h.s.q (by omega)
def Soon (p : List Ms) (k : Nat) (l : Ln) : Prop:=l.there = [] ∧ l.back = [] ∧ (idleL l = true ∨ (KInv p l ∧ l.r.owes = true ∧ phiL l ≤ k))
theorem zfn {l : Ln} (ht : l.there = []) (hi : idleL l = true) : idleL (goL l) = true:=by
 obtain ⟨h1,h2⟩:=zmx ht hi
 unfold idleL
 rw [h1,h2]
 rfl
theorem Soon.go {p : List Ms} {k : Nat} {l : Ln} (h : Soon p (k + 1) l) : Soon p k (goL l):=by
 obtain ⟨h1,h2,h3⟩:=h
 refine ⟨rfl,rfl,?_⟩
 cases hi : idleL l with
 | true => exact .inl (zfn h1 hi)
 | false =>
  rcases h3 with q | ⟨q1,q2,q3⟩
  ·rw [hi] at q; cases q
  ·exact .inr ⟨zq6 q1,zbu q1.1 h1 h2 hi,by have:=z3n q1 h1 h2 hi q2; omega⟩
theorem Soon.zero {p : List Ms} {l : Ln} (h : Soon p 0 l) : idleL l = true:=by
 obtain ⟨h1,h2,h3⟩:=h
 cases hi : idleL l with
 | true => rfl
 | false =>
  rcases h3 with q | ⟨q1,q2,q3⟩
  ·rw [hi] at q; cases q
  ·have:=z3n q1 h1 h2 hi q2; omega
def goN : Nat → Ln → Ln
 | 0,l => l
 | k + 1,l => goN k (goL l)
theorem zid (k : Nat) (l : Ln) : goN (k + 1) l = goL (goN k l):=by
 induction k generalizing l with
 | zero => rfl
 | succ k ih => show goN (k + 1) (goL l) = _; rw [ih]; rfl
theorem zpy (k : Nat) {l : Ln} (h1 : l.there = []) (h2 : l.back = []) : (goN k l).there = [] ∧ (goN k l).back = []:=by
 cases k with
 | zero => exact ⟨h1,h2⟩
 | succ k => rw [zid]; exact ⟨rfl,rfl⟩
theorem zjy {α : Type} {l : List α} {j : Nat} {d : α} (h : j < l.length) : l[j]? = some (l.getD j d):=by
 rw [List.getD_eq_getElem?_getD,List.getElem?_eq_getElem h]; rfl
theorem do_len (w : Wd) (s : Sp) : (doW w s).1.lanes.length = w.lanes.length:=by
 unfold doW
 split
 ·rfl
 ·split
  ·rfl
  ·simp
theorem zky (w : Wd) (l : List Sp) : (runW w l).1.lanes.length = w.lanes.length:=by
 have : ∀ (l : List Sp) (x : Wd × List Int),(l.foldl (fun x s => ((doW x.1 s).1,x.2 ++ [(doW x.1 s).2])) x).1.lanes.length = x.1.lanes.length:=by
  intro l
  induction l with
  | nil => intro x; rfl
  | cons s l ih => intro x; rw [List.foldl_cons,ih]; exact do_len _ _
 exact this l (w,[])
structure Sim (t : Nat) (w x : Wd) : Prop where
 k : w.ticks = x.ticks
 n : w.lanes.length = x.lanes.length
 l : w.lanes[t]? = x.lanes[t]?
theorem Sim.refl (t : Nat) (w : Wd) : Sim t w w:=⟨rfl,rfl,rfl⟩
theorem Sim.symm {t : Nat} {w x : Wd} (h : Sim t w x) : Sim t x w:=⟨h.k.symm,h.n.symm,h.l.symm⟩
theorem Sim.trans {t : Nat} {w x y : Wd} (h : Sim t w x) (g : Sim t x y) : Sim t w y:=⟨h.k.trans g.k,h.n.trans g.n,h.l.trans g.l⟩
theorem zo4 {t : Nat} {w x : Wd} (h : Sim t w x) (s : Sp) : whoW w s = whoW x s:=by unfold whoW; rw [h.k,h.n]
theorem zqv {t : Nat} {w x : Wd} (h : Sim t w x) (s : Sp) : ticksW w s = ticksW x s:=by unfold ticksW; rw [h.k]
theorem zdj (w : Wd) (s : Sp) : (doW w s).1.ticks = if s.kind < 1 ∨ 6 < s.kind then w.ticks else ticksW w s:=by
 unfold doW
 split
 ·rfl
 ·split
  ·rfl
  ·rfl
theorem zzl (w : Wd) (s : Sp) (t : Nat) : (doW w s).1.lanes[t]? = if (s.kind < 1 ∨ 6 < s.kind) ∨ whoW w s ≠ t then w.lanes[t]? else (w.lanes[t]?).map fun l => (laneW l s).1:=by
 unfold doW
 by_cases h1 : s.kind < 1 ∨ 6 < s.kind
 ·rw [if_pos h1,if_pos (.inl h1)]
 rw [if_neg h1]
 by_cases h2 : whoW w s < 0 ∨ (w.lanes.length : Int) ≤ whoW w s
 ·rw [if_pos h2]
  by_cases h3 : whoW w s = t
  ·rw [if_neg (by intro q; rcases q with q | q; exact h1 q; exact q h3)]
   simp only
   rw [List.getElem?_eq_none (by omega)]
   rfl
  ·rw [if_pos (.inr h3)]
 rw [if_neg h2]
 simp only
 by_cases h3 : whoW w s = t
 ·rw [if_neg (by intro q; rcases q with q | q; exact h1 q; exact q h3)]
  rw [h3,Int.toNat_natCast,List.getElem?_set_self (by omega),zjy (d:=zeroL) (by omega : t < w.lanes.length)]
  rfl
 ·rw [if_pos (.inr h3),List.getElem?_set_ne (by omega)]
theorem Sim.step {t : Nat} {w x : Wd} (h : Sim t w x) (s : Sp) : Sim t (doW w s).1 (doW x s).1:=by
 refine ⟨?_,by rw [do_len,do_len]; exact h.n,?_⟩
 ·rw [zdj,zdj,zqv h,h.k]
 ·rw [zzl,zzl,zo4 h,h.l]
theorem KInv.lane {p : List Ms} {l : Ln} (h : KInv p l) (s : Sp) (h6 : s.kind ≠ 6) : KInv (p ++ (if (laneW l s).2 = 0 ∧ s.kind = 2 then [s.msg] else [])) (laneW l s).1:=by
 unfold laneW
 by_cases h1 : s.kind = 1
 ·rw [if_pos h1,if_neg (by omega),List.append_nil]
  exact h.speak
 rw [if_neg h1]
 by_cases h2 : s.kind = 2
 ·rw [if_pos h2]
  have:=h.put s.msg
  by_cases he : putE l.s s.msg = 0
  ·rw [if_pos he] at this
   rw [if_pos ⟨he,h2⟩]
   exact this
  ·rw [if_neg he] at this
   rw [if_neg (fun w => he w.1),List.append_nil]
   exact this
 ·rw [if_neg h2,if_neg (fun w => h2 w.2),List.append_nil]
  exact h.packet _ _ _ _ h6
def WKnow (p : Int → List Ms) (w : Wd) : Prop:=∀ (j : Nat) (x : Ln),w.lanes[j]? = some x → KInv (p j) x
theorem WKnow.step {p : Int → List Ms} {w : Wd} (h : WKnow p w) (s : Sp) (h6 : s.kind ≠ 6) : WKnow (fun t => p t ++ (if (doW w s).2 = 0 ∧ s.kind = 2 ∧ s.tenant = t then [s.msg] else [])) (doW w s).1:=by
 unfold doW
 split
 ·intro j x hx
  simp only
  rw [if_neg (by simp),List.append_nil]
  exact h j x hx
 split
 ·intro j x hx
  simp only
  rw [if_neg (by simp),List.append_nil]
  exact h j x hx
 ·rename_i h1 h2
  intro j x hx
  simp only at hx ⊢
  have hlt : (whoW w s).toNat < w.lanes.length:=by omega
  have hg : w.lanes.getD (whoW w s).toNat zeroL = w.lanes[(whoW w s).toNat]:=by rw [List.getD_eq_getElem?_getD,List.getElem?_eq_getElem hlt,Option.getD_some]
  rw [hg] at hx ⊢
  have hl:=h (whoW w s).toNat _ (List.getElem?_eq_getElem hlt)
  by_cases hj : (whoW w s).toNat = j
  ·subst hj
   rw [List.getElem?_set_self (by omega)] at hx
   cases hx
   have:=hl.lane s h6
   by_cases hk : (laneW w.lanes[(whoW w s).toNat] s).2 = 0 ∧ s.kind = 2
   ·have ht : s.tenant = ((whoW w s).toNat : Int):=by
     have : whoW w s = s.tenant:=by unfold whoW; rw [if_neg (by omega)]
     omega
    rw [if_pos hk] at this
    rw [if_pos ⟨hk.1,hk.2,ht⟩]
    exact this
   ·rw [if_neg hk] at this
    rw [if_neg (fun w => hk ⟨w.1,w.2.1⟩)]
    exact this
  ·rw [List.getElem?_set_ne hj] at hx
   rw [if_neg,List.append_nil]
   ·exact h j x hx
   ·rintro ⟨w1,w2,w3⟩
    have : whoW w s = s.tenant:=by unfold whoW; rw [if_neg (by omega)]
    omega
theorem zti {l : Ln} : idleL l = true ↔ l.s.queue = [] ∧ l.s.flight = []:=by
 unfold idleL
 rw [Bool.and_eq_true,List.isEmpty_iff,List.isEmpty_iff]
def tickS : Sp:=⟨1,0,0,0,false,⟨0,[]⟩⟩
def drainW (w : Wd) : Wd:=⟨w.lanes.map drainL,w.ticks⟩
def roundW (w : Wd) : Wd:=(doW (drainW w) tickS).1
def roundN : Nat → Wd → Wd
 | 0,w => w
 | k + 1,w => roundW (roundN k w)
def stillW (w : Wd) : Bool:=w.lanes.all idleL
theorem GoodL.there_all : ∀ (q : List (List UInt8)) {l : Ln},GoodL l → l.there = q → GoodL { l with r:=q.foldl hearP l.r,there:=[] }
 | [],l,h,e => by
  obtain ⟨s,r,t,b⟩:=l
  simp only at e
  subst e
  exact h
 | x :: q,l,h,e => by
  have h1:=h.come 0 false
  rw [zdg e] at h1
  exact GoodL.there_all q h1 rfl
theorem GoodL.back_all : ∀ (q : List (List UInt8)) {l : Ln},GoodL l → l.back = q → GoodL { l with s:=q.foldl hearQ l.s,back:=[] }
 | [],l,h,e => by
  obtain ⟨s,r,t,b⟩:=l
  simp only at e
  subst e
  exact h
 | x :: q,l,h,e => by
  have h1:=h.come 0 true
  rw [z4i e] at h1
  exact GoodL.back_all q h1 rfl
theorem GoodL.drain {l : Ln} (h : GoodL l) : GoodL (drainL l):=GoodL.back_all l.back (GoodL.there_all l.there h rfl) rfl
theorem GoodW.drain {w : Wd} (h : GoodW w) : GoodW (drainW w):=⟨by simpa [drainW] using h.n,h.t,fun l hl => by
 obtain ⟨x,hx,e⟩:=List.mem_map.1 hl
 rw [← e]; exact (h.l x hx).drain⟩
theorem GoodW.round {w : Wd} (h : GoodW w) : GoodW (roundW w):=h.drain.step tickS
theorem zkd (w : Wd) : (roundW w).ticks = w.ticks + 1:=by
 unfold roundW
 rw [zdj,if_neg (by decide)]
 rfl
theorem zhj (w : Wd) : (roundW w).lanes.length = w.lanes.length:=by
 unfold roundW
 rw [do_len]
 simp [drainW]
theorem zlb (k : Nat) (w : Wd) : (roundN k w).ticks = w.ticks + k:=by
 induction k with
 | zero => simp [roundN]
 | succ k ih => rw [roundN,zkd,ih]; omega
theorem zfb (k : Nat) (w : Wd) : (roundN k w).lanes.length = w.lanes.length:=by
 induction k with
 | zero => rfl
 | succ k ih => rw [roundN,zhj,ih]
theorem GoodW.rounds {w : Wd} (h : GoodW w) (k : Nat) : GoodW (roundN k w):=by
 induction k with
 | zero => exact h
 | succ k ih => exact ih.round
theorem zgd (w : Wd) (j : Nat) : (roundW w).lanes[j]? = (w.lanes[j]?).map fun x => if w.ticks.tmod w.lanes.length = j then speakL (drainL x) else drainL x:=by
 unfold roundW
 rw [zzl]
 have hw : whoW (drainW w) tickS = w.ticks.tmod w.lanes.length:=by
  unfold whoW
  rw [if_pos (by rfl)]
  show w.ticks.tmod ((w.lanes.map drainL).length : Nat) = _
  rw [List.length_map]
 have hl : (drainW w).lanes[j]? = (w.lanes[j]?).map drainL:=by simp [drainW]
 rw [hw,hl]
 by_cases e : w.ticks.tmod w.lanes.length = j
 ·rw [if_neg (by intro q; rcases q with q | q; exact absurd q (by decide); exact q e)]
  cases w.lanes[j]? with
  | none => rfl
  | some x =>
   simp only [Option.map_some,e,if_true]
   rfl
 ·rw [if_pos (.inr e)]
  cases w.lanes[j]? with
  | none => rfl
  | some x => simp only [Option.map_some,e,if_false]
theorem Sim.round {t : Nat} {w x : Wd} (h : Sim t w x) : Sim t (roundW w) (roundW x):=by
 refine ⟨by rw [zkd,zkd,h.k],by rw [zhj,zhj,h.n],?_⟩
 rw [zgd,zgd,h.l,h.k,h.n]
theorem Sim.rounds {t : Nat} {w x : Wd} (h : Sim t w x) (k : Nat) : Sim t (roundN k w) (roundN k x):=by
 induction k with
 | zero => exact h
 | succ k ih => exact ih.round
def cntT (n : Nat) (j : Nat) (t : Int) : Nat → Nat
 | 0 => 0
 | k + 1 => cntT n j t k + if (t + k) % n = j then 1 else 0
theorem zrr (n j : Nat) (t : Int) (a b : Nat) : cntT n j t (a + b) = cntT n j t a + cntT n j (t + a) b:=by
 induction b with
 | zero => rfl
 | succ b ih =>
  show cntT n j t (a + b) + (if (t + ((a + b : Nat) : Int)) % n = j then 1 else 0) = cntT n j t a + (cntT n j (t + a) b + if (t + a + b) % n = j then 1 else 0)
  rw [ih,show t + ((a + b : Nat) : Int) = t + (a : Int) + (b : Int) by omega]
  omega
theorem z03 {n j : Nat} (hn : 1 ≤ n ∧ n ≤ 3) (hj : j < n) (t : Int) : cntT n j t n = 1:=by
 rcases (by omega : n = 1 ∨ n = 2 ∨ n = 3) with rfl | rfl | rfl
 ·simp only [cntT]
  rw [if_pos (by omega)]
 ·simp only [cntT]
  split <;> split <;> omega
 ·simp only [cntT]
  split <;> split <;> split <;> omega
theorem z9t {n j : Nat} (hn : 1 ≤ n ∧ n ≤ 3) (hj : j < n) (t : Int) (K : Nat) : cntT n j t (n * K) = K:=by
 induction K with
 | zero => rfl
 | succ K ih => rw [Nat.mul_succ,zrr,ih,z03 hn hj]
theorem ztt (n j : Nat) (t : Int) {a b : Nat} (h : a ≤ b) : cntT n j t a ≤ cntT n j t b:=by
 obtain ⟨d,rfl⟩ : ∃ d,b = a + d:=⟨b - a,by omega⟩
 rw [zrr]; omega
theorem zrm {w : Wd} (ht : 0 ≤ w.ticks) {j : Nat} {x : Ln} (hx : w.lanes[j]? = some x) (k : Nat) : ∃ y,(roundN k w).lanes[j]? = some y ∧ drainL y = goN (cntT w.lanes.length j w.ticks k) (drainL x):=by
 induction k with
 | zero => exact ⟨x,hx,rfl⟩
 | succ k ih =>
  obtain ⟨y,hy,e⟩:=ih
  refine ⟨_,by rw [roundN,zgd,hy]; rfl,?_⟩
  rw [zlb,zfb]
  have h0 : (w.ticks + (k : Int)).tmod w.lanes.length = (w.ticks + (k : Int)) % w.lanes.length:=Int.tmod_eq_emod_of_nonneg (by omega)
  rw [h0]
  show drainL (if _ then _ else _) = goN (cntT _ _ _ k + if _ then 1 else 0) _
  by_cases q : (w.ticks + (k : Int)) % w.lanes.length = j
  ·rw [if_pos q,if_pos q,zid,← e]; rfl
  ·rw [if_neg q,if_neg q,Nat.add_zero,← e]; rfl
theorem zrq {l : Ln} (hi : idleL l = true) : idleL (speakL l) = true:=by
 unfold idleL at hi
 rw [Bool.and_eq_true] at hi
 have hq:=List.isEmpty_iff.1 hi.1
 have hf:=List.isEmpty_iff.1 hi.2
 have hs : (sayL l.s).1 = l.s:=by
  unfold sayL
  rw [hq]
  simp only
  rw [if_pos (by rw [hf]; rfl)]
 unfold idleL speakL
 simp only
 rw [hs,hq,hf]
 rfl
theorem WKnow.round {p : Int → List Ms} {w : Wd} (h : WKnow p w) : WKnow p (roundW w):=fun j y hy => by
 rw [zgd] at hy
 cases hx : w.lanes[j]? with
 | none => rw [hx] at hy; cases hy
 | some x =>
  rw [hx] at hy
  simp only [Option.map_some,Option.some.injEq] at hy
  rw [← hy]
  split
  ·exact (h j x hx).drain.speak
  ·exact (h j x hx).drain
theorem WKnow.rounds {p : Int → List Ms} {w : Wd} (h : WKnow p w) (k : Nat) : WKnow p (roundN k w):=by
 induction k with
 | zero => exact h
 | succ k ih => exact ih.round
def zjb : Nat → Wd → Nat
 | 0,_ => 0
 | f + 1,w => if stillW w = true then 0 else zjb f (roundW w) + 1
theorem zei (k : Nat) (w : Wd) : roundN (k + 1) w = roundN k (roundW w):=by
 induction k with
 | zero => rfl
 | succ k ih => rw [roundN,ih]; rfl
theorem z9i : ∀ (f : Nat) (w : Wd),zjb f w ≤ f
 | 0,w => Nat.le_refl _
 | f + 1,w => by
  unfold zjb
  split
  ·omega
  ·have:=z9i f (roundW w); omega
theorem z4d : ∀ (f : Nat) (w : Wd),stillW (roundN (zjb f w) w) = true ∨ zjb f w = f
 | 0,w => .inr rfl
 | f + 1,w => by
  unfold zjb
  split
  ·rename_i h; exact .inl h
  ·rw [zei]
   rcases z4d f (roundW w) with q | q
   ·exact .inl q
   ·exact .inr (by rw [q])
theorem zvj : ∀ (f : Nat) (w : Wd) (k : Nat),k < zjb f w → stillW (roundN k w) = false
 | 0,w,k,h => by cases h
 | f + 1,w,k,h => by
  unfold zjb at h
  split at h
  ·cases h
  ·rename_i hs
   cases k with
   | zero => simpa [roundN] using hs
   | succ k => rw [zei]; exact zvj f (roundW w) k (by omega)
end Go.Proofs.YtgaofjiidedcbacGreat.mth
