import Derived.Test.YtgaofjiidedcbacGreatM35
import Derived.Test.YtgaofjiidedcbacGreatM20
import Derived.Test.YtgaofjiidedcbacGreatProg
set_option linter.unusedVariables false
set_option linter.unusedSimpArgs false
namespace Go.Proofs.YtgaofjiidedcbacGreat.mth
theorem z0s {r : Rv} (hg : GoodR r) {c : Ch} (hk : c.kind = 1) (hw : wrongL c = 0) {z : Int} (hz : z < 40) : CameN (hearR r c) z ↔ CameN r z ∨ (seenR r c.number = false ∧ z = c.number):=by
 obtain ⟨hn40,hpl,_,hms⟩:=zt hk hw
 have e : hearR r c = if seenR r c.number = true then { r with owes:=true } else takeR r c:=by unfold hearR; rw [if_pos hk]
 cases hs : seenR r c.number with
 | true =>
  rw [hs,if_pos rfl] at e
  rw [e]
  constructor
  ·intro q; exact .inl q
  ·rintro (q | q)
   ·exact q
   ·cases q.1
 | false =>
  rw [hs,if_neg (by simp)] at e
  rw [e]
  have hS : ∀ m ∈ c.number :: r.early,m < 40:=by
   intro m hm
   rcases List.mem_cons.1 hm with rfl | hm
   ·exact hn40.2
   ·exact (hg.in40 m hm).2
  have t6:=(zgc (c.number :: r.early) hS 41 r.next hg.n.2 (by have:=hg.n; omega)).2.2.2
  show (z < climb 41 (c.number :: r.early) r.next ∨ (earlyR (c.number :: r.early) (climb 41 (c.number :: r.early) r.next)).contains z = true) ↔ _
  have h1:=(zgc (c.number :: r.early) hS 41 r.next hg.n.2 (by have:=hg.n; omega)).1
  unfold CameN
  by_cases q : z < climb 41 (c.number :: r.early) r.next
  ·constructor
   ·intro _
    by_cases q2 : z < r.next
    ·exact .inl (.inl q2)
    ·have:=t6 z (by omega) q
     rw [zbb,Bool.or_eq_true,beq_iff_eq] at this
     rcases this with w | w
     ·exact .inl (.inr w)
     ·exact .inr ⟨rfl,w⟩
   ·intro _; exact .inl q
  ·rw [z9b (by omega) hz,zbb,Bool.or_eq_true,beq_iff_eq]
   constructor
   ·rintro (w | w | w)
    ·omega
    ·exact .inl (.inr w)
    ·exact .inr ⟨rfl,w⟩
   ·rintro ((w | w) | w)
    ·omega
    ·exact .inr (.inl w)
    ·exact .inr (.inr w.2)
theorem zry {q u a t t' : Nat} (hf : u + a ≤ 3) : phi q u 0 t' < phi (q + 1) u a t:=by
 have h1:=z0p t' (by omega : u ≤ 3)
 have hu' : ¬ u = 4:=by omega
 unfold phi
 simp only [hu',if_false,if_true]
 split
 ·split
  ·split <;> omega
  ·omega
 ·split
  ·split <;> omega
  ·omega
structure Stuck (l : Ln) : Prop where
 t : l.there = []
 b : l.back = []
 f : 0 < l.s.flight.length
 q : l.s.queue = [] ∨ 3 < l.s.flight.length
 n : ∀ c ∈ l.s.flight,¬ CameN l.r c.number ∧ seenR l.r c.number = true
theorem zfm {l : Ln} (h : 0 < l.s.flight.length) : idleL l = false:=by
 unfold idleL
 cases e : l.s.flight with
 | nil => rw [e] at h; cases h
 | cons x r => simp
theorem Stuck.go {l : Ln} (hg : GoodL l) (h : Stuck l) : Stuck (goL l):=by
 have hi:=zfm h.f
 have e:=go_eq hg h.t h.b hi
 have ea : sayL l.s = ({ l.s with turn:=againK l.s + 1 },l.s.flight.getD (againK l.s).toNat zeroC,true):=zmc (by
  rcases h.q with q | q
  ·left; exact ⟨q,by have:=h.f; omega⟩
  ·exact .inr q)
 have hk:=zwb hg.s h.f
 have hlt : (againK l.s).toNat < l.s.flight.length:=by omega
 have hc : l.s.flight.getD (againK l.s).toNat zeroC ∈ l.s.flight:=by
  rw [List.getD_eq_getElem?_getD,List.getElem?_eq_getElem hlt,Option.getD_some]
  exact List.getElem_mem hlt
 generalize l.s.flight.getD (againK l.s).toNat zeroC = c at *
 rw [ea] at e
 have hr : hearR (sayR l.r).1 c = { (sayR l.r).1 with owes:=true }:=by
  unfold hearR
  rw [if_pos (hg.s.c c hc).1,if_pos (by rw [z9e]; exact (h.n c hc).2)]
 have hf : (goL l).s.flight = l.s.flight:=by
  rw [e]
  split
  ·rw [ack_eq]
   refine List.filter_eq_self.2 fun z hz => ?_
   cases hb : cameL (ackC l.r) z.number with
   | false => rfl
   | true => exact absurd (zab.1 hb) (h.n z hz).1
  ·rfl
 have hq : (goL l).s.queue = l.s.queue:=by
  rw [e]
  split
  ·rw [ack_eq]
  ·rfl
 have hr2 : (goL l).r = { (sayR l.r).1 with owes:=true }:=by rw [e]; exact hr
 refine ⟨rfl,rfl,by rw [hf]; exact h.f,by rw [hf,hq]; exact h.q,fun z hz => ?_⟩
 rw [hf] at hz
 rw [hr2]
 obtain ⟨n1,n2⟩:=h.n z hz
 refine ⟨fun w => n1 (z9f.1 w),?_⟩
 have : seenR (sayR l.r).1 z.number = true:=by rw [z9e]; exact n2
 exact this
theorem num40 {l : Ln} (hg : GoodL l) {c : Ch} (hc : c ∈ l.s.flight) : c.number < 40:=(zt (hg.s.c c hc).1 (hg.s.c c hc).2.1).1.2
theorem zhg {l : Ln} {z : Ch} (hz : z ∈ unseen l) : z ∈ l.s.flight ∧ ¬ CameN l.r z.number:=by
 obtain ⟨q1,q2⟩:=List.mem_filter.1 hz
 refine ⟨q1,fun w => ?_⟩
 rw [zab.2 w] at q2
 cases q2
theorem zan {l : Ln} (hg : GoodL l) (ht : l.there = []) (hb : l.back = []) (hq : l.s.queue = [] ∨ 3 < l.s.flight.length) (hf : 0 < l.s.flight.length) {x : Ln}
  (hx : x = ⟨hearS { l.s with turn:=againK l.s + 1 } (ackC l.r),hearR (sayR l.r).1 (l.s.flight.getD (againK l.s).toNat zeroC),[],[]⟩) : phiL x < phiL l ∨ Stuck l:=by
 have hk:=zwb hg.s hf
 have hlt : (againK l.s).toNat < l.s.flight.length:=by omega
 obtain ⟨c,hc⟩ : ∃ c,c = l.s.flight.getD (againK l.s).toNat zeroC:=⟨_,rfl⟩
 have hcf : l.s.flight[(againK l.s).toNat]? = some c:=by
  rw [hc,List.getD_eq_getElem?_getD,List.getElem?_eq_getElem hlt,Option.getD_some]
 have hcm:=List.mem_of_getElem? hcf
 have hcw:=hg.s.c c hcm
 have hfl : x.s.flight = unseen l:=by rw [hx,ack_eq]; rfl
 have hqx : x.s.queue = l.s.queue:=by rw [hx,ack_eq]
 have htx : x.s.turn = againK l.s + 1:=by rw [hx,ack_eq]
 have hrx : x.r = hearR (sayR l.r).1 c:=by rw [hx,hc]
 have hcame : ∀ z ∈ l.s.flight,CameN x.r z.number ↔ CameN l.r z.number ∨ (seenR l.r c.number = false ∧ z.number = c.number):=fun z hz => by
  rw [hrx,z0s hg.r.say hcw.1 hcw.2.1 (num40 hg hz),z9f,z9e]
 have hux : unseen x = (unseen l).filter fun z => !cameL (ackC x.r) z.number:=by unfold unseen; rw [hfl]; rfl
 have hfle:=hg.s.f
 have hul:=zme l
 have htt:=hg.s.t
 have htn : l.s.turn.toNat % l.s.flight.length = (againK l.s).toNat:=by
  unfold againK
  have e : ((l.s.turn.toNat % l.s.flight.length : Nat) : Int) = l.s.turn % (l.s.flight.length : Int):=by
   rw [Int.natCast_emod,Int.toNat_of_nonneg htt.1]
  omega
 have same : seenR l.r c.number = true → unseen x = unseen l:=fun hs => by
  rw [hux]
  refine List.filter_eq_self.2 fun z hz => ?_
  obtain ⟨q1,q2⟩:=zhg hz
  cases hb : cameL (ackC x.r) z.number with
  | false => rfl
  | true =>
   rcases (hcame z q1).1 (zab.1 hb) with w | w
   ·exact absurd w q2
   ·rw [hs] at w; cases w.1
 have hq' : l.s.queue.length = 0 ∨ (unseen l).length + (l.s.flight.length - (unseen l).length) = 4:=by
  rcases hq with q | q
  ·left; rw [q]; rfl
  ·right; omega
 by_cases hs : seenR l.r c.number = true
 ·by_cases ha : (unseen l).length < l.s.flight.length
  ·left
   unfold phiL
   rw [hqx,hfl,htx,same hs,Nat.sub_self]
   exact z9w (by omega) (by omega)
  ·have hu : (unseen l).length = l.s.flight.length:=by omega
   by_cases hne : (againK l.s).toNat = 0
   ·right
    have hall : ∀ z ∈ l.s.flight,¬ CameN l.r z.number:=by
     intro z hz q
     have:=List.length_filter_eq_length_iff.1 hu z hz
     rw [zab.2 q] at this
     cases this
    rw [hne] at hcf
    have hc1:=hall c hcm
    have hroom : l.r.next < c.number ∧ 2 < l.r.early.length:=by
     unfold seenR at hs
     unfold CameN at hc1
     simp only [Bool.or_eq_true,Bool.and_eq_true,decide_eq_true_eq] at hs
     rcases hs with w | w | w
     ·exact absurd (.inr w) hc1
     ·exact absurd (.inl w) hc1
     ·exact w
    refine ⟨ht,hb,hf,hq,fun z hz => ⟨hall z hz,?_⟩⟩
    have hle : c.number ≤ z.number:=by
     obtain ⟨k,hkz⟩:=List.getElem?_of_mem hz
     by_cases h0 : k = 0
     ·subst h0; rw [hcf] at hkz; cases hkz; omega
     ·have hltk:=(List.getElem?_eq_some_iff.1 hkz).1
      have:=List.pairwise_iff_getElem.1 hg.s.r 0 k hf hltk (by omega)
      rw [(List.getElem?_eq_some_iff.1 hcf).2,(List.getElem?_eq_some_iff.1 hkz).2] at this
      omega
    unfold seenR
    have h1 : decide (l.r.next < z.number) = true:=by simp; omega
    have h2 : decide (2 < l.r.early.length) = true:=by simpa using hroom.2
    rw [h1,h2]
    simp
   ·left
    unfold phiL
    rw [hqx,hfl,htx,same hs,hu,Nat.sub_self]
    have e2 : (againK l.s + 1).toNat = l.s.turn.toNat % l.s.flight.length + 1:=by rw [htn]; omega
    rw [e2]
    exact zcs hf (by omega) (by omega) (by rw [htn]; exact hne)
 ·left
  have hs : seenR l.r c.number = false:=by simpa using hs
  have hnc : ¬ CameN l.r c.number:=fun w => by rw [z9m w] at hs; cases hs
  have hcu : c ∈ unseen l:=List.mem_filter.2 ⟨hcm,by
   cases hb : cameL (ackC l.r) c.number with
   | false => rfl
   | true => exact absurd (zab.1 hb) hnc⟩
  have hpw : (unseen l).Pairwise (fun a b => a.number < b.number):=hg.s.r.filter _
  have hux2 : unseen x = (unseen l).filter fun z => z.number != c.number:=by
   rw [hux]
   refine List.filter_congr fun z hz => ?_
   obtain ⟨q1,q2⟩:=zhg hz
   cases hb : cameL (ackC x.r) z.number with
   | true =>
    rcases (hcame z q1).1 (zab.1 hb) with w | w
    ·exact absurd w q2
    ·rw [w.2]; simp
   | false =>
    have : ¬ z.number = c.number:=fun e => by
     have:=(hcame z q1).2 (.inr ⟨hs,e⟩)
     rw [zab.2 this] at hb
     cases hb
    simp [this]
  have hone:=zdh (unseen l) hpw c hcu
  unfold phiL
  rw [hqx,hfl,htx]
  rw [← hux2] at hone
  rw [← hone] at hul hq' ⊢
  rw [show (unseen x).length + 1 - (unseen x).length = 1 by omega]
  exact zds (by omega) (by omega)
theorem ze4 {l : Ln} (hg : GoodL l) {x : Ms} {rest : List Ms} (hq : l.s.queue = x :: rest) (hf : l.s.flight.length ≤ 3) {y : Ln}
  (hy : y = ⟨hearS (newS l.s x rest) (ackC l.r),hearR (sayR l.r).1 (newC l.s x),[],[]⟩) : phiL y < phiL l:=by
 have hn:=hg.s.n
 rw [hq] at hn
 simp only [List.length_cons] at hn
 have hcw : wrongL (newC l.s x) = 0:=zle hg.s (hg.s.m x (by rw [hq]; simp)) (by omega)
 have hcn : (newC l.s x).number = l.s.next:=rfl
 have hc40 : (newC l.s x).number < 40:=by omega
 have hry : y.r = hearR (sayR l.r).1 (newC l.s x):=by rw [hy]
 have hcame : ∀ n : Int,n < 40 → (CameN y.r n ↔ CameN l.r n ∨ (seenR l.r (newC l.s x).number = false ∧ n = (newC l.s x).number)):=fun n hn => by
  rw [hry,z0s hg.r.say rfl hcw hn,z9f,z9e]
 have hne : ∀ z ∈ l.s.flight,z.number ≠ (newC l.s x).number:=fun z hz => by
  have:=(hg.s.c z hz).2.2
  omega
 have hqy : y.s.queue = rest:=by rw [hy,ack_eq]; rfl
 have huU : (unseen l).filter (fun z => !cameL (ackC y.r) z.number) = unseen l:=by
  refine List.filter_eq_self.2 fun z hz => ?_
  obtain ⟨q1,q2⟩:=zhg hz
  cases hb : cameL (ackC y.r) z.number with
  | false => rfl
  | true =>
   rcases (hcame _ (num40 hg q1)).1 (zab.1 hb) with w | w
   ·exact absurd w q2
   ·exact absurd w.2 (hne z q1)
 have hul:=zme l
 have hql : l.s.queue.length = rest.length + 1:=by rw [hq]; rfl
 cases hb : cameL (ackC l.r) (newC l.s x).number with
 | true =>
  have hfl : y.s.flight = unseen l:=by
   rw [hy,ack_eq]
   show (l.s.flight ++ [newC l.s x]).filter _ = _
   rw [List.filter_append,List.filter_cons_of_neg (by rw [hb]; simp),List.filter_nil,List.append_nil]
   rfl
  have huy : unseen y = unseen l:=by
   unfold unseen
   rw [hfl]
   exact huU
  unfold phiL
  rw [hqy,hfl,huy,hql,Nat.sub_self]
  exact zry (by omega)
 | false =>
  have hnc : ¬ CameN l.r (newC l.s x).number:=fun w => by rw [zab.2 w] at hb; cases hb
  have hfl : y.s.flight = unseen l ++ [newC l.s x]:=by
   rw [hy,ack_eq]
   show (l.s.flight ++ [newC l.s x]).filter _ = _
   rw [List.filter_append,List.filter_cons_of_pos (by rw [hb]; rfl)]
   rfl
  have huy : unseen y = unseen l ++ [newC l.s x].filter (fun z => !cameL (ackC y.r) z.number):=by
   unfold unseen
   rw [hfl,List.filter_append]
   exact congrArg (· ++ _) huU
  unfold phiL
  rw [hqy,hfl,hql,List.length_append,List.length_singleton]
  by_cases hs : seenR l.r (newC l.s x).number = true
  ·have e : [newC l.s x].filter (fun z => !cameL (ackC y.r) z.number) = [newC l.s x]:=by
    refine List.filter_eq_self.2 fun z hz => ?_
    rw [List.mem_singleton.1 hz]
    cases hb : cameL (ackC y.r) (newC l.s x).number with
    | false => rfl
    | true =>
     rcases (hcame _ hc40).1 (zab.1 hb) with w | w
     ·exact absurd w hnc
     ·rw [hs] at w; cases w.1
   rw [huy,e,List.length_append,List.length_singleton,Nat.sub_self]
   exact zyq (by omega)
  ·have hs : seenR l.r (newC l.s x).number = false:=by simpa using hs
   have e : [newC l.s x].filter (fun z => !cameL (ackC y.r) z.number) = []:=by
    refine List.filter_eq_nil_iff.2 fun z hz => ?_
    rw [List.mem_singleton.1 hz,zab.2 ((hcame _ hc40).2 (.inr ⟨hs,rfl⟩))]
    simp
   rw [huy,e,List.append_nil,show (unseen l).length + 1 - (unseen l).length = 1 by omega]
   exact zvx (by omega)
theorem zfs {l : Ln} (hg : GoodL l) (ht : l.there = []) (hb : l.back = []) (hi : idleL l = false) (ho : l.r.owes = true) : phiL (goL l) < phiL l ∨ Stuck l:=by
 have e:=go_eq hg ht hb hi
 rw [if_pos ho] at e
 unfold idleL at hi
 by_cases hf : 3 < l.s.flight.length
 ·rw [zmc (.inr hf)] at e
  exact zan hg ht hb (.inr hf) (by omega) e
 ·cases hq : l.s.queue with
  | nil =>
   rw [hq] at hi
   have hne : l.s.flight.length ≠ 0:=by
    intro q
    rw [List.length_eq_zero_iff.1 q] at hi
    cases hi
   rw [zmc (.inl ⟨hq,hne⟩)] at e
   exact zan hg ht hb (.inl hq) (by omega) e
  | cons x r =>
   rw [zws hq hf] at e
   exact .inl (ze4 hg hq (by omega) e)
def Ever (k : Nat) (l : Ln) : Prop:=l.there = [] ∧ l.back = [] ∧ GoodL l ∧ (idleL l = true ∨ Stuck l ∨ (l.r.owes = true ∧ phiL l ≤ k))
theorem z0n {l : Ln} (h : GoodL l) : GoodL (goL l):=h.speak.drain
theorem Ever.go {k : Nat} {l : Ln} (h : Ever (k + 1) l) : Ever k (goL l):=by
 obtain ⟨h1,h2,hg,h3⟩:=h
 refine ⟨rfl,rfl,z0n hg,?_⟩
 cases hi : idleL l with
 | true => exact .inl (zfn h1 hi)
 | false =>
  rcases h3 with q | q | ⟨q2,q3⟩
  ·rw [hi] at q; cases q
  ·exact .inr (.inl (q.go hg))
  ·rcases zfs hg h1 h2 hi q2 with w | w
   ·exact .inr (.inr ⟨zbu hg h1 h2 hi,by omega⟩)
   ·exact .inr (.inl (w.go hg))
theorem Ever.zero {l : Ln} (h : Ever 0 l) : idleL l = true ∨ Stuck l:=by
 obtain ⟨h1,h2,hg,h3⟩:=h
 cases hi : idleL l with
 | true => exact .inl rfl
 | false =>
  rcases h3 with q | q | ⟨q2,q3⟩
  ·rw [hi] at q; cases q
  ·exact .inr q
  ·rcases zfs hg h1 h2 hi q2 with w | w
   ·omega
   ·exact .inr w
theorem z3t {l : Ln} (h : GoodL l) (ht : l.there = []) (hb : l.back = []) : Ever 60 (goL l):=by
 refine ⟨rfl,rfl,z0n h,?_⟩
 cases hi : idleL l with
 | true => exact .inl (zfn ht hi)
 | false => exact .inr (.inr ⟨zbu h ht hb hi,z41 (z0n h)⟩)
theorem zgr : ∀ (k : Nat) {l : Ln},Ever k l → idleL (goN k l) = true ∨ Stuck (goN k l)
 | 0,l,h => h.zero
 | k + 1,l,h => zgr k h.go
theorem zol (k : Nat) {l : Ln} (h : GoodL l) : GoodL (goN k l):=by
 induction k with
 | zero => exact h
 | succ k ih => rw [zid]; exact z0n ih
theorem z10 {l : Ln} (h : GoodL l) (ht : l.there = []) (hb : l.back = []) : ∀ k,61 ≤ k → idleL (goN k l) = true ∨ Stuck (goN k l):=by
 intro k hk
 obtain ⟨d,rfl⟩ : ∃ d,k = 61 + d:=⟨k - 61,by omega⟩
 clear hk
 induction d with
 | zero => exact zgr 60 (z3t h ht hb)
 | succ d ih =>
  rw [show 61 + (d + 1) = (61 + d) + 1 by omega,zid]
  rcases ih with q | q
  ·exact .inl (zfn (zpy _ ht hb).1 q)
  ·exact .inr (q.go (zol _ h))
structure Quiet (l : Ln) : Prop where
 t : l.there = []
 b : l.back = []
 q : l.s.queue = []
 f : l.s.flight = []
 o : l.r.owes = false
theorem zpr {s : Sd} (hq : s.queue = []) (hf : s.flight = []) : sayL s = (s,zeroC,false):=by
 unfold sayL
 rw [hq]
 simp only
 rw [if_pos (by rw [hf]; rfl)]
theorem Quiet.speak {l : Ln} (h : Quiet l) : speakL l = l:=by
 have e1:=zpr h.q h.f
 have e2 : sayR l.r = (l.r,zeroC,false):=by unfold sayR; rw [if_neg (by rw [h.o]; simp)]
 unfold speakL
 rw [e1,e2]
 simp
theorem Quiet.drain {l : Ln} (h : Quiet l) : drainL l = l:=z6t h.t h.b
theorem Quiet.go {l : Ln} (h : Quiet l) : goL l = l:=by unfold goL; rw [h.speak,h.drain]
theorem Quiet.goN {l : Ln} (h : Quiet l) (k : Nat) : mth.goN k l = l:=by
 induction k with
 | zero => rfl
 | succ k ih => rw [zid,ih,h.go]
theorem zrt {l : Ln} (hg : GoodL l) (ht : l.there = []) (hb : l.back = []) (hi : idleL l = true) : Quiet (goL l):=by
 obtain ⟨hq,hf⟩:=zti.1 hi
 obtain ⟨g1,g2⟩:=zmx ht hi
 refine ⟨rfl,rfl,g1,g2,?_⟩
 have e1:=zpr hq hf
 unfold goL drainL speakL
 rw [e1]
 simp only [Bool.false_eq_true,if_false,ht,List.foldl_nil]
 unfold sayR
 split
 ·rfl
 ·rename_i h; simpa using h
theorem zs0 {l : Ln} (hg : GoodL l) (ht : l.there = []) (hb : l.back = []) (hi : idleL l = true) (c : Nat) : mth.goN (c + 1) l = goL l:=by
 show mth.goN c (goL l) = _
 exact (zrt hg ht hb hi).goN c
theorem Stuck.speak {l : Ln} (h : Stuck l) : idleL (speakL l) = false:=by
 refine zfm ?_
 have ea : sayL l.s = ({ l.s with turn:=againK l.s + 1 },l.s.flight.getD (againK l.s).toNat zeroC,true):=zmc (by
  rcases h.q with q | q
  ·left; exact ⟨q,by have:=h.f; omega⟩
  ·exact .inr q)
 unfold speakL
 rw [ea]
 exact h.f
theorem zj4 (a b : Nat) (l : Ln) : mth.goN (a + b) l = mth.goN b (mth.goN a l):=by
 induction b with
 | zero => rfl
 | succ b ih => rw [Nat.add_succ,zid,ih,zid]
theorem Stuck.goN {l : Ln} (hg : GoodL l) (h : Stuck l) (k : Nat) : Stuck (mth.goN k l):=by
 induction k with
 | zero => exact h
 | succ k ih => rw [zid]; exact ih.go (zol k hg)
theorem z7e {w : Wd} (ht : 0 ≤ w.ticks) {j : Nat} {x : Ln} (hx : w.lanes[j]? = some x) (k : Nat) : ∃ b : Bool,(roundN (k + 1) w).lanes[j]? = some (if b = true then speakL (mth.goN (cntT w.lanes.length j w.ticks k) (drainL x)) else mth.goN (cntT w.lanes.length j w.ticks k) (drainL x)):=by
 obtain ⟨y,hy,e⟩:=zrm ht hx k
 refine ⟨decide ((roundN k w).ticks.tmod (roundN k w).lanes.length = j),?_⟩
 rw [roundN,zgd,hy,Option.map_some,e]
 simp
theorem z5p {w : Wd} (hw : GoodW w) (hs : stillW w = true) {j : Nat} (hj : j < w.lanes.length) (k m : Nat) (hk : w.lanes.length + 1 ≤ k) : (roundN (k + m) w).lanes[j]? = (roundN k w).lanes[j]?:=by
 obtain ⟨x,hx⟩ : ∃ x,w.lanes[j]? = some x:=⟨_,List.getElem?_eq_getElem hj⟩
 have hxm:=List.mem_of_getElem? hx
 have hgx:=hw.l x hxm
 have hix : idleL x = true:=by
  unfold stillW at hs
  exact List.all_eq_true.1 hs x hxm
 have hid : idleL (drainL x) = true:=by
  obtain ⟨h1,h2⟩:=zti.1 hix
  rw [zti]
  have key : ∀ (b : List (List UInt8)) (s : Sd),s.queue = [] → s.flight = [] → (b.foldl hearQ s).queue = [] ∧ (b.foldl hearQ s).flight = []:=by
   intro b
   induction b with
   | nil => intro s h1 h2; exact ⟨h1,h2⟩
   | cons x b ih =>
    intro s h1 h2
    refine ih (hearQ s x) ?_ ?_
    ·unfold hearQ hearS
     split
     ·split
      ·exact h1
      ·exact h1
     ·exact h1
    ·unfold hearQ hearS
     split
     ·split
      ·simp [h2]
      ·exact h2
     ·exact h2
  exact key x.back x.s h1 h2
 have hq:=zrt hgx.drain rfl rfl hid
 have key : ∀ k,w.lanes.length + 1 ≤ k → (roundN k w).lanes[j]? = some (goL (drainL x)):=by
  intro k hk
  obtain ⟨d,rfl⟩ : ∃ d,k = d + 1:=⟨k - 1,by omega⟩
  obtain ⟨b,e⟩:=z7e hw.t hx d
  have hc : 1 ≤ cntT w.lanes.length j w.ticks d:=by
   have h1:=z9t hw.n hj w.ticks 1
   have h2:=ztt w.lanes.length j w.ticks (by omega : w.lanes.length * 1 ≤ d)
   omega
  obtain ⟨c,hc'⟩ : ∃ c,cntT w.lanes.length j w.ticks d = c + 1:=⟨_,(by omega : cntT w.lanes.length j w.ticks d = cntT w.lanes.length j w.ticks d - 1 + 1)⟩
  rw [hc',zs0 hgx.drain rfl rfl hid,hq.speak] at e
  rw [e]
  split <;> rfl
 rw [key k hk,key (k + m) (by omega)]
theorem z8k (a b : Nat) (w : Wd) : roundN (a + b) w = roundN b (roundN a w):=by
 induction b with
 | zero => rfl
 | succ b ih => rw [Nat.add_succ,roundN,ih]; rfl
theorem z8n {w : Wd} (hw : GoodW w) (h : stillW (roundN 200 w) = false) (m : Nat) : stillW (roundN (200 + m) w) = false:=by
 unfold stillW at h ⊢
 rw [List.all_eq_false] at h ⊢
 obtain ⟨z,hz,hzi⟩:=h
 have hzi : idleL z = false:=by simpa using hzi
 obtain ⟨j,hj⟩:=List.getElem?_of_mem hz
 have hlt : j < w.lanes.length:=by
  have:=(List.getElem?_eq_some_iff.1 hj).1
  rw [zfb] at this
  exact this
 obtain ⟨x,hx⟩ : ∃ x,w.lanes[j]? = some x:=⟨_,List.getElem?_eq_getElem hlt⟩
 have hgx:=(hw.l x (List.mem_of_getElem? hx)).drain
 have hc : 61 ≤ cntT w.lanes.length j w.ticks 199:=by
  have h1:=z9t hw.n hlt w.ticks 66
  have h2:=ztt w.lanes.length j w.ticks (by have:=hw.n; omega : w.lanes.length * 66 ≤ 199)
  omega
 have hst : Stuck (goN (cntT w.lanes.length j w.ticks 199) (drainL x)):=by
  rcases z10 hgx rfl rfl _ hc with q | q
  ·exfalso
   obtain ⟨b,e⟩:=z7e hw.t hx 199
   rw [hj] at e
   simp only [Option.some.injEq] at e
   rw [e] at hzi
   split at hzi
   ·rw [zrq q] at hzi; cases hzi
   ·rw [q] at hzi; cases hzi
  ·exact q
 obtain ⟨b,e⟩:=z7e hw.t hx (199 + m)
 rw [zrr,zj4] at e
 have hs2:=hst.goN (zol _ hgx) (cntT w.lanes.length j (w.ticks + (199 : Nat)) m)
 rw [show 199 + m + 1 = 200 + m by omega] at e
 refine ⟨_,List.mem_of_getElem? e,?_⟩
 split
 ·rw [hs2.speak]; simp
 ·rw [zfm hs2.f]; simp
theorem zsv {w : Wd} (hw : GoodW w) {n : Nat} (hn : w.lanes.length = n) (hs : stillW (roundN (2 * n + 2) (roundN (zjb 200 w) w)) = true) (m : Nat) : (roundN m (roundN (2 * n + 2) (roundN (zjb 200 w) w))).lanes = (roundN (2 * n + 2) (roundN (zjb 200 w) w)).lanes:=by
 have hg:=hw.rounds (zjb 200 w)
 have hst : stillW (roundN (zjb 200 w) w) = true:=by
  rcases z4d 200 w with q | q
  ·exact q
  ·rw [q] at hs ⊢
   cases h : stillW (roundN 200 w) with
   | true => rfl
   | false =>
    rw [← z8k,z8n hw h] at hs
    cases hs
 rw [← z8k]
 apply List.ext_getElem?
 intro j
 by_cases hj : j < n
 ·refine z5p hg hst ?_ _ m ?_
  ·rw [zfb,hn]; exact hj
  ·rw [zfb,hn]; omega
 ·rw [List.getElem?_eq_none (by rw [zfb,zfb,hn]; omega),List.getElem?_eq_none (by rw [zfb,zfb,hn]; omega)]
end Go.Proofs.YtgaofjiidedcbacGreat.mth
namespace Go.Proofs.YtgaofjiidedcbacGreat.ab
set_option maxRecDepth 100000
open Go Go.RowKit
def Q87r0 : IC:=cReg Tryz.prog [⟨some 6,none,iMov 6 (.const (.bool false)) true⟩] [0,1,2] []
def Q87r1 : IC:=cReg Tryz.prog [⟨some 13,none,iCall 13 15 []⟩,xO 14 13] [0,1,2,14] []
def Q87r2 : IC:=cReg Tryz.prog [⟨some 6,none,iMov 6 (.const (.bool false)) true⟩] [6] []
def Q87c1a : IC:=(cSeq Q87r2 cRet)
def Q87c1 : IC:=cCond (.tmp 14) Q87c1a cSkip
def Q87r3 : IC:=cReg Tryz.prog [xM 15 0,xC 16 .lss 15 1,xM 17 16,xG 17 false (xM 18 0),xG 17 false (xC 19 .gtr 18 3),xP 20 17 19,xM 21 20,xG 21 false (xM 22 2),xG 21 false (xC 23 .lss 22 0),xP 24 21 23,xM 25 24,xG 25 false (xM 26 2),xG 25 false (xC 27 .gtr 26 20),xP 28 25 27] [0,1,2,28] []
def Q87r4 : IC:=cReg Tryz.prog [⟨some 6,none,iMov 6 (.const (.bool true)) true⟩] [6] []
def Q87c2a : IC:=(cSeq Q87r4 cRet)
def Q87c2 : IC:=cCond (.tmp 28) Q87c2a cSkip
def Q87r5 : IC:=cReg Tryz.prog [xM 30 0,xM 31 1,xV2 32 9 30 31,xM 29 32,xE 33 29 0,xE 34 29 1,⟨some 7,none,iAlo 7 [zS,zI]⟩,xS 2 7 33,xT 8 34] [0,2,7] [7]
def Q87r6 : IC:=cReg Tryz.prog [xA 36 2 7,xV1 37 13 36,xM 35 37,xE 38 35 0,xE 39 35 1,⟨some 9,none,iAlo 9 [zS,zI]⟩,xS 2 9 38,xT 10 39] [0,2,9] [9]
def Q87r7 : IC:=cReg Tryz.prog [xM 40 0,⟨some 41,none,iBin 41 .mul (.const (.int .i64 2)) (.tmp 40)⟩,xC 42 .add 41 2,⟨some 43,none,iMov 43 (.const (.int .i64 0)) false⟩] [2,9,42,43] [9]
def Q87r8 : IC:=cReg Tryz.prog [xB 44 .lss 43 42] [2,9,42,43,44] [9]
def Q87c5 : IC:=cCond (.tmp 44) cSkip (cExit 0)
def Q87r9 : IC:=cReg Tryz.prog [xA 45 2 9,xV1 46 11 45,xS 2 9 46] [2,9,42,43] [9]
def Q87b6 : IC:=cBlock 1 Q87r9
def Q87r10 : IC:=cReg Tryz.prog [xC 47 .add 43 1,xM 43 47] [2,9,42,43] [9]
def Q87l4a : IC:=(cSeq Q87r8 (cSeq Q87c5 (cSeq Q87b6 Q87r10)))
def Q87l4 : IC:=cLoop Q87l4a
def Q87b3 : IC:=cBlock 0 Q87l4
def Q87r11 : IC:=cReg Tryz.prog [xA 48 2 9,⟨some 11,none,iAlo 11 [zS,zI]⟩,xS 2 11 48] [2,9,11] [9,11]
def Q87r12 : IC:=cReg Tryz.prog [xM 49 2,⟨some 50,none,iMov 50 (.const (.int .i64 0)) false⟩] [2,9,11,49,50] [9,11]
def Q87r13 : IC:=cReg Tryz.prog [xB 51 .lss 50 49] [2,9,11,49,50,51] [9,11]
def Q87c9 : IC:=cCond (.tmp 51) cSkip (cExit 2)
def Q87r14 : IC:=cReg Tryz.prog [xA 52 2 11,xV1 53 11 52,xS 2 11 53] [2,9,11,49,50] [9,11]
def Q87b10 : IC:=cBlock 3 Q87r14
def Q87r15 : IC:=cReg Tryz.prog [xC 54 .add 50 1,xM 50 54] [2,9,11,49,50] [9,11]
def Q87l8a : IC:=(cSeq Q87r13 (cSeq Q87c9 (cSeq Q87b10 Q87r15)))
def Q87l8 : IC:=cLoop Q87l8a
def Q87b7 : IC:=cBlock 2 Q87l8
def Q87r16 : IC:=cReg Tryz.prog [xA 55 2 9,xV1 56 14 55,xO 57 56] [2,9,11,57] [9,11]
def Q87r17 : IC:=cReg Tryz.prog [⟨some 6,none,iMov 6 (.const (.bool true)) true⟩] [6] []
def zq3 : IC:=(cSeq Q87r17 cRet)
def Q87c11 : IC:=cCond (.tmp 57) zq3 cSkip
def Q87r18 : IC:=cReg Tryz.prog [xF 58 1 11,xL 59 1 58,xF 60 1 9,xL 61 1 60,xM 62 2,xB 63 .add 61 62,xB 64 .neq 59 63] [9,11,64] [9,11]
def Q87r19 : IC:=cReg Tryz.prog [⟨some 6,none,iMov 6 (.const (.bool false)) true⟩] [6] []
def z75 : IC:=(cSeq Q87r19 cRet)
def Q87c12 : IC:=cCond (.tmp 64) z75 cSkip
def Q87r20 : IC:=cReg Tryz.prog [xF 65 0 9,xL 66 1 65,xN 67 66,⟨some 68,none,iMov 68 (.const (.int .i64 0)) false⟩] [9,11,67,68] [9,11]
def Q87r21 : IC:=cReg Tryz.prog [xB 69 .lss 68 67] [9,11,67,68,69] [9,11]
def Q87c15 : IC:=cCond (.tmp 69) cSkip (cExit 4)
def Q87r22 : IC:=cReg Tryz.prog [xM 70 68,xT 12 70] [9,11,12,67,68] [9,11]
def Q87r23 : IC:=cRegD Tryz.prog [xF 71 0 9,xL 72 1 71,xM 73 12,xI 74 17 72 73,xA 75 17 74,xF 76 0 11,xL 77 1 76,xM 78 12,xI 79 17 77 78,xA 80 17 79,xV2 81 18 75 80,xO 82 81] [[],[0],[],[1,2,0],[3,1,2,0],[],[5],[],[6,7,5],[8,6,7,5],[4,9,3,1,2,0,8,6,7,5],[10,4,9,3,1,2,0,8,6,7,5]] [9,11,67,68,82] [9,11]
def Q87r24 : IC:=cReg Tryz.prog [⟨some 6,none,iMov 6 (.const (.bool false)) true⟩] [6] []
def z52 : IC:=(cSeq Q87r24 cRet)
def Q87c17 : IC:=cCond (.tmp 82) z52 cSkip
def Q87b16 : IC:=cBlock 5 (cSeq Q87r22 (cSeq Q87r23 Q87c17))
def Q87r25 : IC:=cReg Tryz.prog [xC 83 .add 68 1,xM 68 83] [9,11,67,68] [9,11]
def zg3 : IC:=(cSeq Q87r21 (cSeq Q87c15 (cSeq Q87b16 Q87r25)))
def Q87l14 : IC:=cLoop zg3
def Q87b13 : IC:=cBlock 4 Q87l14
def Q87r26 : IC:=cReg Tryz.prog [⟨some 6,none,iMov 6 (.const (.bool true)) true⟩] [6] []
def zsl : IC:=(cSeq Q87r0 (cSeq (cSeq Q87r1 Q87c1) (cSeq (cSeq Q87r3 Q87c2) (cSeq Q87r5 (cSeq Q87r6 (cSeq (cSeq Q87r7 Q87b3) (cSeq Q87r11 (cSeq (cSeq Q87r12 Q87b7) (cSeq (cSeq Q87r16 Q87c11) (cSeq (cSeq Q87r18 Q87c12) (cSeq (cSeq Q87r20 Q87b13) (cSeq Q87r26 cRet))))))))))))
theorem z3c {args r : List D} (hl : args.length = 3) (h : zsl (start args) (fin [(6,none)] r)) : Told Tryz.prog 5 args r :=
 ze follows Tryz.func5 rfl (an:=[([],[0,1,2],[],[]),([],[0,1,2,14],[],[]),([],[6],[],[]),([],[0,1,2,28],[],[]),([],[6],[],[]),([],[0,2,7],[7],[]),([],[0,2,9],[9],[]),([],[2,9,42,43],[9],[]),([],[2,9,42,43,44],[9],[]),([],[2,9,42,43],[9],[]),([],[2,9,42,43],[9],[]),([],[2,9,11],[9,11],[]),([],[2,9,11,49,50],[9,11],[]),([],[2,9,11,49,50,51],[9,11],[]),([],[2,9,11,49,50],[9,11],[]),([],[2,9,11,49,50],[9,11],[]),([],[2,9,11,57],[9,11],[]),([],[6],[],[]),([],[9,11,64],[9,11],[]),([],[6],[],[]),([],[9,11,67,68],[9,11],[]),([],[9,11,67,68,69],[9,11],[]),([],[9,11,12,67,68],[9,11],[]),([],[9,11,67,68,82],[9,11],[]),([],[6],[],[]),([],[9,11,67,68],[9,11],[]),([],[6],[],[])]) (by kernel_rfl) (by kernel_rfl) (by rw [hl]; decide +kernel) h
end Go.Proofs.YtgaofjiidedcbacGreat.ab
