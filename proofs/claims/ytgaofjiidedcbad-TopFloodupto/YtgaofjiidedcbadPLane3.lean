import Derived.Test.YtgaofjiidedcbadM28
import Derived.Test.YtgaofjiidedcbadM28
set_option linter.unusedVariables false
set_option linter.unusedSimpArgs false
namespace Go.Proofs.Ytgaofjiidedcbad.mth
structure Many (l : List Ms) (cs : List Ch) : Prop where
 right : ∀ c ∈ cs,c.kind = 1 ∧ wrongL c = 0
 num : ∀ c ∈ cs,0 ≤ c.number ∧ c.number < l.length
 one : ∀ a ∈ cs,∀ b ∈ cs,a.number = b.number → a = b
 two : ∀ a ∈ cs,∀ b ∈ cs,a.stream = b.stream → a.place = b.place → a = b
 put : ∀ a ∈ cs,(ofS l a.stream)[a.place.toNat]? = some ⟨a.stream,a.data⟩
theorem DInv.stepM {l : List Ms} {cs : List Ch} {K : Ch → Prop} {d : Dr} (hm : Many l cs) (h : DInv l cs K d) {i : Nat} {x : Ch} (hx : d.hold[i]? = some x) (hr : readyD d x = true) : DInv l cs K (stepD d i x):=by
 have hxm:=List.mem_of_getElem? hx
 have hxc:=(h.a x hxm).1
 have hw:=hm.right x hxc
 have hs:=stream3 (wrong_one hw.1 hw.2).2.2.2
 have hpl : x.place = plD d x.stream:=by simpa [readyD,plD] using hr
 have hstr : ∀ y ∈ cs,0 ≤ y.stream ∧ y.stream ≤ 2:=fun y hy => by
  have:=hm.right y hy
  have:=stream3 (wrong_one this.1 this.2).2.2.2
  omega
 have h0:=h.p
 have hmem:=cut_mem hx h.b
 have hp0 : 0 ≤ plD d x.stream:=by
  unfold plD plc
  split
  ·exact h0.1
  ·split
   ·exact h0.2.1
   ·exact h0.2.2
 refine ⟨?_,fun y hy => ?_,cut_nodup h.b,fun s s0 s2 => ?_,fun z hz => ?_⟩
 ·simp only [stepD]
  refine ⟨?_,?_,?_⟩ <;> split <;> omega
 ·obtain ⟨q1,q2⟩:=(hmem y).1 hy
  obtain ⟨a1,a2⟩:=h.a y q1
  refine ⟨a1,?_⟩
  rw [plD_step hs (hstr y a1)]
  split
  ·rename_i e
   have : y.place ≠ x.place:=fun e2 => q2 (hm.two y a1 x hxc e e2)
   rw [e] at a2 ⊢
   omega
  ·exact a2
 ·show ofS (d.told ++ [⟨x.stream,x.data⟩]) s = _
  rw [ofS_app,h.t s s0 s2,plD_step hs ⟨s0,s2⟩]
  by_cases e : s = x.stream
  ·subst e
   rw [if_pos rfl,show (plD d x.stream + 1).toNat = (plD d x.stream).toNat + 1 by omega,List.take_add_one]
   have:=hm.put x hxc
   rw [hpl] at this
   rw [this]
   simp [ofS]
  ·rw [if_neg e]
   have : (x.stream == s) = false:=by rw [beq_eq_false_iff_ne]; exact fun q => e q.symm
   simp [ofS,this]
 ·rw [h.e z hz,plD_step hs (hstr z hz)]
  show _ ↔ _ ∨ z ∈ d.hold.take i ++ d.hold.drop (i + 1)
  rw [hmem z]
  by_cases ez : z = x
  ·subst ez
   rw [if_pos rfl]
   constructor
   ·intro _; left; omega
   ·intro _; right; exact hxm
  ·by_cases e : z.stream = x.stream
   ·rw [if_pos e]
    have : z.place ≠ x.place:=fun e2 => ez (hm.two z hz x hxc e e2)
    rw [e] at *
    constructor
    ·rintro (q | q)
     ·left; omega
     ·right; exact ⟨q,ez⟩
    ·rintro (q | q)
     ·left; omega
     ·right; exact q.1
   ·rw [if_neg e]
    constructor
    ·rintro (q | q)
     ·left; exact q
     ·right; exact ⟨q,ez⟩
    ·rintro (q | q)
     ·left; exact q
     ·right; exact q.1
theorem DInv.drainM {l : List Ms} {cs : List Ch} {K : Ch → Prop} (hm : Many l cs) : ∀ (f : Nat) {d : Dr},DInv l cs K d → d.hold.length ≤ f → DInv l cs K (mth.drain f d) ∧ ∀ y ∈ (mth.drain f d).hold,readyD (mth.drain f d) y = false
 | 0,d,h,hf => by
  have : d.hold = []:=List.eq_nil_of_length_eq_zero (by omega)
  refine ⟨h,fun y hy => ?_⟩
  have hy : y ∈ d.hold:=hy
  rw [this] at hy
  cases hy
 | f + 1,d,h,hf => by
  unfold mth.drain
  split
  ·rename_i x hx
   refine DInv.drainM hm f (h.stepM hm hx (find_some hx)) ?_
   have hi:=(List.getElem?_eq_some_iff.1 hx).1
   simp only [stepD,List.length_append,List.length_take,List.length_drop]
   omega
  ·rename_i hx
   exact ⟨h,find_none hx⟩
def Within (l : List Ms) (d : Dr) : Prop:=∀ s : Int,0 ≤ s → s ≤ 2 → plD d s ≤ (ofS l s).length
theorem Within.step {l : List Ms} {cs : List Ch} {K : Ch → Prop} {d : Dr} (hm : Many l cs) (h : DInv l cs K d) (u : Within l d) {i : Nat} {x : Ch} (hx : d.hold[i]? = some x) (hr : readyD d x = true) : Within l (stepD d i x):=fun s s0 s2 => by
 have hxc:=(h.a x (List.mem_of_getElem? hx)).1
 have hw:=hm.right x hxc
 have hs:=stream3 (wrong_one hw.1 hw.2).2.2.2
 have hpl : x.place = plD d x.stream:=by simpa [readyD,plD] using hr
 have hp:=(List.getElem?_eq_some_iff.1 (hm.put x hxc)).1
 have hw2:=(wrong_one hw.1 hw.2).2.1
 rw [plD_step hs ⟨s0,s2⟩]
 split
 ·rename_i e
  subst e
  omega
 ·exact u s s0 s2
theorem Within.drain {l : List Ms} {cs : List Ch} {K : Ch → Prop} (hm : Many l cs) : ∀ (f : Nat) {d : Dr},DInv l cs K d → Within l d → Within l (mth.drain f d)
 | 0,d,h,u => u
 | f + 1,d,h,u => by
  unfold mth.drain
  split
  ·rename_i x hx
   exact Within.drain hm f (h.stepM hm hx (find_some hx)) (Within.step hm h u hx (find_some hx))
  ·exact u
structure RInv (l : List Ms) (cs : List Ch) (r : Rv) : Prop where
 g : GoodR r
 d : DInv l cs (Came r) (drR r)
 u : Within l (drR r)
 n : r.next ≤ l.length
 e : ∀ m ∈ r.early,m < (l.length : Int)
theorem RInv.fits {l : List Ms} {cs : List Ch} {r : Rv} (h : RInv l cs r) (q : List Ms) : fitsS r.told (l ++ q) = true:=by
 have key : ∀ s : Int,0 ≤ s → s ≤ 2 → preS (ofS r.told s) (ofS (l ++ q) s) = true:=by
  intro s h0 h2
  have:=h.d.t s h0 h2
  have : ofS r.told s = (ofS l s).take (plD (drR r) s).toNat:=this
  rw [preS_iff,this,ofS_app]
  exact ⟨(ofS l s).drop (plD (drR r) s).toNat ++ ofS q s,by rw [← List.append_assoc,List.take_append_drop]⟩
 rw [fitsS,key 0 (by omega) (by omega),key 1 (by omega) (by omega),key 2 (by omega) (by omega)]
 rfl
theorem RInv.hear {l : List Ms} {cs : List Ch} {r : Rv} (hm : Many l cs) (h : RInv l cs r) {c : Ch} (hc : c ∈ cs) : RInv l cs (hearR r c):=by
 obtain ⟨hk,hw⟩:=hm.right c hc
 obtain ⟨hn40,hpl,_,hms⟩:=wrong_one hk hw
 have hn:=hm.num c hc
 have hg:=h.g.hear hw
 have e : hearR r c = if seenR r c.number = true then { r with owes:=true } else takeR r c:=by unfold hearR; rw [if_pos hk]
 cases hs : seenR r c.number with
 | true =>
  rw [hs,if_pos rfl] at e
  rw [e] at hg ⊢
  exact ⟨hg,h.d,h.u,h.n,h.e⟩
 | false =>
  rw [hs,if_neg (by simp)] at e
  rw [e] at hg ⊢
  obtain ⟨t1,t2,t3,t4,t5⟩:=take_numbers h.g hn40 hs
  have hS : ∀ m ∈ c.number :: r.early,m < 40:=by
   intro m hm
   rcases List.mem_cons.1 hm with rfl | hm
   ·exact hn40.2
   ·exact (h.g.in40 m hm).2
  have t6:=(climb_ok (c.number :: r.early) hS 41 r.next h.g.n.2 (by have:=h.g.n; omega)).2.2.2
  have hS' : ∀ m,(c.number :: r.early).contains m = true → m < (l.length : Int):=by
   intro m hmm
   rcases List.mem_cons.1 (List.contains_iff_mem.1 hmm) with rfl | q
   ·exact hn.2
   ·exact h.e m q
  have hCame : ∀ z ∈ cs,Came (takeR r c) z ↔ (Came r z ∨ z = c):=by
   intro z hz
   have hz40 : z.number < 40:=by
    exact (wrong_one (hm.right z hz).1 (hm.right z hz).2).1.2
   have hzc : z = c ↔ z.number = c.number:=⟨fun q => by rw [q],fun q => hm.one z hz c hc q⟩
   show (z.number < climb 41 (c.number :: r.early) r.next ∨ (earlyR (c.number :: r.early) (climb 41 (c.number :: r.early) r.next)).contains z.number = true) ↔ _
   unfold Came
   rw [hzc]
   by_cases q : z.number < climb 41 (c.number :: r.early) r.next
   ·constructor
    ·intro _
     by_cases q2 : z.number < r.next
     ·exact .inl (.inl q2)
     ·have:=t6 z.number (by omega) q
      rw [contains_eq,Bool.or_eq_true,beq_iff_eq] at this
      rcases this with w | w
      ·exact .inl (.inr w)
      ·exact .inr w
    ·intro _; exact .inl q
   ·rw [earlyR_has (by omega) hz40,contains_eq,Bool.or_eq_true,beq_iff_eq]
    constructor
    ·rintro (w | w | w)
     ·omega
     ·exact .inl (.inr w)
     ·exact .inr w
    ·rintro ((w | w) | w)
     ·omega
     ·exact .inr (.inl w)
     ·exact .inr (.inr w)
  have hnc : ¬ Came r c:=by
   unfold seenR at hs
   simp only [Bool.or_eq_false_iff,decide_eq_false_iff_not] at hs
   rintro (w | w)
   ·exact hs.2.1 w
   ·rw [hs.1] at w; cases w
  have hnc':=fun q => hnc ((h.d.e c hc).2 q)
  have hD : DInv l cs (Came (takeR r c)) ⟨r.p0,r.p1,r.p2,r.hold ++ [c],r.told⟩:=by
   refine ⟨h.d.p,fun y hy => ?_,?_,h.d.t,fun z hz => ?_⟩
   ·rcases List.mem_append.1 hy with q | q
    ·exact h.d.a y q
    ·rw [List.mem_singleton.1 q]
     refine ⟨hc,?_⟩
     have : ¬ c.place < plD (drR r) c.stream:=fun w => hnc' (.inl w)
     exact Int.not_lt.1 this
   ·refine List.nodup_append.2 ⟨h.d.b,by simp,fun a ha b hb => ?_⟩
    rw [List.mem_singleton.1 hb]
    intro q
    exact hnc' (.inr (q ▸ ha))
   ·rw [hCame z hz,h.d.e z hz]
    show _ ↔ z.place < plD (drR r) z.stream ∨ z ∈ r.hold ++ [c]
    rw [List.mem_append,List.mem_singleton,or_assoc]
    rfl
  obtain ⟨d1,d2⟩:=hD.drainM hm (r.hold.length + 1) (by simp)
  refine ⟨hg,d1,Within.drain hm _ hD h.u,?_,fun m hmm => ?_⟩
  ·show climb 41 (c.number :: r.early) r.next ≤ _
   have:=h.n
   by_cases q : climb 41 (c.number :: r.early) r.next = r.next
   ·omega
   ·have:=hS' _ (t6 (climb 41 (c.number :: r.early) r.next - 1) (by omega) (by omega))
    omega
  ·have hmm : m ∈ earlyR (c.number :: r.early) (climb 41 (c.number :: r.early) r.next):=hmm
   exact hS' m (List.mem_filter.1 hmm).2
theorem ofS_more (l : List Ms) (m : Ms) (k : Int) : ofS (l ++ [m]) k = if m.stream == k then ofS l k ++ [m] else ofS l k:=by
 rw [ofS_app]
 by_cases q : m.stream == k
 ·rw [if_pos q]; simp [ofS,q]
 ·rw [if_neg q]; simp [ofS,q]
theorem ofS_le (l : List Ms) (m : Ms) (k : Int) : (ofS l k).length ≤ (ofS (l ++ [m]) k).length:=by
 rw [ofS_app,List.length_append]; exact Nat.le_add_right _ _
structure Next (l : List Ms) (m : Ms) (c : Ch) : Prop where
 r : c.kind = 1 ∧ wrongL c = 0
 n : c.number = l.length
 s : c.stream = m.stream
 p : c.place = (ofS l m.stream).length
 d : c.data = m.data
theorem Many.in {l : List Ms} {cs : List Ch} (h : Many l cs) {a : Ch} (ha : a ∈ cs) : 0 ≤ a.place ∧ a.place < (ofS l a.stream).length:=by
 have h1:=h.right a ha
 have h2:=(wrong_one h1.1 h1.2).2.1
 have h3:=(List.getElem?_eq_some_iff.1 (h.put a ha)).1
 omega
theorem Many.more {l : List Ms} {cs : List Ch} (h : Many l cs) {m : Ms} {c : Ch} (x : Next l m c) : Many (l ++ [m]) (cs ++ [c]):=by
 have hlen1 : ((l ++ [m]).length : Int) = l.length + 1:=by simp
 have hx:=x.n
 have hp:=x.p
 have hmem : ∀ a,a ∈ cs ++ [c] ↔ a ∈ cs ∨ a = c:=fun a => by rw [List.mem_append,List.mem_singleton]
 refine ⟨fun a ha => ?_,fun a ha => ?_,fun a ha b hb e => ?_,fun a ha b hb e1 e2 => ?_,fun a ha => ?_⟩
 ·rcases (hmem a).1 ha with q | rfl
  ·exact h.right a q
  ·exact x.r
 ·rcases (hmem a).1 ha with q | rfl
  ·have:=h.num a q; omega
  ·omega
 ·rcases (hmem a).1 ha with q | rfl <;> rcases (hmem b).1 hb with w | rfl
  ·exact h.one a q b w e
  ·have:=h.num a q; omega
  ·have:=h.num b w; omega
  ·rfl
 ·rcases (hmem a).1 ha with q | rfl <;> rcases (hmem b).1 hb with w | rfl
  ·exact h.two a q b w e1 e2
  ·have:=h.in q
   rw [e1,x.s] at this; omega
  ·have:=h.in w
   rw [← e1,x.s] at this; omega
  ·rfl
 ·rcases (hmem a).1 ha with q | rfl
  ·have:=h.put a q
   have hi:=(List.getElem?_eq_some_iff.1 this).1
   rw [ofS_more]
   split
   ·rw [List.getElem?_append_left hi]; exact this
   ·exact this
  ·rw [ofS_more,x.s,x.p,x.d,if_pos (by simp)]
   simp
theorem RInv.more {l : List Ms} {cs : List Ch} {r : Rv} (hm : Many l cs) (h : RInv l cs r) {m : Ms} {c : Ch} (x : Next l m c) : RInv (l ++ [m]) (cs ++ [c]) r:=by
 have hs:=stream3 (wrong_one x.r.1 x.r.2).2.2.2
 rw [x.s] at hs
 have hx:=x.n
 have hp:=x.p
 have hlen1 : ((l ++ [m]).length : Int) = l.length + 1:=by simp
 have hn:=h.n
 refine ⟨h.g,⟨h.d.p,fun y hy => ?_,h.d.b,fun s s0 s2 => ?_,fun z hz => ?_⟩,fun s s0 s2 => ?_,by omega,fun n hn => ?_⟩
 ·exact ⟨List.mem_append_left _ (h.d.a y hy).1,(h.d.a y hy).2⟩
 ·have hu:=h.u s s0 s2
  rw [h.d.t s s0 s2,ofS_app,List.take_append_of_le_length (by omega)]
 ·rcases List.mem_append.1 hz with q | q
  ·exact h.d.e z q
  ·rw [List.mem_singleton.1 q]
   constructor
   ·rintro (w | w)
    ·omega
    ·have:=h.e _ (List.contains_iff_mem.1 w)
     omega
   ·have hu:=h.u m.stream (by omega) (by omega)
    rintro (w | w)
    ·rw [x.s] at w; omega
    ·have:=hm.num c (h.d.a c w).1
     omega
 ·have:=h.u s s0 s2
  have:=ofS_le l m s
  omega
 ·have:=h.e n hn
  omega
theorem RInv.say {l : List Ms} {cs : List Ch} {r : Rv} (h : RInv l cs r) : RInv l cs (sayR r).1:=by
 have hg:=h.g.say
 unfold sayR at hg ⊢
 split
 ·rename_i e
  rw [if_pos e] at hg
  exact ⟨hg,h.d,h.u,h.n,h.e⟩
 ·exact h
structure SInv (l : List Ms) (cs : List Ch) (s : Sd) : Prop where
 g : GoodS s
 n : s.next = l.length
 pl : ∀ k : Int,0 ≤ k → k ≤ 2 → placeOf s k = (ofS l k).length
 f : ∀ c ∈ s.flight,c ∈ cs
 m : Many l cs
theorem SInv.hear {l : List Ms} {cs : List Ch} {s : Sd} (h : SInv l cs s) (c : Ch) : SInv l cs (hearS s c) ∧ (hearS s c).queue = s.queue:=by
 have hg:=h.g.hear c
 unfold hearS at hg ⊢
 split
 ·rename_i e
  rw [if_pos e] at hg
  exact ⟨⟨hg,h.n,h.pl,fun x hx => h.f x (List.mem_filter.1 hx).1,h.m⟩,rfl⟩
 ·exact ⟨h,rfl⟩
theorem SInv.put {l : List Ms} {cs : List Ch} {s : Sd} (h : SInv l cs s) (m : Ms) : SInv l cs (putS s m) ∧ (putS s m).queue = if putE s m = 0 then s.queue ++ [m] else s.queue:=by
 have hg:=h.g.put m
 unfold putS at hg ⊢
 split
 ·rename_i e
  rw [if_pos e] at hg
  exact ⟨⟨hg,h.n,h.pl,h.f,h.m⟩,rfl⟩
 ·exact ⟨h,rfl⟩
theorem SInv.again {l : List Ms} {cs : List Ch} {s : Sd} (h : SInv l cs s) (hf : 0 < s.flight.length) : SInv l cs { s with turn:=againK s + 1 } ∧ s.flight.getD (againK s).toNat zeroC ∈ cs:=by
 have hk:=againK_lt h.g hf
 have hlt : (againK s).toNat < s.flight.length:=by omega
 refine ⟨⟨h.g.again hf,h.n,h.pl,h.f,h.m⟩,?_⟩
 rw [List.getD_eq_getElem?_getD,List.getElem?_eq_getElem hlt,Option.getD_some]
 exact h.f _ (List.getElem_mem hlt)
theorem SInv.new {l : List Ms} {cs : List Ch} {s : Sd} {m : Ms} {r : List Ms} (h : SInv l cs s) (hq : s.queue = m :: r) (hf : s.flight.length ≤ 3) : Next l m (newC s m) ∧ SInv (l ++ [m]) (cs ++ [newC s m]) (newS s m r):=by
 have hw:=h.g.m m (by rw [hq]; simp)
 have hs:=stream3 hw
 have hgn:=h.g.n
 rw [hq] at hgn
 have hx : Next l m (newC s m):=⟨⟨rfl,newC_right h.g hw (by simp at hgn; omega)⟩,h.n,rfl,h.pl m.stream (by omega) (by omega),rfl⟩
 refine ⟨hx,h.g.new hq hf,?_,fun k k0 k2 => ?_,fun c hc => ?_,h.m.more hx⟩
 ·show s.next + 1 = _
  rw [h.n]; simp
 ·have:=h.pl k k0 k2
  rw [ofS_more]
  unfold placeOf newS
  unfold placeOf at this
  simp only
  rcases hs with e | e | e <;> rw [e] <;> rcases (by omega : k = 0 ∨ k = 1 ∨ k = 2) with rfl | rfl | rfl <;> simp at this ⊢ <;> omega
 ·rcases List.mem_append.1 hc with q | q
  ·exact List.mem_append_left _ (h.f c q)
  ·exact List.mem_append_right _ q
theorem SInv.say {l : List Ms} {cs : List Ch} {s : Sd} (h : SInv l cs s) : ∃ l' cs',SInv l' cs' (sayL s).1 ∧ l ++ s.queue = l' ++ (sayL s).1.queue ∧ (∀ r,RInv l cs r → RInv l' cs' r) ∧ (∀ c ∈ cs,c ∈ cs') ∧ ((sayL s).2.2 = true → (sayL s).2.1 ∈ cs'):=by
 unfold sayL
 split
 ·rename_i hq
  split
  ·exact ⟨l,cs,h,rfl,fun r q => q,fun c q => q,fun q => by cases q⟩
  ·rename_i hf
   have:=h.again (by omega)
   exact ⟨l,cs,this.1,rfl,fun r q => q,fun c q => q,fun _ => this.2⟩
 ·rename_i m r hq
  split
  ·rename_i hf
   have:=h.again (by omega)
   exact ⟨l,cs,this.1,rfl,fun r q => q,fun c q => q,fun _ => this.2⟩
  ·rename_i hf
   obtain ⟨hx,hn⟩:=h.new hq (by omega)
   refine ⟨l ++ [m],cs ++ [newC s m],hn,?_,fun r q => q.more h.m hx,fun c q => List.mem_append_left _ q,fun _ => by simp⟩
   show l ++ s.queue = l ++ [m] ++ r
   rw [hq]; simp
def RightOr (b : Bool) (cs : List Ch) (p : List (List UInt8)) : Prop:=∀ x ∈ p,(∃ c ∈ cs,x = sealL (bodyL c)) ∨ (b = true ∧ readE x ≠ 0)
theorem RightOr.mono {b : Bool} {cs cs' : List Ch} {p : List (List UInt8)} (h : RightOr b cs p) (hc : ∀ c ∈ cs,c ∈ cs') : RightOr b cs' p:=fun x hx => by
 rcases h x hx with ⟨c,q,e⟩ | q
 ·exact .inl ⟨c,hc c q,e⟩
 ·exact .inr q
theorem RightOr.join {b : Bool} {cs : List Ch} {p : List (List UInt8)} (h : RightOr b cs p) {y : List UInt8} (hy : (∃ c ∈ cs,y = sealL (bodyL c)) ∨ (b = true ∧ readE y ≠ 0)) : RightOr b cs (joinP p y):=fun x hx => by
 unfold joinP at hx
 split at hx
 ·exact h x hx
 ·rcases List.mem_append.1 hx with q | q
  ·exact h x q
  ·rw [List.mem_singleton.1 q]; exact hy
theorem RightOr.cut {b : Bool} {cs : List Ch} {p : List (List UInt8)} (h : RightOr b cs p) (n : Nat) : RightOr b cs (cutP p n):=fun x hx => by
 unfold cutP at hx
 rcases List.mem_append.1 hx with q | q
 ·exact h x (List.mem_of_mem_take q)
 ·exact h x (List.mem_of_mem_drop q)
structure LInv (b : Bool) (p : List Ms) (l : Ln) : Prop where
 g : GoodL l
 i : ∃ m cs,SInv m cs l.s ∧ p = m ++ l.s.queue ∧ RInv m cs l.r ∧ RightOr b cs l.there
theorem LInv.weak {b : Bool} {p : List Ms} {l : Ln} (h : LInv false p l) : LInv b p l:=by
 obtain ⟨g,m,cs,h1,h2,h3,h4⟩:=h
 refine ⟨g,m,cs,h1,h2,h3,fun x hx => ?_⟩
 rcases h4 x hx with q | q
 ·exact .inl q
 ·cases q.1
theorem LInv.fits {b : Bool} {p : List Ms} {l : Ln} (h : LInv b p l) : fitsS l.r.told p = true:=by
 obtain ⟨g,m,cs,h1,h2,h3,h4⟩:=h
 rw [h2]
 exact h3.fits _
theorem LInv.speak {b : Bool} {p : List Ms} {l : Ln} (h : LInv b p l) : LInv b p (speakL l):=by
 obtain ⟨g,m,cs,h1,h2,h3,h4⟩:=h
 obtain ⟨l',cs',e1,e2,e3,e4,e5⟩:=h1.say
 refine ⟨g.speak,l',cs',e1,h2.trans e2,(e3 _ h3).say,?_⟩
 unfold speakL
 simp only
 split
 ·rename_i q
  exact (h4.mono e4).join (.inl ⟨_,e5 q,rfl⟩)
 ·exact h4.mono e4
theorem LInv.put {b : Bool} {p : List Ms} {l : Ln} (h : LInv b p l) (m : Ms) : LInv b (if putE l.s m = 0 then p ++ [m] else p) { l with s:=putS l.s m }:=by
 obtain ⟨g,m',cs,h1,h2,h3,h4⟩:=h
 obtain ⟨e1,e2⟩:=h1.put m
 refine ⟨⟨g.s.put m,g.r,g.t,g.b,g.tn,g.bn⟩,m',cs,e1,?_,h3,h4⟩
 rw [e2]
 split
 ·rw [h2,List.append_assoc]
 ·exact h2
theorem LInv.with {b : Bool} {p : List Ms} {l : Ln} (h : LInv b p l) (back : Bool) {q : List (List UInt8)} (hg : GoodL (withP l back q)) (hq : back = false → ∀ cs,RightOr b cs l.there → RightOr b cs q) : LInv b p (withP l back q):=by
 obtain ⟨g,m,cs,h1,h2,h3,h4⟩:=h
 cases back with
 | true => exact ⟨hg,m,cs,h1,h2,h3,h4⟩
 | false => exact ⟨hg,m,cs,h1,h2,h3,hq rfl cs h4⟩
theorem LInv.come {b : Bool} {p : List Ms} {l : Ln} (h : LInv b p l) {n : Nat} {back : Bool} (hn : n < (wayP l back).length) : LInv b p (comeL l n back):=by
 have hg:=h.g.come n back
 obtain ⟨g,m,cs,h1,h2,h3,h4⟩:=h
 cases back with
 | true =>
  unfold comeL at hg ⊢
  simp only [if_true] at hg ⊢
  split
  ·rename_i e
   rw [if_pos e] at hg
   exact ⟨hg,m,cs,(h1.hear _).1,by rw [h2]; exact congrArg (m ++ ·) (h1.hear _).2.symm,h3,h4⟩
  ·rename_i e
   rw [if_neg e] at hg
   exact ⟨hg,m,cs,h1,h2,h3,h4⟩
 | false =>
  have hlt : n < l.there.length:=hn
  have hx : (wayP l false).getD n [] ∈ l.there:=by
   show l.there.getD n [] ∈ _
   rw [List.getD_eq_getElem?_getD,List.getElem?_eq_getElem hlt,Option.getD_some]
   exact List.getElem_mem hlt
  unfold comeL at hg ⊢
  simp only [Bool.false_eq_true,if_false] at hg ⊢
  split
  ·rename_i e
   rw [if_pos e] at hg
   refine ⟨hg,m,cs,h1,h2,?_,h4.cut n⟩
   rcases h4 _ hx with ⟨c,hc,e2⟩ | q
   ·have hr:=(h1.m.right c hc).2
    rw [e2,(read_bytes c hr).2]
    exact h3.hear h1.m hc
   ·exact absurd e q.2
  ·rename_i e
   rw [if_neg e] at hg
   exact ⟨hg,m,cs,h1,h2,h3,h4.cut n⟩
theorem LInv.packet {b : Bool} {p : List Ms} {l : Ln} (h : LInv b p l) (kind n k : Int) (back : Bool) (hk : kind ≠ 6) : LInv b p (packetL l kind n k back).1:=by
 have hg:=h.g.packet kind n k back
 unfold packetL at hg ⊢
 split
 ·exact h
 rename_i hn
 rw [if_neg hn] at hg
 split
 ·rename_i e
  rw [if_pos e] at hg
  exact h.with back hg (fun e cs q => by subst e; exact q.cut _)
 rename_i h4
 rw [if_neg h4] at hg
 split
 ·rename_i e
  rw [if_pos e] at hg
  refine h.with back hg (fun e cs q => ?_)
  subst e
  have hlt : n.toNat < l.there.length:=by
   have : ¬ ((l.there.length : Int) ≤ n):=fun w => hn (.inr w)
   omega
  refine q.join ?_
  show (∃ c ∈ cs,l.there.getD n.toNat [] = _) ∨ _
  have : l.there.getD n.toNat [] ∈ l.there:=by
   rw [List.getD_eq_getElem?_getD,List.getElem?_eq_getElem hlt,Option.getD_some]
   exact List.getElem_mem hlt
  exact q _ this
 exact h.come (by omega)
theorem LInv.spoil {p : List Ms} {l : Ln} (h : LInv false p l) (n k : Int) (back : Bool) : LInv true p (packetL l 6 n k back).1:=by
 have hg:=h.g.packet 6 n k back
 unfold packetL at hg ⊢
 split
 ·exact h.weak
 rename_i hn
 rw [if_neg hn] at hg
 rw [if_neg (by decide),if_neg (by decide),if_pos rfl] at hg ⊢
 split
 ·exact h.weak
 rename_i hk
 rw [if_neg hk] at hg
 have hw : LInv true p l:=h.weak
 cases back with
 | true => exact hw.with true hg (fun e => by cases e)
 | false =>
  obtain ⟨g,m,cs,h1,h2,h3,h4⟩:=h
  refine ⟨hg,m,cs,h1,h2,h3,fun x hx => ?_⟩
  have hx : x ∈ spoilP l.there n.toNat k.toNat:=hx
  have hlt : n.toNat < l.there.length:=by
   have : ¬ ((l.there.length : Int) ≤ n):=fun w => hn (.inr w)
   omega
  have e0 : l.there.getD n.toNat [] = l.there[n.toNat]:=by rw [List.getD_eq_getElem?_getD,List.getElem?_eq_getElem hlt,Option.getD_some]
  unfold spoilP at hx
  rcases List.mem_or_eq_of_mem_set hx with q | q
  ·rcases h4 x q with w | w
   ·exact .inl w
   ·cases w.1
  ·right
   refine ⟨rfl,?_⟩
   rcases h4 _ (List.getElem_mem hlt) with ⟨c,hc,e⟩ | w
   ·have hk2 : k.toNat < (l.there.getD n.toNat []).length:=by
     have : ¬ (((((wayP l false).getD n.toNat []).length : Nat) : Int) ≤ k):=fun w => hk (.inr w)
     have e9 : (wayP l false) = l.there:=rfl
     rw [e9] at this
     omega
    rw [q]
    rw [e0,e] at hk2 ⊢
    have:=spoilt c k.toNat (turnB ((sealL (bodyL c)).getD k.toNat 0)) hk2 (by
     rw [List.getD_eq_getElem?_getD,List.getElem?_eq_getElem hk2,Option.getD_some]
     exact fun h => turnB_ne _ h.symm)
    rw [this]; decide
   ·cases w.1
theorem LInv.lane {b : Bool} {p : List Ms} {l : Ln} (h : LInv b p l) (s : Sp) (hb : s.kind = 6 → b = false) : LInv (b || s.kind == 6) (p ++ (if (laneW l s).2 = 0 ∧ s.kind = 2 then [s.msg] else [])) (laneW l s).1:=by
 by_cases h6 : s.kind = 6
 ·have hbf:=hb h6
  subst hbf
  have : (s.kind == 6) = true:=by rw [h6]; rfl
  rw [this,if_neg (by omega),List.append_nil]
  unfold laneW
  rw [if_neg (by omega),if_neg (by omega),h6]
  exact h.spoil _ _ _
 ·have : (s.kind == 6) = false:=by rw [beq_eq_false_iff_ne]; exact h6
  rw [this,Bool.or_false]
  unfold laneW
  by_cases h1 : s.kind = 1
  ·rw [if_pos h1,if_neg (by omega),List.append_nil]
   exact h.speak
  rw [if_neg h1]
  by_cases h2 : s.kind = 2
  ·rw [if_pos h2]
   have:=h.put s.msg
   by_cases he : putE l.s s.msg = 0
   ·rw [if_pos he] at this
    rw [if_pos ⟨he,h2⟩]
    exact this
   ·rw [if_neg he] at this
    rw [if_neg (fun w => he w.1),List.append_nil]
    exact this
  ·rw [if_neg h2,if_neg (fun w => h2 w.2),List.append_nil]
   exact h.packet _ _ _ _ h6
def WInv (b : Bool) (p : Int → List Ms) (w : Wd) : Prop:=∀ (j : Nat) (x : Ln),w.lanes[j]? = some x → LInv b (p j) x
theorem LInv.any {b : Bool} {p : List Ms} {l : Ln} (h : LInv b p l) (c : Bool) : LInv (b || c) p l:=by
 cases b with
 | true => exact h
 | false => exact h.weak
theorem WInv.step {b : Bool} {p : Int → List Ms} {w : Wd} (h : WInv b p w) (s : Sp) (hb : s.kind = 6 → b = false) : WInv (b || s.kind == 6) (fun t => p t ++ (if (doW w s).2 = 0 ∧ s.kind = 2 ∧ s.tenant = t then [s.msg] else [])) (doW w s).1:=by
 unfold doW
 split
 ·intro j x hx
  simp only
  rw [if_neg (by simp),List.append_nil]
  exact (h j x hx).any _
 split
 ·intro j x hx
  simp only
  rw [if_neg (by simp),List.append_nil]
  exact (h j x hx).any _
 ·rename_i h1 h2
  intro j x hx
  simp only at hx ⊢
  have hlt : (whoW w s).toNat < w.lanes.length:=by omega
  have hg : w.lanes.getD (whoW w s).toNat zeroL = w.lanes[(whoW w s).toNat]:=by rw [List.getD_eq_getElem?_getD,List.getElem?_eq_getElem hlt,Option.getD_some]
  rw [hg] at hx ⊢
  have hl:=h (whoW w s).toNat _ (List.getElem?_eq_getElem hlt)
  by_cases hj : (whoW w s).toNat = j
  ·subst hj
   rw [List.getElem?_set_self (by omega)] at hx
   cases hx
   have:=hl.lane s hb
   by_cases hk : (laneW w.lanes[(whoW w s).toNat] s).2 = 0 ∧ s.kind = 2
   ·have ht : s.tenant = ((whoW w s).toNat : Int):=by
     have : whoW w s = s.tenant:=by unfold whoW; rw [if_neg (by omega)]
     omega
    rw [if_pos hk] at this
    rw [if_pos ⟨hk.1,hk.2,ht⟩]
    exact this
   ·rw [if_neg hk] at this
    rw [if_neg (fun w => hk ⟨w.1,w.2.1⟩)]
    exact this
  ·rw [List.getElem?_set_ne hj] at hx
   rw [if_neg,List.append_nil]
   ·exact (h j x hx).any _
   ·rintro ⟨w1,w2,w3⟩
    have : whoW w s = s.tenant:=by unfold whoW; rw [if_neg (by omega)]
    omega
theorem run_len (w : Wd) (l : List Sp) : ∀ k,k ≤ l.length → (runW w (l.take k)).2.length = k:=by
 intro k
 induction k with
 | zero => intro _; simp [runW_nil]
 | succ k ih =>
  intro hk
  rw [List.take_add_one,List.getElem?_eq_getElem (by omega),Option.toList_some,runW_snoc]
  simp [ih (by omega)]
end Go.Proofs.Ytgaofjiidedcbad.mth
