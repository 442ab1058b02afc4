import Derived.Test.YtgaofjiidedcbacGreatPLane3
set_option linter.unusedVariables false
set_option linter.unusedSimpArgs false
namespace Go.Proofs.YtgaofjiidedcbacGreat.mth
def CameN (r : Rv) (k : Int) : Prop:=k < r.next ∨ r.early.contains k = true
def Truth (r : Rv) (back : List (List UInt8)) : Prop:=∀ x ∈ back,∃ nx E,x = sealL (bodyL ⟨2,nx,0,0,[],E⟩) ∧ wrongL ⟨2,nx,0,0,[],E⟩ = 0 ∧ ∀ k : Int,(k < nx ∨ E.contains k = true) → CameN r k
theorem drain_z : ∀ (f : Nat) (d : Dr),d.hold.length ≤ f → ∀ y ∈ (mth.drain f d).hold,readyD (mth.drain f d) y = false
 | 0,d,hf => fun y hy => by
  have hy : y ∈ d.hold:=hy
  rw [List.eq_nil_of_length_eq_zero (by omega : d.hold.length = 0)] at hy
  cases hy
 | f + 1,d,hf => by
  unfold mth.drain
  split
  ·rename_i x hx
   refine drain_z f _ ?_
   have hi:=(List.getElem?_eq_some_iff.1 hx).1
   simp only [stepD,List.length_append,List.length_take,List.length_drop]
   omega
  ·rename_i hx
   exact find_none hx
theorem hear_mono {r : Rv} (hg : GoodR r) {c : Ch} (hk : c.kind = 1) (hc : wrongL c = 0) {k : Int} (h : CameN r k) : CameN (hearR r c) k:=by
 unfold hearR
 rw [if_pos hk]
 split
 ·exact h
 rename_i hs
 obtain ⟨hn40,_,_,_⟩:=wrong_one hk hc
 have hS : ∀ m ∈ c.number :: r.early,m < 40:=by
  intro m hm
  rcases List.mem_cons.1 hm with rfl | hm
  ·exact hn40.2
  ·exact (hg.in40 m hm).2
 have h1:=(climb_ok (c.number :: r.early) hS 41 r.next hg.n.2 (by have:=hg.n; omega)).1
 show k < climb 41 (c.number :: r.early) r.next ∨ (earlyR (c.number :: r.early) (climb 41 (c.number :: r.early) r.next)).contains k = true
 by_cases q : k < climb 41 (c.number :: r.early) r.next
 ·exact .inl q
 ·right
  rcases h with w | w
  ·omega
  ·rw [earlyR_has (by omega) (hg.in40 k (List.contains_iff_mem.1 w)).2,contains_eq,w]; rfl
theorem hear_z {r : Rv} {c : Ch} (hz : ∀ y ∈ r.hold,readyD (drR r) y = false) : ∀ y ∈ (hearR r c).hold,readyD (drR (hearR r c)) y = false:=by
 unfold hearR
 split
 ·split
  ·exact hz
  ·exact drain_z (r.hold.length + 1) ⟨r.p0,r.p1,r.p2,r.hold ++ [c],r.told⟩ (by simp)
 ·exact hz
structure Know (m : List Ms) (cs : List Ch) (l : Ln) : Prop where
 s : SInv m cs l.s
 r : RInv m cs l.r
 t : RightOr false cs l.there
 pl : ∀ s k : Int,0 ≤ s → s ≤ 2 → 0 ≤ k → k < (ofS m s).length → ∃ c ∈ cs,c.stream = s ∧ c.place = k
 nm : ∀ k : Int,0 ≤ k → k < m.length → ∃ c ∈ cs,c.number = k
 f : ∀ c ∈ cs,c ∈ l.s.flight ∨ CameN l.r c.number
 z : ∀ y ∈ l.r.hold,readyD (drR l.r) y = false
 b : Truth l.r l.back
theorem Truth.hear {r : Rv} {back : List (List UInt8)} (h : Truth r back) (hg : GoodR r) {c : Ch} (hk : c.kind = 1) (hc : wrongL c = 0) : Truth (hearR r c) back:=fun x hx => by
 obtain ⟨nx,E,e1,e2,e3⟩:=h x hx
 exact ⟨nx,E,e1,e2,fun k q => hear_mono hg hk hc (e3 k q)⟩
theorem Truth.sub {r : Rv} {back b' : List (List UInt8)} (h : Truth r back) (hs : ∀ x ∈ b',x ∈ back) : Truth r b':=fun x hx => h x (hs x hx)
theorem cut_sub {p : List (List UInt8)} (n : Nat) : ∀ x ∈ cutP p n,x ∈ p:=fun x hx => by
 unfold cutP at hx
 rcases List.mem_append.1 hx with q | q
 ·exact List.mem_of_mem_take q
 ·exact List.mem_of_mem_drop q
theorem join_sub {p : List (List UInt8)} {y : List UInt8} : ∀ x ∈ joinP p y,x ∈ p ∨ x = y:=fun x hx => by
 unfold joinP at hx
 split at hx
 ·exact .inl hx
 ·rcases List.mem_append.1 hx with q | q
  ·exact .inl q
  ·exact .inr (List.mem_singleton.1 q)
theorem Know.hear {m : List Ms} {cs : List Ch} {l : Ln} (h : Know m cs l) {c : Ch} (hc : c ∈ cs) : Know m cs { l with r:=hearR l.r c }:=by
 obtain ⟨hk,hw⟩:=h.s.m.right c hc
 exact ⟨h.s,h.r.hear h.s.m hc,h.t,h.pl,h.nm,fun x hx => (h.f x hx).imp id (hear_mono h.r.g hk hw),hear_z h.z,h.b.hear h.r.g hk hw⟩
theorem Know.ack {m : List Ms} {cs : List Ch} {l : Ln} (h : Know m cs l) {nx : Int} {E : List Int} (ht : ∀ k : Int,(k < nx ∨ E.contains k = true) → CameN l.r k) : Know m cs { l with s:=hearS l.s ⟨2,nx,0,0,[],E⟩ }:=by
 refine ⟨(h.s.hear ⟨2,nx,0,0,[],E⟩).1,h.r,h.t,h.pl,h.nm,fun x hx => ?_,h.z,h.b⟩
 by_cases q : cameL ⟨2,nx,0,0,[],E⟩ x.number = true
 ·right
  refine ht x.number ?_
  unfold cameL at q
  simpa using q
 ·rcases h.f x hx with w | w
  ·left
   unfold hearS
   rw [if_pos rfl]
   exact List.mem_filter.2 ⟨w,by simpa using q⟩
  ·exact .inr w
theorem Know.there {m : List Ms} {cs : List Ch} {l : Ln} (h : Know m cs l) {p : List (List UInt8)} (hp : RightOr false cs p) : Know m cs { l with there:=p }:=⟨h.s,h.r,hp,h.pl,h.nm,h.f,h.z,h.b⟩
theorem Know.back {m : List Ms} {cs : List Ch} {l : Ln} (h : Know m cs l) {p : List (List UInt8)} (hp : Truth l.r p) : Know m cs { l with back:=p }:=⟨h.s,h.r,h.t,h.pl,h.nm,h.f,h.z,hp⟩
theorem Know.put {m : List Ms} {cs : List Ch} {l : Ln} (h : Know m cs l) (x : Ms) : Know m cs { l with s:=putS l.s x }:=by
 refine ⟨(h.s.put x).1,h.r,h.t,h.pl,h.nm,fun c hc => ?_,h.z,h.b⟩
 rcases h.f c hc with w | w
 ·left
  unfold putS
  split
  ·exact w
  ·exact w
 ·exact .inr w
theorem Know.owes {m : List Ms} {cs : List Ch} {l : Ln} (h : Know m cs l) : Know m cs { l with r:=(sayR l.r).1 }:=by
 refine ⟨h.s,h.r.say,h.t,h.pl,h.nm,fun c hc => ?_,?_,?_⟩
 ·rcases h.f c hc with w | w
  ·exact .inl w
  ·right
   unfold sayR
   split
   ·exact w
   ·exact w
 ·have:=h.z
  unfold sayR
  split
  ·exact this
  ·exact this
 ·have:=h.b
  unfold sayR
  split
  ·exact this
  ·exact this
theorem Know.again {m : List Ms} {cs : List Ch} {l : Ln} (h : Know m cs l) (hf : 0 < l.s.flight.length) : Know m cs { l with s:={ l.s with turn:=againK l.s + 1 } } ∧ l.s.flight.getD (againK l.s).toNat zeroC ∈ cs:=by
 obtain ⟨h1,h2⟩:=h.s.again hf
 exact ⟨⟨h1,h.r,h.t,h.pl,h.nm,h.f,h.z,h.b⟩,h2⟩
theorem Know.new {m : List Ms} {cs : List Ch} {l : Ln} (h : Know m cs l) {x : Ms} {r : List Ms} (hq : l.s.queue = x :: r) (hf : l.s.flight.length ≤ 3) : Know (m ++ [x]) (cs ++ [newC l.s x]) { l with s:=newS l.s x r }:=by
 obtain ⟨hx,hn⟩:=h.s.new hq hf
 refine ⟨hn,h.r.more h.s.m hx,fun y hy => ?_,fun s k s0 s2 k0 hk => ?_,fun k k0 hk => ?_,fun c hc => ?_,h.z,h.b⟩
 ·rcases h.t y hy with ⟨c,q,e⟩ | q
  ·exact .inl ⟨c,List.mem_append_left _ q,e⟩
  ·cases q.1
 ·rw [ofS_more] at hk
  by_cases e : x.stream = s
  ·rw [if_pos (by simpa using e),List.length_append,List.length_singleton] at hk
   by_cases hk2 : k < (ofS m s).length
   ·obtain ⟨c,q,e1⟩:=h.pl s k s0 s2 k0 hk2
    exact ⟨c,List.mem_append_left _ q,e1⟩
   ·refine ⟨newC l.s x,by simp,by rw [hx.s,e],?_⟩
    rw [hx.p,e]
    omega
  ·rw [if_neg (by simpa using e)] at hk
   obtain ⟨c,q,e1⟩:=h.pl s k s0 s2 k0 hk
   exact ⟨c,List.mem_append_left _ q,e1⟩
 ·by_cases hk2 : k < (m.length : Int)
  ·obtain ⟨c,q,e1⟩:=h.nm k k0 hk2
   exact ⟨c,List.mem_append_left _ q,e1⟩
  ·refine ⟨newC l.s x,by simp,?_⟩
   rw [hx.n]
   simp at hk
   omega
 ·rcases List.mem_append.1 hc with q | q
  ·rcases h.f c q with w | w
   ·exact .inl (List.mem_append_left _ w)
   ·exact .inr w
  ·exact .inl (List.mem_append_right _ q)
def KInv (p : List Ms) (l : Ln) : Prop:=GoodL l ∧ ∃ m cs,p = m ++ l.s.queue ∧ Know m cs l
theorem KInv.put {p : List Ms} {l : Ln} (h : KInv p l) (x : Ms) : KInv (if putE l.s x = 0 then p ++ [x] else p) { l with s:=putS l.s x }:=by
 obtain ⟨g,m,cs,e,k⟩:=h
 refine ⟨⟨g.s.put x,g.r,g.t,g.b,g.tn,g.bn⟩,m,cs,?_,k.put x⟩
 show _ = m ++ (putS l.s x).queue
 rw [(k.s.put x).2]
 split
 ·rw [e,List.append_assoc]
 ·exact e
theorem KInv.speak {p : List Ms} {l : Ln} (h : KInv p l) : KInv p (speakL l):=by
 obtain ⟨g,m,cs,e,k⟩:=h
 -- the sender
 have hs : ∃ m' cs',p = m' ++ (sayL l.s).1.queue ∧ Know m' cs' { l with s:=(sayL l.s).1,there:=if (sayL l.s).2.2 = true then joinP l.there (sealL (bodyL (sayL l.s).2.1)) else l.there }:=by
  unfold sayL
  split
  ·rename_i hq
   split
   ·exact ⟨m,cs,e,k⟩
   ·rename_i hf
    obtain ⟨k1,k2⟩:=k.again (by omega)
    exact ⟨m,cs,e,k1.there (k1.t.join (.inl ⟨_,k2,rfl⟩))⟩
  ·rename_i x r hq
   split
   ·rename_i hf
    obtain ⟨k1,k2⟩:=k.again (by omega)
    exact ⟨m,cs,e,k1.there (k1.t.join (.inl ⟨_,k2,rfl⟩))⟩
   ·rename_i hf
    have k1:=k.new hq (by omega)
    refine ⟨m ++ [x],cs ++ [newC l.s x],?_,k1.there (k1.t.join (.inl ⟨newC l.s x,by simp,rfl⟩))⟩
    rw [e,hq]
    simp [newS]
 obtain ⟨m',cs',e',k'⟩:=hs
 have k2:=k'.owes
 refine ⟨g.speak,m',cs',e',k2.back (p:=if (sayR l.r).2.2 = true then joinP l.back (sealL (bodyL (sayR l.r).2.1)) else l.back) ?_⟩
 have hb : Truth (sayR l.r).1 l.back:=k2.b
 show Truth (sayR l.r).1 _
 cases hsay : (sayR l.r).2.2 with
 | false => simpa using hb
 | true =>
  rw [if_pos rfl]
  intro x hx
  rcases join_sub x hx with q | q
  ·exact hb x q
  ·unfold sayR at hsay q ⊢
   by_cases ho : l.r.owes = true
   ·rw [if_pos ho] at q ⊢
    exact ⟨l.r.next,l.r.early,q,sayR_right g.r,fun k hk => hk⟩
   ·rw [if_neg ho] at hsay
    cases hsay
theorem KInv.come {p : List Ms} {l : Ln} (h : KInv p l) {n : Nat} {back : Bool} (hn : n < (wayP l back).length) : KInv p (comeL l n back):=by
 have hg:=h.1.come n back
 obtain ⟨g,m,cs,e,k⟩:=h
 cases back with
 | true =>
  have hn : n < l.back.length:=hn
  have hx : l.back.getD n [] ∈ l.back:=by
   rw [List.getD_eq_getElem?_getD,List.getElem?_eq_getElem hn,Option.getD_some]
   exact List.getElem_mem hn
  obtain ⟨nx,E,e1,e2,e3⟩:=k.b _ hx
  have hr : readC (l.back.getD n []) = ⟨2,nx,0,0,[],E⟩:=by rw [e1]; exact (read_bytes _ e2).2
  have he : readE (l.back.getD n []) = 0:=by rw [e1]; exact (read_bytes _ e2).1
  have hL : comeL l n true = { l with s:=hearS l.s ⟨2,nx,0,0,[],E⟩,back:=cutP l.back n }:=by
   unfold comeL wayP withP
   simp only [if_true]
   rw [if_pos he,hr]
  rw [hL] at hg ⊢
  refine ⟨hg,m,cs,?_,(k.ack e3).back (k.b.sub (cut_sub n))⟩
  show p = m ++ (hearS l.s _).queue
  rw [(k.s.hear _).2]; exact e
 | false =>
  have hn : n < l.there.length:=hn
  have hx : l.there.getD n [] ∈ l.there:=by
   rw [List.getD_eq_getElem?_getD,List.getElem?_eq_getElem hn,Option.getD_some]
   exact List.getElem_mem hn
  rcases k.t _ hx with ⟨c,hc,e1⟩ | q
  ·have hw:=(k.s.m.right c hc).2
   have hr : readC (l.there.getD n []) = c:=by rw [e1]; exact (read_bytes c hw).2
   have he : readE (l.there.getD n []) = 0:=by rw [e1]; exact (read_bytes c hw).1
   have hL : comeL l n false = { l with r:=hearR l.r c,there:=cutP l.there n }:=by
    unfold comeL wayP withP
    simp only [Bool.false_eq_true,if_false]
    rw [if_pos he,hr]
   rw [hL] at hg ⊢
   exact ⟨hg,m,cs,e,(k.hear hc).there (k.t.cut n)⟩
  ·cases q.1
theorem KInv.packet {p : List Ms} {l : Ln} (h : KInv p l) (kind n k : Int) (back : Bool) (hk : kind ≠ 6) : KInv p (packetL l kind n k back).1:=by
 have hg:=h.1.packet kind n k back
 unfold packetL at hg ⊢
 split
 ·exact h
 rename_i hn
 rw [if_neg hn] at hg
 obtain ⟨g,m,cs,e,kn⟩:=h
 split
 ·rename_i e4
  rw [if_pos e4] at hg
  cases back with
  | true => exact ⟨hg,m,cs,e,kn.back (kn.b.sub (cut_sub _))⟩
  | false => exact ⟨hg,m,cs,e,kn.there (kn.t.cut _)⟩
 rename_i h4
 rw [if_neg h4] at hg
 split
 ·rename_i e5
  rw [if_pos e5] at hg
  cases back with
  | true =>
   have hlt : n.toNat < l.back.length:=by
    have : ¬ ((l.back.length : Int) ≤ n):=fun w => hn (.inr w)
    omega
   refine ⟨hg,m,cs,e,kn.back (kn.b.sub fun x hx => ?_)⟩
   rcases join_sub x hx with q | q
   ·exact q
   ·rw [q]
    show l.back.getD n.toNat [] ∈ _
    rw [List.getD_eq_getElem?_getD,List.getElem?_eq_getElem hlt,Option.getD_some]
    exact List.getElem_mem hlt
  | false =>
   have hlt : n.toNat < l.there.length:=by
    have : ¬ ((l.there.length : Int) ≤ n):=fun w => hn (.inr w)
    omega
   refine ⟨hg,m,cs,e,kn.there (kn.t.join (kn.t _ ?_))⟩
   show l.there.getD n.toNat [] ∈ _
   rw [List.getD_eq_getElem?_getD,List.getElem?_eq_getElem hlt,Option.getD_some]
   exact List.getElem_mem hlt
 rename_i h5
 exact KInv.come ⟨g,m,cs,e,kn⟩ (by omega)
def distT (t f : Nat) : Nat:=(f - t % f) % f
def phi (q u a t : Nat) : Nat:=if q = 0 then 5 * u + (if a = 0 then distT t u else 4) else 6 * q + 2 * u + 12 + (if a = 0 then (if u = 4 then distT t 4 else 0) else 1)
theorem dist_lt {f : Nat} (t : Nat) (h : 0 < f) : distT t f < f:=Nat.mod_lt _ h
theorem dist_zero (t : Nat) : distT t 0 = 0:=by simp [distT]
theorem dist_next {t f : Nat} (hf : 0 < f) (h : t % f ≠ 0) : distT (t % f + 1) f + 1 = distT t f:=by
 have h1:=Nat.mod_lt t hf
 have h2 : distT t f = f - t % f:=by unfold distT; exact Nat.mod_eq_of_lt (by omega)
 rw [h2]
 unfold distT
 by_cases e : t % f + 1 = f
 ·rw [e,Nat.mod_self,Nat.sub_zero,Nat.mod_self]; omega
 ·rw [Nat.mod_eq_of_lt (by omega : t % f + 1 < f),Nat.mod_eq_of_lt (by omega)]; omega
theorem dist_le {u : Nat} (t : Nat) (h : u ≤ 4) : distT t u ≤ 3:=by
 rcases Nat.eq_zero_or_pos u with e | e
 ·rw [e,dist_zero]; omega
 ·have:=dist_lt t e; omega
theorem dist_le3 {u : Nat} (t : Nat) (h : u ≤ 3) : distT t u ≤ 2:=by
 rcases Nat.eq_zero_or_pos u with e | e
 ·rw [e,dist_zero]; omega
 ·have:=dist_lt t e; omega
theorem phi_new {q u a t t' : Nat} (hf : u + a ≤ 3) : phi q u 1 t' < phi (q + 1) u a t:=by
 unfold phi
 rw [if_neg (by omega : ¬ q + 1 = 0),if_neg (by decide : ¬ (1 : Nat) = 0)]
 split
 ·split
  ·split <;> omega
  ·omega
 ·split
  ·split <;> omega
  ·omega
theorem phi_more {q u a t t' : Nat} (hf : u + a ≤ 3) : phi q (u + 1) 0 t' < phi (q + 1) u a t:=by
 have h1:=dist_le t' (by omega : u + 1 ≤ 4)
 have h2:=dist_le t' (Nat.le_refl 4)
 unfold phi
 rw [if_neg (by omega : ¬ q + 1 = 0),if_pos rfl]
 split
 ·split
  ·split <;> omega
  ·omega
 ·split <;> split <;> (try split) <;> omega
theorem phi_take {q u a t t' : Nat} (hf : u + 1 + a ≤ 4) (hq : q = 0 ∨ u + 1 + a = 4) : phi q u 1 t' < phi q (u + 1) a t:=by
 unfold phi
 rw [if_neg (by decide : ¬ (1 : Nat) = 0)]
 split
 ·split <;> omega
 ·split
  ·rw [if_pos (by omega : u + 1 = 4)]; omega
  ·omega
theorem phi_ack {q u a t t' : Nat} (hf : u + a ≤ 4) (ha : 0 < a) : phi q u 0 t' < phi q u a t:=by
 have h1:=dist_le3 t' (by omega : u ≤ 3)
 have ha' : ¬ a = 0:=by omega
 have hu' : ¬ u = 4:=by omega
 unfold phi
 simp only [ha',hu',if_false,if_true]
 split <;> omega
theorem phi_turn {q u t : Nat} (hu : 0 < u) (hu4 : u ≤ 4) (hq : q = 0 ∨ u = 4) (ht : t % u ≠ 0) : phi q u 0 (t % u + 1) < phi q u 0 t:=by
 have h1:=dist_next hu ht
 unfold phi
 simp only [if_true]
 split
 ·omega
 ·have e : u = 4:=by omega
  subst e
  simp only [if_true]
  omega
def hearP (r : Rv) (x : List UInt8) : Rv:=if readE x = 0 then hearR r (readC x) else r
def hearQ (s : Sd) (x : List UInt8) : Sd:=if readE x = 0 then hearS s (readC x) else s
def drainL (l : Ln) : Ln:=⟨l.back.foldl hearQ l.s,l.there.foldl hearP l.r,[],[]⟩
theorem come_there {l : Ln} {x : List UInt8} {p : List (List UInt8)} (h : l.there = x :: p) : comeL l 0 false = { l with r:=hearP l.r x,there:=p }:=by
 unfold comeL wayP withP cutP hearP
 simp only [h,Bool.false_eq_true,if_false,List.getD_cons_zero,List.take_zero,List.nil_append,List.drop_succ_cons,List.drop_zero,Nat.zero_add]
 split <;> rfl
theorem come_back {l : Ln} {x : List UInt8} {p : List (List UInt8)} (h : l.back = x :: p) : comeL l 0 true = { l with s:=hearQ l.s x,back:=p }:=by
 unfold comeL wayP withP cutP hearQ
 simp only [h,if_true,List.getD_cons_zero,List.take_zero,List.nil_append,List.drop_succ_cons,List.drop_zero,Nat.zero_add]
 split <;> rfl
theorem KInv.there_all {p : List Ms} : ∀ (q : List (List UInt8)) {l : Ln},KInv p l → l.there = q → KInv p { l with r:=q.foldl hearP l.r,there:=[] }
 | [],l,h,e => by
  obtain ⟨s,r,t,b⟩:=l
  simp only at e
  subst e
  exact h
 | x :: q,l,h,e => by
  have h1:=h.come (n:=0) (back:=false) (by show 0 < l.there.length; rw [e]; simp)
  rw [come_there e] at h1
  exact KInv.there_all q h1 rfl
theorem KInv.back_all {p : List Ms} : ∀ (q : List (List UInt8)) {l : Ln},KInv p l → l.back = q → KInv p { l with s:=q.foldl hearQ l.s,back:=[] }
 | [],l,h,e => by
  obtain ⟨s,r,t,b⟩:=l
  simp only at e
  subst e
  exact h
 | x :: q,l,h,e => by
  have h1:=h.come (n:=0) (back:=true) (by show 0 < l.back.length; rw [e]; simp)
  rw [come_back e] at h1
  exact KInv.back_all q h1 rfl
theorem KInv.drain {p : List Ms} {l : Ln} (h : KInv p l) : KInv p (drainL l):=KInv.back_all l.back (KInv.there_all l.there h rfl) rfl
def goL (l : Ln) : Ln:=drainL (speakL l)
def idleL (l : Ln) : Bool:=l.s.queue.isEmpty && l.s.flight.isEmpty
def ackC (r : Rv) : Ch:=⟨2,r.next,0,0,[],r.early⟩
def unseen (l : Ln) : List Ch:=l.s.flight.filter fun c => !cameL (ackC l.r) c.number
def phiL (l : Ln) : Nat:=phi l.s.queue.length (unseen l).length (l.s.flight.length - (unseen l).length) l.s.turn.toNat
theorem came_ack {r : Rv} {k : Int} : cameL (ackC r) k = true ↔ CameN r k:=by
 unfold cameL ackC CameN
 simp
theorem say_yes {l : Ln} (h : idleL l = false) : (sayL l.s).2.2 = true:=by
 unfold idleL at h
 unfold sayL
 split
 ·rename_i hq
  rw [hq] at h
  split
  ·rename_i hf
   rw [List.length_eq_zero_iff.1 hf] at h
   cases h
  ·rfl
 ·split <;> rfl
theorem go_eq {l : Ln} (hg : GoodL l) (ht : l.there = []) (hb : l.back = []) (hi : idleL l = false) :
  goL l = ⟨if l.r.owes = true then hearS (sayL l.s).1 (ackC l.r) else (sayL l.s).1,hearR (sayR l.r).1 (sayL l.s).2.1,[],[]⟩:=by
 have hs:=say_yes hi
 have h1:=say_right hg.s hs
 have hr : wrongL (ackC l.r) = 0:=sayR_right hg.r
 unfold goL drainL speakL
 simp only [ht,hb,hs,if_true]
 have e1 : joinP [] (sealL (bodyL (sayL l.s).2.1)) = [sealL (bodyL (sayL l.s).2.1)]:=rfl
 rw [e1]
 have e2 : ∀ r,[sealL (bodyL (sayL l.s).2.1)].foldl hearP r = hearR r (sayL l.s).2.1:=fun r => by
  show hearP r _ = _
  unfold hearP
  rw [if_pos (read_bytes _ h1).1,(read_bytes _ h1).2]
 rw [e2]
 by_cases ho : l.r.owes = true
 ·have e3 : (sayR l.r).2 = (ackC l.r,true):=by unfold sayR ackC; rw [if_pos ho]
  rw [e3,if_pos ho]
  simp only [if_true]
  have e4 : joinP [] (sealL (bodyL (ackC l.r))) = [sealL (bodyL (ackC l.r))]:=rfl
  rw [e4]
  have e5 : [sealL (bodyL (ackC l.r))].foldl hearQ (sayL l.s).1 = hearS (sayL l.s).1 (ackC l.r):=by
   show hearQ _ _ = _
   unfold hearQ
   rw [if_pos (read_bytes _ hr).1,(read_bytes _ hr).2]
  rw [e5]
 ·have e3 : (sayR l.r).2.2 = false:=by unfold sayR; rw [if_neg ho]
  rw [e3,if_neg ho]
  simp
theorem say_seen {r : Rv} (n : Int) : seenR (sayR r).1 n = seenR r n:=by unfold sayR; split <;> rfl
theorem say_came {r : Rv} {n : Int} : CameN (sayR r).1 n ↔ CameN r n:=by unfold sayR; split <;> exact Iff.rfl
theorem came_seen {r : Rv} {n : Int} (h : CameN r n) : seenR r n = true:=by
 unfold seenR
 rcases h with w | w
 ·simp [w]
 ·rw [w]; rfl
theorem hear_came {l : List Ms} {cs : List Ch} {r : Rv} (hm : Many l cs) (hg : GoodR r) {c : Ch} (hc : c ∈ cs) {z : Ch} (hz : z ∈ cs) : CameN (hearR r c) z.number ↔ CameN r z.number ∨ (seenR r c.number = false ∧ z = c):=by
 obtain ⟨hk,hw⟩:=hm.right c hc
 obtain ⟨hn40,hpl,_,hms⟩:=wrong_one hk hw
 have e : hearR r c = if seenR r c.number = true then { r with owes:=true } else takeR r c:=by unfold hearR; rw [if_pos hk]
 cases hs : seenR r c.number with
 | true =>
  rw [hs,if_pos rfl] at e
  rw [e]
  constructor
  ·intro q; exact .inl q
  ·rintro (q | q)
   ·exact q
   ·cases q.1
 | false =>
  rw [hs,if_neg (by simp)] at e
  rw [e]
  have hS : ∀ m ∈ c.number :: r.early,m < 40:=by
   intro m hm
   rcases List.mem_cons.1 hm with rfl | hm
   ·exact hn40.2
   ·exact (hg.in40 m hm).2
  have t6:=(climb_ok (c.number :: r.early) hS 41 r.next hg.n.2 (by have:=hg.n; omega)).2.2.2
  have hz40 : z.number < 40:=(wrong_one (hm.right z hz).1 (hm.right z hz).2).1.2
  have hzc : z = c ↔ z.number = c.number:=⟨fun q => by rw [q],fun q => hm.one z hz c hc q⟩
  show (z.number < climb 41 (c.number :: r.early) r.next ∨ (earlyR (c.number :: r.early) (climb 41 (c.number :: r.early) r.next)).contains z.number = true) ↔ _
  have h1:=(climb_ok (c.number :: r.early) hS 41 r.next hg.n.2 (by have:=hg.n; omega)).1
  unfold CameN
  rw [hzc]
  by_cases q : z.number < climb 41 (c.number :: r.early) r.next
  ·constructor
   ·intro _
    by_cases q2 : z.number < r.next
    ·exact .inl (.inl q2)
    ·have:=t6 z.number (by omega) q
     rw [contains_eq,Bool.or_eq_true,beq_iff_eq] at this
     rcases this with w | w
     ·exact .inl (.inr w)
     ·exact .inr ⟨rfl,w⟩
   ·intro _; exact .inl q
  ·rw [earlyR_has (by omega) hz40,contains_eq,Bool.or_eq_true,beq_iff_eq]
   constructor
   ·rintro (w | w | w)
    ·omega
    ·exact .inl (.inr w)
    ·exact .inr ⟨rfl,w⟩
   ·rintro ((w | w) | w)
    ·omega
    ·exact .inr (.inl w)
    ·exact .inr (.inr w.2)
theorem filter_one : ∀ (L : List Ch),L.Pairwise (fun a b => a.number < b.number) → ∀ c ∈ L,(L.filter (fun z => z.number != c.number)).length + 1 = L.length
 | [],_,c,hc => by cases hc
 | y :: L,h,c,hc => by
  rw [List.pairwise_cons] at h
  rcases List.mem_cons.1 hc with rfl | hc
  ·rw [List.filter_cons_of_neg (by simp),List.filter_eq_self.2 (fun z hz => by have:=h.1 z hz; simp; omega)]
   rfl
  ·have:=h.1 c hc
   rw [List.filter_cons_of_pos (by simp; omega)]
   have ih:=filter_one L h.2 c hc
   simp only [List.length_cons]
   omega
theorem next_seen {r : Rv} (hg : GoodR r) : seenR r r.next = false:=by
 unfold seenR
 rw [hg.x]
 simp
theorem unseen_le (l : Ln) : (unseen l).length ≤ l.s.flight.length:=List.length_filter_le _ _
theorem first_lacks {m : List Ms} {cs : List Ch} {l : Ln} (h : Know m cs l) (hu : (unseen l).length = l.s.flight.length) (hf : 0 < l.s.flight.length) : ∃ c,l.s.flight[0]? = some c ∧ c.number = l.r.next:=by
 have hall : ∀ c ∈ l.s.flight,¬ CameN l.r c.number:=by
  intro c hc q
  have:=List.length_filter_eq_length_iff.1 hu c hc
  rw [came_ack.2 q] at this
  cases this
 obtain ⟨c,hc⟩ : ∃ c,l.s.flight[0]? = some c:=⟨l.s.flight[0],List.getElem?_eq_getElem hf⟩
 refine ⟨c,hc,?_⟩
 have hcm:=List.mem_of_getElem? hc
 have h1 : l.r.next ≤ c.number:=by
  have:=hall c hcm
  unfold CameN at this
  omega
 have h2:=(h.s.m.num c (h.s.f c hcm)).2
 obtain ⟨z,hz,ez⟩:=h.nm l.r.next h.r.g.n.1 (by omega)
 have hzf : z ∈ l.s.flight:=by
  rcases h.f z hz with w | w
  ·exact w
  ·exfalso
   rw [ez] at w
   rcases w with w | w
   ·omega
   ·rw [h.r.g.x] at w; cases w
 obtain ⟨k,hk⟩:=List.getElem?_of_mem hzf
 have hp:=h.s.g.r
 by_cases h0 : k = 0
 ·subst h0
  rw [hc] at hk
  cases hk
  exact ez
 ·have hlt:=(List.getElem?_eq_some_iff.1 hk).1
  have:=List.pairwise_iff_getElem.1 hp 0 k hf hlt (by omega)
  rw [(List.getElem?_eq_some_iff.1 hc).2,(List.getElem?_eq_some_iff.1 hk).2,ez] at this
  omega
theorem ack_eq (s : Sd) (r : Rv) : hearS s (ackC r) = { s with flight:=s.flight.filter (fun x => !cameL (ackC r) x.number) }:=by
 have e : (ackC r).kind = 2:=rfl
 unfold hearS
 rw [if_pos e]
theorem live_again {m : List Ms} {cs : List Ch} {l : Ln} (h : Know m cs l) (hq : l.s.queue.length = 0 ∨ l.s.flight.length = 4) (hf : 0 < l.s.flight.length) {x : Ln}
  (hx : x = ⟨hearS { l.s with turn:=againK l.s + 1 } (ackC l.r),hearR (sayR l.r).1 (l.s.flight.getD (againK l.s).toNat zeroC),[],[]⟩) : phiL x < phiL l:=by
 have hk:=againK_lt h.s.g hf
 have hlt : (againK l.s).toNat < l.s.flight.length:=by omega
 obtain ⟨c,hc⟩ : ∃ c,c = l.s.flight.getD (againK l.s).toNat zeroC:=⟨_,rfl⟩
 have hcf : l.s.flight[(againK l.s).toNat]? = some c:=by
  rw [hc,List.getD_eq_getElem?_getD,List.getElem?_eq_getElem hlt,Option.getD_some]
 have hcm:=List.mem_of_getElem? hcf
 have hcc:=h.s.f c hcm
 have hfl : x.s.flight = unseen l:=by rw [hx,ack_eq]; rfl
 have hqx : x.s.queue = l.s.queue:=by rw [hx,ack_eq]
 have htx : x.s.turn = againK l.s + 1:=by rw [hx,ack_eq]
 have hrx : x.r = hearR (sayR l.r).1 c:=by rw [hx,hc]
 have hcame : ∀ z ∈ cs,CameN x.r z.number ↔ CameN l.r z.number ∨ (seenR l.r c.number = false ∧ z = c):=fun z hz => by
  rw [hrx,hear_came h.s.m h.r.g.say hcc hz,say_came,say_seen]
 have hU : ∀ z ∈ unseen l,z ∈ l.s.flight ∧ ¬ CameN l.r z.number:=fun z hz => by
  obtain ⟨q1,q2⟩:=List.mem_filter.1 hz
  refine ⟨q1,fun w => ?_⟩
  rw [came_ack.2 w] at q2
  cases q2
 have hux : unseen x = (unseen l).filter fun z => !cameL (ackC x.r) z.number:=by unfold unseen; rw [hfl]; rfl
 have hfle:=h.s.g.f
 have hul:=unseen_le l
 have ht:=h.s.g.t
 have htn : l.s.turn.toNat % l.s.flight.length = (againK l.s).toNat:=by
  unfold againK
  have e : ((l.s.turn.toNat % l.s.flight.length : Nat) : Int) = l.s.turn % (l.s.flight.length : Int):=by
   rw [Int.natCast_emod,Int.toNat_of_nonneg ht.1]
  omega
 -- nothing new came
 have same : seenR l.r c.number = true → unseen x = unseen l:=fun hs => by
  rw [hux]
  refine List.filter_eq_self.2 fun z hz => ?_
  obtain ⟨q1,q2⟩:=hU z hz
  cases hb : cameL (ackC x.r) z.number with
  | false => rfl
  | true =>
   rcases (hcame z (h.s.f z q1)).1 (came_ack.1 hb) with w | w
   ·exact absurd w q2
   ·rw [hs] at w; cases w.1
 unfold phiL
 rw [hqx,hfl,htx]
 have hq' : l.s.queue.length = 0 ∨ (unseen l).length + (l.s.flight.length - (unseen l).length) = 4:=by omega
 by_cases hs : seenR l.r c.number = true
 ·rw [same hs,Nat.sub_self]
  by_cases ha : (unseen l).length < l.s.flight.length
  ·exact phi_ack (by omega) (by omega)
  ·have hu : (unseen l).length = l.s.flight.length:=by omega
   obtain ⟨y,hy,ey⟩:=first_lacks h hu hf
   have hne : (againK l.s).toNat ≠ 0:=by
    intro e
    rw [e] at hcf
    rw [hcf] at hy
    cases hy
    rw [ey,next_seen h.r.g] at hs
    cases hs
   rw [hu,Nat.sub_self]
   have e2 : (againK l.s + 1).toNat = l.s.turn.toNat % l.s.flight.length + 1:=by rw [htn]; omega
   rw [e2]
   exact phi_turn hf (by omega) (by omega) (by rw [htn]; exact hne)
 ·have hs : seenR l.r c.number = false:=by simpa using hs
  have hnc : ¬ CameN l.r c.number:=fun w => by rw [came_seen w] at hs; cases hs
  have hcu : c ∈ unseen l:=List.mem_filter.2 ⟨hcm,by
   cases hb : cameL (ackC l.r) c.number with
   | false => rfl
   | true => exact absurd (came_ack.1 hb) hnc⟩
  have hpw : (unseen l).Pairwise (fun a b => a.number < b.number):=h.s.g.r.filter _
  have hux2 : unseen x = (unseen l).filter fun z => z.number != c.number:=by
   rw [hux]
   refine List.filter_congr fun z hz => ?_
   obtain ⟨q1,q2⟩:=hU z hz
   have hzc:=h.s.f z q1
   cases hb : cameL (ackC x.r) z.number with
   | true =>
    rcases (hcame z hzc).1 (came_ack.1 hb) with w | w
    ·exact absurd w q2
    ·rw [w.2]; simp
   | false =>
    have : ¬ z.number = c.number:=fun e => by
     have:=(hcame z hzc).2 (.inr ⟨hs,h.s.m.one z hzc c hcc e⟩)
     rw [came_ack.2 this] at hb
     cases hb
    simp [this]
  have hone:=filter_one (unseen l) hpw c hcu
  rw [← hux2] at hone
  rw [← hone] at hul hq' ⊢
  rw [show (unseen x).length + 1 - (unseen x).length = 1 by omega]
  exact phi_take (by omega) (by omega)
end Go.Proofs.YtgaofjiidedcbacGreat.mth
