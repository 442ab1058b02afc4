import Derived.Test.YtgaofjiidedcbacGreatM31
import Derived.Test.YtgaofjiidedcbacGreatM30
import Derived.Test.YtgaofjiidedcbacGreatM27
import Derived.Test.YtgaofjiidedcbacGreatM29
import Derived.Test.YtgaofjiidedcbacGreatM28
set_option linter.unusedVariables false
set_option linter.unusedSimpArgs false
namespace Go.Proofs.YtgaofjiidedcbacGreat.ab
open Go Go.ChangeShapes Go.WideShapes Go.RowKit
open mth
section
variable {H : Type} {enc : TypeId × Value → H} {W : World} {base : Nat}
end
theorem refSame_told {s : Sd} (h : GoodS s) : Told Tryz.prog 27 [aD (encSd s),aD (encSd s)] [vB true] :=
 sameSd_told s (by have:=h.q; omega) (by have:=h.f; omega) (fun c hc => by rw [h.early c hc]; simp)
theorem good_hearly {r : Rv} (h : GoodR r) : ∀ c ∈ r.hold,c.early.length ≤ 9223372036854775807:=fun c hc => by
 have:=h.h c hc
 rw [(wrong_one this.1 this.2).2.2.1]; simp
theorem good_sizes {r : Rv} (h : GoodR r) : r.early.length ≤ 3 ∧ r.hold.length ≤ 43 ∧ r.told.length ≤ 43:=by
 have:=h.n; have:=h.t; have:=h.l
 omega
theorem sameR_told {r : Rv} (h : GoodR r) : Told Tryz.prog 28 [aD (encRv r),aD (encRv r)] [vB true]:=by
 have:=good_sizes h
 exact sameRv_told r (by omega) (by omega) (by omega) (good_hearly h)
def CSayR (f : Nat) : Prop:=∀ r,GoodR r → Told Tryz.prog f [aD (encRv r)] [aD (encRv (sayR r).1),aD (encCh (sayR r).2.1),vB (sayR r).2.2]
def CHearR (f : Nat) : Prop:=∀ r c,GoodR r → wrongL c = 0 → Told Tryz.prog f [aD (encRv r),aD (encCh c)] [aD (encRv (hearR r c))]
theorem sameLn_good {l : Ln} (h : GoodL l) : Told Tryz.prog 18 [aD (encLn l),aD (encLn l)] [vB true] :=
 sameLn_told l (refSame_told h.s) (sameR_told h.r) (by have:=h.t; omega) (by have:=h.b; omega)
def CLOwn (f : Nat) : Prop:=∀ l,GoodL l → Told Tryz.prog f [aD (encLn l)] [aD (encLn l)]
def CLSpeak (f : Nat) : Prop:=∀ l,GoodL l → Told Tryz.prog f [aD (encLn l)] [aD (encLn (speakL l))]
def CLStep (f : Nat) (kind : Int) : Prop:=∀ (l : Ln) (n : Int) (back : Bool),GoodL l → Told Tryz.prog f [aD (encLn l),vI n,vB back] [aD (encLn (packetL l kind n 0 back).1),vI (packetL l kind n 0 back).2]
def CLSpoil (f : Nat) : Prop:=∀ (l : Ln) (n k : Int) (back : Bool),GoodL l → Told Tryz.prog f [aD (encLn l),vI n,vI k,vB back] [aD (encLn (packetL l 6 n k back).1),vI (packetL l 6 n k back).2]
end Go.Proofs.YtgaofjiidedcbacGreat.ab
namespace Go.Proofs.YtgaofjiidedcbacGreat.mth
structure Made (l : List Ms) (cs : List Ch) : Prop where
 len : cs.length = l.length
 few : l.length ≤ 4
 right : ∀ c ∈ cs,c.kind = 1 ∧ wrongL c = 0
 num : ∀ c ∈ cs,0 ≤ c.number ∧ c.number < l.length
 one : ∀ a ∈ cs,∀ b ∈ cs,a.number = b.number → a = b
 all : ∀ n : Int,0 ≤ n → n < l.length → ∃ c ∈ cs,c.number = n
 two : ∀ a ∈ cs,∀ b ∈ cs,a.stream = b.stream → a.place = b.place → a = b
 low : ∀ a ∈ cs,∀ p : Int,0 ≤ p → p < a.place → ∃ b ∈ cs,b.stream = a.stream ∧ b.place = p
 put : ∀ a ∈ cs,(ofS l a.stream)[a.place.toNat]? = some ⟨a.stream,a.data⟩
def plD (d : Dr) (s : Int) : Int:=plc d.p0 d.p1 d.p2 s
structure DInv (l : List Ms) (cs : List Ch) (K : Ch → Prop) (d : Dr) : Prop where
 p : 0 ≤ d.p0 ∧ 0 ≤ d.p1 ∧ 0 ≤ d.p2
 a : ∀ y ∈ d.hold,y ∈ cs ∧ plD d y.stream ≤ y.place
 b : d.hold.Nodup
 t : ∀ s : Int,0 ≤ s → s ≤ 2 → ofS d.told s = (ofS l s).take (plD d s).toNat
 e : ∀ x ∈ cs,K x ↔ (x.place < plD d x.stream ∨ x ∈ d.hold)
theorem plD_step {d : Dr} {i : Nat} {x : Ch} (hs : x.stream = 0 ∨ x.stream = 1 ∨ x.stream = 2) {s : Int} (h : 0 ≤ s ∧ s ≤ 2) : plD (stepD d i x) s = if s = x.stream then plD d s + 1 else plD d s:=by
 unfold plD stepD plc
 simp only
 rcases hs with e | e | e <;> rw [e] <;> rcases (by omega : s = 0 ∨ s = 1 ∨ s = 2) with rfl | rfl | rfl <;> simp
theorem cut_mem {l : List Ch} {i : Nat} {x : Ch} (hx : l[i]? = some x) (hn : l.Nodup) (y : Ch) : y ∈ l.take i ++ l.drop (i + 1) ↔ y ∈ l ∧ y ≠ x:=by
 obtain ⟨hi,he⟩:=List.getElem?_eq_some_iff.1 hx
 have hl : l = l.take i ++ x :: l.drop (i + 1):=by
  rw [← he,← List.drop_eq_getElem_cons hi,List.take_append_drop]
 have hn':=hn
 rw [hl] at hn'
 have h1:=(List.nodup_append.1 hn').2.2
 have h2:=(List.nodup_cons.1 (List.nodup_append.1 hn').2.1).1
 constructor
 ·intro h
  rcases List.mem_append.1 h with q | q
  ·exact ⟨List.mem_of_mem_take q,fun e => h1 y q x (by simp) e⟩
  ·exact ⟨List.mem_of_mem_drop q,fun e => h2 (e ▸ q)⟩
 ·rintro ⟨h,hne⟩
  rw [hl] at h
  rcases List.mem_append.1 h with q | q
  ·exact List.mem_append_left _ q
  ·rcases List.mem_cons.1 q with q | q
   ·exact absurd q hne
   ·exact List.mem_append_right _ q
theorem cut_nodup {l : List Ch} {i : Nat} (hn : l.Nodup) : (l.take i ++ l.drop (i + 1)).Nodup:=by
 have : (l.take i ++ l.drop (i + 1)).Sublist l:=by
  rw [← List.eraseIdx_eq_take_drop_succ]
  exact List.eraseIdx_sublist l i
 exact hn.sublist this
theorem DInv.step {l : List Ms} {cs : List Ch} {K : Ch → Prop} {d : Dr} (hm : Made l cs) (h : DInv l cs K d) {i : Nat} {x : Ch} (hx : d.hold[i]? = some x) (hr : readyD d x = true) : DInv l cs K (stepD d i x):=by
 have hxm:=List.mem_of_getElem? hx
 have hxc:=(h.a x hxm).1
 have hw:=hm.right x hxc
 have hs:=stream3 (wrong_one hw.1 hw.2).2.2.2
 have hpl : x.place = plD d x.stream:=by simpa [readyD,plD] using hr
 have hstr : ∀ y ∈ cs,0 ≤ y.stream ∧ y.stream ≤ 2:=fun y hy => by
  have:=hm.right y hy
  have:=stream3 (wrong_one this.1 this.2).2.2.2
  omega
 have h0:=h.p
 have hmem:=cut_mem hx h.b
 have hp0 : 0 ≤ plD d x.stream:=by
  unfold plD plc
  split
  ·exact h0.1
  ·split
   ·exact h0.2.1
   ·exact h0.2.2
 refine ⟨?_,fun y hy => ?_,cut_nodup h.b,fun s s0 s2 => ?_,fun z hz => ?_⟩
 ·simp only [stepD]
  refine ⟨?_,?_,?_⟩ <;> split <;> omega
 ·obtain ⟨q1,q2⟩:=(hmem y).1 hy
  obtain ⟨a1,a2⟩:=h.a y q1
  refine ⟨a1,?_⟩
  rw [plD_step hs (hstr y a1)]
  split
  ·rename_i e
   have : y.place ≠ x.place:=fun e2 => q2 (hm.two y a1 x hxc e e2)
   rw [e] at a2 ⊢
   omega
  ·exact a2
 ·show ofS (d.told ++ [⟨x.stream,x.data⟩]) s = _
  rw [ofS_app,h.t s s0 s2,plD_step hs ⟨s0,s2⟩]
  by_cases e : s = x.stream
  ·subst e
   rw [if_pos rfl,show (plD d x.stream + 1).toNat = (plD d x.stream).toNat + 1 by omega,List.take_add_one]
   have:=hm.put x hxc
   rw [hpl] at this
   rw [this]
   simp [ofS]
  ·rw [if_neg e]
   have : (x.stream == s) = false:=by rw [beq_eq_false_iff_ne]; exact fun q => e q.symm
   simp [ofS,this]
 ·rw [h.e z hz,plD_step hs (hstr z hz)]
  show _ ↔ _ ∨ z ∈ d.hold.take i ++ d.hold.drop (i + 1)
  rw [hmem z]
  by_cases ez : z = x
  ·subst ez
   rw [if_pos rfl]
   constructor
   ·intro _; left; omega
   ·intro _; right; exact hxm
  ·by_cases e : z.stream = x.stream
   ·rw [if_pos e]
    have : z.place ≠ x.place:=fun e2 => ez (hm.two z hz x hxc e e2)
    rw [e] at *
    constructor
    ·rintro (q | q)
     ·left; omega
     ·right; exact ⟨q,ez⟩
    ·rintro (q | q)
     ·left; omega
     ·right; exact q.1
   ·rw [if_neg e]
    constructor
    ·rintro (q | q)
     ·left; exact q
     ·right; exact ⟨q,ez⟩
    ·rintro (q | q)
     ·left; exact q
     ·right; exact q.1
theorem find_some {l : List Ch} {p : Ch → Bool} {x : Ch} (h : l[l.findIdx p]? = some x) : p x = true:=by
 obtain ⟨hi,he⟩:=List.getElem?_eq_some_iff.1 h
 rw [← he]
 exact List.findIdx_getElem
theorem find_none {l : List Ch} {p : Ch → Bool} (h : l[l.findIdx p]? = none) : ∀ y ∈ l,p y = false:=by
 intro y hy
 have h1:=List.getElem?_eq_none_iff.1 h
 cases hp : p y with
 | false => rfl
 | true =>
  have:=List.findIdx_lt_length_of_exists ⟨y,hy,hp⟩
  omega
theorem DInv.drain {l : List Ms} {cs : List Ch} {K : Ch → Prop} (hm : Made l cs) : ∀ (f : Nat) {d : Dr},DInv l cs K d → d.hold.length ≤ f → DInv l cs K (drain f d) ∧ ∀ y ∈ (drain f d).hold,readyD (drain f d) y = false
 | 0,d,h,hf => by
  have : d.hold = []:=List.eq_nil_of_length_eq_zero (by omega)
  refine ⟨h,fun y hy => ?_⟩
  have hy : y ∈ d.hold:=hy
  rw [this] at hy
  cases hy
 | f + 1,d,h,hf => by
  unfold mth.drain
  split
  ·rename_i x hx
   refine DInv.drain hm f (h.step hm hx (find_some hx)) ?_
   have hi:=(List.getElem?_eq_some_iff.1 hx).1
   simp only [stepD,List.length_append,List.length_take,List.length_drop]
   omega
  ·rename_i hx
   exact ⟨h,find_none hx⟩
def drR (r : Rv) : Dr:=⟨r.p0,r.p1,r.p2,r.hold,r.told⟩
def Came (r : Rv) (z : Ch) : Prop:=z.number < r.next ∨ r.early.contains z.number = true
structure OInv (l : List Ms) (cs : List Ch) (r : Rv) : Prop where
 g : GoodR r
 d : DInv l cs (Came r) (drR r)
 z : ∀ y ∈ r.hold,readyD (drR r) y = false
 n : r.next ≤ l.length
 e : ∀ m ∈ r.early,m < (l.length : Int)
theorem OInv.fits {l : List Ms} {cs : List Ch} {r : Rv} (h : OInv l cs r) : fitsS r.told l = true:=by
 have key : ∀ s : Int,0 ≤ s → s ≤ 2 → preS (ofS r.told s) (ofS l s) = true:=by
  intro s h0 h2
  have:=h.d.t s h0 h2
  have : ofS r.told s = (ofS l s).take (plD (drR r) s).toNat:=this
  rw [preS_iff,this]
  exact ⟨_,(List.take_append_drop _ _).symm⟩
 rw [fitsS,key 0 (by omega) (by omega),key 1 (by omega) (by omega),key 2 (by omega) (by omega)]
 rfl
theorem OInv.all {l : List Ms} {cs : List Ch} {r : Rv} (hm : Made l cs) (h : OInv l cs r) (hc : ∀ z ∈ cs,Came r z) : r.told.length = l.length ∧ r.next = l.length ∧ r.early = [] ∧ r.hold = []:=by
 have h0:=h.g.n
 have hx:=h.g.x
 have hn : r.next = l.length:=by
  have:=h.n
  by_cases q : r.next = l.length
  ·exact q
  ·obtain ⟨z,hz,he⟩:=hm.all r.next h0.1 (by omega)
   rcases hc z hz with w | w
   ·omega
   ·rw [he,hx] at w; cases w
 have he : r.early = []:=by
  apply List.eq_nil_iff_forall_not_mem.2
  intro m hmm
  have:=h.e m hmm
  have:=(h.g.in40 m hmm).1
  omega
 have hh : r.hold = []:=by
  apply List.eq_nil_iff_forall_not_mem.2
  intro y hy
  obtain ⟨a1,a2⟩:=h.d.a y hy
  have hz:=h.z y hy
  have hne : y.place ≠ plD (drR r) y.stream:=by simpa [readyD,plD] using hz
  have hp0 : 0 ≤ plD (drR r) y.stream:=by
   have:=h.d.p
   unfold plD plc
   split
   ·exact this.1
   ·split
    ·exact this.2.1
    ·exact this.2.2
  obtain ⟨b,hb,b1,b2⟩:=hm.low y a1 (plD (drR r) y.stream) hp0 (by omega)
  rcases (h.d.e b hb).1 (hc b hb) with w | w
  ·rw [b1,b2] at w; omega
  ·have:=h.z b w
   simp [readyD,plD,b1,b2] at this
 have ht:=h.g.t
 rw [he,hh] at ht
 simp at ht
 exact ⟨by omega,hn,he,hh⟩
theorem four_two (f : Int → Bool) (h0 : f 0 = false) (h : f 1 = false ∨ f 2 = false ∨ f 3 = false) : ([0,1,2,3].filter f).length ≤ 2:=by
 cases f1 : f 1 <;> cases f2 : f 2 <;> cases f3 : f 3 <;> simp_all [List.filter_cons]
theorem OInv.room {l : List Ms} {cs : List Ch} {r : Rv} (hm : Made l cs) (h : OInv l cs r) {n : Int} (h1 : r.next < n) (h2 : n < l.length) (h3 : r.early.contains n = false) : r.early.length ≤ 2:=by
 have hx:=h.g.x
 have h0:=h.g.n
 have hf:=hm.few
 have hout : ∀ m,4 ≤ m → r.early.contains m = false:=by
  intro m hm4
  cases q : r.early.contains m with
  | false => rfl
  | true =>
   have:=h.e m (List.contains_iff_mem.1 q)
   omega
 rw [h.g.e,earlyR,rangeI_app (b:=4) (by omega) (by omega),List.filter_append,List.length_append]
 have e2 : (rangeI 4 40).filter (fun m => r.early.contains m) = []:=by
  apply List.filter_eq_nil_iff.2
  intro m hmm
  rw [hout m (mem_rangeI.1 hmm).1]; simp
 rw [e2,List.length_nil,Nat.add_zero]
 by_cases q : 1 ≤ r.next
 ·rw [rangeI_cons (by omega),List.filter_cons_of_neg (by rw [hx]; simp)]
  refine Nat.le_trans (List.length_filter_le _ _) ?_
  rw [rangeI_len]; omega
 ·have hz : r.next = 0:=by omega
  have hx0 : r.early.contains 0 = false:=by rw [← hz]; exact hx
  rw [hz]
  have e4 : rangeI 0 4 = [0,1,2,3]:=rfl
  rw [e4]
  refine four_two (fun m => r.early.contains m) hx0 ?_
  rcases (by omega : n = 1 ∨ n = 2 ∨ n = 3) with rfl | rfl | rfl
  ·exact .inl h3
  ·exact .inr (.inl h3)
  ·exact .inr (.inr h3)
theorem OInv.hear {l : List Ms} {cs : List Ch} {r : Rv} (hm : Made l cs) (h : OInv l cs r) {c : Ch} (hc : c ∈ cs) : OInv l cs (hearR r c) ∧ Came (hearR r c) c ∧ ∀ z ∈ cs,Came r z → Came (hearR r c) z:=by
 obtain ⟨hk,hw⟩:=hm.right c hc
 obtain ⟨hn40,hpl,_,hms⟩:=wrong_one hk hw
 have hn:=hm.num c hc
 have hg:=h.g.hear hw
 have e : hearR r c = if seenR r c.number = true then { r with owes:=true } else takeR r c:=by unfold hearR; rw [if_pos hk]
 cases hs : seenR r c.number with
 | true =>
  rw [hs,if_pos rfl] at e
  rw [e] at hg ⊢
  refine ⟨⟨hg,h.d,h.z,h.n,h.e⟩,?_,fun z _ q => q⟩
  show c.number < r.next ∨ r.early.contains c.number = true
  cases q : r.early.contains c.number with
  | true => exact .inr rfl
  | false =>
   left
   unfold seenR at hs
   rw [q,Bool.false_or,Bool.or_eq_true,Bool.and_eq_true,decide_eq_true_eq,decide_eq_true_eq,decide_eq_true_eq] at hs
   rcases hs with w | w
   ·exact w
   ·have:=h.room hm w.1 hn.2 q
    omega
 | false =>
  rw [hs,if_neg (by simp)] at e
  rw [e] at hg ⊢
  obtain ⟨t1,t2,t3,t4,t5⟩:=take_numbers h.g hn40 hs
  have hS : ∀ m ∈ c.number :: r.early,m < 40:=by
   intro m hm
   rcases List.mem_cons.1 hm with rfl | hm
   ·exact hn40.2
   ·exact (h.g.in40 m hm).2
  have t6:=(climb_ok (c.number :: r.early) hS 41 r.next h.g.n.2 (by have:=h.g.n; omega)).2.2.2
  have hS' : ∀ m,(c.number :: r.early).contains m = true → m < (l.length : Int):=by
   intro m hmm
   rcases List.mem_cons.1 (List.contains_iff_mem.1 hmm) with rfl | q
   ·exact hn.2
   ·exact h.e m q
  have hCame : ∀ z ∈ cs,Came (takeR r c) z ↔ (Came r z ∨ z = c):=by
   intro z hz
   have hz40 : z.number < 40:=by
    have:=hm.num z hz
    have:=hm.few
    omega
   have hzc : z = c ↔ z.number = c.number:=⟨fun q => by rw [q],fun q => hm.one z hz c hc q⟩
   show (z.number < climb 41 (c.number :: r.early) r.next ∨ (earlyR (c.number :: r.early) (climb 41 (c.number :: r.early) r.next)).contains z.number = true) ↔ _
   unfold Came
   rw [hzc]
   by_cases q : z.number < climb 41 (c.number :: r.early) r.next
   ·constructor
    ·intro _
     by_cases q2 : z.number < r.next
     ·exact .inl (.inl q2)
     ·have:=t6 z.number (by omega) q
      rw [contains_eq,Bool.or_eq_true,beq_iff_eq] at this
      rcases this with w | w
      ·exact .inl (.inr w)
      ·exact .inr w
    ·intro _; exact .inl q
   ·rw [earlyR_has (by omega) hz40,contains_eq,Bool.or_eq_true,beq_iff_eq]
    constructor
    ·rintro (w | w | w)
     ·omega
     ·exact .inl (.inr w)
     ·exact .inr w
    ·rintro ((w | w) | w)
     ·omega
     ·exact .inr (.inl w)
     ·exact .inr (.inr w)
  have hnc : ¬ Came r c:=by
   unfold seenR at hs
   simp only [Bool.or_eq_false_iff,decide_eq_false_iff_not] at hs
   rintro (w | w)
   ·exact hs.2.1 w
   ·rw [hs.1] at w; cases w
  have hnc':=fun q => hnc ((h.d.e c hc).2 q)
  have hD : DInv l cs (Came (takeR r c)) ⟨r.p0,r.p1,r.p2,r.hold ++ [c],r.told⟩:=by
   refine ⟨h.d.p,fun y hy => ?_,?_,h.d.t,fun z hz => ?_⟩
   ·rcases List.mem_append.1 hy with q | q
    ·exact h.d.a y q
    ·rw [List.mem_singleton.1 q]
     refine ⟨hc,?_⟩
     have : ¬ c.place < plD (drR r) c.stream:=fun w => hnc' (.inl w)
     exact Int.not_lt.1 this
   ·refine List.nodup_append.2 ⟨h.d.b,by simp,fun a ha b hb => ?_⟩
    rw [List.mem_singleton.1 hb]
    intro q
    exact hnc' (.inr (q ▸ ha))
   ·rw [hCame z hz,h.d.e z hz]
    show _ ↔ z.place < plD (drR r) z.stream ∨ z ∈ r.hold ++ [c]
    rw [List.mem_append,List.mem_singleton,or_assoc]
    rfl
  obtain ⟨d1,d2⟩:=hD.drain hm (r.hold.length + 1) (by simp)
  refine ⟨⟨hg,d1,d2,?_,fun m hmm => ?_⟩,?_,fun z hz q => (hCame z hz).2 (.inl q)⟩
  ·show climb 41 (c.number :: r.early) r.next ≤ _
   have:=h.n
   by_cases q : climb 41 (c.number :: r.early) r.next = r.next
   ·omega
   ·have:=hS' _ (t6 (climb 41 (c.number :: r.early) r.next - 1) (by omega) (by omega))
    omega
  ·have hmm : m ∈ earlyR (c.number :: r.early) (climb 41 (c.number :: r.early) r.next):=hmm
   exact hS' m (List.mem_filter.1 hmm).2
  ·exact (hCame c hc).2 (.inr rfl)
def RightP (p : List (List UInt8)) : Prop:=∀ x ∈ p,∃ c,wrongL c = 0 ∧ x = sealL (bodyL c)
theorem turnB_ne (x : UInt8) : turnB x ≠ x:=by
 unfold turnB i8 b8
 have hx:=x.toNat_lt
 intro h
 have h':=congrArg UInt8.toNat h
 split at h'
 ·rw [UInt8.toNat_ofNat'] at h'
  rename_i he
  omega
 ·rw [UInt8.toNat_ofNat'] at h'
  rename_i he
  omega
theorem right_cut {p : List (List UInt8)} (h : RightP p) (n : Nat) : RightP (cutP p n):=fun x hx => by
 unfold cutP at hx
 rcases List.mem_append.1 hx with q | q
 ·exact h x (List.mem_of_mem_take q)
 ·exact h x (List.mem_of_mem_drop q)
theorem right_join {p : List (List UInt8)} (h : RightP p) {b : List UInt8} (hb : ∃ c,wrongL c = 0 ∧ b = sealL (bodyL c)) : RightP (joinP p b):=fun x hx => by
 unfold joinP at hx
 split at hx
 ·exact h x hx
 ·rcases List.mem_append.1 hx with q | q
  ·exact h x q
  ·rw [List.mem_singleton.1 q]; exact hb
def RightL (l : Ln) : Prop:=RightP l.there ∧ RightP l.back
theorem RightL.way {l : Ln} (h : RightL l) (back : Bool) : RightP (wayP l back):=by cases back; exact h.1; exact h.2
theorem RightL.with {l : Ln} (h : RightL l) (back : Bool) {p : List (List UInt8)} (hp : RightP p) : RightL (withP l back p):=by cases back; exact ⟨hp,h.2⟩; exact ⟨h.1,hp⟩
theorem RightL.speak {l : Ln} (hg : GoodL l) (h : RightL l) : RightL (speakL l):=by
 unfold speakL
 refine ⟨?_,?_⟩
 ·simp only
  split
  ·rename_i hs; exact right_join h.1 ⟨_,say_right hg.s hs,rfl⟩
  ·exact h.1
 ·simp only
  split
  ·rename_i hs
   refine right_join h.2 ⟨_,?_,rfl⟩
   unfold sayR at hs ⊢
   split at hs
   ·rename_i ho; rw [if_pos ho]; exact sayR_right hg.r
   ·cases hs
  ·exact h.2
theorem RightL.come {l : Ln} (h : RightL l) (n : Nat) (back : Bool) : RightL (comeL l n back):=by
 have hk:=h.with back (right_cut (h.way back) n)
 unfold comeL
 simp only
 split
 ·split
  ·exact ⟨hk.1,hk.2⟩
  ·exact ⟨hk.1,hk.2⟩
 ·exact hk
theorem RightL.packet {l : Ln} (h : RightL l) (kind n k : Int) (back : Bool) (hk : kind ≠ 6) : RightL (packetL l kind n k back).1:=by
 unfold packetL
 split
 ·exact h
 rename_i hn
 split
 ·exact h.with back (right_cut (h.way back) _)
 split
 ·refine h.with back (right_join (h.way back) ?_)
  have hlt : n.toNat < (wayP l back).length:=by omega
  rw [List.getD_eq_getElem?_getD,List.getElem?_eq_getElem hlt,Option.getD_some]
  exact h.way back _ (List.getElem_mem hlt)
 first | exact h.come _ _ | (rw [if_neg hk]; exact h.come _ _)
theorem RightL.lane {l : Ln} (hg : GoodL l) (h : RightL l) (s : Sp) (hs : s.kind ≠ 6) : RightL (laneW l s).1:=by
 unfold laneW
 split
 ·exact RightL.speak hg h
 split
 ·exact h
 ·exact h.packet _ _ _ _ hs
end Go.Proofs.YtgaofjiidedcbacGreat.mth
