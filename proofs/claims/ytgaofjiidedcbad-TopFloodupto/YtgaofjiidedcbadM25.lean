import Derived.Test.YtgaofjiidedcbadM19
import Derived.Test.YtgaofjiidedcbadProg
import Derived.Test.YtgaofjiidedcbadM24
set_option linter.unusedVariables false
set_option linter.unusedSimpArgs false
namespace Go.Proofs.Ytgaofjiidedcbad.ab
set_option maxRecDepth 100000
open Go Go.RowKit
end Go.Proofs.Ytgaofjiidedcbad.ab
namespace Go.Proofs.Ytgaofjiidedcbad.mth
structure Rv where
 next : Int
 early : List Int
 p0 : Int
 p1 : Int
 p2 : Int
 hold : List Ch
 told : List Ms
 owes : Bool
def rangeI (a b : Int) : List Int:=(List.range (b - a).toNat).map (fun (k : Nat) => a + (k : Int))
theorem rangeI_nil {a b : Int} (h : b ≤ a) : rangeI a b = []:=by
 unfold rangeI
 rw [show (b - a).toNat = 0 by omega]; rfl
theorem rangeI_cons {a b : Int} (h : a < b) : rangeI a b = a :: rangeI (a + 1) b:=by
 unfold rangeI
 rw [show (b - a).toNat = (b - (a + 1)).toNat + 1 by omega,List.range_succ_eq_map]
 simp only [List.map_cons,List.map_map,Int.natCast_zero,Int.add_zero,List.cons.injEq,true_and]
 apply List.map_congr_left
 intro k _
 show a + ((k + 1 : Nat) : Int) = a + 1 + (k : Int)
 omega
theorem rangeI_snoc {a b : Int} (h : a ≤ b) : rangeI a (b + 1) = rangeI a b ++ [b]:=by
 unfold rangeI
 rw [show (b + 1 - a).toNat = (b - a).toNat + 1 by omega,List.range_succ]
 simp only [List.map_append,List.map_cons,List.map_nil]
 rw [show a + (((b - a).toNat : Nat) : Int) = b by omega]
theorem mem_rangeI {a b n : Int} : n ∈ rangeI a b ↔ a ≤ n ∧ n < b:=by
 unfold rangeI
 simp only [List.mem_map,List.mem_range]
 constructor
 ·rintro ⟨k,hk,rfl⟩; omega
 ·rintro ⟨h1,h2⟩
  exact ⟨(n - a).toNat,by omega,by omega⟩
theorem rangeI_len {a b : Int} : (rangeI a b).length = (b - a).toNat:=by simp [rangeI]
theorem rangeI_app {a b c : Int} (h1 : a ≤ b) (h2 : b ≤ c) : rangeI a c = rangeI a b ++ rangeI b c:=by
 obtain ⟨k,hk⟩ : ∃ k : Nat,c = b + k:=⟨(c - b).toNat,by omega⟩
 subst hk
 induction k with
 | zero => rw [rangeI_nil (a:=b) (by simp)]; simp
 | succ k ih =>
  rw [show b + ((k + 1 : Nat) : Int) = (b + (k : Int)) + 1 by omega,rangeI_snoc (by omega),rangeI_snoc (by omega),ih (by omega),List.append_assoc]
theorem count_more (p q : Int → Bool) (x : Int) (hx : p x = false) (hq : ∀ n,q n = (p n || n == x)) : ∀ (k : Nat) (a : Int),a ≤ x → x < a + k → ((rangeI a (a + k)).filter q).length = ((rangeI a (a + k)).filter p).length + 1:=by
 have same : ∀ (l : List Int),x ∉ l → l.filter q = l.filter p:=by
  intro l hl
  apply List.filter_congr
  intro n hn
  rw [hq]
  have : (n == x) = false:=by
   rw [beq_eq_false_iff_ne]; intro e; exact hl (e ▸ hn)
  rw [this,Bool.or_false]
 intro k
 induction k with
 | zero => intro a h1 h2; omega
 | succ k ih =>
  intro a h1 h2
  rw [rangeI_cons (by omega),show a + ((k + 1 : Nat) : Int) = (a + 1) + (k : Int) by omega]
  by_cases hax : a = x
  ·subst hax
   rw [List.filter_cons_of_pos (by rw [hq]; simp),List.filter_cons_of_neg (by rw [hx]; simp),List.length_cons,same]
   intro hm
   have:=(mem_rangeI.1 hm).1
   omega
  ·have hqa : q a = p a:=by
    rw [hq]
    have : (a == x) = false:=by rw [beq_eq_false_iff_ne]; exact hax
    rw [this,Bool.or_false]
   have:=ih (a + 1) (by omega) (by omega)
   by_cases hpa : p a = true
   ·rw [List.filter_cons_of_pos (by rw [hqa]; exact hpa),List.filter_cons_of_pos hpa,List.length_cons,List.length_cons,this]
   ·rw [List.filter_cons_of_neg (by rw [hqa]; exact hpa),List.filter_cons_of_neg hpa,this]
def climb : Nat → List Int → Int → Int
 | 0,_,n => n
 | f + 1,S,n => if S.contains n = true then climb f S (n + 1) else n
theorem climb_ok (S : List Int) (hS : ∀ n ∈ S,n < 40) : ∀ (f : Nat) (n : Int),n ≤ 40 → 40 - n < f → n ≤ climb f S n ∧ climb f S n ≤ 40 ∧ S.contains (climb f S n) = false ∧ ∀ m,n ≤ m → m < climb f S n → S.contains m = true
 | 0,n,h1,h2 => by omega
 | f + 1,n,h1,h2 => by
  unfold climb
  by_cases h : S.contains n = true
  ·rw [if_pos h]
   have hn:=hS n (by simpa using h)
   obtain ⟨q1,q2,q3,q4⟩:=climb_ok S hS f (n + 1) (by omega) (by omega)
   refine ⟨by omega,q2,q3,fun m hm hm' => ?_⟩
   by_cases e : m = n
   ·subst e; exact h
   ·exact q4 m (by omega) hm'
  ·rw [if_neg h]
   exact ⟨Int.le_refl _,h1,by simpa using h,fun m hm hm' => by omega⟩
theorem climb_eq {S : List Int} {n : Int} (h : S.contains n = true) (f : Nat) : climb (f + 1) S n = climb f S (n + 1):=by
 show (if S.contains n = true then _ else _) = _
 rw [if_pos h]
theorem climb_end {S : List Int} {n : Int} (h : S.contains n = false) (f : Nat) : climb f S n = n:=by
 cases f with
 | zero => rfl
 | succ f =>
  show (if S.contains n = true then _ else _) = _
  rw [if_neg (by rw [h]; simp)]
def plc (p0 p1 p2 k : Int) : Int:=if k = 0 then p0 else if k = 1 then p1 else p2
structure Dr where
 p0 : Int
 p1 : Int
 p2 : Int
 hold : List Ch
 told : List Ms
def readyD (d : Dr) (x : Ch) : Bool:=x.place == plc d.p0 d.p1 d.p2 x.stream
def stepD (d : Dr) (i : Nat) (x : Ch) : Dr :=
 ⟨if x.stream = 0 then d.p0 + 1 else d.p0,if x.stream = 1 then d.p1 + 1 else d.p1,if x.stream = 2 then d.p2 + 1 else d.p2,d.hold.take i ++ d.hold.drop (i + 1),d.told ++ [⟨x.stream,x.data⟩]⟩
def drain : Nat → Dr → Dr
 | 0,d => d
 | f + 1,d => match d.hold[d.hold.findIdx (readyD d)]? with
  | some x => drain f (stepD d (d.hold.findIdx (readyD d)) x)
  | none => d
def earlyR (S : List Int) (n : Int) : List Int:=(rangeI n 40).filter (fun m => S.contains m)
def seenR (r : Rv) (n : Int) : Bool:=r.early.contains n || (decide (n < r.next) || (decide (r.next < n) && decide (2 < r.early.length)))
def takeR (r : Rv) (c : Ch) : Rv :=
 let S:=c.number :: r.early
 let nx:=climb 41 S r.next
 let d:=drain (r.hold.length + 1) ⟨r.p0,r.p1,r.p2,r.hold ++ [c],r.told⟩
 ⟨nx,earlyR S nx,d.p0,d.p1,d.p2,d.hold,d.told,true⟩
def hearR (r : Rv) (c : Ch) : Rv:=if c.kind = 1 then (if seenR r c.number = true then { r with owes:=true } else takeR r c) else r
def sayR (r : Rv) : Rv × Ch × Bool:=if r.owes = true then ({ r with owes:=false },⟨2,r.next,0,0,[],r.early⟩,true) else (r,zeroC,false)
def zeroR : Rv:=⟨0,[],0,0,0,[],[],false⟩
structure GoodR (r : Rv) : Prop where
 n : 0 ≤ r.next ∧ r.next ≤ 40
 e : r.early = earlyR r.early r.next
 x : r.early.contains r.next = false
 l : r.early.length ≤ 3
 t : (r.told.length : Int) + r.hold.length = r.next + r.early.length
 p : 0 ≤ r.p0 ∧ 0 ≤ r.p1 ∧ 0 ≤ r.p2 ∧ r.p0 + r.p1 + r.p2 = r.told.length
 h : ∀ c ∈ r.hold,c.kind = 1 ∧ wrongL c = 0
 m : ∀ m ∈ r.told,wrongMsgL m.stream m.data = 0
theorem good_zeroR : GoodR zeroR:=⟨by simp [zeroR],by simp [zeroR,earlyR],by simp [zeroR],by simp [zeroR],by simp [zeroR],by simp [zeroR],by simp [zeroR],by simp [zeroR]⟩
theorem GoodR.in40 {r : Rv} (h : GoodR r) : ∀ n ∈ r.early,r.next < n ∧ n < 40:=by
 intro n hn
 have hn':=hn
 rw [h.e] at hn'
 unfold earlyR at hn'
 obtain ⟨h1,h2⟩:=List.mem_filter.1 hn'
 have:=mem_rangeI.1 h1
 have hne : n ≠ r.next:=fun e => by
  have:=h.x
  rw [← e,List.contains_eq_mem] at this
  simp [hn] at this
 omega
theorem wrong_one {c : Ch} (hk : c.kind = 1) (h : wrongL c = 0) : (0 ≤ c.number ∧ c.number < 40) ∧ (0 ≤ c.place ∧ c.place ≤ c.number) ∧ c.early = [] ∧ wrongMsgL c.stream c.data = 0:=by
 unfold wrongL at h
 rw [if_neg (by omega)] at h
 split at h
 ·cases h
 ·split at h
  ·cases h
  ·split at h
   ·cases h
   ·rename_i h1 h2 h3
    exact ⟨by omega,by omega,List.eq_nil_of_length_eq_zero (by omega),h⟩
theorem count_all {S : List Int} {n : Int} (h0 : 0 ≤ n) (h1 : n ≤ 40) : (((rangeI 0 40).filter (fun m => decide (m < n) || S.contains m)).length : Int) = n + (earlyR S n).length:=by
 rw [rangeI_app h0 h1,List.filter_append,List.length_append]
 have e1 : (rangeI 0 n).filter (fun m => decide (m < n) || S.contains m) = rangeI 0 n:=List.filter_eq_self.2 (fun m hm => by
  have:=(mem_rangeI.1 hm).2
  simp [this])
 have e2 : (rangeI n 40).filter (fun m => decide (m < n) || S.contains m) = earlyR S n:=by
  unfold earlyR
  apply List.filter_congr
  intro m hm
  have:=(mem_rangeI.1 hm).1
  rw [decide_eq_false (by omega),Bool.false_or]
 rw [e1,e2,rangeI_len]
 omega
structure DrOk (d : Dr) (K : Nat) : Prop where
 p : 0 ≤ d.p0 ∧ 0 ≤ d.p1 ∧ 0 ≤ d.p2 ∧ d.p0 + d.p1 + d.p2 = d.told.length
 h : ∀ c ∈ d.hold,c.kind = 1 ∧ wrongL c = 0
 m : ∀ m ∈ d.told,wrongMsgL m.stream m.data = 0
 l : d.told.length + d.hold.length = K
theorem stream3 {s : Int} {b : List UInt8} (h : wrongMsgL s b = 0) : s = 0 ∨ s = 1 ∨ s = 2:=by
 unfold wrongMsgL at h
 split at h
 ·cases h
 ·omega
theorem DrOk.step {d : Dr} {K i : Nat} {x : Ch} (h : DrOk d K) (hx : d.hold[i]? = some x) : DrOk (stepD d i x) K:=by
 have hi : i < d.hold.length:=(List.getElem?_eq_some_iff.1 hx).1
 have hr:=h.h x (List.mem_of_getElem? hx)
 have hw:=(wrong_one hr.1 hr.2).2.2.2
 have hs:=stream3 hw
 have hp:=h.p
 have hl:=h.l
 refine ⟨?_,fun c hc => ?_,fun m hm => ?_,?_⟩
 ·simp only [stepD,List.length_append,List.length_cons,List.length_nil]
  rcases hs with e | e | e
  ·rw [if_pos e,if_neg (by omega),if_neg (by omega)]; omega
  ·rw [if_neg (by omega),if_pos e,if_neg (by omega)]; omega
  ·rw [if_neg (by omega),if_neg (by omega),if_pos e]; omega
 ·rcases List.mem_append.1 hc with q | q
  ·exact h.h c (List.mem_of_mem_take q)
  ·exact h.h c (List.mem_of_mem_drop q)
 ·rcases List.mem_append.1 hm with q | q
  ·exact h.m m q
  ·rw [List.mem_singleton.1 q]; exact hw
 ·simp only [stepD,List.length_append,List.length_cons,List.length_nil,List.length_take,List.length_drop]
  omega
theorem DrOk.drain : ∀ (f : Nat) {d : Dr} {K : Nat},DrOk d K → DrOk (drain f d) K
 | 0,d,K,h => h
 | f + 1,d,K,h => by
  unfold mth.drain
  split
  ·rename_i x hx; exact DrOk.drain f (h.step hx)
  ·exact h
theorem contains_eq (S : List Int) (n m : Int) : (n :: S).contains m = (S.contains m || m == n):=by
 rw [List.contains_cons,Bool.or_comm]
theorem earlyR_has {S : List Int} {nx m : Int} (h1 : nx ≤ m) (h2 : m < 40) : (earlyR S nx).contains m = S.contains m:=by
 unfold earlyR
 cases hS : S.contains m with
 | true =>
  rw [List.contains_iff_mem,List.mem_filter]
  exact ⟨mem_rangeI.2 ⟨h1,h2⟩,hS⟩
 | false =>
  cases hc : ((rangeI nx 40).filter fun m => S.contains m).contains m with
  | false => rfl
  | true =>
   have:=(List.mem_filter.1 (List.contains_iff_mem.1 hc)).2
   rw [hS] at this; cases this
theorem take_numbers {r : Rv} (h : GoodR r) {n : Int} (hn : 0 ≤ n ∧ n < 40) (hs : seenR r n = false) :
  r.next ≤ climb 41 (n :: r.early) r.next ∧ climb 41 (n :: r.early) r.next ≤ 40 ∧ (n :: r.early).contains (climb 41 (n :: r.early) r.next) = false ∧
  (earlyR (n :: r.early) (climb 41 (n :: r.early) r.next)).length ≤ 3 ∧ climb 41 (n :: r.early) r.next + (earlyR (n :: r.early) (climb 41 (n :: r.early) r.next)).length = r.next + r.early.length + 1:=by
 have hS : ∀ m ∈ n :: r.early,m < 40:=by
  intro m hm
  rcases List.mem_cons.1 hm with rfl | hm
  ·exact hn.2
  ·exact (h.in40 m hm).2
 have h0:=h.n
 obtain ⟨c1,c2,c3,c4⟩:=climb_ok (n :: r.early) hS 41 r.next h0.2 (by omega)
 unfold seenR at hs
 simp only [Bool.or_eq_false_iff,Bool.and_eq_false_iff,decide_eq_false_iff_not] at hs
 obtain ⟨s1,s2,s3⟩:=hs
 generalize hnx : climb 41 (n :: r.early) r.next = nx at *
 have hcnt : nx + (earlyR (n :: r.early) nx).length = r.next + r.early.length + 1:=by
  have k1:=count_all (S:=r.early) h0.1 h0.2
  have k2:=count_all (S:=n :: r.early) (n:=nx) (by omega) c2
  rw [← h.e] at k1
  have k3:=count_more (fun m => decide (m < r.next) || r.early.contains m) (fun m => (decide (m < r.next) || r.early.contains m) || m == n) n (by simp only [s1,Bool.or_false,decide_eq_false_iff_not]; exact s2) (fun m => rfl) 40 0 hn.1 (by omega)
  have k4 : (rangeI 0 40).filter (fun m => decide (m < nx) || (n :: r.early).contains m) = (rangeI 0 40).filter (fun m => (decide (m < r.next) || r.early.contains m) || m == n):=by
   apply List.filter_congr
   intro m hm
   rw [contains_eq]
   by_cases q : m < r.next
   ·rw [decide_eq_true q,decide_eq_true (show m < nx by omega)]; simp
   ·rw [decide_eq_false q,Bool.false_or]
    by_cases q2 : m < nx
    ·have:=c4 m (by omega) q2
     rw [contains_eq] at this
     rw [this,Bool.or_true]
    ·rw [decide_eq_false q2,Bool.false_or]
  rw [k4] at k2
  have e40 : (0 : Int) + ((40 : Nat) : Int) = 40:=rfl
  rw [e40] at k3
  omega
 refine ⟨c1,c2,c3,?_,hcnt⟩
 have hl:=h.l
 by_cases q : n = r.next
 ·have : nx ≠ r.next:=fun e => by
   rw [e,q,contains_eq] at c3
   simp at c3
  omega
 ·have : r.early.length ≤ 2:=by
   rcases s3 with s3 | s3
   ·omega
   ·omega
  omega
theorem GoodR.hear {r : Rv} (h : GoodR r) {c : Ch} (hc : wrongL c = 0) : GoodR (hearR r c):=by
 unfold hearR
 by_cases hk : c.kind = 1
 ·rw [if_pos hk]
  have hw:=wrong_one hk hc
  cases hs : seenR r c.number with
  | true =>
   rw [if_pos rfl]
   exact ⟨h.n,h.e,h.x,h.l,h.t,h.p,h.h,h.m⟩
  | false =>
   rw [if_neg (by simp)]
   obtain ⟨t1,t2,t3,t4,t5⟩:=take_numbers h hw.1 hs
   have hd : DrOk ⟨r.p0,r.p1,r.p2,r.hold ++ [c],r.told⟩ (r.told.length + (r.hold.length + 1)):=by
    refine ⟨h.p,fun x hx => ?_,h.m,by simp⟩
    rcases List.mem_append.1 hx with q | q
    ·exact h.h x q
    ·rw [List.mem_singleton.1 q]; exact ⟨hk,hc⟩
   have hd':=DrOk.drain (r.hold.length + 1) hd
   have h0:=h.n
   have ht:=h.t
   unfold takeR
   simp only
   generalize climb 41 (c.number :: r.early) r.next = nx at *
   generalize mth.drain (r.hold.length + 1) ⟨r.p0,r.p1,r.p2,r.hold ++ [c],r.told⟩ = d at *
   refine ⟨by simp only; omega,?_,?_,t4,?_,hd'.p,hd'.h,hd'.m⟩
   ·show earlyR (c.number :: r.early) nx = earlyR (earlyR (c.number :: r.early) nx) nx
    show (rangeI nx 40).filter _ = (rangeI nx 40).filter _
    apply List.filter_congr
    intro m hm
    have:=mem_rangeI.1 hm
    exact (earlyR_has this.1 this.2).symm
   ·show (earlyR (c.number :: r.early) nx).contains nx = false
    by_cases q : nx < 40
    ·rw [earlyR_has (Int.le_refl _) q]; exact t3
    ·have : nx = 40:=by omega
     subst this
     unfold earlyR
     rw [rangeI_nil (Int.le_refl _)]; rfl
   ·have:=hd'.l
    show (d.told.length : Int) + d.hold.length = nx + (earlyR (c.number :: r.early) nx).length
    omega
 ·rw [if_neg hk]; exact h
theorem GoodR.say {r : Rv} (h : GoodR r) : GoodR (sayR r).1:=by
 unfold sayR
 split
 ·exact ⟨h.n,h.e,h.x,h.l,h.t,h.p,h.h,h.m⟩
 ·exact h
end Go.Proofs.Ytgaofjiidedcbad.mth
namespace Go.Proofs.Ytgaofjiidedcbad.ab
open Go Go.RowKit
open mth
def encRv (r : Rv) : List D:=[vI r.next,sD 1 (r.early.map vI),vI r.p0,vI r.p1,vI r.p2,sD 6 (encCl r.hold),sD 2 (encMl r.told),vB r.owes]
end Go.Proofs.Ytgaofjiidedcbad.ab
