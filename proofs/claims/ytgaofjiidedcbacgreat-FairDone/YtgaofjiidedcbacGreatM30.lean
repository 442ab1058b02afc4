import Derived.Test.YtgaofjiidedcbacGreatM28
import Derived.Test.YtgaofjiidedcbacGreatM27
import Derived.Test.YtgaofjiidedcbacGreatM20
import Derived.Test.YtgaofjiidedcbacGreatM21
import Derived.Test.YtgaofjiidedcbacGreatAChunk4
import Derived.Test.YtgaofjiidedcbacGreatM25
import Derived.Test.YtgaofjiidedcbacGreatM29
import Derived.Test.YtgaofjiidedcbacGreatProg
set_option maxHeartbeats 8000000
set_option linter.unusedVariables false
set_option linter.unusedSimpArgs false
namespace Go.Proofs.YtgaofjiidedcbacGreat.mth
structure Ln where
 s : Sd
 r : Rv
 there : List (List UInt8)
 back : List (List UInt8)
def joinP (p : List (List UInt8)) (b : List UInt8) : List (List UInt8):=if 5 < p.length then p else p ++ [b]
def cutP (p : List (List UInt8)) (n : Nat) : List (List UInt8):=p.take n ++ p.drop (n + 1)
def wayP (l : Ln) (back : Bool) : List (List UInt8):=if back = true then l.back else l.there
def withP (l : Ln) (back : Bool) (p : List (List UInt8)) : Ln:=if back = true then { l with back:=p } else { l with there:=p }
theorem zmm (f : Int → Bool) : ∀ (k : Nat) (a low : Int),low < a → a + k ≤ 40 → risesL low ((rangeI a (a + k)).filter f) = true:=by
 intro k
 induction k with
 | zero => intro a low h1 h2; rw [zad (by simp)]; rfl
 | succ k ih =>
  intro a low h1 h2
  rw [zld (by omega),show a + ((k + 1 : Nat) : Int) = (a + 1) + (k : Int) by omega]
  cases hf : f a with
  | true =>
   rw [List.filter_cons_of_pos hf]
   simp only [risesL,Bool.and_eq_true,decide_eq_true_eq]
   exact ⟨h1,by omega,ih (a + 1) a (by omega) (by omega)⟩
  | false =>
   rw [List.filter_cons_of_neg (by rw [hf]; simp)]
   exact ih (a + 1) low (by omega) (by omega)
theorem zrd {s : Sd} (h : GoodS s) (hs : (sayL s).2.2 = true) : wrongL (sayL s).2.1 = 0:=by
 have hag : ∀ (hf : 0 < s.flight.length),wrongL (s.flight.getD (againK s).toNat zeroC) = 0:=fun hf => by
  have hk:=zwb h hf
  have hlt : (againK s).toNat < s.flight.length:=by omega
  rw [List.getD_eq_getElem?_getD,List.getElem?_eq_getElem hlt,Option.getD_some]
  exact (h.c _ (List.getElem_mem hlt)).2.1
 unfold sayL at hs ⊢
 split at hs
 ·rename_i hq
  split at hs
  ·cases hs
  ·rename_i hf
   simp only [hf,if_false]
   exact hag (by omega)
 ·rename_i m r hq
  by_cases hf : 3 < s.flight.length
  ·simp only [hf,if_true]
   exact hag (by omega)
  ·simp only [hf,if_false]
   have hn:=h.n
   rw [hq] at hn
   exact zle h (h.m m (by rw [hq]; simp)) (by simp at hn; omega)
theorem zlc {r : Rv} (h : GoodR r) : wrongL ⟨2,r.next,0,0,[],r.early⟩ = 0:=by
 have hn:=h.n
 have hl:=h.l
 have hr : risesL r.next r.early = true:=by
  rw [h.e]
  unfold earlyR
  by_cases h40 : r.next = 40
  ·rw [h40,zad (by omega)]; rfl
  ·rw [zld (by omega),List.filter_cons_of_neg (by rw [h.x]; simp)]
   have:=zmm (fun m => r.early.contains m) (40 - (r.next + 1)).toNat (r.next + 1) r.next (by omega) (by omega)
   rw [show r.next + 1 + (((40 - (r.next + 1)).toNat : Nat) : Int) = 40 by omega] at this
   exact this
 rw [zak,if_neg (by omega),if_neg (by omega),if_neg (by simp; omega),if_pos hr]
def speakL (l : Ln) : Ln :=
 ⟨(sayL l.s).1,(sayR l.r).1,if (sayL l.s).2.2 = true then joinP l.there (sealL (bodyL (sayL l.s).2.1)) else l.there,if (sayR l.r).2.2 = true then joinP l.back (sealL (bodyL (sayR l.r).2.1)) else l.back⟩
structure GoodL (l : Ln) : Prop where
 s : GoodS l.s
 r : GoodR l.r
 t : l.there.length ≤ 6
 b : l.back.length ≤ 6
 tn : ∀ x ∈ l.there,x.length ≤ 1000
 bn : ∀ x ∈ l.back,x.length ≤ 1000
def comeL (l : Ln) (n : Nat) (back : Bool) : Ln :=
 let xs:=(wayP l back).getD n []
 let k:=withP l back (cutP (wayP l back) n)
 if readE xs = 0 then (if back = true then { k with s:=hearS k.s (readC xs) } else { k with r:=hearR k.r (readC xs) }) else k
theorem z8e {xs : List UInt8} (h : readE xs = 0) : wrongL (readC xs) = 0:=by
 unfold readC
 rw [if_pos h]
 unfold readE at h
 split at h
 ·cases h
 ·split at h
  ·cases h
  ·exact h
theorem GoodL.way {l : Ln} (h : GoodL l) (back : Bool) : (wayP l back).length ≤ 6 ∧ ∀ x ∈ wayP l back,x.length ≤ 1000:=by
 cases back
 ·exact ⟨h.t,h.tn⟩
 ·exact ⟨h.b,h.bn⟩
theorem GoodL.with {l : Ln} (h : GoodL l) (back : Bool) {p : List (List UInt8)} (hp : p.length ≤ 6) (hx : ∀ x ∈ p,x.length ≤ 1000) : GoodL (withP l back p):=by
 cases back
 ·exact ⟨h.s,h.r,hp,h.b,hx,h.bn⟩
 ·exact ⟨h.s,h.r,h.t,hp,h.tn,hx⟩
theorem zdt {p : List (List UInt8)} (n : Nat) (hp : p.length ≤ 6) (hx : ∀ x ∈ p,x.length ≤ 1000) : (cutP p n).length ≤ 6 ∧ ∀ x ∈ cutP p n,x.length ≤ 1000:=by
 unfold cutP
 refine ⟨by rw [List.length_append,List.length_take,List.length_drop]; omega,fun x hm => ?_⟩
 rcases List.mem_append.1 hm with q | q
 ·exact hx x (List.mem_of_mem_take q)
 ·exact hx x (List.mem_of_mem_drop q)
theorem zzg {p : List (List UInt8)} {b : List UInt8} (hp : p.length ≤ 6) (hx : ∀ x ∈ p,x.length ≤ 1000) (hb : b.length ≤ 1000) : (joinP p b).length ≤ 6 ∧ ∀ x ∈ joinP p b,x.length ≤ 1000:=by
 unfold joinP
 split
 ·exact ⟨hp,hx⟩
 ·refine ⟨by simp; omega,fun x hm => ?_⟩
  rcases List.mem_append.1 hm with q | q
  ·exact hx x q
  ·rw [List.mem_singleton.1 q]; exact hb
def turnB (x : UInt8) : UInt8:=b8 (if i8 x % 2 = 0 then i8 x + 1 else i8 x - 1)
def spoilP (p : List (List UInt8)) (n k : Nat) : List (List UInt8):=p.set n ((p.getD n []).set k (turnB ((p.getD n []).getD k 0)))
def zu (l : Ln) (kind n k : Int) (back : Bool) : Ln × Int :=
 if n < 0 ∨ ((wayP l back).length : Int) ≤ n then (l,6) else
 if kind = 4 then (withP l back (cutP (wayP l back) n.toNat),0) else
 if kind = 5 then (withP l back (joinP (wayP l back) ((wayP l back).getD n.toNat [])),0) else
 if kind = 6 then (if k < 0 ∨ ((((wayP l back).getD n.toNat []).length : Nat) : Int) ≤ k then (l,3) else (withP l back (spoilP (wayP l back) n.toNat k.toNat),0)) else
 (comeL l n.toNat back,0)
theorem zbw {p : List (List UInt8)} (n k : Nat) (hp : p.length ≤ 6) (hx : ∀ x ∈ p,x.length ≤ 1000) : (spoilP p n k).length ≤ 6 ∧ ∀ x ∈ spoilP p n k,x.length ≤ 1000:=by
 unfold spoilP
 refine ⟨by rw [List.length_set]; exact hp,fun x hm => ?_⟩
 rcases List.mem_or_eq_of_mem_set hm with q | q
 ·exact hx x q
 ·rw [q,List.length_set,List.getD_eq_getElem?_getD]
  cases hn : p[n]? with
  | none => simp
  | some y => exact hx y (List.mem_of_getElem? hn)
theorem GoodL.come {l : Ln} (h : GoodL l) (n : Nat) (back : Bool) : GoodL (comeL l n back):=by
 obtain ⟨w1,w2⟩:=h.way back
 obtain ⟨k1,k2⟩:=zdt n w1 w2
 have hk:=h.with back k1 k2
 unfold comeL
 simp only
 split
 ·rename_i he
  have hc:=z8e he
  split
  ·exact ⟨hk.s.hear _,hk.r,hk.t,hk.b,hk.tn,hk.bn⟩
  ·exact ⟨hk.s,hk.r.hear hc,hk.t,hk.b,hk.tn,hk.bn⟩
 ·exact hk
theorem GoodL.packet {l : Ln} (h : GoodL l) (kind n k : Int) (back : Bool) : GoodL (zu l kind n k back).1:=by
 obtain ⟨w1,w2⟩:=h.way back
 unfold zu
 split
 ·exact h
 rename_i hn
 have hx : ((wayP l back).getD n.toNat []).length ≤ 1000:=by
  rw [List.getD_eq_getElem?_getD]
  cases hq : (wayP l back)[n.toNat]? with
  | none => simp
  | some y => exact w2 y (List.mem_of_getElem? hq)
 split
 ·obtain ⟨k1,k2⟩:=zdt n.toNat w1 w2
  exact h.with back k1 k2
 split
 ·obtain ⟨k1,k2⟩:=zzg w1 w2 hx
  exact h.with back k1 k2
 split
 ·split
  ·exact h
  ·obtain ⟨k1,k2⟩:=zbw n.toNat k.toNat w1 w2
   exact h.with back k1 k2
 ·exact h.come _ _
theorem GoodL.speak {l : Ln} (h : GoodL l) : GoodL (speakL l):=by
 have h1 : ∀ c : Ch,wrongL c = 0 → (sealL (bodyL c)).length ≤ 1000:=fun c hc => by
  have:=(zhl c hc).2
  rw [zwc]; omega
 refine ⟨h.s.say,h.r.say,?_,?_,?_,?_⟩
 all_goals unfold speakL; simp only
 ·split
  ·rename_i hs; exact (zzg h.t h.tn (h1 _ (zrd h.s hs))).1
  ·exact h.t
 ·split
  ·rename_i hs; exact (zzg h.b h.bn (h1 _ (by
    unfold sayR at hs ⊢
    split at hs
    ·rename_i ho; rw [if_pos ho]; exact zlc h.r
    ·cases hs))).1
  ·exact h.b
 ·split
  ·rename_i hs; exact (zzg h.t h.tn (h1 _ (zrd h.s hs))).2
  ·exact h.tn
 ·split
  ·rename_i hs; exact (zzg h.b h.bn (h1 _ (by
    unfold sayR at hs ⊢
    split at hs
    ·rename_i ho; rw [if_pos ho]; exact zlc h.r
    ·cases hs))).2
  ·exact h.bn
end Go.Proofs.YtgaofjiidedcbacGreat.mth
namespace Go.Proofs.YtgaofjiidedcbacGreat.ab
open Go Go.RowKit
open mth
def encPk (p : List (List UInt8)) : List D:=p.map fun b => sD 1 (b.map encB)
def encLn (l : Ln) : List D :=
 [sD 2 (encMl l.s.queue),vI l.s.next,vI l.s.p0,vI l.s.p1,vI l.s.p2,sD 6 (encCl l.s.flight),vI l.s.turn,vI l.r.next,sD 1 (l.r.early.map vI),vI l.r.p0,vI l.r.p1,vI l.r.p2,sD 6 (encCl l.r.hold),sD 2 (encMl l.r.told),vB l.r.owes,sD 1 (encPk l.there),sD 1 (encPk l.back)]
theorem len_pk (p : List (List UInt8)) : (encPk p).length = p.length:=by simp [encPk]
theorem at_pk {p : List (List UInt8)} {i : Nat} {b : List UInt8} (h : p[i]? = some b) : (encPk p)[i]? = some (sD 1 (b.map encB)):=by simp [encPk,h]
theorem zi4 (p : List (List UInt8)) (n : Nat) : (encPk p).take n = encPk (p.take n):=by simp [encPk,List.map_take]
theorem zd4 (p : List (List UInt8)) (n : Nat) : (encPk p).drop n = encPk (p.drop n):=by simp [encPk,List.map_drop]
theorem app_pk (p q : List (List UInt8)) : encPk p ++ encPk q = encPk (p ++ q):=by simp [encPk]
theorem ziy {a b : List (List UInt8)} {k : Nat} {x y : List UInt8} (hx : a[k]? = some x) (hy : b[k]? = some y) : (a.drop k == b.drop k) = ((x == y) && (a.drop (k + 1) == b.drop (k + 1))):=by
 obtain ⟨h1,rfl⟩:=List.getElem?_eq_some_iff.1 hx
 obtain ⟨h2,rfl⟩:=List.getElem?_eq_some_iff.1 hy
 rw [List.drop_eq_getElem_cons h1,List.drop_eq_getElem_cons h2,List.cons_beq_cons]
def sbSt (a b : List (List UInt8)) (k : Nat) : St:=⟨[(0,sD 1 (encPk a)),(1,sD 1 (encPk b)),(12,vI a.length),(13,vI k)],[],[]⟩
theorem zbe (a b : List (List UInt8)) (hl : a.length ≤ 9223372036854775807) : Told Tryz.prog 29 [sD 1 (encPk a),sD 1 (encPk b)] [vB (a == b)]:=by
 refine zsf rfl ?_
 by_cases hlen : a.length = b.length
 ·have l1 : ((a.length : Int) != (b.length : Int)) = false:=by simp; omega
  refine wk (an2 @len_pk @l1) ?_
  refine zw (fun n st => ∃ k,k ≤ a.length ∧ n = a.length - k ∧ (a == b) = (a.drop k == b.drop k) ∧ st = sbSt a b k) a.length (sbSt a b 0) (Le.refl _) ⟨0,by omega,by omega,rfl,rfl⟩ ?_
  rintro n st ⟨k,hk,hn,hs,rfl⟩
  by_cases hlt : k < a.length
  ·obtain ⟨x,hx⟩ : ∃ m,a[k]? = some m:=⟨a[k],List.getElem?_eq_getElem hlt⟩
   obtain ⟨y,hy⟩ : ∃ m,b[k]? = some m:=⟨b[k]'(by omega),List.getElem?_eq_getElem (by omega)⟩
   have g1 : (k : Int) < (a.length : Int):=by omega
   have g2 : (0 : Int) ≤ (k : Int):=by omega
   have g3:=at_pk hx
   have g3':=at_pk hy
   have g4 : inR .i64 ((k : Int) + 1) = true:=inR_of (by omega)
   have hst:=ziy hx hy
   rw [← hs] at hst
   simp only [sbSt]
   cases hxy : (x == y) with
   | true =>
    have e1 : (x != y) = false:=by rw [bne,hxy]; rfl
    rw [hxy,Bool.true_and] at hst
    refine wk (an10 @g1 @g2 @g3 @g3' @g4 @hxy @zx @zyd Bool.not_true Bool.not_false) ?_
    exact ⟨a.length - (k + 1),_,by omega,Le.refl _,k + 1,by omega,rfl,hst,by simp only [sbSt,Int.natCast_add,Int.cast_ofNat_Int]⟩
   | false =>
    have e1 : (x != y) = true:=by rw [bne,hxy]; rfl
    rw [hxy,Bool.false_and] at hst
    rw [hst]
    refine wk (an10 @g1 @g2 @g3 @g3' @g4 @hxy @zx @zyd Bool.not_true Bool.not_false) ?_
    exact ValsLe.refl _
  ·have hk' : k = a.length:=by omega
   subst hk'
   have hs' : (a == b) = true:=by rw [hs,hlen,List.drop_length,← hlen,List.drop_length]; rfl
   have g1 : ¬ (a.length : Int) < (a.length : Int):=by omega
   rw [hs']
   simp only [sbSt]
   refine wk @g1 ?_
   exact ValsLe.refl _
 ·have l1 : ((a.length : Int) != (b.length : Int)) = true:=by simp; omega
  have : (a == b) = false:=by
   rw [Bool.eq_false_iff]
   intro h
   exact hlen (congrArg List.length (by simpa using h))
  rw [this]
  refine wk (an2 @len_pk @l1) ?_
  exact ValsLe.refl _
theorem z0f (p : List (List UInt8)) (b : List UInt8) : Told Tryz.prog 49 [sD 1 (encPk p),sD 1 (b.map encB)] [sD 1 (encPk (joinP p b))]:=by
 refine z1o rfl ?_
 unfold joinP
 by_cases h : 5 < p.length
 ·have g1 : 5 < (p.length : Int):=by omega
  rw [if_pos h]
  refine wk (an2 @g1 @len_pk) ?_
  exact ValsLe.refl _
 ·have g1 : ¬ 5 < (p.length : Int):=by omega
  rw [if_neg h]
  have b1 : (encPk p).length * 24 ≤ 140737488355328:=by rw [len_pk]; omega
  have b2 : ((encPk p).length + 1) * 24 ≤ 140737488355328:=by rw [len_pk]; omega
  have b3 : p.length * 24 ≤ 140737488355328:=by omega
  have b4 : (p.length + 1) * 24 ≤ 140737488355328:=by omega
  rw [← app_pk]
  refine wk (an6 @g1 @len_pk @b1 @b2 @b3 @b4) ?_
  exact ValsLe.refl _
theorem z4g (p : List (List UInt8)) (n : Nat) (hn : n < p.length) (hp : p.length ≤ 1048576) : Told Tryz.prog 55 [sD 1 (encPk p),vI n] [sD 1 (encPk (cutP p n))]:=by
 refine zqh rfl ?_
 have g1 : (0 : Int) ≤ (n : Int):=by omega
 have g2 : (n : Int) ≤ (p.length : Int):=by omega
 have g3 : inR .i64 ((n : Int) + 1) = true:=inR_of (by omega)
 have g4 : (0 : Int) ≤ (n : Int) + 1:=by omega
 have g5 : (n : Int) + 1 ≤ (p.length : Int):=by omega
 have g6 : ((n : Int) + 1).toNat = n + 1:=by omega
 have b1 : (p.take n).length * 24 ≤ 140737488355328:=by rw [List.length_take]; omega
 have b2 : ((p.take n).length + (p.drop (n + 1)).length) * 24 ≤ 140737488355328:=by rw [List.length_take,List.length_drop]; omega
 unfold cutP
 rw [← app_pk]
 refine wk (an14 @g1 @g2 @g3 @g4 @g5 @g6 @len_pk @zi4 @zd4 @b1 @b2 @ztl @Int.toNat_natCast @Int.le_refl) ?_
 exact ValsLe.refl _
theorem ztd (l : Ln) (back : Bool) : Told Tryz.prog 53 [aD (encLn l),vB back] [sD 1 (encPk (wayP l back))]:=by
 refine zdo rfl ?_
 simp only [encLn]
 cases back with
 | true =>
  refine wk0 ?_
  exact ValsLe.refl _
 | false =>
  refine wk0 ?_
  exact ValsLe.refl _
theorem z0e (l : Ln) (back : Bool) (p : List (List UInt8)) : Told Tryz.prog 54 [aD (encLn l),vB back,sD 1 (encPk p)] [aD (encLn (withP l back p))]:=by
 refine zhm rfl ?_
 simp only [encLn]
 cases back with
 | true =>
  refine wk0 ?_
  exact ValsLe.refl _
 | false =>
  refine wk0 ?_
  exact ValsLe.refl _
theorem zbl {r : Rv} (h : GoodR r) (hs : (sayR r).2.2 = true) : wrongL (sayR r).2.1 = 0:=by
 unfold sayR at hs ⊢
 split at hs
 ·rename_i ho; rw [if_pos ho]; exact zlc h
 ·cases hs
theorem zlk (l : Ln) (hs : GoodS l.s) (hr : GoodR l.r) : Told Tryz.prog 32 [aD (encLn l)] [aD (encLn (speakL l))]:=by
 refine zqk rfl ?_
 have h1:=zep hs
 have h2:=zrl l.r
 have c1:=zrd hs
 have c2:=zbl hr
 obtain ⟨s,r,there,back⟩:=l
 simp only [speakL] at *
 generalize sayL s = A at *
 generalize sayR r = B at *
 obtain ⟨s',c,ok⟩:=A
 obtain ⟨r',d,is⟩:=B
 simp only at *
 cases ok with
 | true =>
  have b1:=z7c c (c1 rfl)
  generalize sealL (bodyL c) = pk at *
  have p1:=z0f there pk
  cases is with
  | true =>
   have b2:=z7c d (c2 rfl)
   generalize sealL (bodyL d) = qk at *
   have p2:=z0f back qk
   simp only [encLn,encSd,encRv,encCh,if_true] at h1 h2 b1 b2 ⊢
   refine wk0 ?_
   refine cg [[aD (encSd s'),aD (encCh c),vB true]] (an2 @encSd.eq_1 @encCh.eq_1) ?_ ?_
   ·exact zb h1 zd
   refine wk0 ?_
   refine cd0 [[sD 1 (pk.map encB)],[sD 1 (encPk (joinP there pk))]] ?_ ?_
   ·exact zb b1 (zb p1 zd)
   refine wk0 ?_
   refine cg [[aD (encRv r'),aD (encCh d),vB true]] (an2 @encRv.eq_1 @encCh.eq_1) ?_ ?_
   ·exact zb h2 zd
   refine wk0 ?_
   refine cd0 [[sD 1 (qk.map encB)],[sD 1 (encPk (joinP back qk))]] ?_ ?_
   ·exact zb b2 (zb p2 zd)
   refine wk0 ?_
   exact ValsLe.refl _
  | false =>
   simp only [encLn,encSd,encRv,encCh,if_true,Bool.false_eq_true,if_false] at h1 h2 b1 ⊢
   refine wk0 ?_
   refine cg [[aD (encSd s'),aD (encCh c),vB true]] (an2 @encSd.eq_1 @encCh.eq_1) ?_ ?_
   ·exact zb h1 zd
   refine wk0 ?_
   refine cd0 [[sD 1 (pk.map encB)],[sD 1 (encPk (joinP there pk))]] ?_ ?_
   ·exact zb b1 (zb p1 zd)
   refine wk0 ?_
   refine cg [[aD (encRv r'),aD (encCh d),vB false]] (an2 @encRv.eq_1 @encCh.eq_1) ?_ ?_
   ·exact zb h2 zd
   refine wk0 ?_
   exact ValsLe.refl _
 | false =>
  cases is with
  | true =>
   have b2:=z7c d (c2 rfl)
   generalize sealL (bodyL d) = qk at *
   have p2:=z0f back qk
   simp only [encLn,encSd,encRv,encCh,if_true,Bool.false_eq_true,if_false] at h1 h2 b2 ⊢
   refine wk0 ?_
   refine cg [[aD (encSd s'),aD (encCh c),vB false]] (an2 @encSd.eq_1 @encCh.eq_1) ?_ ?_
   ·exact zb h1 zd
   refine wk0 ?_
   refine cg [[aD (encRv r'),aD (encCh d),vB true]] (an2 @encRv.eq_1 @encCh.eq_1) ?_ ?_
   ·exact zb h2 zd
   refine wk0 ?_
   refine cd0 [[sD 1 (qk.map encB)],[sD 1 (encPk (joinP back qk))]] ?_ ?_
   ·exact zb b2 (zb p2 zd)
   refine wk0 ?_
   exact ValsLe.refl _
  | false =>
   simp only [encLn,encSd,encRv,encCh,Bool.false_eq_true,if_false] at h1 h2 ⊢
   refine wk0 ?_
   refine cg [[aD (encSd s'),aD (encCh c),vB false]] (an2 @encSd.eq_1 @encCh.eq_1) ?_ ?_
   ·exact zb h1 zd
   refine wk0 ?_
   refine cg [[aD (encRv r'),aD (encCh d),vB false]] (an2 @encRv.eq_1 @encCh.eq_1) ?_ ?_
   ·exact zb h2 zd
   refine wk0 ?_
   exact ValsLe.refl _
theorem z9n (l : Ln) (hs : Told Tryz.prog 27 [aD (encSd l.s),aD (encSd l.s)] [vB true]) (hr : Told Tryz.prog 28 [aD (encRv l.r),aD (encRv l.r)] [vB true]) (ht : l.there.length ≤ 9223372036854775807) (hb : l.back.length ≤ 9223372036854775807) : Told Tryz.prog 18 [aD (encLn l),aD (encLn l)] [vB true]:=by
 refine zng rfl ?_
 have h1:=zbe l.there l.there ht
 have h2:=zbe l.back l.back hb
 rw [beq_self_eq_true] at h1 h2
 simp only [encLn,encSd,encRv] at hs hr ⊢
 refine wk0 ?_
 refine cg0 [[vB true]] ?_ ?_
 ·exact zb hs zd
 refine wk0 ?_
 refine cg0 [[vB true],[vB true]] ?_ ?_
 ·exact zb hr (zb h1 zd)
 refine wk0 ?_
 refine cg0 [[vB true]] ?_ ?_
 ·exact zb h2 zd
 refine wk0 ?_
 exact ValsLe.refl _
set_option maxRecDepth 100000
def Q54r0 : IC:=cReg Tryz.prog [xX 5 0,⟨some 10,none,iAlo 10 [zS,zI,zI,zI,zI,zS,zI,zI,zS,zI,zI,zI,zS,zS,zF,zS,zS]⟩,⟨some 11,none,iMov 11 (.const (.int .i64 0)) true⟩] [1,2,3,4,5,10] [5,10]
def Q54r1 : IC:=cReg Tryz.prog [xA 16 17 5,xM 17 4,xV2 18 53 16 17,xT 12 18] [1,2,3,4,5,10,12] [5,10]
def Q54r2 : IC:=cReg Tryz.prog [xM 19 2,xC 20 .lss 19 0,xM 21 20,xG 21 false (xM 22 2),xG 21 false (xM 23 12),xG 21 false (xN 24 23),xG 21 false (xB 25 .geq 22 24),xP 26 21 25] [1,2,3,4,5,10,12,26] [5,10]
def Q54r3 : IC:=cReg Tryz.prog [xA 27 17 5,xS 17 10 27,⟨some 11,none,iMov 11 (.const (.int .i64 6)) true⟩] [10,11] [10]
def Q54c1a : IC:=(cSeq Q54r3 cRet)
def Q54c1 : IC:=cCond (.tmp 26) Q54c1a cSkip
def Q54r4 : IC:=cReg Tryz.prog [xM 28 1] [2,3,4,5,10,12,28] [5,10]
def Q54r5 : IC:=cReg Tryz.prog [xC 30 .eql 28 4,xT 29 30] [2,3,4,5,10,12,28,29] [5,10]
def Q54r6 : IC:=cRegD Tryz.prog [xA 31 17 5,xM 32 4,xM 33 12,xM 34 2,xV2 35 55 33 34,⟨some 36,none,iCall 36 54 [(.tmp 31),(.tmp 32),(.tmp 35)]⟩,xS 17 10 36,⟨some 11,none,iMov 11 (.const (.int .i64 0)) true⟩] [[],[],[],[],[2,3],[0,1,4,2,3],[5,0,1,2,3,4],[6,0,1,2,3,4,5]] [10,11] [10]
def Q54r7 : IC:=cReg Tryz.prog [xC 38 .eql 28 5,xT 37 38] [2,3,4,5,10,12,28,37] [5,10]
def Q54r8 : IC:=cRegD Tryz.prog [xA 39 17 5,xM 40 4,xM 41 12,xM 42 12,xM 43 2,xI 44 1 42 43,xL 45 1 44,xV2 46 49 41 45,⟨some 47,none,iCall 47 54 [(.tmp 39),(.tmp 40),(.tmp 46)]⟩,xS 17 10 47,⟨some 11,none,iMov 11 (.const (.int .i64 0)) true⟩] [[],[],[],[],[],[3,4],[5,3,4],[2,6,5,3,4],[0,1,7,2,6,5,3,4],[8,0,1,2,3,4,5,6,7],[9,0,1,2,3,4,5,6,7,8]] [10,11] [10]
def Q54r9 : IC:=cReg Tryz.prog [xC 49 .eql 28 6,xT 48 49] [2,3,4,5,10,12,48] [5,10]
def Q54r10 : IC:=cReg Tryz.prog [xM 50 3,xC 51 .lss 50 0,xM 52 51,xG 52 false (xM 53 3),xG 52 false (xM 54 12),xG 52 false (xM 55 2),xG 52 false (xI 56 1 54 55),xG 52 false (xL 57 1 56),xG 52 false (xN 58 57),xG 52 false (xB 59 .geq 53 58),xP 60 52 59] [2,3,4,5,10,12,60] [5,10]
def Q54r11 : IC:=cReg Tryz.prog [xA 61 17 5,xS 17 10 61,⟨some 11,none,iMov 11 (.const (.int .i64 3)) true⟩] [10,11] [10]
def Q54c6a : IC:=(cSeq Q54r11 cRet)
def Q54c6 : IC:=cCond (.tmp 60) Q54c6a cSkip
def Q54r12 : IC:=cReg Tryz.prog [⟨some 62,none,iRow 62 41 1 []⟩,xM 63 12,⟨some 64,none,iApr 64 41 1 24 62 (.tmp 63)⟩,xT 13 64] [2,3,4,5,10,12,13] [5,10,100064]
def Q54r13 : IC:=cReg Tryz.prog [xM 65 13,xM 66 2,⟨some 67,none,iRow 67 5 1 []⟩,xM 68 12,xM 69 2,xI 70 1 68 69,xL 71 1 70,⟨some 72,none,iApr 72 5 1 1 67 (.tmp 71)⟩,xI 73 1 65 66,xS 1 73 72] [2,3,4,5,10,13] [5,10,100072,100064]
def Q54r14 : IC:=cReg Tryz.prog [xM 74 13,xM 75 2,xI 76 1 74 75,xL 77 1 76,xM 78 3,xI 79 1 77 78,xL 80 1 79,⟨some 81,none,iBin 81 .rem (.tmp 80) (.const (.int .u8 2))⟩,⟨some 82,none,iBin 82 .eql (.tmp 81) (.const (.int .u8 0))⟩] [2,3,4,5,10,13,82] [5,10,100072,100064]
def Q54r15 : IC:=cReg Tryz.prog [xM 83 13,xM 84 2,xI 85 1 83 84,xL 86 1 85,xM 87 3,xI 88 1 86 87,xL 89 1 88,⟨some 90,none,iBin 90 .add (.tmp 89) (.const (.int .u8 1))⟩,xI 91 1 86 87,xS 1 91 90] [4,5,10,13] [5,10]
def Q54r16 : IC:=cReg Tryz.prog [xM 92 13,xM 93 2,xI 94 1 92 93,xL 95 1 94,xM 96 3,xI 97 1 95 96,xL 98 1 97,⟨some 99,none,iBin 99 .sub (.tmp 98) (.const (.int .u8 1))⟩,xI 100 1 95 96,xS 1 100 99] [4,5,10,13] [5,10]
def Q54c7 : IC:=cCond (.tmp 82) Q54r15 Q54r16
def Q54r17 : IC:=cReg Tryz.prog [xA 101 17 5,xM 102 4,xM 103 13,⟨some 104,none,iCall 104 54 [(.tmp 101),(.tmp 102),(.tmp 103)]⟩,xS 17 10 104,⟨some 11,none,iMov 11 (.const (.int .i64 0)) true⟩] [10,11] [10]
def Q54c5a : IC:=(cSeq (cSeq Q54r10 Q54c6) (cSeq Q54r12 (cSeq Q54r13 (cSeq (cSeq Q54r14 Q54c7) (cSeq Q54r17 cRet)))))
def Q54c5 : IC:=cCond (.tmp 48) Q54c5a cSkip
def Q54c4a : IC:=(cSeq Q54r8 cRet)
def Q54c4b : IC:=(cSeq Q54r9 Q54c5)
def Q54c4 : IC:=cCond (.tmp 37) Q54c4a Q54c4b
def Q54c3a : IC:=(cSeq Q54r6 cRet)
def Q54c3b : IC:=(cSeq Q54r7 Q54c4)
def Q54c3 : IC:=cCond (.tmp 29) Q54c3a Q54c3b
def Q54b2 : IC:=cBlock 0 (cSeq Q54r5 Q54c3)
def Q54r18 : IC:=cRegD Tryz.prog [xA 105 17 5,xM 106 4,xM 107 12,xM 108 2,xV2 109 55 107 108,⟨some 110,none,iCall 110 54 [(.tmp 105),(.tmp 106),(.tmp 109)]⟩,xS 17 5 110] [[],[],[],[],[2,3],[0,1,4,2,3],[5,0,1,2,3,4]] [2,4,5,10,12] [5,10]
def Q54r19 : IC:=cReg Tryz.prog [xM 112 12,xM 113 2,xI 114 1 112 113,xL 115 1 114,xV1 116 56 115,xM 111 116,xE 117 111 0,xE 118 111 1,⟨some 14,none,iAlo 14 [zI,zI,zI,zI,zS,zS]⟩,xS 6 14 117,xT 15 118] [4,5,10,14,15] [5,10,14]
def Q54r20 : IC:=cReg Tryz.prog [xM 119 15,xC 120 .eql 119 0,xM 121 120,xG 121 true (xM 122 4),xQ 123 121 122] [4,5,10,14,15,123] [5,10,14]
def Q54r21 : IC:=cReg Tryz.prog [xF 124 0 5,xA 125 7 124,xA 126 6 14,xV2 127 57 125 126,xF 128 0 5,xS 7 128 127] [4,5,10,14,15] [5,10,14]
def Q54c8 : IC:=cCond (.tmp 123) Q54r21 cSkip
def Q54r22 : IC:=cReg Tryz.prog [xM 129 15,xC 130 .eql 129 0,xM 131 130,xG 131 true (xM 132 4),xG 131 true (xO 133 132),xQ 134 131 133] [5,10,14,134] [5,10,14]
def Q54r23 : IC:=cReg Tryz.prog [xF 135 7 5,xA 136 8 135,xA 137 6 14,xV2 138 58 136 137,xF 139 7 5,xS 8 139 138] [5,10] [5,10]
def Q54c9 : IC:=cCond (.tmp 134) Q54r23 cSkip
def Q54r24 : IC:=cReg Tryz.prog [xA 140 17 5,xS 17 10 140,⟨some 11,none,iMov 11 (.const (.int .i64 0)) true⟩] [10,11] [10]
def z4u : IC:=(cSeq Q54r0 (cSeq Q54r1 (cSeq (cSeq Q54r2 Q54c1) (cSeq (cSeq Q54r4 Q54b2) (cSeq Q54r18 (cSeq Q54r19 (cSeq (cSeq Q54r20 Q54c8) (cSeq (cSeq Q54r22 Q54c9) (cSeq Q54r24 cRet)))))))))
theorem zhb {args r : List D} (hl : args.length = 5) (h : z4u (start args) (fin [(10,some (17,true)),(11,none)] r)) : Told Tryz.prog 34 args r :=
 ze follows Tryz.func34 rfl (an:=[([],[1,2,3,4,5,10],[5,10],[]),([],[1,2,3,4,5,10,12],[5,10],[]),([],[1,2,3,4,5,10,12,26],[5,10],[]),([],[10,11],[10],[]),([],[2,3,4,5,10,12,28],[5,10],[]),([],[2,3,4,5,10,12,28,29],[5,10],[]),([],[10,11],[10],[]),([],[2,3,4,5,10,12,28,37],[5,10],[]),([],[10,11],[10],[]),([],[2,3,4,5,10,12,48],[5,10],[]),([],[2,3,4,5,10,12,60],[5,10],[]),([],[10,11],[10],[]),([],[2,3,4,5,10,12,13],[5,10,100064],[64]),([],[2,3,4,5,10,13],[5,10,100072,100064],[72]),([],[2,3,4,5,10,13,82],[5,10,100072,100064],[]),([],[4,5,10,13],[5,10],[]),([],[4,5,10,13],[5,10],[]),([],[10,11],[10],[]),([],[2,4,5,10,12],[5,10],[]),([],[4,5,10,14,15],[5,10,14],[]),([],[4,5,10,14,15,123],[5,10,14],[]),([],[4,5,10,14,15],[5,10,14],[]),([],[5,10,14,134],[5,10,14],[]),([],[5,10],[5,10],[]),([],[10,11],[10],[])]) (by kernel_rfl) (by kernel_rfl) (by rw [hl]; decide +kernel) h
def hIn (b2 : List D) (c x : Ch) (L F : List D) (e17 e18 : Int) (b : Bool) (i : Int) : St :=
 ⟨[(2,pD 2 0),(3,pD 3 0),(4,pD 4 0),(5,sD 6 L),(7,pD 7 0),(8,vB b),(16,sD 6 F),(17,vI e17),(18,vI e18),(28,sD 1 (c.early.map vI)),(29,vI c.early.length),(30,vI i)],
  [(2,b2),(3,[vI c.kind,vI c.number,vI c.stream,vI c.place,sD 1 (c.data.map encB),sD 1 (c.early.map vI)]),(4,[vD (.slice none 0 0),vI 0,vI 0,vI 0,vI 0,vD (.slice none 0 0),vI 0]),(7,[vI x.kind,vI x.number,vI x.stream,vI x.place,sD 1 (x.data.map encB),sD 1 (x.early.map vI)])],[((5,none),(85,6,none))]⟩
def hOut (b2 : List D) (c x : Ch) (L F : List D) (e17 e18 : Int) (b : Bool) (i : Int) : St :=
 ⟨[(2,pD 2 0),(3,pD 3 0),(4,pD 4 0),(5,sD 6 L),(7,pD 7 0),(8,vB b),(16,sD 6 F),(17,vI e17),(18,vI e18),(28,sD 1 (c.early.map vI)),(29,vI c.early.length),(30,vI i),(31,vB false)],
  [(2,b2),(3,[vI c.kind,vI c.number,vI c.stream,vI c.place,sD 1 (c.data.map encB),sD 1 (c.early.map vI)]),(4,[vD (.slice none 0 0),vI 0,vI 0,vI 0,vI 0,vD (.slice none 0 0),vI 0]),(7,[vI x.kind,vI x.number,vI x.stream,vI x.place,sD 1 (x.data.map encB),sD 1 (x.early.map vI)])],[((5,none),(85,6,none))]⟩
theorem ziz {l : List Int} {j : Nat} {y n : Int} (h : l[j]? = some y) : (l.take (j + 1)).contains n = ((l.take j).contains n || (y == n)):=by
 rw [List.take_add_one,h,Bool.eq_iff_iff]
 simp only [Option.toList_some,List.contains_iff_mem,List.mem_append,List.mem_singleton,Bool.or_eq_true,beq_iff_eq]
 constructor
 ·rintro (h | h)
  ·exact .inl h
  ·exact .inr h.symm
 ·rintro (h | h)
  ·exact .inl h
  ·exact .inr h.symm
theorem zf2 (b2 : List D) (c x : Ch) (L F : List D) (e17 e18 : Int) (b : Bool) (he : c.early.length ≤ 9223372036854775807) (Q : AX → St → Prop)
  (hQ : Q none (hOut b2 c x L F e17 e18 (b || c.early.contains x.number) c.early.length)) : Q47b6 (hIn b2 c x L F e17 e18 b 0) Q:=by
 refine zkc ?_
 refine zw (fun m st => ∃ j : Nat,j ≤ c.early.length ∧ m = c.early.length - j ∧ st = hIn b2 c x L F e17 e18 (b || (c.early.take j).contains x.number) j) c.early.length _ (Le.refl _) ⟨0,by omega,by omega,by simp⟩ ?_
 rintro m st ⟨j,hj,hm,rfl⟩
 by_cases hlt : j < c.early.length
 ·obtain ⟨y,hy⟩ : ∃ m,c.early[j]? = some m:=⟨c.early[j],List.getElem?_eq_getElem hlt⟩
  have g1 : (j : Int) < (c.early.length : Int):=by omega
  have g2 : (0 : Int) ≤ (j : Int):=by omega
  have g3:=at_il hy
  have g4 : inR .i64 ((j : Int) + 1) = true:=inR_of (by omega)
  have hc:=ziz (n:=x.number) hy
  have hnx : ∀ b',b' = ((b || (c.early.take j).contains x.number) || (y == x.number)) → Next (fun m st => ∃ j : Nat,j ≤ c.early.length ∧ m = c.early.length - j ∧ st = hIn b2 c x L F e17 e18 (b || (c.early.take j).contains x.number) j) m (hIn b2 c x L F e17 e18 b' ((j : Int) + 1)):=by
   rintro b' rfl
   exact ⟨c.early.length - (j + 1),_,by omega,Le.refl _,j + 1,by omega,rfl,by rw [hc,Bool.or_assoc,Int.natCast_add,Int.cast_ofNat_Int]⟩
  generalize (fun m st => ∃ j : Nat,j ≤ c.early.length ∧ m = c.early.length - j ∧ st = hIn b2 c x L F e17 e18 (b || (c.early.take j).contains x.number) j) = J at *
  generalize (b || (c.early.take j).contains x.number) = q at *
  simp only [hIn] at hnx ⊢
  cases q with
  | true =>
   refine wk (an4 @g1 @g2 @g3 @g4) ?_
   exact hnx _ rfl
  | false =>
   refine wk (an4 @g1 @g2 @g3 @g4) ?_
   exact hnx _ rfl
 ·have hj' : j = c.early.length:=by omega
  subst hj'
  have g1 : ¬ (c.early.length : Int) < (c.early.length : Int):=by omega
  rw [List.take_length]
  simp only [hIn,hOut] at hQ ⊢
  refine wk @g1 ?_
  exact hQ
def hSt (s : Sd) (c : Ch) (k : Nat) : St :=
 ⟨[(2,pD 2 0),(3,pD 3 0),(4,pD 4 0),(5,sD 6 (encCl ((s.flight.take k).filter fun x => !cameL c x.number))),(16,sD 6 (encCl s.flight)),(17,vI s.flight.length),(18,vI k)],
  [(2,[sD 2 (encMl s.queue),vI s.next,vI s.p0,vI s.p1,vI s.p2,sD 6 (encCl s.flight),vI s.turn]),(3,[vI c.kind,vI c.number,vI c.stream,vI c.place,sD 1 (c.data.map encB),sD 1 (c.early.map vI)]),(4,[vD (.slice none 0 0),vI 0,vI 0,vI 0,vI 0,vD (.slice none 0 0),vI 0])],[((5,none),(85,6,none))]⟩
theorem zap {l : List Ch} {f : Ch → Bool} {k : Nat} {m : Ch} (h : l[k]? = some m) : (l.take (k + 1)).filter f = if f m = true then (l.take k).filter f ++ [m] else (l.take k).filter f:=by
 rw [List.take_add_one,h]
 simp only [List.filter_append,Option.toList_some,List.filter_cons,List.filter_nil]
 split <;> simp
theorem zvv (s : Sd) (c : Ch) (hf : s.flight.length ≤ 1048576) (he : c.early.length ≤ 9223372036854775807) : Told Tryz.prog 57 [aD (encSd s),aD (encCh c)] [aD (encSd (hearS s c))]:=by
 refine zlg rfl ?_
 simp only [encSd,encCh]
 by_cases hk : c.kind = 2
 ·have k1 : (c.kind != 2) = false:=by simpa using hk
  rw [hearS,if_pos hk]
  refine wk (an2 @k1 @len_cl) ?_
  refine zw (fun n st => ∃ k,k ≤ s.flight.length ∧ n = s.flight.length - k ∧ st = hSt s c k) s.flight.length (hSt s c 0) ((Le.nilS 5 85 6 rfl).trans (Le.keep (lv:=[2,3,4,5,16,17,18]) (lb:=[2,3,4]) (by simp only [ev0,ev1,ev2,look,lookF,zh,offT,offP,List.tail_nil,List.length_nil,Int.cast_ofNat_Int,Nat.reduceEqDiff,Nat.reduceAdd,Nat.reduceMul,Nat.reduceLeDiff,Nat.reduceLT,↓reduceIte,reduceCtorEq,Int.reduceBEq,Int.reduceBNe,Int.reduceLT,Int.reduceLE,Int.reduceToNat]; rfl))) ⟨0,by omega,by omega,rfl⟩ ?_
  rintro n st ⟨k,hk',hn,rfl⟩
  by_cases hlt : k < s.flight.length
  ·obtain ⟨x,hx⟩ : ∃ m,s.flight[k]? = some m:=⟨s.flight[k],List.getElem?_eq_getElem hlt⟩
   have g1 : (k : Int) < (s.flight.length : Int):=by omega
   have g2 : (0 : Int) ≤ (k : Int):=by omega
   have g3:=at_cl hx
   have g4 : inR .i64 ((k : Int) + 1) = true:=inR_of (by omega)
   have hsn:=zap (f:=fun x => !cameL c x.number) hx
   have hlen : ((s.flight.take k).filter fun x => !cameL c x.number).length ≤ k:=Nat.le_trans (List.length_filter_le _ _) (by rw [List.length_take]; omega)
   have hb1 : (((s.flight.take k).filter fun x => !cameL c x.number).length + 1) * 80 ≤ 140737488355328:=by omega
   have hnx : ∀ L,L = (s.flight.take (k + 1)).filter (fun x => !cameL c x.number) → Next (fun n st => ∃ k,k ≤ s.flight.length ∧ n = s.flight.length - k ∧ st = hSt s c k) n
     ⟨[(2,pD 2 0),(3,pD 3 0),(4,pD 4 0),(5,sD 6 (encCl L)),(16,sD 6 (encCl s.flight)),(17,vI s.flight.length),(18,vI ((k : Int) + 1))],
      [(2,[sD 2 (encMl s.queue),vI s.next,vI s.p0,vI s.p1,vI s.p2,sD 6 (encCl s.flight),vI s.turn]),(3,[vI c.kind,vI c.number,vI c.stream,vI c.place,sD 1 (c.data.map encB),sD 1 (c.early.map vI)]),(4,[vD (.slice none 0 0),vI 0,vI 0,vI 0,vI 0,vD (.slice none 0 0),vI 0])],[((5,none),(85,6,none))]⟩:=by
    rintro L rfl
    exact ⟨s.flight.length - (k + 1),_,by omega,Le.refl _,k + 1,by omega,rfl,by simp only [hSt,Int.natCast_add,Int.cast_ofNat_Int]⟩
   generalize (fun n st => ∃ k,k ≤ s.flight.length ∧ n = s.flight.length - k ∧ st = hSt s c k) = J at *
   simp only [hSt]
   generalize ((s.flight.take k).filter fun x => !cameL c x.number) = G at *
   refine wk (an4 @g1 @g2 @g3 @zmap) ?_
   refine zf2 _ c x _ _ _ _ (decide (x.number < c.number)) he _ ?_
   refine ztb ?_
   cases hc : cameL c x.number with
   | true =>
    have hc' : (decide (x.number < c.number) || c.early.contains x.number) = true:=hc
    rw [hc']
    simp only [hOut]
    refine wk @g4 ?_
    refine hnx G ?_
    rw [hsn,hc]; rfl
   | false =>
    have hc' : (decide (x.number < c.number) || c.early.contains x.number) = false:=hc
    rw [hc']
    simp only [hOut]
    refine wk (an3 @g4 @hb1 @len_cl) ?_
    rw [← znf]
    refine hnx (G ++ [x]) ?_
    rw [hsn,hc]; rfl
  ·have hk'' : k = s.flight.length:=by omega
   subst hk''
   have g1 : ¬ (s.flight.length : Int) < (s.flight.length : Int):=by omega
   simp only [hSt,List.take_length]
   refine wk @g1 ?_
   exact ValsLe.refl _
 ·have k1 : (c.kind != 2) = true:=by simpa using hk
  rw [hearS,if_neg hk]
  refine wk @k1 ?_
  exact ValsLe.refl _
theorem zpo (s : Sd) (hq : s.queue.length ≤ 1048576) (hf : s.flight.length ≤ 1048576) (he : ∀ c ∈ s.flight,c.early.length ≤ 9223372036854775807) : Told Tryz.prog 27 [aD (encSd s),aD (encSd s)] [vB true]:=by
 refine zcf rfl ?_
 have h1:=zlf s.queue s.queue hq
 have h2:=zch s.flight s.flight hf he
 rw [ztj] at h1
 rw [z0h] at h2
 simp only [encSd]
 refine wk @zbeq ?_
 refine cg [[vB true]] @zbeq ?_ ?_
 ·exact zb h1 zd
 refine wk (an2 @zbeq @Bool.and_self) ?_
 refine cg [[vB true]] @zbeq ?_ ?_
 ·exact zb h2 zd
 refine wk @zbeq ?_
 exact ValsLe.refl _
end Go.Proofs.YtgaofjiidedcbacGreat.ab
