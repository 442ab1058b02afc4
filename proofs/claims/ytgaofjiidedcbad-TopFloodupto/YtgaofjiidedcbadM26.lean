import Derived.Test.YtgaofjiidedcbadM25
import Derived.Test.YtgaofjiidedcbadM24
import Derived.Test.YtgaofjiidedcbadM19
set_option linter.unusedVariables false
set_option linter.unusedSimpArgs false
namespace Go.Proofs.Ytgaofjiidedcbad.ab
open Go Go.RowKit
open mth
end Go.Proofs.Ytgaofjiidedcbad.ab
namespace Go.Proofs.Ytgaofjiidedcbad.mth
structure Ln where
 s : Sd
 r : Rv
 there : List (List UInt8)
 back : List (List UInt8)
def joinP (p : List (List UInt8)) (b : List UInt8) : List (List UInt8):=if 5 < p.length then p else p ++ [b]
def cutP (p : List (List UInt8)) (n : Nat) : List (List UInt8):=p.take n ++ p.drop (n + 1)
def wayP (l : Ln) (back : Bool) : List (List UInt8):=if back = true then l.back else l.there
def withP (l : Ln) (back : Bool) (p : List (List UInt8)) : Ln:=if back = true then { l with back:=p } else { l with there:=p }
theorem rises_filter (f : Int → Bool) : ∀ (k : Nat) (a low : Int),low < a → a + k ≤ 40 → risesL low ((rangeI a (a + k)).filter f) = true:=by
 intro k
 induction k with
 | zero => intro a low h1 h2; rw [rangeI_nil (by simp)]; rfl
 | succ k ih =>
  intro a low h1 h2
  rw [rangeI_cons (by omega),show a + ((k + 1 : Nat) : Int) = (a + 1) + (k : Int) by omega]
  cases hf : f a with
  | true =>
   rw [List.filter_cons_of_pos hf]
   simp only [risesL,Bool.and_eq_true,decide_eq_true_eq]
   exact ⟨h1,by omega,ih (a + 1) a (by omega) (by omega)⟩
  | false =>
   rw [List.filter_cons_of_neg (by rw [hf]; simp)]
   exact ih (a + 1) low (by omega) (by omega)
theorem say_right {s : Sd} (h : GoodS s) (hs : (sayL s).2.2 = true) : wrongL (sayL s).2.1 = 0:=by
 have hag : ∀ (hf : 0 < s.flight.length),wrongL (s.flight.getD (againK s).toNat zeroC) = 0:=fun hf => by
  have hk:=againK_lt h hf
  have hlt : (againK s).toNat < s.flight.length:=by omega
  rw [List.getD_eq_getElem?_getD,List.getElem?_eq_getElem hlt,Option.getD_some]
  exact (h.c _ (List.getElem_mem hlt)).2.1
 unfold sayL at hs ⊢
 split at hs
 ·rename_i hq
  split at hs
  ·cases hs
  ·rename_i hf
   simp only [hf,if_false]
   exact hag (by omega)
 ·rename_i m r hq
  by_cases hf : 3 < s.flight.length
  ·simp only [hf,if_true]
   exact hag (by omega)
  ·simp only [hf,if_false]
   have hn:=h.n
   rw [hq] at hn
   exact newC_right h (h.m m (by rw [hq]; simp)) (by simp at hn; omega)
theorem sayR_right {r : Rv} (h : GoodR r) : wrongL ⟨2,r.next,0,0,[],r.early⟩ = 0:=by
 have hn:=h.n
 have hl:=h.l
 have hr : risesL r.next r.early = true:=by
  rw [h.e]
  unfold earlyR
  by_cases h40 : r.next = 40
  ·rw [h40,rangeI_nil (by omega)]; rfl
  ·rw [rangeI_cons (by omega),List.filter_cons_of_neg (by rw [h.x]; simp)]
   have:=rises_filter (fun m => r.early.contains m) (40 - (r.next + 1)).toNat (r.next + 1) r.next (by omega) (by omega)
   rw [show r.next + 1 + (((40 - (r.next + 1)).toNat : Nat) : Int) = 40 by omega] at this
   exact this
 rw [wrongL_two,if_neg (by omega),if_neg (by omega),if_neg (by simp; omega),if_pos hr]
def speakL (l : Ln) : Ln :=
 ⟨(sayL l.s).1,(sayR l.r).1,if (sayL l.s).2.2 = true then joinP l.there (sealL (bodyL (sayL l.s).2.1)) else l.there,if (sayR l.r).2.2 = true then joinP l.back (sealL (bodyL (sayR l.r).2.1)) else l.back⟩
structure GoodL (l : Ln) : Prop where
 s : GoodS l.s
 r : GoodR l.r
 t : l.there.length ≤ 6
 b : l.back.length ≤ 6
 tn : ∀ x ∈ l.there,x.length ≤ 1000
 bn : ∀ x ∈ l.back,x.length ≤ 1000
def comeL (l : Ln) (n : Nat) (back : Bool) : Ln :=
 let xs:=(wayP l back).getD n []
 let k:=withP l back (cutP (wayP l back) n)
 if readE xs = 0 then (if back = true then { k with s:=hearS k.s (readC xs) } else { k with r:=hearR k.r (readC xs) }) else k
theorem readC_right {xs : List UInt8} (h : readE xs = 0) : wrongL (readC xs) = 0:=by
 unfold readC
 rw [if_pos h]
 unfold readE at h
 split at h
 ·cases h
 ·split at h
  ·cases h
  ·exact h
theorem GoodL.way {l : Ln} (h : GoodL l) (back : Bool) : (wayP l back).length ≤ 6 ∧ ∀ x ∈ wayP l back,x.length ≤ 1000:=by
 cases back
 ·exact ⟨h.t,h.tn⟩
 ·exact ⟨h.b,h.bn⟩
theorem GoodL.with {l : Ln} (h : GoodL l) (back : Bool) {p : List (List UInt8)} (hp : p.length ≤ 6) (hx : ∀ x ∈ p,x.length ≤ 1000) : GoodL (withP l back p):=by
 cases back
 ·exact ⟨h.s,h.r,hp,h.b,hx,h.bn⟩
 ·exact ⟨h.s,h.r,h.t,hp,h.tn,hx⟩
theorem cutP_ok {p : List (List UInt8)} (n : Nat) (hp : p.length ≤ 6) (hx : ∀ x ∈ p,x.length ≤ 1000) : (cutP p n).length ≤ 6 ∧ ∀ x ∈ cutP p n,x.length ≤ 1000:=by
 unfold cutP
 refine ⟨by rw [List.length_append,List.length_take,List.length_drop]; omega,fun x hm => ?_⟩
 rcases List.mem_append.1 hm with q | q
 ·exact hx x (List.mem_of_mem_take q)
 ·exact hx x (List.mem_of_mem_drop q)
theorem joinP_ok {p : List (List UInt8)} {b : List UInt8} (hp : p.length ≤ 6) (hx : ∀ x ∈ p,x.length ≤ 1000) (hb : b.length ≤ 1000) : (joinP p b).length ≤ 6 ∧ ∀ x ∈ joinP p b,x.length ≤ 1000:=by
 unfold joinP
 split
 ·exact ⟨hp,hx⟩
 ·refine ⟨by simp; omega,fun x hm => ?_⟩
  rcases List.mem_append.1 hm with q | q
  ·exact hx x q
  ·rw [List.mem_singleton.1 q]; exact hb
def turnB (x : UInt8) : UInt8:=b8 (if i8 x % 2 = 0 then i8 x + 1 else i8 x - 1)
def spoilP (p : List (List UInt8)) (n k : Nat) : List (List UInt8):=p.set n ((p.getD n []).set k (turnB ((p.getD n []).getD k 0)))
def packetL (l : Ln) (kind n k : Int) (back : Bool) : Ln × Int :=
 if n < 0 ∨ ((wayP l back).length : Int) ≤ n then (l,6) else
 if kind = 4 then (withP l back (cutP (wayP l back) n.toNat),0) else
 if kind = 5 then (withP l back (joinP (wayP l back) ((wayP l back).getD n.toNat [])),0) else
 if kind = 6 then (if k < 0 ∨ ((((wayP l back).getD n.toNat []).length : Nat) : Int) ≤ k then (l,3) else (withP l back (spoilP (wayP l back) n.toNat k.toNat),0)) else
 (comeL l n.toNat back,0)
theorem spoilP_ok {p : List (List UInt8)} (n k : Nat) (hp : p.length ≤ 6) (hx : ∀ x ∈ p,x.length ≤ 1000) : (spoilP p n k).length ≤ 6 ∧ ∀ x ∈ spoilP p n k,x.length ≤ 1000:=by
 unfold spoilP
 refine ⟨by rw [List.length_set]; exact hp,fun x hm => ?_⟩
 rcases List.mem_or_eq_of_mem_set hm with q | q
 ·exact hx x q
 ·rw [q,List.length_set,List.getD_eq_getElem?_getD]
  cases hn : p[n]? with
  | none => simp
  | some y => exact hx y (List.mem_of_getElem? hn)
theorem GoodL.come {l : Ln} (h : GoodL l) (n : Nat) (back : Bool) : GoodL (comeL l n back):=by
 obtain ⟨w1,w2⟩:=h.way back
 obtain ⟨k1,k2⟩:=cutP_ok n w1 w2
 have hk:=h.with back k1 k2
 unfold comeL
 simp only
 split
 ·rename_i he
  have hc:=readC_right he
  split
  ·exact ⟨hk.s.hear _,hk.r,hk.t,hk.b,hk.tn,hk.bn⟩
  ·exact ⟨hk.s,hk.r.hear hc,hk.t,hk.b,hk.tn,hk.bn⟩
 ·exact hk
theorem GoodL.packet {l : Ln} (h : GoodL l) (kind n k : Int) (back : Bool) : GoodL (packetL l kind n k back).1:=by
 obtain ⟨w1,w2⟩:=h.way back
 unfold packetL
 split
 ·exact h
 rename_i hn
 have hx : ((wayP l back).getD n.toNat []).length ≤ 1000:=by
  rw [List.getD_eq_getElem?_getD]
  cases hq : (wayP l back)[n.toNat]? with
  | none => simp
  | some y => exact w2 y (List.mem_of_getElem? hq)
 split
 ·obtain ⟨k1,k2⟩:=cutP_ok n.toNat w1 w2
  exact h.with back k1 k2
 split
 ·obtain ⟨k1,k2⟩:=joinP_ok w1 w2 hx
  exact h.with back k1 k2
 split
 ·split
  ·exact h
  ·obtain ⟨k1,k2⟩:=spoilP_ok n.toNat k.toNat w1 w2
   exact h.with back k1 k2
 ·exact h.come _ _
theorem GoodL.speak {l : Ln} (h : GoodL l) : GoodL (speakL l):=by
 have h1 : ∀ c : Ch,wrongL c = 0 → (sealL (bodyL c)).length ≤ 1000:=fun c hc => by
  have:=(len_body c hc).2
  rw [length_sealL]; omega
 refine ⟨h.s.say,h.r.say,?_,?_,?_,?_⟩
 all_goals unfold speakL; simp only
 ·split
  ·rename_i hs; exact (joinP_ok h.t h.tn (h1 _ (say_right h.s hs))).1
  ·exact h.t
 ·split
  ·rename_i hs; exact (joinP_ok h.b h.bn (h1 _ (by
    unfold sayR at hs ⊢
    split at hs
    ·rename_i ho; rw [if_pos ho]; exact sayR_right h.r
    ·cases hs))).1
  ·exact h.b
 ·split
  ·rename_i hs; exact (joinP_ok h.t h.tn (h1 _ (say_right h.s hs))).2
  ·exact h.tn
 ·split
  ·rename_i hs; exact (joinP_ok h.b h.bn (h1 _ (by
    unfold sayR at hs ⊢
    split at hs
    ·rename_i ho; rw [if_pos ho]; exact sayR_right h.r
    ·cases hs))).2
  ·exact h.bn
end Go.Proofs.Ytgaofjiidedcbad.mth
