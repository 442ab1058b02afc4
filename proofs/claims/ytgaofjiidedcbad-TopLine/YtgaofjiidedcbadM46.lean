import Derived.Test.YtgaofjiidedcbadM27
import Derived.Test.YtgaofjiidedcbadM45
import Derived.Test.YtgaofjiidedcbadM43
import Derived.Test.YtgaofjiidedcbadM37
import Derived.Test.YtgaofjiidedcbadM38
import Derived.Test.YtgaofjiidedcbadM21
import Derived.Deep.RegionWith
import Derived.BigRegion
import Derived.Test.YtgaofjiidedcbadM19
import Derived.Deep.AppendLies
import Derived.Deep.RegionLaw
import Derived.Laws.Externs
set_option maxHeartbeats 8000000
set_option linter.unusedVariables false
set_option linter.unusedSimpArgs false
namespace Go.Proofs.Ytgaofjiidedcbad.ab
open Go Go.RowKit
open mth
theorem turn_even {b : UInt8} (h : b.toNat % 2 = 0) : (turnB b).toNat = b.toNat + 1:=by
 have hb : b.toNat < 256:=b.toNat_lt
 unfold turnB
 rw [if_pos (by unfold i8; omega)]
 unfold i8 b8
 rw [show ((b.toNat : Int) + 1) = ((b.toNat + 1 : Nat) : Int) by omega]
 simp [UInt8.toNat_ofNat']; omega
theorem turn_odd {b : UInt8} (h : ¬ b.toNat % 2 = 0) : ((turnB b).toNat : Int) = (b.toNat : Int) - 1:=by
 have hb : b.toNat < 256:=b.toNat_lt
 unfold turnB
 rw [if_neg (by unfold i8; omega)]
 unfold i8 b8
 rw [show ((b.toNat : Int) - 1) = ((b.toNat - 1 : Nat) : Int) by omega]
 simp [UInt8.toNat_ofNat']; omega
theorem enc_spoil {p : List (List UInt8)} {n k : Nat} {x : List UInt8} {b : UInt8} (hx : p[n]? = some x) (hb : x[k]? = some b) : encPk (spoilP p n k) = (encPk p).set n (sD 1 ((x.map encB).set k (encB (turnB b)))):=by
 have e0 : p.getD n [] = x:=by rw [List.getD_eq_getElem?_getD,hx]; rfl
 have e1 : x.getD k 0 = b:=by rw [List.getD_eq_getElem?_getD,hb]; rfl
 unfold spoilP
 rw [e0,e1]
 simp [encPk,List.map_set]
theorem xor_one : ∀ n : Nat,n < 256 → n ^^^ 1 = if n % 2 = 0 then n + 1 else n - 1:=by decide +kernel
theorem xor_turn (b : UInt8) : ((b.toNat ^^^ 1 : Nat) : Int) = ((turnB b).toNat : Int):=by
 have hb : b.toNat < 256:=b.toNat_lt
 rw [xor_one b.toNat hb]
 by_cases h : b.toNat % 2 = 0
 ·rw [if_pos h,turn_even h]
 ·rw [if_neg h,turn_odd h]; omega
theorem spoil_none (l : Ln) (n k : Int) (back : Bool) (hg : GoodL l) (hn : n < 0 ∨ ((wayP l back).length : Int) ≤ n) : Told Try.prog 44 [aD (encLn l),vI n,vI k,vB back] [aD (encLn l),vI 6]:=by
 refine told_lane_Spoil rfl ?_
 have h1:=ToldX.of (landL_own l hg)
 have h2:=way_toldP back
 have h3:=hasP_told (encPk (wayP l back)) n
 rw [no_has hn] at h3
 simp only [encLn] at h1 ⊢
 refine wk0 ?_
 refine .inl ⟨4,_,_,[],[],_,[],⟨rfl,rfl,rfl,rfl,row_refl _,fun x hx => by cases hx⟩,rfl,h1,rfl,List.nodup_nil,?_⟩
 simp only [preP,preOff,flOf,List.map_nil,List.nil_append]
 refine wk0 ?_
 cases back with
 | true =>
  simp only [wayP,if_true] at h2 h3
  refine cg0 [[mP 0 16]] ?_ ?_
  ·exact obl_adr h2 obl_nil
  refine wk0 ?_
  refine cg [[vB false]] Bool.not_false ?_ ?_
  ·exact obl_cons h3 obl_nil
  refine wk Bool.not_false ?_
  exact ValsLe.refl _
 | false =>
  simp only [wayP,Bool.false_eq_true,if_false] at h2 h3
  refine cg0 [[mP 0 15]] ?_ ?_
  ·exact obl_adr h2 obl_nil
  refine wk0 ?_
  refine cg [[vB false]] Bool.not_false ?_ ?_
  ·exact obl_cons h3 obl_nil
  refine wk Bool.not_false ?_
  exact ValsLe.refl _
theorem no_hasB {x : List UInt8} {k : Int} (h : k < 0 ∨ (x.length : Int) ≤ k) : decide (0 ≤ k ∧ k < ((x.map encB).length : Int)) = false:=by
 rw [List.length_map]; exact decide_eq_false (by omega)
theorem yes_hasB {x : List UInt8} {k : Nat} (h : k < x.length) : decide (0 ≤ (k : Int) ∧ (k : Int) < ((x.map encB).length : Int)) = true:=by
 rw [List.length_map]; exact decide_eq_true (by omega)
theorem spoil_range (l : Ln) (n : Nat) (k : Int) (back : Bool) (hg : GoodL l) (x : List UInt8) (hx : (wayP l back)[n]? = some x) (hk : k < 0 ∨ (x.length : Int) ≤ k) : Told Try.prog 44 [aD (encLn l),vI n,vI k,vB back] [aD (encLn l),vI 3]:=by
 refine told_lane_Spoil rfl ?_
 have hn : n < (wayP l back).length:=(List.getElem?_eq_some_iff.1 hx).1
 have h1:=ToldX.of (landL_own l hg)
 have h2:=way_toldP back
 have h3:=hasP_told (encPk (wayP l back)) n
 rw [yes_has hn] at h3
 have h4:=hasB_told (x.map encB) k
 rw [no_hasB hk] at h4
 have g4:=at_pk hx
 have k2 : (0 : Int) ≤ (n : Int):=by omega
 have k3 : (n : Int) < (((wayP l back).length : Nat) : Int):=by omega
 simp only [encLn] at h1 ⊢
 refine wk0 ?_
 refine .inl ⟨4,_,_,[],[],_,[],⟨rfl,rfl,rfl,rfl,row_refl _,fun x hx => by cases hx⟩,rfl,h1,rfl,List.nodup_nil,?_⟩
 simp only [preP,preOff,flOf,List.map_nil,List.nil_append]
 refine wk0 ?_
 cases back with
 | true =>
  simp only [wayP,if_true] at h2 h3 g4 k3
  refine cg0 [[mP 0 16]] ?_ ?_
  ·exact obl_adr h2 obl_nil
  refine wk0 ?_
  refine cg [[vB true]] Bool.not_true ?_ ?_
  ·exact obl_cons h3 obl_nil
  refine wk Bool.not_true ?_
  refine cg [[vB false]] (an6 Bool.not_false @g4 @k2 @k3 @len_pk @Int.toNat_natCast) ?_ ?_
  ·exact obl_cons h4 obl_nil
  refine wk Bool.not_false ?_
  exact ValsLe.refl _
 | false =>
  simp only [wayP,Bool.false_eq_true,if_false] at h2 h3 g4 k3
  refine cg0 [[mP 0 15]] ?_ ?_
  ·exact obl_adr h2 obl_nil
  refine wk0 ?_
  refine cg [[vB true]] Bool.not_true ?_ ?_
  ·exact obl_cons h3 obl_nil
  refine wk Bool.not_true ?_
  refine cg [[vB false]] (an6 Bool.not_false @g4 @k2 @k3 @len_pk @Int.toNat_natCast) ?_ ?_
  ·exact obl_cons h4 obl_nil
  refine wk Bool.not_false ?_
  exact ValsLe.refl _
theorem spoil_one (l : Ln) (n k : Nat) (back : Bool) (hg : GoodL l) (x : List UInt8) (hx : (wayP l back)[n]? = some x) (hk : k < x.length) : Told Try.prog 44 [aD (encLn l),vI n,vI k,vB back] [aD (encLn (withP l back (spoilP (wayP l back) n k))),vI 0]:=by
 refine told_lane_Spoil rfl ?_
 have hn : n < (wayP l back).length:=(List.getElem?_eq_some_iff.1 hx).1
 obtain ⟨b,hb⟩ : ∃ b,x[k]? = some b:=⟨_,List.getElem?_eq_getElem hk⟩
 have hxl:=(hg.way back).2 x (List.mem_of_getElem? hx)
 have hwl:=(hg.way back).1
 have h1:=landL_ownD l hg back n x hx (by intro e; subst e; simp at hk)
 have h2:=way_toldP back
 have h3:=hasP_told ((encPk (wayP l back)).set n xD) n
 rw [show decide (0 ≤ (n : Int) ∧ (n : Int) < (((encPk (wayP l back)).set n xD).length : Int)) = true from by rw [List.length_set]; exact yes_has hn] at h3
 have h4:=hasB_told (x.map encB) k
 rw [yes_hasB hk] at h4
 have he:=enc_spoil hx hb
 have e3 : encB (turnB b) = vD (.int .u8 ((b.toNat ^^^ 1 : Nat) : Int)):=by unfold encB; rw [xor_turn]
 rw [e3] at he
 have hbl : b.toNat < 256:=b.toNat_lt
 have g4 : ((encPk (wayP l back)).set n xD)[n]? = some xD:=List.getElem?_set_self (by rw [len_pk]; exact hn)
 have k2 : (0 : Int) ≤ (n : Int):=by omega
 have k3 : (n : Int) < (((wayP l back).length : Nat) : Int):=by omega
 have k4 : (0 : Int) ≤ (k : Int):=by omega
 have k5 : (k : Int) < ((x.length : Nat) : Int):=by omega
 have k6 : (x.map encB)[k]? = some (vD (.int .u8 (b.toNat : Int))):=by rw [List.getElem?_map,hb]; rfl
 have k7 : inR .u8 (b.toNat : Int) = true:=inR_u8.2 (by omega)
 have k8 : inR .u8 1 = true:=by decide
 have k9 : Int.toNat 1 = 1:=rfl
 simp only [encLn,dLn] at h1 ⊢
 refine wk0 ?_
 cases back with
 | true =>
  simp only [wayP,withP,if_true] at h1 h2 h3 he g4 k3 hn ⊢
  refine .inr ⟨4,_,_,_,16,_,n,_,100001,100002,⟨rfl,rfl,rfl,rfl,row_refl _,fun x hx => by cases hx⟩,rfl,h1,rfl,by decide,by decide,by decide,by decide,rfl,rfl,?_⟩
  rw [he]
  refine wk (an3 @zmap @zset @len_pk) ?_
  refine cg [[mP 0 16]] (an2 @zset @len_pk) ?_ ?_
  ·exact obl_adr h2 obl_nil
  refine wk (an2 @zset @len_pk) ?_
  refine cg [[vB true]] (an3 Bool.not_true @zset @len_pk) ?_ ?_
  ·exact obl_cons h3 obl_nil
  refine wk (an3 Bool.not_true @zset @len_pk) ?_
  refine cg [[vB true]] (an8 Bool.not_true @g4 @k2 @k3 @zmap @zset @len_pk @Int.toNat_natCast) ?_ ?_
  ·exact obl_cons h4 obl_nil
  refine wk (an15 Bool.not_true @g4 @k2 @k3 @k4 @k5 @k6 @k7 @k8 @k9 @zmap @zset @zss @len_pk @Int.toNat_natCast) ?_
  exact ValsLe.refl _
 | false =>
  simp only [wayP,withP,Bool.false_eq_true,if_false] at h1 h2 h3 he g4 k3 hn ⊢
  refine .inr ⟨4,_,_,_,15,_,n,_,100001,100002,⟨rfl,rfl,rfl,rfl,row_refl _,fun x hx => by cases hx⟩,rfl,h1,rfl,by decide,by decide,by decide,by decide,rfl,rfl,?_⟩
  rw [he]
  refine wk (an3 @zmap @zset @len_pk) ?_
  refine cg [[mP 0 15]] (an2 @zset @len_pk) ?_ ?_
  ·exact obl_adr h2 obl_nil
  refine wk (an2 @zset @len_pk) ?_
  refine cg [[vB true]] (an3 Bool.not_true @zset @len_pk) ?_ ?_
  ·exact obl_cons h3 obl_nil
  refine wk (an3 Bool.not_true @zset @len_pk) ?_
  refine cg [[vB true]] (an8 Bool.not_true @g4 @k2 @k3 @zmap @zset @len_pk @Int.toNat_natCast) ?_ ?_
  ·exact obl_cons h4 obl_nil
  refine wk (an15 Bool.not_true @g4 @k2 @k3 @k4 @k5 @k6 @k7 @k8 @k9 @zmap @zset @zss @len_pk @Int.toNat_natCast) ?_
  exact ValsLe.refl _
theorem landL_spoil : CLSpoil 44:=by
 intro l n k back hg
 unfold packetL
 by_cases hn : n < 0 ∨ ((wayP l back).length : Int) ≤ n
 ·rw [if_pos hn]
  exact spoil_none l n k back hg hn
 ·rw [if_neg hn,if_neg (by decide),if_neg (by decide),if_pos rfl]
  obtain ⟨m,rfl⟩ : ∃ m : Nat,n = m:=⟨n.toNat,by omega⟩
  obtain ⟨x,hx⟩ : ∃ x,(wayP l back)[m]? = some x:=⟨_,List.getElem?_eq_getElem (by omega)⟩
  have e0 : (wayP l back).getD m [] = x:=by rw [List.getD_eq_getElem?_getD,hx]; rfl
  rw [Int.toNat_natCast,e0]
  by_cases hk : k < 0 ∨ (x.length : Int) ≤ k
  ·rw [if_pos hk]
   exact spoil_range l m k back hg x hx hk
  ·rw [if_neg hk]
   obtain ⟨i,rfl⟩ : ∃ i : Nat,k = i:=⟨k.toNat,by omega⟩
   rw [Int.toNat_natCast]
   exact spoil_one l m i back hg x hx (by omega)
theorem landW_own : CWOwn 20:=ownWd_told landL_own
theorem landW_new : CWNew 18:=newWd_told
theorem landW_do : CWDo 19:=lDo_told landL_own landL_speak (fun s m h => lput_told s m h) landL_come landL_lose landL_twice landL_spoil
theorem landF_playX : CFPlay 9:=landF_play landW_new landW_do
theorem landF_roundX : CFRound 17:=landF_round landL_own landL_come landW_do
theorem landF_settleX : CFSettle 10:=landF_settle landW_own landF_roundX landK_still
end Go.Proofs.Ytgaofjiidedcbad.ab
namespace Go.Proofs.Ytgaofjiidedcbad.leaf
set_option maxRecDepth 10000
open Go.RowKit
open mth
def I64 (n : Int) : Prop:=-9223372036854775808 ≤ n ∧ n ≤ 9223372036854775807
def Is (w : World) (v : Value) (xs : List Int) : Prop :=
 ∃ (a : Option Addr) (cap : Nat),v = .slice a xs.length cap ∧ xs.length ≤ cap ∧ (a = none → cap = 0) ∧ (∀ i,i < xs.length → ∃ x,a = some x ∧ w.cell? (x.add i) = some (.int .i64 (xs.getD i 0))) ∧ (∀ n ∈ xs,I64 n) ∧ cap ≤ maxLen
theorem Is.later {w w' : World} {v : Value} {xs : List Int} (h : Is w v xs) (hb : Below w.heap.size w w') : Is w' v xs:=by
 obtain ⟨a,cap,rfl,hlc,hno,hc,hn,hm⟩:=h
 refine ⟨a,cap,rfl,hlc,hno,fun i hi => ?_,hn,hm⟩
 obtain ⟨x,rfl,hcc⟩:=hc i hi
 exact ⟨x,rfl,(hb.cell (World.block_lt_of_cell? w _ hcc)).trans hcc⟩
theorem Is.drewN {w : World} {v : Value} {xs : List Int} (h : Is w v xs) (n : Nat) : Is (w.drewN n) v xs:=h
theorem Is.num {w : World} {v : Value} {xs : List Int} (h : Is w v xs) : ∀ n ∈ xs,I64 n:=by
 obtain ⟨a,cap,rfl,_,_,_,hn,_⟩:=h; exact hn
theorem Is.at {w : World} {a : Option Addr} {n cap : Nat} {xs : List Int} (h : Is w (.slice a n cap) xs) (hp : xs.length ≠ 0) : ∃ b off,a = some ⟨b,off,none⟩ ∧ ∀ j x,xs[j]? = some x → w.cell? ⟨b,off + j,none⟩ = some (.int .i64 x):=by
 obtain ⟨a',cap',he,hlc,hno,hc,hn,hm⟩:=h
 injection he with h1 _ h2
 subst h1 h2
 obtain ⟨x,rfl,hc0⟩:=hc 0 (by omega)
 obtain ⟨b,off,spot⟩:=x
 have hspot : spot = none:=by simpa [Addr.add] using World.cell?_spot hc0
 subst hspot
 refine ⟨b,off,rfl,fun j y hy => ?_⟩
 have hj : j < xs.length:=(List.getElem?_eq_some_iff.1 hy).1
 obtain ⟨x',hx',hcc⟩:=hc j hj
 simp at hx'
 subst hx'
 rw [Addr.add_lit] at hcc
 rw [hcc]
 simp [List.getD,hy]
theorem some_at {α : Type} {xs : List α} {k : Nat} (h : k < xs.length) : ∃ x,xs[k]? = some x:=⟨xs[k],List.getElem?_eq_getElem h⟩
set_option maxRecDepth 10000
theorem ite3 (s : Int) (d : List UInt8) (n : Int) (h : n = if s < 0 ∨ 2 < s then 3 else if 6 < d.length then 4 else 0) : Ending.returned (.int .i64 n) = .returned (.int .i64 (wrongMsgL s d)):=by
 rw [h]; rfl
def Cv (w : World) (v : Value) (c : Ch) : Prop :=
 ∃ dv ev,v = .agg #[.int .i64 c.kind,.int .i64 c.number,.int .i64 c.stream,.int .i64 c.place,dv,ev] ∧ Bs w dv c.data ∧ Is w ev c.early ∧ c.data.length ≤ maxLen ∧ I64 c.kind ∧ I64 c.number ∧ I64 c.stream ∧ I64 c.place
theorem Cv.later {w w' : World} {v : Value} {c : Ch} (h : Cv w v c) (hb : Below w.heap.size w w') : Cv w' v c:=by
 obtain ⟨dv,ev,rfl,h1,h2,r⟩:=h
 exact ⟨dv,ev,rfl,h1.later hb,h2.later hb,r⟩
set_option maxRecDepth 10000
def Mv (w : World) (v : Value) (m : Ms) : Prop:=∃ dv,v = .agg #[.int .i64 m.stream,dv] ∧ Bs w dv m.data ∧ m.data.length ≤ maxLen ∧ I64 m.stream
theorem Mv.later {w w' : World} {v : Value} {m : Ms} (h : Mv w v m) (hb : Below w.heap.size w w') : Mv w' v m:=by
 obtain ⟨dv,rfl,h1,r⟩:=h
 exact ⟨dv,rfl,h1.later hb,r⟩
theorem Bs.at {w : World} {a : Option Addr} {n cap : Nat} {xs : List UInt8} (h : Bs w (.slice a n cap) xs) (hp : xs.length ≠ 0) : ∃ b off,a = some ⟨b,off,none⟩ ∧ ∀ j x,xs[j]? = some x → w.cell? ⟨b,off + j,none⟩ = some (.int .u8 (x.toNat : Int)):=by
 obtain ⟨a',cap',he,hlc,hno,hc⟩:=h
 injection he with h1 _ h2
 subst h1 h2
 obtain ⟨x,rfl,hc0⟩:=hc 0 (by omega)
 obtain ⟨b,off,spot⟩:=x
 have hspot : spot = none:=by simpa [Addr.add] using World.cell?_spot hc0
 subst hspot
 refine ⟨b,off,rfl,fun j y hy => ?_⟩
 have hj : j < xs.length:=(List.getElem?_eq_some_iff.1 hy).1
 obtain ⟨x',hx',hcc⟩:=hc j hj
 simp at hx'
 subst hx'
 rw [Addr.add_lit] at hcc
 rw [hcc]
 simp [List.getD,hy]
set_option maxRecDepth 10000
set_option maxRecDepth 10000
theorem ownsI_later {w w' : World} {base n : Nat} {v : Value} {e : TypeId} {xs : List Value} (h : w.ownsRow base e 1 v n xs) (hb : Below w.heap.size w w') : w'.ownsRow base e 1 v n xs:=by
 obtain ⟨h1,h2⟩:=h
 refine ⟨h1,?_⟩
 rcases h2 with h2 | ⟨g,cap,cur,hv,hg,hh,r⟩
 ·exact .inl h2
 ·exact .inr ⟨g,cap,cur,hv,hg,(hb.block g (Array.getElem?_eq_some_iff.1 hh).1).trans hh,r⟩
set_option maxRecDepth 10000
theorem one_newB (w : World) (v : Value) : ∀ (j : Nat) (u : Value),[v][j]? = some u → (w.alloc (.cells #[v] 5)).cell? ((⟨w.heap.size,0,none⟩ : Addr).add j) = some u:=by
 intro j u hj
 rw [Addr.add_lit,Nat.zero_add,World.cell?_alloc_mark]
 simpa using hj
theorem Mv_zero (w : World) : Mv w (.agg #[.int .i64 0,.slice none 0 0]) ⟨0,[]⟩:=⟨_,rfl,Bs_nil w,by simp,by simp [I64]⟩
theorem pairs_even : ∀ (l : List UInt8) (y : UInt8),l.length % 2 = 0 → pairsL (l ++ [y]) = pairsL l
 | [],_,_ => rfl
 | [_],_,h => by simp at h
 | a :: b :: r,y,h => by
  have:=pairs_even r y (by simp at h; omega)
  simp only [List.cons_append,pairsL,this]
theorem pairs_odd : ∀ (l : List UInt8) (p y : UInt8),l.length % 2 = 0 → pairsL (l ++ [p] ++ [y]) = pairsL (l ++ [p]) ++ [b8 (16 * valB p + valB y)]
 | [],_,_,_ => rfl
 | [_],_,_,h => by simp at h
 | a :: b :: r,p,y,h => by
  have:=pairs_odd r p y (by simp at h; omega)
  simp only [List.cons_append,pairsL,this]
theorem len_pairs : ∀ (l : List UInt8),(pairsL l).length = l.length / 2
 | [] => rfl
 | [_] => by simp [pairsL]
 | a :: b :: r => by
  have:=len_pairs r
  simp only [pairsL,List.length_cons,this]; omega
theorem idx_val (y : UInt8) : firstIdx ⟨#[48,49,50,51,52,53,54,55,56,57,97,98,99,100,101,102]⟩ y = valB y:=by
 have h : ∀ n : Nat,n < 256 → firstIdx ⟨#[48,49,50,51,52,53,54,55,56,57,97,98,99,100,101,102]⟩ (UInt8.ofNat n) = valB (UInt8.ofNat n):=by decide +kernel
 have:=h y.toNat y.toNat_lt
 rwa [UInt8.ofNat_toNat] at this
theorem idx_run (y : UInt8) (w : World) : (callFunc 85 #[.string ⟨#[48,49,50,51,52,53,54,55,56,57,97,98,99,100,101,102]⟩,.int .u8 (y.toNat : Int)]).run Try.prog w = .ok (.value (.int .i64 (valB y))) w:=by
 rw [run_callFunc_extern Try.func85 (by kernel_rfl) (by kernel_rfl) (by kernel_rfl) (e:=Extern.BytealgIndexByte.indexByte) (by kernel_rfl),run_indexByte_string]
 have e : ((y.toNat : Int)).toNat.toUInt8 = y:=by simp
 rw [e,idx_val]
 rfl
set_option maxRecDepth 100000 in
theorem idxIn_any (y : UInt8) (w : World) : Calls Try.prog 74 #[.string ⟨#[48,49,50,51,52,53,54,55,56,57,97,98,99,100,101,102]⟩,.int .u8 (y.toNat : Int)] w fun e w' => e = .returned (.int .i64 (valB y)) ∧ w = w':=by
 have hr:=idx_run y
 go_enter Try.func74,Try.ntmps74
 go_wp2
 go_ret
 exact ⟨rfl,rfl⟩
set_option maxRecDepth 100000 in
theorem idx_any (y : UInt8) (w : World) : Calls Try.prog 61 #[.string ⟨#[48,49,50,51,52,53,54,55,56,57,97,98,99,100,101,102]⟩,.int .u8 (y.toNat : Int)] w fun e w' => e = .returned (.int .i64 (valB y)) ∧ w = w':=by
 go_enter Try.func61,Try.ntmps61
 go_wp2_with (go_at_call 74; refine (idxIn_any y _).mono ?_; rintro e w1 ⟨rfl,rfl⟩)
 go_ret
 exact ⟨rfl,rfl⟩
end Go.Proofs.Ytgaofjiidedcbad.leaf
