import Derived.Test.YtgaofjiidedcbadM32
import Derived.Test.YtgaofjiidedcbadM20
import Derived.Test.YtgaofjiidedcbadM28
import Derived.ChangeOld
import Derived.SizedLaws
import Derived.Test.YtgaofjiidedcbadM19
import Derived.Test.YtgaofjiidedcbadProg
set_option maxHeartbeats 16000000
set_option linter.unusedVariables false
set_option linter.unusedSimpArgs false
namespace Go.Proofs.Ytgaofjiidedcbad.ab
open Go Go.RowKit
open mth
def CPFits (f : Nat) : Prop:=∀ told put : List Ms,told.length ≤ 1048576 → put.length ≤ 1048576 → (∀ m ∈ told,wrongMsgL m.stream m.data = 0) → Told Try.prog f [sD 2 (encMl told),sD 2 (encMl put)] [vB (fitsS told put)]
theorem fits_same (T : List Ms) : fitsS T T = true:=fitsS_of fun s => (preS_iff _ _).2 ⟨[],by simp⟩
def loudB (s : Sp) : Bool:=s.kind == 2 || s.kind == 6
def calmB (l : List Sp) : Bool:=!l.any loudB && decide (l.length ≤ 100)
def caS (l : List Sp) (i : Nat) : St:=⟨[(0,sD 7 (encSl l)),(5,sD 7 (encSl l)),(6,vI l.length),(7,vI i)],[],[]⟩
def CaJ (l : List Sp) : Nat → St → Prop:=fun m st => ∃ i : Nat,i ≤ l.length ∧ m = l.length - i ∧ (l.take i).any loudB = false ∧ st = caS l i
theorem calm_told (l : List Sp) (hl : l.length ≤ 9223372036854775807) : Told Try.prog 8 [sD 7 (encSl l)] [vB (calmB l)]:=by
 refine told_lktop_calm rfl ?_
 refine wk @len_sl ?_
 refine aw_loop (CaJ l) l.length (caS l 0) (Le.refl _) ⟨0,by omega,by omega,by simp,rfl⟩ ?_
 rintro m st ⟨i,hi,hm,ho,rfl⟩
 by_cases hlt : i < l.length
 ·obtain ⟨s,hs⟩ : ∃ s,l[i]? = some s:=⟨l[i],List.getElem?_eq_getElem hlt⟩
  have g1 : (i : Int) < (l.length : Int):=by omega
  have g2 : (0 : Int) ≤ (i : Int):=by omega
  have g3:=at_sl hs
  have g4 : inR .i64 ((i : Int) + 1) = true:=inR_of (by omega)
  have hmem : s ∈ l:=List.mem_of_getElem? hs
  have hno : loudB s = true → calmB l = false:=fun h => by
   unfold calmB
   rw [List.any_eq_true.2 ⟨s,hmem,h⟩]
   rfl
  have hnx : loudB s = false → Next (CaJ l) m (caS l (i + 1)):=fun h => ⟨l.length - (i + 1),_,by omega,Le.refl _,i + 1,by omega,rfl,by rw [List.take_add_one,hs,Option.toList_some,List.any_append,ho]; simp [h],rfl⟩
  generalize CaJ l = J at *
  simp only [caS,encSp,Int.natCast_add,Int.cast_ofNat_Int] at g3 hnx ⊢
  by_cases h1 : s.kind = 2
  ·have q1 : (s.kind == 2) = true:=by simpa using h1
   rw [hno (by unfold loudB; rw [q1]; rfl)]
   refine wk (an6 @g1 @g2 @g3 @q1 @len_sl @Int.toNat_natCast) ?_
   exact ValsLe.refl _
  have q1 : (s.kind == 2) = false:=by simpa using h1
  by_cases h2 : s.kind = 6
  ·have q2 : (s.kind == 6) = true:=by simpa using h2
   rw [hno (by unfold loudB; rw [q1,q2]; rfl)]
   refine wk (an7 @g1 @g2 @g3 @q1 @q2 @len_sl @Int.toNat_natCast) ?_
   exact ValsLe.refl _
  have q2 : (s.kind == 6) = false:=by simpa using h2
  have hnx':=hnx (by unfold loudB; rw [q1,q2]; rfl)
  clear hnx hno
  refine wk (an7 @g1 @g2 @g3 @q1 @q2 @len_sl @Int.toNat_natCast) ?_
  refine wk @g4 ?_
  exact hnx'
 have hin : i = l.length:=by omega
 subst hin
 have g1 : ¬ (l.length : Int) < (l.length : Int):=by omega
 rw [List.take_length] at ho
 have e : calmB l = decide ((l.length : Int) ≤ 100):=by
  unfold calmB
  rw [ho]
  simp only [Bool.not_false,Bool.true_and]
  exact decide_eq_decide.2 (by omega)
 rw [e]
 generalize CaJ l = J at *
 unfold caS
 refine wk (an2 @g1 @len_sl) ?_
 exact ValsLe.refl _
def msC : Ms:=⟨0,[99]⟩
def msG : Ms:=⟨2,[255,255,255,255,255,255]⟩
theorem parse_g : parseM [50,58,102,102,102,102,102,102,102,102,102,102,102,102] = msG:=by kernel_rfl
theorem parse_ge : parseE [50,58,102,102,102,102,102,102,102,102,102,102,102,102] = 0:=by kernel_rfl
def mineF : List Sp:=[putSp 0 msA,putSp 0 msB,putSp 0 msC]
def floodL (i : Nat) : List Sp:=mineF ++ List.replicate i (putSp 1 msG)
theorem flood_succ (i : Nat) : floodL (i + 1) = floodL i ++ [putSp 1 msG]:=by unfold floodL; rw [List.replicate_succ',List.append_assoc]
theorem flood_len (i : Nat) : (floodL i).length = i + 3:=by unfold floodL mineF; simp
theorem flood_only (i : Nat) (b : List Sp) : onlyW (floodL i ++ b) 0 = onlyW (mineF ++ onlyW b 0) 0:=by
 unfold onlyW floodL
 rw [List.filter_append,List.filter_append,List.filter_append,List.filter_filter]
 have e : (List.replicate i (putSp 1 msG)).filter (mineB 0) = []:=by
  rw [List.filter_eq_nil_iff]
  intro s hs
  rw [(List.mem_replicate.1 hs).2]
  decide
 rw [e,List.append_nil]
 congr 1
 congr 1
 funext s
 exact (Bool.and_self _).symm
theorem sl_app (l m : List Sp) : encSl (l ++ m) = encSl l ++ encSl m:=by simp [encSl]
def tl1 (b : List Sp) (m : Int) (i : Nat) : St:=⟨[(1,sD 7 (encSl b)),(5,sD 7 (encSl mineF)),(6,sD 7 (encSl (floodL i))),(38,vI m),(39,vI i)],[],[((6,none),(30,7,none)),((5,none),(30,7,none))]⟩
def TlJ (b : List Sp) (n : Nat) : Nat → St → Prop:=fun m st => ∃ i : Nat,i ≤ n ∧ m = n - i ∧ st = tl1 b n i
def tl2 (w x : Wd) (k : Nat) : St:=⟨[(8,pD 8 0),(11,pD 11 0),(70,vI k)],[(8,encWd (roundN k w)),(11,encWd (roundN k x))],[]⟩
theorem topFlood_good (hT : CTParse 22) (hP : CFPlay 9) (hR : CFRound 17) (hS : CFSettle 10) (hK : CKStill 11) (hO : CVOf 15) (hL : CVOnly 14) (hF : CPFits 16) (n : Nat) (hn : n ≤ 40) (b : List Sp) (hd : SmallD b) (hb : calmB b = true) : Told Try.prog 4 [vI n,sD 7 (encSl b)] [vB true]:=by
 refine told_lktop_TopFlood rfl ?_
 have hA:=aliveTop_told hT hP hS hK
 have hb1 : b.length ≤ 100:=by
  unfold calmB at hb
  simp only [Bool.and_eq_true,decide_eq_true_eq] at hb
  exact hb.2
 have hC:=calm_told b (by omega)
 rw [hb] at hC
 have n1 : ¬ (n : Int) < 0:=by omega
 have n2 : ¬ 40 < (n : Int):=by omega
 refine wk0 ?_
 refine cg [[vB true]] Bool.not_true ?_ ?_
 ·exact obl_cons hA obl_nil
 refine wk (an2 @n1 @n2) ?_
 refine cg [[vB true]] (an3 @n1 @n2 Bool.not_true) ?_ ?_
 ·exact obl_cons hC obl_nil
 refine wk0 ?_
 have a1:=tput_told hT 0 ⟨#[48,58,54,49]⟩ [48,58,54,49] rfl (by decide) (by decide)
 rw [show parseM [48,58,54,49] = msA from rfl] at a1
 have a2:=tput_told hT 0 ⟨#[49,58,54,50]⟩ [49,58,54,50] rfl (by decide) (by decide)
 rw [show parseM [49,58,54,50] = msB from rfl] at a2
 have a3:=tput_told hT 0 ⟨#[48,58,54,51]⟩ [48,58,54,51] rfl (by decide) (by decide)
 rw [show parseM [48,58,54,51] = msC from rfl] at a3
 have hsim:=sim_same 0 (newW 2) (flood_only n b)
 have hol:=only_len b 0
 have hfl:=flood_len n
 have l1 : (floodL n ++ b).length ≤ 160:=by rw [List.length_append,hfl]; omega
 have l2 : (mineF ++ onlyW b 0).length ≤ 160:=by rw [List.length_append,show mineF.length = 3 from rfl]; omega
 have p1:=hP.2.2 2 (floodL n ++ b) (by decide) l1
 have p2:=hP.2.2 2 (mineF ++ onlyW b 0) (by decide) l2
 rw [sl_app] at p1 p2
 obtain ⟨hw,hwt,_⟩:=good_run (good_new (by decide : 1 ≤ 2 ∧ 2 ≤ 3)) (floodL n ++ b) 160
 rw [List.take_of_length_le l1] at hw hwt
 obtain ⟨hx,hxt,_⟩:=good_run (good_new (by decide : 1 ≤ 2 ∧ 2 ≤ 3)) (mineF ++ onlyW b 0) 160
 rw [List.take_of_length_le l2] at hx hxt
 have ht0 : (newW 2).ticks = 0:=rfl
 rw [ht0] at hwt hxt
 have hwn : (runW (newW 2) (floodL n ++ b)).1.lanes.length = 2:=by rw [lenW_run]; rfl
 have c2 : ((2 : Nat) : Int) = 2:=rfl
 rw [c2] at p1 p2
 have o1:=hL b 0 (by omega) hd
 have em : encSl mineF = [aD (encSp (putSp 0 msA)),aD (encSp (putSp 0 msB)),aD (encSp (putSp 0 msC))]:=rfl
 generalize (runW (newW 2) (floodL n ++ b)).2 = e1 at *
 generalize (runW (newW 2) (floodL n ++ b)).1 = w at *
 generalize (runW (newW 2) (mineF ++ onlyW b 0)).2 = e2 at *
 generalize (runW (newW 2) (mineF ++ onlyW b 0)).1 = x at *
 generalize onlyW b 0 = ob at *
 generalize hs1 : putSp 0 msA = s1 at *
 generalize hs2 : putSp 0 msB = s2 at *
 generalize hs3 : putSp 0 msC = s3 at *
 clear l1 l2 hfl hb hC
 have b0 : (0 + 3) * 72 ≤ 140737488355328:=by decide
 simp only [encSp] at a1 a2 a3
 refine cg [[aD (encSp s1)],[aD (encSp s2)],[aD (encSp s3)]] @encSp.eq_1 ?_ ?_
 ·exact obl_cons a1 (obl_cons a2 (obl_cons a3 obl_nil))
 refine wk (an3 @b0 @zcons @znil) ?_
 simp only [encSp] at em
 rw [← em]
 have hf0 : floodL 0 = mineF:=List.append_nil _
 refine aw_loop (TlJ b n) n (tl1 b n 0) (by unfold tl1; rw [hf0]; exact Le.refl _) ⟨0,by omega,by omega,rfl⟩ ?_
 clear em a1 a2 a3 hf0
 rintro m st ⟨i,hi,hm,rfl⟩
 by_cases hlt : i < n
 ·have g1 : (i : Int) < (n : Int):=by omega
  have g4 : inR .i64 ((i : Int) + 1) = true:=inR_of (by omega)
  have b1 : ((floodL i).length + 1) * 72 ≤ 140737488355328:=by have:=flood_len i; omega
  have a1:=tput_told hT 1 ⟨#[50,58,102,102,102,102,102,102,102,102,102,102,102,102]⟩ [50,58,102,102,102,102,102,102,102,102,102,102,102,102] rfl (by decide) parse_ge
  rw [parse_g] at a1
  have hnx : Next (TlJ b n) m (tl1 b n (i + 1)):=⟨n - (i + 1),_,by omega,Le.refl _,i + 1,by omega,rfl,rfl⟩
  generalize TlJ b n = J at *
  unfold tl1 at hnx ⊢
  rw [flood_succ,sl_snoc] at hnx
  generalize floodL i = L at *
  generalize putSp 1 msG = s at *
  simp only [encSp,Int.natCast_add,Int.cast_ofNat_Int] at a1 hnx ⊢
  refine wk @g1 ?_
  refine cg [[aD (encSp s)]] (an3 @encSp.eq_1 @b1 @len_sl) ?_ ?_
  ·exact obl_cons a1 obl_nil
  refine wk @g4 ?_
  exact hnx
 have hin : i = n:=by omega
 subst hin
 have g1 : ¬ (i : Int) < (i : Int):=by omega
 generalize TlJ b i = J1 at *
 have b1 : ((floodL i).length + b.length) * 72 ≤ 140737488355328:=by have:=flood_len i; omega
 have b2 : (mineF.length + ob.length) * 72 ≤ 140737488355328:=by have : mineF.length = 3:=rfl; omega
 unfold tl1
 generalize floodL i = L at *
 generalize mineF = M at *
 simp only [encWd] at p1 p2 ⊢
 refine wk @g1 ?_
 refine cg [[sD 7 (encSl ob)]] @g1 ?_ ?_
 ·exact obl_cons o1 obl_nil
 refine wk0 ?_
 refine cg [[aD (encWd w),sD 1 (e1.map vI),vI 0]] (an3 @encWd.eq_1 @b1 @len_sl) ?_ ?_
 ·exact obl_cons p1 obl_nil
 refine wk0 ?_
 refine cg [[aD (encWd x),sD 1 (e2.map vI),vI 0]] (an3 @encWd.eq_1 @b2 @len_sl) ?_ ?_
 ·exact obl_cons p2 obl_nil
 refine wk @zbne ?_
 refine aw_loop (fun m st => ∃ k : Nat,k ≤ 30 ∧ m = 30 - k ∧ st = tl2 w x k) 30 (tl2 w x 0) (Le.refl _) ⟨0,by omega,by omega,rfl⟩ ?_
 rintro m st ⟨k,hk,hm,rfl⟩
 by_cases hlt : k < 30
 ·have g1 : (k : Int) < 30:=by omega
  have g4 : inR .i64 ((k : Int) + 1) = true:=inR_of (by omega)
  have h1:=hR (roundN k w) (hw.rounds k) (by rw [roundN_ticks]; omega)
  rw [show roundW (roundN k w) = roundN (k + 1) w from rfl] at h1
  have h2:=hR (roundN k x) (hx.rounds k) (by rw [roundN_ticks]; omega)
  rw [show roundW (roundN k x) = roundN (k + 1) x from rfl] at h2
  have v1:=hO (roundN k w) 0 (hw.rounds k)
  have v2:=hO (roundN k x) 0 (hx.rounds k)
  have hs:=sim_of (hsim.rounds k)
  rw [show ((0 : Nat) : Int) = 0 from rfl] at hs
  rw [← hs] at v2
  have hkl : (roundN k w).lanes.length = 2:=by rw [roundN_len,hwn]
  have hin:=of_in (w:=roundN k w) (t:=0) (by omega)
  rw [show ((0 : Nat) : Int) = 0 from rfl] at hin
  rw [hin] at v1 v2
  have hmem : (roundN k w).lanes.getD 0 zeroL ∈ (roundN k w).lanes:=List.mem_of_getElem? (getD_get (by omega))
  have hgl:=(hw.rounds k).l _ hmem
  have hq:=hF ((roundN k w).lanes.getD 0 zeroL).r.told ((roundN k w).lanes.getD 0 zeroL).r.told (by have:=hgl.r.t; have:=hgl.r.p; have:=hgl.r.n; have:=hgl.r.l; omega) (by have:=hgl.r.t; have:=hgl.r.p; have:=hgl.r.n; have:=hgl.r.l; omega) hgl.r.m
  rw [fits_same] at hq
  have hnx : Next (fun m st => ∃ k : Nat,k ≤ 30 ∧ m = 30 - k ∧ st = tl2 w x k) m (tl2 w x (k + 1)):=⟨30 - (k + 1),_,by omega,Le.refl _,k + 1,by omega,rfl,rfl⟩
  clear hs hin hkl hmem hgl
  generalize (fun m st => ∃ k : Nat,k ≤ 30 ∧ m = 30 - k ∧ st = tl2 w x k) = J at *
  unfold tl2 at hnx ⊢
  generalize (roundN k w).lanes.getD 0 zeroL = q at *
  generalize roundN (k + 1) w = y2 at *
  generalize roundN k w = y1 at *
  generalize roundN (k + 1) x = z2 at *
  generalize roundN k x = z1 at *
  simp only [encWd,encLn,Int.natCast_add,Int.cast_ofNat_Int] at h1 h2 v1 v2 hnx ⊢
  refine wk @g1 ?_
  refine cg [[aD (encLn q),vB true]] @encLn.eq_1 ?_ ?_
  ·exact obl_cons v1 obl_nil
  refine wk0 ?_
  refine cg [[aD (encLn q),vB true]] @encLn.eq_1 ?_ ?_
  ·exact obl_cons v2 obl_nil
  refine wk (an4 Bool.not_true @zbne @len_ml @zmap) ?_
  refine cg [[vB true]] (an2 Bool.not_true @zbne) ?_ ?_
  ·exact obl_cons hq obl_nil
  refine wk Bool.not_true ?_
  refine cd [[aD (encWd y2)],[aD (encWd z2)]] @encWd.eq_1 ?_ ?_
  ·exact obl_cons h1 (obl_cons h2 obl_nil)
  refine wk @g4 ?_
  exact hnx
 have hin : k = 30:=by omega
 subst hin
 have g1 : ¬ ((30 : Nat) : Int) < 30:=by omega
 generalize (fun m st => ∃ k : Nat,k ≤ 30 ∧ m = 30 - k ∧ st = tl2 w x k) = J2 at *
 unfold tl2
 generalize ((30 : Nat) : Int) = c at *
 refine wk @g1 ?_
 exact ValsLe.refl _
theorem topFlood_told (hT : CTParse 22) (hP : CFPlay 9) (hR : CFRound 17) (hS : CFSettle 10) (hK : CKStill 11) (hO : CVOf 15) (hL : CVOnly 14) (hF : CPFits 16) (n : Int) (b : List Sp) (hb : b.length ≤ 1048576) (hd : SmallD b) : Told Try.prog 4 [vI n,sD 7 (encSl b)] [vB true]:=by
 by_cases h : n < 0 ∨ 40 < n ∨ calmB b = false
 ·refine told_lktop_TopFlood rfl ?_
  have hA:=aliveTop_told hT hP hS hK
  refine wk0 ?_
  refine cg [[vB true]] Bool.not_true ?_ ?_
  ·exact obl_cons hA obl_nil
  by_cases n1 : n < 0
  ·refine wk @n1 ?_
   exact ValsLe.refl _
  by_cases n2 : 40 < n
  ·refine wk (an2 @n1 @n2) ?_
   exact ValsLe.refl _
  have n3 : calmB b = false:=by
   rcases h with h | h | h
   ·exact absurd h n1
   ·exact absurd h n2
   ·exact h
  have hC:=calm_told b (by omega)
  rw [n3] at hC
  refine wk (an2 @n1 @n2) ?_
  refine cg [[vB false]] (an3 @n1 @n2 Bool.not_false) ?_ ?_
  ·exact obl_cons hC obl_nil
  refine wk0 ?_
  exact ValsLe.refl _
 ·obtain ⟨q,rfl⟩ : ∃ q : Nat,n = q:=⟨n.toNat,by omega⟩
  refine topFlood_good hT hP hR hS hK hO hL hF q (by omega) b hd ?_
  cases e : calmB b with
  | true => rfl
  | false => exact absurd (.inr (.inr e)) h
end Go.Proofs.Ytgaofjiidedcbad.ab
namespace Go.Proofs.Ytgaofjiidedcbad.topFlood
open Go Go.ChangeShapes Go.WideShapes Go.RowKit
open ab mth
set_option maxRecDepth 100000 in
theorem lifted (hT : CTParse 22) (hP : CFPlay 9) (hR : CFRound 17) (hS : CFSettle 10) (hK : CKStill 11) (hO : CVOf 15) (hL : CVOnly 14) (hF : CPFits 16) (os : Os) (started : os.Started) (H : Type) (enc : TypeId × Value → H) (F : Stop.Interp) :
  ReturnsInHanded {} Try.checked os 4 .any ((Rows.OpenSpec.upto Rows.topFloodSpec).pre6 enc Try.prog Try.f4 Rows.topFloodUptoRow.domain false) (((Rows.OpenSpec.upto Rows.topFloodSpec).at F).post enc Try.prog Try.f4 false true false false):=by
 refine returnsInHanded_of_cond (C:=Try.checked) (s:=Rows.OpenSpec.upto Rows.topFloodSpec) (k:=Rows.uptoSmall) rfl own started (by kernel_rfl) Try.func4
  (OpenSpec.witness (enc:=enc) (C:=Try.checked) (s:=Rows.OpenSpec.upto Rows.topFloodSpec) (k:=Rows.uptoSmall) rfl false ⟨#[],#[.int .i64 0,.slice none 0 0],[]⟩ 8 (by kernel_rfl) (by kernel_rfl) (by kernel_rfl)
   (x:=([.lit (.int .i64 0),.nil],[],[])) (by kernel_rfl) rfl (by kernel_rfl)) ?_
 intro W base args ds gs before hval0 hW0 _ hk _
 have hval : ∀ (j : Nat) t v,Try.f4.params[j]? = some t → args[j]? = some v → Value.okWide Try.prog W .any base t v:=hval0
 have hW':=hW0
 obtain ⟨p,q,hA0,hV,rfl,hfz,hnd⟩:=hW0
 have hA : DataW.TrodAll enc Try.prog W 0 (fun _ => true) true Try.f4.params.toList args.toList ds p:=hA0
 rw [Try.params4] at hA hval
 obtain ⟨v0,vs0,d0,ds0,p0,q0,hargs,rfl,rfl,h0,r0⟩:=trodAll_cons hA
 obtain ⟨v1,vs1,d1,ds1,p1,q1,rfl,rfl,rfl,h1,r1⟩:=trodAll_cons r0
 obtain ⟨rfl,rfl,rfl⟩:=trodAll_nil r1
 obtain rfl : args = #[v0,v1]:=by cases args; simp_all
 obtain ⟨rfl,rfl⟩:=trodVars_none hV
 have lt0 : ∀ x ∈ p0,x.block < W.heap.size:=by obtain ⟨m,hm⟩:=h0; exact DataW.trod_lt m _ _ _ hm
 have lt1 : ∀ x ∈ p1,x.block < W.heap.size:=by obtain ⟨m,hm⟩:=h1; exact DataW.trod_lt m _ _ _ hm
 obtain ⟨n0,rfl⟩:=okWide_int Try.underlying3 (hval 0 3 v0 rfl rfl)
 obtain ⟨a1,len1,cap1,rfl⟩:=okWide_slice Try.underlying22 (hval 1 22 v1 rfl rfl)
 obtain ⟨x1,hM1,hu1,hd1⟩:=(by obtain ⟨fuel,hf⟩:=h1; exact in_stepsB hf : ∃ cs : List Sp,CRep (AllOf W) W (sD 7 (encSl cs)) (.slice a1 len1 cap1) ∧ cs.length ≤ Rows.uptoBulk d1 ∧ ∀ c ∈ cs,c.msg.data.length ≤ Rows.uptoBulk d1)
 have hl1:=hM1.len
 rw [len_sl] at hl1
 have hbd : Rows.uptoBulkAll ([d0,d1] ++ []) ≤ 1048576:=of_decide_eq_true hk
 simp only [List.append_nil,Rows.uptoBulkAll] at hbd
 clear hA0 hval0
 refine ((topFlood_told hT hP hR hS hK hO hL hF n0 x1 (by omega) (fun c hc => by have:=hd1 c hc; omega)).yes (W:=W) (vs:=[.int .i64 n0,.slice a1 len1 cap1]) (Vals.cons (.inl (CRep.v rfl)) (Vals.cons (.inl hM1) Vals.nil))).mono fun e W' ⟨he,bel⟩ => ?_
 subst he
 exact ⟨_,rfl,_,_,_,[],_,[],hW',trodAll_mk1 (shut_bool Try.underlying4 _),(trodAll_cons_mk (Below.trod laidOut (by kernel_rfl) (of_decide_eq_true (by kernel_rfl)) h0 bel lt0) (trodAll_cons_mk (Below.trod laidOut (by kernel_rfl) (of_decide_eq_true (by kernel_rfl)) h1 bel lt1) trodAll_mk0)),rfl,bel.frame _,fun h => by cases h⟩
theorem over (hT : CTParse 22) (hP : CFPlay 9) (hR : CFRound 17) (hS : CFSettle 10) (hK : CKStill 11) (hO : CVOf 15) (hL : CVOnly 14) (hF : CPFits 16) : Rows.topFloodUptoRow.holds Try.pinned (Rows.OpenSpec.upto Rows.topFloodSpec) :=
 OpenClaim.holds_of_cond 4 Try.f4 rfl rfl rfl rfl rfl rfl rfl ⟨rfl,rfl,rfl,rfl,rfl⟩ rfl rfl rfl rfl rfl (by kernel_rfl) Try.func4 (by kernel_rfl)
  (of_decide_eq_true (by kernel_rfl)) (by unfold Func.isWrapper; first | (rw [if_pos (by decide +kernel)]; kernel_rfl) | (rw [if_neg (by decide +kernel)]; exact ⟨rfl,rfl⟩))
  (fun os started H enc _ F => lifted hT hP hR hS hK hO hL hF os started H enc F)
end Go.Proofs.Ytgaofjiidedcbad.topFlood
namespace Go.Proofs.Ytgaofjiidedcbad.ab
set_option maxRecDepth 100000
open Go Go.RowKit
def Q14r0 : IC:=cReg Try.prog [⟨some 4,none,iAlo 4 [zS,zI]⟩,⟨some 5,none,iMov 5 (.const (.slice none 0 0)) true⟩,⟨some 6,none,iMov 6 (.const (.int .i64 0)) true⟩] [0,1,4] [4]
def Q14r1 : IC:=cReg Try.prog [xM 13 0,xV1 14 18 13,xM 12 14,xE 15 12 0,xE 16 12 1,⟨some 7,none,iAlo 7 [zS,zI]⟩,xS 2 7 15,xT 8 16] [1,4,7,8] [4,7]
def Q14r2 : IC:=cReg Try.prog [xM 17 8,xC 18 .neq 17 0] [1,4,7,8,18] [4,7]
def Q14r3 : IC:=cReg Try.prog [⟨some 19,none,iBld 19 [zS,zI] [] []⟩,xM 20 8,xS 2 4 19,⟨some 5,none,iMov 5 (.const (.slice none 0 0)) true⟩,xT 6 20] [4,5,6] [4]
def Q14c1a : IC:=(cSeq Q14r3 cRet)
def Q14c1 : IC:=cCond (.tmp 18) Q14c1a cSkip
def Q14r4 : IC:=cReg Try.prog [xM 21 1,xN 22 21,xC 23 .gtr 22 160] [1,4,7,23] [4,7]
def Q14r5 : IC:=cReg Try.prog [⟨some 24,none,iBld 24 [zS,zI] [] []⟩,xS 2 4 24,⟨some 5,none,iMov 5 (.const (.slice none 0 0)) true⟩,⟨some 6,none,iMov 6 (.const (.int .i64 5)) true⟩] [4,5,6] [4]
def Q14c2a : IC:=(cSeq Q14r5 cRet)
def Q14c2 : IC:=cCond (.tmp 23) Q14c2a cSkip
def Q14r6 : IC:=cReg Try.prog [xM 25 1,xN 26 25,⟨some 27,none,iMkS 27 1 8 (zI) (.tmp 26) (.tmp 26)⟩,xT 9 27] [1,4,7,9] [4,7,100027]
def Q14r7 : IC:=cReg Try.prog [xM 28 1,xN 29 28,⟨some 30,none,iMov 30 (.const (.int .i64 0)) false⟩] [4,7,9,28,29,30] [4,7,100027]
def Q14r8 : IC:=cReg Try.prog [xB 31 .lss 30 29] [4,7,9,28,29,30,31] [4,7,100027]
def Q14c5 : IC:=cCond (.tmp 31) cSkip (cExit 0)
def Q14r9 : IC:=cReg Try.prog [xM 32 30,xI 33 7 28 30,xA 34 7 33,⟨some 11,none,iAlo 11 [zI,zI,zI,zI,zF,zI,zS]⟩,xT 10 32,xS 7 11 34] [4,7,9,10,11,28,29,30] [4,7,11,100027]
def Q14r10 : IC:=cReg Try.prog [xM 36 9,xM 37 10,xA 38 2 7,xA 39 7 11,xV2 40 19 38 39,xM 35 40,xE 41 35 0,xE 42 35 1,xS 2 7 41,xI 43 1 36 37,xS 1 43 42] [4,7,9,28,29,30] [4,7,100027]
def Q14b6 : IC:=cBlock 1 (cSeq Q14r9 Q14r10)
def Q14r11 : IC:=cReg Try.prog [xC 44 .add 30 1,xM 30 44] [4,7,9,28,29,30] [4,7,100027]
def Q14l4a : IC:=(cSeq Q14r8 (cSeq Q14c5 (cSeq Q14b6 Q14r11)))
def Q14l4 : IC:=cLoop Q14l4a
def Q14b3 : IC:=cBlock 0 Q14l4
def Q14r12 : IC:=cReg Try.prog [xA 45 2 7,xM 46 9,xS 2 4 45,xT 5 46,⟨some 6,none,iMov 6 (.const (.int .i64 0)) true⟩] [4,5,6] [4]
def fair_Play : IC:=(cSeq Q14r0 (cSeq Q14r1 (cSeq (cSeq Q14r2 Q14c1) (cSeq (cSeq Q14r4 Q14c2) (cSeq Q14r6 (cSeq (cSeq Q14r7 Q14b3) (cSeq Q14r12 cRet)))))))
theorem told_fair_Play {args r : List D} (hl : args.length = 2) (h : fair_Play (start args) (fin [(4,some (2,true)),(5,none),(6,none)] r)) : Told Try.prog 9 args r :=
 told_of follows Try.func9 rfl (an:=[([],[0,1,4],[4],[]),([],[1,4,7,8],[4,7],[]),([],[1,4,7,8,18],[4,7],[]),([],[4,5,6],[4],[]),([],[1,4,7,23],[4,7],[]),([],[4,5,6],[4],[]),([],[1,4,7,9],[4,7,100027],[]),([],[4,7,9,28,29,30],[4,7,100027],[]),([],[4,7,9,28,29,30,31],[4,7,100027],[]),([],[4,7,9,10,11,28,29,30],[4,7,11,100027],[]),([],[4,7,9,28,29,30],[4,7,100027],[]),([],[4,7,9,28,29,30],[4,7,100027],[]),([],[4,5,6],[4],[])]) (by kernel_rfl) (by kernel_rfl) (by rw [hl]; decide +kernel) h
def Q17r0 : IC:=cReg Try.prog [xX 2 0,⟨some 4,none,iAlo 4 [zS,zI,zI,zI,zI,zS,zI,zI,zS,zI,zI,zI,zS,zS,zF,zS,zS]⟩] [1,2,4] [2,4]
def Q17r1 : IC:=cReg Try.prog [xA 8 17 2,xM 9 1,⟨some 10,none,iCall 10 38 [(.tmp 8),(.const (.int .i64 0)),(.tmp 9)]⟩,xM 7 10,xE 11 7 0,xE 12 7 1,⟨some 5,none,iAlo 5 [zS,zI,zI,zI,zI,zS,zI,zI,zS,zI,zI,zI,zS,zS,zF,zS,zS]⟩,xS 17 5 11,xT 6 12] [1,2,4,5,6] [2,4,5]
def Q17r2 : IC:=cReg Try.prog [xM 13 6,xC 14 .neq 13 0] [1,2,4,5,14] [2,4,5]
def Q17r3 : IC:=cReg Try.prog [xA 15 17 2,xS 17 4 15] [4] [4]
def Q17c4a : IC:=(cSeq Q17r3 cRet)
def Q17c4 : IC:=cCond (.tmp 14) Q17c4a cSkip
def Q17r4 : IC:=cReg Try.prog [xA 16 17 5,xS 17 2 16] [1,2,4] [2,4]
def Q17b3 : IC:=cBlock 1 (cSeq Q17r1 (cSeq (cSeq Q17r2 Q17c4) Q17r4))
def Q17l2a : IC:=Q17b3
def Q17l2 : IC:=cLoop Q17l2a
def Q17b1 : IC:=cBlock 0 Q17l2
def fair_allCome : IC:=(cSeq Q17r0 Q17b1)
theorem told_fair_allCome {args r : List D} (hl : args.length = 2) (h : fair_allCome (start args) (fin [(4,some (17,true))] r)) : Told Try.prog 27 args r :=
 told_of follows Try.func27 rfl (an:=[([],[1,2,4],[2,4],[]),([],[1,2,4,5,6],[2,4,5],[]),([],[1,2,4,5,14],[2,4,5],[]),([],[4],[4],[]),([],[1,2,4],[2,4],[])]) (by kernel_rfl) (by kernel_rfl) (by rw [hl]; decide +kernel) h
def Q16r0 : IC:=cReg Try.prog [xX 1 0,⟨some 2,none,iAlo 2 [zS,zI]⟩,⟨some 3,none,iMov 3 (.const (.int .i64 0)) true⟩] [1,2] [1,2]
def Q16r1 : IC:=cReg Try.prog [xA 5 2 1,xV1 6 20 5,xS 2 1 6] [1,2] [1,2]
def Q16r2 : IC:=cReg Try.prog [⟨some 4,none,iMov 4 (.const (.int .i64 0)) true⟩] [1,2,4] [1,2]
def Q16r3 : IC:=cReg Try.prog [xM 7 4,xC 8 .lss 7 200,xM 9 8,xG 9 true (xA 10 2 1),xG 9 true (xV1 11 11 10),xG 9 true (xO 12 11),xQ 13 9 12] [1,2,4,13] [1,2]
def Q16c3 : IC:=cCond (.tmp 13) cSkip (cExit 0)
def Q16r4 : IC:=cReg Try.prog [xA 14 2 1,xV1 15 17 14,xS 2 1 15] [1,2,4] [1,2]
def Q16r5 : IC:=cReg Try.prog [xM 16 4,xC 17 .add 16 1,xT 4 17] [1,2,4] [1,2]
def Q16b4 : IC:=cBlock 1 (cSeq Q16r4 Q16r5)
def Q16l2a : IC:=(cSeq (cSeq Q16r3 Q16c3) Q16b4)
def Q16l2 : IC:=cLoop Q16l2a
def Q16b1 : IC:=cBlock 0 Q16l2
def Q16r6 : IC:=cReg Try.prog [xA 18 2 1,xM 19 4,xS 2 2 18,xT 3 19] [2,3] [2]
def fair_Settle : IC:=(cSeq Q16r0 (cSeq Q16r1 (cSeq Q16r2 (cSeq Q16b1 (cSeq Q16r6 cRet)))))
theorem told_fair_Settle {args r : List D} (hl : args.length = 1) (h : fair_Settle (start args) (fin [(2,some (2,true)),(3,none)] r)) : Told Try.prog 10 args r :=
 told_of follows Try.func10 rfl (an:=[([],[1,2],[1,2],[]),([],[1,2],[1,2],[]),([],[1,2,4],[1,2],[]),([],[1,2,4,13],[1,2],[]),([],[1,2,4],[1,2],[]),([],[1,2,4],[1,2],[]),([],[2,3],[2],[])]) (by kernel_rfl) (by kernel_rfl) (by rw [hl]; decide +kernel) h
end Go.Proofs.Ytgaofjiidedcbad.ab
