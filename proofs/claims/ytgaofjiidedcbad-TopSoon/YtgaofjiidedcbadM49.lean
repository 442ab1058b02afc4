import Derived.Test.YtgaofjiidedcbadM48
import Derived.Deep.RegionHeld
import Derived.Below
import Derived.WalkKit
import Derived.Laws.AppendOwnNone
import Derived.Test.YtgaofjiidedcbadM47
set_option maxHeartbeats 4000000
set_option linter.unusedVariables false
set_option linter.unusedSimpArgs false
namespace Go.Proofs.Ytgaofjiidedcbad.leaf
open Go.RowKit
open mth
end Go.Proofs.Ytgaofjiidedcbad.leaf
namespace Go.Proofs.Ytgaofjiidedcbad.regs
open Go Go.RowKit
section
variable {P : Program} {ops : Array Oper} {Q : Exit → Act → World → Prop} {md : Region.Mode}
end
end Go.Proofs.Ytgaofjiidedcbad.regs
namespace Go.Proofs.Ytgaofjiidedcbad.leaf
open Go.RowKit
open mth
theorem Bs_set {w : World} {v u : Value} {xs : List UInt8} {a : Addr} (h : Bs w v xs) (ha : w.cell? a = some u) (hu : ∀ n,u ≠ .int .u8 n) (u' : Value) : Bs (w.setCell a u') v xs:=by
 obtain ⟨x,cap,rfl,h1,h2,h3⟩:=h
 refine ⟨x,cap,rfl,h1,h2,fun i hi => ?_⟩
 obtain ⟨y,hy,hc⟩:=h3 i hi
 refine ⟨y,hy,?_⟩
 rw [World.cell?_setCell_other _ _ _ _ (fun e => ?_)]
 ·exact hc
 ·first
   | (rw [← e,ha] at hc; injection hc with hc; exact hu _ hc)
   | (rw [e,ha] at hc; injection hc with hc; exact hu _ hc)
theorem text_no (S : ByteArray) (w : World) (hl : S.size ≤ 140737488355328) (h : (S.size : Int) < 2 ∨ ∃ (h0 : 0 < S.size) (h1 : 1 < S.size),((S[0]'h0).toNat : Int) < 48 ∨ 57 < ((S[0]'h0).toNat : Int) ∨ ((S[1]'h1).toNat : Int) ≠ 58) :
  Calls Try.prog 31 #[.string S] w fun e w' => ∃ v',e = .returned (.tuple #[v',.bool false]) ∧ Mv w' v' ⟨0,[]⟩ ∧ Below w.heap.size w w':=by
 by_cases c0 : (S.size : Int) < 2
 ·clear h
  go_enter Try.func31,Try.ntmps31
  go_wp2
  exact bodyPost_ret (v:=.tuple #[.agg #[.int .i64 0,.slice none 0 0],.bool false]) (by simp [results,Try.results31,go_sem]) rfl ⟨_,rfl,Mv_zero _,(Below.refl _ _).alloc (Nat.le_refl _) _⟩
 ·obtain ⟨h0,h1,h⟩:=h.resolve_left c0
  have h2 : (2 : Int) ≤ (S.size : Int):=by omega
  clear c0
  by_cases c1 : ((S[0]'h0).toNat : Int) < 48
  ·clear h
   go_enter Try.func31,Try.ntmps31
   go_wp2
   exact bodyPost_ret (v:=.tuple #[.agg #[.int .i64 0,.slice none 0 0],.bool false]) (by simp [results,Try.results31,go_sem]) rfl ⟨_,rfl,Mv_zero _,(Below.refl _ _).alloc (Nat.le_refl _) _⟩
  ·by_cases c2 : 57 < ((S[0]'h0).toNat : Int)
   ·clear h
    go_enter Try.func31,Try.ntmps31
    go_wp2
    exact bodyPost_ret (v:=.tuple #[.agg #[.int .i64 0,.slice none 0 0],.bool false]) (by simp [results,Try.results31,go_sem]) rfl ⟨_,rfl,Mv_zero _,(Below.refl _ _).alloc (Nat.le_refl _) _⟩
   ·have c3 : (((S[1]'h1).toNat : Int) != 58) = true:=by simp; omega
    clear h
    go_enter Try.func31,Try.ntmps31
    go_wp2
    exact bodyPost_ret (v:=.tuple #[.agg #[.int .i64 0,.slice none 0 0],.bool false]) (by simp [results,Try.results31,go_sem]) rfl ⟨_,rfl,Mv_zero _,(Below.refl _ _).alloc (Nat.le_refl _) _⟩
theorem text_yes (S : ByteArray) (xs : List UInt8) (w : World) (hxs : S.data.toList = xs) (hl : S.size ≤ 140737488355328) (h2 : (2 : Int) ≤ (S.size : Int)) (h0 : 0 < S.size) (h1 : 1 < S.size) (c1 : 48 ≤ ((S[0]'h0).toNat : Int)) (c2 : ((S[0]'h0).toNat : Int) ≤ 57) (c3 : (((S[1]'h1).toNat : Int) != 58) = false) (R : Bool) (hR : Hid (R = digitsOk (xs.drop 2))) :
  Calls Try.prog 31 #[.string S] w fun e w' => ∃ v' d,e = .returned (.tuple #[v',.bool R]) ∧ Mv w' v' ⟨((S[0]'h0).toNat : Int) - 48,d⟩ ∧ (R = true → d = pairsL (xs.drop 2)) ∧ (∃ k dv,v' = .agg #[k,dv] ∧ FreshD w.heap.size dv) ∧ Below w.heap.size w w':=by
 have hbU : Below w.heap.size w (w.alloc (.cells #[.int .i64 0,.slice none 0 0] 28)):=(Below.refl _ _).alloc (Nat.le_refl _) _
 have hUg : (w.alloc (.cells #[.int .i64 0,.slice none 0 0] 28)).heap[w.heap.size]? = some (.cells #[.int .i64 0,.slice none 0 0] 28 (0,0)):=heap_alloc_new _ _
 have hz : w.heap.size < (w.alloc (.cells #[.int .i64 0,.slice none 0 0] 28)).heap.size:=by simp
 have hdx : (S.extract 2 S.size).data.toList = xs.drop 2:=by
  rw [← hxs,ByteArray.data_extract,Array.toList_extract]
  simp only [List.extract_eq_take_drop]
  rw [List.take_of_length_le (by simp)]
 have hq:=digits_any (S.extract 2 S.size) (xs.drop 2) (w.alloc (.cells #[.int .i64 0,.slice none 0 0] 28)) hdx (by rw [ByteArray.size_extract]; omega)
 rw [← hR.out] at hq
 have HQ:=hide hq
 have HBU:=hide hbU
 have HUG:=hide hUg
 have HZ:=hide hz
 clear hq hbU hUg hz hdx hxs
 go_enter Try.func31,Try.ntmps31
 go_wp2_with fail
 refine HQ.out.mono ?_
 rintro e w1 ⟨v1,rfl,⟨ys,hy,hyl,hyr⟩,hfr,hb1⟩
 have hfr:=hfr.mono HBU.out.size
 obtain ⟨a1,c1',rfl⟩ : ∃ a c,v1 = .slice a ys.length c:=by obtain ⟨a,c,rfl,-⟩:=hy; exact ⟨a,c,rfl⟩
 have hg1 : w1.heap[w.heap.size]? = some (.cells #[.int .i64 0,.slice none 0 0] 28 (0,0)):=(hb1.block _ HZ.out).trans HUG.out
 have g0 : w1.cell? ⟨w.heap.size,0,none⟩ = some (.int .i64 0):=by rw [cell_of_row w1 _ 0 _ 28 (0,0) hg1]; rfl
 have g1 : w1.cell? ⟨w.heap.size,1,none⟩ = some (.slice none 0 0):=by rw [cell_of_row w1 _ 1 _ 28 (0,0) hg1]; rfl
 have f0 : w1.frozen? ⟨w.heap.size,0,none⟩ = false:=by simp [World.frozen?,hg1]
 have f1 : w1.frozen? ⟨w.heap.size,1,none⟩ = false:=by simp [World.frozen?,hg1]
 have hb2 : Below w.heap.size w w1:=HBU.out.trans (hb1.mono HBU.out.size)
 have HY:=hide hy
 have HYL:=hide hyl
 have HYR:=hide hyr
 have HB:=hide hb2
 have HG1:=hide hg1
 obtain ⟨n1,hn1⟩ : ∃ n1,n1 = ys.length:=⟨_,rfl⟩
 rw [← hn1] at HY ⊢
 have HN1:=hide hn1
 have HFR:=hide hfr
 clear hfr hy hyl hyr hb1 hb2 HQ hg1 hn1
 go_wp2_with fail
 refine bodyPost_ret (v:=.tuple #[.agg #[.int .i64 (((S[0]'h0).toNat : Int) - 48),.slice a1 n1 c1'],.bool R]) (by simp [results,Try.results31,go_sem,g0,g1]) rfl ⟨_,ys,rfl,⟨_,rfl,?_,by have:=HYL.out; show ys.length ≤ maxLen; unfold maxLen; omega,by show I64 (((S[0]'h0).toNat : Int) - 48); unfold I64; omega⟩,HYR.out,⟨_,_,rfl,by have h:=HFR.out; rw [← HN1.out] at h; exact h⟩,?_⟩
 ·refine Bs_set (Bs_set (by have h:=HY.out; rw [HN1.out] at h ⊢; exact h) g0 (fun n h => by cases h) _) (u:=.slice none 0 0) ?_ (fun n h => by cases h) _
  rw [World.cell?_setCell_other _ _ _ _ (by intro e; cases e),g1]
 ·exact (HB.out.setCell (Nat.le_refl _) _).setCell (Nat.le_refl _) _
theorem text_any (S : ByteArray) (xs : List UInt8) (w : World) (hxs : S.data.toList = xs) (hl : S.size ≤ 140737488355328) :
  Calls Try.prog 31 #[.string S] w fun e w' => ∃ v' m,e = .returned (.tuple #[v',.bool (formL xs)]) ∧ Mv w' v' m ∧ (formL xs = true → m = rawM xs) ∧ (formL xs = true → ∃ k dv,v' = .agg #[k,dv] ∧ FreshD w.heap.size dv) ∧ Below w.heap.size w w':=by
 have hlen : xs.length = S.size:=by rw [← hxs,Array.length_toList]; rfl
 by_cases h2 : S.size < 2
 ·have e : formL xs = false:=by unfold formL; rw [hlen]; simp; omega
  rw [e]
  exact (text_no S w hl (.inl (by omega))).mono fun e w' ⟨v',h1,h2,h3⟩ => ⟨v',_,h1,h2,(fun h => by cases h),(fun h => by cases h),h3⟩
 ·have h0 : 0 < S.size:=by omega
  have h1 : 1 < S.size:=by omega
  have hat : ∀ (j : Nat) (hj : j < S.size),xs.getD j 0 = S[j]'hj:=by
   intro j hj
   rw [← hxs]
   simp only [List.getD,Array.getElem?_toList]
   rw [Array.getElem?_eq_getElem (by exact hj)]
   rfl
  have g0 : i8 (xs.getD 0 0) = ((S[0]'h0).toNat : Int):=by rw [hat 0 h0]; rfl
  have g1 : i8 (xs.getD 1 0) = ((S[1]'h1).toNat : Int):=by rw [hat 1 h1]; rfl
  by_cases hh : ((S[0]'h0).toNat : Int) < 48 ∨ 57 < ((S[0]'h0).toNat : Int) ∨ ((S[1]'h1).toNat : Int) ≠ 58
  ·have e : formL xs = false:=by
    rw [Bool.eq_false_iff]
    intro hf
    unfold formL at hf
    simp only [Bool.and_eq_true,decide_eq_true_eq] at hf
    rw [g0,g1,hlen] at hf
    omega
   rw [e]
   exact (text_no S w hl (.inr ⟨h0,h1,hh⟩)).mono fun e w' ⟨v',h1,h2,h3⟩ => ⟨v',_,h1,h2,(fun h => by cases h),(fun h => by cases h),h3⟩
  ·have e : formL xs = digitsOk (xs.drop 2):=by
    rw [Bool.eq_iff_iff]
    unfold formL digitsOk
    simp only [Bool.and_eq_true,decide_eq_true_eq,List.length_drop]
    rw [g0,g1,hlen]
    constructor
    ·rintro ⟨-,-,-,-,a5,a6⟩
     exact ⟨by omega,a6⟩
    ·rintro ⟨a5,a6⟩
     exact ⟨by omega,by omega,by omega,by omega,by omega,a6⟩
   rw [e]
   refine (text_yes S xs w hxs hl (by omega) h0 h1 (by omega) (by omega) (by simp only [bne_eq_false_iff_eq]; omega) _ rfl).mono fun e w' ⟨v',d,q1,q2,q3,qf,q4⟩ => ⟨v',_,q1,q2,fun h => ?_,fun _ => qf,q4⟩
   rw [q3 h]
   unfold rawM
   rw [g0]
theorem landParse_good (S : ByteArray) (xs : List UInt8) (w : World) (hxs : S.data.toList = xs) (hl : S.size ≤ 140737488355328) (hf : formL xs = true) (E : Int) (hE : Hid (E = wrongMsgL (rawM xs).stream (rawM xs).data)) (c : (E != 0) = false) :
  Calls Try.prog 22 #[.string S] w fun e w' => ∃ v',e = .returned (.tuple #[v',.int .i64 0]) ∧ Mv w' v' (rawM xs) ∧ (∃ k dv,v' = .agg #[k,dv] ∧ FreshD w.heap.size dv) ∧ Below w.heap.size w w':=by
 obtain ⟨U,hU⟩ : ∃ U,U = w.alloc (.cells #[.int .i64 0,.slice none 0 0] 28):=⟨_,rfl⟩
 have hbU : Below w.heap.size w U:=by rw [hU]; exact (Below.refl _ _).alloc (Nat.le_refl _) _
 have hUg : U.heap[w.heap.size]? = some (.cells #[.int .i64 0,.slice none 0 0] 28 (0,0)):=by rw [hU]; exact heap_alloc_new _ _
 have hz : w.heap.size < U.heap.size:=by rw [hU]; simp
 have hq:=text_any S xs U hxs hl
 rw [hf] at hq
 have HQ:=hide hq
 have HU:=hide hU
 have HBU:=hide hbU
 have HUG:=hide hUg
 have HZ:=hide hz
 clear hq hU hbU hUg hz hxs hf
 go_enter Try.func22,Try.ntmps22
 go_wp2_with fail
 rw [← HU.out]
 refine HQ.out.mono ?_
 rintro e w1 ⟨v1,m,rfl,hM,hm,hfq,hb1⟩
 obtain ⟨kq,dq,eq,hfd⟩:=hfq (by first | exact True.intro | rfl)
 have hfd:=hfd.mono HBU.out.size
 have hmm:=hm (by first | exact True.intro | rfl)
 rw [← hmm] at hE
 have HMM:=hide hmm
 clear hm hmm HQ
 obtain ⟨d1,rfl,hd1,hdl,hst⟩:=hM
 have hdq : dq = d1:=by injection eq with e1; injection e1 with e1; injection e1 with _ e2; injection e2 with e2 _; exact e2.symm
 rw [hdq] at hfd
 clear eq hdq hfq
 obtain ⟨a1,c1,rfl⟩ : ∃ a c,d1 = .slice a m.data.length c:=by obtain ⟨a,c,rfl,-⟩:=hd1; exact ⟨a,c,rfl⟩
 obtain ⟨n1,hn1⟩ : ∃ n1,n1 = m.data.length:=⟨_,rfl⟩
 rw [← hn1] at hd1 hfd ⊢
 have HFD:=hide hfd
 clear hn1 hfd
 obtain ⟨W,hW⟩ : ∃ W,W = w1.alloc (.cells #[.int .i64 m.stream,.slice a1 n1 c1] 28):=⟨_,rfl⟩
 have hbW : Below w1.heap.size w1 W:=by rw [hW]; exact (Below.refl _ _).alloc (Nat.le_refl _) _
 have hWg : W.heap[w.heap.size]? = some (.cells #[.int .i64 0,.slice none 0 0] 28 (0,0)):=(hbW.block _ (by have:=hb1.size; have:=HZ.out; omega)).trans ((hb1.block _ HZ.out).trans HUG.out)
 have hWm : W.heap[w1.heap.size]? = some (.cells #[.int .i64 m.stream,.slice a1 n1 c1] 28 (0,0)):=by rw [hW]; exact heap_alloc_new _ _
 have hzW : w.heap.size < W.heap.size:=by have:=hb1.size; have:=hbW.size; have:=HZ.out; omega
 have hb2 : Below U.heap.size U W:=hb1.trans (hbW.mono hb1.size)
 have hb3 : Below w.heap.size w W:=HBU.out.trans (hb2.mono HBU.out.size)
 have HD:=hide (hd1.later hbW)
 have HB:=hide hb3
 have HW:=hide hW
 have HWG:=hide hWg
 have HWM:=hide hWm
 have HZW:=hide hzW
 have HDL:=hide hdl
 have HST:=hide hst
 clear hb1 hb2 hb3 hbW hWg hWm hzW hd1 hdl hst hW
 go_wp2_with fail
 rw [← HW.out]
 refine (landWrongMsg_any m.stream (.slice a1 n1 c1) m.data W HD.out HDL.out).mono ?_
 rw [← hE.out]
 rintro e w2 ⟨rfl,hb2⟩
 have hg : w2.heap[w.heap.size]? = some (.cells #[.int .i64 0,.slice none 0 0] 28 (0,0)):=(hb2.block _ HZW.out).trans HWG.out
 have hgm : w2.heap[w1.heap.size]? = some (.cells #[.int .i64 m.stream,.slice a1 n1 c1] 28 (0,0)):=(hb2.block _ (Array.getElem?_eq_some_iff.1 HWM.out).1).trans HWM.out
 have g0 : w2.cell? ⟨w.heap.size,0,none⟩ = some (.int .i64 0):=by rw [cell_of_row w2 _ 0 _ 28 (0,0) hg]; rfl
 have g1 : w2.cell? ⟨w.heap.size,1,none⟩ = some (.slice none 0 0):=by rw [cell_of_row w2 _ 1 _ 28 (0,0) hg]; rfl
 have f0 : w2.frozen? ⟨w.heap.size,0,none⟩ = false:=by simp [World.frozen?,hg]
 have f1 : w2.frozen? ⟨w.heap.size,1,none⟩ = false:=by simp [World.frozen?,hg]
 have b0 : w2.cell? ⟨w1.heap.size,0,none⟩ = some (.int .i64 m.stream):=by rw [cell_of_row w2 _ 0 _ 28 (0,0) hgm]; rfl
 have b1 : w2.cell? ⟨w1.heap.size,1,none⟩ = some (.slice a1 n1 c1):=by rw [cell_of_row w2 _ 1 _ 28 (0,0) hgm]; rfl
 have HD2:=hide (HD.out.later hb2)
 have HB2:=hide (HB.out.trans (hb2.mono HB.out.size))
 clear hb2 hg hgm HW HWG HWM
 go_wp2_with fail
 refine bodyPost_ret (v:=.tuple #[.agg #[.int .i64 m.stream,.slice a1 n1 c1],.int .i64 0]) (by simp [results,Try.results22,go_sem,g0,g1]) rfl ⟨_,rfl,?_,⟨_,_,rfl,HFD.out⟩,?_⟩
 ·rw [← HMM.out]
  refine ⟨_,rfl,Bs_set (Bs_set HD2.out g0 (fun n h => by cases h) _) (u:=.slice none 0 0) ?_ (fun n h => by cases h) _,HDL.out,HST.out⟩
  rw [World.cell?_setCell_other _ _ _ _ (by intro e; cases e),g1]
 ·exact (HB2.out.setCell (Nat.le_refl _) _).setCell (Nat.le_refl _) _
set_option maxRecDepth 10000
set_option maxRecDepth 10000
theorem owns_form {w : World} {base e n : Nat} {v : Value} {xs : List Value} (h : w.ownsRow base e 1 v n xs) : ∃ a c,v = .slice a n c:=by
 obtain ⟨h1,⟨rfl,h0⟩ | ⟨g,cap,cur,rfl,_⟩⟩:=h
 ·subst h0; exact ⟨none,0,rfl⟩
 ·exact ⟨_,_,rfl⟩
end Go.Proofs.Ytgaofjiidedcbad.leaf
