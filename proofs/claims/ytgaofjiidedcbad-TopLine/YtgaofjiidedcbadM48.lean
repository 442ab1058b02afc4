import Derived.Test.YtgaofjiidedcbadM47
import Derived.Test.YtgaofjiidedcbadM46
import Derived.Laws.AppendOwnNone
set_option maxHeartbeats 4000000
set_option linter.unusedVariables false
set_option linter.unusedSimpArgs false
namespace Go.Proofs.Ytgaofjiidedcbad.leaf
open Go.RowKit
open mth
theorem landParse_good (S : ByteArray) (xs : List UInt8) (w : World) (hxs : S.data.toList = xs) (hl : S.size ≤ 140737488355328) (hf : formL xs = true) (E : Int) (hE : Hid (E = wrongMsgL (rawM xs).stream (rawM xs).data)) (c : (E != 0) = false) :
  Calls Try.prog 22 #[.string S] w fun e w' => ∃ v',e = .returned (.tuple #[v',.int .i64 0]) ∧ Mv w' v' (rawM xs) ∧ (∃ k dv,v' = .agg #[k,dv] ∧ FreshD w.heap.size dv) ∧ Below w.heap.size w w':=by
 obtain ⟨U,hU⟩ : ∃ U,U = w.alloc (.cells #[.int .i64 0,.slice none 0 0] 28):=⟨_,rfl⟩
 have hbU : Below w.heap.size w U:=by rw [hU]; exact (Below.refl _ _).alloc (Nat.le_refl _) _
 have hUg : U.heap[w.heap.size]? = some (.cells #[.int .i64 0,.slice none 0 0] 28 (0,0)):=by rw [hU]; exact heap_alloc_new _ _
 have hz : w.heap.size < U.heap.size:=by rw [hU]; simp
 have hq:=text_any S xs U hxs hl
 rw [hf] at hq
 have HQ:=hide hq
 have HU:=hide hU
 have HBU:=hide hbU
 have HUG:=hide hUg
 have HZ:=hide hz
 clear hq hU hbU hUg hz hxs hf
 go_enter Try.func22,Try.ntmps22
 go_wp2_with fail
 rw [← HU.out]
 refine HQ.out.mono ?_
 rintro e w1 ⟨v1,m,rfl,hM,hm,hfq,hb1⟩
 obtain ⟨kq,dq,eq,hfd⟩:=hfq (by first | exact True.intro | rfl)
 have hfd:=hfd.mono HBU.out.size
 have hmm:=hm (by first | exact True.intro | rfl)
 rw [← hmm] at hE
 have HMM:=hide hmm
 clear hm hmm HQ
 obtain ⟨d1,rfl,hd1,hdl,hst⟩:=hM
 have hdq : dq = d1:=by injection eq with e1; injection e1 with e1; injection e1 with _ e2; injection e2 with e2 _; exact e2.symm
 rw [hdq] at hfd
 clear eq hdq hfq
 obtain ⟨a1,c1,rfl⟩ : ∃ a c,d1 = .slice a m.data.length c:=by obtain ⟨a,c,rfl,-⟩:=hd1; exact ⟨a,c,rfl⟩
 obtain ⟨n1,hn1⟩ : ∃ n1,n1 = m.data.length:=⟨_,rfl⟩
 rw [← hn1] at hd1 hfd ⊢
 have HFD:=hide hfd
 clear hn1 hfd
 obtain ⟨W,hW⟩ : ∃ W,W = w1.alloc (.cells #[.int .i64 m.stream,.slice a1 n1 c1] 28):=⟨_,rfl⟩
 have hbW : Below w1.heap.size w1 W:=by rw [hW]; exact (Below.refl _ _).alloc (Nat.le_refl _) _
 have hWg : W.heap[w.heap.size]? = some (.cells #[.int .i64 0,.slice none 0 0] 28 (0,0)):=(hbW.block _ (by have:=hb1.size; have:=HZ.out; omega)).trans ((hb1.block _ HZ.out).trans HUG.out)
 have hWm : W.heap[w1.heap.size]? = some (.cells #[.int .i64 m.stream,.slice a1 n1 c1] 28 (0,0)):=by rw [hW]; exact heap_alloc_new _ _
 have hzW : w.heap.size < W.heap.size:=by have:=hb1.size; have:=hbW.size; have:=HZ.out; omega
 have hb2 : Below U.heap.size U W:=hb1.trans (hbW.mono hb1.size)
 have hb3 : Below w.heap.size w W:=HBU.out.trans (hb2.mono HBU.out.size)
 have HD:=hide (hd1.later hbW)
 have HB:=hide hb3
 have HW:=hide hW
 have HWG:=hide hWg
 have HWM:=hide hWm
 have HZW:=hide hzW
 have HDL:=hide hdl
 have HST:=hide hst
 clear hb1 hb2 hb3 hbW hWg hWm hzW hd1 hdl hst hW
 go_wp2_with fail
 rw [← HW.out]
 refine (landWrongMsg_any m.stream (.slice a1 n1 c1) m.data W HD.out HDL.out).mono ?_
 rw [← hE.out]
 rintro e w2 ⟨rfl,hb2⟩
 have hg : w2.heap[w.heap.size]? = some (.cells #[.int .i64 0,.slice none 0 0] 28 (0,0)):=(hb2.block _ HZW.out).trans HWG.out
 have hgm : w2.heap[w1.heap.size]? = some (.cells #[.int .i64 m.stream,.slice a1 n1 c1] 28 (0,0)):=(hb2.block _ (Array.getElem?_eq_some_iff.1 HWM.out).1).trans HWM.out
 have g0 : w2.cell? ⟨w.heap.size,0,none⟩ = some (.int .i64 0):=by rw [cell_of_row w2 _ 0 _ 28 (0,0) hg]; rfl
 have g1 : w2.cell? ⟨w.heap.size,1,none⟩ = some (.slice none 0 0):=by rw [cell_of_row w2 _ 1 _ 28 (0,0) hg]; rfl
 have f0 : w2.frozen? ⟨w.heap.size,0,none⟩ = false:=by simp [World.frozen?,hg]
 have f1 : w2.frozen? ⟨w.heap.size,1,none⟩ = false:=by simp [World.frozen?,hg]
 have b0 : w2.cell? ⟨w1.heap.size,0,none⟩ = some (.int .i64 m.stream):=by rw [cell_of_row w2 _ 0 _ 28 (0,0) hgm]; rfl
 have b1 : w2.cell? ⟨w1.heap.size,1,none⟩ = some (.slice a1 n1 c1):=by rw [cell_of_row w2 _ 1 _ 28 (0,0) hgm]; rfl
 have HD2:=hide (HD.out.later hb2)
 have HB2:=hide (HB.out.trans (hb2.mono HB.out.size))
 clear hb2 hg hgm HW HWG HWM
 go_wp2_with fail
 refine bodyPost_ret (v:=.tuple #[.agg #[.int .i64 m.stream,.slice a1 n1 c1],.int .i64 0]) (by simp [results,Try.results22,go_sem,g0,g1]) rfl ⟨_,rfl,?_,⟨_,_,rfl,HFD.out⟩,?_⟩
 ·rw [← HMM.out]
  refine ⟨_,rfl,Bs_set (Bs_set HD2.out g0 (fun n h => by cases h) _) (u:=.slice none 0 0) ?_ (fun n h => by cases h) _,HDL.out,HST.out⟩
  rw [World.cell?_setCell_other _ _ _ _ (by intro e; cases e),g1]
 ·exact (HB2.out.setCell (Nat.le_refl _) _).setCell (Nat.le_refl _) _
set_option maxRecDepth 10000
set_option maxRecDepth 10000
theorem owns_form {w : World} {base e n : Nat} {v : Value} {xs : List Value} (h : w.ownsRow base e 1 v n xs) : ∃ a c,v = .slice a n c:=by
 obtain ⟨h1,⟨rfl,h0⟩ | ⟨g,cap,cur,rfl,_⟩⟩:=h
 ·subst h0; exact ⟨none,0,rfl⟩
 ·exact ⟨_,_,rfl⟩
end Go.Proofs.Ytgaofjiidedcbad.leaf
