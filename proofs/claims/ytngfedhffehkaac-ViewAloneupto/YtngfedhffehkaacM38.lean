/-
  Several texts in one.
-/
import Derived.Test.YtngfedhffehkaacM37
import Derived.Test.YtngfedhffehkaacM32
import Derived.Test.YtngfedhffehkaacM36
import Derived.Test.YtngfedhffehkaacM34
import Derived.Test.YtngfedhffehkaacM22
import Derived.Test.YtngfedhffehkaacM24
import Derived.Test.YtngfedhffehkaacM31

/-
  What the answer's RecvHear tells: the loops in which what waits is told.
-/
namespace Go.Proofs.Ytngfedhffehkaac.ab
set_option linter.unusedVariables false
set_option linter.unusedSimpArgs false
open Go Go.RowKit
open mth

theorem findIdx_at {l : List Ch} {p : Ch → Bool} {i : Nat} {x : Ch} (hx : l[i]? = some x) (hp : p x = true) (hb : ∀ y ∈ l.take i, p y = false) : l.findIdx p = i := by
  obtain ⟨hi, he⟩ := List.getElem?_eq_some_iff.1 hx
  rw [List.findIdx_eq hi]
  refine ⟨by rw [he]; exact hp, fun j hj => ?_⟩
  exact hb _ (List.mem_take_iff_getElem.2 ⟨j, by omega, rfl⟩)
theorem findIdx_out {l : List Ch} {p : Ch → Bool} (hb : ∀ y ∈ l, p y = false) : l[l.findIdx p]? = none := by
  rw [List.getElem?_eq_none_iff]
  rw [List.findIdx_eq_length_of_false (by simpa using hb)]
  exact Nat.le_refl _
theorem drain_end {d : Dr} (hb : ∀ y ∈ d.hold, readyD d y = false) (f : Nat) : mth.drain f d = d := by
  cases f with
  | zero => rfl
  | succ f =>
    unfold mth.drain
    rw [findIdx_out hb]
theorem drain_more {d : Dr} {i : Nat} {x : Ch} (hx : d.hold[i]? = some x) (hi : d.hold.findIdx (readyD d) = i) (f : Nat) : mth.drain (f + 1) d = mth.drain f (stepD d i x) := by
  show (match d.hold[d.hold.findIdx (readyD d)]? with
    | some x => mth.drain f (stepD d (d.hold.findIdx (readyD d)) x)
    | none => d) = _
  rw [hi, hx]
theorem rh_inner (next : Int) (E H : List D) (d : Dr) (K : Nat) (hd : DrOk d K) (hK : K ≤ 1000) (Q : AX → St → Prop)
    (hyes : ∀ i x, d.hold[i]? = some x → d.hold.findIdx (readyD d) = i → Q none (roSt next E H (stepD d i x)))
    (hno : (∀ y ∈ d.hold, readyD d y = false) → Q none ⟨(riSt next E H d d.hold.length).tm ++ [(91, vB false)], (riSt next E H d d.hold.length).bx, []⟩) :
    r1_RecvHear_b21 (riSt next E H d 0) Q := by
  refine aw_block ?_
  refine aw_loop (fun m st => ∃ i : Nat, i ≤ d.hold.length ∧ m = d.hold.length - i ∧ (∀ y ∈ d.hold.take i, readyD d y = false) ∧ st = riSt next E H d i) d.hold.length _ (Le.refl _) ⟨0, by omega, by omega, by simp, rfl⟩ ?_
  rintro m st ⟨i, hi, hm, hb, rfl⟩
  by_cases hlt : i < d.hold.length
  · obtain ⟨x, hx⟩ : ∃ m, d.hold[i]? = some m := ⟨d.hold[i], List.getElem?_eq_getElem hlt⟩
    have hr := hd.h x (List.mem_of_getElem? hx)
    have hs := stream3 (wrong_one hr.1 hr.2).2.2.2
    have hp := hd.p
    have hl := hd.l
    have hidx := fun q => findIdx_at (p := readyD d) hx q hb
    have hy := fun q => hyes i x hx (hidx q)
    have hnx : readyD d x = false → Next (fun m st => ∃ i : Nat, i ≤ d.hold.length ∧ m = d.hold.length - i ∧ (∀ y ∈ d.hold.take i, readyD d y = false) ∧ st = riSt next E H d i) m (riSt next E H d (i + 1)) := by
      intro q
      refine ⟨d.hold.length - (i + 1), _, by omega, Le.refl _, i + 1, by omega, rfl, fun y hy => ?_, rfl⟩
      rw [List.take_add_one, hx] at hy
      rcases List.mem_append.1 hy with w | w
      · exact hb y w
      · have w : y = x := by simpa using w
        rw [w]; exact q
    generalize (fun m st => ∃ i : Nat, i ≤ d.hold.length ∧ m = d.hold.length - i ∧ (∀ y ∈ d.hold.take i, readyD d y = false) ∧ st = riSt next E H d i) = J at *
    clear hidx hyes hno hb hd hr
    obtain ⟨p0, p1, p2, hold, told⟩ := d
    obtain ⟨kind, number, stream, place, data, early⟩ := x
    simp only at *
    rcases hs with e | e | e
    · subst e
      cases hr : (place == p0) with
      | true => exact rh_one0t next p0 p1 p2 E H hold told i kind number place data early hx hr (by omega) (by omega) (by omega) _ (thn_out (blk_exit (hy hr)))
      | false => exact rh_one0f next p0 p1 p2 E H hold told i kind number place data early hx hr (by omega) (by omega) (by omega) _ (thn_normal (hnx hr))
    · subst e
      cases hr : (place == p1) with
      | true => exact rh_one1t next p0 p1 p2 E H hold told i kind number place data early hx hr (by omega) (by omega) (by omega) _ (thn_out (blk_exit (hy hr)))
      | false => exact rh_one1f next p0 p1 p2 E H hold told i kind number place data early hx hr (by omega) (by omega) (by omega) _ (thn_normal (hnx hr))
    · subst e
      cases hr : (place == p2) with
      | true => exact rh_one2t next p0 p1 p2 E H hold told i kind number place data early hx hr (by omega) (by omega) (by omega) _ (thn_out (blk_exit (hy hr)))
      | false => exact rh_one2f next p0 p1 p2 E H hold told i kind number place data early hx hr (by omega) (by omega) (by omega) _ (thn_normal (hnx hr))
  · have : i = d.hold.length := by omega
    subst this
    have g1 : ¬ (d.hold.length : Int) < (d.hold.length : Int) := by omega
    have hq := hno (by rw [List.take_length] at hb; exact hb)
    simp only [riSt] at hq ⊢
    refine wk @g1 ?_
    exact hq
theorem rh_drain (next : Int) (E H : List D) (d0 : Dr) (K f0 : Nat) (hd : DrOk d0 K) (hK : K ≤ 1000) (hf : d0.hold.length ≤ f0) (Q : AX → St → Prop)
    (hQ : Q none ⟨[(2, pD 2 0), (4, pD 4 0), (9, sD 6 (encCl (mth.drain f0 d0).hold)), (87, vB false)], (rdSt next E H (mth.drain f0 d0) false).bx, []⟩) :
    r1_RecvHear_b17 (rdSt next E H d0 true) Q := by
  refine aw_block ?_
  refine aw_loop (fun m st => ∃ (d : Dr) (a : Bool) (f : Nat), DrOk d K ∧ m = 2 * d.hold.length + a.toNat ∧ d.hold.length ≤ f ∧ mth.drain f d = mth.drain f0 d0 ∧ (a = false → ∀ y ∈ d.hold, readyD d y = false) ∧ st = rdSt next E H d a) (2 * d0.hold.length + 1) _ (Le.refl _) ⟨d0, true, f0, hd, rfl, hf, rfl, by simp, rfl⟩ ?_
  rintro m st ⟨d, a, f, h1, h2, h3, h4, h5, rfl⟩
  cases a with
  | false =>
    rw [← h4, drain_end (h5 rfl) f] at hQ
    simp only [rdSt] at hQ ⊢
    refine wk0 ?_
    exact hQ
  | true =>
    have hyes : ∀ i x, d.hold[i]? = some x → d.hold.findIdx (readyD d) = i → Next (fun m st => ∃ (d : Dr) (a : Bool) (f : Nat), DrOk d K ∧ m = 2 * d.hold.length + a.toNat ∧ d.hold.length ≤ f ∧ mth.drain f d = mth.drain f0 d0 ∧ (a = false → ∀ y ∈ d.hold, readyD d y = false) ∧ st = rdSt next E H d a) m (roSt next E H (stepD d i x)) := by
      intro i x hx hi
      have hlt : i < d.hold.length := (List.getElem?_eq_some_iff.1 hx).1
      obtain ⟨g, rfl⟩ : ∃ g, f = g + 1 := ⟨f - 1, by omega⟩
      have hl : (stepD d i x).hold.length = d.hold.length - 1 := by
        simp only [stepD, List.length_append, List.length_take, List.length_drop]; omega
      refine ⟨2 * (stepD d i x).hold.length + 1, _, by rw [hl, h2]; simp only [Bool.toNat_true]; omega, roSt_le next E H _, stepD d i x, true, g, h1.step hx, rfl, by omega, ?_, by simp, rfl⟩
      rw [← h4, drain_more hx hi]
    have hno : (∀ y ∈ d.hold, readyD d y = false) → Next (fun m st => ∃ (d : Dr) (a : Bool) (f : Nat), DrOk d K ∧ m = 2 * d.hold.length + a.toNat ∧ d.hold.length ≤ f ∧ mth.drain f d = mth.drain f0 d0 ∧ (a = false → ∀ y ∈ d.hold, readyD d y = false) ∧ st = rdSt next E H d a) m ⟨(riSt next E H d d.hold.length).tm ++ [(91, vB false)], (riSt next E H d d.hold.length).bx, []⟩ := by
      intro hb
      refine ⟨2 * d.hold.length, rdSt next E H d false, by rw [h2]; simp, ?_, d, false, f, h1, by simp, h3, h4, fun _ => hb, rfl⟩
      simp only [riSt, rdSt]
      exact Le.keep (lv := [2, 4, 9, 10]) (lb := [2, 4]) (by simp only [ev0, ev1, ev2, look, lookF, cellsFrom, offT, offP, List.tail_nil, List.length_nil, Int.cast_ofNat_Int, Nat.reduceEqDiff, Nat.reduceAdd, Nat.reduceMul, Nat.reduceLeDiff, Nat.reduceLT, ↓reduceIte, reduceCtorEq, Int.reduceBEq, Int.reduceBNe, Int.reduceLT, Int.reduceLE, Int.reduceToNat, List.cons_append, List.nil_append])
    generalize (fun m st => ∃ (d : Dr) (a : Bool) (f : Nat), DrOk d K ∧ m = 2 * d.hold.length + a.toNat ∧ d.hold.length ≤ f ∧ mth.drain f d = mth.drain f0 d0 ∧ (a = false → ∀ y ∈ d.hold, readyD d y = false) ∧ st = rdSt next E H d a) = J at *
    have hin : r1_RecvHear_b21 (riSt next E H d 0) (blk 7 (thn (Next J m) (blk 6 Q))) := rh_inner next E H d K h1 hK (blk 7 (thn (Next J m) (blk 6 Q))) hyes hno
    simp only [rdSt]
    refine wk @len_cl ?_
    exact hin
end Go.Proofs.Ytngfedhffehkaac.ab

/-
  What the answer's RecvHear, RecvSay and SameReceiver tell.
-/
namespace Go.Proofs.Ytngfedhffehkaac.ab
set_option linter.unusedVariables false
set_option linter.unusedSimpArgs false
open Go Go.RowKit
open mth

theorem le_loop {a : IC} {st st' : St} {Q : AX → St → Prop} (h : Le st st') (hl : cLoop a st' Q) : cLoop a st Q := by
  obtain ⟨J, ⟨n0, st0, h0, hJ⟩, h'⟩ := hl
  exact ⟨J, ⟨n0, st0, h.trans h0, hJ⟩, h'⟩
theorem rev_has (l : List Int) (n m : Int) : (l.reverse ++ [n]).contains m = (n :: l).contains m := by
  rw [Bool.eq_iff_iff, List.contains_iff_mem, List.contains_iff_mem]
  rw [List.mem_append, List.mem_reverse, List.mem_singleton, List.mem_cons]
  exact Or.comm
theorem rev_early (l : List Int) (n a : Int) : earlyR (l.reverse ++ [n]) a = earlyR (n :: l) a := by
  unfold earlyR
  exact List.filter_congr (fun m _ => rev_has l n m)
set_option maxHeartbeats 8000000 in
theorem recvHear_told {r : Rv} (h : GoodR r) {c : Ch} (hc : wrongL c = 0) : Told Try.prog 58 [aD (encRv r), aD (encCh c)] [aD (encRv (hearR r c))] := by
  refine told_r1_RecvHear rfl ?_
  by_cases hk : c.kind = 1
  · have k1 : (c.kind != 1) = false := by simpa using hk
    obtain ⟨hn, hpl, hce, hw⟩ := wrong_one hk hc
    have h40 := h.in40
    have hln := h.l
    have hnx := h.n
    have ht := h.t
    have g1 : inR .i64 c.number = true := inR_of (by omega)
    rw [hearR, if_pos hk]
    have hR : ∀ R, R = (if seenR r c.number = true then { r with owes := true } else takeR r c) → r1_RecvHear (start [aD (encRv r), aD (encCh c)]) (fin [(4, some (8, true))] [aD (encRv R)]) := by
      intro R hR
      have hearly : ∀ n ∈ r.early, 0 ≤ n ∧ n < 40 := fun n hn => by have := h40 n hn; omega
      simp only [encRv, encCh]
      refine wk (an3 @k1 @g1 @zmap) ?_
      refine rh_early r.next r.p0 r.p1 r.p2 (encCl r.hold) (encMl r.told) c r.early hln hearly hn _ ?_ ?_
      · intro hcon
        have : R = { r with owes := true } := by rw [hR, if_pos (by unfold seenR; rw [hcon]; rfl)]
        subst this
        refine wk0 ?_
        exact ValsLe.refl _
      · intro hcon
        by_cases q1 : c.number < r.next
        · have : R = { r with owes := true } := by rw [hR, if_pos (by unfold seenR; rw [decide_eq_true q1]; simp)]
          subst this
          simp only [encCh]
          refine wk @q1 ?_
          exact ValsLe.refl _
        · have q1' : ¬ (c.number < r.next) := q1
          have q4 : (decide (c.number < r.next)) = false := decide_eq_false q1
          by_cases q2 : r.next < c.number ∧ 2 < r.early.length
          · have : R = { r with owes := true } := by rw [hR, if_pos (by unfold seenR; rw [decide_eq_true q2.1, decide_eq_true q2.2]; simp)]
            subst this
            have e1 := q2.1
            have e2 : (2 : Int) < (r.early.length : Int) := by omega
            simp only [encCh]
            refine wk (an4 @q1' @e1 @e2 @zmap) ?_
            exact ValsLe.refl _
          · have hseen : seenR r c.number = false := by
              unfold seenR
              rw [hcon, q4, Bool.false_or, Bool.false_or, Bool.and_eq_false_iff, decide_eq_false_iff_not, decide_eq_false_iff_not]
              omega
            have : R = takeR r c := by rw [hR, hseen, if_neg (by simp)]
            subst this
            clear hR
            obtain ⟨t1, t2, t3, t4, t5⟩ := take_numbers h hn hseen
            have hS : ∀ m ∈ c.number :: r.early, m < 40 := by
              intro m hm
              rcases List.mem_cons.1 hm with rfl | hm
              · exact hn.2
              · exact (h40 m hm).2
            have t6 := (climb_ok (c.number :: r.early) hS 41 r.next hnx.2 (by omega)).2.2.2
            have hdr : DrOk ⟨r.p0, r.p1, r.p2, r.hold ++ [c], r.told⟩ (r.told.length + (r.hold.length + 1)) := by
              refine ⟨h.p, fun x hx => ?_, h.m, by simp⟩
              rcases List.mem_append.1 hx with q | q
              · exact h.h x q
              · rw [List.mem_singleton.1 q]; exact ⟨hk, hc⟩
            have w1 : r.hold.length * 80 ≤ 140737488355328 := by omega
            have w2 : (r.hold.length + 1) * 80 ≤ 140737488355328 := by omega
            have hgo : ∀ st, Le st (rbSt (encCh c) [vI 0, vD (.slice none 0 0), vI 0, vI 0, vI 0, vD (.slice none 0 0), vD (.slice none 0 0), vB false] r.early r.p0 r.p1 r.p2 (encCl r.hold) (encMl r.told) (r.early.reverse ++ [c.number]) r.next) →
                cSeq r1_RecvHear_b8 (cSeq r1_RecvHear_r16 (cSeq (cSeq r1_RecvHear_r17 r1_RecvHear_b12) (cSeq r1_RecvHear_r22 (cSeq (cSeq r1_RecvHear_r23 r1_RecvHear_b17) (cSeq r1_RecvHear_r35 (cSeq r1_RecvHear_r36 cRet)))))) st (fin [(4, some (8, true))] [aD (encRv (takeR r c))]) := by
              intro st hst
              simp only [takeR, encRv]
              generalize climb 41 (c.number :: r.early) r.next = nx at *
              rw [← rev_early]
              refine aw_seq ?_
              refine aw_block ?_
              refine le_loop hst ?_
              refine rh_climb r.next nx r.p0 r.p1 r.p2 (encCl r.hold) (encMl r.told) c r.early (r.early.reverse ++ [c.number]) hnx.1 t1 t2 (by rw [rev_has]; exact t3) (fun m h1 h2 => by rw [rev_has]; exact t6 m h1 h2) _ ?_
              refine wk0 ?_
              have hz : rcSt (encCh c) [vI 0, vD (.slice none 0 0), vI 0, vI 0, vI 0, vD (.slice none 0 0), vD (.slice none 0 0), vB false] nx r.p0 r.p1 r.p2 (encCl r.hold) (encMl r.told) (r.early.reverse ++ [c.number]) nx = ⟨[(2, pD 2 0), (3, pD 3 0), (4, pD 4 0), (5, hD 200018), (8, vI nx)], [(2, [vI nx, sD 1 [], vI r.p0, vI r.p1, vI r.p2, sD 6 (encCl r.hold), sD 2 (encMl r.told), vB true]), (3, encCh c), (4, [vI 0, vD (.slice none 0 0), vI 0, vI 0, vI 0, vD (.slice none 0 0), vD (.slice none 0 0), vB false]), (200018, encS (r.early.reverse ++ [c.number]))], [((2, some 1), (3, 1, none))]⟩ := by
                rw [rcSt_def, rangeI_nil (Int.le_refl _)]; rfl
              refine le_loop (st' := rcSt (encCh c) [vI 0, vD (.slice none 0 0), vI 0, vI 0, vI 0, vD (.slice none 0 0), vD (.slice none 0 0), vB false] nx r.p0 r.p1 r.p2 (encCl r.hold) (encMl r.told) (r.early.reverse ++ [c.number]) nx) ?_ ?_
              · rw [hz]
                exact (Le.nilB 2 1 3 1 (by decide) rfl rfl).trans (Le.keep (lv := [2, 3, 4, 5, 8]) (lb := [2, 3, 4, 200018]) (by simp only [ev0, ev1, ev2, look, lookF, cellsFrom, offT, offP, List.tail_nil, List.length_nil, Int.cast_ofNat_Int, Nat.reduceEqDiff, Nat.reduceAdd, Nat.reduceMul, Nat.reduceLeDiff, Nat.reduceLT, ↓reduceIte, reduceCtorEq, Int.reduceBEq, Int.reduceBNe, Int.reduceLT, Int.reduceLE, Int.reduceToNat]))
              refine rh_over nx r.p0 r.p1 r.p2 (encCl r.hold) (encMl r.told) c (r.early.reverse ++ [c.number]) (by omega) t2 _ ?_
              simp only [encCh]
              refine wk (an4 @w1 @w2 @len_cl @zapp) ?_
              have hcs := cl_snoc r.hold c
              have hdl : (⟨r.p0, r.p1, r.p2, r.hold ++ [c], r.told⟩ : Dr).hold.length ≤ r.hold.length + 1 := by simp
              have hK : r.told.length + (r.hold.length + 1) ≤ 1000 := by omega
              generalize hd0 : (⟨r.p0, r.p1, r.p2, r.hold ++ [c], r.told⟩ : Dr) = d0 at *
              refine le_loop (st' := rdSt nx ((earlyR (r.early.reverse ++ [c.number]) nx).map vI) (encCl r.hold) d0 true) ?_ ?_
              · subst hd0
                simp only [rdSt, hcs]
                exact Le.look (fun s v h => h) (fun b => rfl) (fun p x h => by simp [lookF] at h)
              refine rh_drain nx _ _ d0 _ (r.hold.length + 1) hdr hK hdl _ ?_
              simp only [rdSt]
              refine wk0 ?_
              exact ValsLe.refl _
            simp only [encCh] at hgo ⊢
            by_cases q3 : r.next < c.number
            · have e2 : ¬ (2 : Int) < (r.early.length : Int) := by omega
              refine wk (an4 @q1' @q3 @e2 @zmap) ?_
              refine hgo _ ?_
              exact Le.keep (lv := [2, 3, 4, 5]) (lb := [2, 3, 4, 200018]) (by simp only [rbSt_def, ev0, ev1, ev2, look, lookF, cellsFrom, offT, offP, List.tail_nil, List.length_nil, Int.cast_ofNat_Int, Nat.reduceEqDiff, Nat.reduceAdd, Nat.reduceMul, Nat.reduceLeDiff, Nat.reduceLT, ↓reduceIte, reduceCtorEq, Int.reduceBEq, Int.reduceBNe, Int.reduceLT, Int.reduceLE, Int.reduceToNat])
            · refine wk (an3 @q1' @q3 @zmap) ?_
              refine hgo _ ?_
              exact Le.keep (lv := [2, 3, 4, 5]) (lb := [2, 3, 4, 200018]) (by simp only [rbSt_def, ev0, ev1, ev2, look, lookF, cellsFrom, offT, offP, List.tail_nil, List.length_nil, Int.cast_ofNat_Int, Nat.reduceEqDiff, Nat.reduceAdd, Nat.reduceMul, Nat.reduceLeDiff, Nat.reduceLT, ↓reduceIte, reduceCtorEq, Int.reduceBEq, Int.reduceBNe, Int.reduceLT, Int.reduceLE, Int.reduceToNat])
    exact hR _ rfl
  · have k1 : (c.kind != 1) = true := by simpa using hk
    rw [hearR, if_neg hk]
    simp only [encRv, encCh]
    refine wk @k1 ?_
    exact ValsLe.refl _
end Go.Proofs.Ytngfedhffehkaac.ab

/-
  What the answer's RecvSay and SameReceiver tell.
-/
namespace Go.Proofs.Ytngfedhffehkaac.ab
set_option linter.unusedVariables false
set_option linter.unusedSimpArgs false
open Go Go.RowKit
open mth

set_option maxHeartbeats 4000000 in
theorem recvSay_told (r : Rv) : Told Try.prog 51 [aD (encRv r)] [aD (encRv (sayR r).1), aD (encCh (sayR r).2.1), vB (sayR r).2.2] := by
  obtain ⟨next, early, p0, p1, p2, hold, told, owes⟩ := r
  refine told_r1_RecvSay rfl ?_
  cases owes with
  | true =>
    simp only [encRv, sayR, encCh, if_true]
    refine wk Bool.not_true ?_
    repeat' (first | exact vals_nil | exact row_nil | exact es_nil | exact CVLe.refl _ | exact LfLe.refl _ | exact LfLe.nil _ | exact EsLe.refl _ | refine vals_cons ?_ ?_ | refine row_cons ?_ ?_ | refine es_cons ?_ ?_ | refine EsLe.app ?_ ?_ | refine CVLe.row ?_ | refine CVLe.leafV ?_ | refine CVLe.leafS ?_ | refine LfLe.s ?_)
  | false =>
    simp only [encRv, sayR, encCh, zeroC, Bool.false_eq_true, if_false]
    refine wk Bool.not_false ?_
    repeat' (first | exact vals_nil | exact row_nil | exact es_nil | exact CVLe.refl _ | exact LfLe.refl _ | exact LfLe.nil _ | exact EsLe.refl _ | refine vals_cons ?_ ?_ | refine row_cons ?_ ?_ | refine es_cons ?_ ?_ | refine EsLe.app ?_ ?_ | refine CVLe.row ?_ | refine CVLe.leafV ?_ | refine CVLe.leafS ?_ | refine LfLe.s ?_)
set_option maxHeartbeats 4000000 in
theorem sameRv_told (r : Rv) (he : r.early.length ≤ 9223372036854775807) (hh : r.hold.length ≤ 1048576) (ht : r.told.length ≤ 1048576) (hc : ∀ c ∈ r.hold, c.early.length ≤ 9223372036854775807) : Told Try.prog 27 [aD (encRv r), aD (encRv r)] [vB true] := by
  refine told_r1_SameReceiver rfl ?_
  have h1 := sameInts_told r.early r.early he
  have h2 := sameAll_told r.hold r.hold hh hc
  have h3 := sameMsgs_told r.told r.told ht
  rw [sameL_refl] at h3
  rw [sameCs_refl] at h2
  rw [beq_self_eq_true] at h1
  simp only [encRv]
  refine wk @zbeq ?_
  refine cg [[vB true]] @zbeq ?_ ?_
  · exact obl_cons h1 obl_nil
  refine wk (an2 @zbeq @Bool.and_self) ?_
  refine cg [[vB true]] @zbeq ?_ ?_
  · exact obl_cons h2 obl_nil
  refine wk (an2 @zbeq @Bool.and_self) ?_
  refine cg [[vB true]] @zbeq ?_ ?_
  · exact obl_cons h3 obl_nil
  refine wk @zbeq ?_
  exact ValsLe.refl _
end Go.Proofs.Ytngfedhffehkaac.ab

/-
  Plain mathematics for lanes. Nothing of the program.
-/
namespace Go.Proofs.Ytngfedhffehkaac.mth
set_option linter.unusedSimpArgs false
set_option linter.unusedVariables false
/-- A lane: its ends, and the packets there and back. -/
structure Ln where
  s : Sd
  r : Rv
  there : List (List UInt8)
  back : List (List UInt8)
/-- One more packet, if there is room. -/
def joinP (p : List (List UInt8)) (b : List UInt8) : List (List UInt8) := if 5 < p.length then p else p ++ [b]
def cutP (p : List (List UInt8)) (n : Nat) : List (List UInt8) := p.take n ++ p.drop (n + 1)
def wayP (l : Ln) (back : Bool) : List (List UInt8) := if back = true then l.back else l.there
def withP (l : Ln) (back : Bool) (p : List (List UInt8)) : Ln := if back = true then { l with back := p } else { l with there := p }
theorem rises_filter (f : Int → Bool) : ∀ (k : Nat) (a low : Int), low < a → a + k ≤ 40 → risesL low ((rangeI a (a + k)).filter f) = true := by
  intro k
  induction k with
  | zero => intro a low h1 h2; rw [rangeI_nil (by simp)]; rfl
  | succ k ih =>
    intro a low h1 h2
    rw [rangeI_cons (by omega), show a + ((k + 1 : Nat) : Int) = (a + 1) + (k : Int) by omega]
    cases hf : f a with
    | true =>
      rw [List.filter_cons_of_pos hf]
      simp only [risesL, Bool.and_eq_true, decide_eq_true_eq]
      exact ⟨h1, by omega, ih (a + 1) a (by omega) (by omega)⟩
    | false =>
      rw [List.filter_cons_of_neg (by rw [hf]; simp)]
      exact ih (a + 1) low (by omega) (by omega)
/-- What a sender says is right. -/
theorem say_right {s : Sd} (h : GoodS s) (hs : (sayL s).2.2 = true) : wrongL (sayL s).2.1 = 0 := by
  have hag : ∀ (hf : 0 < s.flight.length), wrongL (s.flight.getD (againK s).toNat zeroC) = 0 := fun hf => by
    have hk := againK_lt h hf
    have hlt : (againK s).toNat < s.flight.length := by omega
    rw [List.getD_eq_getElem?_getD, List.getElem?_eq_getElem hlt, Option.getD_some]
    exact (h.c _ (List.getElem_mem hlt)).2.1
  unfold sayL at hs ⊢
  split at hs
  · rename_i hq
    split at hs
    · cases hs
    · rename_i hf
      simp only [hf, if_false]
      exact hag (by omega)
  · rename_i m r hq
    by_cases hf : 3 < s.flight.length
    · simp only [hf, if_true]
      exact hag (by omega)
    · simp only [hf, if_false]
      have hn := h.n
      rw [hq] at hn
      exact newC_right h (h.m m (by rw [hq]; simp)) (by simp at hn; omega)
/-- What a receiver says is right. -/
theorem sayR_right {r : Rv} (h : GoodR r) : wrongL ⟨2, r.next, 0, 0, [], r.early⟩ = 0 := by
  have hn := h.n
  have hl := h.l
  have hr : risesL r.next r.early = true := by
    rw [h.e]
    unfold earlyR
    by_cases h40 : r.next = 40
    · rw [h40, rangeI_nil (by omega)]; rfl
    · rw [rangeI_cons (by omega), List.filter_cons_of_neg (by rw [h.x]; simp)]
      have := rises_filter (fun m => r.early.contains m) (40 - (r.next + 1)).toNat (r.next + 1) r.next (by omega) (by omega)
      rw [show r.next + 1 + (((40 - (r.next + 1)).toNat : Nat) : Int) = 40 by omega] at this
      exact this
  rw [wrongL_two, if_neg (by omega), if_neg (by omega), if_neg (by simp; omega), if_pos hr]
/-- A lane's turn. -/
def speakL (l : Ln) : Ln :=
  ⟨(sayL l.s).1, (sayR l.r).1, if (sayL l.s).2.2 = true then joinP l.there (sealL (bodyL (sayL l.s).2.1)) else l.there, if (sayR l.r).2.2 = true then joinP l.back (sealL (bodyL (sayR l.r).2.1)) else l.back⟩
/-- A lane that came of steps. -/
structure GoodL (l : Ln) : Prop where
  s : GoodS l.s
  r : GoodR l.r
  t : l.there.length ≤ 6
  b : l.back.length ≤ 6
  tn : ∀ x ∈ l.there, x.length ≤ 1000
  bn : ∀ x ∈ l.back, x.length ≤ 1000
/-- A packet that came. -/
def comeL (l : Ln) (n : Nat) (back : Bool) : Ln :=
  let xs := (wayP l back).getD n []
  let k := withP l back (cutP (wayP l back) n)
  if readE xs = 0 then (if back = true then { k with s := hearS k.s (readC xs) } else { k with r := hearR k.r (readC xs) }) else k
theorem readC_right {xs : List UInt8} (h : readE xs = 0) : wrongL (readC xs) = 0 := by
  unfold readC
  rw [if_pos h]
  unfold readE at h
  split at h
  · cases h
  · split at h
    · cases h
    · exact h
theorem GoodL.way {l : Ln} (h : GoodL l) (back : Bool) : (wayP l back).length ≤ 6 ∧ ∀ x ∈ wayP l back, x.length ≤ 1000 := by
  cases back
  · exact ⟨h.t, h.tn⟩
  · exact ⟨h.b, h.bn⟩
theorem GoodL.with {l : Ln} (h : GoodL l) (back : Bool) {p : List (List UInt8)} (hp : p.length ≤ 6) (hx : ∀ x ∈ p, x.length ≤ 1000) : GoodL (withP l back p) := by
  cases back
  · exact ⟨h.s, h.r, hp, h.b, hx, h.bn⟩
  · exact ⟨h.s, h.r, h.t, hp, h.tn, hx⟩
theorem cutP_ok {p : List (List UInt8)} (n : Nat) (hp : p.length ≤ 6) (hx : ∀ x ∈ p, x.length ≤ 1000) : (cutP p n).length ≤ 6 ∧ ∀ x ∈ cutP p n, x.length ≤ 1000 := by
  unfold cutP
  refine ⟨by rw [List.length_append, List.length_take, List.length_drop]; omega, fun x hm => ?_⟩
  rcases List.mem_append.1 hm with q | q
  · exact hx x (List.mem_of_mem_take q)
  · exact hx x (List.mem_of_mem_drop q)
theorem joinP_ok {p : List (List UInt8)} {b : List UInt8} (hp : p.length ≤ 6) (hx : ∀ x ∈ p, x.length ≤ 1000) (hb : b.length ≤ 1000) : (joinP p b).length ≤ 6 ∧ ∀ x ∈ joinP p b, x.length ≤ 1000 := by
  unfold joinP
  split
  · exact ⟨hp, hx⟩
  · refine ⟨by simp; omega, fun x hm => ?_⟩
    rcases List.mem_append.1 hm with q | q
    · exact hx x q
    · rw [List.mem_singleton.1 q]; exact hb
/-- The lowest bit turned. -/
def turnB (x : UInt8) : UInt8 := b8 (if i8 x % 2 = 0 then i8 x + 1 else i8 x - 1)
def spoilP (p : List (List UInt8)) (n k : Nat) : List (List UInt8) := p.set n ((p.getD n []).set k (turnB ((p.getD n []).getD k 0)))
/-- A step of one packet. -/
def packetL (l : Ln) (kind n k : Int) (back : Bool) : Ln × Int :=
  if n < 0 ∨ ((wayP l back).length : Int) ≤ n then (l, 6) else
  if kind = 4 then (withP l back (cutP (wayP l back) n.toNat), 0) else
  if kind = 5 then (withP l back (joinP (wayP l back) ((wayP l back).getD n.toNat [])), 0) else
  if kind = 6 then (if k < 0 ∨ ((((wayP l back).getD n.toNat []).length : Nat) : Int) ≤ k then (l, 3) else (withP l back (spoilP (wayP l back) n.toNat k.toNat), 0)) else
  (comeL l n.toNat back, 0)
theorem spoilP_ok {p : List (List UInt8)} (n k : Nat) (hp : p.length ≤ 6) (hx : ∀ x ∈ p, x.length ≤ 1000) : (spoilP p n k).length ≤ 6 ∧ ∀ x ∈ spoilP p n k, x.length ≤ 1000 := by
  unfold spoilP
  refine ⟨by rw [List.length_set]; exact hp, fun x hm => ?_⟩
  rcases List.mem_or_eq_of_mem_set hm with q | q
  · exact hx x q
  · rw [q, List.length_set, List.getD_eq_getElem?_getD]
    cases hn : p[n]? with
    | none => simp
    | some y => exact hx y (List.mem_of_getElem? hn)
theorem GoodL.come {l : Ln} (h : GoodL l) (n : Nat) (back : Bool) : GoodL (comeL l n back) := by
  obtain ⟨w1, w2⟩ := h.way back
  obtain ⟨k1, k2⟩ := cutP_ok n w1 w2
  have hk := h.with back k1 k2
  unfold comeL
  simp only
  split
  · rename_i he
    have hc := readC_right he
    split
    · exact ⟨hk.s.hear _, hk.r, hk.t, hk.b, hk.tn, hk.bn⟩
    · exact ⟨hk.s, hk.r.hear hc, hk.t, hk.b, hk.tn, hk.bn⟩
  · exact hk
theorem GoodL.packet {l : Ln} (h : GoodL l) (kind n k : Int) (back : Bool) : GoodL (packetL l kind n k back).1 := by
  obtain ⟨w1, w2⟩ := h.way back
  unfold packetL
  split
  · exact h
  rename_i hn
  have hx : ((wayP l back).getD n.toNat []).length ≤ 1000 := by
    rw [List.getD_eq_getElem?_getD]
    cases hq : (wayP l back)[n.toNat]? with
    | none => simp
    | some y => exact w2 y (List.mem_of_getElem? hq)
  split
  · obtain ⟨k1, k2⟩ := cutP_ok n.toNat w1 w2
    exact h.with back k1 k2
  split
  · obtain ⟨k1, k2⟩ := joinP_ok w1 w2 hx
    exact h.with back k1 k2
  split
  · split
    · exact h
    · obtain ⟨k1, k2⟩ := spoilP_ok n.toNat k.toNat w1 w2
      exact h.with back k1 k2
  · exact h.come _ _
theorem GoodL.speak {l : Ln} (h : GoodL l) : GoodL (speakL l) := by
  have h1 : ∀ c : Ch, wrongL c = 0 → (sealL (bodyL c)).length ≤ 1000 := fun c hc => by
    have := (len_body c hc).2
    rw [length_sealL]; omega
  refine ⟨h.s.say, h.r.say, ?_, ?_, ?_, ?_⟩
  all_goals unfold speakL; simp only
  · split
    · rename_i hs; exact (joinP_ok h.t h.tn (h1 _ (say_right h.s hs))).1
    · exact h.t
  · split
    · rename_i hs; exact (joinP_ok h.b h.bn (h1 _ (by
        unfold sayR at hs ⊢
        split at hs
        · rename_i ho; rw [if_pos ho]; exact sayR_right h.r
        · cases hs))).1
    · exact h.b
  · split
    · rename_i hs; exact (joinP_ok h.t h.tn (h1 _ (say_right h.s hs))).2
    · exact h.tn
  · split
    · rename_i hs; exact (joinP_ok h.b h.bn (h1 _ (by
        unfold sayR at hs ⊢
        split at hs
        · rename_i ho; rw [if_pos ho]; exact sayR_right h.r
        · cases hs))).2
    · exact h.bn
end Go.Proofs.Ytngfedhffehkaac.mth

/-
  What the answer's functions on lanes tell.
-/
namespace Go.Proofs.Ytngfedhffehkaac.ab
set_option linter.unusedVariables false
set_option linter.unusedSimpArgs false
open Go Go.RowKit
open mth

def encPk (p : List (List UInt8)) : List D := p.map fun b => sD 1 (b.map encB)
def encLn (l : Ln) : List D :=
  [sD 2 (encMl l.s.queue), vI l.s.next, vI l.s.p0, vI l.s.p1, vI l.s.p2, sD 6 (encCl l.s.flight), vI l.s.turn, vI l.r.next, sD 1 (l.r.early.map vI), vI l.r.p0, vI l.r.p1, vI l.r.p2, sD 6 (encCl l.r.hold), sD 2 (encMl l.r.told), vB l.r.owes, sD 1 (encPk l.there), sD 1 (encPk l.back)]
theorem len_pk (p : List (List UInt8)) : (encPk p).length = p.length := by simp [encPk]
theorem at_pk {p : List (List UInt8)} {i : Nat} {b : List UInt8} (h : p[i]? = some b) : (encPk p)[i]? = some (sD 1 (b.map encB)) := by simp [encPk, h]
theorem take_pk (p : List (List UInt8)) (n : Nat) : (encPk p).take n = encPk (p.take n) := by simp [encPk, List.map_take]
theorem drop_pk (p : List (List UInt8)) (n : Nat) : (encPk p).drop n = encPk (p.drop n) := by simp [encPk, List.map_drop]
theorem app_pk (p q : List (List UInt8)) : encPk p ++ encPk q = encPk (p ++ q) := by simp [encPk]
theorem eqP_step {a b : List (List UInt8)} {k : Nat} {x y : List UInt8} (hx : a[k]? = some x) (hy : b[k]? = some y) : (a.drop k == b.drop k) = ((x == y) && (a.drop (k + 1) == b.drop (k + 1))) := by
  obtain ⟨h1, rfl⟩ := List.getElem?_eq_some_iff.1 hx
  obtain ⟨h2, rfl⟩ := List.getElem?_eq_some_iff.1 hy
  rw [List.drop_eq_getElem_cons h1, List.drop_eq_getElem_cons h2, List.cons_beq_cons]
def sbSt (a b : List (List UInt8)) (k : Nat) : St := ⟨[(0, sD 1 (encPk a)), (1, sD 1 (encPk b)), (12, vI a.length), (13, vI k)], [], []⟩
set_option maxHeartbeats 2000000 in
theorem sameBytes_told (a b : List (List UInt8)) (hl : a.length ≤ 9223372036854775807) : Told Try.prog 28 [sD 1 (encPk a), sD 1 (encPk b)] [vB (a == b)] := by
  refine told_r6_SameBytes rfl ?_
  by_cases hlen : a.length = b.length
  · have l1 : ((a.length : Int) != (b.length : Int)) = false := by simp; omega
    refine wk (an2 @len_pk @l1) ?_
    refine aw_loop (fun n st => ∃ k, k ≤ a.length ∧ n = a.length - k ∧ (a == b) = (a.drop k == b.drop k) ∧ st = sbSt a b k) a.length (sbSt a b 0) (Le.refl _) ⟨0, by omega, by omega, rfl, rfl⟩ ?_
    rintro n st ⟨k, hk, hn, hs, rfl⟩
    by_cases hlt : k < a.length
    · obtain ⟨x, hx⟩ : ∃ m, a[k]? = some m := ⟨a[k], List.getElem?_eq_getElem hlt⟩
      obtain ⟨y, hy⟩ : ∃ m, b[k]? = some m := ⟨b[k]'(by omega), List.getElem?_eq_getElem (by omega)⟩
      have g1 : (k : Int) < (a.length : Int) := by omega
      have g2 : (0 : Int) ≤ (k : Int) := by omega
      have g3 := at_pk hx
      have g3' := at_pk hy
      have g4 : inR .i64 ((k : Int) + 1) = true := inR_of (by omega)
      have hst := eqP_step hx hy
      rw [← hs] at hst
      simp only [sbSt]
      cases hxy : (x == y) with
      | true =>
        have e1 : (x != y) = false := by rw [bne, hxy]; rfl
        rw [hxy, Bool.true_and] at hst
        refine wk (an10 @g1 @g2 @g3 @g3' @g4 @hxy @bytesOf_enc @ba_list Bool.not_true Bool.not_false) ?_
        exact ⟨a.length - (k + 1), _, by omega, Le.refl _, k + 1, by omega, rfl, hst, by simp only [sbSt, Int.natCast_add, Int.cast_ofNat_Int]⟩
      | false =>
        have e1 : (x != y) = true := by rw [bne, hxy]; rfl
        rw [hxy, Bool.false_and] at hst
        rw [hst]
        refine wk (an10 @g1 @g2 @g3 @g3' @g4 @hxy @bytesOf_enc @ba_list Bool.not_true Bool.not_false) ?_
        exact ValsLe.refl _
    · have hk' : k = a.length := by omega
      subst hk'
      have hs' : (a == b) = true := by rw [hs, hlen, List.drop_length, ← hlen, List.drop_length]; rfl
      have g1 : ¬ (a.length : Int) < (a.length : Int) := by omega
      rw [hs']
      simp only [sbSt]
      refine wk @g1 ?_
      exact ValsLe.refl _
  · have l1 : ((a.length : Int) != (b.length : Int)) = true := by simp; omega
    have : (a == b) = false := by
      rw [Bool.eq_false_iff]
      intro h
      exact hlen (congrArg List.length (by simpa using h))
    rw [this]
    refine wk (an2 @len_pk @l1) ?_
    exact ValsLe.refl _
/-! ### Packets -/
set_option maxHeartbeats 2000000 in
theorem putP_told (p : List (List UInt8)) (b : List UInt8) : Told Try.prog 49 [sD 1 (encPk p), sD 1 (b.map encB)] [sD 1 (encPk (joinP p b))] := by
  refine told_r6_put rfl ?_
  unfold joinP
  by_cases h : 5 < p.length
  · have g1 : 5 < (p.length : Int) := by omega
    rw [if_pos h]
    refine wk (an2 @g1 @len_pk) ?_
    exact ValsLe.refl _
  · have g1 : ¬ 5 < (p.length : Int) := by omega
    rw [if_neg h]
    have b1 : (encPk p).length * 24 ≤ 140737488355328 := by rw [len_pk]; omega
    have b2 : ((encPk p).length + 1) * 24 ≤ 140737488355328 := by rw [len_pk]; omega
    have b3 : p.length * 24 ≤ 140737488355328 := by omega
    have b4 : (p.length + 1) * 24 ≤ 140737488355328 := by omega
    rw [← app_pk]
    refine wk (an6 @g1 @len_pk @b1 @b2 @b3 @b4) ?_
    exact ValsLe.refl _
set_option maxHeartbeats 2000000 in
theorem without_told (p : List (List UInt8)) (n : Nat) (hn : n < p.length) (hp : p.length ≤ 1048576) : Told Try.prog 55 [sD 1 (encPk p), vI n] [sD 1 (encPk (cutP p n))] := by
  refine told_r6_without rfl ?_
  have g1 : (0 : Int) ≤ (n : Int) := by omega
  have g2 : (n : Int) ≤ (p.length : Int) := by omega
  have g3 : inR .i64 ((n : Int) + 1) = true := inR_of (by omega)
  have g4 : (0 : Int) ≤ (n : Int) + 1 := by omega
  have g5 : (n : Int) + 1 ≤ (p.length : Int) := by omega
  have g6 : ((n : Int) + 1).toNat = n + 1 := by omega
  have b1 : (p.take n).length * 24 ≤ 140737488355328 := by rw [List.length_take]; omega
  have b2 : ((p.take n).length + (p.drop (n + 1)).length) * 24 ≤ 140737488355328 := by rw [List.length_take, List.length_drop]; omega
  unfold cutP
  rw [← app_pk]
  refine wk (an14 @g1 @g2 @g3 @g4 @g5 @g6 @len_pk @take_pk @drop_pk @b1 @b2 @ztl @Int.toNat_natCast @Int.le_refl) ?_
  exact ValsLe.refl _
set_option maxHeartbeats 2000000 in
theorem wayP_told (l : Ln) (back : Bool) : Told Try.prog 53 [aD (encLn l), vB back] [sD 1 (encPk (wayP l back))] := by
  refine told_r6_way rfl ?_
  simp only [encLn]
  cases back with
  | true =>
    refine wk0 ?_
    exact ValsLe.refl _
  | false =>
    refine wk0 ?_
    exact ValsLe.refl _
set_option maxHeartbeats 2000000 in
theorem withP_told (l : Ln) (back : Bool) (p : List (List UInt8)) : Told Try.prog 54 [aD (encLn l), vB back, sD 1 (encPk p)] [aD (encLn (withP l back p))] := by
  refine told_r6_with rfl ?_
  simp only [encLn]
  cases back with
  | true =>
    refine wk0 ?_
    exact ValsLe.refl _
  | false =>
    refine wk0 ?_
    exact ValsLe.refl _
/-! ### A lane's turn -/
theorem sayR_wrong {r : Rv} (h : GoodR r) (hs : (sayR r).2.2 = true) : wrongL (sayR r).2.1 = 0 := by
  unfold sayR at hs ⊢
  split at hs
  · rename_i ho; rw [if_pos ho]; exact sayR_right h
  · cases hs
set_option maxHeartbeats 8000000 in
theorem refSpeak_told (l : Ln) (hs : GoodS l.s) (hr : GoodR l.r) : Told Try.prog 32 [aD (encLn l)] [aD (encLn (speakL l))] := by
  refine told_r6_Speak rfl ?_
  have h1 := refSay_told hs
  have h2 := recvSay_told l.r
  have c1 := say_right hs
  have c2 := sayR_wrong hr
  obtain ⟨s, r, there, back⟩ := l
  simp only [speakL] at *
  generalize sayL s = A at *
  generalize sayR r = B at *
  obtain ⟨s', c, ok⟩ := A
  obtain ⟨r', d, is⟩ := B
  simp only at *
  cases ok with
  | true =>
    have b1 := refBytes_told c (c1 rfl)
    generalize sealL (bodyL c) = pk at *
    have p1 := putP_told there pk
    cases is with
    | true =>
      have b2 := refBytes_told d (c2 rfl)
      generalize sealL (bodyL d) = qk at *
      have p2 := putP_told back qk
      simp only [encLn, encSd, encRv, encCh, if_true] at h1 h2 b1 b2 ⊢
      refine wk0 ?_
      refine cg [[aD (encSd s'), aD (encCh c), vB true]] (an2 @encSd.eq_1 @encCh.eq_1) ?_ ?_
      · exact obl_cons h1 obl_nil
      refine wk0 ?_
      refine cd0 [[sD 1 (pk.map encB)], [sD 1 (encPk (joinP there pk))]] ?_ ?_
      · exact obl_cons b1 (obl_cons p1 obl_nil)
      refine wk0 ?_
      refine cg [[aD (encRv r'), aD (encCh d), vB true]] (an2 @encRv.eq_1 @encCh.eq_1) ?_ ?_
      · exact obl_cons h2 obl_nil
      refine wk0 ?_
      refine cd0 [[sD 1 (qk.map encB)], [sD 1 (encPk (joinP back qk))]] ?_ ?_
      · exact obl_cons b2 (obl_cons p2 obl_nil)
      refine wk0 ?_
      exact ValsLe.refl _
    | false =>
      simp only [encLn, encSd, encRv, encCh, if_true, Bool.false_eq_true, if_false] at h1 h2 b1 ⊢
      refine wk0 ?_
      refine cg [[aD (encSd s'), aD (encCh c), vB true]] (an2 @encSd.eq_1 @encCh.eq_1) ?_ ?_
      · exact obl_cons h1 obl_nil
      refine wk0 ?_
      refine cd0 [[sD 1 (pk.map encB)], [sD 1 (encPk (joinP there pk))]] ?_ ?_
      · exact obl_cons b1 (obl_cons p1 obl_nil)
      refine wk0 ?_
      refine cg [[aD (encRv r'), aD (encCh d), vB false]] (an2 @encRv.eq_1 @encCh.eq_1) ?_ ?_
      · exact obl_cons h2 obl_nil
      refine wk0 ?_
      exact ValsLe.refl _
  | false =>
    cases is with
    | true =>
      have b2 := refBytes_told d (c2 rfl)
      generalize sealL (bodyL d) = qk at *
      have p2 := putP_told back qk
      simp only [encLn, encSd, encRv, encCh, if_true, Bool.false_eq_true, if_false] at h1 h2 b2 ⊢
      refine wk0 ?_
      refine cg [[aD (encSd s'), aD (encCh c), vB false]] (an2 @encSd.eq_1 @encCh.eq_1) ?_ ?_
      · exact obl_cons h1 obl_nil
      refine wk0 ?_
      refine cg [[aD (encRv r'), aD (encCh d), vB true]] (an2 @encRv.eq_1 @encCh.eq_1) ?_ ?_
      · exact obl_cons h2 obl_nil
      refine wk0 ?_
      refine cd0 [[sD 1 (qk.map encB)], [sD 1 (encPk (joinP back qk))]] ?_ ?_
      · exact obl_cons b2 (obl_cons p2 obl_nil)
      refine wk0 ?_
      exact ValsLe.refl _
    | false =>
      simp only [encLn, encSd, encRv, encCh, Bool.false_eq_true, if_false] at h1 h2 ⊢
      refine wk0 ?_
      refine cg [[aD (encSd s'), aD (encCh c), vB false]] (an2 @encSd.eq_1 @encCh.eq_1) ?_ ?_
      · exact obl_cons h1 obl_nil
      refine wk0 ?_
      refine cg [[aD (encRv r'), aD (encCh d), vB false]] (an2 @encRv.eq_1 @encCh.eq_1) ?_ ?_
      · exact obl_cons h2 obl_nil
      refine wk0 ?_
      exact ValsLe.refl _
/-! ### The same lane -/
set_option maxHeartbeats 4000000 in
theorem sameLn_told (l : Ln) (hs : Told Try.prog 26 [aD (encSd l.s), aD (encSd l.s)] [vB true]) (hr : Told Try.prog 27 [aD (encRv l.r), aD (encRv l.r)] [vB true]) (ht : l.there.length ≤ 9223372036854775807) (hb : l.back.length ≤ 9223372036854775807) : Told Try.prog 12 [aD (encLn l), aD (encLn l)] [vB true] := by
  refine told_r6_SameLane rfl ?_
  have h1 := sameBytes_told l.there l.there ht
  have h2 := sameBytes_told l.back l.back hb
  rw [beq_self_eq_true] at h1 h2
  simp only [encLn, encSd, encRv] at hs hr ⊢
  refine wk0 ?_
  refine cg0 [[vB true]] ?_ ?_
  · exact obl_cons hs obl_nil
  refine wk0 ?_
  refine cg0 [[vB true], [vB true]] ?_ ?_
  · exact obl_cons hr (obl_cons h1 obl_nil)
  refine wk0 ?_
  refine cg0 [[vB true]] ?_ ?_
  · exact obl_cons h2 obl_nil
  refine wk0 ?_
  exact ValsLe.refl _
end Go.Proofs.Ytngfedhffehkaac.ab
