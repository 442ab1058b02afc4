/-
  Calls that are handed, or lent, rows of their caller's own; a struct with several of them is copied. Nothing of the program.
-/
import Derived.Test.YtdfdeppimimoiabAbsPieceY
namespace Go.Proofs.Ytdfdeppimimoiab.ab
set_option linter.unusedSimpArgs false
set_option linter.unusedVariables false
open Go Go.RowKit

section
variable {P : Program} {N : Nat} {ops : Array Oper} {base : Nat → Prop} {w0 : World} {I0 : Still} {I : Still} {ρ : Nat → Option Nat} {fs : FS} {a : Act} {w : World}
theorem look_pre1 {pre : Pre} {l : List (Nat × D)} {d s : Nat} {x : D} (h : look (offT (preOff pre l) d) s = some x) : s ≠ d ∧ look (preOff pre (offT l d)) s = some x := by
  rw [look_off] at h
  split at h
  · cases h
  · rename_i n1
    refine ⟨n1, ?_⟩
    cases pre with
    | none => simp only [preOff, look_off]; rw [if_neg n1]; exact h
    | some q =>
      simp only [preOff, look_off] at h ⊢
      rw [if_neg n1]; exact h
set_option maxHeartbeats 2000000 in
theorem run_Xn {pre : Pre} {lp : List Oper} (hp : preOps P N pre lp) {o1 o2 : Oper} {l2 : List Oper} {T tb d1 d2 f n : Nat} {ats : Array TypeId} (ho1 : o1.op = .load T (.tmp tb)) (hd1 : o1.dst = some d1) (hg1 : o1.guard = none) (ho2 : o2.op = .call { callee := .value (.func f), args := (.tmp d1 :: preArgs pre).toArray, argTypes := ats }) (hd2 : o2.dst = some d2) (hg2 : o2.guard = none)
    (hn : sizeT P T = some n) (ha : aggT P T = some true) (hc : callableB P f = true) (hN1 : d1 < N) (hN2 : d2 < N) (hk1 : preKeeps pre d1) (htc : ∀ tc off dA dB, pre = some (tc, off, dA, dB) → tc ≠ d1) {st : St} {R : AX → St → Prop} {Q : Exit → Act → World → Prop} {a : Act} {w : World}
    (h : cXn P tb d1 d2 f n pre st R) (hr : Rel base w0 I0 N st.F a w) (hK : ∀ st' a' w', R none st' → Rel base w0 I0 N st'.F a' w' → wpList P ops Q l2 a' w') : wpList P ops Q (o1 :: (lp ++ o2 :: l2)) a w := by
  obtain ⟨b, cs, cs', ex, ri, r, hbh, hpre, ht, hq⟩ := h
  obtain ⟨I, ρ, hr⟩ := hr
  obtain ⟨g, us, tyB, hlt, hg, hblk, hul, hrow, htb, hload⟩ := box_load ho1 hn ha hbh hr
  obtain ⟨h1, h2, hl, hL, hle, hri⟩ := hbh
  refine wpList_step fun K1 hK1 => ?_
  rw [if_pos (wanted_none hg1 _)]
  unfold Oper.wp
  rw [hload]
  show K1 (a.put o1.dst _) w
  rw [hd1]
  refine hK1 _ _ ?_
  have hr1 := hr.put hN1 (v := none) (u := .agg us.toArray) (fun x hx => by cases hx)
  have e1 : (a.put (some d1) (.agg us.toArray)).eval (.tmp d1) = .agg us.toArray := eval_put_same (by rw [hr.size]; exact hN1)
  generalize a.put (some d1) (.agg us.toArray) = a1 at *
  refine run_pre hp hpre (fun tc off dA dB v e hv => by simp only [FS.setT]; rw [if_neg (htc tc off dA dB e)]; exact hv) rfl hr1 fun a2 hr2 hkeep hvs => ?_
  have e2 : a2.eval (.tmp d1) = .agg us.toArray := (hkeep d1 hk1).1.trans e1
  have hri' : ∀ x ∈ ri, (preSet pre (st.F.setT d1 none)).fl b (some x.1) = some x.2 := fun x hx => by
    rw [preSet_some]
    simp only [FS.setT]
    rw [if_neg (fun q => by cases q.2)]
    exact (hri x hx).2
  obtain ⟨hh1, hh2, hh3⟩ := hands_of hr2 hg hblk hri'
  have hr3 := hr2.offL (plOf b ri)
  refine wpList_step fun K2 hK2 => ?_
  rw [if_pos (wanted_none hg2 _)]
  unfold Oper.wp
  rw [run_callFs hc ho2, List.map_cons, e2]
  refine (ht w I _ (.agg us.toArray) (Vals.cons (.inr ⟨cs', us, rfl, rfl, hle.rep hrow⟩) hvs) hr.lt rfl hh1 hh2).mono fun x w' ⟨v, I', he, hI, hs, hv, ho, hap, hk⟩ => ?_
  subst he
  show K2 (Act.put _ o2.dst v) w'
  rw [hd2]
  refine hK2 _ _ (hK _ _ _ hq ?_)
  obtain ⟨hr4, hout⟩ := hr3.laterX hh3 hI hs hk
  have hr5 := hr4.put hN2 (v := some (res r)) (u := v) (fun x hx => by cases hx; exact res_rep hv)
  refine ⟨I', ρ, hr5.less (fun s x hx => ?_) ?_ (fun s p x hx => ?_)⟩
  · have hx' : look ((d2, res r) :: offT (preOff pre st.tm) d1) s = some x := hx
    simp only [look] at hx'
    show (if s = d2 then _ else _) = _
    by_cases q : d2 = s
    · subst q; rw [if_pos rfl]; simpa using hx'
    · rw [if_neg q] at hx'
      rw [if_neg (fun e => q e.symm)]
      obtain ⟨n1, hx2⟩ := look_pre1 hx'
      exact preSet_tm (l := offT st.tm d1) (fun s x hx => by rw [look_off] at hx; simp only [FS.setT]; exact hx) hx2
  · exact (preSet_bx (fs := st.F.setT d1 none) (pre := pre)).symm
  · simp only [St.F, lookF_off] at hx
    split at hx
    · cases hx
    · rename_i hm
      simp only [List.mem_append, List.mem_cons, not_or] at hm
      obtain ⟨m0, m1, m2, m3⟩ := hm
      simp only [FS.setT]
      rw [if_neg (fun e => m2 (by rw [e.1, e.2]))]
      simp only [FS.offL]
      rw [if_neg m3, preSet_fl m0]
      simp only [FS.setT]
      rw [if_neg (fun e => m1 (by rw [e.1, e.2]))]
      exact hx

/-- A row of one's own that nobody writes for a while. -/
theorem own_rep {e z : Nat} {es : List D} {u : Value} (h : Own I ρ base w e (z, some es) u) {I1 : Still} (hI : ∀ b j, I b j → I1 b j) (hu : ∀ g j, u.ownBlock = some g → I1 g j) : CRep I1 w (sD z es) u := by
  obtain ⟨n, xs, hrow, _, hh⟩ := h
  obtain ⟨hn, hel⟩ := hh es rfl
  simp only at hrow hel
  subst hn
  rcases hrow.2 with ⟨q1, q2⟩ | ⟨g, cap, cur, q1, _, hg, hnc, hcm, hcs, htk⟩
  · have : es = [] := List.eq_nil_of_length_eq_zero q2
    subst this; rw [q1]; exact nil_rep z
  · rw [q1]
    refine CRep.s ⟨fun i j => (xs[i * z + j]?).getD undef, hnc, (fun e => by cases e), hcm, hel.1, fun hne => ⟨g, 0, rfl, fun i j hi hj => ?_⟩, fun i j x l hx hl => ?_⟩
    · have hlt : i * z + j < xs.length := by rw [hrow.1]; exact cell_in hi hj
      refine ⟨?_, hu g _ (by rw [q1]; rfl)⟩
      show _ = some ((xs[i * z + j]?).getD undef)
      rw [show 0 + i * z + j = i * z + j by omega, cell_of_row w g _ cur e (0, 0) hg, List.getElem?_eq_getElem hlt]
      have h3 : xs[i * z + j]? = cur[i * z + j]? := by
        rw [← htk, List.getElem?_take, if_pos (cell_in hi hj)]; simp
      rw [← h3, List.getElem?_eq_getElem hlt]; rfl
    · obtain ⟨y, r1, r2⟩ := hel.2.2 i j x l hx hl
      show CRep _ _ l ((xs[i * z + j]?).getD undef)
      rw [r1]
      exact r2.keep hI (fun _ _ _ => rfl)

set_option maxHeartbeats 2000000 in
theorem run_Ln {pre : Pre} {lp : List Oper} (hp : preOps P N pre lp) {o1 o2 : Oper} {l2 : List Oper} {T tb d1 d2 f n : Nat} {ats : Array TypeId} (ho1 : o1.op = .load T (.tmp tb)) (hd1 : o1.dst = some d1) (hg1 : o1.guard = none) (ho2 : o2.op = .call { callee := .value (.func f), args := (.tmp d1 :: preArgs pre).toArray, argTypes := ats }) (hd2 : o2.dst = some d2) (hg2 : o2.guard = none)
    (hn : sizeT P T = some n) (ha : aggT P T = some true) (hc : callableB P f = true) (hN1 : d1 < N) (hN2 : d2 < N) (hk1 : preKeeps pre d1) (htc : ∀ tc off dA dB, pre = some (tc, off, dA, dB) → tc ≠ d1) {st : St} {R : AX → St → Prop} {Q : Exit → Act → World → Prop} {a : Act} {w : World}
    (h : cLn P tb d1 d2 f n pre st R) (hr : Rel base w0 I0 N st.F a w) (hK : ∀ st' a' w', R none st' → Rel base w0 I0 N st'.F a' w' → wpList P ops Q l2 a' w') : wpList P ops Q (o1 :: (lp ++ o2 :: l2)) a w := by
  obtain ⟨b, cs, cs', ex, y, h1, h2, hl, hL, hle, hpre, ht, hq⟩ := h
  obtain ⟨I, ρ, hr⟩ := hr
  obtain ⟨g, us, tyB, hlt, hg, hblk, hul, hrow, htb, hload⟩ := box_load (cs' := cs) (ri := []) ho1 hn ha ⟨h1, h2, hl, hL, by
    clear hle h2 hl hL
    induction cs with
    | nil => trivial
    | cons c r ih => exact ⟨LfLe.refl _, ih⟩, fun x hx => by cases hx⟩ hr
  refine wpList_step fun K1 hK1 => ?_
  rw [if_pos (wanted_none hg1 _)]
  unfold Oper.wp
  rw [hload]
  show K1 (a.put o1.dst _) w
  rw [hd1]
  refine hK1 _ _ ?_
  have hr1 := hr.put hN1 (v := none) (u := .agg us.toArray) (fun x hx => by cases hx)
  have e1 : (a.put (some d1) (.agg us.toArray)).eval (.tmp d1) = .agg us.toArray := eval_put_same (by rw [hr.size]; exact hN1)
  generalize a.put (some d1) (.agg us.toArray) = a1 at *
  refine run_pre hp hpre (fun tc off dA dB v e hv => by simp only [FS.setT]; rw [if_neg (htc tc off dA dB e)]; exact hv) rfl hr1 fun a2 hr2 hkeep hvs => ?_
  have e2 : a2.eval (.tmp d1) = .agg us.toArray := (hkeep d1 hk1).1.trans e1
  refine wpList_step fun K2 hK2 => ?_
  rw [if_pos (wanted_none hg2 _)]
  unfold Oper.wp
  rw [run_callFs hc ho2, List.map_cons, e2]
  -- for a while
  let I1 : Still := fun k j => I k j ∨ ((∃ i e z es u, look st.bx b = some cs ∧ lookF st.fl (b, some i) = some (e, z, some es) ∧ us[i]? = some u ∧ u.ownBlock = some k) ∧ k < w.heap.size)
  have hI1 : ∀ k j, I k j → I1 k j := fun _ _ => .inl
  have hrow1 : Row I1 w cs' us := by
    refine ⟨hle.1.trans hrow.1, fun j c' u hc' hu => ?_⟩
    have hj : j < cs.length := by rw [← hle.1]; exact (List.getElem?_eq_some_iff.1 hc').1
    rcases hle.2 j cs[j] c' (List.getElem?_eq_getElem hj) hc' with q | ⟨e, z, es, q, rfl⟩
    · exact (q.rep (hrow.2 j _ u (List.getElem?_eq_getElem hj) hu)).keep hI1 (fun _ _ _ => rfl)
    · obtain ⟨u', k1, k2⟩ := hr.fl b (some j) e (z, some es) q
      have : u' = u := by
        simp only [At, hg, Option.bind_some] at k1
        rw [cell_of_row w g j us.toArray tyB (0, 0) hblk] at k1
        simp only [List.getElem?_toArray] at k1
        rw [hu] at k1; cases k1; rfl
      subst this
      exact own_rep k2 hI1 (fun k i hk => .inr ⟨⟨j, e, z, es, u', h2, q, hu, hk⟩, (own_lt k2 k hk).2⟩)
  refine (ht w I1 _ (Vals.cons (.inr ⟨cs', us, rfl, rfl, hrow1⟩) (hvs.keep hI1 (fun _ _ _ => rfl))) (fun k j hi => hi.elim (hr.lt k j) (fun q => q.2))).mono fun x w' ⟨v, he, hv, hbel⟩ => ?_
  subst he
  show K2 (Act.put _ o2.dst v) w'
  rw [hd2]
  refine hK2 _ _ (hK _ _ _ hq ?_)
  have hv' : CVRep _ w' (vD y) v := hv
  obtain ⟨e3, hpl⟩ := (hv'.leaf (fun cs e => by cases e)).invV
  subst e3
  have hr5 := (hr2.later0 hbel).put hN2 (v := some (vD v)) (u := v) (fun x hx => by cases hx; exact .inl (.inl (CRep.v hpl)))
  refine ⟨I, ρ, hr5.less (fun s x hx => ?_) ?_ (fun s p x hx => ?_)⟩
  · have hx' : look ((d2, vD v) :: offT (preOff pre st.tm) d1) s = some x := hx
    simp only [look] at hx'
    show (if s = d2 then _ else _) = _
    by_cases q : d2 = s
    · subst q; rw [if_pos rfl]; simpa using hx'
    · rw [if_neg q] at hx'
      rw [if_neg (fun e => q e.symm)]
      obtain ⟨n1, hx2⟩ := look_pre1 hx'
      exact preSet_tm (l := offT st.tm d1) (fun s x hx => by rw [look_off] at hx; simp only [FS.setT]; exact hx) hx2
  · exact (preSet_bx (fs := st.F.setT d1 none) (pre := pre)).symm
  · simp only [St.F, lookF_off] at hx
    split at hx
    · cases hx
    · rename_i hm
      simp only [List.mem_append, List.mem_cons, List.not_mem_nil, or_false, not_or] at hm
      obtain ⟨m0, m1, m2⟩ := hm
      simp only [FS.setT]
      rw [if_neg (fun e => m2 (by rw [e.1, e.2])), preSet_fl m0]
      simp only [FS.setT]
      rw [if_neg (fun e => m1 (by rw [e.1, e.2]))]
      exact hx
theorem plain_vals : ∀ {r : List D} {I : Still} {w : World} {us : List Value}, plainRs r = true → Vals I w r us → ∀ (I' : Still) (w' : World), Vals I' w' r us
  | [], _, _, us, _, h, I', w' => ⟨h.1, fun j c u hc => by simp at hc⟩
  | c :: r, I, w, us, hp, h, I', w' => by
    cases us with
    | nil => exact absurd h.1 (by simp)
    | cons u us =>
      unfold plainRs at hp
      split at hp
      · rename_i heq; cases heq
      · rename_i y r' heq
        cases heq
        have h0 := h.2 0 _ u rfl rfl
        obtain ⟨e, hpl⟩ := (h0.leaf (fun cs e => by cases e)).invV
        subst e
        refine Vals.cons (.inl (CRep.v hpl)) (plain_vals (I := I) (w := w) hp ⟨by have := h.1; simpa using this, fun j c u hc hu => h.2 (j + 1) c u (by simpa using hc) (by simpa using hu)⟩ I' w')
      · cases hp
theorem plain_res {r : List D} {I : Still} {w : World} {v : Value} (hp : plainRs r = true) (h : RRep I w r v) (I' : Still) (w' : World) : RRep I' w' r v := by
  unfold RRep at h ⊢
  split at h
  · rename_i c
    have : Vals I w [c] [v] := Vals.cons h Vals.nil
    exact (plain_vals hp this I' w').2 0 c v rfl rfl
  · obtain ⟨us, h1, h2⟩ := h
    exact ⟨us, h1, plain_vals hp h2 I' w'⟩
end
end Go.Proofs.Ytdfdeppimimoiab.ab
