/-
  Calls that are handed a struct with several rows of their caller's own: the pieces hold of the model's. Nothing of the program.
-/
import Derived.Test.YtdfdeppimimoiabAbsPieceX
namespace Go.Proofs.Ytdfdeppimimoiab.ab
set_option linter.unusedSimpArgs false
set_option linter.unusedVariables false
open Go Go.RowKit

section
variable {P : Program} {N : Nat} {ops : Array Oper} {base : Nat → Prop} {w0 : World} {I0 : Still} {I : Still} {ρ : Nat → Option Nat} {fs : FS} {a : Act} {w : World}
theorem preSet_some {pre : Pre} {s k : Nat} : (preSet pre fs).fl s (some k) = fs.fl s (some k) := by
  cases pre with
  | none => rfl
  | some p => simp [preSet, FS.setT]
theorem preSet_fl {pre : Pre} {s : Nat} {p : Option Nat} (h : (s, p) ∉ preP pre) : (preSet pre fs).fl s p = fs.fl s p := by
  cases pre with
  | none => rfl
  | some q =>
    simp only [preP, List.mem_cons, List.not_mem_nil, or_false, not_or, Prod.mk.injEq] at h
    simp only [preSet, FS.setT]
    rw [if_neg h.2, if_neg h.1]
theorem preSet_bx {pre : Pre} : (preSet pre fs).bx = fs.bx := by cases pre <;> rfl
theorem preSet_tm {pre : Pre} {l : List (Nat × D)} (h : ∀ s x, look l s = some x → fs.tm s = some x) {s : Nat} {x : D} (hx : look (preOff pre l) s = some x) : (preSet pre fs).tm s = some x := by
  cases pre with
  | none => exact h s x hx
  | some q =>
    simp only [preOff, look_off] at hx
    split at hx
    · cases hx
    · rename_i h1
      split at hx
      · cases hx
      · rename_i h2
        simp only [preSet, FS.setT]
        rw [if_neg h1, if_neg h2]
        exact h s x hx
theorem run_callFs {f : Nat} (hc : callableB P f = true) {o : Oper} {xs : List Operand} {ats : Array TypeId} (ho : o.op = .call { callee := .value (.func f), args := xs.toArray, argTypes := ats }) (a : Act) (w : World) : (execOp a.eval o).run P w = .ok (.enter f (xs.map a.eval).toArray) w := by
  unfold callableB at hc
  split at hc
  · rename_i fn hfn
    simp only [Bool.and_eq_true, Bool.not_eq_true'] at hc
    have hn' : ¬ fn.name = "runtime.NumGoroutine" := by simpa using hc.1
    have hb' : ¬ fn.body = none := by intro q; rw [q] at hc; simp at hc
    have e : a.eval (.func f) = .func (.func f) #[] #[] := rfl
    simp [execOp, ho, resolve, e, Deferred.ofValue, invoke, callFunc, hfn, hn', hb']
  · cases hc

/-- What a struct of a box is, loaded. -/
theorem box_load {T tb n b : Nat} {cs cs' : List D} {ri : List (Nat × Nat × Pay)} {st : St} {o1 : Oper} (ho1 : o1.op = .load T (.tmp tb)) (hn : sizeT P T = some n) (ha : aggT P T = some true) (h : boxHas st tb n b cs cs' ri) (hr : RelI base w0 I0 N I ρ st.F a w) :
    ∃ g us tyB, b < 100000 ∧ ρ b = some g ∧ w.heap[g]? = some (.cells us.toArray tyB (0, 0)) ∧ us.length = n ∧ Row I w cs us ∧ a.eval (.tmp tb) = .pointer (some ⟨g, 0, none⟩) ∧ (execOp a.eval o1).run P w = .ok (.value (.agg us.toArray)) w := by
  obtain ⟨h1, h2, hl, hL, hle, hri⟩ := h
  obtain ⟨up, hp1, hp2⟩ := hr.tm tb _ h1
  obtain ⟨g, hlt, hg, rfl⟩ := hp2.invP
  obtain ⟨g', hg', hbs, hbx, hnI⟩ := hr.bx b cs h2
  rw [hg] at hg'; cases hg'
  obtain ⟨us, tyB, hblk, hrowL⟩ := hbx.cells hlt
  have htb : a.eval (.tmp tb) = .pointer (some ⟨g, 0, none⟩) := by simp [Act.eval, Array.getD_eq_getD_getElem?, hp1]
  have hul : us.length = n := by rw [← hrowL.1, hl]
  exact ⟨g, us, tyB, hlt, hg, hblk, hul, row_of_all hrowL hL, htb, by simp [execOp, ho1, htb, run_loadA hn ha hblk hul]⟩

set_option maxHeartbeats 2000000 in
theorem run_Xs {pre : Pre} {lp : List Oper} (hp : preOps P N pre lp) {o1 o2 o3 : Oper} {l2 : List Oper} {T tb d1 d2 f n : Nat} {ats : Array TypeId} (ho1 : o1.op = .load T (.tmp tb)) (hd1 : o1.dst = some d1) (hg1 : o1.guard = none) (ho2 : o2.op = .call { callee := .value (.func f), args := (.tmp d1 :: preArgs pre).toArray, argTypes := ats }) (hd2 : o2.dst = some d2) (hg2 : o2.guard = none)
    (ho3 : o3.op = .store T (.tmp tb) (.tmp d2)) (hd3 : o3.dst = none) (hg3 : o3.guard = none) (hn : sizeT P T = some n) (ha : aggT P T = some true) (hc : callableB P f = true) (hN1 : d1 < N) (hN2 : d2 < N) (hne1 : tb ≠ d1) (hne2 : tb ≠ d2) (hk1 : preKeeps pre d1) (hkb : preKeeps pre tb) (htc : ∀ tc off dA dB, pre = some (tc, off, dA, dB) → tc ≠ d1) {st : St} {R : AX → St → Prop} {Q : Exit → Act → World → Prop} {a : Act} {w : World}
    (h : cXs P tb d1 d2 f n pre st R) (hr : Rel base w0 I0 N st.F a w) (hK : ∀ st' a' w', R none st' → Rel base w0 I0 N st'.F a' w' → wpList P ops Q l2 a' w') : wpList P ops Q (o1 :: (lp ++ o2 :: o3 :: l2)) a w := by
  obtain ⟨b, cs, cs', ex, ri, rs, ro, hbh, hpre, ht, hrl, hnd, hq⟩ := h
  obtain ⟨I, ρ, hr⟩ := hr
  obtain ⟨g, us, tyB, hlt, hg, hblk, hul, hrow, htb, hload⟩ := box_load ho1 hn ha hbh hr
  obtain ⟨h1, h2, hl, hL, hle, hri⟩ := hbh
  -- the load
  refine wpList_step fun K1 hK1 => ?_
  rw [if_pos (wanted_none hg1 _)]
  unfold Oper.wp
  rw [hload]
  show K1 (a.put o1.dst _) w
  rw [hd1]
  refine hK1 _ _ ?_
  have hr1 := hr.put hN1 (v := none) (u := .agg us.toArray) (fun x hx => by cases hx)
  have e1 : (a.put (some d1) (.agg us.toArray)).eval (.tmp d1) = .agg us.toArray := eval_put_same (by rw [hr.size]; exact hN1)
  have etb : (a.put (some d1) (.agg us.toArray)).eval (.tmp tb) = .pointer (some ⟨g, 0, none⟩) := by rw [eval_put hne1, htb]
  generalize a.put (some d1) (.agg us.toArray) = a1 at *
  -- what lies ahead of the call
  refine run_pre hp hpre (fun tc off dA dB v e hv => by simp only [FS.setT]; rw [if_neg (htc tc off dA dB e)]; exact hv) rfl hr1 fun a2 hr2 hkeep hvs => ?_
  have e2 : a2.eval (.tmp d1) = .agg us.toArray := (hkeep d1 hk1).1.trans e1
  have etb2 : a2.eval (.tmp tb) = .pointer (some ⟨g, 0, none⟩) := (hkeep tb hkb).1.trans etb
  -- the call
  have hri' : ∀ x ∈ ri, (preSet pre (st.F.setT d1 none)).fl b (some x.1) = some x.2 := fun x hx => by
    rw [preSet_some]
    simp only [FS.setT]
    rw [if_neg (fun q => by cases q.2)]
    exact (hri x hx).2
  obtain ⟨hh1, hh2, hh3⟩ := hands_of hr2 hg hblk hri'
  have hr3 := hr2.offL (plOf b ri)
  refine wpList_step fun K2 hK2 => ?_
  rw [if_pos (wanted_none hg2 _)]
  unfold Oper.wp
  rw [run_callFs hc ho2, List.map_cons, e2]
  refine (ht w I _ (.agg us.toArray) (Vals.cons (.inr ⟨cs', us, rfl, rfl, hle.rep hrow⟩) hvs) hr.lt rfl hh1 hh2).mono fun x w' ⟨v, I', he, hI, hs, hv, ho, hap, hk⟩ => ?_
  subst he
  show K2 (Act.put _ o2.dst v) w'
  rw [hd2]
  refine hK2 _ _ ?_
  obtain ⟨hr4, hout⟩ := hr3.laterX hh3 hI hs hk
  have hr5 := hr4.put hN2 (v := none) (u := v) (fun x hx => by cases hx)
  obtain ⟨vs, rfl, hvs'⟩ := CVRep.agg hv
  have etb3 : (a2.put (some d2) (.agg vs.toArray)).eval (.tmp tb) = .pointer (some ⟨g, 0, none⟩) := by rw [eval_put hne2, etb2]
  have e3 : (a2.put (some d2) (.agg vs.toArray)).eval (.tmp d2) = .agg vs.toArray := eval_put_same (by rw [hr2.size]; exact hN2)
  -- the store
  have hb3 : (((preSet pre (st.F.setT d1 none)).offL (plOf b ri)).setT d2 none).bx b = some cs := by
    show (preSet pre (st.F.setT d1 none)).bx b = some cs
    rw [preSet_bx]; exact h2
  obtain ⟨g3, us3, t3, hg3', hblk3, hul3, hr6⟩ := hr5.store hlt hb3 (off := 0) (ds := rs) (vs := vs) (by omega) hvs'.L
  rw [hg] at hg3'; cases hg3'
  have hvn : vs.length = n := by rw [← hvs'.1, hrl]
  refine wpList_step fun K3 hK3 => ?_
  rw [if_pos (wanted_none hg3 _)]
  unfold Oper.wp
  have hst := run_storeP (P := P) hn hblk3 (u := .agg vs.toArray) (off := 0) (by simpa [Value.cells] using hvn) (by intro x hx; exact hvs'.one x (by simpa [Value.cells] using hx)) (by rw [hul3]; omega)
  rw [show (execOp (Act.eval (a2.put (some d2) (.agg vs.toArray))) o3).run P w' = .ok .skip (w'.setRow g (over us3 0 vs).toArray) by
    simp only [execOp, ho3, etb3, e3, Sem.run_bind, hst, Result.andThen_ok, Value.cells, List.toList_toArray, Sem.run_pure]]
  show K3 (Act.put _ o3.dst undef) _
  rw [hd3]
  refine hK3 _ _ (hK _ _ _ hq ?_)
  -- the rights
  have hnI4 : ∀ j, ¬ I' g j := by
    obtain ⟨g5, q1, _, _, q4⟩ := hr5.bx b cs hb3
    rw [hg] at q1; cases q1; exact q4
  have hcell : ∀ c j, I' c j → (w'.setRow g (over us3 0 vs).toArray).cell? ⟨c, j, none⟩ = w'.cell? ⟨c, j, none⟩ := fun c j hi =>
    cell_setRow_other w' g _ ⟨c, j, none⟩ (fun e => hnI4 j (by rw [← e]; exact hi))
  have hat : ∀ j u, vs[j]? = some u → At ρ (a2.put (some d2) (.agg vs.toArray)).tmps (w'.setRow g (over us3 0 vs).toArray) b (some j) = some u := fun j u hj => by
    simp only [At, hg, Option.bind_some]
    rw [cell_setRow_same w' g j us3.toArray _ t3 (0, 0) hblk3]
    have := over_in (cs := us3) (ds := vs) (off := 0) (j := j) (by omega) (List.getElem?_eq_some_iff.1 hj).1
    rw [Nat.zero_add] at this
    simpa [this] using hj
  have hcv : ∀ x ∈ ro, ∃ u, vs[x.1]? = some u ∧ Own I' (fun _ => none) (fun b => b < w.heap.size ∧ ¬ HandB (.agg us.toArray) (upR ri) b) w' x.2.1 x.2.2 u := fun x hx => by
    obtain ⟨u, q1, q2⟩ := ho (some x.1, x.2) (List.mem_map_of_mem hx)
    exact ⟨u, by simpa [cellAt] using q1, q2⟩
  have h7 := hr6.giveL hlt hnd (fun x hx => by
    obtain ⟨u, q1, q2⟩ := hcv x hx
    obtain ⟨q3, q4⟩ := hout _ _ _ q2
    have hneg : ∀ g', u.ownBlock = some g' → g' ≠ g := fun g' hg' e => by
      obtain ⟨_, _, _, q, _⟩ := q3
      exact (q g' hg').2.2 b (by rw [e]; exact hg)
    refine ⟨u, hat _ _ q1, own_keep q3 (fun g' hg' => setRow_other w' g g' _ (hneg g' hg')) (fun _ _ _ h => h) (fun _ _ _ h => h) (fun _ _ h => h) hcell, fun t p y v' g' hy hv' hgv => ?_⟩
    simp only [FS.offR, FS.setB] at hy
    split at hy
    · cases hy
    · rename_i hn'
      simp only [FS.setT] at hy
      split at hy
      · cases hy
      · rename_i hn2
        have e0 : At ρ (a2.put (some d2) (.agg vs.toArray)).tmps (w'.setRow g (over us3 0 vs).toArray) t p = At ρ a2.tmps w' t p := by
          cases p with
          | none => exact at_put (ρ := ρ) d2 _ t none hn2
          | some k =>
            simp only [At]
            cases ht' : ρ t with
            | none => rfl
            | some g6 =>
              have : g6 ≠ g := fun e => by
                have htb' := hr.inj t b g (e ▸ ht') hg
                subst htb'
                obtain ⟨y', q1', _⟩ := hr4.fl t (some k) y.1 y.2 hy
                simp only [At, ht', Option.bind_some] at q1'
                rw [e, cell_of_row w' g k us3.toArray t3 (0, 0) hblk3] at q1'
                have : k < us3.length := by
                  have := (Array.getElem?_eq_some_iff.1 q1').1
                  simpa using this
                exact hn' ⟨rfl, k, rfl, Nat.zero_le _, by omega⟩
              exact cell_setRow_other w' g _ ⟨g6, k, none⟩ this
        rw [e0] at hv'
        exact q4 t p y v' g' hy hv' hgv) (fun x hx y hy u u' g' q1 q2 q3 q4 => by
    obtain ⟨u1, k1, _⟩ := hcv x hx
    obtain ⟨u2, k2, _⟩ := hcv y hy
    rw [hat _ _ k1] at q1; cases q1
    rw [hat _ _ k2] at q2; cases q2
    have := hap (some x.1, x.2) (List.mem_map_of_mem hx) (some y.1, y.2) (List.mem_map_of_mem hy) u u' g' (by simpa [cellAt] using k1) (by simpa [cellAt] using k2) q3 q4
    simpa using this)
  refine ⟨I', ρ, h7.less (fun s x hx => ?_) ?_ (fun s p x hx => ?_)⟩
  · rw [(giveFS_tm ro).1]
    simp only [St.F, look_off] at hx
    show (if s = d2 then _ else _) = _
    split at hx
    · cases hx
    · rename_i n2
      split at hx
      · cases hx
      · rename_i n1
        rw [if_neg n2]
        show (preSet pre (st.F.setT d1 none)).tm s = some x
        exact preSet_tm (l := offT st.tm d1) (fun s x hx => by
          rw [look_off] at hx
          simp only [FS.setT]
          exact hx) (by
          have : look (preOff pre (offT st.tm d1)) s = look (preOff pre st.tm) s := by
            cases pre with
            | none => simp only [preOff, look_off]; rw [if_neg n1]
            | some q => simp only [preOff, look_off]; rw [if_neg n1]
          rw [this]; exact hx)
  · rw [(giveFS_tm ro).2]
    funext c
    show look ((b, rs) :: st.bx) c = if c = b then some (over cs 0 rs) else (preSet pre (st.F.setT d1 none)).bx c
    have : over cs 0 rs = rs := by simp [over]; omega
    rw [preSet_bx]
    show _ = if c = b then some (over cs 0 rs) else look st.bx c
    simp only [look, this]
    by_cases q : b = c
    · subst q; simp
    · rw [if_neg q, if_neg (fun e => q e.symm)]
  · refine giveFS_look (fun s p x hx => ?_) hx
    rw [lookF_off] at hx
    split at hx
    · cases hx
    · rename_i hm
      simp only [List.mem_append, List.mem_cons, mem_cellsFrom, not_or] at hm
      obtain ⟨m0, m1, m2, m3⟩ := hm
      simp only [FS.offR, FS.setB]
      rw [if_neg m3]
      simp only [FS.setT]
      rw [if_neg (fun e => m2 (by rw [e.1, e.2]))]
      simp only [FS.offL]
      rw [if_neg (fun q => by
        obtain ⟨y, hy, e⟩ := List.mem_map.1 q
        cases e
        exact m3 ⟨rfl, y.1, rfl, Nat.zero_le _, by rw [Nat.zero_add, hrl]; exact (hri y hy).1⟩), preSet_fl m0]
      simp only [FS.setT]
      rw [if_neg (fun e => m1 (by rw [e.1, e.2]))]
      exact hx
end
end Go.Proofs.Ytdfdeppimimoiab.ab
