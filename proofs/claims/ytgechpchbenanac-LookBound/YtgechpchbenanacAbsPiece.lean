/-
  Pieces of a region, as plain data: a struct that a call makes of one's own, with a row that may be appended to, is kept in a box; it is copied into another box; it is handed to a call. Nothing of the program.
-/
import Derived.Test.YtgechpchbenanacAbsRegion
namespace Go.Proofs.Ytgechpchbenanac.ab
set_option linter.unusedSimpArgs false
set_option linter.unusedVariables false
open Go Go.RowKit

/-- How a part ends: behind it (none), at a return, at an exit. -/
abbrev AX := Option (Option Nat)
/-- Plain code: what must hold for it to end so. -/
abbrev IC := St → (AX → St → Prop) → Prop

/-- 's = f(s)': s in a box. -/
def cOwn (P : Program) (tb d1 d2 f n : Nat) : IC := fun st Q => ∃ b cs cs' rs off e z, look st.tm tb = some (pD b 0) ∧ look st.bx b = some cs ∧ cs.length = n ∧ cs.all isL = true ∧ RowLe cs cs' ∧ ToldO P f [aD cs'] [aD rs] (some off) e z ∧ rs.length = n ∧
  Q none ⟨offT (offT st.tm d1) d2, (b, rs) :: st.bx, ((b, some off), (e, z)) :: offP st.fl ((d1, none) :: (d2, none) :: cellsFrom b 0 rs)⟩
/-- 't = s': both in boxes. -/
def cCpy (tb tb' d1 n : Nat) : IC := fun st Q => ∃ b b' cs cs0 off x, look st.tm tb = some (pD b 0) ∧ look st.tm tb' = some (pD b' 0) ∧ b ≠ b' ∧ look st.bx b = some cs ∧ look st.bx b' = some cs0 ∧ cs.length = n ∧ cs0.length = n ∧ cs.all isL = true ∧ off < n ∧ lookF st.fl (b, some off) = some x ∧
  Q none ⟨offT st.tm d1, (b', cs) :: st.bx, ((b', some off), x) :: offP st.fl ((b, some off) :: (d1, none) :: cellsFrom b' 0 cs)⟩
/-- 'f(s)': s in a box, with a row that f may append to. -/
def cInn (P : Program) (tb d1 d2 f n : Nat) : IC := fun st Q => ∃ b cs cs' off e z r, look st.tm tb = some (pD b 0) ∧ look st.bx b = some cs ∧ cs.length = n ∧ cs.all isL = true ∧ RowLe cs cs' ∧ off < n ∧ lookF st.fl (b, some off) = some (e, z) ∧ ToldI P f [aD cs'] 0 (some off) e z r ∧
  Q none ⟨(d2, res r) :: offT st.tm d1, st.bx, offP st.fl [(b, some off), (d1, none), (d2, none)]⟩

section
variable {P : Program} {N : Nat} {ops : Array Oper} {base : Nat → Prop} {w0 : World} {I0 : Still}

theorem run_loadA {T n : Nat} (hn : sizeT P T = some n) (ha : aggT P T = some true) {w : World} {g : Nat} {us : List Value} {t' : TypeId} (hg : w.heap[g]? = some (.cells us.toArray t' (0, 0))) (hl : us.length = n) :
    (Instr.loadAt T (.pointer (some ⟨g, 0, none⟩))).run P w = .ok (.agg us.toArray) w := by
  have hcell : ∀ j, w.cell? ⟨g, j, none⟩ = us[j]? := fun j => by rw [cell_of_row w g j us.toArray t' (0, 0) hg]; simp
  have := run_loadCells_list (P := P) w ⟨g, 0, none⟩ us (fun j y hy => by rw [Addr.add_lit, hcell, Nat.zero_add]; exact hy)
  rw [hl] at this
  simp [Instr.loadAt, Instr.sureAddr, loadVar, run_isAgg ha, run_sizeOf hn, this]
theorem row_of_all {I : Still} {ρ : Nat → Option Nat} {w : World} {cs : List D} {us : List Value} (h : RowL I ρ w cs us) (hL : cs.all isL = true) : Row I w cs us :=
  ⟨h.1, fun j c u hc hu => (h.2 j c u hc hu).leaf (List.all_eq_true.1 hL c (List.mem_of_getElem? hc))⟩
theorem eval_put {a : Act} {d t : Nat} {v : Value} (h : t ≠ d) : (a.put (some d) v).eval (.tmp t) = a.eval (.tmp t) := by
  simp only [Act.eval, Act.put, Array.getD_eq_getD_getElem?]
  rw [Array.getElem?_setIfInBounds, if_neg (fun e => h e.symm)]
theorem eval_put_same {a : Act} {d : Nat} {v : Value} (h : d < a.tmps.size) : (a.put (some d) v).eval (.tmp d) = v := by
  simp [Act.eval, Act.put, Array.getD_eq_getD_getElem?, h]
theorem run_callF {f : Nat} (hc : callableB P f = true) {o : Oper} {s : Nat} {ats : Array TypeId} (ho : o.op = .call { callee := .value (.func f), args := #[.tmp s], argTypes := ats }) (a : Act) (w : World) : (execOp a.eval o).run P w = .ok (.enter f #[a.eval (.tmp s)]) w := by
  unfold callableB at hc
  split at hc
  · rename_i fn hfn
    simp only [Bool.and_eq_true, Bool.not_eq_true'] at hc
    have hn' : ¬ fn.name = "runtime.NumGoroutine" := by simpa using hc.1
    have hb' : ¬ fn.body = none := by intro q; rw [q] at hc; simp at hc
    have e : a.eval (.func f) = .func (.func f) #[] #[] := rfl
    simp [execOp, ho, resolve, e, Deferred.ofValue, invoke, callFunc, hfn, hn', hb']
  · cases hc
theorem wanted_none {o : Oper} (h : o.guard = none) (y : Nat → Option Bool) : Region.wanted o y = true := by simp [Region.wanted, h]
set_option maxHeartbeats 1000000 in
theorem run_own {o1 o2 o3 : Oper} {l2 : List Oper} {T tb d1 d2 f n : Nat} {ats : Array TypeId} (ho1 : o1.op = .load T (.tmp tb)) (hd1 : o1.dst = some d1) (hg1 : o1.guard = none) (ho2 : o2.op = .call { callee := .value (.func f), args := #[.tmp d1], argTypes := ats }) (hd2 : o2.dst = some d2) (hg2 : o2.guard = none)
    (ho3 : o3.op = .store T (.tmp tb) (.tmp d2)) (hd3 : o3.dst = none) (hg3 : o3.guard = none) (hn : sizeT P T = some n) (ha : aggT P T = some true) (hc : callableB P f = true) (hN1 : d1 < N) (hN2 : d2 < N) (hne1 : tb ≠ d1) (hne2 : tb ≠ d2) {st : St} {R : AX → St → Prop} {Q : Exit → Act → World → Prop} {a : Act} {w : World}
    (h : cOwn P tb d1 d2 f n st R) (hr : Rel base w0 I0 N st.F a w) (hK : ∀ st' a' w', R none st' → Rel base w0 I0 N st'.F a' w' → wpList P ops Q l2 a' w') : wpList P ops Q (o1 :: o2 :: o3 :: l2) a w := by
  obtain ⟨b, cs, cs', rs, off, e, z, h1, h2, hl, hL, hle, ht, hrl, hq⟩ := h
  obtain ⟨I, ρ, hr⟩ := hr
  obtain ⟨up, hp1, hp2⟩ := hr.tm tb _ h1
  obtain ⟨g, hlt, hg, rfl⟩ := hp2.invP
  obtain ⟨g', hg', hbs, hbx, hnI⟩ := hr.bx b cs h2
  rw [hg] at hg'; cases hg'
  obtain ⟨us, tyB, hblk, hrowL⟩ := hbx.cells hlt
  have hrow := row_of_all hrowL hL
  have htb : a.eval (.tmp tb) = .pointer (some ⟨g, 0, none⟩) := by simp [Act.eval, Array.getD_eq_getD_getElem?, hp1]
  -- the load
  refine wpList_step fun K1 hK1 => ?_
  rw [if_pos (wanted_none hg1 _)]
  unfold Oper.wp
  rw [show (execOp a.eval o1).run P w = .ok (.value (.agg us.toArray)) w by simp [execOp, ho1, htb, run_loadA hn ha hblk (by rw [← hrowL.1, hl])]]
  show K1 (a.put o1.dst _) w
  rw [hd1]
  refine hK1 _ _ ?_
  have hr1 := hr.put hN1 (v := none) (u := .agg us.toArray) (fun x hx => by cases hx)
  -- the call
  refine wpList_step fun K2 hK2 => ?_
  rw [if_pos (wanted_none hg2 _)]
  unfold Oper.wp
  rw [run_callF hc ho2, eval_put_same (by rw [hr.size]; exact hN1)]
  refine (ht w I [.agg us.toArray] (Vals.cons (.inr ⟨cs', us, rfl, rfl, hle.rep hrow⟩) Vals.nil) hr.lt).mono fun x w' ⟨v, I', u, he, hI, hs, hv, hu, hown, hbel⟩ => ?_
  subst he
  show K2 (Act.put _ o2.dst v) w'
  rw [hd2]
  refine hK2 _ _ ?_
  obtain ⟨hr2, hown2, hap⟩ := hr1.laterO hbel hI hs hown
  have hr3 := hr2.put hN2 (v := none) (u := v) (fun x hx => by cases hx)
  obtain ⟨vs, rfl, hvs⟩ := CVRep.agg hv
  -- the store
  have hb3 : (((st.F.setT d1 none).setT d2 none)).bx b = some cs := h2
  obtain ⟨g3, us3, t3, hg3', hblk3, hul3, hr4⟩ := hr3.store hlt hb3 (off := 0) (ds := rs) (vs := vs) (by omega) hvs.L
  rw [hg] at hg3'; cases hg3'
  have hvn : vs.length = n := by rw [← hvs.1, hrl]
  refine wpList_step fun K3 hK3 => ?_
  rw [if_pos (wanted_none hg3 _)]
  unfold Oper.wp
  have hst := run_storeP (P := P) hn hblk3 (u := .agg vs.toArray) (off := 0) (by simpa [Value.cells] using hvn) (by intro x hx; exact hvs.one x (by simpa [Value.cells] using hx)) (by rw [hul3]; omega)
  rw [show (execOp (Act.eval ((a.put (some d1) (.agg us.toArray)).put (some d2) (.agg vs.toArray))) o3).run P w' = .ok .skip (w'.setRow g (over us3 0 vs).toArray) by
    have e1 : ((a.put (some d1) (.agg us.toArray)).put (some d2) (.agg vs.toArray)).eval (.tmp tb) = .pointer (some ⟨g, 0, none⟩) := by rw [eval_put hne2, eval_put hne1, htb]
    have e2 : ((a.put (some d1) (.agg us.toArray)).put (some d2) (.agg vs.toArray)).eval (.tmp d2) = .agg vs.toArray := eval_put_same (by rw [hr2.size]; exact hN2)
    simp only [execOp, ho3, e1, e2, Sem.run_bind, hst, Result.andThen_ok, Value.cells, List.toList_toArray, Sem.run_pure]]
  show K3 (Act.put _ o3.dst undef) _
  rw [hd3]
  refine hK3 _ _ (hK _ _ _ hq ?_)
  -- the right
  have hvo : vs[off]? = some u := by simpa [cellAt] using hu
  have hofl : off < vs.length := (List.getElem?_eq_some_iff.1 hvo).1
  have hnI4 : ∀ j, ¬ I' g j := by
    obtain ⟨g5, q1, _, _, q4⟩ := hr3.bx b cs hb3
    rw [hg] at q1; cases q1; exact q4
  have hcell : ∀ c j, I' c j → (w'.setRow g (over us3 0 vs).toArray).cell? ⟨c, j, none⟩ = w'.cell? ⟨c, j, none⟩ := fun c j hi =>
    cell_setRow_other w' g _ ⟨c, j, none⟩ (fun e => hnI4 j (by rw [← e]; exact hi))
  have hat : At ρ ((a.put (some d1) (.agg us.toArray)).put (some d2) (.agg vs.toArray)).tmps (w'.setRow g (over us3 0 vs).toArray) b (some off) = some u := by
    simp only [At, hg, Option.bind_some]
    rw [cell_setRow_same w' g off us3.toArray _ t3 (0, 0) hblk3]
    have := over_in (cs := us3) (ds := vs) (off := 0) (j := off) (by omega) hofl
    rw [Nat.zero_add] at this
    simpa [this] using hvo
  have hneg : ∀ g', u.ownBlock = some g' → g' ≠ g := fun g' hg' e => by
    obtain ⟨_, _, _, q, _⟩ := hown2
    exact (q g' hg').2.2 b (by rw [e]; exact hg)
  have hown4 : Own I' ρ base (w'.setRow g (over us3 0 vs).toArray) e z u := own_keep hown2 (fun g' hg' => setRow_other w' g g' _ (hneg g' hg')) (fun _ _ _ h => h) (fun _ _ _ h => h) (fun _ _ h => h) hcell
  have h5 := hr4.giveF (s := b) (o := some off) (e := e) (z := z) (u := u) (fun _ _ => hlt) hat hown4 (fun t p x y g' hx hy hg' => by
    simp only [FS.offR, FS.setB] at hx
    split at hx
    · cases hx
    · rename_i hn'
      simp only [FS.setT] at hx
      split at hx
      · cases hx
      · rename_i hn2
        have hx1 := hx
        split at hx
        · cases hx
        · rename_i hn1
          have e0 : At ρ ((a.put (some d1) (.agg us.toArray)).put (some d2) (.agg vs.toArray)).tmps (w'.setRow g (over us3 0 vs).toArray) t p = At ρ (a.put (some d1) (.agg us.toArray)).tmps w' t p := by
            cases p with
            | none => exact at_put (ρ := ρ) d2 _ t none hn2
            | some k =>
              simp only [At]
              cases ht' : ρ t with
              | none => rfl
              | some g6 =>
                have : g6 ≠ g := fun e => by
                  have htb' := hr.inj t b g (e ▸ ht') hg
                  subst htb'
                  obtain ⟨y', q1, _⟩ := hr.fl t (some k) x.1 x.2 hx
                  simp only [At, ht', Option.bind_some] at q1
                  rw [e, cell_of_row w g k us.toArray tyB (0, 0) hblk] at q1
                  have : k < us.length := by
                    have := (Array.getElem?_eq_some_iff.1 q1).1
                    simpa using this
                  exact hn' ⟨rfl, k, rfl, Nat.zero_le _, by rw [← hrowL.1, hl] at this; omega⟩
                exact cell_setRow_other w' g _ ⟨g6, k, none⟩ this
          rw [e0] at hy
          exact hap t p x y g' hx1 hy hg')
  refine ⟨I', ρ, h5.less (fun s x hx => ?_) ?_ (fun s p x hx => ?_)⟩
  · simp only [St.F, look_off] at hx
    simpa [FS.onF, FS.offR, FS.setB, FS.setT, St.F] using hx
  · funext c
    show look ((b, rs) :: st.bx) c = if c = b then some (over cs 0 rs) else look st.bx c
    have : over cs 0 rs = rs := by simp [over]; omega
    simp only [look, this]
    by_cases q : b = c
    · subst q; simp
    · rw [if_neg q, if_neg (fun e => q e.symm)]
  · simp only [St.F, lookF, lookF_off] at hx
    simp only [FS.onF]
    by_cases q : (b, some off) = (s, p)
    · rw [if_pos q] at hx; cases q; simpa using hx
    · rw [if_neg q] at hx
      rw [if_neg (fun e => q (by rw [e.1, e.2]))]
      split at hx
      · cases hx
      · rename_i hm
        simp only [List.mem_cons, mem_cellsFrom, not_or, Prod.mk.injEq] at hm
        obtain ⟨m1, m2, m3⟩ := hm
        simp only [FS.offR, FS.setB, FS.setT]
        rw [if_neg m3, if_neg m2, if_neg m1]
        exact hx

set_option maxHeartbeats 1000000 in
theorem run_cpy {o1 o2 : Oper} {l2 : List Oper} {T tb tb' d1 n : Nat} (ho1 : o1.op = .load T (.tmp tb)) (hd1 : o1.dst = some d1) (hg1 : o1.guard = none) (ho2 : o2.op = .store T (.tmp tb') (.tmp d1)) (hd2 : o2.dst = none) (hg2 : o2.guard = none)
    (hn : sizeT P T = some n) (ha : aggT P T = some true) (hN1 : d1 < N) (hne : tb' ≠ d1) {st : St} {R : AX → St → Prop} {Q : Exit → Act → World → Prop} {a : Act} {w : World}
    (h : cCpy tb tb' d1 n st R) (hr : Rel base w0 I0 N st.F a w) (hK : ∀ st' a' w', R none st' → Rel base w0 I0 N st'.F a' w' → wpList P ops Q l2 a' w') : wpList P ops Q (o1 :: o2 :: l2) a w := by
  obtain ⟨b, b', cs, cs0, off, x, h1, h1', hbb, h2, h2', hl, hl', hL, hoff, hfl, hq⟩ := h
  obtain ⟨I, ρ, hr⟩ := hr
  obtain ⟨up, hp1, hp2⟩ := hr.tm tb _ h1
  obtain ⟨g, hlt, hg, rfl⟩ := hp2.invP
  obtain ⟨up', hp1', hp2'⟩ := hr.tm tb' _ h1'
  obtain ⟨gg, hlt', hgg, rfl⟩ := hp2'.invP
  obtain ⟨g', hg', hbs, hbx, hnI⟩ := hr.bx b cs h2
  rw [hg] at hg'; cases hg'
  obtain ⟨us, tyB, hblk, hrowL⟩ := hbx.cells hlt
  have hrow := row_of_all hrowL hL
  have htb : a.eval (.tmp tb) = .pointer (some ⟨g, 0, none⟩) := by simp [Act.eval, Array.getD_eq_getD_getElem?, hp1]
  have htb' : a.eval (.tmp tb') = .pointer (some ⟨gg, 0, none⟩) := by simp [Act.eval, Array.getD_eq_getD_getElem?, hp1']
  have hul : us.length = n := by rw [← hrowL.1, hl]
  refine wpList_step fun K1 hK1 => ?_
  rw [if_pos (wanted_none hg1 _)]
  unfold Oper.wp
  rw [show (execOp a.eval o1).run P w = .ok (.value (.agg us.toArray)) w by simp [execOp, ho1, htb, run_loadA hn ha hblk hul]]
  show K1 (a.put o1.dst _) w
  rw [hd1]
  refine hK1 _ _ ?_
  have hr1 := hr.put hN1 (v := none) (u := .agg us.toArray) (fun x hx => by cases hx)
  have hb3 : (st.F.setT d1 none).bx b' = some cs0 := h2'
  obtain ⟨g3, us3, t3, hg3', hblk3, hul3, hr4⟩ := hr1.store hlt' hb3 (off := 0) (ds := cs) (vs := us) (by omega) hrow.L
  rw [hgg] at hg3'; cases hg3'
  refine wpList_step fun K3 hK3 => ?_
  rw [if_pos (wanted_none hg2 _)]
  unfold Oper.wp
  have hst := run_storeP (P := P) hn hblk3 (u := .agg us.toArray) (off := 0) (by simpa [Value.cells] using hul) (by intro x hx; exact hrow.one x (by simpa [Value.cells] using hx)) (by rw [hul3]; omega)
  rw [show (execOp (Act.eval (a.put (some d1) (.agg us.toArray))) o2).run P w = .ok .skip (w.setRow gg (over us3 0 us).toArray) by
    have e1 : (a.put (some d1) (.agg us.toArray)).eval (.tmp tb') = .pointer (some ⟨gg, 0, none⟩) := by rw [eval_put hne, htb']
    have e2 : (a.put (some d1) (.agg us.toArray)).eval (.tmp d1) = .agg us.toArray := eval_put_same (by rw [hr.size]; exact hN1)
    simp only [execOp, ho2, e1, e2, Sem.run_bind, hst, Result.andThen_ok, Value.cells, List.toList_toArray, Sem.run_pure]]
  show K3 (Act.put _ o2.dst undef) _
  rw [hd2]
  refine hK3 _ _ (hK _ _ _ hq ?_)
  have hgne : g ≠ gg := fun e => hbb (hr.inj b b' gg (e ▸ hg) hgg)
  have huo : us[off]? = some (us[off]'(by omega)) := List.getElem?_eq_getElem (by omega)
  have hcb : (w.setRow gg (over us3 0 us).toArray).cell? ⟨g, off, none⟩ = us[off]? := by
    rw [cell_setRow_other w gg _ ⟨g, off, none⟩ hgne, cell_of_row w g off us.toArray tyB (0, 0) hblk]; simp
  have hcb' : (w.setRow gg (over us3 0 us).toArray).cell? ⟨gg, off, none⟩ = us[off]? := by
    rw [cell_setRow_same w gg off us3.toArray _ t3 (0, 0) hblk3]
    have := over_in (cs := us3) (ds := us) (off := 0) (j := off) (by omega) (by omega)
    rw [Nat.zero_add] at this
    simpa using this
  have hx4 : ((((st.F.setT d1 none).setB b' (over cs0 0 cs))).offR b' 0 cs.length).fl b (some off) = some x := by
    simp only [FS.offR, FS.setB, FS.setT]
    rw [if_neg (fun q => hbb q.1), if_neg (fun q => by cases q.2)]
    exact hfl
  have h5 := hr4.moveF (s := b) (o := some off) (s' := b') (o' := some off) (x := x) (u := us[off]'(by omega)) (fun _ _ => hlt') hx4 (by simp only [At, hg, Option.bind_some]; rw [hcb, huo]) (by simp only [At, hgg, Option.bind_some]; rw [hcb', huo])
  refine ⟨I, ρ, h5.less (fun s x hx => ?_) ?_ (fun s p x hx => ?_)⟩
  · simp only [St.F, look_off] at hx
    simpa [FS.onF, FS.offF, FS.offR, FS.setB, FS.setT, St.F] using hx
  · funext c
    show look ((b', cs) :: st.bx) c = if c = b' then some (over cs0 0 cs) else look st.bx c
    have : over cs0 0 cs = cs := by simp [over]; omega
    simp only [look, this]
    by_cases q : b' = c
    · subst q; simp
    · rw [if_neg q, if_neg (fun e => q e.symm)]
  · simp only [St.F, lookF, lookF_off] at hx
    simp only [FS.onF, FS.offF]
    by_cases q : (b', some off) = (s, p)
    · rw [if_pos q] at hx; cases q; simpa using hx
    · rw [if_neg q] at hx
      rw [if_neg (fun e => q (by rw [e.1, e.2]))]
      split at hx
      · cases hx
      · rename_i hm
        simp only [List.mem_cons, mem_cellsFrom, not_or, Prod.mk.injEq] at hm
        obtain ⟨m1, m2, m3⟩ := hm
        simp only [FS.offR, FS.setB, FS.setT]
        rw [if_neg m1, if_neg m3, if_neg m2]
        exact hx

set_option maxHeartbeats 1000000 in
theorem run_inn {o1 o2 : Oper} {l2 : List Oper} {T tb d1 d2 f n : Nat} {ats : Array TypeId} (ho1 : o1.op = .load T (.tmp tb)) (hd1 : o1.dst = some d1) (hg1 : o1.guard = none) (ho2 : o2.op = .call { callee := .value (.func f), args := #[.tmp d1], argTypes := ats }) (hd2 : o2.dst = some d2) (hg2 : o2.guard = none)
    (hn : sizeT P T = some n) (ha : aggT P T = some true) (hc : callableB P f = true) (hN1 : d1 < N) (hN2 : d2 < N) {st : St} {R : AX → St → Prop} {Q : Exit → Act → World → Prop} {a : Act} {w : World}
    (h : cInn P tb d1 d2 f n st R) (hr : Rel base w0 I0 N st.F a w) (hK : ∀ st' a' w', R none st' → Rel base w0 I0 N st'.F a' w' → wpList P ops Q l2 a' w') : wpList P ops Q (o1 :: o2 :: l2) a w := by
  obtain ⟨b, cs, cs', off, e, z, r, h1, h2, hl, hL, hle, hoff, hfl, ht, hq⟩ := h
  obtain ⟨I, ρ, hr⟩ := hr
  obtain ⟨up, hp1, hp2⟩ := hr.tm tb _ h1
  obtain ⟨g, hlt, hg, rfl⟩ := hp2.invP
  obtain ⟨g', hg', hbs, hbx, hnI⟩ := hr.bx b cs h2
  rw [hg] at hg'; cases hg'
  obtain ⟨us, tyB, hblk, hrowL⟩ := hbx.cells hlt
  have hrow := row_of_all hrowL hL
  have htb : a.eval (.tmp tb) = .pointer (some ⟨g, 0, none⟩) := by simp [Act.eval, Array.getD_eq_getD_getElem?, hp1]
  have hul : us.length = n := by rw [← hrowL.1, hl]
  refine wpList_step fun K1 hK1 => ?_
  rw [if_pos (wanted_none hg1 _)]
  unfold Oper.wp
  rw [show (execOp a.eval o1).run P w = .ok (.value (.agg us.toArray)) w by simp [execOp, ho1, htb, run_loadA hn ha hblk hul]]
  show K1 (a.put o1.dst _) w
  rw [hd1]
  refine hK1 _ _ ?_
  have hr1 := hr.put hN1 (v := none) (u := .agg us.toArray) (fun x hx => by cases hx)
  have hx1 : (st.F.setT d1 none).fl b (some off) = some (e, z) := by
    simp only [FS.setT]
    rw [if_neg (fun q => by cases q.2)]
    exact hfl
  obtain ⟨u, hat, hown⟩ := hr1.fl b (some off) e z hx1
  have huo : us[off]? = some u := by
    simp only [At, hg, Option.bind_some] at hat
    rw [cell_of_row w g off us.toArray tyB (0, 0) hblk] at hat
    simpa using hat
  refine wpList_step fun K2 hK2 => ?_
  rw [if_pos (wanted_none hg2 _)]
  unfold Oper.wp
  rw [run_callF hc ho2, eval_put_same (by rw [hr.size]; exact hN1)]
  refine (ht w I [.agg us.toArray] (.agg us.toArray) u (Vals.cons (.inr ⟨cs', us, rfl, rfl, hle.rep hrow⟩) Vals.nil) hr.lt rfl (by simpa [cellAt] using huo) (own_lent hown)).mono fun x w' ⟨v, hx', hv, hk, hcl⟩ => ?_
  subst hx'
  show K2 (Act.put _ o2.dst v) w'
  rw [hd2]
  refine hK2 _ _ (hK _ _ _ hq ?_)
  have h3 := ((hr1.offF b (some off)).laterI hown (fun s' o' x y g hx' hy hg hu' => by
    simp only [FS.offF] at hx'
    split at hx'
    · cases hx'
    · rename_i hne'
      exact hne' (hr1.apart s' o' b (some off) x (e, z) y u g hx' hx1 hy hat hg hu')) hk hcl).put hN2 (v := some (res r)) (u := v) (fun x hx => by cases hx; exact res_rep hv)
  refine ⟨_, ρ, h3.less (fun s x hx => ?_) rfl (fun s p x hx => ?_)⟩
  · have hx' : look ((d2, res r) :: offT st.tm d1) s = some x := hx
    simp only [look, look_off] at hx'
    simp only [FS.setT, FS.offF]
    by_cases q : d2 = s
    · subst q; simpa using hx'
    · rw [if_neg q] at hx'; rw [if_neg (fun e => q e.symm)]; exact hx'
  · simp only [St.F, lookF_off] at hx
    split at hx
    · cases hx
    · rename_i hm
      simp only [List.mem_cons, List.not_mem_nil, or_false, not_or, Prod.mk.injEq] at hm
      obtain ⟨m1, m2, m3⟩ := hm
      simp only [FS.offF, FS.setT]
      rw [if_neg m3, if_neg m1, if_neg m2]
      exact hx

/-- Pieces by their kind. -/
def compX1 (P : Program) (N : Nat) (o1 o2 o3 : Oper) : Option IC := match o1.op, o1.dst, o2.op, o2.dst, o3.op with
  | .load T (.tmp tb), some d1, .call c, some d2, .store T' (.tmp tb') (.tmp d2') => match c.callee, c.args.toList, sizeT P T, aggT P T with
    | .value (.func f), [.tmp d1'], some n, some true => if ((o1.guard.isNone = true ∧ o2.guard.isNone = true ∧ o3.guard.isNone = true ∧ o3.dst.isNone = true) ∧ (T' = T ∧ tb' = tb ∧ d2' = d2 ∧ d1' = d1)) ∧ callableB P f = true ∧ (d1 < N ∧ d2 < N ∧ tb ≠ d1 ∧ tb ≠ d2) then some (cOwn P tb d1 d2 f n) else none
    | _, _, _, _ => none
  | _, _, _, _, _ => none
def compX2 (P : Program) (N : Nat) (o1 o2 : Oper) : Option IC := match o1.op, o1.dst, o2.op with
  | .load T (.tmp tb), some d1, .store T' (.tmp tb') (.tmp d1') => match sizeT P T, aggT P T with
    | some n, some true => if ((o1.guard.isNone = true ∧ o2.guard.isNone = true ∧ o2.dst.isNone = true) ∧ (T' = T ∧ d1' = d1)) ∧ (d1 < N ∧ tb' ≠ d1) then some (cCpy tb tb' d1 n) else none
    | _, _ => none
  | _, _, _ => none
def compX3 (P : Program) (N : Nat) (o1 o2 : Oper) : Option IC := match o1.op, o1.dst, o2.op, o2.dst with
  | .load T (.tmp tb), some d1, .call c, some d2 => match c.callee, c.args.toList, sizeT P T, aggT P T with
    | .value (.func f), [.tmp d1'], some n, some true => if ((o1.guard.isNone = true ∧ o2.guard.isNone = true) ∧ d1' = d1) ∧ callableB P f = true ∧ (d1 < N ∧ d2 < N) then some (cInn P tb d1 d2 f n) else none
    | _, _, _, _ => none
  | _, _, _, _ => none
def compX (P : Program) (N : Nat) (k : Nat) (l : List Oper) : Option IC := match k, l with
  | 1, [o1, o2, o3] => compX1 P N o1 o2 o3
  | 2, [o1, o2] => compX2 P N o1 o2
  | 3, [o1, o2] => compX3 P N o1 o2
  | _, _ => none
theorem call_eq {c : Call} {f d : Nat} (h1 : c.callee = .value (.func f)) (h2 : c.args.toList = [.tmp d]) : c = { callee := .value (.func f), args := #[.tmp d], argTypes := c.argTypes } := by
  cases c
  simp only at h1 h2
  rw [h1, Array.toList_inj.1 (h2.trans rfl : _ = (#[.tmp d] : Array Operand).toList)]
theorem compX_ok {k : Nat} {l l2 : List Oper} {ic : IC} (hc : compX P N k l = some ic) {st : St} {R : AX → St → Prop} {Q : Exit → Act → World → Prop} {a : Act} {w : World} (h : ic st R) (hr : Rel base w0 I0 N st.F a w)
    (hK : ∀ st' a' w', R none st' → Rel base w0 I0 N st'.F a' w' → wpList P ops Q l2 a' w') : wpList P ops Q (l ++ l2) a w := by
  unfold compX at hc
  split at hc
  · unfold compX1 at hc
    split at hc
    · rename_i k1 k2 k3 k4 k5
      split at hc
      · rename_i q1 q2 q3 q4
        split at hc
        · rename_i hq
          cases hc
          obtain ⟨⟨⟨g1, g2, g3, g4⟩, rfl, rfl, rfl, rfl⟩, hcf, hN1, hN2, n1, n2⟩ := hq
          exact run_own k1 k2 (Option.isNone_iff_eq_none.1 g1) (k3.trans (by rw [call_eq q1 q2])) k4 (Option.isNone_iff_eq_none.1 g2) k5 (Option.isNone_iff_eq_none.1 g4) (Option.isNone_iff_eq_none.1 g3) q3 q4 hcf hN1 hN2 n1 n2 h hr hK
        · cases hc
      · cases hc
    · cases hc
  · unfold compX2 at hc
    split at hc
    · rename_i k1 k2 k3
      split at hc
      · rename_i q3 q4
        split at hc
        · rename_i hq
          cases hc
          obtain ⟨⟨⟨g1, g2, g4⟩, rfl, rfl⟩, hN1, n1⟩ := hq
          exact run_cpy k1 k2 (Option.isNone_iff_eq_none.1 g1) k3 (Option.isNone_iff_eq_none.1 g4) (Option.isNone_iff_eq_none.1 g2) q3 q4 hN1 n1 h hr hK
        · cases hc
      · cases hc
    · cases hc
  · unfold compX3 at hc
    split at hc
    · rename_i k1 k2 k3 k4
      split at hc
      · rename_i q1 q2 q3 q4
        split at hc
        · rename_i hq
          cases hc
          obtain ⟨⟨⟨g1, g2⟩, rfl⟩, hcf, hN1, hN2⟩ := hq
          exact run_inn k1 k2 (Option.isNone_iff_eq_none.1 g1) (k3.trans (by rw [call_eq q1 q2])) k4 (Option.isNone_iff_eq_none.1 g2) q3 q4 hcf hN1 hN2 h hr hK
        · cases hc
      · cases hc
    · cases hc
  · cases hc
end
end Go.Proofs.Ytgechpchbenanac.ab
