/-
  What each operation of the language does, as plain data: cutting, building, appending, calling. Nothing of the program.
-/
import Derived.Test.YtgechpchbenanacAbsStepA
namespace Go.Proofs.Ytgechpchbenanac.ab
set_option linter.unusedSimpArgs false
set_option linter.unusedVariables false
open Go Go.RowKit

section
variable {P : Program} {o : Oper} {st : St}

/-- A bound of a slice. -/
def bnd (st : St) (x : Option Operand) (dflt : Nat) : Option (Int × List (Nat × D)) := match x with
  | none => some (dflt, [])
  | some x => match rd st x with
    | some (.held (.inl (.int k n))) => some (n, rds x (vD (.int k n)))
    | _ => none
theorem bnd_ok {x : Option Operand} {dflt : Nat} {n : Int} {rs : List (Nat × D)} (h : bnd st x dflt = some (n, rs)) : ∀ y ∈ rs, st.F.tm y.1 = some y.2 := by
  unfold bnd at h
  split at h
  · cases h; intro y hy; simp at hy
  · split at h
    · rename_i hx; cases h; exact rd_ok hx
    · cases h
theorem bnd_rep {x : Option Operand} {dflt : Nat} {n : Int} {rs : List (Nat × D)} (h : bnd st x dflt = some (n, rs)) {I : Still} {ρ : Nat → Option Nat} {a : Act} {w : World} (hr : ∀ y ∈ rs, ∃ u, a.tmps[y.1]? = some u ∧ AVRep I ρ w y.2 u) :
    (x = none ∧ n = dflt) ∨ ∃ k y, x = some y ∧ a.eval y = .int k n := by
  unfold bnd at h
  split at h
  · cases h; exact .inl ⟨rfl, rfl⟩
  · split at h
    · rename_i k n' hx
      cases h
      exact .inr ⟨k, _, rfl, plain_of (rd_rep hx hr)⟩
    · cases h

theorem ok_slc {t e : TypeId} {z : Nat} {x : Operand} {lo hi : Option Operand} (ho : o.op = .slice t x lo hi none) (ht : P.underlying t = some (.slice e)) (hz : sizeT P e = some z) {d : Nat} (hd : o.dst = some d) {l : D} {es : List D} (hx : rd st x = some l) (hl : asS z l = some es) {m n : Int} {r1 r2 : List (Nat × D)}
    (h1 : bnd st lo 0 = some (m, r1)) (h2 : bnd st hi es.length = some (n, r2)) (hm : 0 ≤ m) (hmn : m ≤ n) (hn : n ≤ es.length) :
    (vEv d (rds x l ++ (r1 ++ r2)) (sD z ((es.take n.toNat).drop m.toNat))).ok st.F ∧ Sound P o (vEv d (rds x l ++ (r1 ++ r2)) (sD z ((es.take n.toNat).drop m.toNat))) := by
  refine ⟨vEv_ok (app_rs (rd_ok hx) (app_rs (bnd_ok h1) (bnd_ok h2))), sound_val hd (rb := []) fun I ρ ac w hr _ => ?_⟩
  have hr0 : ∀ y ∈ r1 ++ r2, ∃ u, ac.tmps[y.1]? = some u ∧ AVRep I ρ w y.2 u := fun y hy => hr y (List.mem_append_right _ hy)
  have q0 := asS_av hl (rd_rep hx (fun y hy => hr y (List.mem_append_left _ hy)))
  have q1 := bnd_rep h1 (fun y hy => hr0 y (List.mem_append_left _ hy))
  have q2 := bnd_rep h2 (fun y hy => hr0 y (List.mem_append_right _ hy))
  obtain ⟨ad, cap, hu, U, hle, hno, hcm, hsz, hc, hcr⟩ := q0.invS
  · have hncap : n ≤ (cap : Int) := by omega
    have hn0 : 0 ≤ n := by omega
    have hb : (Instr.sliceBounds true es.length cap (lo.map ac.eval) (hi.map ac.eval) none).run P w = .ok (m.toNat, n.toNat, cap) w := by
      have e1 : m.toNat ≤ n.toNat := by omega
      rcases q1 with ⟨rfl, rfl⟩ | ⟨k1, y1, rfl, q1⟩ <;> rcases q2 with ⟨rfl, rfl⟩ | ⟨k2, y2, rfl, q2⟩
      · simp [Instr.sliceBounds]
      · simp [Instr.sliceBounds, Instr.sliceBound, asIntOf, q2, hn0, hncap]
      · simp [Instr.sliceBounds, Instr.sliceBound, asIntOf, q1, hm]
        omega
      · have : m ≤ max n 0 := by omega
        simp [Instr.sliceBounds, Instr.sliceBound, asIntOf, q1, q2, hm, hn0, hncap, this]
    refine ⟨.slice (if cap = m.toNat then ad else ad.map (·.add (m.toNat * z))) (n.toNat - m.toNat) (cap - m.toNat), ?_, .inl (.inl ?_)⟩
    · simp only [execOp, ho, Instr.sliceAt, Instr.slice, Sem.run_bind, run_underlying ht, Result.andThen_ok, hu, hb, run_sizeOf hz, Sem.run_pure, Option.map_none]
    · have hlen : ((es.take n.toNat).drop m.toNat).length = n.toNat - m.toNat := by simp; omega
      have hget : ∀ i c, ((es.take n.toNat).drop m.toNat)[i]? = some c → es[m.toNat + i]? = some c := by
        intro i c h
        rw [List.getElem?_drop, List.getElem?_take] at h
        split at h
        · exact h
        · cases h
      rw [← hlen]
      refine CRep.s ⟨fun i j => U (m.toNat + i) j, by rw [hlen]; omega, fun q => ?_, by omega, fun c hc => hsz c (List.mem_of_mem_take (List.mem_of_mem_drop hc)), fun hne => ?_, fun i j c l' hc hl' => hcr _ j c l' (hget i c hc) hl'⟩
      · split at q
        · have := hno q; omega
        · cases ad with
          | none => have := hno rfl; omega
          | some d => simp at q
      · have hpos : 0 < n.toNat - m.toNat := by rw [← hlen]; exact List.length_pos_iff.2 hne
        obtain ⟨b, off, rfl, hcell⟩ := hc (by intro q; subst q; simp at hn; omega)
        refine ⟨b, off + m.toNat * z, by rw [if_neg (by omega)]; simp [Addr.add_lit], fun i j hi hj => ?_⟩
        rw [hlen] at hi
        have := hcell (m.toNat + i) j (by omega) hj
        rw [show off + (m.toNat + i) * z + j = off + m.toNat * z + i * z + j by rw [Nat.add_mul]; omega] at this
        exact this

/-- Parts, laid over cells. -/
theorem fold_over (off : Nat) : ∀ (vs : List Value) (k : Nat) (cs : Array Value), off + k + vs.length ≤ cs.size →
    ((vs.zipIdx k).foldl (fun (cs : Array Value) (p : Value × Nat) => cs.setIfInBounds (off + p.2) p.1) cs).toList = over cs.toList (off + k) vs
  | [], k, cs, _ => by simp [over]
  | v :: r, k, cs, h => by
    rw [List.zipIdx_cons, List.foldl_cons, fold_over off r (k + 1) _ (by simp at h ⊢; omega)]
    simp only [List.length_cons] at h
    have hlt : off + k < cs.toList.length := by simp; omega
    simp only [over, Array.toList_setIfInBounds, List.length_cons]
    rw [show off + (k + 1) = off + k + 1 by omega, show off + k + 1 + r.length = off + k + (r.length + 1) by omega]
    rw [List.take_set, List.drop_set, if_pos (by omega)]
    rw [List.take_add_one, List.getElem?_eq_getElem hlt]
    simp only [Option.toList_some, List.set_append, List.length_take]
    rw [if_neg (by omega)]
    rw [show off + k - min (off + k) cs.toList.length = 0 by omega]
    simp
theorem fill_cons (place : Nat → Option (Nat × Nat)) (cells : Array Value) (i : Nat) (v : Value) (rest : List (Nat × Value)) {off : Nat} (hp : place i = some (off, v.cells.size)) (hl : off + v.cells.size ≤ cells.size) :
    Instr.fill place cells ((i, v) :: rest) = Instr.fill place (over cells.toList off v.cells.toList).toArray rest := by
  rw [Instr.fill]
  simp only [hp]
  rw [if_neg (by simp; omega)]
  congr 1
  have := fold_over off v.cells.toList 0 cells (by simp; omega)
  simp only [Nat.add_zero] at this
  rw [← this]
  rw [← Array.foldl_toList]
  simp [Array.toList_zipIdx]

def fillA : List D → List (Nat × Nat) → List D → Option (List D)
  | zs, [], [] => some zs
  | zs, (off, n) :: ps, c :: cs => if (cellsD c).length = n ∧ off + n ≤ zs.length then fillA (over zs off (cellsD c)) ps cs else none
  | _, _, _ => none
theorem fill_rep {I : Still} {w : World} {place : Nat → Option (Nat × Nat)} : ∀ (is : List Nat) (ps : List (Nat × Nat)) (cs : List D) (vs : List Value) (zs rs : List D) (us : List Value), is.map place = ps.map some → fillA zs ps cs = some rs → Vals I w cs vs → Row I w zs us →
    ∃ us', Instr.fill place us.toArray (is.zip vs) = some us'.toArray ∧ Row I w rs us'
  | [], [], [], vs, zs, rs, us, _, hf, _, hr => by
    simp [fillA] at hf; subst hf
    exact ⟨us, by simp [Instr.fill], hr⟩
  | i :: is, (off, n) :: ps, c :: cs, v :: vs, zs, rs, us, hp, hf, hv, hr => by
    simp only [fillA] at hf
    split at hf
    · rename_i hc
      simp only [List.map_cons, List.cons.injEq] at hp
      have h1 := (hv.2 0 c v (by simp) (by simp)).row
      have h2 : Vals I w cs vs := ⟨by have := hv.1; simpa using this, fun j x u hx hu => hv.2 (j + 1) x u (by simpa using hx) (by simpa using hu)⟩
      have hsz : v.cells.size = n := by rw [← Array.length_toList, ← h1.1]; exact hc.1
      rw [List.zip_cons_cons, fill_cons place us.toArray i v (is.zip vs) (off := off) (by rw [hp.1, hsz]) (by simp [hsz]; rw [← hr.1]; exact hc.2)]
      exact fill_rep is ps cs vs _ rs _ hp.2 hf h2 (over_row hr h1 off)
    · cases hf
  | [], [], c :: cs, _, _, _, _, _, hf, _, _ => by simp [fillA] at hf
  | [], _ :: _, _, _, _, _, _, hp, _, _, _ => by simp at hp
  | _ :: _, [], _, _, _, _, _, hp, _, _, _ => by simp at hp
  | _ :: _, _ :: _, [], _, _, _, _, _, hf, _, _ => by simp [fillA] at hf
  | _ :: _, _ :: _, _ :: _, [], _, _, _, _, _, hv, _ => by have := hv.1; simp at this

/-- Where the fields of a struct lie. -/
def placesT (P : Program) (fs : List Field) : Option (List (Nat × Nat)) := fs.mapM fun f => (sizeT P f.type).map fun n => (f.offset, n)
theorem run_places (fs : List Field) (w : World) : ∀ {ps : List (Nat × Nat)}, placesT P fs = some ps → (fs.mapM fun f => do pure (f.offset, ← sizeOf f.type) : Sem (List (Nat × Nat))).run P w = .ok ps w := by
  induction fs with
  | nil => intro ps h; simp [placesT] at h; subst h; simp
  | cons f r ih =>
    intro ps h
    simp only [placesT, List.mapM_cons, Option.bind_eq_bind, Option.bind_eq_some_iff, Option.map_eq_some_iff] at h
    obtain ⟨x, ⟨n, hn, rfl⟩, qs, hq, h⟩ := h
    cases h
    have := ih (ps := qs) hq
    simp only [List.mapM_cons, Sem.run_bind, run_sizeOf hn, Result.andThen_ok, Sem.run_pure, this]

theorem run_toArray {α : Type} {m : Sem (List α)} {l : List α} {w : World} (h : m.run P w = .ok l w) : (List.toArray <$> m).run P w = .ok l.toArray w := by
  show (m >>= fun x => pure x.toArray).run P w = _
  rw [Sem.run_bind, h]
  rfl
theorem ok_bld {t : TypeId} {fs : Array Field} {parts : Array (Nat × Operand)} {pl ps : List (Nat × Nat)} {zs : List D} (ho : o.op = .build t parts) (ht : P.underlying t = some (.struct fs)) (hz : zeroT P t = some zs) (hpl : placesT P fs.toList = some pl) (hps : (parts.toList.map (·.1)).map (fun i => pl[i]?) = ps.map some)
    {d : Nat} (hd : o.dst = some d) {cs : List D} (hx : rdC st (parts.toList.map (·.2)) = some cs) {rs : List D} (h : fillA zs ps cs = some rs) :
    (vEv d (rdsC (parts.toList.map (·.2)) cs) (aD rs)).ok st.F ∧ Sound P o (vEv d (rdsC (parts.toList.map (·.2)) cs) (aD rs)) := by
  refine ⟨vEv_ok (rdC_ok hx), sound_val hd (rb := []) fun I ρ ac w hr _ => ?_⟩
  obtain ⟨z, h1, h2⟩ := zeroT_rep hz I w
  have h3 := rdC_rep hx hr
  obtain ⟨us', h4, h5⟩ := fill_rep (place := fun i => pl[i]?) (parts.toList.map (·.1)) ps cs _ zs rs _ hps h h3 h2
  refine ⟨.agg us'.toArray, ?_, .inl (.inr ⟨_, _, rfl, rfl, h5⟩)⟩
  have hzip : (parts.toList.map (·.1)).zip ((parts.toList.map (·.2)).map ac.eval) = (parts.map fun (p : Nat × Operand) => (p.1, ac.eval p.2)).toList := by
    simp only [Array.toList_map, List.map_map, List.zip_map', Function.comp_def]
  rw [hzip] at h4
  have hm : (fs.mapM fun f => do pure (f.offset, ← sizeOf f.type) : Sem (Array (Nat × Nat))).run P w = .ok pl.toArray w := by
    rw [Array.mapM_eq_mapM_toList]
    exact run_toArray (run_places (P := P) fs.toList w hpl)
  have hf : ∀ i : Nat, pl.toArray[i]? = pl[i]? := fun i => List.getElem?_toArray
  simp only [execOp, ho, Instr.build, Sem.run_bind, h1, Result.andThen_ok, run_underlying ht, hm, Sem.run_pure, hf]
  have h4' : Instr.fill (fun i => pl[i]?) z.cells (parts.map fun (p : Nat × Operand) => (p.1, ac.eval p.2)).toList = some us'.toArray := by simpa using h4
  simp only [h4', Sem.run_pure, Result.andThen_ok]

theorem ok_call {f : FuncId} {xs : Array Operand} {ats : Array TypeId} {fn : Func} (ho : o.op = .call { callee := .value (.func f), args := xs, argTypes := ats }) (hf : P.funcs[f]? = some fn) (hn : (fn.name == "runtime.NumGoroutine") = false) (hb : fn.body.isNone = false)
    {d : Nat} (hd : o.dst = some d) {cs cs' r : List D} (hx : rdC st xs.toList = some cs) (hle : ValsLe cs cs') (h : Told P f cs' r) :
    (vEv d (rdsC xs.toList cs) (res r)).ok st.F ∧ Sound P o (vEv d (rdsC xs.toList cs) (res r)) := by
  refine ⟨vEv_ok (rdC_ok hx), sound_call hd h fun I ρ ac w hr => ?_⟩
  refine ⟨_, hle.rep (rdC_rep hx hr), ?_⟩
  have e : (xs.toList.map ac.eval).toArray = xs.map ac.eval := by rw [← Array.toList_map]
  have hn' : ¬ fn.name = "runtime.NumGoroutine" := by simpa using hn
  have hb' : ¬ fn.body = none := by intro q; rw [q] at hb; cases hb
  simp [execOp, ho, resolve, Act.eval, Deferred.ofValue, invoke, callFunc, hf, hn', hb', e]

/-- Operands that make a slice. -/
theorem ok_row {t e : TypeId} {z : Nat} {i : TypeInfo} {zv : Value} {parts : Array (Nat × Operand)} {n : Nat} (ho : o.op = .buildSlice t n parts) (ht : P.underlying t = some (.slice e)) (hi : P.info? e = some i) (hsz : i.size = z) (hzv : i.zero = some zv) (hz0 : 0 < z) (hzs : zv.cells.size = z) (hpz : zv.cells.all plainV = true) (hps : parts.toList.map (·.1) = List.range n) (hbig : n * z ≤ 16777216)
    {d : Nat} (hd : o.dst = some d) {cs : List D} (hx : rdC st (parts.toList.map (·.2)) = some cs) (hcs : ∀ c ∈ cs, (cellsD c).length = z) :
    Ev.ok { rs := rdsC (parts.toList.map (·.2)) cs, ws := some (d, some (sD z cs)), cf := [(d, none)], sf := some ((d, none), (e, z, none)) } st.F ∧ Sound P o { rs := rdsC (parts.toList.map (·.2)) cs, ws := some (d, some (sD z cs)), cf := [(d, none)], sf := some ((d, none), (e, z, none)) } := by
  have hpl : parts.toList.length = n := by have := congrArg List.length hps; simpa using this
  have hlen : cs.length = n := by
    have : ∀ (xs : List Operand) (cs : List D), rdC st xs = some cs → cs.length = xs.length := by
      intro xs
      induction xs with
      | nil => intro cs h; simp [rdC] at h; subst h; rfl
      | cons x r ih =>
        intro cs h
        simp only [rdC] at h
        split at h
        · split at h
          · obtain ⟨cs', h1, rfl⟩ := Option.map_eq_some_iff.1 h
            simp [ih cs' h1]
          · cases h
        · cases h
    rw [this _ cs hx, List.length_map, hpl]
  refine ⟨⟨rdC_ok hx, fun x hx => by simp at hx, fun x hx => by simp at hx, fun x hx => by simp at hx⟩, sound_row hd hz0 hcs fun I ρ ac w hr => ?_⟩
  · have h3 := rdC_rep hx hr
    have hsize : sizeT P e = some z := by simp [sizeT, hi, hsz]
    -- the cells before they are filled
    obtain ⟨us0, hu0, hl0⟩ : ∃ us0 : List Value, ((Array.range (n * z)).map (fun k => zv.cells[k % zv.cells.size]!)) = us0.toArray ∧ us0.length = n * z := ⟨((Array.range (n * z)).map (fun k => zv.cells[k % zv.cells.size]!)).toList, by rw [Array.toArray_toList], by simp⟩
    have hrow0 : Row I w (us0.map vD) us0 := by
      refine ⟨by simp, fun j c u hc hu => ?_⟩
      rw [List.getElem?_map, hu] at hc
      cases hc
      refine CRep.v ?_
      have hmem : u ∈ us0.toArray := by simpa using List.mem_of_getElem? hu
      rw [← hu0] at hmem
      obtain ⟨k, _, rfl⟩ := Array.mem_map.1 hmem
      have hlt : k % zv.cells.size < zv.cells.size := Nat.mod_lt _ (by omega)
      rw [getElem!_pos zv.cells _ hlt]
      exact Array.all_eq_true'.1 hpz _ (Array.getElem_mem hlt)
    have hfa : ∀ (m : Nat) (ds : List D) (zs : List D), (∀ c ∈ ds, (cellsD c).length = z) → zs.length = (m + ds.length) * z → fillA zs ((List.range' m ds.length).map (fun i => (i * z, z))) ds = some (zs.take (m * z) ++ ds.flatMap cellsD) := by
      intro m ds
      induction ds generalizing m with
      | nil => intro zs _ hl; simp at hl; simp only [List.length_nil, List.range'_zero, List.map_nil, fillA, List.flatMap_nil, List.append_nil]; rw [List.take_of_length_le (by omega)]
      | cons c r ih =>
        intro zs hc hl
        have hcl := hc c (by simp)
        simp only [List.length_cons] at hl ⊢
        have hle : m * z + z ≤ zs.length := by rw [hl, Nat.add_mul, Nat.add_mul]; omega
        rw [List.range'_succ, List.map_cons, fillA, if_pos ⟨hcl, hle⟩, ih (m + 1) _ (fun c hc' => hc c (by simp [hc'])) (by rw [over_len (by rw [hcl]; exact hle), hl]; congr 1; omega)]
        congr 1
        rw [List.flatMap_cons, ← List.append_assoc]
        congr 1
        simp only [over]
        rw [Nat.add_mul, Nat.one_mul, List.take_append_of_le_length (by simp; omega), List.take_of_length_le (by simp; omega)]
    have hf := hfa 0 cs (us0.map vD) hcs (by simp [hl0, hlen])
    obtain ⟨us', h4, h5⟩ := fill_rep (place := fun i => some (i * z, z)) (parts.toList.map (·.1)) _ cs _ _ _ _ (by rw [hps, hlen, List.range_eq_range', List.map_map]; rfl) hf h3 hrow0
    have hzip : (parts.toList.map (·.1)).zip ((parts.toList.map (·.2)).map ac.eval) = (parts.map fun (p : Nat × Operand) => (p.1, ac.eval p.2)).toList := by
      simp only [Array.toList_map, List.map_map, List.zip_map', Function.comp_def]
    rw [hzip] at h4
    simp only [Nat.zero_mul, List.take_zero, List.nil_append] at h5
    have hflat : (cs.flatMap cellsD).length = n * z := by
      rw [← hlen]
      have : ∀ ds : List D, (∀ c ∈ ds, (cellsD c).length = z) → (ds.flatMap cellsD).length = ds.length * z := by
        intro ds
        induction ds with
        | nil => simp
        | cons c r ih => intro hc; rw [List.flatMap_cons, List.length_append, hc c (by simp), ih (fun c hc' => hc c (by simp [hc'])), List.length_cons, Nat.add_mul]; omega
      exact this cs hcs
    have hul : us'.length = n * z := by rw [← h5.1, hflat]
    refine ⟨us', n, w.alloc (.cells us'.toArray e), hul, by simp [hlen], ?_, ?_, (Below.refl _ _).alloc (Nat.le_refl _) _, by simp, heap_alloc_new _ _, ?_⟩
    · unfold maxLen
      have : n ≤ n * z := Nat.le_mul_of_pos_right _ hz0
      omega
    · rw [hlen, List.take_of_length_le (by omega)]; exact h5
    · have h4' : Instr.fill (fun i => some (i * z, z)) us0.toArray (List.map (fun x => (x.1, ac.eval x.2)) parts.toList) = some us'.toArray := by simpa using h4
      have hzr : (zeroValue e).run P w = .ok zv w := by simp [zeroValue, typeInfo, hi, hzv]
      have hnb : ¬ n * z > 2 ^ 24 := by omega
      by_cases h0 : n * z = 0
      · have e0 : us0 = [] := List.eq_nil_of_length_eq_zero (by omega)
        have e1 : ∀ f : Nat → Value, (Array.range (n * z)).map f = us0.toArray := by intro f; rw [h0, e0]; simp
        simp [execOp, ho, Instr.buildSlice, run_underlying ht, run_sizeOf hsize, hnb, e1, h4', newRow, hlen]
        simp [h0]
      · simp [execOp, ho, Instr.buildSlice, run_underlying ht, run_sizeOf hsize, hnb, h0, hzr, hu0, h4', newRow, hlen]
end
end Go.Proofs.Ytgechpchbenanac.ab
