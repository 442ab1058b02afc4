/-
  Functions, as plain data; what is less known. Nothing of the program.
-/
import Derived.Test.YtgechpchbenanacAbsCode
namespace Go.Proofs.Ytgechpchbenanac.ab
set_option linter.unusedSimpArgs false
set_option linter.unusedVariables false
open Go Go.RowKit

/-- Where a result lies: in a slot; in a cell of an own box (its size, whether it is kept cell by cell). -/
abbrev RV := Nat × Option (Nat × Bool)
def compR (P : Program) : List ResultVar → Option (List RV)
  | [] => some []
  | .tmp t :: r => match compR P r with
    | some rs => some ((t, none) :: rs)
    | none => none
  | .cell a t :: r => match sizeT P t, aggT P t, compR P r with
    | some n, some ag, some rs => some ((a, some (n, ag)) :: rs)
    | _, _, _ => none
def resA (st : St) : List RV → Option (List D)
  | [] => some []
  | (s, none) :: r => match look st.tm s, resA st r with
    | some c, some cs => if isC c = true then some (c :: cs) else none
    | _, _ => none
  | (s, some (n, ag)) :: r => match look st.tm s, resA st r with
    | some (.held (.inr (b, off))), some cs => match look st.bx b with
      | some xs => match sub n ag off xs with
        | some c => if clR c = true ∧ isC c = true then some (c :: cs) else none
        | none => none
      | none => none
    | _, _ => none
def startT : List D → Nat → List (Nat × D)
  | [], _ => []
  | c :: r, i => (i, c) :: startT r (i + 1)
def start (args : List D) : St := ⟨startT args 0, [], []⟩

section
variable {P : Program}
theorem look_startT : ∀ (args : List D) (i s : Nat) (v : D), look (startT args i) s = some v → ∃ c, v = c ∧ i ≤ s ∧ args[s - i]? = some c
  | [], i, s, v, h => by simp [startT, look] at h
  | c :: r, i, s, v, h => by
    simp only [startT, look] at h
    split at h
    · rename_i e; subst e; cases h; exact ⟨c, rfl, Nat.le_refl _, by simp⟩
    · rename_i e
      obtain ⟨c', h1, h2, h3⟩ := look_startT r (i + 1) s v h
      refine ⟨c', h1, by omega, ?_⟩
      rw [show s - i = (s - (i + 1)) + 1 by omega, List.getElem?_cons_succ]
      exact h3

theorem run_results {st : St} {base : Nat → Prop} {w0 : World} {I0 : Still} {N : Nat} {I : Still} {ρ : Nat → Option Nat} {a : Act} {w : World} (hr : RelI base w0 I0 N I ρ st.F a w) : ∀ (rs : List ResultVar) (rvs : List RV) (cs : List D), compR P rs = some rvs → resA st rvs = some cs →
    ∃ us, (rs.mapM (fun | .tmp t => pure (a.tmps.getD t undef) | .cell x t => do loadVar t (← asAddr (a.tmps.getD x undef))) : Sem (List Value)).run P w = .ok us w ∧ Vals I w cs us
  | [], rvs, cs, hc, h => by
    simp [compR] at hc; subst hc
    simp [resA] at h; subst h
    exact ⟨[], by simp, Vals.nil⟩
  | .tmp t :: r, rvs, cs, hc, h => by
    simp only [compR] at hc
    split at hc
    · rename_i rvs' h1
      cases hc
      simp only [resA] at h
      split at h
      · rename_i c cs' q1 q2
        split at h
        · rename_i hcc
          cases h
          obtain ⟨us, r1, r2⟩ := run_results hr r rvs' cs' h1 q2
          obtain ⟨u, g1, g2⟩ := hr.tm t _ q1
          refine ⟨u :: us, ?_, Vals.cons (cv_of hcc g2) r2⟩
          have : a.tmps.getD t undef = u := by simp [Array.getD_eq_getD_getElem?, g1]
          simp only [List.mapM_cons, Sem.run_bind, Sem.run_pure, Result.andThen_ok, this, r1]
        · cases h
      · cases h
    · cases hc
  | .cell x t :: r, rvs, cs, hc, h => by
    simp only [compR] at hc
    split at hc
    · rename_i n ag rs' h1 h2 h3
      cases hc
      simp only [resA] at h
      split at h
      · rename_i b off cs' q1 q2
        split at h
        · rename_i xs q3
          split at h
          · rename_i c q4
            split at h
            · rename_i q5
              cases h
              obtain ⟨us, r1, r2⟩ := run_results hr r rs' cs' h3 q2
              obtain ⟨u, g1, g2⟩ := hr.tm x _ q1
              obtain ⟨g, hlt, hp, rfl⟩ := g2.invP
              obtain ⟨g', p1, _, p23, _⟩ := hr.bx b xs q3
              rw [hp] at p1; cases p1
              obtain ⟨vs, t', p2, p3⟩ := p23.cells hlt
              obtain ⟨v, l1, l2, _⟩ := run_loadP (P := P) h1 h2 q4 q5.1 p2 p3
              refine ⟨v :: us, ?_, Vals.cons (cv_of q5.2 l2) r2⟩
              have : a.tmps.getD x undef = .pointer (some ⟨g, off, none⟩) := by simp [Array.getD_eq_getD_getElem?, g1]
              have l3 : (loadVar t ⟨g, off, none⟩).run P w = .ok v w := by simpa [Instr.loadAt, Instr.sureAddr] using l1
              have ha : (asAddr (a.tmps.getD x undef)).run P w = .ok ⟨g, off, none⟩ w := by rw [this]; rfl
              simp only [List.mapM_cons, Sem.run_bind, Sem.run_pure, Result.andThen_ok, ha, l3, r1]
            · cases h
          · cases h
        · cases h
      · cases h
    · cases hc

theorem RRep.keep {I I' : Still} {w : World} {r : List D} {v : Value} (h : RRep I w r v) (hI : ∀ b j, I b j → I' b j) : RRep I' w r v := by
  unfold RRep at h ⊢
  split at h
  · exact h.keep hI (fun _ _ _ => rfl)
  · obtain ⟨us, h1, h2⟩ := h; exact ⟨us, h1, h2.keep hI (fun _ _ _ => rfl)⟩

/-- What is wanted in the end. -/
def fin (rvs : List RV) (r : List D) : AX → St → Prop := fun e st => match e with
  | none => ∃ cs, resA st rvs = some cs ∧ ValsLe cs r
  | some none => ∃ cs, resA st rvs = some cs ∧ ValsLe cs r
  | some (some _) => False
/-- A function tells what its code, as plain data, tells. -/
theorem told_of (hm : P.follows .mixedOrders = true) {f : FuncId} {fn : Func} {c : Code} {ic : IC} {an : List Ann} {rvs : List RV} {args r : List D} (hf : P.funcs[f]? = some fn) (hb : fn.body = some c) (hc : compC P fn.ntmps c an = some (ic, [])) (hrv : compR P fn.results.toList = some rvs) (hl : args.length ≤ fn.ntmps ∧ fn.ntmps ≤ 100000)
    (h : ic (start args) (fin rvs r)) : Told P f args r := by
  intro w I vs hv hlt
  have hvl : vs.length = args.length := hv.1.symm
  refine calls_of_wp hf hb ?_
  have hsz : (vs.toArray ++ Array.replicate (fn.ntmps - vs.toArray.size) undef).size = fn.ntmps := by simp; have := hl.1; omega
  have hstart : Rel (fun b => b < w.heap.size) w I fn.ntmps (start args).F { tmps := vs.toArray ++ Array.replicate (fn.ntmps - vs.toArray.size) undef, defers := [] } w := by
    refine ⟨I, fun _ => none, ⟨rfl, hsz, fun s v hs => ?_, hl.2, (fun b off x hx => by simp [start, St.F, lookF] at hx), (fun b cs hb => by simp [start, St.F, look] at hb), (fun b b' g h => by cases h), fun _ _ => rfl, (fun s o e z hx => by simp [start, St.F, lookF] at hx), (fun s o s' o' x x' u u' g hx => by simp [start, St.F, lookF] at hx), hlt, fun b j h => .inl h, Kept.refl _ _, fun _ h => h, fun b j h => ⟨h, rfl⟩⟩⟩
    obtain ⟨c, rfl, _, h3⟩ := look_startT args 0 s v hs
    rw [Nat.sub_zero] at h3
    obtain ⟨u, h4, h5⟩ := hv.at h3
    refine ⟨u, ?_, .inl h5⟩
    have hsl : s < vs.length := (List.getElem?_eq_some_iff.1 h4).1
    rw [Array.getElem?_append_left (by simpa using hsl)]
    simpa using h4
  refine awp_sound hm c an [] ic hc (start args) _ _ _ w h hstart fun e st' a' w' hR hr' => ?_
  obtain ⟨he, cs, h1, h2⟩ : (e = none ∨ e = some none) ∧ ∃ cs, resA st' rvs = some cs ∧ ValsLe cs r := by
    match e, hR with
    | none, hR => exact ⟨.inl rfl, hR⟩
    | some (some i), hR => exact hR.elim
    | some none, hR => exact ⟨.inr rfl, hR⟩
  obtain ⟨I', ρ, hr⟩ := hr'
  obtain ⟨us, q1, q2⟩ := run_results (P := P) hr fn.results.toList rvs cs hrv h1
  have q3 := h2.rep q2
  have hrun : (results fn a'.tmps).run P w' = .ok (if h : us.toArray.size = 1 then us.toArray[0] else .tuple us.toArray) w' := by
    unfold results
    rw [Sem.run_bind, Array.mapM_eq_mapM_toList]
    refine (congrArg (fun r => Result.andThen r _) (run_toArray q1)).trans ?_
    rfl
  have hfin : RRep (fun b j => I b j ∨ (w.heap.size ≤ b ∧ b < w'.heap.size)) w' r (if h : us.toArray.size = 1 then us.toArray[0] else .tuple us.toArray) := by
    refine RRep.keep (I := I') ?_ (fun b j hi => ?_)
    · unfold RRep
      split
      · rename_i c0
        have hus : us.length = 1 := by rw [← q3.1]; rfl
        rw [dif_pos (by simpa using hus)]
        exact q3.2 0 c0 _ rfl (by simp [List.getElem?_eq_getElem (show 0 < us.length by omega)])
      · rename_i hne
        have hus : us.length ≠ 1 := by
          rw [← q3.1]
          intro e
          match r, e with
          | [c0], _ => exact hne c0 rfl
        rw [dif_neg (by simpa using hus)]
        exact ⟨us, rfl, q3⟩
    · rcases hr.sub b j hi with q | q
      · exact .inl q
      · exact .inr ⟨Nat.le_of_not_lt q, hr.lt b j hi⟩
  have hgoal : a'.defers = [] ∧ ∃ v, (results fn a'.tmps).run P w' = .ok v w' ∧ ∃ v', Ending.returned v = .returned v' ∧ RRep (fun b j => I b j ∨ (w.heap.size ≤ b ∧ b < w'.heap.size)) w' r v' ∧ Below w.heap.size w w' := ⟨hr.defers, _, hrun, _, rfl, hfin, hr.below.below⟩
  rcases he with rfl | rfl
  · exact hgoal
  · exact hgoal

theorem Told.less {f : FuncId} {args args' r r' : List D} (h : Told P f args r) (ha : ValsLe args' args) (hr : ValsLe r r') : Told P f args' r' := by
  intro w I vs hv hlt
  refine (h w I vs (ha.rep hv) hlt).mono fun e w' ⟨v, he, h1, h2⟩ => ⟨v, he, ?_, h2⟩
  unfold RRep at h1 ⊢
  match r, r', hr, h1 with
  | [], [], _, h1 => exact h1
  | [x], [y], hr, h1 => exact hr.1.rep h1
  | x :: x2 :: l, y :: y2 :: l', hr, h1 => obtain ⟨us, h3, h4⟩ := h1; exact ⟨us, h3, ValsLe.rep hr h4⟩
  | [], _ :: _, hr, _ => simp [ValsLe] at hr
  | _ :: _, [], hr, _ => simp [ValsLe] at hr
  | [_], _ :: _ :: _, hr, _ => simp [ValsLe] at hr
  | _ :: _ :: _, [_], hr, _ => simp [ValsLe] at hr
end

section
/-- A nil slice in a slot may be appended to. -/
theorem Le.nilS {st : St} (s e z : Nat) (h : look st.tm s = some (vD (.slice none 0 0))) : Le st ⟨(s, sD z []) :: st.tm, st.bx, ((s, none), (e, z, none)) :: st.fl⟩ := by
  intro base w0 I0 N a w ⟨I, ρ, hr⟩
  obtain ⟨u, h1, h2⟩ := hr.tm s _ h
  have hu := plain_of h2
  subst hu
  have hnil : CRep I w (sD z []) (.slice none 0 0) := nil_rep z
  have h3 : RelI base w0 I0 N I ρ { st.F with tm := fun t => if t = s then some (sD z []) else st.F.tm t } a w := by
    refine ⟨hr.defers, hr.size, fun t v hv => ?_, hr.cap, hr.flc, hr.bx, hr.inj, hr.nob, hr.fl, hr.apart, hr.lt, hr.sub, hr.below, hr.room, hr.mon⟩
    simp only at hv
    split at hv
    · rename_i e; subst e; cases hv; exact ⟨_, h1, .inl (.inl hnil)⟩
    · exact hr.tm t v hv
  have h4 := h3.giveF (s := s) (o := none) (e := e) (z := (z, none)) (u := .slice none 0 0) (fun k hk => by cases hk) h1 ⟨0, [], World.ownsRow_nil w 0 e z, (fun g hg => by simp [Value.ownBlock] at hg), fun es he => by cases he⟩ (fun t p x y g _ _ _ q => by simp [Value.ownBlock] at q)
  refine ⟨I, ρ, h4.less (fun t v hv => ?_) rfl (fun t p x hx => ?_)⟩
  · simp only [St.F, look] at hv
    show (if t = s then _ else _) = _
    by_cases q : s = t
    · subst q; simpa using hv
    · rw [if_neg q] at hv; rw [if_neg (fun e => q e.symm)]; exact hv
  · simp only [St.F, lookF] at hx
    simp only [FS.onF]
    by_cases q : (s, (none : Option Nat)) = (t, p)
    · rw [if_pos q] at hx; cases q; simpa using hx
    · rw [if_neg q] at hx; rw [if_neg (fun e => q (by rw [e.1, e.2]))]; exact hx
/-- A nil slice in a cell of a box may be appended to. -/
theorem Le.nilB {st : St} (b off e z : Nat) {cs : List D} (hlt : b < 100000) (h : look st.bx b = some cs) (hc : cs[off]? = some (vD (.slice none 0 0))) : Le st ⟨st.tm, (b, over cs off [sD z []]) :: st.bx, ((b, some off), (e, z, none)) :: st.fl⟩ := by
  intro base w0 I0 N a w ⟨I, ρ, hr⟩
  obtain ⟨g, h1, h2, h34, h5⟩ := hr.bx b cs h
  obtain ⟨us, t, h3, h4⟩ := h34.cells hlt
  obtain ⟨u, q1, q2⟩ := h4.at hc
  have hu : u = .slice none 0 0 := (q2.leaf rfl).invV.1
  subst hu
  have hofflt : off < cs.length := (List.getElem?_eq_some_iff.1 hc).1
  have hnil : CRep I w (sD z []) (.slice none 0 0) := nil_rep z
  have hat : At ρ a.tmps w b (some off) = some (.slice none 0 0) := by
    simp only [At, h1, Option.bind_some]
    rw [cell_of_row w g off us.toArray t (0, 0) h3]
    simpa using q1
  have h6 : RelI base w0 I0 N I ρ { st.F with bx := fun c => if c = b then some (over cs off [sD z []]) else st.F.bx c } a w := by
    refine ⟨hr.defers, hr.size, hr.tm, hr.cap, hr.flc, fun c ds hd => ?_, hr.inj, fun c hd => ?_, hr.fl, hr.apart, hr.lt, hr.sub, hr.below, hr.room, hr.mon⟩
    · simp only at hd
      split at hd
      · rename_i e; subst e; cases hd
        refine ⟨g, h1, h2, .inl ⟨hlt, us, t, h3, ⟨by rw [over_len (by simp; omega)]; exact h4.1, fun j c v hc' hv => ?_⟩⟩, h5⟩
        by_cases hj : j = off
        · subst hj
          have := over_in (cs := cs) (ds := [sD z []]) (off := j) (j := 0) (by simp; omega) (by simp)
          rw [Nat.add_zero] at this
          rw [this] at hc'
          simp at hc'; subst hc'
          rw [q1] at hv; cases hv
          exact .inl hnil
        · rw [over_out (by simp; omega) (by simp; omega)] at hc'
          exact h4.2 j c v hc' hv
      · exact hr.bx c ds hd
    · simp only at hd
      split at hd
      · cases hd
      · exact hr.nob c hd
  have h7 := h6.giveF (s := b) (o := some off) (e := e) (z := (z, none)) (u := .slice none 0 0) (fun _ _ => hlt) hat ⟨0, [], World.ownsRow_nil w 0 e z, (fun g hg => by simp [Value.ownBlock] at hg), fun es he => by cases he⟩ (fun t p x y g _ _ _ q => by simp [Value.ownBlock] at q)
  refine ⟨I, ρ, h7.less (fun t v hv => hv) ?_ (fun t p x hx => ?_)⟩
  · funext c
    show look ((b, over cs off [sD z []]) :: st.bx) c = if c = b then _ else look st.bx c
    simp only [look]
    by_cases q : b = c
    · subst q; simp
    · rw [if_neg q, if_neg (fun e => q e.symm)]
  · simp only [St.F, lookF] at hx
    simp only [FS.onF]
    by_cases q : (b, some off) = (t, p)
    · rw [if_pos q] at hx; cases q; simpa using hx
    · rw [if_neg q] at hx; rw [if_neg (fun e => q (by rw [e.1, e.2]))]; exact hx
/-- Less is known of a box's cells. -/
theorem Le.box {st : St} (b : Nat) {cs cs' : List D} (hlt : b < 100000) (h : look st.bx b = some cs) (hcl : cs.all isL = true) (hle : RowLe cs cs') : Le st ⟨st.tm, (b, cs') :: st.bx, st.fl⟩ := by
  intro base w0 I0 N a w ⟨I, ρ, hr⟩
  refine ⟨I, ρ, hr.defers, hr.size, hr.tm, hr.cap, hr.flc, fun c ds hd => ?_, hr.inj, fun c hd => ?_, hr.fl, hr.apart, hr.lt, hr.sub, hr.below, hr.room, hr.mon⟩
  · have hd' : look ((b, cs') :: st.bx) c = some ds := hd
    simp only [ab.look] at hd'
    split at hd'
    · rename_i e; subst e; cases hd'
      obtain ⟨g, h1, h2, h34, h5⟩ := hr.bx b cs h
      obtain ⟨us, t, h3, h4⟩ := h34.cells hlt
      have h6 : Row I w cs us := ⟨h4.1, fun j c u hc hu => (h4.2 j c u hc hu).leaf (List.all_eq_true.1 hcl c (List.mem_of_getElem? hc))⟩
      exact ⟨g, h1, h2, .inl ⟨hlt, us, t, h3, (hle.rep h6).L⟩, h5⟩
    · exact hr.bx c ds hd'
  · have hd' : look ((b, cs') :: st.bx) c = none := hd
    simp only [ab.look] at hd'
    split at hd'
    · cases hd'
    · exact hr.nob c hd'
/-- The same, as far as one can look. -/
theorem Le.look {st st' : St} (ht : ∀ s v, look st'.tm s = some v → look st.tm s = some v) (hb : ∀ b, look st'.bx b = look st.bx b) (hf : ∀ p x, lookF st'.fl p = some x → lookF st.fl p = some x) : Le st st' := by
  intro base w0 I0 N a w ⟨I, ρ, hr⟩
  exact ⟨I, ρ, hr.less ht (funext hb) (fun s o x hx => hf (s, o) x hx)⟩
theorem Le.keep {st st' : St} {lv lb : List Nat} (hk : st.keep lv lb = some st') : Le st st' := fun _ _ _ _ _ _ h => keep_rel hk h
end
end Go.Proofs.Ytgechpchbenanac.ab
