/-
  Regions, as plain data: one behind another, or in whatever order. Nothing of the program.
-/
import Derived.Test.YtdfdeppimimoiabAbsSound
namespace Go.Proofs.Ytdfdeppimimoiab.ab
set_option linter.unusedSimpArgs false
set_option linter.unusedVariables false
open Go Go.RowKit

structure IOp where
  dst : Option Nat
  grd : Option (Nat × Bool)
  ins : Ins

/-- An event whose test is read first. -/
def Ev.wait (ev : Ev) (g : Nat) (v : D) : Ev := { ev with rs := (g, v) :: ev.rs }
abbrev vB (b : Bool) : D := vD (.bool b)
def stepI (o : IOp) (st : St) (r : List D) : Option (Ev × Option (Nat × List D × List D)) := match o.grd with
  | none => o.ins st r
  | some (g, want) => match look st.tm g with
    | some (.held (.inl (.bool b))) => if b = want then (match o.ins st r with
      | some (ev, c) => some (ev.wait g (vB b), c)
      | none => none) else some (skipEv o.dst [(g, vB b)], none)
    | some (.ptr (.agg [])) => some (skipEv o.dst [(g, tD [])], none)
    | _ => none
/-- A region, one operation behind another: what is then, and the calls that were made, with their results. -/
def evalOps : List IOp → List (List D) → St → Option (St × List (Nat × List D × List D))
  | [], _, st => some (st, [])
  | o :: l, rs, st => match stepI o st (rs.headD []) with
    | none => none
    | some (ev, none) => evalOps l rs (st.app ev)
    | some (ev, some (f, cs, ro)) => match evalOps l rs.tail (st.app ev) with
      | none => none
      | some (st', q) => some (st', (f, cs, ro) :: q)
def CallOk (P : Program) (c : Option (Nat × List D × List D)) : Prop := ∀ f cs ro, c = some (f, cs, ro) → ∃ cs', ValsLe cs cs' ∧ TellG P f cs' ro
def Obl (P : Program) : List (Nat × List D × List D) → Prop
  | [] => True
  | (f, cs, r) :: l => (∃ cs', ValsLe cs cs' ∧ TellG P f cs' r) ∧ Obl P l

/-- Where an event looks, and what it changes. -/
structure Foot where
  sr : List Nat
  sw : List Nat
  br : List Nat
  bw : List Nat
  fr : List (Nat × Option Nat)
def Ev.fp (ev : Ev) : Foot where
  sr := ev.rs.map (·.1)
  sw := match ev.ws with | some x => [x.1] | none => []
  br := ev.rb.map (·.1) ++ ev.nb
  bw := match ev.wb with | some x => [x.1] | none => []
  fr := ev.rf.map (·.1) ++ ev.cf ++ match ev.sf with | some x => [x.1] | none => []
def disj {α : Type} [DecidableEq α] (a b : List α) : Bool := a.all fun x => !b.contains x
def indep (a b : Foot) : Bool := disj a.sw (b.sr ++ b.sw) && disj b.sw a.sr && disj a.bw (b.br ++ b.bw) && disj b.bw a.br && disj a.fr b.fr
def evalD : List IOp → List (List D) → St → Option (St × List Foot × List (Nat × List D × List D))
  | [], _, st => some (st, [], [])
  | o :: l, rs, st => match stepI o st (rs.headD []) with
    | none => none
    | some (ev, none) => match evalD l rs (st.app ev) with
      | none => none
      | some (st', fs, q) => some (st', ev.fp :: fs, q)
    | some (ev, some (f, cs, ro)) => match evalD l rs.tail (st.app ev) with
      | none => none
      | some (st', fs, q) => some (st', ev.fp :: fs, (f, cs, ro) :: q)

theorem disj_iff {α : Type} [DecidableEq α] {a b : List α} (h : disj a b = true) : ∀ x ∈ a, x ∉ b := by
  intro x hx hb
  have := List.all_eq_true.1 h x hx
  simp [hb] at this

theorem ev_swap {p e : Ev} {st : FS} (hi : indep p.fp e.fp = true) (h1 : p.ok st) (h2 : e.ok (p.app st)) : e.ok st ∧ p.ok (e.app st) ∧ e.app (p.app st) = p.app (e.app st) := by
  simp only [indep, Bool.and_eq_true] at hi
  obtain ⟨⟨⟨⟨i1, i2⟩, i3⟩, i4⟩, i5⟩ := hi
  have i1 := disj_iff i1
  have i2 := disj_iff i2
  have i3 := disj_iff i3
  have i4 := disj_iff i4
  have i5 := disj_iff i5
  -- slots
  have tmE : ∀ s, s ∉ p.fp.sw → (p.app st).tm s = st.tm s := by
    intro s hs
    simp only [Ev.fp] at hs
    rcases hw : p.ws with _ | ⟨d, v⟩
    · simp [Ev.app, hw]
    · rw [hw] at hs; simp at hs; simp [Ev.app, hw, hs]
  have tmP : ∀ s, s ∉ e.fp.sw → (e.app st).tm s = st.tm s := by
    intro s hs
    simp only [Ev.fp] at hs
    rcases hw : e.ws with _ | ⟨d, v⟩
    · simp [Ev.app, hw]
    · rw [hw] at hs; simp at hs; simp [Ev.app, hw, hs]
  have bxE : ∀ s, s ∉ p.fp.bw → (p.app st).bx s = st.bx s := by
    intro s hs
    simp only [Ev.fp] at hs
    rcases hw : p.wb with _ | ⟨d, v⟩
    · simp [Ev.app, hw]
    · rw [hw] at hs; simp at hs; simp [Ev.app, hw, hs]
  have bxP : ∀ s, s ∉ e.fp.bw → (e.app st).bx s = st.bx s := by
    intro s hs
    simp only [Ev.fp] at hs
    rcases hw : e.wb with _ | ⟨d, v⟩
    · simp [Ev.app, hw]
    · rw [hw] at hs; simp at hs; simp [Ev.app, hw, hs]
  have flE : ∀ s o, (s, o) ∉ p.fp.fr → (p.app st).fl s o = st.fl s o := by
    intro s o hs
    simp only [Ev.fp, List.mem_append, not_or] at hs
    rcases hw : p.sf with _ | ⟨d, v⟩
    · simp [Ev.app, hw, hs.1.2]
    · rw [hw] at hs; simp only [List.mem_singleton] at hs; simp [Ev.app, hw, hs.1.2, hs.2]
  have flP : ∀ s o, (s, o) ∉ e.fp.fr → (e.app st).fl s o = st.fl s o := by
    intro s o hs
    simp only [Ev.fp, List.mem_append, not_or] at hs
    rcases hw : e.sf with _ | ⟨d, v⟩
    · simp [Ev.app, hw, hs.1.2]
    · rw [hw] at hs; simp only [List.mem_singleton] at hs; simp [Ev.app, hw, hs.1.2, hs.2]
  refine ⟨⟨fun x hx => ?_, fun x hx => ?_, fun x hx => ?_, fun x hx => ?_⟩, ⟨fun x hx => ?_, fun x hx => ?_, fun x hx => ?_, fun x hx => ?_⟩, ?_⟩
  · rw [← tmE x.1 (fun q => i1 x.1 q (List.mem_append_left _ (List.mem_map_of_mem hx)))]; exact h2.rs x hx
  · rw [← bxE x.1 (fun q => i3 x.1 q (List.mem_append_left _ (List.mem_append_left _ (List.mem_map_of_mem hx))))]; exact h2.rb x hx
  · rw [← bxE x (fun q => i3 x q (List.mem_append_left _ (List.mem_append_right _ hx)))]; exact h2.nb x hx
  · rw [← flE x.1.1 x.1.2 (fun q => i5 x.1 q (List.mem_append_left _ (List.mem_append_left _ (List.mem_map_of_mem hx))))]; exact h2.rf x hx
  · rw [tmP x.1 (fun q => i2 x.1 q (List.mem_map_of_mem hx))]; exact h1.rs x hx
  · rw [bxP x.1 (fun q => i4 x.1 q (List.mem_append_left _ (List.mem_map_of_mem hx)))]; exact h1.rb x hx
  · rw [bxP x (fun q => i4 x q (List.mem_append_right _ hx))]; exact h1.nb x hx
  · rw [flP x.1.1 x.1.2 (fun q => i5 x.1 (List.mem_append_left _ (List.mem_append_left _ (List.mem_map_of_mem hx))) q)]; exact h1.rf x hx
  · -- the same in the end
    have a1 : (e.app (p.app st)).tm = (p.app (e.app st)).tm := by
      funext s
      simp only [Ev.fp] at i1
      rcases hp : p.ws with _ | ⟨d, v⟩ <;> rcases he : e.ws with _ | ⟨d', v'⟩ <;> simp only [Ev.app, hp, he]
      rw [hp, he] at i1
      have : d ≠ d' := fun q => i1 d (by simp) (by simp [q])
      by_cases h : s = d
      · subst h; simp [this]
      · simp [h]
    have a2 : (e.app (p.app st)).bx = (p.app (e.app st)).bx := by
      funext s
      simp only [Ev.fp] at i3
      rcases hp : p.wb with _ | ⟨d, v⟩ <;> rcases he : e.wb with _ | ⟨d', v'⟩ <;> simp only [Ev.app, hp, he]
      rw [hp, he] at i3
      have : d ≠ d' := fun q => i3 d (by simp) (by simp [q])
      by_cases h : s = d
      · subst h; simp [this]
      · simp [h]
    have a3 : (e.app (p.app st)).fl = (p.app (e.app st)).fl := by
      funext s o
      by_cases hp : (s, o) ∈ p.fp.fr
      · have he := i5 (s, o) hp
        simp only [Ev.fp, List.mem_append, not_or] at he
        have f1 : ∀ st' : FS, (e.app st').fl s o = st'.fl s o := by
          intro st'
          rcases hw : e.sf with _ | ⟨d, v⟩
          · simp [Ev.app, hw, he.1.2]
          · rw [hw] at he; simp only [List.mem_singleton] at he; simp [Ev.app, hw, he.1.2, he.2]
        rw [f1]
        simp only [Ev.app]
        have f2 := f1 st
        simp only [Ev.app] at f2
        rw [f2]
      · simp only [Ev.fp, List.mem_append, not_or] at hp
        have f1 : ∀ st' : FS, (p.app st').fl s o = st'.fl s o := by
          intro st'
          rcases hw : p.sf with _ | ⟨d, v⟩
          · simp [Ev.app, hw, hp.1.2]
          · rw [hw] at hp; simp only [List.mem_singleton] at hp; simp [Ev.app, hw, hp.1.2, hp.2]
        rw [f1 (e.app st)]
        have f2 := f1 st
        simp only [Ev.app] at f2 ⊢
        rw [f2]
    generalize e.app (p.app st) = x at a1 a2 a3 ⊢
    generalize p.app (e.app st) = y at a1 a2 a3 ⊢
    cases x; cases y
    simp only at a1 a2 a3
    rw [a1, a2, a3]

def Fires : List Ev → FS → FS → Prop
  | [], st, st' => st = st'
  | e :: r, st, st' => e.ok st ∧ Fires r (e.app st) st'
theorem fires_first {e : Ev} {post : List Ev} {st' : FS} : ∀ {pre : List Ev} {st : FS}, Fires (pre ++ e :: post) st st' → (∀ p ∈ pre, indep p.fp e.fp = true) → e.ok st ∧ Fires (pre ++ post) (e.app st) st'
  | [], st, h, _ => h
  | p :: pre, st, h, hi => by
    obtain ⟨h, hr⟩ := h
    obtain ⟨h1, h2⟩ := fires_first (pre := pre) hr (fun q hq => hi q (by simp [hq]))
    obtain ⟨q1, q2, q3⟩ := ev_swap (hi p (by simp)) h h1
    rw [q3] at h2
    exact ⟨q1, q2, h2⟩
end Go.Proofs.Ytdfdeppimimoiab.ab
