/-
  Operations, as plain data: what they read, what they make of it. Nothing of the program.
-/
import Derived.Test.YtdfdeppimimoiabAbsApp
namespace Go.Proofs.Ytdfdeppimimoiab.ab
set_option linter.unusedSimpArgs false
set_option linter.unusedVariables false
open Go Go.RowKit

/-- What an operation asks of slots, boxes and rights, and what it makes of them. -/
structure Ev where
  rs : List (Nat × D) := []
  rb : List (Nat × List D) := []
  nb : List Nat := []
  rf : List ((Nat × Option Nat) × (Nat × Pay)) := []
  ws : Option (Nat × Option D) := none
  wb : Option (Nat × List D) := none
  cf : List (Nat × Option Nat) := []
  sf : Option ((Nat × Option Nat) × (Nat × Pay)) := none

structure Ev.ok (ev : Ev) (st : FS) : Prop where
  rs : ∀ x ∈ ev.rs, st.tm x.1 = some x.2
  rb : ∀ x ∈ ev.rb, st.bx x.1 = some x.2
  nb : ∀ b ∈ ev.nb, st.bx b = none
  rf : ∀ x ∈ ev.rf, st.fl x.1.1 x.1.2 = some x.2

def Ev.app (ev : Ev) (st : FS) : FS where
  tm := fun s => match ev.ws with | some (d, v) => if s = d then v else st.tm s | none => st.tm s
  bx := fun b => match ev.wb with | some (d, cs) => if b = d then some cs else st.bx b | none => st.bx b
  fl := fun s o => match ev.sf with
    | some (p, x) => if (s, o) = p then some x else if (s, o) ∈ ev.cf then none else st.fl s o
    | none => if (s, o) ∈ ev.cf then none else st.fl s o

/-- A function, called with args, tells r, and changes nothing that was there. -/
def RRep (I : Still) (w : World) (r : List D) (v : Value) : Prop :=
  match r with
  | [c] => CVRep I w c v
  | cs => ∃ us, v = .tuple us.toArray ∧ Vals I w cs us
def Told (P : Program) (f : FuncId) (args : List D) (r : List D) : Prop :=
  ∀ (w : World) (I : Still) (vs : List Value), Vals I w args vs → (∀ b j, I b j → b < w.heap.size) →
    Calls P f vs.toArray w fun e w' => ∃ v, e = .returned v ∧ RRep (fun b j => I b j ∨ (w.heap.size ≤ b ∧ b < w'.heap.size)) w' r v ∧ Below w.heap.size w w'

/-- A value, or a struct's cell. -/
def cellAt (v : Value) : Option Nat → Option Value
  | none => some v
  | some k => match v with
    | .agg cs => cs[k]?
    | _ => none
/-- What it tells has, at o, a row of its caller's own. -/
def ToldO (P : Program) (f : FuncId) (args r : List D) (o : Option Nat) (e : Nat) (z : Pay) : Prop :=
  ∀ (w : World) (I : Still) (vs : List Value), Vals I w args vs → (∀ b j, I b j → b < w.heap.size) →
    Calls P f vs.toArray w fun x w' => ∃ v I' u, x = .returned v ∧ (∀ b j, I b j → I' b j) ∧ (∀ b j, I' b j → I b j ∨ (w.heap.size ≤ b ∧ b < w'.heap.size)) ∧ RRep I' w' r v ∧ cellAt v o = some u ∧
      Own I' (fun _ => none) (fun b => b < w.heap.size) w' e z u ∧ Below w.heap.size w w'
/-- It is handed a row of its caller's own: argument i, at o. -/
def ToldI (P : Program) (f : FuncId) (args : List D) (i : Nat) (o : Option Nat) (e : Nat) (z : Pay) (r : List D) : Prop :=
  ∀ (w : World) (I : Still) (vs : List Value) (v u : Value), Vals I w args vs → (∀ b j, I b j → b < w.heap.size) → vs[i]? = some v → cellAt v o = some u → Own I (fun _ => none) (fun _ => False) w e z u →
    Calls P f vs.toArray w fun x w' => ∃ v', x = .returned v' ∧ RRep (fun b j => I b j ∨ ((w.heap.size ≤ b ∨ u.ownBlock = some b) ∧ b < w'.heap.size)) w' r v' ∧
      Kept (fun b => b < w.heap.size ∧ u.ownBlock ≠ some b) w w' ∧ ∀ b j, I b j → w'.cell? ⟨b, j, none⟩ = w.cell? ⟨b, j, none⟩

/-- It turns a row that it is handed first, in its place, and tells its part. -/
def ToldU (P : Program) (f : FuncId) (args : List D) (z : Nat) (es es' : List D) : Prop :=
  ∀ (w : World) (I : Still) (vs : List Value) (g : Nat) (us : List Value) (t : TypeId) (cap : Nat), Vals I w args vs → (∀ b j, I b j → b < w.heap.size) → w.heap[g]? = some (.cells us.toArray t (0, 0)) → ElemsAt I w z es us → (∀ j, ¬ I g j) → es.length ≤ cap → cap ≤ maxLen →
    Calls P f (.slice (some ⟨g, 0, none⟩) es.length cap :: vs).toArray w fun x w' => x = .returned (.slice (some ⟨g, 0, none⟩) es'.length cap) ∧ w.grownBy w' (some g) ∧ ∃ us', w'.heap[g]? = some (.cells us'.toArray t (0, 0)) ∧ ElemsAt I w' z es' us' ∧ es'.length ≤ es.length

/-- It is handed an address of a box of one's own first, and tells another one of it. -/
def ToldP (P : Program) (f : FuncId) (args : List D) (off off' : Nat) : Prop :=
  ∀ (w : World) (I : Still) (vs : List Value) (g : Nat), Vals I w args vs → (∀ b j, I b j → b < w.heap.size) →
    Calls P f (.pointer (some ⟨g, off, none⟩) :: vs).toArray w fun x w' => x = .returned (.pointer (some ⟨g, off', none⟩)) ∧ Below w.heap.size w w'

/-- The operation does what ev says. -/
def Sound (P : Program) (o : Oper) (ev : Ev) : Prop :=
  ∀ (base : Nat → Prop) (w0 : World) (I0 : Still) (N : Nat) (st : FS) (a : Act) (w : World) (K : Act → World → Prop) (Q : Exit → Act → World → Prop),
    (∀ d, o.dst = some d → d < N) → Rel base w0 I0 N st a w → ev.ok st → (∀ a' w', Rel base w0 I0 N (ev.app st) a' w' → K a' w') → Oper.wp P o a w K Q

section
variable {P : Program} {o : Oper}

/-- What yields a value, and leaves the world as it is. -/
theorem sound_val {d : Nat} (hd : o.dst = some d) {rs : List (Nat × D)} {rb : List (Nat × List D)} {v : D}
    (H : ∀ (I : Still) (ρ : Nat → Option Nat) (a : Act) (w : World), (∀ x ∈ rs, ∃ u, a.tmps[x.1]? = some u ∧ AVRep I ρ w x.2 u) →
      (∀ x ∈ rb, ∃ g, ρ x.1 = some g ∧ BoxAt I ρ w x.1 g x.2) →
      ∃ u, (execOp a.eval o).run P w = .ok (.value u) w ∧ AVRep I ρ w v u) :
    Sound P o { rs := rs, rb := rb, ws := some (d, some v), cf := [(d, none)] } := by
  intro base w0 I0 N st a w K Q hN ⟨I, ρ, h⟩ hok hK
  obtain ⟨u, hr, hu⟩ := H I ρ a w (fun x hx => h.tm x.1 x.2 (hok.rs x hx)) (fun x hx => by
    obtain ⟨g, h1, _, h3, _⟩ := h.bx x.1 x.2 (hok.rb x hx)
    exact ⟨g, h1, h3⟩)
  unfold Oper.wp
  rw [hr]
  show K (a.put o.dst u) w
  rw [hd]
  refine hK _ _ ⟨I, ρ, ?_⟩
  have := h.put (hN d hd) (v := some v) (u := u) (fun x hx => by cases hx; exact hu)
  refine this.less (fun s x hx => ?_) rfl (fun s o x hx => ?_)
  · simpa [Ev.app, FS.setT] using hx
  · simp only [Ev.app, List.mem_singleton, Prod.mk.injEq] at hx
    simpa [FS.setT] using hx

/-- What is handed on with the right to append. -/
theorem sound_hand {d : Nat} (hd : o.dst = some d) {rs : List (Nat × D)} {rb : List (Nat × List D)} {v : D} {s : Nat} {p : Option Nat} {x : Nat × Pay} (hne : (s, p) ≠ (d, none))
    (H : ∀ (I : Still) (ρ : Nat → Option Nat) (a : Act) (w : World) (st : FS), (∀ b j, I b j → b < w.heap.size) → (∀ x ∈ rs, ∃ u, a.tmps[x.1]? = some u ∧ AVRep I ρ w x.2 u) →
      (∀ x ∈ rb, ∃ g, ρ x.1 = some g ∧ BoxAt I ρ w x.1 g x.2) → ∀ u0, At ρ a.tmps w s p = some u0 →
      (execOp a.eval o).run P w = .ok (.value u0) w ∧ AVRep I ρ w v u0) :
    Sound P o { rs := rs, rb := rb, rf := [((s, p), x)], ws := some (d, some v), cf := [(s, p), (d, none)], sf := some ((d, none), x) } := by
  intro base w0 I0 N st a w K Q hN ⟨I, ρ, h⟩ hok hK
  have hx : st.fl s p = some x := hok.rf ((s, p), x) (by simp)
  obtain ⟨u, hat, _⟩ := h.fl s p x.1 x.2 hx
  obtain ⟨hr, hu⟩ := H I ρ a w st h.lt (fun x hx => h.tm x.1 x.2 (hok.rs x hx)) (fun x hx => by
    obtain ⟨g, h1, _, h3, _⟩ := h.bx x.1 x.2 (hok.rb x hx)
    exact ⟨g, h1, h3⟩) u hat
  unfold Oper.wp
  rw [hr]
  show K (a.put o.dst u) w
  rw [hd]
  refine hK _ _ ⟨I, ρ, ?_⟩
  have hsz : d < a.tmps.size := by rw [h.size]; exact hN d hd
  have h1 := h.put (hN d hd) (v := some v) (u := u) (fun y hy => by cases hy; exact hu)
  have hne' : ¬ (s = d ∧ p = none) := fun e => hne (by rw [e.1, e.2])
  have h2 := h1.moveF (s := s) (o := p) (s' := d) (o' := none) (x := x) (u := u) (fun k hk => by cases hk) (by simp only [FS.setT, if_neg hne']; exact hx) (by rw [at_put d u s p hne']; exact hat) (by simp [At, Act.put, hsz])
  refine h2.less (fun t y hy => ?_) rfl (fun t q y hy => ?_)
  · simpa [Ev.app, FS.setT, FS.onF, FS.offF] using hy
  · simp only [Ev.app, List.mem_cons, List.not_mem_nil, or_false, Prod.mk.injEq] at hy
    simp only [FS.setT, FS.onF, FS.offF]
    by_cases e1 : t = d ∧ q = none
    · simpa [e1] using hy
    · by_cases e2 : t = s ∧ q = p
      · simp [e2, hne'] at hy
      · simpa [e1, e2] using hy

/-- An operation that is passed by. -/
def skipEv (d : Option Nat) (rs : List (Nat × D)) : Ev := match d with
  | some d => { rs := rs, ws := some (d, some (tD [])), cf := [(d, none)] }
  | none => { rs := rs }
theorem skip_rel {base : Nat → Prop} {w0 : World} {I0 : Still} {N : Nat} {st : FS} {a : Act} {w : World} {d : Option Nat} {rs : List (Nat × D)} (hN : ∀ e, d = some e → e < N) (h : Rel base w0 I0 N st a w) : Rel base w0 I0 N ((skipEv d rs).app st) (a.put d undef) w := by
  obtain ⟨I, ρ, h⟩ := h
  cases d with
  | none => exact ⟨I, ρ, h.less (fun _ _ h => h) rfl (fun _ _ _ h => by simpa [skipEv, Ev.app] using h)⟩
  | some d =>
    refine ⟨I, ρ, (h.put (hN d rfl) (v := some (tD [])) (u := undef) (fun x hx => by cases hx; exact .inr (.inl ⟨[], [], rfl, rfl, Vals.nil⟩))).less (fun s x hx => ?_) rfl (fun s o x hx => ?_)⟩
    · simpa [skipEv, Ev.app, FS.setT] using hx
    · simp only [skipEv, Ev.app, List.mem_singleton, Prod.mk.injEq] at hx
      simpa [FS.setT] using hx
end
end Go.Proofs.Ytdfdeppimimoiab.ab
