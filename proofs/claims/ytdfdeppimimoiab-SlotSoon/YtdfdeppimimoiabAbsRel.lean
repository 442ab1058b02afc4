/-
  What a step does to slots, own boxes and rows, seen as plain data. Nothing of the program.
-/
import Derived.Test.YtdfdeppimimoiabAbsRep
import Derived.Laws.AppendOwn
namespace Go.Proofs.Ytdfdeppimimoiab.ab
set_option linter.unusedSimpArgs false
set_option linter.unusedVariables false
open Go Go.RowKit

section
variable {base : Nat → Prop} {w0 : World} {I0 : Still} {N : Nat} {I : Still} {ρ : Nat → Option Nat} {st : FS} {a : Act} {w : World}

def FS.setT (st : FS) (d : Nat) (v : Option D) : FS := { st with tm := fun s => if s = d then v else st.tm s, fl := fun s o => if s = d ∧ o = none then none else st.fl s o }
def FS.setB (st : FS) (b : Nat) (cs : List D) : FS := { st with bx := fun c => if c = b then some cs else st.bx c }
/-- A place that may be appended to no more. -/
def FS.offF (st : FS) (s : Nat) (o : Option Nat) : FS := { st with fl := fun s' o' => if s' = s ∧ o' = o then none else st.fl s' o' }
def FS.onF (st : FS) (s : Nat) (o : Option Nat) (x : Nat × Pay) : FS := { st with fl := fun s' o' => if s' = s ∧ o' = o then some x else st.fl s' o' }

theorem at_put (d : Nat) (u : Value) (s : Nat) (o : Option Nat) (h : ¬ (s = d ∧ o = none)) : At ρ (a.put (some d) u).tmps w s o = At ρ a.tmps w s o := by
  cases o with
  | some off => rfl
  | none =>
    simp only [At, Act.put]
    rw [Array.getElem?_setIfInBounds]
    have : ¬ d = s := fun e => h ⟨e.symm, rfl⟩
    simp [this]

theorem RelI.put (h : RelI base w0 I0 N I ρ st a w) {d : Nat} (hd : d < N) {v : Option D} {u : Value} (hv : ∀ x, v = some x → AVRep I ρ w x u) :
    RelI base w0 I0 N I ρ (st.setT d v) (a.put (some d) u) w := by
  have hsz : d < a.tmps.size := by rw [h.size]; exact hd
  refine ⟨h.defers, by simp [Act.put, h.size], fun s x hx => ?_, h.cap, fun b off x hx => h.flc b off x (by simpa [FS.setT] using hx), h.bx, h.inj, h.nob, fun s o e z hf => ?_, fun s o s' o' x x' y y' g h1 h2 h3 h4 h5 h6 => ?_, h.lt, h.sub, h.below, h.room, h.mon⟩
  · simp only [FS.setT] at hx
    split at hx
    · rename_i e; subst e
      exact ⟨u, by simp [Act.put, hsz], hv x hx⟩
    · rename_i e
      obtain ⟨u', h1, h2⟩ := h.tm s x hx
      exact ⟨u', by simp only [Act.put]; rw [Array.getElem?_setIfInBounds, if_neg (fun q => e q.symm), h1], h2⟩
  · simp only [FS.setT] at hf
    split at hf
    · cases hf
    · rename_i hne
      rw [at_put d u s o hne]
      exact h.fl s o e z hf
  · simp only [FS.setT] at h1 h2
    split at h1
    · cases h1
    · rename_i hn1
      split at h2
      · cases h2
      · rename_i hn2
        rw [at_put d u _ _ hn1] at h3
        rw [at_put d u _ _ hn2] at h4
        exact h.apart s o s' o' x x' y y' g h1 h2 h3 h4 h5 h6

theorem RelI.offF (h : RelI base w0 I0 N I ρ st a w) (s : Nat) (o : Option Nat) : RelI base w0 I0 N I ρ (st.offF s o) a w := by
  have hs : ∀ s' o' x, (st.offF s o).fl s' o' = some x → st.fl s' o' = some x := by
    intro s' o' x hx
    simp only [FS.offF] at hx
    split at hx
    · cases hx
    · exact hx
  exact ⟨h.defers, h.size, h.tm, h.cap, fun b off x hx => h.flc b off x (hs _ _ _ hx), h.bx, h.inj, h.nob, fun s' o' e z hf => h.fl s' o' e z (hs _ _ _ hf), fun s' o' s'' o'' x x' y y' g h1 h2 => h.apart s' o' s'' o'' x x' y y' g (hs _ _ _ h1) (hs _ _ _ h2), h.lt, h.sub, h.below, h.room, h.mon⟩

/-- Less is known: fewer slots, fewer places. -/
theorem RelI.less (h : RelI base w0 I0 N I ρ st a w) {st' : FS} (ht : ∀ s v, st'.tm s = some v → st.tm s = some v) (hb : st'.bx = st.bx) (hf : ∀ s o x, st'.fl s o = some x → st.fl s o = some x) : RelI base w0 I0 N I ρ st' a w :=
  ⟨h.defers, h.size, fun s v hv => h.tm s v (ht s v hv), h.cap, fun b off x hx => h.flc b off x (hf _ _ _ hx), fun b cs hc => h.bx b cs (hb ▸ hc), h.inj, fun b hc => h.nob b (hb ▸ hc), fun s o e z hx => h.fl s o e z (hf _ _ _ hx), fun s o s' o' x x' y y' g h1 h2 => h.apart s o s' o' x x' y y' g (hf _ _ _ h1) (hf _ _ _ h2), h.lt, h.sub, h.below, h.room, h.mon⟩

theorem own_keep {w' : World} {e : Nat} {z : Pay} {u : Value} {I' : Still} {ρ' : Nat → Option Nat} (h : Own I ρ base w e z u) (hb : ∀ g, u.ownBlock = some g → w'.heap[g]? = w.heap[g]?)
    (hI : ∀ g j, u.ownBlock = some g → I' g j → I g j) (hρ : ∀ g b, u.ownBlock = some g → ρ' b = some g → ρ b = some g) (hk : ∀ b j, I b j → I' b j) (hw : ∀ b j, I b j → w'.cell? ⟨b, j, none⟩ = w.cell? ⟨b, j, none⟩) : Own I' ρ' base w' e z u := by
  obtain ⟨n, xs, ⟨h1, h2⟩, h3, h4⟩ := h
  refine ⟨n, xs, ⟨h1, ?_⟩, fun g hg => ⟨(h3 g hg).1, fun j hj hi => (h3 g hg).2.1 j hj (hI g j hg hi), fun b hb => (h3 g hg).2.2 b (hρ g b hg hb)⟩, fun es he => ⟨(h4 es he).1, (h4 es he).2.keep hk hw⟩⟩
  rcases h2 with h2 | ⟨g, cap, cur, rfl, hg, hh, r⟩
  · exact .inl h2
  · exact .inr ⟨g, cap, cur, rfl, hg, (hb g rfl).trans hh, r⟩
theorem own_lt {e : Nat} {z : Pay} {u : Value} (h : Own I ρ base w e z u) : ∀ g, u.ownBlock = some g → ¬ base g ∧ g < w.heap.size := by
  obtain ⟨n, xs, h1, h2, _⟩ := h
  exact fun g hg => ⟨(h2 g hg).1, (h1.lt g hg).2⟩

theorem RelI.boxLt (h : RelI base w0 I0 N I ρ st a w) {b g : Nat} (hg : ρ b = some g) : ¬ base g ∧ g < w.heap.size := by
  cases hbx : st.bx b with
  | none => rw [h.nob b hbx] at hg; cases hg
  | some cs =>
    obtain ⟨g', h1, h2, h3, _⟩ := h.bx b cs hbx
    rw [hg] at h1; cases h1
    exact ⟨h2, h3.lt⟩

/-- New memory was made; of what was there nothing has turned. -/
theorem RelI.later0 (h : RelI base w0 I0 N I ρ st a w) {w' : World} (hb : Below w.heap.size w w') : RelI base w0 I0 N I ρ st a w' := by
  have hcell : ∀ b j, I b j → w'.cell? ⟨b, j, none⟩ = w.cell? ⟨b, j, none⟩ := fun b j hi => hb.cell (p := ⟨b, j, none⟩) (h.lt b j hi)
  have hat : ∀ s o, At ρ a.tmps w' s o = At ρ a.tmps w s o := by
    intro s o
    cases o with
    | none => rfl
    | some off =>
      simp only [At]
      cases hr : ρ s with
      | none => rfl
      | some g => exact hb.cell (p := ⟨g, off, none⟩) (h.boxLt hr).2
  refine ⟨h.defers, h.size, fun s v hv => ?_, h.cap, h.flc, fun b cs hc => ?_, h.inj, h.nob, fun s o e z hx => ?_, fun s o s' o' x x' y y' g h1 h2 h3 h4 h5 h6 => ?_, fun b j hi => ?_, h.sub, h.below.trans (below_kept hb h.room), fun b hb' => Nat.lt_of_lt_of_le (h.room b hb') hb.size, fun b j hi => ⟨(h.mon b j hi).1, (hcell b j (h.mon b j hi).1).trans (h.mon b j hi).2⟩⟩
  · obtain ⟨u, h1, h2⟩ := h.tm s v hv
    exact ⟨u, h1, h2.keep (fun _ _ h => h) (fun _ _ _ h => h) hcell⟩
  · obtain ⟨g, h1, h2, h3, h5⟩ := h.bx b cs hc
    exact ⟨g, h1, h2, h3.keep (fun _ _ h => h) (fun _ _ _ h => h) hcell (hb.block g (h.boxLt h1).2), h5⟩
  · obtain ⟨u, h1, h2⟩ := h.fl s o e z hx
    exact ⟨u, by rw [hat]; exact h1, own_keep h2 (fun g hg => hb.block g (own_lt h2 g hg).2) (fun _ _ _ h => h) (fun _ _ _ h => h) (fun _ _ h => h) hcell⟩
  · rw [hat] at h3 h4
    exact h.apart s o s' o' x x' y y' g h1 h2 h3 h4 h5 h6
  · have := h.lt b j hi; have := hb.size; omega

/-- More cells are only read from now on: none of an own box, none behind the end of a row that may be appended to. -/
theorem RelI.still (h : RelI base w0 I0 N I ρ st a w) {B : Nat} (hB : ∀ b, base b → b < B) (hρ : ∀ b g, ρ b = some g → g < B) (hf : ∀ s o x u g, st.fl s o = some x → At ρ a.tmps w s o = some u → u.ownBlock = some g → g < B) :
    RelI base w0 I0 N (fun b j => I b j ∨ (B ≤ b ∧ b < w.heap.size)) ρ st a w := by
  refine ⟨h.defers, h.size, fun s v hv => ?_, h.cap, h.flc, fun b cs hc => ?_, h.inj, h.nob, fun s o e z hx => ?_, h.apart, fun b j hi => ?_, fun b j hi => ?_, h.below, h.room, fun b j hi => ⟨.inl (h.mon b j hi).1, (h.mon b j hi).2⟩⟩
  · obtain ⟨u, h1, h2⟩ := h.tm s v hv
    exact ⟨u, h1, h2.keep (fun b j => .inl) (fun _ _ _ h => h) (fun _ _ _ => rfl)⟩
  · obtain ⟨g, h1, h2, h3, h5⟩ := h.bx b cs hc
    exact ⟨g, h1, h2, h3.keep (fun b j => .inl) (fun _ _ _ h => h) (fun _ _ _ => rfl) rfl, fun j hj => hj.elim (h5 j) (fun q => by have := hρ b g h1; omega)⟩
  · obtain ⟨u, h1, h2⟩ := h.fl s o e z hx
    exact ⟨u, h1, own_keep h2 (fun _ _ => rfl) (fun g j hg hi => hi.elim id (fun q => by have := hf s o (e, z) u g hx h1 hg; omega)) (fun _ _ _ h => h) (fun b j => .inl) (fun _ _ _ => rfl)⟩
  · exact hi.elim (h.lt b j) (fun q => q.2)
  · exact hi.elim (h.sub b j) (fun q => .inr (fun hb => by have := hB b hb; omega))

/-- A call was made: what it made is only read. -/
theorem RelI.later (h : RelI base w0 I0 N I ρ st a w) {w' : World} (hb : Below w.heap.size w w') : RelI base w0 I0 N (fun b j => I b j ∨ (w.heap.size ≤ b ∧ b < w'.heap.size)) ρ st a w' := by
  have h' := h.later0 hb
  refine h'.still h.room (fun b g hg => (h.boxLt hg).2) (fun s o x u g hx hu hg => ?_)
  have hat : At ρ a.tmps w' s o = At ρ a.tmps w s o := by
    cases o with
    | none => rfl
    | some off =>
      simp only [At]
      cases hr : ρ s with
      | none => rfl
      | some g => exact hb.cell (p := ⟨g, off, none⟩) (h.boxLt hr).2
  obtain ⟨u', h1, h2⟩ := h.fl s o x.1 x.2 hx
  rw [hat, h1] at hu
  cases hu
  exact (own_lt h2 g hg).2

/-- A new box. -/
theorem RelI.newO (h : RelI base w0 I0 N I ρ st a w) {b : Nat} (hb : st.bx b = none) (hf : ∀ off, st.fl b (some off) = none) {cs : List D} (o : Obj) (hr : BoxAt I (fun c => if c = b then some w.heap.size else ρ c) (w.alloc o) b w.heap.size cs) :
    RelI base w0 I0 N I (fun c => if c = b then some w.heap.size else ρ c) (st.setB b cs) a (w.alloc o) := by
  have hbel : Below w.heap.size w (w.alloc o) := (Below.refl _ _).alloc (Nat.le_refl _) _
  have h' := h.later0 hbel
  have hρb : ρ b = none := h.nob b hb
  have hat : ∀ s p x, st.fl s p = some x → At (fun c => if c = b then some w.heap.size else ρ c) a.tmps (w.alloc o) s p = At ρ a.tmps (w.alloc o) s p := by
    intro s p x hx
    cases p with
    | none => rfl
    | some off =>
      have : s ≠ b := by intro e; subst e; rw [hf] at hx; cases hx
      simp [At, this]
  have hmono : ∀ c g, ρ c = some g → (if c = b then some w.heap.size else ρ c) = some g := by
    intro c g hg
    rw [if_neg (by intro e; subst e; rw [hρb] at hg; cases hg)]; exact hg
  refine ⟨h'.defers, h'.size, fun s v hv => ?_, h'.cap, h'.flc, fun c ds hc => ?_, fun c c' g h1 h2 => ?_, fun c hc => ?_, fun s p e z hx => ?_, fun s p s' p' x x' y y' g h1 h2 h3 h4 h5 h6 => ?_, h'.lt, h'.sub, h'.below, h'.room, h'.mon⟩
  · obtain ⟨u, h1, h2⟩ := h'.tm s v hv
    exact ⟨u, h1, h2.keep (fun _ _ h => h) (fun c g _ h => hmono c g h) (fun _ _ _ => rfl)⟩
  · simp only [FS.setB] at hc
    split at hc
    · rename_i e; subst e
      cases hc
      refine ⟨w.heap.size, by simp, fun hb => by have := h.room _ hb; omega, hr, fun j hj => ?_⟩
      have := h.lt _ j hj; omega
    · rename_i hne
      obtain ⟨g, h1, h2, h3, h4⟩ := h'.bx c ds hc
      exact ⟨g, hmono c g h1, h2, h3.keep (fun _ _ h => h) (fun c g _ h => hmono c g h) (fun _ _ _ => rfl) rfl, h4⟩
  · split at h1
    · rename_i e
      split at h2
      · rename_i e'; rw [e, e']
      · cases h1; have := (h.boxLt h2).2; omega
    · split at h2
      · cases h2; have := (h.boxLt h1).2; omega
      · exact h.inj c c' g h1 h2
  · simp only [FS.setB] at hc
    split at hc
    · cases hc
    · rename_i hne; rw [if_neg hne]; exact h.nob c hc
  · obtain ⟨u, h1, h2⟩ := h'.fl s p e z hx
    refine ⟨u, by rw [hat s p _ hx]; exact h1, own_keep h2 (fun _ _ => rfl) (fun _ _ _ h => h) (fun g c hg hc => ?_) (fun _ _ h => h) (fun _ _ _ => rfl)⟩
    split at hc
    · cases hc
      obtain ⟨u', h1', h2'⟩ := h.fl s p e z hx
      have hold : At ρ a.tmps (w.alloc o) s p = At ρ a.tmps w s p := by
        cases p with
        | none => rfl
        | some off =>
          simp only [At]
          cases hr : ρ s with
          | none => rfl
          | some g => exact hbel.cell (p := ⟨g, off, none⟩) (h.boxLt hr).2
      rw [hold, h1'] at h1
      cases h1
      have := (own_lt h2' _ hg).2; omega
    · exact hc
  · rw [hat s p _ h1] at h3
    rw [hat s' p' _ h2] at h4
    exact h'.apart s p s' p' x x' y y' g h1 h2 h3 h4 h5 h6
/-- A row or a map of one's own has turned. -/
theorem RelI.chg (h : RelI base w0 I0 N I ρ st a w) {b g : Nat} {cs cs' : List D} (hk : 100000 ≤ b) (hb : st.bx b = some cs) (hg : ρ b = some g) {w' : World} (hgr : w.grownBy w' (some g)) (hr : BoxAt I ρ w' b g cs') :
    RelI base w0 I0 N I ρ (st.setB b cs') a w' := by
  obtain ⟨g', h1, h2, h3, h5⟩ := h.bx b cs hb
  rw [hg] at h1; cases h1
  have hcell : ∀ c j, I c j → w'.cell? ⟨c, j, none⟩ = w.cell? ⟨c, j, none⟩ := fun c j hi => World.cell?_of_block (a := ⟨c, j, none⟩) (hgr.block c (h.lt c j hi) (fun e => h5 j (by cases e; exact hi)))
  have hat : ∀ s p x, st.fl s p = some x → At ρ a.tmps w' s p = At ρ a.tmps w s p := by
    intro s p x hx
    cases p with
    | none => rfl
    | some off =>
      have hs := h.flc s off x hx
      simp only [At]
      cases hr : ρ s with
      | none => rfl
      | some g' => exact World.cell?_of_block (a := ⟨g', off, none⟩) (hgr.block g' (h.boxLt hr).2 (fun e => by cases e; have := h.inj s b g hr hg; omega))
  refine ⟨h.defers, h.size, fun s v hv => ?_, h.cap, h.flc, fun c ds hc => ?_, h.inj, fun c hc => ?_, fun s p e z hx => ?_, fun s p s' p' x x' y y' k h1 h2 h3 h4 h5 h6 => ?_, fun c j hi => by have := h.lt c j hi; have := hgr.size; omega, h.sub, ?_, fun b hb' => Nat.lt_of_lt_of_le (h.room b hb') hgr.size, fun b j hi => ⟨(h.mon b j hi).1, (hcell b j (h.mon b j hi).1).trans (h.mon b j hi).2⟩⟩
  · obtain ⟨u, q1, q2⟩ := h.tm s v hv
    exact ⟨u, q1, q2.keep (fun _ _ h => h) (fun _ _ _ h => h) hcell⟩
  · simp only [FS.setB] at hc
    split at hc
    · rename_i e; subst e; cases hc; exact ⟨g, hg, h2, hr, h5⟩
    · rename_i hne
      obtain ⟨g', q1, q2, q3, q5⟩ := h.bx c ds hc
      exact ⟨g', q1, q2, q3.keep (fun _ _ h => h) (fun _ _ _ h => h) hcell (hgr.block g' (h.boxLt q1).2 (fun e => by cases e; exact hne (h.inj c b g q1 hg))), q5⟩
  · simp only [FS.setB] at hc
    split at hc
    · cases hc
    · exact h.nob c hc
  · obtain ⟨u, q1, q2⟩ := h.fl s p e z hx
    refine ⟨u, by rw [hat s p _ hx]; exact q1, own_keep q2 (fun k hk => hgr.block k (own_lt q2 k hk).2 (fun e => ?_)) (fun _ _ _ h => h) (fun _ _ _ h => h) (fun _ _ h => h) hcell⟩
    cases e
    obtain ⟨n, xs, _, q3, _⟩ := q2
    exact (q3 g hk).2.2 b hg
  · rw [hat s p _ h1] at h3
    rw [hat s' p' _ h2] at h4
    exact h.apart s p s' p' x x' y y' k h1 h2 h3 h4 h5 h6
  · exact h.below.trans ⟨hgr.os, hgr.tape, hgr.output, hgr.size, fun k hk => hgr.block k (h.room k hk) (fun e => by cases e; exact h2 hk)⟩
theorem RelI.newB (h : RelI base w0 I0 N I ρ st a w) {b : Nat} (hlt : b < 100000) (hb : st.bx b = none) (hf : ∀ off, st.fl b (some off) = none) {cs : List D} {us : List Value} (t : TypeId) (hr : RowL I ρ w cs us) :
    RelI base w0 I0 N I (fun c => if c = b then some w.heap.size else ρ c) (st.setB b cs) a (w.alloc (.cells us.toArray t)) := by
  have hbel : Below w.heap.size w (w.alloc (.cells us.toArray t)) := (Below.refl _ _).alloc (Nat.le_refl _) _
  refine h.newO hb hf _ (.inl ⟨hlt, us, t, heap_alloc_new _ _, hr.keep (fun _ _ h => h) (fun c g _ hg => ?_) (fun c j hi => hbel.cell (p := ⟨c, j, none⟩) (h.lt c j hi))⟩)
  show (if c = b then some w.heap.size else ρ c) = some g
  rw [if_neg (by intro e; subst e; rw [h.nob c hb] at hg; cases hg)]; exact hg
end
end Go.Proofs.Ytdfdeppimimoiab.ab
