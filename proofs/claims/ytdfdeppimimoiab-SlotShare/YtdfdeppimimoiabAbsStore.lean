/-
  A store into an own box; the right to append handed on. Nothing of the program.
-/
import Derived.Test.YtdfdeppimimoiabAbsRel
namespace Go.Proofs.Ytdfdeppimimoiab.ab
set_option linter.unusedSimpArgs false
set_option linter.unusedVariables false
open Go Go.RowKit

section
variable {base : Nat → Prop} {w0 : World} {I0 : Still} {N : Nat} {I : Still} {ρ : Nat → Option Nat} {st : FS} {a : Act} {w : World}

/-- cs, from off on ds in its place. -/
def over {α : Type} (cs : List α) (off : Nat) (ds : List α) : List α := cs.take off ++ ds ++ cs.drop (off + ds.length)
theorem over_row {cs ds : List D} {us vs : List Value} (h : Row I w cs us) (h' : Row I w ds vs) (off : Nat) : Row I w (over cs off ds) (over us off vs) := by
  unfold over
  rw [← h'.1]
  exact ((h.take off).app h').app (h.drop _)
theorem over_rowL {cs ds : List D} {us vs : List Value} (h : RowL I ρ w cs us) (h' : RowL I ρ w ds vs) (off : Nat) : RowL I ρ w (over cs off ds) (over us off vs) := by
  unfold over
  rw [← h'.1]
  exact ((h.take off).app h').app (h.drop _)
theorem over_len {α : Type} {cs ds : List α} {off : Nat} (hl : off + ds.length ≤ cs.length) : (over cs off ds).length = cs.length := by
  simp only [over, List.length_append, List.length_take, List.length_drop]; omega
theorem over_out {α : Type} {cs ds : List α} {off j : Nat} (hl : off + ds.length ≤ cs.length) (hj : j < off ∨ off + ds.length ≤ j) : (over cs off ds)[j]? = cs[j]? := by
  unfold over
  rcases hj with hj | hj
  · rw [List.append_assoc, List.getElem?_append_left (by rw [List.length_take]; omega), List.getElem?_take, if_pos hj]
  · rw [List.getElem?_append_right (by simp; omega), List.getElem?_drop]
    congr 1
    simp only [List.length_append, List.length_take]
    omega
theorem over_in {α : Type} {cs ds : List α} {off j : Nat} (hl : off + ds.length ≤ cs.length) (hj : j < ds.length) : (over cs off ds)[off + j]? = ds[j]? := by
  unfold over
  rw [List.append_assoc, List.getElem?_append_right (by rw [List.length_take]; omega), List.length_take, Nat.min_eq_left (by omega), Nat.add_sub_cancel_left, List.getElem?_append_left hj]

/-- The places of a box's cells from off on, n of them, may be appended to no more. -/
def FS.offR (st : FS) (b off n : Nat) : FS := { st with fl := fun s o => if s = b ∧ (∃ k, o = some k ∧ off ≤ k ∧ k < off + n) then none else st.fl s o }

theorem RelI.store (h : RelI base w0 I0 N I ρ st a w) {b off : Nat} {cs ds : List D} {vs : List Value} (hlt : b < 100000) (hb : st.bx b = some cs) (hl : off + ds.length ≤ cs.length) (hr : RowL I ρ w ds vs) :
    ∃ g us t, ρ b = some g ∧ w.heap[g]? = some (.cells us.toArray t (0, 0)) ∧ us.length = cs.length ∧ RelI base w0 I0 N I ρ ((st.setB b (over cs off ds)).offR b off ds.length) a (w.setRow g (over us off vs).toArray) := by
  obtain ⟨g, h1, h2, h34, h5⟩ := h.bx b cs hb
  obtain ⟨us, t, h3, h4⟩ := h34.cells hlt
  refine ⟨g, us, t, h1, h3, h4.1.symm, ?_⟩
  have hvl : vs.length = ds.length := hr.1.symm
  have hul : off + vs.length ≤ us.length := by rw [hvl, ← h4.1]; exact hl
  have hcell : ∀ c j, I c j → (w.setRow g (over us off vs).toArray).cell? ⟨c, j, none⟩ = w.cell? ⟨c, j, none⟩ := fun c j hi =>
    cell_setRow_other w g _ ⟨c, j, none⟩ (fun e => h5 j (by rw [← e]; exact hi))
  have hblk : ∀ k, k ≠ g → (w.setRow g (over us off vs).toArray).heap[k]? = w.heap[k]? := fun k hk => setRow_other w g k _ hk
  have hsame : ∀ j, (w.setRow g (over us off vs).toArray).cell? ⟨g, j, none⟩ = (over us off vs)[j]? := fun j => by
    rw [cell_setRow_same w g j us.toArray _ t (0, 0) h3]; simp
  have hold : ∀ j, w.cell? ⟨g, j, none⟩ = us[j]? := fun j => by rw [cell_of_row w g j us.toArray t (0, 0) h3]; simp
  have hfl : ∀ s o x, ((st.setB b (over cs off ds)).offR b off ds.length).fl s o = some x → st.fl s o = some x ∧ At ρ a.tmps (w.setRow g (over us off vs).toArray) s o = At ρ a.tmps w s o := by
    intro s o x hx
    simp only [FS.offR, FS.setB] at hx
    split at hx
    · cases hx
    · rename_i hn
      refine ⟨hx, ?_⟩
      cases o with
      | none => rfl
      | some k =>
        simp only [At]
        cases hs : ρ s with
        | none => rfl
        | some g' =>
          show (w.setRow g _).cell? ⟨g', k, none⟩ = w.cell? ⟨g', k, none⟩
          by_cases e : g' = g
          · subst e
            have hsb := h.inj s b g' hs h1
            subst hsb
            rw [hsame, hold, over_out hul]
            have hq : ¬ (off ≤ k ∧ k < off + ds.length) := fun q => hn ⟨rfl, k, rfl, q⟩
            omega
          · exact cell_setRow_other w g _ ⟨g', k, none⟩ e
  refine ⟨h.defers, h.size, fun s v hv => ?_, h.cap, fun b off x hx => h.flc b off x (hfl _ _ _ hx).1, fun c es hc => ?_, h.inj, fun c hc => ?_, fun s o e z hx => ?_, fun s o s' o' x x' y y' k h1 h2 h3 h4 h5 h6 => ?_, fun c j hi => by rw [setRow_size]; exact h.lt c j hi, h.sub, ?_, by rw [setRow_size]; exact h.room, fun b j hi => ⟨(h.mon b j hi).1, (hcell b j (h.mon b j hi).1).trans (h.mon b j hi).2⟩⟩
  · obtain ⟨u, q1, q2⟩ := h.tm s v hv
    exact ⟨u, q1, q2.keep (fun _ _ h => h) (fun _ _ _ h => h) hcell⟩
  · simp only [FS.offR, FS.setB] at hc
    split at hc
    · rename_i e; subst e
      cases hc
      exact ⟨g, h1, h2, .inl ⟨hlt, over us off vs, t, setRow_heap w g us.toArray _ t (0, 0) h3, (over_rowL h4 hr off).keep (fun _ _ h => h) (fun _ _ _ h => h) hcell⟩, h5⟩
    · rename_i hne
      obtain ⟨g', q1, q2, q3, q5⟩ := h.bx c es hc
      have : g' ≠ g := fun e => hne (h.inj c b g (e ▸ q1) h1)
      exact ⟨g', q1, q2, q3.keep (fun _ _ h => h) (fun _ _ _ h => h) hcell (hblk g' this), q5⟩
  · simp only [FS.offR, FS.setB] at hc
    split at hc
    · cases hc
    · exact h.nob c hc
  · obtain ⟨q, hat⟩ := hfl s o _ hx
    obtain ⟨u, q1, q2⟩ := h.fl s o e z q
    refine ⟨u, by rw [hat]; exact q1, own_keep q2 (fun k hk => hblk k (fun e => ?_)) (fun _ _ _ h => h) (fun _ _ _ h => h) (fun _ _ h => h) hcell⟩
    obtain ⟨n, xs, _, q3, _⟩ := q2
    exact (q3 k hk).2.2 b (e ▸ h1)
  · obtain ⟨q, hat⟩ := hfl s o _ h1
    obtain ⟨q', hat'⟩ := hfl s' o' _ h2
    rw [hat] at h3
    rw [hat'] at h4
    exact h.apart s o s' o' x x' y y' k q q' h3 h4 h5 h6
  · exact h.below.trans ⟨rfl, rfl, rfl, by rw [setRow_size]; exact Nat.le_refl _, fun k hk => hblk k (fun e => h2 (e ▸ hk))⟩

/-- The right to append goes from one place to another that holds the same slice. -/
theorem RelI.moveF (h : RelI base w0 I0 N I ρ st a w) {s s' : Nat} {o o' : Option Nat} {x : Nat × Pay} {u : Value} (hs' : ∀ k, o' = some k → s' < 100000) (hx : st.fl s o = some x) (hu : At ρ a.tmps w s o = some u) (hu' : At ρ a.tmps w s' o' = some u) :
    RelI base w0 I0 N I ρ ((st.offF s o).onF s' o' x) a w := by
  have hcase : ∀ t p y, ((st.offF s o).onF s' o' x).fl t p = some y → (t = s' ∧ p = o' ∧ y = x) ∨ (¬ (t = s' ∧ p = o') ∧ ¬ (t = s ∧ p = o) ∧ st.fl t p = some y) := by
    intro t p y hy
    simp only [FS.onF, FS.offF] at hy
    split at hy
    · rename_i e; cases hy; exact .inl ⟨e.1, e.2, rfl⟩
    · rename_i e
      split at hy
      · cases hy
      · rename_i e'; exact .inr ⟨e, e', hy⟩
  refine ⟨h.defers, h.size, h.tm, h.cap, fun b off y hy => (hcase b (some off) y hy).elim (fun q => by rw [q.1]; exact hs' off q.2.1.symm) (fun q => h.flc b off y q.2.2), h.bx, h.inj, h.nob, fun t p e z hy => ?_, fun t p t' p' y y' v v' g h1 h2 h3 h4 h5 h6 => ?_, h.lt, h.sub, h.below, h.room, h.mon⟩
  · rcases hcase t p _ hy with ⟨rfl, rfl, q⟩ | ⟨_, _, q⟩
    · obtain ⟨u', q1, q2⟩ := h.fl s o e z (by rw [hx, q])
      rw [hu] at q1; cases q1
      exact ⟨u, hu', q2⟩
    · exact h.fl t p e z q
  · rcases hcase t p _ h1 with ⟨rfl, rfl, q⟩ | ⟨n1, m1, q⟩
    · rcases hcase t' p' _ h2 with ⟨rfl, rfl, q'⟩ | ⟨n2, m2, q'⟩
      · exact ⟨rfl, rfl⟩
      · rw [hu'] at h3; cases h3
        have := h.apart s o t' p' x y' u v' g hx q' hu h4 h5 h6
        exact absurd ⟨this.1.symm, this.2.symm⟩ m2
    · rcases hcase t' p' _ h2 with ⟨rfl, rfl, q'⟩ | ⟨n2, m2, q'⟩
      · rw [hu'] at h4; cases h4
        have := h.apart t p s o y x v u g q hx h3 hu h5 h6
        exact absurd this m1
      · exact h.apart t p t' p' y y' v v' g q q' h3 h4 h5 h6
/-- A place gets the right to append. -/
theorem RelI.giveF (h : RelI base w0 I0 N I ρ st a w) {s : Nat} {o : Option Nat} {e : Nat} {z : Pay} {u : Value} (hs' : ∀ k, o = some k → s < 100000) (hu : At ρ a.tmps w s o = some u) (ho : Own I ρ base w e z u)
    (hap : ∀ t p x y g, st.fl t p = some x → At ρ a.tmps w t p = some y → y.ownBlock = some g → u.ownBlock ≠ some g) : RelI base w0 I0 N I ρ (st.onF s o (e, z)) a w := by
  have hcase : ∀ t p y, (st.onF s o (e, z)).fl t p = some y → (t = s ∧ p = o ∧ y = (e, z)) ∨ (¬ (t = s ∧ p = o) ∧ st.fl t p = some y) := by
    intro t p y hy
    simp only [FS.onF] at hy
    split at hy
    · rename_i e; cases hy; exact .inl ⟨e.1, e.2, rfl⟩
    · rename_i e; exact .inr ⟨e, hy⟩
  refine ⟨h.defers, h.size, h.tm, h.cap, fun b off y hy => (hcase b (some off) y hy).elim (fun q => by rw [q.1]; exact hs' off q.2.1.symm) (fun q => h.flc b off y q.2), h.bx, h.inj, h.nob, fun t p e' z' hy => ?_, fun t p t' p' y y' v v' g h1 h2 h3 h4 h5 h6 => ?_, h.lt, h.sub, h.below, h.room, h.mon⟩
  · rcases hcase t p _ hy with ⟨rfl, rfl, q⟩ | ⟨_, q⟩
    · cases q; exact ⟨u, hu, ho⟩
    · exact h.fl t p e' z' q
  · rcases hcase t p _ h1 with ⟨rfl, rfl, q⟩ | ⟨n1, q⟩
    · rcases hcase t' p' _ h2 with ⟨rfl, rfl, q'⟩ | ⟨n2, q'⟩
      · exact ⟨rfl, rfl⟩
      · rw [hu] at h3; cases h3
        exact absurd h5 (hap t' p' y' v' g q' h4 h6)
    · rcases hcase t' p' _ h2 with ⟨rfl, rfl, q'⟩ | ⟨n2, q'⟩
      · rw [hu] at h4; cases h4
        exact absurd h6 (hap t p y v g q h3 h5)
      · exact h.apart t p t' p' y y' v v' g q q' h3 h4 h5 h6
end
end Go.Proofs.Ytdfdeppimimoiab.ab
