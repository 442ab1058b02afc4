/-
  Several texts in one.
-/
import Derived.Test.YtnncmddmjpocfabAbsCode
import Derived.Maps.RangeRun
import Derived.Maps.Range
import Derived.Test.YtnncmddmjpocfabM18

/-
  Ranging over a map of one's own, as plain data: the block of the iterator, that nobody else knows. Nothing of the program.
-/
namespace Go.Proofs.Ytnncmddmjpocfab.ab
set_option linter.unusedSimpArgs false
set_option linter.unusedVariables false
open Go Go.RowKit

section
variable {base : Nat → Prop} {w0 : World} {I0 : Still} {N : Nat} {I : Still} {ρ : Nat → Option Nat} {st : FS} {a : Act} {w : World}
/-- Blocks that nobody knows. -/
structure HidB (base : Nat → Prop) (I : Still) (ρ : Nat → Option Nat) (st : FS) (a : Act) (w : World) (G : Nat → Prop) : Prop where
  lt : ∀ g, G g → g < w.heap.size
  nb : ∀ g, G g → ¬ base g
  nI : ∀ g j, G g → ¬ I g j
  nr : ∀ b g, ρ b = some g → ¬ G g
  nf : ∀ s o x u g, st.fl s o = some x → At ρ a.tmps w s o = some u → u.ownBlock = some g → ¬ G g
theorem own_more {L L' : Nat → Prop} {e : Nat} {z : Pay} {u : Value} (h : Own I ρ L w e z u) (hL : ∀ g, u.ownBlock = some g → ¬ L g → ¬ L' g) : Own I ρ L' w e z u := by
  obtain ⟨n, xs, h1, h2, h3⟩ := h
  exact ⟨n, xs, h1, fun g hg => ⟨hL g hg (h2 g hg).1, (h2 g hg).2⟩, h3⟩
/-- What is run while it is hidden leaves it alone. -/
theorem RelI.hide (h : RelI base w0 I0 N I ρ st a w) {G : Nat → Prop} (hh : HidB base I ρ st a w G) : RelI (fun b => base b ∨ G b) w I N I ρ st a w := by
  refine ⟨h.defers, h.size, h.tm, h.cap, h.flc, fun b cs hc => ?_, h.inj, h.nob, fun s o e z hf => ?_, h.apart, h.lt, fun b j hi => .inl hi, Kept.refl _ _, fun b hb => ?_, fun b j hi => ⟨hi, rfl⟩⟩
  · obtain ⟨g', h1, h2, h3, h4⟩ := h.bx b cs hc
    exact ⟨g', h1, fun q => q.elim h2 (hh.nr b g' h1), h3, h4⟩
  · obtain ⟨u, h1, h2⟩ := h.fl s o e z hf
    exact ⟨u, h1, own_more h2 (fun g' hg' hn q => q.elim hn (hh.nf s o (e, z) u g' hf h1 hg'))⟩
  · exact hb.elim (h.room b) (hh.lt b)
/-- Back. -/
theorem RelI.shown (h : RelI base w0 I0 N I ρ st a w) {G : Nat → Prop} (hh : HidB base I ρ st a w G) {I' : Still} {ρ' : Nat → Option Nat} {st' : FS} {a' : Act} {w' : World} (h' : RelI (fun b => base b ∨ G b) w I N I' ρ' st' a' w') :
    RelI base w0 I0 N I' ρ' st' a' w' ∧ HidB base I' ρ' st' a' w' G ∧ ∀ g, G g → w'.heap[g]? = w.heap[g]? := by
  refine ⟨⟨h'.defers, h'.size, h'.tm, h'.cap, h'.flc, fun b cs hc => ?_, h'.inj, h'.nob, fun s o e z hf => ?_, h'.apart, h'.lt, fun b j hi => ?_, ?_, fun b hb => h'.room b (.inl hb), fun b j hi => ?_⟩, ⟨fun g hg => h'.room g (.inr hg), hh.nb, fun g j hg hi => ?_, fun b g hb hg => ?_, fun s o x u g' hf hu hg' => ?_⟩, fun g hg => h'.below.block g (.inr hg)⟩
  · obtain ⟨g', h1, h2, h3, h4⟩ := h'.bx b cs hc
    exact ⟨g', h1, fun q => h2 (.inl q), h3, h4⟩
  · obtain ⟨u, h1, h2⟩ := h'.fl s o e z hf
    exact ⟨u, h1, own_more h2 (fun g' _ hn q => hn (.inl q))⟩
  · rcases h'.sub b j hi with q | q
    · exact h.sub b j q
    · exact .inr (fun w => q (.inl w))
  · exact h.below.trans ⟨h'.below.os, h'.below.tape, h'.below.output, h'.below.size, fun k hk => h'.below.block k (.inl hk)⟩
  · have h1 := h.mon b j hi
    have h2 := h'.mon b j h1.1
    exact ⟨h2.1, h2.2.trans h1.2⟩
  · rcases h'.sub g j hi with q | q
    · exact hh.nI g j hg q
    · exact q (.inr hg)
  · cases hbx : st'.bx b with
    | none => rw [h'.nob b hbx] at hb; cases hb
    | some cs =>
      obtain ⟨g', h1, h2, _⟩ := h'.bx b cs hbx
      rw [hb] at h1
      cases h1
      exact h2 (.inr hg)
  · obtain ⟨u', h1, h2⟩ := h'.fl s o x.1 x.2 hf
    rw [h1] at hu
    cases hu
    exact fun e => (own_lt h2 g' hg').1 (.inr e)
/-- It turns; nobody sees it. -/
theorem RelI.turned (h : RelI base w0 I0 N I ρ st a w) {G : Nat → Prop} (hh : HidB base I ρ st a w G) {g : Nat} (hG : G g) {w' : World} (hg : w.grownBy w' (some g)) : RelI base w0 I0 N I ρ st a w' ∧ HidB base I ρ st a w' G := by
  have hblk : ∀ k, k < w.heap.size → k ≠ g → w'.heap[k]? = w.heap[k]? := fun k hk hne => hg.block k hk (fun e => hne (by simpa using e))
  have hIne : ∀ b j, I b j → b ≠ g := fun b j hi e => hh.nI g j hG (e ▸ hi)
  have hcell : ∀ b j, I b j → w'.cell? ⟨b, j, none⟩ = w.cell? ⟨b, j, none⟩ := fun b j hi => World.cell?_of_block (hblk b (h.lt b j hi) (hIne b j hi))
  have hρ : ∀ b k, ρ b = some k → k ≠ g := fun b k hb e => hh.nr b g (e ▸ hb) hG
  have hat : ∀ s o, At ρ a.tmps w' s o = At ρ a.tmps w s o := by
    intro s o
    cases o with
    | none => rfl
    | some off =>
      simp only [At]
      cases hr : ρ s with
      | none => rfl
      | some k => exact World.cell?_of_block (a := ⟨k, off, none⟩) (hblk k (h.boxLt hr).2 (hρ s k hr))
  refine ⟨⟨h.defers, h.size, fun s v hv => ?_, h.cap, h.flc, fun b cs hc => ?_, h.inj, h.nob, fun s o e z hx => ?_, fun s o s' o' x x' y y' k h1 h2 h3 h4 h5 h6 => ?_, fun b j hi => Nat.lt_of_lt_of_le (h.lt b j hi) hg.size, h.sub, ?_, fun b hb => Nat.lt_of_lt_of_le (h.room b hb) hg.size, fun b j hi => ⟨(h.mon b j hi).1, (hcell b j (h.mon b j hi).1).trans (h.mon b j hi).2⟩⟩, ⟨fun k hk => Nat.lt_of_lt_of_le (hh.lt k hk) hg.size, hh.nb, hh.nI, hh.nr, fun s o x u g' hf hu => hh.nf s o x u g' hf (by rw [← hat]; exact hu)⟩⟩
  · obtain ⟨u, h1, h2⟩ := h.tm s v hv
    exact ⟨u, h1, h2.keep (fun _ _ h => h) (fun _ _ _ h => h) hcell⟩
  · obtain ⟨k, h1, h2, h3, h5⟩ := h.bx b cs hc
    exact ⟨k, h1, h2, h3.keep (fun _ _ h => h) (fun _ _ _ h => h) hcell (hblk k (h.boxLt h1).2 (hρ b k h1)), h5⟩
  · obtain ⟨u, h1, h2⟩ := h.fl s o e z hx
    exact ⟨u, by rw [hat]; exact h1, own_keep h2 (fun k hk => hblk k (own_lt h2 k hk).2 (fun e' => hh.nf s o (e, z) u k hx h1 hk (e' ▸ hG))) (fun _ _ _ h => h) (fun _ _ _ h => h) (fun _ _ h => h) hcell⟩
  · rw [hat] at h3 h4
    exact h.apart s o s' o' x x' y y' k h1 h2 h3 h4 h5 h6
  · exact h.below.trans ⟨hg.os, hg.tape, hg.output, hg.size, fun k hk => hblk k (h.room k hk) (fun e => hh.nb g hG (e ▸ hk))⟩
/-- A state without a box, and without what leads there. -/
def FS.noB (st : FS) (b : Nat) : FS := ⟨fun s => match st.tm s with | some v => if refD v = some b then none else some v | none => none, fun c => if c = b then none else st.bx c, st.fl⟩
/-- A map of one's own is put aside. -/
theorem RelI.aside (h : RelI base w0 I0 N I ρ st a w) {b g : Nat} {cs : List D} (hb : st.bx b = some cs) (hlt : 200000 ≤ b) (hg : ρ b = some g) :
    RelI base w0 I0 N I (fun c => if c = b then none else ρ c) (st.noB b) a w ∧ HidB base I (fun c => if c = b then none else ρ c) (st.noB b) a w (fun k => k = g) := by
  have hrow : ∀ c k, 100000 ≤ c ∧ c < 200000 → ρ c = some k → (if c = b then none else ρ c) = some k := fun c k hc hk => by rw [if_neg (by omega)]; exact hk
  have hsub : ∀ c k, (if c = b then none else ρ c) = some k → c ≠ b ∧ ρ c = some k := fun c k hk => by
    split at hk
    · cases hk
    · rename_i q; exact ⟨q, hk⟩
  have hat : ∀ s o x, st.fl s o = some x → At (fun c => if c = b then none else ρ c) a.tmps w s o = At ρ a.tmps w s o := by
    intro s o x hx
    cases o with
    | none => rfl
    | some off =>
      have := h.flc s off x hx
      simp only [At]
      rw [if_neg (by omega)]
  obtain ⟨g', h1, h2, h3, h4⟩ := h.bx b cs hb
  rw [hg] at h1; cases h1
  refine ⟨⟨h.defers, h.size, fun s v hv => ?_, h.cap, h.flc, fun c ds hc => ?_, fun c c' k k1 k2 => h.inj c c' k (hsub c k k1).2 (hsub c' k k2).2, fun c hc => ?_, fun s o e z hx => ?_, fun s o s' o' x x' y y' k k1 k2 k3 k4 k5 k6 => ?_, h.lt, h.sub, h.below, h.room, h.mon⟩, ⟨fun k hk => ?_, fun k hk => ?_, fun k j hk => ?_, fun c k hc hk => ?_, fun s o x u k hx hu hk e => ?_⟩⟩
  · simp only [FS.noB] at hv
    cases hs : st.tm s with
    | none => rw [hs] at hv; cases hv
    | some v' =>
      rw [hs] at hv
      simp only at hv
      split at hv
      · cases hv
      · rename_i hne
        cases hv
        obtain ⟨u, q1, q2⟩ := h.tm s v hs
        exact ⟨u, q1, q2.keep (fun _ _ h => h) (fun c k hc hk => by
          have hcb : c ≠ b := fun e => hne (by rw [← e]; exact hc)
          show (if c = b then none else ρ c) = some k
          rw [if_neg hcb]; exact hk) (fun _ _ _ => rfl)⟩
  · simp only [FS.noB] at hc
    split at hc
    · cases hc
    · rename_i hne
      obtain ⟨k, q1, q2, q3, q4⟩ := h.bx c ds hc
      exact ⟨k, by rw [if_neg hne]; exact q1, q2, q3.keep (fun _ _ h => h) hrow (fun _ _ _ => rfl) rfl, q4⟩
  · simp only [FS.noB] at hc
    split at hc
    · rename_i e; rw [if_pos e]
    · rename_i e; rw [if_neg e]; exact h.nob c hc
  · obtain ⟨u, q1, q2⟩ := h.fl s o e z hx
    exact ⟨u, by rw [hat s o _ hx]; exact q1, own_keep q2 (fun _ _ => rfl) (fun _ _ _ h => h) (fun k c _ hc => (hsub c k hc).2) (fun _ _ h => h) (fun _ _ _ => rfl)⟩
  · rw [hat s o _ k1] at k3
    rw [hat s' o' _ k2] at k4
    exact h.apart s o s' o' x x' y y' k k1 k2 k3 k4 k5 k6
  · rw [hk]; exact h3.lt
  · rw [hk]; exact h2
  · rw [hk]; exact h4 j
  · obtain ⟨q1, q2⟩ := hsub c k hc
    rw [hk] at q2
    exact q1 (h.inj c b g q2 hg)
  · rw [hat s o x hx] at hu
    obtain ⟨u', q1, q2⟩ := h.fl s o x.1 x.2 hx
    rw [q1] at hu; cases hu
    obtain ⟨n, xs, _, q3, _⟩ := q2
    exact (q3 k hk).2.2 b (by rw [e]; exact hg)
/-- It is taken back. -/
theorem RelI.back (h : RelI base w0 I0 N I ρ st a w) {G : Nat → Prop} (hh : HidB base I ρ st a w G) {b g : Nat} {cs : List D} (hG : G g) (hb : st.bx b = none) (hlt : 200000 ≤ b) (hbox : ∀ ρ', BoxAt I ρ' w b g cs) :
    RelI base w0 I0 N I (fun c => if c = b then some g else ρ c) (st.setB b cs) a w := by
  have hρb : ρ b = none := h.nob b hb
  have hup : ∀ c k, ρ c = some k → (if c = b then some g else ρ c) = some k := fun c k hk => by
    rw [if_neg (fun e => by rw [e, hρb] at hk; cases hk)]; exact hk
  have hsub : ∀ c k, k ≠ g → (if c = b then some g else ρ c) = some k → ρ c = some k := fun c k hne hk => by
    split at hk
    · cases hk; exact absurd rfl hne
    · exact hk
  have hat : ∀ s o x, st.fl s o = some x → At (fun c => if c = b then some g else ρ c) a.tmps w s o = At ρ a.tmps w s o := by
    intro s o x hx
    cases o with
    | none => rfl
    | some off =>
      have := h.flc s off x hx
      simp only [At]
      rw [if_neg (by omega)]
  refine ⟨h.defers, h.size, fun s v hv => ?_, h.cap, h.flc, fun c ds hc => ?_, fun c c' k k1 k2 => ?_, fun c hc => ?_, fun s o e z hx => ?_, fun s o s' o' x x' y y' k k1 k2 k3 k4 k5 k6 => ?_, h.lt, h.sub, h.below, h.room, h.mon⟩
  · obtain ⟨u, q1, q2⟩ := h.tm s v hv
    exact ⟨u, q1, q2.keep (fun _ _ h => h) (fun c k _ hk => hup c k hk) (fun _ _ _ => rfl)⟩
  · simp only [FS.setB] at hc
    split at hc
    · rename_i e; subst e; cases hc
      exact ⟨g, by rw [if_pos rfl], hh.nb g hG, hbox _, fun j => hh.nI g j hG⟩
    · obtain ⟨k, q1, q2, q3, q4⟩ := h.bx c ds hc
      exact ⟨k, hup c k q1, q2, q3.keep (fun _ _ h => h) (fun c' k' _ hk' => hup c' k' hk') (fun _ _ _ => rfl) rfl, q4⟩
  · by_cases e1 : c = b
    · by_cases e2 : c' = b
      · rw [e1, e2]
      · rw [if_pos e1] at k1; cases k1
        rw [if_neg e2] at k2
        exact absurd hG (hh.nr c' g k2)
    · rw [if_neg e1] at k1
      by_cases e2 : c' = b
      · rw [if_pos e2] at k2; cases k2
        exact absurd hG (hh.nr c g k1)
      · rw [if_neg e2] at k2
        exact h.inj c c' k k1 k2
  · simp only [FS.setB] at hc
    split at hc
    · cases hc
    · rename_i e; rw [if_neg e]; exact h.nob c hc
  · obtain ⟨u, q1, q2⟩ := h.fl s o e z hx
    exact ⟨u, by rw [hat s o _ hx]; exact q1, own_keep q2 (fun _ _ => rfl) (fun _ _ _ h => h) (fun k c hk hc => hsub c k (fun e' => hh.nf s o (e, z) u k hx q1 hk (e' ▸ hG)) hc) (fun _ _ h => h) (fun _ _ _ => rfl)⟩
  · rw [hat s o _ k1] at k3
    rw [hat s' o' _ k2] at k4
    exact h.apart s o s' o' x x' y y' k k1 k2 k3 k4 k5 k6
/-- A block is made that nobody knows. -/
theorem RelI.fresh (h : RelI base w0 I0 N I ρ st a w) {G : Nat → Prop} (hh : HidB base I ρ st a w G) (o : Obj) :
    RelI base w0 I0 N I ρ st a (w.alloc o) ∧ HidB base I ρ st a (w.alloc o) (fun k => G k ∨ k = w.heap.size) := by
  have hbel : Below w.heap.size w (w.alloc o) := (Below.refl _ _).alloc (Nat.le_refl _) _
  have hsz : (w.alloc o).heap.size = w.heap.size + 1 := by simp
  have hat : ∀ s p, At ρ a.tmps (w.alloc o) s p = At ρ a.tmps w s p := by
    intro s p
    cases p with
    | none => rfl
    | some off =>
      simp only [At]
      cases hr : ρ s with
      | none => rfl
      | some g => exact hbel.cell (p := ⟨g, off, none⟩) (h.boxLt hr).2
  refine ⟨h.later0 hbel, ⟨fun k hk => ?_, fun k hk => ?_, fun k j hk hi => ?_, fun c k hc hk => ?_, fun s p x u k hx hu hg hk => ?_⟩⟩
  · rw [hsz]
    rcases hk with q | q
    · have := hh.lt k q; omega
    · omega
  · rcases hk with q | q
    · exact hh.nb k q
    · intro hb; have := h.room k hb; omega
  · rcases hk with q | q
    · exact hh.nI k j q hi
    · have := h.lt k j hi; omega
  · rcases hk with q | q
    · exact hh.nr c k hc q
    · have := (h.boxLt hc).2; omega
  · rw [hat] at hu
    rcases hk with q | q
    · exact hh.nf s p x u k hx hu hg q
    · obtain ⟨u', q1, q2⟩ := h.fl s p x.1 x.2 hx
      rw [q1] at hu; cases hu
      have := (own_lt q2 k hg).2; omega
end
end Go.Proofs.Ytnncmddmjpocfab.ab

/-
  Ranging over a map of one's own: the operations. Nothing of the program.
-/
namespace Go.Proofs.Ytnncmddmjpocfab.ab
set_option linter.unusedSimpArgs false
set_option linter.unusedVariables false
open Go Go.RowKit Go.MapKept Go.ChangeMaps

/-- An iterator under way: nothing was laid into the map since. -/
structure Iter (w : World) (gm g : Nat) (es : Array MapEntry) (clock : Nat) (seen : Array Nat) : Prop where
  map : w.heap[gm]? = some (.map es clock)
  it : ∃ c0, w.heap[g]? = some (.mapIter (some gm) clock seen c0) ∧ clock ≤ c0
  st : Stamped es clock
theorem Iter.ne {w : World} {gm g : Nat} {es : Array MapEntry} {clock : Nat} {seen : Array Nat} (h : Iter w gm g es clock seen) : g ≠ gm := by
  obtain ⟨c0, h1, _⟩ := h.it
  intro e
  rw [e, h.map] at h1
  cases h1
theorem Iter.kept {w w' : World} {gm g : Nat} {es : Array MapEntry} {clock : Nat} {seen : Array Nat} (h : Iter w gm g es clock seen) (h1 : w'.heap[gm]? = w.heap[gm]?) (h2 : w'.heap[g]? = w.heap[g]?) : Iter w' gm g es clock seen := by
  obtain ⟨c0, q1, q2⟩ := h.it
  exact ⟨h1.trans h.map, ⟨c0, h2.trans q1, q2⟩, h.st⟩
theorem iter_next {P : Program} {w : World} {gm g : Nat} {es : Array MapEntry} {clock : Nat} {seen : Array Nat} (h : Iter w gm g es clock seen) (ty : TypeId) :
    (Instr.next (.pointer (some ⟨g, 0, none⟩)) false ty).run P w = .ok (.tuple #[.bool false]) w ∨
    ∃ e ∈ es.toList, ∃ w', (Instr.next (.pointer (some ⟨g, 0, none⟩)) false ty).run P w = .ok (.tuple #[.bool true, e.key, e.val]) w' ∧ Iter w' gm g es clock (seen.push e.born) ∧
      (leftOf es (seen.push e.born)).size < (leftOf es seen).size ∧ w.grownBy w' (some g) ∧ (Instr.entry (.pointer (some ⟨g, 0, none⟩))).run P w' = .ok (.tuple #[e.key, e.val]) w' := by
  have hne := h.ne
  obtain ⟨c0, hr, hsc⟩ := h.it
  have hb := h.map
  rcases run_next_at (P := P) w ty g gm clock c0 seen es clock hr hb h.st.1 hsc with ⟨h0, hrun⟩ | ⟨e, he, w1, hal, hrun⟩
  · exact .inl hrun
  · obtain ⟨hem, hes⟩ := mem_left he
    have hr1 : w1.heap[g]? = some (.mapIter (some gm) clock seen c0) := by rcases hal with rfl | rfl <;> exact hr
    have hb1 : w1.heap[gm]? = some (.map es clock) := by rcases hal with rfl | rfl <;> exact hb
    have hset := heap_set (o' := .mapIter (some gm) clock (seen.push e.born) clock) hr1
    have hb' : (setBlock w1 g (.mapIter (some gm) clock (seen.push e.born) clock)).heap[gm]? = some (.map es clock) := (hset.2 gm (fun e1 => hne e1.symm)).trans hb1
    refine .inr ⟨e, hem, _, hrun, ⟨hb', ⟨clock, hset.1, Nat.le_refl _⟩, h.st⟩, left_shrinks es seen e he, ?_, run_entry_at _ g gm clock seen es clock e hset.1 hb' hem h.st.2.1⟩
    rcases hal with rfl | rfl <;> exact ⟨rfl, rfl, rfl, by simp [setBlock], fun i _ hi => hset.2 i (fun e1 => hi (by rw [e1]))⟩
theorem iter_range {P : Program} {w : World} {t k e : TypeId} {gm : Nat} {es : Array MapEntry} {clock : Nat} (ht : P.underlying t = some (.map k e)) (hb : w.heap[gm]? = some (.map es clock)) (hs : Stamped es clock) :
    ∃ o, (Instr.range t (.map (some gm))).run P w = .ok (.pointer (some ⟨w.heap.size, 0, none⟩)) (w.alloc o) ∧ Iter (w.alloc o) gm w.heap.size es clock #[] := by
  have hlt : gm < w.heap.size := (Array.getElem?_eq_some_iff.1 hb).1
  exact ⟨_, run_range_map w t k e gm es clock ht hb, ((MapKept.heap_alloc w _).2 gm hlt).trans hb, ⟨clock, (MapKept.heap_alloc w _).1, Nat.le_refl _⟩, hs⟩
end Go.Proofs.Ytnncmddmjpocfab.ab

/-
  Ranging over a map of one's own: a piece of plain code, and that it holds of the model's. Nothing of the program.
-/
namespace Go.Proofs.Ytnncmddmjpocfab.ab
set_option linter.unusedVariables false
set_option linter.unusedSimpArgs false
open Go Go.RowKit Go.MapKept Go.ChangeMaps

/-- Its slots: the map; what is moved; the iterator; what it yields, and whether; the entry; its key; the variable. -/
structure RngP where
  t : Nat
  d1 : Nat
  d2 : Nat
  d3 : Nat
  d4 : Nat
  d5 : Nat
  d6 : Nat
  v : Nat
def offTs {β : Type} (l : List (Nat × β)) : List Nat → List (Nat × β)
  | [] => l
  | d :: r => offT (offTs l r) d
def offFs {β : Type} (l : List ((Nat × Option Nat) × β)) (ds : List Nat) : List ((Nat × Option Nat) × β) := offP l (ds.map fun d => (d, none))
/-- Slots that do not speak of a box. -/
def noRef (b : Nat) : List (Nat × D) → List (Nat × D)
  | [] => []
  | (s, v) :: r => if refD v = some b then offT (noRef b r) s else (s, v) :: noRef b r
theorem look_offs {β : Type} (l : List (Nat × β)) (s : Nat) : ∀ ds : List Nat, look (offTs l ds) s = if s ∈ ds then none else look l s
  | [] => by simp [offTs]
  | d :: r => by
    simp only [offTs, look_off, look_offs l s r, List.mem_cons]
    by_cases h1 : s = d
    · simp [h1]
    · by_cases h2 : s ∈ r <;> simp [h1, h2]
theorem lookF_offs {β : Type} (l : List ((Nat × Option Nat) × β)) (ds : List Nat) (s : Nat) (o : Option Nat) : lookF (offFs l ds) (s, o) = if s ∈ ds ∧ o = none then none else lookF l (s, o) := by
  unfold offFs
  rw [lookF_off]
  by_cases h : s ∈ ds ∧ o = none
  · rw [if_pos h, if_pos (by obtain ⟨h1, rfl⟩ := h; exact List.mem_map.2 ⟨s, h1, rfl⟩)]
  · rw [if_neg h, if_neg (fun q => h (by obtain ⟨d, h1, h2⟩ := List.mem_map.1 q; cases h2; exact ⟨h1, rfl⟩))]
theorem look_noRef (b s : Nat) : ∀ l : List (Nat × D), look (noRef b l) s = match look l s with | some v => if refD v = some b then none else some v | none => none
  | [] => rfl
  | (k, v) :: r => by
    simp only [noRef, look]
    by_cases hk : k = s
    · subst hk
      rw [if_pos rfl]
      by_cases hv : refD v = some b
      · rw [if_pos hv, look_off, if_pos rfl]; simp [hv]
      · rw [if_neg hv]; simp [look, hv]
    · rw [if_neg hk]
      by_cases hv : refD v = some b
      · rw [if_pos hv, look_off, if_neg (fun e => hk e.symm)]; exact look_noRef b s r
      · rw [if_neg hv]; simp only [look]; rw [if_neg hk]; exact look_noRef b s r
/-- What is known ahead of a round: the map, as it is; the iterator. -/
def rngSt (p : RngP) (gm g b : Nat) (st : St) : St := ⟨(p.t, vD (.map (some gm))) :: (p.d2, vD (.pointer (some ⟨g, 0, none⟩))) :: offTs (noRef b st.tm) [p.d1], offT st.bx b, offFs st.fl [p.d1, p.d2]⟩
def rngBody (p : RngP) (k : Int) (st : St) : St := ⟨(p.v, vD (.int .i64 k)) :: offTs st.tm [p.d3, p.d4, p.d5, p.d6], st.bx, offFs st.fl [p.d3, p.d4, p.d5, p.d6, p.v]⟩
def rngOut (p : RngP) (b : Nat) (cs : List D) (st : St) : St := ⟨(p.t, hD b) :: offTs st.tm [p.d3, p.d4], (b, cs) :: st.bx, offFs st.fl [p.d3, p.d4]⟩
def rngThn (J : St → Prop) (Q : AX → St → Prop) : AX → St → Prop := fun e st => match e with
  | none => ∃ st3, Le st st3 ∧ J st3
  | some none => Q (some none) st
  | some (some _) => False
/-- 'for v = range m { .. }': m of one's own, with its box's number; the body knows nothing of it but that it is m. -/
def cRng (p : RngP) (body : IC) : IC := fun st Q => ∃ b cs, look st.tm p.t = some (hD b) ∧ look st.bx b = some cs ∧
  ∀ gm g : Nat, ∃ J : St → Prop, (∃ st0, Le (rngSt p gm g b st) st0 ∧ J st0) ∧ (∀ st', J st' → look st'.tm p.t = some (vD (.map (some gm))) ∧ look st'.tm p.d2 = some (vD (.pointer (some ⟨g, 0, none⟩))) ∧ look st'.bx b = none) ∧
    (∀ st' k v, J st' → mlk cs k = some v → body (rngBody p k st') (rngThn J Q)) ∧ ∀ st', J st' → Q none (rngOut p b cs st')

section
variable {base : Nat → Prop} {w0 : World} {I0 : Still} {N : Nat} {I : Still} {ρ : Nat → Option Nat} {st : FS} {a : Act} {w : World} {P : Program}
theorem HidB.put {G : Nat → Prop} (hh : HidB base I ρ st a w G) (d : Nat) (v : Option D) (u : Value) : HidB base I ρ (st.setT d v) (a.put (some d) u) w G := by
  refine ⟨hh.lt, hh.nb, hh.nI, hh.nr, fun s o x y g hf hu => ?_⟩
  simp only [FS.setT] at hf
  split at hf
  · cases hf
  · rename_i hne
    rw [at_put d u s o hne] at hu
    exact hh.nf s o x y g hf hu
theorem HidB.less {G : Nat → Prop} (hh : HidB base I ρ st a w G) {st' : FS} (hf : ∀ s o x, st'.fl s o = some x → st.fl s o = some x) : HidB base I ρ st' a w G :=
  ⟨hh.lt, hh.nb, hh.nI, hh.nr, fun s o x y g h hu => hh.nf s o x y g (hf s o x h) hu⟩
/-- What lies in a slot is known. -/
theorem RelI.know (h : RelI base w0 I0 N I ρ st a w) {t : Nat} {v : D} {u : Value} (hu : a.tmps[t]? = some u) (hv : AVRep I ρ w v u) : RelI base w0 I0 N I ρ { st with tm := fun s => if s = t then some v else st.tm s } a w :=
  ⟨h.defers, h.size, fun s x hx => by
    simp only at hx
    split at hx
    · rename_i e; cases hx; exact ⟨u, e ▸ hu, hv⟩
    · exact h.tm s x hx, h.cap, h.flc, h.bx, h.inj, h.nob, h.fl, h.apart, h.lt, h.sub, h.below, h.room, h.mon⟩
theorem tmps_put {a : Act} {d t : Nat} {u : Value} (h : t ≠ d) : (a.put (some d) u).tmps[t]? = a.tmps[t]? := by
  simp only [Act.put]
  rw [Array.getElem?_setIfInBounds, if_neg (fun e => h e.symm)]
theorem eval_tmp {a : Act} {t : Nat} {u : Value} (h : a.tmps[t]? = some u) : a.eval (.tmp t) = u := by simp [Act.eval, Array.getD_eq_getD_getElem?, h]
theorem wpList_val {o : Oper} {l : List Oper} {ops : Array Oper} {Q : Exit → Act → World → Prop} {w' : World} {d : Nat} {u : Value} (hg : o.guard = none) (hd : o.dst = some d) (he : (execOp a.eval o).run P w = .ok (.value u) w') (h : wpList P ops Q l (a.put (some d) u) w') : wpList P ops Q (o :: l) a w := by
  refine wpList_step fun K hK => ?_
  rw [if_pos (wanted_none hg _)]
  unfold Oper.wp
  rw [he]
  show K (a.put o.dst u) w'
  rw [hd]
  exact hK _ _ h
/-- A loop: a measure. -/
theorem wp_loop_of {x : Code} {Q : Exit → Act → World → Prop} {M : Act → World → Nat → Prop} (h : ∀ n a w, M a w n → x.wp P (Exit.then (fun a' w' => ∃ m, m < n ∧ M a' w' m) Q) a w) {n0 : Nat} {a : Act} {w : World} (h0 : M a w n0) : (Code.loop x).wp P Q a w := by
  intro b k cs
  have key : ∀ n a w, M a w n → ∃ e a' w', Q e a' w' ∧ Arrives P (lone (b.at a (.code x :: .inLoop x :: k)) cs w) b k cs e a' w' := by
    intro n
    induction n using Nat.strongRecOn with
    | _ n ih =>
      intro a w hM
      obtain ⟨e, a₁, w₁, hq, harr⟩ := h n a w hM b (.inLoop x :: k) cs
      cases e with
      | normal =>
        obtain ⟨m, hmn, hM⟩ := hq
        obtain ⟨e₂, a₂, w₂, hq₂, harr₂⟩ := ih m hmn a₁ w₁ hM
        exact ⟨e₂, a₂, w₂, hq₂, .of_steps (Steps.trans harr (.one step_inLoop)) harr₂⟩
      | exit id => exact ⟨_, a₁, w₁, hq, .pass (x := .inLoop x) rfl (fun _ _ => .inl (by simp)) harr⟩
      | goto l => exact ⟨_, a₁, w₁, hq, .pass (x := .inLoop x) rfl (fun _ _ => .inl (by simp)) harr⟩
      | ret => exact ⟨_, a₁, w₁, hq, .pass (x := .inLoop x) rfl (fun _ _ => .inl (by simp)) harr⟩
      | panic ch => exact ⟨_, a₁, w₁, hq, .pass (x := .inLoop x) rfl (fun _ _ => .inl (by simp)) harr⟩
      | outgrown => exact ⟨_, a₁, w₁, hq, .pass (x := .inLoop x) rfl (fun _ _ => .inl (by simp)) harr⟩
  obtain ⟨e, a', w', hq, harr⟩ := key n0 a w h0
  exact ⟨e, a', w', hq, .of_steps (.one step_loop) harr⟩
end

/-- The operations of it. -/
structure RngOps (P : Program) (N : Nat) (p : RngP) (o1 o2 o3 o4 o5 o6 o7 : Oper) : Prop where
  m : o1.op = .move (.tmp p.t) ∧ o1.dst = some p.d1 ∧ o1.guard = none
  r : (∃ ty k e, o2.op = .range ty (.tmp p.d1) ∧ P.underlying ty = some (.map k e)) ∧ o2.dst = some p.d2 ∧ o2.guard = none
  n : o3.op = .next (.tmp p.d2) false ∧ o3.dst = some p.d3 ∧ o3.guard = none
  x : o4.op = .extract (.tmp p.d3) 0 ∧ o4.dst = some p.d4 ∧ o4.guard = none
  e : o5.op = .entry (.tmp p.d2) ∧ o5.dst = some p.d5 ∧ o5.guard = none
  k : o6.op = .extract (.tmp p.d5) 0 ∧ o6.dst = some p.d6 ∧ o6.guard = none
  v : o7.op = .assign (.tmp p.d6) ∧ o7.dst = some p.v ∧ o7.guard = none
  lt : p.d1 < N ∧ p.d2 < N ∧ p.d3 < N ∧ p.d4 < N ∧ p.d5 < N ∧ p.d6 < N ∧ p.v < N
  ne : p.t ≠ p.d1 ∧ p.t ≠ p.d2 ∧ p.t ≠ p.d3 ∧ p.t ≠ p.d4 ∧ p.d2 ≠ p.d3 ∧ p.d2 ≠ p.d4 ∧ p.v ≠ p.d5

section
variable {P : Program} {N : Nat} {base : Nat → Prop} {w0 : World} {I0 : Still}
set_option maxHeartbeats 2000000 in
theorem rng_sound {p : RngP} {o1 o2 o3 o4 o5 o6 o7 : Oper} (ho : RngOps P N p o1 o2 o3 o4 o5 o6 o7) {i1 i2 i3 id id2 : Nat} {ops1 ops2 ops3 : Array Oper} (hl1 : ops1.toList = [o1, o2]) (hl2 : ops2.toList = [o3, o4]) (hl3 : ops3.toList = [o5, o6, o7]) {x : Code} {ix : IC}
    (hx : ∀ (base : Nat → Prop) (w0 : World) (I0 : Still) (st : St) (R : AX → St → Prop) (Q : Exit → Act → World → Prop) (a : Act) (w : World), ix st R → Rel base w0 I0 N st.F a w → (∀ e st' a' w', R e st' → Rel base w0 I0 N st'.F a' w' → Q (exitOf e) a' w') → x.wp P Q a w)
    {st : St} {R : AX → St → Prop} {Q : Exit → Act → World → Prop} {a : Act} {w : World} (h : cRng p ix st R) (hr : Rel base w0 I0 N st.F a w) (hQ : ∀ e st' a' w', R e st' → Rel base w0 I0 N st'.F a' w' → Q (exitOf e) a' w') :
    (Code.seq (.region i1 ops1 false) (.block id (.loop (.seq (.region i2 ops2 false) (.seq (.cond (.tmp p.d4) .skip (.exit id)) (.block id2 (.seq (.region i3 ops3 false) x))))))).wp P Q a w := by
  obtain ⟨b, cs, ht, hb, h⟩ := h
  obtain ⟨I, ρ, hr⟩ := hr
  obtain ⟨u, hu1, hu2⟩ := hr.tm p.t _ ht
  obtain ⟨gm, hlt, hgm, rfl⟩ := hu2.invH
  obtain ⟨g', q1, q2, hbox, q4⟩ := hr.bx b cs hb
  rw [hgm] at q1; cases q1
  obtain ⟨l, es, clock, hcs, hmap, hmi⟩ := hbox.map hlt
  obtain ⟨m1, m2, m3⟩ := ho.m
  obtain ⟨⟨ty, kt, et, r1, r1'⟩, r2, r3⟩ := ho.r
  obtain ⟨n1, n2, n3⟩ := ho.n
  obtain ⟨x1, x2, x3⟩ := ho.x
  obtain ⟨e1, e2, e3⟩ := ho.e
  obtain ⟨k1, k2, k3⟩ := ho.k
  obtain ⟨v1, v2, v3⟩ := ho.v
  obtain ⟨l1, l2, l3, l4, l5, l6, l7⟩ := ho.lt
  obtain ⟨c1, c2, c3, c4, c5, c6, c7⟩ := ho.ne
  have hkey : ∀ x ∈ es.toList, ∃ k v, x.key = .int .i64 k ∧ mlk cs k = some v ∧ (Lit.int .i64 k).wf = true := fun x hx => by
    obtain ⟨k, z1, z2⟩ := hmi.2.2.2.1 x hx
    exact ⟨k, x.val, z1, by rw [hcs, mlk_enc]; exact (hmi.2.2.2.2.2 k x.val).1 ⟨x, hx, z1, rfl⟩, z2⟩
  refine wp_seq (wp_region_list ?_)
  rw [hl1]
  -- the map is moved
  refine wpList_val (w' := w) m3 m2 (u := .map (some gm)) (by simp [execOp, m1, eval_tmp hu1]) ?_
  have h1 := hr.put l1 (v := none) (u := .map (some gm)) (fun x hx => by cases hx)
  -- the iterator is made
  obtain ⟨ob, hrun, hit⟩ := iter_range (P := P) r1' hmap hmi.1
  refine wpList_val (w' := w.alloc ob) r3 r2 (u := .pointer (some ⟨w.heap.size, 0, none⟩)) (by
    have e0 : (a.put (some p.d1) (.map (some gm))).eval (.tmp p.d1) = .map (some gm) := eval_put_same (by rw [hr.size]; exact l1)
    simp only [execOp, r1, e0, Sem.run_bind, hrun, Result.andThen_ok, Sem.run_pure]) ?_
  have hb1 : (st.F.setT p.d1 none).bx b = some cs := hb
  obtain ⟨h2, hh2⟩ := h1.aside hb1 hlt hgm
  obtain ⟨h3, hh3⟩ := h2.fresh hh2 ob
  generalize hg : w.heap.size = g at *
  have h4 := h3.put l2 (v := some (vD (.pointer (some ⟨g, 0, none⟩)))) (u := .pointer (some ⟨g, 0, none⟩)) (fun x hx => by cases hx; exact .inl (.inl (CRep.v rfl)))
  have hh4 := hh3.put p.d2 (some (vD (.pointer (some ⟨g, 0, none⟩)))) (.pointer (some ⟨g, 0, none⟩))
  have hut : ((a.put (some p.d1) (.map (some gm))).put (some p.d2) (.pointer (some ⟨g, 0, none⟩))).tmps[p.t]? = some (.map (some gm)) := by rw [tmps_put c2, tmps_put c1, hu1]
  have h5 := h4.know hut (v := vD (.map (some gm))) (.inl (.inl (CRep.v rfl)))
  generalize hG : (fun k => k = gm ∨ k = g) = G at *
  have Ggm : G gm := by rw [← hG]; exact .inl rfl
  have Gg : G g := by rw [← hG]; exact .inr rfl
  obtain ⟨J, ⟨st0, hle, hJ0⟩, hJ1, hJ2, hJ3⟩ := h gm g
  generalize hρ2 : (fun c => if c = b then none else ρ c) = ρ2 at *
  have hbx6 : (rngSt p gm g b st).F.bx = (((st.F.setT p.d1 none).noB b).setT p.d2 (some (vD (.pointer (some ⟨g, 0, none⟩))))).bx := by
    funext c
    show look (offT st.bx b) c = if c = b then none else look st.bx c
    rw [look_off]
  have htm6 : ∀ s v, (rngSt p gm g b st).F.tm s = some v → (if s = p.t then some (vD (.map (some gm))) else (((st.F.setT p.d1 none).noB b).setT p.d2 (some (vD (.pointer (some ⟨g, 0, none⟩))))).tm s) = some v := fun s v hs => by
    simp only [rngSt, St.F, look, look_offs, look_noRef, List.mem_singleton] at hs
    simp only [FS.setT, FS.noB, St.F]
    by_cases z1 : p.t = s
    · rw [if_pos z1] at hs; rw [if_pos z1.symm]; exact hs
    · rw [if_neg z1] at hs; rw [if_neg (fun e => z1 e.symm)]
      by_cases z2 : p.d2 = s
      · rw [if_pos z2] at hs; rw [if_pos z2.symm]; exact hs
      · rw [if_neg z2] at hs; rw [if_neg (fun e => z2 e.symm)]
        by_cases z3 : s = p.d1
        · rw [if_pos z3] at hs; cases hs
        · rw [if_neg z3] at hs; rw [if_neg z3]; exact hs
  have hfl6 : ∀ s o x, (rngSt p gm g b st).F.fl s o = some x → (((st.F.setT p.d1 none).noB b).setT p.d2 (some (vD (.pointer (some ⟨g, 0, none⟩))))).fl s o = some x := fun s o x hs => by
    simp only [rngSt, St.F, lookF_offs, List.mem_cons, List.not_mem_nil, or_false] at hs
    simp only [FS.setT, FS.noB, St.F]
    split at hs
    · cases hs
    · rename_i z
      rw [if_neg (fun q => z ⟨.inr q.1, q.2⟩), if_neg (fun q => z ⟨.inl q.1, q.2⟩)]
      exact hs
  have h6 : RelI base w0 I0 N I ρ2 (rngSt p gm g b st).F _ _ := h5.less htm6 hbx6 hfl6
  have hh6 : HidB base I ρ2 (rngSt p gm g b st).F _ _ G := hh4.less hfl6
  obtain ⟨I7, ρ7, h7⟩ := hle _ _ _ _ _ _ ⟨I, ρ2, h6.hide hh6⟩
  obtain ⟨h8, hh8, _⟩ := h6.shown hh6 h7
  -- the loop
  show (Code.block id _).wp P Q _ _
  refine wp_block (wp_loop_of (M := fun a w n => ∃ st' I ρ seen, J st' ∧ RelI base w0 I0 N I ρ st'.F a w ∧ HidB base I ρ st'.F a w G ∧ Iter w gm g es clock seen ∧ (leftOf es seen).size = n) ?_ ⟨st0, I7, ρ7, #[], hJ0, h8, hh8, hit, rfl⟩)
  clear h8 hh8 h7 hh6 h6 hfl6 htm6 hbx6 h5 hh4 h4 hh3 h3 hh2 h2 hit hrun h1 hbox hr hu1 hut
  rintro n a w ⟨st', I, ρ, seen, hJ, hr, hh, hi, rfl⟩
  obtain ⟨ht', hd2', hb'⟩ := hJ1 st' hJ
  obtain ⟨ut, hut, htt⟩ := hr.tm p.t _ ht'
  obtain rfl : ut = .map (some gm) := plain_of htt
  obtain ⟨ud, hud, hdd⟩ := hr.tm p.d2 _ hd2'
  obtain rfl : ud = .pointer (some ⟨g, 0, none⟩) := plain_of hdd
  refine wp_seq (wp_region_list ?_)
  rw [hl2]
  rcases iter_next (P := P) hi o3.type with hrun | ⟨e, he, w1, hrun, hit, hsz, hgr, hent⟩
  · -- none is left
    refine wpList_val (w' := w) n3 n2 (u := .tuple #[.bool false]) (by simp only [execOp, n1, eval_tmp hud, Sem.run_bind, hrun, Result.andThen_ok, Sem.run_pure]) ?_
    have h1 := hr.put l3 (v := none) (u := .tuple #[.bool false]) (fun x hx => by cases hx)
    have hh1 := hh.put p.d3 none (.tuple #[.bool false])
    refine wpList_val (w' := w) x3 x2 (u := .bool false) (by
      have e0 : (a.put (some p.d3) (.tuple #[.bool false])).eval (.tmp p.d3) = .tuple #[.bool false] := eval_put_same (by rw [hr.size]; exact l3)
      simp only [execOp, x1, e0, Sem.run_bind, Result.andThen_ok, Sem.run_pure]; rfl) ?_
    have h2 := h1.put l4 (v := none) (u := .bool false) (fun x hx => by cases hx)
    have hh2 := hh1.put p.d4 none (.bool false)
    show (Code.seq _ _).wp P _ _ _
    refine wp_seq (wp_cond (t := false) (eval_put_same (by rw [h1.size]; exact l4)) ?_)
    refine wp_exit ?_
    show Exit.inBlock id Q (.exit id) _ _
    simp only [Exit.inBlock, if_true]
    have h3 := h2.back hh2 (b := b) (cs := cs) Ggm hb' hlt (fun ρ' => .inr (.inr ⟨hlt, l, es, clock, hcs, hi.map, hmi⟩))
    have h4 := h3.know (t := p.t) (v := hD b) (u := .map (some gm)) (by rw [tmps_put c4, tmps_put c3, hut]) (.inr (.inr (.inl (.inr (.inr (.inl ⟨b, gm, rfl, hlt, if_pos rfl, rfl⟩))))))
    refine hQ none (rngOut p b cs st') _ _ (hJ3 st' hJ) ⟨_, _, h4.less (fun s v hs => ?_) ?_ (fun s o x hs => ?_)⟩
    · simp only [rngOut, St.F, look, look_offs, List.mem_cons, List.not_mem_nil, or_false] at hs
      simp only [FS.setT, FS.setB, St.F]
      by_cases z1 : p.t = s
      · rw [if_pos z1] at hs; rw [if_pos z1.symm]; exact hs
      · rw [if_neg z1] at hs; rw [if_neg (fun e => z1 e.symm)]
        split at hs
        · cases hs
        · rename_i z
          rw [if_neg (fun q => z (.inr q)), if_neg (fun q => z (.inl q))]; exact hs
    · funext c
      show look ((b, cs) :: st'.bx) c = if c = b then some cs else look st'.bx c
      simp only [look]
      by_cases z : b = c
      · rw [if_pos z, if_pos z.symm]
      · rw [if_neg z, if_neg (fun e => z e.symm)]
    · simp only [rngOut, St.F, lookF_offs, List.mem_cons, List.not_mem_nil, or_false] at hs
      simp only [FS.setT, FS.setB, St.F]
      split at hs
      · cases hs
      · rename_i z
        rw [if_neg (fun q => z ⟨.inr q.1, q.2⟩), if_neg (fun q => z ⟨.inl q.1, q.2⟩)]
        exact hs
  · -- one more
    obtain ⟨k, kv, hek, hml, hwf⟩ := hkey e he
    obtain ⟨h0, hh0⟩ := hr.turned hh Gg hgr
    refine wpList_val (w' := w1) n3 n2 (u := .tuple #[.bool true, e.key, e.val]) (by simp only [execOp, n1, eval_tmp hud, Sem.run_bind, hrun, Result.andThen_ok, Sem.run_pure]) ?_
    have h1 := h0.put l3 (v := none) (u := .tuple #[.bool true, e.key, e.val]) (fun x hx => by cases hx)
    have hh1 := hh0.put p.d3 none (.tuple #[.bool true, e.key, e.val])
    refine wpList_val (w' := w1) x3 x2 (u := .bool true) (by
      have e0 : (a.put (some p.d3) (.tuple #[.bool true, e.key, e.val])).eval (.tmp p.d3) = .tuple #[.bool true, e.key, e.val] := eval_put_same (by rw [hr.size]; exact l3)
      simp only [execOp, x1, e0, Sem.run_bind, Result.andThen_ok, Sem.run_pure]; rfl) ?_
    have h2 := h1.put l4 (v := none) (u := .bool true) (fun x hx => by cases hx)
    have hh2 := hh1.put p.d4 none (.bool true)
    show (Code.seq _ _).wp P _ _ _
    refine wp_seq (wp_cond (t := true) (eval_put_same (by rw [h1.size]; exact l4)) ?_)
    refine wp_skip ?_
    show (Code.block id2 _).wp P _ _ _
    refine wp_block (wp_seq (wp_region_list ?_))
    rw [hl3]
    have hud2 : ((a.put (some p.d3) (.tuple #[.bool true, e.key, e.val])).put (some p.d4) (.bool true)).tmps[p.d2]? = some (.pointer (some ⟨g, 0, none⟩)) := by rw [tmps_put c6, tmps_put c5, hud]
    refine wpList_val (w' := w1) e3 e2 (u := .tuple #[e.key, e.val]) (by simp only [execOp, e1, eval_tmp hud2, Sem.run_bind, hent, Result.andThen_ok, Sem.run_pure]) ?_
    have h3 := h2.put l5 (v := none) (u := .tuple #[e.key, e.val]) (fun x hx => by cases hx)
    have hh3 := hh2.put p.d5 none (.tuple #[e.key, e.val])
    refine wpList_val (w' := w1) k3 k2 (u := .int .i64 k) (by
      have e0 : (((a.put (some p.d3) (.tuple #[.bool true, e.key, e.val])).put (some p.d4) (.bool true)).put (some p.d5) (.tuple #[e.key, e.val])).eval (.tmp p.d5) = .tuple #[e.key, e.val] := eval_put_same (by rw [h2.size]; exact l5)
      simp only [execOp, k1, e0, Sem.run_bind, Result.andThen_ok, Sem.run_pure]; rw [hek]; rfl) ?_
    have h4 := h3.put l6 (v := none) (u := .int .i64 k) (fun x hx => by cases hx)
    have hh4 := hh3.put p.d6 none (.int .i64 k)
    refine wpList_val (w' := w1) v3 v2 (u := .int .i64 k) (by
      have e0 := eval_put_same (a := (((a.put (some p.d3) (.tuple #[.bool true, e.key, e.val])).put (some p.d4) (.bool true)).put (some p.d5) (.tuple #[e.key, e.val]))) (d := p.d6) (v := .int .i64 k) (by rw [h3.size]; exact l6)
      simp only [execOp, v1, e0, Sem.run_pure]) ?_
    have h5 := h4.put l7 (v := some (vD (.int .i64 k))) (u := .int .i64 k) (fun x hx => by cases hx; exact .inl (.inl (CRep.v rfl)))
    have hh5 := hh4.put p.v (some (vD (.int .i64 k))) (.int .i64 k)
    generalize hF : ((((st'.F.setT p.d3 none).setT p.d4 none).setT p.d5 none).setT p.d6 none).setT p.v (some (vD (.int .i64 k))) = F5 at h5 hh5
    generalize ((((a.put (some p.d3) (.tuple #[.bool true, e.key, e.val])).put (some p.d4) (.bool true)).put (some p.d5) (.tuple #[e.key, e.val])).put (some p.d6) (.int .i64 k)).put (some p.v) (.int .i64 k) = a5 at h5 hh5 ⊢
    have hfl : ∀ s o x, (rngBody p k st').F.fl s o = some x → F5.fl s o = some x := fun s o x hs => by
      rw [← hF]
      simp only [rngBody, St.F, lookF_offs, List.mem_cons, List.not_mem_nil, or_false] at hs
      simp only [FS.setT, St.F]
      split at hs
      · cases hs
      · rename_i z
        rw [if_neg (fun q => z ⟨.inr (.inr (.inr (.inr q.1))), q.2⟩), if_neg (fun q => z ⟨.inr (.inr (.inr (.inl q.1))), q.2⟩), if_neg (fun q => z ⟨.inr (.inr (.inl q.1)), q.2⟩), if_neg (fun q => z ⟨.inr (.inl q.1), q.2⟩), if_neg (fun q => z ⟨.inl q.1, q.2⟩)]
        exact hs
    have h6 : RelI base w0 I0 N I ρ (rngBody p k st').F a5 w1 := h5.less (fun s v hs => by
      rw [← hF]
      simp only [rngBody, St.F, look, look_offs, List.mem_cons, List.not_mem_nil, or_false] at hs
      simp only [FS.setT, St.F]
      by_cases z1 : p.v = s
      · rw [if_pos z1] at hs; rw [if_pos z1.symm]; exact hs
      · rw [if_neg z1] at hs; rw [if_neg (fun e => z1 e.symm)]
        split at hs
        · cases hs
        · rename_i z
          rw [if_neg (fun q => z (.inr (.inr (.inr q)))), if_neg (fun q => z (.inr (.inr (.inl q)))), if_neg (fun q => z (.inr (.inl q))), if_neg (fun q => z (.inl q))]; exact hs) (by rw [← hF]; rfl) hfl
    have hh6 : HidB base I ρ (rngBody p k st').F a5 w1 G := hh5.less hfl
    show x.wp P _ a5 w1
    refine hx _ _ _ _ _ _ a5 w1 (hJ2 st' k kv hJ hml) ⟨I, ρ, h6.hide hh6⟩ (fun ex st3 a' w' hR hr' => ?_)
    match ex, hR with
    | none, hR =>
      obtain ⟨st4, hle4, hJ4⟩ := hR
      obtain ⟨I9, ρ9, h9⟩ := hle4 _ _ _ _ _ _ hr'
      obtain ⟨h10, hh10, hbl⟩ := h6.shown hh6 h9
      exact ⟨_, hsz, st4, I9, ρ9, seen.push e.born, hJ4, h10, hh10, hit.kept (hbl gm Ggm) (hbl g Gg), rfl⟩
    | some none, hR =>
      obtain ⟨I9, ρ9, h9⟩ := hr'
      obtain ⟨h10, _, _⟩ := h6.shown hh6 h9
      exact hQ (some none) st3 a' w' hR ⟨_, _, h10⟩
    | some (some i), hR => exact hR.elim
end
end Go.Proofs.Ytnncmddmjpocfab.ab
