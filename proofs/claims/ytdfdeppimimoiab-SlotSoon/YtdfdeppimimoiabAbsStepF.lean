/-
  What each operation of the language does, as plain data: bytes out of texts; texts put together. Nothing of the program.
-/
import Derived.Test.YtdfdeppimimoiabAbsStepE
namespace Go.Proofs.Ytdfdeppimimoiab.ab
set_option linter.unusedSimpArgs false
set_option linter.unusedVariables false
open Go Go.RowKit

section
variable {P : Program} {o : Oper} {st : St}

/-- What makes memory that is only read. -/
theorem sound_fresh {d : Nat} (hd : o.dst = some d) {rs : List (Nat × D)} {v : D}
    (H : ∀ (I : Still) (ρ : Nat → Option Nat) (a : Act) (w : World), (∀ x ∈ rs, ∃ u, a.tmps[x.1]? = some u ∧ AVRep I ρ w x.2 u) → (∀ c j, I c j → c < w.heap.size) →
      ∃ u w', (execOp a.eval o).run P w = .ok (.value u) w' ∧ Below w.heap.size w w' ∧ CVRep (fun b j => I b j ∨ (w.heap.size ≤ b ∧ b < w'.heap.size)) w' v u) :
    Sound P o { rs := rs, rb := [], ws := some (d, some v), cf := [(d, none)] } := by
  intro base w0 I0 N st a w K Q hN ⟨I, ρ, h⟩ hok hK
  obtain ⟨u, w', hrun, hb, hv⟩ := H I ρ a w (fun x hx => h.tm x.1 x.2 (hok.rs x hx)) h.lt
  unfold Oper.wp
  rw [hrun]
  show K (a.put o.dst u) w'
  rw [hd]
  have h1 := (h.later hb).put (hN d hd) (v := some v) (u := u) (fun x hx => by cases hx; exact .inl hv)
  refine hK _ _ ⟨_, ρ, h1.less (fun s x hx => ?_) rfl (fun s p x hx => ?_)⟩
  · simpa [Ev.app, FS.setT] using hx
  · simp only [Ev.app, List.mem_singleton, Prod.mk.injEq] at hx
    simpa [FS.setT] using hx

/-- '[]byte(s)'. -/
theorem ok_bts {s t e : TypeId} {x : Operand} (ho : o.op = .convert s t x) (hs : P.underlying s = some .string) (ht : P.underlying t = some (.slice e)) (he : P.underlying e = some (.int .u8)) {d : Nat} (hd : o.dst = some d) {b : ByteArray} (hx : rd st x = some (vD (.string b))) (hl : b.size ≤ 140737488355328) :
    (vEv d (rds x (vD (.string b))) (sD 1 (b.data.toList.map encB))).ok st.F ∧ Sound P o (vEv d (rds x (vD (.string b))) (sD 1 (b.data.toList.map encB))) := by
  refine ⟨vEv_ok (rd_ok hx), sound_fresh hd fun I ρ ac w hr hlt => ?_⟩
  have hv := plain_of (rd_rep hx hr)
  have hrun := run_bytes_of_string (P := P) w s t e b hs ht he
  have hbel : Below w.heap.size w (w.drew.alloc (.cells (bytesRow b (grownCap w b.size 0 e)) e ((bytesRow b (grownCap w b.size 0 e)).size, (bytesRow b (grownCap w b.size 0 e)).size + 1))) := (Below.drew (Below.refl _ _)).alloc (Nat.le_refl _) _
  refine ⟨.slice (some ⟨w.heap.size, 0, none⟩) b.size (grownCap w b.size 0 e), _, by simp [execOp, ho, hv, hrun], hbel, .inl ?_⟩
  have hlen : (b.data.toList.map encB).length = b.size := by simp
  have hcell : ∀ j, (w.drew.alloc (.cells (bytesRow b (grownCap w b.size 0 e)) e ((bytesRow b (grownCap w b.size 0 e)).size, (bytesRow b (grownCap w b.size 0 e)).size + 1))).cell? ⟨w.heap.size, j, none⟩ = (bytesRow b (grownCap w b.size 0 e))[j]? := fun j => World.cell?_alloc_mark w.drew _ e _ j
  have hrow : ∀ j (hj : j < b.size), (bytesRow b (grownCap w b.size 0 e))[j]? = some (.int .u8 (b.data[j]'hj).toNat) := by
    intro j hj
    unfold bytesRow
    rw [Array.getElem?_append_left (by simpa using hj)]
    rw [Array.getElem?_map, Array.getElem?_eq_getElem (show j < b.data.size from hj)]; rfl
  have := CRep.s (I := fun c j => I c j ∨ (w.heap.size ≤ c ∧ c < (w.drew.alloc (.cells (bytesRow b (grownCap w b.size 0 e)) e ((bytesRow b (grownCap w b.size 0 e)).size, (bytesRow b (grownCap w b.size 0 e)).size + 1))).heap.size)) (w := (w.drew.alloc (.cells (bytesRow b (grownCap w b.size 0 e)) e ((bytesRow b (grownCap w b.size 0 e)).size, (bytesRow b (grownCap w b.size 0 e)).size + 1)))) (z := 1) (es := b.data.toList.map encB) (a := some ⟨w.heap.size, 0, none⟩) (cap := grownCap w b.size 0 e)
    ⟨fun i _ => .int .u8 ((b.data[i]?).getD 0).toNat, by rw [hlen]; exact grownCap_ge _ _ _ _, (fun e => by cases e), grownCap_le_maxLen w b.size 0 e (by unfold maxLen; omega), (fun x hx => by obtain ⟨y, _, rfl⟩ := List.mem_map.1 hx; rfl), fun _ => ⟨w.heap.size, 0, rfl, fun i j hi hj => ?_⟩, fun i j x l hx' hl' => ?_⟩
  · rw [hlen] at this; exact this
  · rw [hlen] at hi
    have : j = 0 := by omega
    subst this
    rw [show 0 + i * 1 + 0 = i by omega]
    refine ⟨?_, .inr ⟨Nat.le_refl _, by simp⟩⟩
    show _ = some (Value.int .u8 (((b.data[i]?).getD 0).toNat : Int))
    rw [hcell, hrow i hi, Array.getElem?_eq_getElem (show i < b.data.size from hi)]; rfl
  · rw [List.getElem?_map] at hx'
    obtain ⟨y, hy, rfl⟩ := Option.map_eq_some_iff.1 hx'
    have hj : j = 0 := by have := (List.getElem?_eq_some_iff.1 hl').1; simp [cellsD, encB] at this; omega
    subst hj
    simp only [encB, cellsD, List.getElem?_cons_zero, Option.some.injEq] at hl'
    subst hl'
    rw [Array.getElem?_toList] at hy
    show CRep _ _ (vD (.int .u8 (y.toNat : Int))) (.int .u8 (((b.data[i]?).getD 0).toNat : Int))
    rw [hy]
    exact CRep.v rfl

/-- '[]byte("..")': bytes that were just laid out. -/
theorem RelI.mark {base : Nat → Prop} {w0 : World} {I0 : Still} {N : Nat} {I : Still} {ρ : Nat → Option Nat} {fs : FS} {a : Act} {w : World} (h : RelI base w0 I0 N I ρ fs a w) {g : Nat} {C : Array Value} {e : TypeId} (hg : w.heap[g]? = some (.cells C e (0, 0))) (hb : ¬ base g) (hρ : ∀ b, ρ b ≠ some g)
    (hf : ∀ s p x u, fs.fl s p = some x → At ρ a.tmps w s p = some u → u.ownBlock ≠ some g) {w' : World} (hgr : w.grownBy w' (some g)) (hcell : ∀ b j, w'.cell? ⟨b, j, none⟩ = w.cell? ⟨b, j, none⟩) : RelI base w0 I0 N I ρ fs a w' := by
  have hat : ∀ s p, At ρ a.tmps w' s p = At ρ a.tmps w s p := by
    intro s p
    cases p with
    | none => rfl
    | some off =>
      simp only [At]
      cases hr : ρ s with
      | none => rfl
      | some g' => exact hcell g' off
  refine ⟨h.defers, h.size, fun s v hv => ?_, h.cap, h.flc, fun c ds hc => ?_, h.inj, h.nob, fun s p e' z hx => ?_, fun s p s' p' x x' y y' k h1 h2 h3 h4 h5 h6 => ?_, fun c j hi => by have := h.lt c j hi; have := hgr.size; omega, h.sub, ?_, fun b hb' => Nat.lt_of_lt_of_le (h.room b hb') hgr.size, fun b j hi => ⟨(h.mon b j hi).1, (hcell b j).trans (h.mon b j hi).2⟩⟩
  · obtain ⟨u, q1, q2⟩ := h.tm s v hv
    exact ⟨u, q1, q2.keep (fun _ _ h => h) (fun _ _ _ h => h) (fun b j _ => hcell b j)⟩
  · obtain ⟨g', q1, q2, q3, q5⟩ := h.bx c ds hc
    exact ⟨g', q1, q2, q3.keep (fun _ _ h => h) (fun _ _ _ h => h) (fun b j _ => hcell b j) (hgr.block g' (h.boxLt q1).2 (fun e => by cases e; exact hρ c q1)), q5⟩
  · obtain ⟨u, q1, q2⟩ := h.fl s p e' z hx
    exact ⟨u, by rw [hat]; exact q1, own_keep q2 (fun k hk => hgr.block k (own_lt q2 k hk).2 (fun e => by cases e; exact hf s p _ u hx q1 hk)) (fun _ _ _ h => h) (fun _ _ _ h => h) (fun _ _ h => h) (fun b j _ => hcell b j)⟩
  · rw [hat] at h3 h4
    exact h.apart s p s' p' x x' y y' k h1 h2 h3 h4 h5 h6
  · exact h.below.trans ⟨hgr.os, hgr.tape, hgr.output, hgr.size, fun k hk => hgr.block k (h.room k hk) (fun e => by cases e; exact hb hk)⟩
def cstEv (d s : Nat) (l : D) (f : Nat × Pay) (es : List D) : Ev := { rs := [(s, l)], rf := [((s, none), f)], ws := some (d, some (sD 1 es)), cf := [(s, none), (d, none)] }
theorem ok_cst {t e : TypeId} {s : Nat} (ho : o.op = .convert t t (.tmp s)) (ht : P.underlying t = some (.slice e)) (he : P.underlying e = some (.int .u8)) {d : Nat} (hd : o.dst = some d) {l : D} {es : List D} {f : Nat × Pay} (hx : rd st (.tmp s) = some l) (hl : asS 1 l = some es) (hne : 0 < es.length) (hf : lookF st.fl (s, none) = some f) :
    (cstEv d s l f es).ok st.F ∧ Sound P o (cstEv d s l f es) := by
  refine ⟨⟨fun x hx' => by simp [cstEv] at hx'; subst hx'; exact hx, fun x hx => by simp [cstEv] at hx, fun x hx => by simp [cstEv] at hx, fun x hx => by simp [cstEv] at hx; subst hx; exact hf⟩, ?_⟩
  intro base w0 I0 N fs a w K Q hN ⟨I, ρ, h⟩ hok hK
  have hxf : fs.fl s none = some f := hok.rf ((s, none), f) (by simp [cstEv])
  obtain ⟨u, hat, n, xs, hrow, hsp, _⟩ := h.fl s none f.1 f.2 hxf
  obtain ⟨u', hu', hrep⟩ := h.tm s l (hok.rs (s, l) (by simp [cstEv]))
  simp only [At] at hat
  rw [hat] at hu'; cases hu'
  have h1 := asS_av hl hrep
  have heval : a.eval (.tmp s) = u := by simp [Act.eval, Array.getD_eq_getD_getElem?, hat]
  obtain ⟨g, cap, cur, hv, hbg, hg, _, _, _, _⟩ : ∃ g cap cur, u = .slice (some ⟨g, 0, none⟩) n cap ∧ 0 ≤ g ∧ w.heap[g]? = some (.cells cur f.1 (0, 0)) ∧ n ≤ cap ∧ cap ≤ maxLen ∧ cur.size = cap * f.2.1 ∧ cur.toList.take (n * f.2.1) = xs := by
    rcases hrow.2 with ⟨q, q'⟩ | q
    · obtain ⟨ad, c, hu, _⟩ := h1.invS
      rw [hu] at q; injection q with _ q2 _; omega
    · exact q
  have hown : u.ownBlock = some g := by rw [hv]; rfl
  have hlt : g < w.heap.size := (Array.getElem?_eq_some_iff.1 hg).1
  have hfr : (w.freeze ⟨g, cur.size, none⟩ 1).heap[g]? = some (.cells cur f.1 (cur.size, cur.size + 1)) := by
    unfold World.freeze
    rw [if_neg (by decide)]
    simp [Array.getElem?_modify, hg]
  have hoth : ∀ k, k ≠ g → (w.freeze ⟨g, cur.size, none⟩ 1).heap[k]? = w.heap[k]? := by
    intro k hk
    unfold World.freeze
    rw [if_neg (by decide)]
    simp [Array.getElem?_modify, Ne.symm hk]
  have hsz : (w.freeze ⟨g, cur.size, none⟩ 1).heap.size = w.heap.size := by
    unfold World.freeze
    rw [if_neg (by decide)]
    simp
  have hcell : ∀ b j, (w.freeze ⟨g, cur.size, none⟩ 1).cell? ⟨b, j, none⟩ = w.cell? ⟨b, j, none⟩ := by
    intro b j
    unfold World.cell?
    by_cases e1 : b = g
    · subst e1; simp only [hfr, hg]
    · simp only [hoth b e1]
  have hgr : w.grownBy (w.freeze ⟨g, cur.size, none⟩ 1) (some g) := ⟨by unfold World.freeze; rw [if_neg (by decide)], by unfold World.freeze; rw [if_neg (by decide)], by unfold World.freeze; rw [if_neg (by decide)], by rw [hsz]; exact Nat.le_refl _, fun k _ hk => hoth k (fun e => hk (by rw [e]))⟩
  have hsh : w.shape? g = some (f.1, cur.size) := by unfold World.shape?; rw [hg]
  have hrun : (execOp a.eval o).run P w = .ok (.value u) (w.freeze ⟨g, cur.size, none⟩ 1) := by
    simp [execOp, ho, heval, hv, convert, run_underlying ht, run_underlying he, markStringish, hsh]
  unfold Oper.wp
  rw [hrun]
  show K (a.put o.dst u) _
  rw [hd]
  have h0 := h.offF s none
  have h2 := h0.mark hg (hsp g hown).1 (fun b hb => (hsp g hown).2.2 b hb) (fun s' p x v hx' hv' hg' => by
    simp only [FS.offF] at hx'
    split at hx'
    · cases hx'
    · rename_i hne'
      exact hne' (h.apart s' p s none x f v u g hx' hxf hv' hat hg' hown)) hgr hcell
  have h3 := h2.put (hN d hd) (v := some (sD 1 es)) (u := u) (fun x hx => by cases hx; exact .inl (.inl (h1.keep (fun _ _ h => h) (fun b j _ => hcell b j))))
  refine hK _ _ ⟨I, _, h3.less (fun s' x hx => ?_) rfl (fun s' p x hx => ?_)⟩
  · simpa [cstEv, Ev.app, FS.setT, FS.offF] using hx
  · simp only [cstEv, Ev.app, List.mem_cons, List.not_mem_nil, or_false, Prod.mk.injEq] at hx
    simp only [FS.setT, FS.offF]
    by_cases e1 : s' = d ∧ p = none
    · simp [e1] at hx
    · by_cases e2 : s' = s ∧ p = none
      · simp [e2] at hx
      · simpa [e1, e2] using hx
end
end Go.Proofs.Ytdfdeppimimoiab.ab
