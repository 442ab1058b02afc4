/-
  Several texts in one.
-/
import Derived.Test.YtnncmddmjpocfabM23
import Derived.Test.YtnncmddmjpocfabM30
import Derived.Test.YtnncmddmjpocfabM21
import Derived.Test.YtnncmddmjpocfabProg
import Derived.Test.YtnncmddmjpocfabM41

/-
  Plain mathematics for senders: what a sender is that came of puts, sayings and answers. Nothing of the program.
-/
namespace Go.Proofs.Ytnncmddmjpocfab.mth
set_option linter.unusedSimpArgs false
set_option linter.unusedVariables false

/-- A sender that came of puts, sayings and answers. -/
structure GoodS (s : Sd) : Prop where
  q : s.queue.length ≤ 6
  f : s.flight.length ≤ 4
  n : 0 ≤ s.next ∧ s.next + s.queue.length ≤ 40
  p : 0 ≤ s.p0 ∧ 0 ≤ s.p1 ∧ 0 ≤ s.p2 ∧ s.p0 + s.p1 + s.p2 = s.next
  t : 0 ≤ s.turn ∧ s.turn ≤ 4
  m : ∀ m ∈ s.queue, wrongMsgL m.stream m.data = 0
  c : ∀ c ∈ s.flight, c.kind = 1 ∧ wrongL c = 0 ∧ c.number < s.next
  r : s.flight.Pairwise (fun a b => a.number < b.number)
theorem GoodS.put {s : Sd} (h : GoodS s) (m : Ms) : GoodS (putS s m) := by
  unfold putS
  split
  · rename_i he
    unfold putE at he
    split at he
    · rename_i hw; exact absurd he hw
    · rename_i hw
      split at he
      · cases he
      · rename_i hq
        split at he
        · cases he
        · rename_i hn
          refine ⟨by simp; omega, h.f, by have := h.n; simp; omega, h.p, h.t, fun x hx => ?_, h.c, h.r⟩
          rcases List.mem_append.1 hx with hx | hx
          · exact h.m x hx
          · simp at hx; subst hx; simpa using hw
  · exact h
theorem GoodS.hear {s : Sd} (h : GoodS s) (c : Ch) : GoodS (hearS s c) := by
  unfold hearS
  split
  · exact ⟨h.q, Nat.le_trans (List.length_filter_le _ _) h.f, h.n, h.p, h.t, h.m, fun x hx => h.c x (List.mem_filter.1 hx).1, h.r.filter _⟩
  · exact h
theorem right_ms {s : Int} {d : List UInt8} (h : wrongMsgL s d = 0) : (0 ≤ s ∧ s ≤ 2) ∧ d.length ≤ 6 := by
  unfold wrongMsgL at h
  split at h
  · cases h
  · split at h
    · cases h
    · omega
theorem placeOf_le {s : Sd} (h : GoodS s) (k : Int) : 0 ≤ placeOf s k ∧ placeOf s k ≤ s.next := by
  have := h.p
  unfold placeOf
  split
  · omega
  · split
    · omega
    · omega
theorem newC_right {s : Sd} {m : Ms} (h : GoodS s) (hm : wrongMsgL m.stream m.data = 0) (hn : s.next ≤ 39) : wrongL (newC s m) = 0 := by
  have hp := placeOf_le h m.stream
  have := h.n
  unfold newC
  rw [wrongL_one, if_neg (by omega), if_neg (by omega), if_neg (by simp), hm]
theorem GoodS.new {s : Sd} {m : Ms} {r : List Ms} (h : GoodS s) (hq : s.queue = m :: r) (hf : s.flight.length ≤ 3) : GoodS (newS s m r) := by
  have h1 := h.q
  have h2 := h.n
  have h3 := h.p
  rw [hq] at h1 h2
  simp only [List.length_cons] at h1 h2
  have hm := h.m m (by rw [hq]; simp)
  have hs := (right_ms hm).1
  refine ⟨by simp only [newS]; omega, by simp only [newS, List.length_append, List.length_cons, List.length_nil]; omega, by simp only [newS]; omega, ?_, h.t, fun x hx => h.m x (by rw [hq]; exact List.mem_cons_of_mem _ hx), fun x hx => ?_, ?_⟩
  · simp only [newS]
    rcases (by omega : m.stream = 0 ∨ m.stream = 1 ∨ m.stream = 2) with e | e | e <;> simp only [e, if_true, Int.reduceEq, if_false] <;> omega
  · rcases List.mem_append.1 hx with hx | hx
    · have := h.c x hx
      exact ⟨this.1, this.2.1, by simp only [newS]; omega⟩
    · simp at hx
      subst hx
      exact ⟨rfl, newC_right h hm (by omega), by simp only [newS, newC]; omega⟩
  · refine List.pairwise_append.2 ⟨h.r, by simp, fun a ha b hb => ?_⟩
    simp at hb
    subst hb
    exact (h.c a ha).2.2
theorem GoodS.early {s : Sd} (h : GoodS s) : ∀ c ∈ s.flight, c.early = [] := by
  intro c hc
  obtain ⟨h1, h2, _⟩ := h.c c hc
  unfold wrongL at h2
  rw [if_neg (by omega)] at h2
  split at h2
  · cases h2
  · split at h2
    · cases h2
    · split at h2
      · cases h2
      · rename_i he; exact List.eq_nil_of_length_eq_zero (by omega)
end Go.Proofs.Ytnncmddmjpocfab.mth

/-
  What the answer's Put and SendSay tell, of any good sender.
-/
namespace Go.Proofs.Ytnncmddmjpocfab.ab
set_option linter.unusedVariables false
set_option linter.unusedSimpArgs false
open Go Go.RowKit
open mth

end Go.Proofs.Ytnncmddmjpocfab.ab

/-
  Functions as plain code (written by wip/abs/ir.py): lklaw5.build, lklaw5.alive.
-/
namespace Go.Proofs.Ytnncmddmjpocfab.ab
set_option linter.unusedSimpArgs false
set_option linter.unusedVariables false
set_option maxRecDepth 100000
open Go Go.RowKit

end Go.Proofs.Ytnncmddmjpocfab.ab

/-
  What the statements' own function build tells (senders), and the answer's SendSay, of any good sender.
-/
namespace Go.Proofs.Ytnncmddmjpocfab.ab
set_option linter.unusedVariables false
set_option linter.unusedSimpArgs false
open Go Go.RowKit
open mth

end Go.Proofs.Ytnncmddmjpocfab.ab
