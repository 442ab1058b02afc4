/-
  Several texts in one.
-/
import Derived.Test.YtngfedhffehkaacM23
import Derived.Test.YtngfedhffehkaacM32
import Derived.Test.YtngfedhffehkaacIrSend

/-
  Senders, as plain data.
-/
namespace Go.Proofs.Ytngfedhffehkaac.ab
set_option linter.unusedSimpArgs false
set_option linter.unusedVariables false
open Go mth

def encSd (s : Sd) : List D := [sD 2 (encMl s.queue), vI s.next, vI s.p0, vI s.p1, vI s.p2, sD 6 (encCl s.flight), vI s.turn]
end Go.Proofs.Ytngfedhffehkaac.ab

/-
  What the answer's Wrong tells.
-/
namespace Go.Proofs.Ytngfedhffehkaac.ab
set_option linter.unusedVariables false
set_option linter.unusedSimpArgs false
open Go Go.RowKit
open mth

end Go.Proofs.Ytngfedhffehkaac.ab

/-
  What the answer's functions on senders tell.
-/
namespace Go.Proofs.Ytngfedhffehkaac.ab
set_option linter.unusedVariables false
set_option linter.unusedSimpArgs false
open Go Go.RowKit
open mth

theorem ml_nil : encMl [] = [] := rfl
theorem cl_nil : encCl [] = [] := rfl
theorem ml_cons (m : Ms) (r : List Ms) : encMl (m :: r) = aD [vI m.stream, sD 1 (m.data.map encB)] :: encMl r := rfl
theorem cl_snoc (l : List Ch) (c : Ch) : encCl (l ++ [c]) = encCl l ++ [aD [vI c.kind, vI c.number, vI c.stream, vI c.place, sD 1 (c.data.map encB), sD 1 (c.early.map vI)]] := by simp [encCl, encCh]
set_option maxHeartbeats 2000000 in
theorem put_told (s : Sd) (m : Ms) (hn : 0 ≤ s.next ∧ s.next ≤ 40) : Told Try.prog 33 [aD (encSd s), aD (encMs m)] [aD (encSd (putS s m)), vI (putE s m)] := by
  refine told_r1_Put rfl ?_
  obtain ⟨e, he⟩ : ∃ e, e = putE s m := ⟨_, rfl⟩
  obtain ⟨t, ht⟩ : ∃ t, t = putS s m := ⟨_, rfl⟩
  rw [← he, ← ht]
  simp only [encMs, encSd]
  refine wk0 ?_
  refine cg0 [[vI (wrongMsgL m.stream m.data)]] ?_ ?_
  · exact obl_cons (wrongMsg_told m) obl_nil
  by_cases h0 : wrongMsgL m.stream m.data = 0
  · have h0' : (wrongMsgL m.stream m.data != 0) = false := by simpa using h0
    by_cases h5 : 5 < s.queue.length
    · have h5' : 5 < (s.queue.length : Int) := by omega
      have : e = 9 := by rw [he, putE, if_neg (by simpa using h0), if_pos h5]
      subst this
      have : t = s := by rw [ht, putS, ← he, if_neg (by decide)]
      subst this
      refine wk (an3 @h0' @h5' @len_ml) ?_
      exact ValsLe.refl _
    · have h5' : ¬ 5 < (s.queue.length : Int) := by omega
      have hr : inR .i64 (s.next + (s.queue.length : Int)) = true := inR_of (by omega)
      by_cases h39 : 39 < s.next + s.queue.length
      · have h39' : 39 < s.next + (s.queue.length : Int) := by omega
        have : e = 4 := by rw [he, putE, if_neg (by simpa using h0), if_neg h5, if_pos h39]
        subst this
        have : t = s := by rw [ht, putS, ← he, if_neg (by decide)]
        subst this
        refine wk (an5 @h0' @h5' @h39' @hr @len_ml) ?_
        exact ValsLe.refl _
      · have h39' : ¬ 39 < s.next + (s.queue.length : Int) := by omega
        have : e = 0 := by rw [he, putE, if_neg (by simpa using h0), if_neg h5, if_neg h39]
        subst this
        have : t = { s with queue := s.queue ++ [m] } := by rw [ht, putS, ← he, if_pos rfl]
        subst this
        have hb1 : s.queue.length * 32 ≤ 140737488355328 := by omega
        have hb2 : (s.queue.length + 1) * 32 ≤ 140737488355328 := by omega
        refine wk (an8 @h0' @h5' @h39' @hr @hb1 @hb2 @len_ml @zapp) ?_
        simp only [encMl, List.map_append, List.map_cons, List.map_nil, encMs]
        exact ValsLe.refl _
  · have h0' : (wrongMsgL m.stream m.data != 0) = true := by simpa using h0
    have : e = wrongMsgL m.stream m.data := by rw [he, putE, if_pos h0]
    subst this
    have : t = s := by rw [ht, putS, ← he, if_neg h0]
    subst this
    refine wk @h0' ?_
    exact ValsLe.refl _

theorem again_eq {t : Int} {n : Nat} (ht : 0 ≤ t) : t - t.tdiv (n : Int) * (n : Int) = t % (n : Int) := by
  rw [Int.tdiv_eq_ediv_of_nonneg ht, Int.emod_def, Int.mul_comm]

set_option maxHeartbeats 4000000 in
theorem say_told_again (queue : List Ms) (next p0 p1 p2 turn : Int) (flight : List Ch) (ht : 0 ≤ turn ∧ turn ≤ 1000) (hf0 : 0 < flight.length) (hf : flight.length ≤ 4) (hq : queue = [] ∨ 3 < flight.length) :
    Told Try.prog 48 [aD (encSd ⟨queue, next, p0, p1, p2, flight, turn⟩)] [aD (encSd ⟨queue, next, p0, p1, p2, flight, turn % (flight.length : Int) + 1⟩), aD (encCh (flight.getD (turn % (flight.length : Int)).toNat zeroC)), vD (.bool true)] := by
  refine told_r1_SendSay rfl ?_
  have hn0 : ¬ (flight.length : Int) = 0 := by omega
  have hn1 : ((flight.length : Int) == 0) = false := by simpa using hn0
  have hae := again_eq (t := turn) (n := flight.length) ht.1
  have hm0 : 0 ≤ turn % (flight.length : Int) := Int.emod_nonneg _ hn0
  have hm1 : turn % (flight.length : Int) < flight.length := Int.emod_lt_of_pos _ (by omega)
  have hd : turn.tdiv (flight.length : Int) * (flight.length : Int) = turn - turn % (flight.length : Int) := by omega
  have hd0 : 0 ≤ turn.tdiv (flight.length : Int) := Int.tdiv_nonneg ht.1 (by omega)
  have hd1 : turn.tdiv (flight.length : Int) ≤ 1000 := by
    have := Int.tdiv_le_self (flight.length : Int) ht.1
    omega
  generalize hk : turn % (flight.length : Int) = k at *
  generalize hdv : turn.tdiv (flight.length : Int) = dv at *
  have r1 : inR .i64 dv = true := inR_of (by omega)
  have r2 : inR .i64 (dv * (flight.length : Int)) = true := inR_of (by omega)
  have r3 : inR .i64 k = true := inR_of (by omega)
  have r4 : inR .i64 (k + 1) = true := inR_of (by omega)
  have hlt : k.toNat < flight.length := by omega
  have hget : (encCl flight)[k.toNat]? = some (aD (encCh (flight.getD k.toNat zeroC))) := by
    rw [encCl, List.getElem?_map, List.getElem?_eq_getElem hlt, List.getD_eq_getElem?_getD, List.getElem?_eq_getElem hlt]; rfl
  obtain ⟨c0, hc0⟩ : ∃ c0, c0 = flight.getD k.toNat zeroC := ⟨_, rfl⟩
  rw [← hc0] at hget ⊢
  simp only [encSd, encCh] at hget ⊢
  rcases hq with hq | hq
  · subst hq
    refine wk (an15 @len_ml @len_cl @znil @zmn @ml_nil @hn0 @hn1 @hdv @hae @r1 @r2 @r3 @r4 @hm0 @hget) ?_
    repeat' (first | exact vals_nil | exact row_nil | exact es_nil | exact CVLe.refl _ | exact LfLe.refl _ | exact LfLe.nil _ | exact EsLe.refl _ | refine vals_cons ?_ ?_ | refine row_cons ?_ ?_ | refine es_cons ?_ ?_ | refine EsLe.app ?_ ?_ | refine CVLe.row ?_ | refine CVLe.leafV ?_ | refine CVLe.leafS ?_ | refine LfLe.s ?_)
  · have hq2 : 3 < (flight.length : Int) := by omega
    by_cases hqq : queue = []
    · subst hqq
      refine wk (an15 @len_ml @len_cl @znil @zmn @ml_nil @hn0 @hn1 @hdv @hae @r1 @r2 @r3 @r4 @hm0 @hget) ?_
      repeat' (first | exact vals_nil | exact row_nil | exact es_nil | exact CVLe.refl _ | exact LfLe.refl _ | exact LfLe.nil _ | exact EsLe.refl _ | refine vals_cons ?_ ?_ | refine row_cons ?_ ?_ | refine es_cons ?_ ?_ | refine EsLe.app ?_ ?_ | refine CVLe.row ?_ | refine CVLe.leafV ?_ | refine CVLe.leafS ?_ | refine LfLe.s ?_)
    · have hq3 : ((queue.length : Int) == 0) = false := by
        have : queue.length ≠ 0 := fun h => hqq (List.eq_nil_of_length_eq_zero h)
        have : ¬ (queue.length : Int) = 0 := by omega
        simpa using this
      refine wk (an17 @len_ml @len_cl @znil @zmn @ml_nil @hq2 @hq3 @hn0 @hn1 @hdv @hae @r1 @r2 @r3 @r4 @hm0 @hget) ?_
      repeat' (first | exact vals_nil | exact row_nil | exact es_nil | exact CVLe.refl _ | exact LfLe.refl _ | exact LfLe.nil _ | exact EsLe.refl _ | refine vals_cons ?_ ?_ | refine row_cons ?_ ?_ | refine es_cons ?_ ?_ | refine EsLe.app ?_ ?_ | refine CVLe.row ?_ | refine CVLe.leafV ?_ | refine CVLe.leafS ?_ | refine LfLe.s ?_)

set_option maxHeartbeats 1000000 in
theorem say_told_none (next p0 p1 p2 turn : Int) : Told Try.prog 48 [aD (encSd ⟨[], next, p0, p1, p2, [], turn⟩)] [aD (encSd ⟨[], next, p0, p1, p2, [], turn⟩), aD (encCh zeroC), vD (.bool false)] := by
  refine told_r1_SendSay rfl ?_
  simp only [encSd, ml_nil, cl_nil, zeroC, encCh, List.map_nil]
  refine wk (an2 @zmn @znil) ?_
  repeat' (first | exact vals_nil | exact row_nil | exact es_nil | exact CVLe.refl _ | exact LfLe.refl _ | exact LfLe.nil _ | exact EsLe.refl _ | refine vals_cons ?_ ?_ | refine row_cons ?_ ?_ | refine es_cons ?_ ?_ | refine EsLe.app ?_ ?_ | refine CVLe.row ?_ | refine CVLe.leafV ?_ | refine CVLe.leafS ?_ | refine LfLe.s ?_)

set_option maxHeartbeats 4000000 in
theorem say_told_new (m : Ms) (r : List Ms) (next p0 p1 p2 turn : Int) (flight : List Ch) (hn : 0 ≤ next ∧ next ≤ 40) (h0 : 0 ≤ p0 ∧ p0 ≤ 40) (h1 : 0 ≤ p1 ∧ p1 ≤ 40) (h2 : 0 ≤ p2 ∧ p2 ≤ 40) (hf : flight.length ≤ 3) (hr : r.length ≤ 1000) (hm : 0 ≤ m.stream ∧ m.stream ≤ 2) :
    Told Try.prog 48 [aD (encSd ⟨m :: r, next, p0, p1, p2, flight, turn⟩)] [aD (encSd (newS ⟨m :: r, next, p0, p1, p2, flight, turn⟩ m r)), aD (encCh (newC ⟨m :: r, next, p0, p1, p2, flight, turn⟩ m)), vD (.bool true)] := by
  refine told_r1_SendSay rfl ?_
  have q1 : (((r.length + 1 : Nat) : Int) == 0) = false := by
    have : ¬ ((r.length + 1 : Nat) : Int) = 0 := by omega
    simpa using this
  have q2 : ¬ 3 < (flight.length : Int) := by omega
  have q3 : inR .i64 (next + 1) = true := inR_of (by omega)
  have q4 : inR .i64 (p0 + 1) = true := inR_of (by omega)
  have q5 : inR .i64 (p1 + 1) = true := inR_of (by omega)
  have q6 : inR .i64 (p2 + 1) = true := inR_of (by omega)
  have q7 : flight.length * 80 ≤ 140737488355328 := by omega
  have q8 : (flight.length + 1) * 80 ≤ 140737488355328 := by omega
  have q9 : (0 : Int) ≤ 1 ∧ (1 : Int) ≤ ((r.length + 1 : Nat) : Int) ∧ ((r.length + 1 : Nat) : Int) ≤ ((r.length + 1 : Nat) : Int) := by omega
  have q10 : (encMl r).take r.length = encMl r := List.take_of_length_le (by rw [len_ml]; exact Nat.le_refl _)
  obtain ⟨ms, md⟩ := m
  simp only at hm
  rcases (by omega : ms = 0 ∨ ms = 1 ∨ ms = 2) with hs | hs | hs
  · subst hs
    simp only [encSd, newS, newC, placeOf, encCh, ml_cons, cl_snoc, List.map_nil, if_true, Int.reduceEq, if_false]
    refine wk (an13 @len_ml @len_cl @zapp @q1 @q2 @q3 @q4 @q5 @q6 @q7 @q8 @q9 @q10) ?_
    repeat' (first | exact vals_nil | exact row_nil | exact es_nil | exact CVLe.refl _ | exact LfLe.refl _ | exact LfLe.nil _ | exact EsLe.refl _ | refine vals_cons ?_ ?_ | refine row_cons ?_ ?_ | refine es_cons ?_ ?_ | refine EsLe.app ?_ ?_ | refine CVLe.row ?_ | refine CVLe.leafV ?_ | refine CVLe.leafS ?_ | refine LfLe.s ?_)
  · subst hs
    simp only [encSd, newS, newC, placeOf, encCh, ml_cons, cl_snoc, List.map_nil, if_true, Int.reduceEq, if_false]
    refine wk (an13 @len_ml @len_cl @zapp @q1 @q2 @q3 @q4 @q5 @q6 @q7 @q8 @q9 @q10) ?_
    repeat' (first | exact vals_nil | exact row_nil | exact es_nil | exact CVLe.refl _ | exact LfLe.refl _ | exact LfLe.nil _ | exact EsLe.refl _ | refine vals_cons ?_ ?_ | refine row_cons ?_ ?_ | refine es_cons ?_ ?_ | refine EsLe.app ?_ ?_ | refine CVLe.row ?_ | refine CVLe.leafV ?_ | refine CVLe.leafS ?_ | refine LfLe.s ?_)
  · subst hs
    simp only [encSd, newS, newC, placeOf, encCh, ml_cons, cl_snoc, List.map_nil, if_true, Int.reduceEq, if_false]
    refine wk (an13 @len_ml @len_cl @zapp @q1 @q2 @q3 @q4 @q5 @q6 @q7 @q8 @q9 @q10) ?_
    repeat' (first | exact vals_nil | exact row_nil | exact es_nil | exact CVLe.refl _ | exact LfLe.refl _ | exact LfLe.nil _ | exact EsLe.refl _ | refine vals_cons ?_ ?_ | refine row_cons ?_ ?_ | refine es_cons ?_ ?_ | refine EsLe.app ?_ ?_ | refine CVLe.row ?_ | refine CVLe.leafV ?_ | refine CVLe.leafS ?_ | refine LfLe.s ?_)
end Go.Proofs.Ytngfedhffehkaac.ab

/-
  Plain mathematics for senders: what a sender is that came of puts, sayings and answers. Nothing of the program.
-/
namespace Go.Proofs.Ytngfedhffehkaac.mth
set_option linter.unusedSimpArgs false
set_option linter.unusedVariables false

def zeroS : Sd := ⟨[], 0, 0, 0, 0, [], 0⟩
/-- A sender that came of puts, sayings and answers. -/
structure GoodS (s : Sd) : Prop where
  q : s.queue.length ≤ 6
  f : s.flight.length ≤ 4
  n : 0 ≤ s.next ∧ s.next + s.queue.length ≤ 40
  p : 0 ≤ s.p0 ∧ 0 ≤ s.p1 ∧ 0 ≤ s.p2 ∧ s.p0 + s.p1 + s.p2 = s.next
  t : 0 ≤ s.turn ∧ s.turn ≤ 4
  m : ∀ m ∈ s.queue, wrongMsgL m.stream m.data = 0
  c : ∀ c ∈ s.flight, c.kind = 1 ∧ wrongL c = 0 ∧ c.number < s.next
  r : s.flight.Pairwise (fun a b => a.number < b.number)
theorem good_zero : GoodS zeroS := ⟨by simp [zeroS], by simp [zeroS], by simp [zeroS], by simp [zeroS], by simp [zeroS], by simp [zeroS], by simp [zeroS], by simp [zeroS]⟩
theorem GoodS.put {s : Sd} (h : GoodS s) (m : Ms) : GoodS (putS s m) := by
  unfold putS
  split
  · rename_i he
    unfold putE at he
    split at he
    · rename_i hw; exact absurd he hw
    · rename_i hw
      split at he
      · cases he
      · rename_i hq
        split at he
        · cases he
        · rename_i hn
          refine ⟨by simp; omega, h.f, by have := h.n; simp; omega, h.p, h.t, fun x hx => ?_, h.c, h.r⟩
          rcases List.mem_append.1 hx with hx | hx
          · exact h.m x hx
          · simp at hx; subst hx; simpa using hw
  · exact h
theorem GoodS.hear {s : Sd} (h : GoodS s) (c : Ch) : GoodS (hearS s c) := by
  unfold hearS
  split
  · exact ⟨h.q, Nat.le_trans (List.length_filter_le _ _) h.f, h.n, h.p, h.t, h.m, fun x hx => h.c x (List.mem_filter.1 hx).1, h.r.filter _⟩
  · exact h
theorem right_ms {s : Int} {d : List UInt8} (h : wrongMsgL s d = 0) : (0 ≤ s ∧ s ≤ 2) ∧ d.length ≤ 6 := by
  unfold wrongMsgL at h
  split at h
  · cases h
  · split at h
    · cases h
    · omega
theorem placeOf_le {s : Sd} (h : GoodS s) (k : Int) : 0 ≤ placeOf s k ∧ placeOf s k ≤ s.next := by
  have := h.p
  unfold placeOf
  split
  · omega
  · split
    · omega
    · omega
theorem newC_right {s : Sd} {m : Ms} (h : GoodS s) (hm : wrongMsgL m.stream m.data = 0) (hn : s.next ≤ 39) : wrongL (newC s m) = 0 := by
  have hp := placeOf_le h m.stream
  have := h.n
  unfold newC
  rw [wrongL_one, if_neg (by omega), if_neg (by omega), if_neg (by simp), hm]
theorem againK_lt {s : Sd} (h : GoodS s) (hf : 0 < s.flight.length) : 0 ≤ againK s ∧ againK s < s.flight.length := by
  unfold againK
  exact ⟨Int.emod_nonneg _ (by omega), Int.emod_lt_of_pos _ (by omega)⟩
theorem GoodS.again {s : Sd} (h : GoodS s) (hf : 0 < s.flight.length) : GoodS { s with turn := againK s + 1 } := by
  have := againK_lt h hf
  have := h.f
  exact ⟨h.q, h.f, h.n, h.p, by simp only; omega, h.m, h.c, h.r⟩
theorem GoodS.new {s : Sd} {m : Ms} {r : List Ms} (h : GoodS s) (hq : s.queue = m :: r) (hf : s.flight.length ≤ 3) : GoodS (newS s m r) := by
  have h1 := h.q
  have h2 := h.n
  have h3 := h.p
  rw [hq] at h1 h2
  simp only [List.length_cons] at h1 h2
  have hm := h.m m (by rw [hq]; simp)
  have hs := (right_ms hm).1
  refine ⟨by simp only [newS]; omega, by simp only [newS, List.length_append, List.length_cons, List.length_nil]; omega, by simp only [newS]; omega, ?_, h.t, fun x hx => h.m x (by rw [hq]; exact List.mem_cons_of_mem _ hx), fun x hx => ?_, ?_⟩
  · simp only [newS]
    rcases (by omega : m.stream = 0 ∨ m.stream = 1 ∨ m.stream = 2) with e | e | e <;> simp only [e, if_true, Int.reduceEq, if_false] <;> omega
  · rcases List.mem_append.1 hx with hx | hx
    · have := h.c x hx
      exact ⟨this.1, this.2.1, by simp only [newS]; omega⟩
    · simp at hx
      subst hx
      exact ⟨rfl, newC_right h hm (by omega), by simp only [newS, newC]; omega⟩
  · refine List.pairwise_append.2 ⟨h.r, by simp, fun a ha b hb => ?_⟩
    simp at hb
    subst hb
    exact (h.c a ha).2.2
theorem GoodS.say {s : Sd} (h : GoodS s) : GoodS (sayL s).1 := by
  unfold sayL
  split
  · rename_i hq
    split
    · exact h
    · exact h.again (by omega)
  · rename_i m r hq
    split
    · exact h.again (by omega)
    · exact h.new hq (by omega)
theorem GoodS.early {s : Sd} (h : GoodS s) : ∀ c ∈ s.flight, c.early = [] := by
  intro c hc
  obtain ⟨h1, h2, _⟩ := h.c c hc
  unfold wrongL at h2
  rw [if_neg (by omega)] at h2
  split at h2
  · cases h2
  · split at h2
    · cases h2
    · split at h2
      · cases h2
      · rename_i he; exact List.eq_nil_of_length_eq_zero (by omega)
end Go.Proofs.Ytngfedhffehkaac.mth

/-
  What the answer's Put and SendSay tell, of any good sender.
-/
namespace Go.Proofs.Ytngfedhffehkaac.ab
set_option linter.unusedVariables false
set_option linter.unusedSimpArgs false
open Go Go.RowKit
open mth

theorem refPut_told {s : Sd} (h : GoodS s) (m : Ms) : Told Try.prog 33 [aD (encSd s), aD (encMs m)] [aD (encSd (putS s m)), vI (putE s m)] := put_told s m (by have := h.n; omega)
theorem refSay_told {s : Sd} (h : GoodS s) : Told Try.prog 48 [aD (encSd s)] [aD (encSd (sayL s).1), aD (encCh (sayL s).2.1), vB (sayL s).2.2] := by
  obtain ⟨queue, next, p0, p1, p2, flight, turn⟩ := s
  have hf := h.f
  have ht := h.t
  have hn := h.n
  have hp := h.p
  have hq := h.q
  simp only at hf ht hn hp hq
  cases queue with
  | nil =>
    by_cases hz : flight.length = 0
    · have hz' : flight = [] := List.eq_nil_of_length_eq_zero hz
      subst hz'
      exact say_told_none next p0 p1 p2 turn
    · have := say_told_again [] next p0 p1 p2 turn flight (by omega) (by omega) hf (.inl rfl)
      simpa [sayL, hz, againK] using this
  | cons m r =>
    by_cases hz : 3 < flight.length
    · have := say_told_again (m :: r) next p0 p1 p2 turn flight (by omega) (by omega) hf (.inr hz)
      simpa [sayL, hz, againK] using this
    · have hm := (right_ms (h.m m (by simp))).1
      have := say_told_new m r next p0 p1 p2 turn flight (by omega) (by omega) (by omega) (by omega) (by omega) (by simp at hq; omega) hm
      simpa [sayL, hz] using this
end Go.Proofs.Ytngfedhffehkaac.ab
