/-
  Several texts in one.
-/
import Derived.Test.YtngfedhffehkaacM46
import Derived.Test.YtngfedhffehkaacM34
import Derived.Test.YtngfedhffehkaacM32
import Derived.Test.YtngfedhffehkaacM45
import Derived.Test.YtngfedhffehkaacM44
import Derived.Test.YtngfedhffehkaacM38
import Derived.Test.YtngfedhffehkaacM23
import Derived.Test.YtngfedhffehkaacProg

/-
  What the landed functions that copy tell: messages, chunks, lists of them, senders.
-/
namespace Go.Proofs.Ytngfedhffehkaac.ab
set_option linter.unusedVariables false
set_option linter.unusedSimpArgs false
open Go Go.RowKit
open mth

theorem ownMsg_told (m : Ms) (h : m.data.length ≤ 1048576) : Told Try.prog 30 [aD (encMs m)] [aD (encMs m)] := by
  refine told_chunk_OwnMsg rfl ?_
  simp only [encMs]
  have h1 : m.data.length * 1 ≤ 140737488355328 := by omega
  refine wk (an2 @h1 @zmap) ?_
  exact ValsLe.refl _
theorem ownCh_told (c : Ch) (h : c.data.length ≤ 1048576) (h' : c.early.length ≤ 1048576) : Told Try.prog 74 [aD (encCh c)] [aD (encCh c)] := by
  refine told_chunk_Own rfl ?_
  simp only [encCh]
  have h1 : c.data.length * 1 ≤ 140737488355328 := by omega
  have h2 : c.early.length * 8 ≤ 140737488355328 := by omega
  refine wk (an3 @h1 @h2 @zmap) ?_
  exact ValsLe.refl _
theorem callM : callableB Try.prog 30 = true := by kernel_rfl
theorem callC : callableB Try.prog 74 = true := by kernel_rfl

/-- At the head of the loop: what was made so far; frozen. -/
def omSt (l : List Ms) (k : Nat) : St := ⟨[(1, vD (.func (.func 30) #[] #[])), (5, sD 2 (encMl (l.take k))), (8, sD 2 (encMl l)), (9, vI l.length), (10, vI k)], [], [((5, none), (25, 2, none))]⟩
theorem ml_snoc (l : List Ms) (m : Ms) : encMl (l ++ [m]) = encMl l ++ [aD [vI m.stream, sD 1 (m.data.map encB)]] := by simp [encMl, encMs]
set_option maxHeartbeats 4000000 in
theorem ownM_core (l : List Ms) (hl : l.length ≤ 1048576) (hm : ∀ m ∈ l, m.data.length ≤ 1048576) (Q : AX → St → Prop) (hQ : Q (some none) ⟨[(4, sD 2 (encMl l))], [], [((4, none), (25, 2, none))]⟩) : list_OwnM (start [sD 2 (encMl l), vD (.func (.func 30) #[] #[])]) Q := by
  refine wk @len_ml ?_
  refine aw_loop (fun n st => ∃ k, k ≤ l.length ∧ n = l.length - k ∧ st = omSt l k) l.length (omSt l 0) ((Le.nilS 5 25 2 rfl).trans (Le.keep (lv := [1, 5, 8, 9, 10]) (lb := []) (by simp only [ev0, ev1, ev2, look, lookF, cellsFrom, offT, offP, List.tail_nil, List.length_nil, Int.cast_ofNat_Int, Nat.reduceEqDiff, Nat.reduceAdd, Nat.reduceMul, Nat.reduceLeDiff, Nat.reduceLT, ↓reduceIte, reduceCtorEq, Int.reduceBEq, Int.reduceBNe, Int.reduceLT, Int.reduceLE, Int.reduceToNat]; rfl))) ⟨0, by omega, by omega, rfl⟩ ?_
  rintro n st ⟨k, hk', hn, rfl⟩
  by_cases hlt : k < l.length
  · obtain ⟨x, hx⟩ : ∃ m, l[k]? = some m := ⟨l[k], List.getElem?_eq_getElem hlt⟩
    have g1 : (k : Int) < (l.length : Int) := by omega
    have g2 : (0 : Int) ≤ (k : Int) := by omega
    have g3 := at_ml hx
    have g4 : inR .i64 ((k : Int) + 1) = true := inR_of (by omega)
    have hlen : (l.take k).length = k := by rw [List.length_take]; omega
    have hb1 : ((l.take k).length + 1) * 32 ≤ 140737488355328 := by omega
    have hnx : Next (fun n st => ∃ k, k ≤ l.length ∧ n = l.length - k ∧ st = omSt l k) n
        ⟨[(1, vD (.func (.func 30) #[] #[])), (5, sD 2 (encMl (l.take k) ++ [aD [vI x.stream, sD 1 (x.data.map encB)]])), (8, sD 2 (encMl l)), (9, vI l.length), (10, vI ((k : Int) + 1))], [], [((5, none), (25, 2, none))]⟩ := by
      rw [← ml_snoc, show l.take k ++ [x] = l.take (k + 1) by rw [List.take_add_one, hx]; rfl]
      exact ⟨l.length - (k + 1), _, by omega, Le.refl _, k + 1, by omega, rfl, by simp only [omSt, Int.natCast_add, Int.cast_ofNat_Int]⟩
    generalize (fun n st => ∃ k, k ≤ l.length ∧ n = l.length - k ∧ st = omSt l k) = J at *
    simp only [omSt]
    generalize l.take k = G at *
    refine wk (an6 @g1 @g2 @g3 @callM @hb1 @len_ml) ?_
    refine cg [[aD [vI x.stream, sD 1 (x.data.map encB)]]] (an3 @callM @hb1 @len_ml) ?_ ?_
    · exact obl_cons (ownMsg_told x (hm x (List.mem_of_getElem? hx))) obl_nil
    refine wk @g4 ?_
    exact hnx
  · have hk'' : k = l.length := by omega
    subst hk''
    have g1 : ¬ (l.length : Int) < (l.length : Int) := by omega
    simp only [omSt, List.take_length]
    refine wk @g1 ?_
    exact hQ
theorem ownM_told (l : List Ms) (hl : l.length ≤ 1048576) (hm : ∀ m ∈ l, m.data.length ≤ 1048576) : Told Try.prog 72 [sD 2 (encMl l), vD (.func (.func 30) #[] #[])] [sD 2 (encMl l)] :=
  told_list_OwnM rfl (ownM_core l hl hm _ ⟨[sD 2 (encMl l)], rfl, ValsLe.refl _⟩)
theorem cl_snoc' (l : List Ch) (c : Ch) : encCl (l ++ [c]) = encCl l ++ [aD [vI c.kind, vI c.number, vI c.stream, vI c.place, sD 1 (c.data.map encB), sD 1 (c.early.map vI)]] := by simp [encCl, encCh]
/-- At the head of the loop: what was made so far; frozen. -/
def ocSt (l : List Ch) (k : Nat) : St := ⟨[(1, vD (.func (.func 74) #[] #[])), (5, sD 6 (encCl (l.take k))), (8, sD 6 (encCl l)), (9, vI l.length), (10, vI k)], [], [((5, none), (86, 6, none))]⟩
set_option maxHeartbeats 4000000 in
theorem ownC_core (l : List Ch) (hl : l.length ≤ 1048576) (hm : ∀ m ∈ l, m.data.length ≤ 1048576 ∧ m.early.length ≤ 1048576) (Q : AX → St → Prop) (hQ : Q (some none) ⟨[(4, sD 6 (encCl l))], [], [((4, none), (86, 6, none))]⟩) : list_OwnC (start [sD 6 (encCl l), vD (.func (.func 74) #[] #[])]) Q := by
  refine wk @len_cl ?_
  refine aw_loop (fun n st => ∃ k, k ≤ l.length ∧ n = l.length - k ∧ st = ocSt l k) l.length (ocSt l 0) ((Le.nilS 5 86 6 rfl).trans (Le.keep (lv := [1, 5, 8, 9, 10]) (lb := []) (by simp only [ev0, ev1, ev2, look, lookF, cellsFrom, offT, offP, List.tail_nil, List.length_nil, Int.cast_ofNat_Int, Nat.reduceEqDiff, Nat.reduceAdd, Nat.reduceMul, Nat.reduceLeDiff, Nat.reduceLT, ↓reduceIte, reduceCtorEq, Int.reduceBEq, Int.reduceBNe, Int.reduceLT, Int.reduceLE, Int.reduceToNat]; rfl))) ⟨0, by omega, by omega, rfl⟩ ?_
  rintro n st ⟨k, hk', hn, rfl⟩
  by_cases hlt : k < l.length
  · obtain ⟨x, hx⟩ : ∃ m, l[k]? = some m := ⟨l[k], List.getElem?_eq_getElem hlt⟩
    have g1 : (k : Int) < (l.length : Int) := by omega
    have g2 : (0 : Int) ≤ (k : Int) := by omega
    have g3 := at_cl hx
    have g4 : inR .i64 ((k : Int) + 1) = true := inR_of (by omega)
    have hlen : (l.take k).length = k := by rw [List.length_take]; omega
    have hb1 : ((l.take k).length + 1) * 80 ≤ 140737488355328 := by omega
    have hnx : Next (fun n st => ∃ k, k ≤ l.length ∧ n = l.length - k ∧ st = ocSt l k) n
        ⟨[(1, vD (.func (.func 74) #[] #[])), (5, sD 6 (encCl (l.take k) ++ [aD [vI x.kind, vI x.number, vI x.stream, vI x.place, sD 1 (x.data.map encB), sD 1 (x.early.map vI)]])), (8, sD 6 (encCl l)), (9, vI l.length), (10, vI ((k : Int) + 1))], [], [((5, none), (86, 6, none))]⟩ := by
      rw [← cl_snoc', show l.take k ++ [x] = l.take (k + 1) by rw [List.take_add_one, hx]; rfl]
      exact ⟨l.length - (k + 1), _, by omega, Le.refl _, k + 1, by omega, rfl, by simp only [ocSt, Int.natCast_add, Int.cast_ofNat_Int]⟩
    generalize (fun n st => ∃ k, k ≤ l.length ∧ n = l.length - k ∧ st = ocSt l k) = J at *
    simp only [ocSt]
    generalize l.take k = G at *
    refine wk (an6 @g1 @g2 @g3 @callC @hb1 @len_cl) ?_
    refine cg [[aD [vI x.kind, vI x.number, vI x.stream, vI x.place, sD 1 (x.data.map encB), sD 1 (x.early.map vI)]]] (an3 @callC @hb1 @len_cl) ?_ ?_
    · exact obl_cons (ownCh_told x (hm x (List.mem_of_getElem? hx)).1 (hm x (List.mem_of_getElem? hx)).2) obl_nil
    refine wk @g4 ?_
    exact hnx
  · have hk'' : k = l.length := by omega
    subst hk''
    have g1 : ¬ (l.length : Int) < (l.length : Int) := by omega
    simp only [ocSt, List.take_length]
    refine wk @g1 ?_
    exact hQ
theorem ownC_told (l : List Ch) (hl : l.length ≤ 1048576) (hm : ∀ m ∈ l, m.data.length ≤ 1048576 ∧ m.early.length ≤ 1048576) : Told Try.prog 73 [sD 6 (encCl l), vD (.func (.func 74) #[] #[])] [sD 6 (encCl l)] :=
  told_list_OwnC rfl (ownC_core l hl hm _ ⟨[sD 6 (encCl l)], rfl, ValsLe.refl _⟩)
/-- No list of it is too long to be copied. -/
structure SmallS (s : Sd) : Prop where
  q : s.queue.length ≤ 1048576
  m : ∀ m ∈ s.queue, m.data.length ≤ 1048576
  f : s.flight.length ≤ 1048576
  c : ∀ c ∈ s.flight, c.data.length ≤ 1048576 ∧ c.early.length ≤ 1048576
set_option maxHeartbeats 4000000 in
theorem ownS_told (s : Sd) (h : SmallS s) : Told Try.prog 44 [aD (encSd s)] [aD (encSd s)] := by
  refine told_send_Own rfl ?_
  simp only [encSd]
  refine wk0 ?_
  refine cg0 [[sD 2 (encMl s.queue)]] ?_ ?_
  · exact obl_cons (ownM_told s.queue h.q h.m) obl_nil
  refine wk0 ?_
  refine cg0 [[sD 6 (encCl s.flight)]] ?_ ?_
  · exact obl_cons (ownC_told s.flight h.f h.c) obl_nil
  refine wk0 ?_
  exact ValsLe.refl _
end Go.Proofs.Ytngfedhffehkaac.ab

/-
  What the landed package view tells.
-/
namespace Go.Proofs.Ytngfedhffehkaac.ab
set_option linter.unusedVariables false
set_option linter.unusedSimpArgs false
open Go Go.RowKit
open mth

set_option maxHeartbeats 4000000 in
theorem landV_of (hO : CLOwn 29) : CVOf 13 := by
  intro w t hw
  refine told_view_Of rfl ?_
  have hwn := hw.n
  by_cases h1 : t < 0
  · rw [of_out (.inl h1)]
    simp only [encWd, encLn, zeroL, zeroS, zeroR, encMl, encCl, encPk, List.map_nil]
    refine wk @h1 ?_
    repeat' (first | exact vals_nil | exact row_nil | exact es_nil | exact CVLe.refl _ | exact LfLe.refl _ | exact LfLe.nil _ | exact EsLe.refl _ | refine vals_cons ?_ ?_ | refine row_cons ?_ ?_ | refine es_cons ?_ ?_ | refine EsLe.app ?_ ?_ | refine CVLe.row ?_ | refine CVLe.leafV ?_ | refine CVLe.leafS ?_ | refine LfLe.s ?_)
  by_cases h2 : (w.lanes.length : Int) ≤ t
  · rw [of_out (.inr h2)]
    simp only [encWd, encLn, zeroL, zeroS, zeroR, encMl, encCl, encPk, List.map_nil]
    refine wk (an3 @h1 @h2 @len_ll) ?_
    repeat' (first | exact vals_nil | exact row_nil | exact es_nil | exact CVLe.refl _ | exact LfLe.refl _ | exact LfLe.nil _ | exact EsLe.refl _ | refine vals_cons ?_ ?_ | refine row_cons ?_ ?_ | refine es_cons ?_ ?_ | refine EsLe.app ?_ ?_ | refine CVLe.row ?_ | refine CVLe.leafV ?_ | refine CVLe.leafS ?_ | refine LfLe.s ?_)
  obtain ⟨u, rfl⟩ : ∃ u : Nat, t = u := ⟨t.toNat, by omega⟩
  obtain ⟨x, hx⟩ : ∃ x, w.lanes[u]? = some x := ⟨w.lanes[u], List.getElem?_eq_getElem (by omega)⟩
  rw [of_in (by omega)]
  have e : w.lanes.getD u zeroL = x := by rw [List.getD_eq_getElem?_getD, hx]; rfl
  rw [e]
  have g2 : (0 : Int) ≤ (u : Int) := by omega
  have g3 := at_ll hx
  have o1 := hO x (hw.l _ (List.mem_of_getElem? hx))
  simp only [encWd, encLn] at g3 o1 ⊢
  refine wk (an6 @h1 @h2 @g2 @g3 @len_ll @Int.toNat_natCast) ?_
  refine cg [[aD (encLn x)]] (an7 @encLn.eq_1 @h1 @h2 @g2 @g3 @len_ll @Int.toNat_natCast) ?_ ?_
  · exact obl_cons o1 obl_nil
  refine wk0 ?_
  exact ValsLe.refl _

def onSt (l : List Sp) (t : Int) (p : List Sp) (k : Nat) : St :=
  ⟨[(1, vI t), (5, sD 7 (encSl p)), (8, sD 7 (encSl l)), (9, vI l.length), (10, vI k)], [], [((5, none), (27, 7, none))]⟩
def onJ (l : List Sp) (t : Int) : Nat → St → Prop := fun m st => ∃ k : Nat, k ≤ l.length ∧ m = l.length - k ∧ st = onSt l t (onlyW (l.take k) t) k
theorem sl_snoc2 (l : List Sp) (s : Sp) : encSl (l ++ [s]) = encSl l ++ [aD [vI s.kind, vI s.tenant, vI s.n, vI s.m, vB s.back, vI s.msg.stream, sD 1 (s.msg.data.map encB)]] := by simp [encSl, encSp]
set_option maxHeartbeats 16000000 in
theorem landV_only : CVOnly 14 := by
  intro l t hl hd
  refine told_view_Only rfl ?_
  refine wk @len_sl ?_
  refine aw_loop (onJ l t) l.length (onSt l t [] 0) ?_ ⟨0, by omega, by omega, rfl⟩ ?_
  · exact (Le.nilS 5 27 7 rfl).trans (Le.keep (lv := [1, 5, 8, 9, 10]) (lb := []) (by simp only [ev0, ev1, ev2, look, lookF, cellsFrom, offT, offP, List.tail_nil, List.length_nil, Int.cast_ofNat_Int, Nat.reduceEqDiff, Nat.reduceAdd, Nat.reduceMul, Nat.reduceLeDiff, Nat.reduceLT, ↓reduceIte, reduceCtorEq, Int.reduceBEq, Int.reduceBNe, Int.reduceLT, Int.reduceLE, Int.reduceToNat]; rfl))
  rintro m st ⟨k, hk, hm, rfl⟩
  have hpl := only_len (l.take k) t
  rw [List.length_take] at hpl
  by_cases hlt : k < l.length
  · obtain ⟨s, hs⟩ : ∃ s, l[k]? = some s := ⟨l[k], List.getElem?_eq_getElem hlt⟩
    have g1 : (k : Int) < (l.length : Int) := by omega
    have g2 : (0 : Int) ≤ (k : Int) := by omega
    have g3 := at_sl hs
    have g4 : inR .i64 ((k : Int) + 1) = true := inR_of (by omega)
    have b1 : ((onlyW (l.take k) t).length + 1) * 72 ≤ 140737488355328 := by omega
    have m1 := ownMsg_told s.msg (hd s (List.mem_of_getElem? hs))
    have hnx : ∀ p, p = onlyW (l.take (k + 1)) t → Next (onJ l t) m (onSt l t p (k + 1)) := fun p hp => ⟨l.length - (k + 1), _, by omega, Le.refl _, k + 1, by omega, rfl, by rw [hp]⟩
    have hsn := only_snoc (l.take k) s t
    rw [show l.take k ++ [s] = l.take (k + 1) by rw [List.take_add_one, hs]; rfl] at hsn
    have hnx := hnx _ hsn.symm
    simp only [encMs] at m1
    by_cases h1 : s.kind = 1
    · have q1 : (s.kind == 1) = true := by simpa using h1
      rw [if_pos (by unfold mineB; rw [q1]; rfl)] at hnx
      generalize onJ l t = J at *
      generalize onlyW (l.take k) t = p at *
      simp only [onSt, Int.natCast_add, Int.cast_ofNat_Int, sl_snoc2] at hnx ⊢
      refine wk (an6 @g1 @g2 @g3 @q1 @len_sl @Int.toNat_natCast) ?_
      refine cg0 [[aD [vI s.msg.stream, sD 1 (s.msg.data.map encB)]]] ?_ ?_
      · exact obl_cons m1 obl_nil
      refine wk (an3 @g4 @b1 @len_sl) ?_
      exact hnx
    · have q1 : (s.kind == 1) = false := by simpa using h1
      by_cases h2 : s.tenant = t
      · have q2 : (s.tenant == t) = true := by simpa using h2
        rw [if_pos (by unfold mineB; rw [q1, q2]; rfl)] at hnx
        generalize onJ l t = J at *
        generalize onlyW (l.take k) t = p at *
        simp only [onSt, Int.natCast_add, Int.cast_ofNat_Int, sl_snoc2] at hnx ⊢
        refine wk (an7 @g1 @g2 @g3 @q1 @q2 @len_sl @Int.toNat_natCast) ?_
        refine cg0 [[aD [vI s.msg.stream, sD 1 (s.msg.data.map encB)]]] ?_ ?_
        · exact obl_cons m1 obl_nil
        refine wk (an3 @g4 @b1 @len_sl) ?_
        exact hnx
      · have q2 : (s.tenant == t) = false := by simpa using h2
        rw [if_neg (by unfold mineB; rw [q1, q2]; simp), List.append_nil] at hnx
        generalize onJ l t = J at *
        generalize onlyW (l.take k) t = p at *
        simp only [onSt, Int.natCast_add, Int.cast_ofNat_Int] at hnx ⊢
        refine wk (an8 @g1 @g2 @g3 @g4 @q1 @q2 @len_sl @Int.toNat_natCast) ?_
        exact hnx
  · have hin : k = l.length := by omega
    subst hin
    have g1 : ¬ (l.length : Int) < (l.length : Int) := by omega
    rw [List.take_length]
    generalize onJ l t = J at *
    generalize onlyW l t = p at *
    simp only [onSt]
    refine wk @g1 ?_
    exact ValsLe.refl _

def lvSt (l : List Sp) (es : List Int) (t : Int) (p : List Ms) (k : Nat) : St :=
  ⟨[(1, sD 1 (es.map vI)), (2, vI t), (7, sD 2 (encMl p)), (16, sD 7 (encSl l)), (17, vI l.length), (18, vI k)], [], [((7, none), (25, 2, none))]⟩
def lvJ (l : List Sp) (es : List Int) (t : Int) : Nat → St → Prop := fun m st => ∃ k : Nat, k ≤ l.length ∧ m = l.length - k ∧ st = lvSt l es t (putsK l es t k) k
theorem putsW_cut (l : List Sp) (es : List Int) (t : Int) : putsW (l.take (min l.length es.length)) es t = putsW l es t := by
  have key : ∀ (l : List Sp) (es : List Int), (l.take (min l.length es.length)).zip es = l.zip es := by
    intro l
    induction l with
    | nil => intro es; simp
    | cons a l ih =>
      intro es
      cases es with
      | nil => simp
      | cons e es =>
        rw [show min (a :: l).length (e :: es).length = min l.length es.length + 1 by simp only [List.length_cons]; omega, List.take_succ_cons, List.zip_cons_cons, ih es, List.zip_cons_cons]
  unfold putsW
  rw [key l es]
theorem take_sl (l : List Sp) (n : Nat) : (encSl l).take n = encSl (l.take n) := by simp [encSl, List.map_take]
set_option maxHeartbeats 16000000 in
/-- From the head of the loop on: of as many steps as have an error's place. -/
theorem lputs_loop (l : List Sp) (es : List Int) (t : Int) (hl : l.length ≤ 1048576) (hd : SmallD l) (he : l.length ≤ es.length) (Q : AX → St → Prop)
    (hQ : Q none ⟨[(1, sD 1 (es.map vI)), (2, vI t), (7, sD 2 (encMl (putsW l es t))), (16, sD 7 (encSl l)), (17, vI l.length), (18, vI l.length), (19, vB false)], [], [((7, none), (25, 2, none))]⟩) :
    cLoop view_Puts_l2a (lvSt l es t [] 0) (blk 0 Q) := by
  refine aw_loop (lvJ l es t) l.length _ (Le.refl _) ⟨0, by omega, by omega, rfl⟩ ?_
  rintro m st ⟨k, hk, hm, rfl⟩
  by_cases hlt : k < l.length
  · obtain ⟨s, hs⟩ : ∃ s, l[k]? = some s := ⟨l[k], List.getElem?_eq_getElem hlt⟩
    obtain ⟨e, hee⟩ : ∃ e, es[k]? = some e := ⟨es[k], List.getElem?_eq_getElem (by omega)⟩
    have hpl : (putsK l es t k).length ≤ k := by
      unfold putsK
      rw [List.length_map]
      refine Nat.le_trans (List.length_filter_le _ _) ?_
      rw [List.length_take]; omega
    have g1 : (k : Int) < (l.length : Int) := by omega
    have g2 : (0 : Int) ≤ (k : Int) := by omega
    have g3 := at_sl hs
    have g4 : inR .i64 ((k : Int) + 1) = true := inR_of (by omega)
    have g6 := at_es hee
    have m1 := ownMsg_told s.msg (hd s (List.mem_of_getElem? hs))
    have hnx : ∀ p, p = putsK l es t (k + 1) → Next (lvJ l es t) m (lvSt l es t p (k + 1)) := fun p hp => ⟨l.length - (k + 1), _, by omega, Le.refl _, k + 1, by omega, rfl, by rw [hp]⟩
    have hstep := putsK_at t hs hee
    simp only [encMs] at m1
    by_cases c2 : s.kind = 2
    · have f2 : (s.kind == 2) = true := by simpa using c2
      by_cases c3 : s.tenant = t
      · have f3 : (s.tenant == t) = true := by simpa using c3
        by_cases c1 : e = 0
        · have f1 : (e == 0) = true := by simpa using c1
          rw [if_pos ⟨c1, c2, c3⟩] at hstep
          have hnx := hnx _ hstep.symm
          generalize lvJ l es t = J at *
          generalize putsK l es t k = p at *
          have b1 : (p.length + 1) * 32 ≤ 140737488355328 := by omega
          simp only [lvSt, Int.natCast_add, Int.cast_ofNat_Int, ml_snoc3] at hnx ⊢
          refine wk (an10 @g1 @g2 @g3 @g6 @f1 @f2 @f3 @len_sl @zmap @Int.toNat_natCast) ?_
          refine cg [[aD [vI s.msg.stream, sD 1 (s.msg.data.map encB)]]] (an2 @b1 @len_ml) ?_ ?_
          · exact obl_cons m1 obl_nil
          refine wk @g4 ?_
          exact hnx
        · have f1 : (e == 0) = false := by simpa using c1
          rw [if_neg (fun w => c1 w.1), List.append_nil] at hstep
          have hnx := hnx _ hstep.symm
          generalize lvJ l es t = J at *
          generalize putsK l es t k = p at *
          simp only [lvSt, Int.natCast_add, Int.cast_ofNat_Int] at hnx ⊢
          refine wk (an11 @g1 @g2 @g3 @g4 @g6 @f1 @f2 @f3 @len_sl @zmap @Int.toNat_natCast) ?_
          exact hnx
      · have f3 : (s.tenant == t) = false := by simpa using c3
        rw [if_neg (fun w => c3 w.2.2), List.append_nil] at hstep
        have hnx := hnx _ hstep.symm
        generalize lvJ l es t = J at *
        generalize putsK l es t k = p at *
        simp only [lvSt, Int.natCast_add, Int.cast_ofNat_Int] at hnx ⊢
        refine wk (an9 @g1 @g2 @g3 @g4 @f2 @f3 @len_sl @zmap @Int.toNat_natCast) ?_
        exact hnx
    · have f2 : (s.kind == 2) = false := by simpa using c2
      rw [if_neg (fun w => c2 w.2.1), List.append_nil] at hstep
      have hnx := hnx _ hstep.symm
      generalize lvJ l es t = J at *
      generalize putsK l es t k = p at *
      simp only [lvSt, Int.natCast_add, Int.cast_ofNat_Int] at hnx ⊢
      refine wk (an8 @g1 @g2 @g3 @g4 @f2 @len_sl @zmap @Int.toNat_natCast) ?_
      exact hnx
  · have hin : k = l.length := by omega
    subst hin
    have g1 : ¬ (l.length : Int) < (l.length : Int) := by omega
    rw [putsK_all]
    generalize lvJ l es t = J at *
    generalize putsW l es t = p at *
    simp only [lvSt]
    refine wk @g1 ?_
    exact hQ
set_option maxHeartbeats 16000000 in
theorem landV_puts : CVPuts 17 := by
  intro l es t hl hd he
  refine told_view_Puts rfl ?_
  have hcut := putsW_cut l es t
  have hlen : (l.take (min l.length es.length)).length = min l.length es.length := by rw [List.length_take]; omega
  have hdL : SmallD (l.take (min l.length es.length)) := fun s hs => hd s (List.mem_of_mem_take hs)
  have hloop := lputs_loop (l.take (min l.length es.length)) es t (by omega) hdL (by omega)
  rw [hcut, hlen] at hloop
  unfold lvSt at hloop
  rw [hlen] at hloop
  have g0 : (0 : Int) ≤ ((min l.length es.length : Nat) : Int) := by omega
  have g1 : ((min l.length es.length : Nat) : Int) ≤ (l.length : Int) := by omega
  have g2 : min (l.length : Int) (es.length : Int) = ((min l.length es.length : Nat) : Int) := by omega
  have g3 : (encSl (l.take (min l.length es.length))).length = min l.length es.length := by rw [len_sl, hlen]
  have g4 : ((encSl l).take (min l.length es.length)).length = min l.length es.length := by rw [take_sl]; exact g3
  generalize min l.length es.length = M at *
  generalize putsW l es t = p at *
  refine wk (an9 @g0 @g1 @g2 @g4 @len_sl @zmap @Int.toNat_natCast @zd0 @Int.natCast_zero) ?_
  rw [take_sl]
  generalize l.take M = L at *
  refine le_loop ((Le.nilS 7 25 2 rfl).trans (Le.keep (lv := [1, 2, 7, 16, 17, 18]) (lb := []) (by simp only [ev0, ev1, ev2, look, lookF, cellsFrom, offT, offP, List.tail_nil, List.length_nil, Int.cast_ofNat_Int, Nat.reduceEqDiff, Nat.reduceAdd, Nat.reduceMul, Nat.reduceLeDiff, Nat.reduceLT, ↓reduceIte, reduceCtorEq, Int.reduceBEq, Int.reduceBNe, Int.reduceLT, Int.reduceLE, Int.reduceToNat]; rfl))) (hloop _ ?_)
  refine wk0 ?_
  exact ValsLe.refl _
end Go.Proofs.Ytngfedhffehkaac.ab

/-
  Functions as plain code (written by wip/abs/ir.py): lane.Own, list.Own[[]byte]=list_OwnP, bytes.Clone=bytes_CloneL.
-/
namespace Go.Proofs.Ytngfedhffehkaac.ab
set_option linter.unusedSimpArgs false
set_option linter.unusedVariables false
set_option maxRecDepth 100000
open Go Go.RowKit

def lane_Own_r0 : IC := cReg Try.prog [
    ⟨some 1, none, iBox 1 (.tmp 0)⟩,
    ⟨some 2, none, iAlo 2 [vD (.slice none 0 0), vD (.int .i64 0), vD (.int .i64 0), vD (.int .i64 0), vD (.int .i64 0), vD (.slice none 0 0), vD (.int .i64 0), vD (.int .i64 0), vD (.slice none 0 0), vD (.int .i64 0), vD (.int .i64 0), vD (.int .i64 0), vD (.slice none 0 0), vD (.slice none 0 0), vD (.bool false), vD (.slice none 0 0), vD (.slice none 0 0)]⟩] [1, 2] [1, 2]
def lane_Own_r1 : IC := cRegD Try.prog [
    ⟨some 3, none, iFad 3 0 (.tmp 1)⟩,
    ⟨some 4, none, iLoad 4 7 true (.tmp 3) false⟩,
    ⟨some 5, none, iCall 5 44 [(.tmp 4)]⟩,
    ⟨some 6, none, iFad 6 7 (.tmp 1)⟩,
    ⟨some 7, none, iLoad 7 8 true (.tmp 6) false⟩,
    ⟨some 8, none, iCall 8 45 [(.tmp 7)]⟩,
    ⟨some 9, none, iFad 9 15 (.tmp 1)⟩,
    ⟨some 10, none, iLoad 10 1 false (.tmp 9) false⟩,
    ⟨some 11, none, iCall 11 46 [(.tmp 10), (.func 47)]⟩,
    ⟨some 12, none, iFad 12 16 (.tmp 1)⟩,
    ⟨some 13, none, iLoad 13 1 false (.tmp 12) false⟩,
    ⟨some 14, none, iCall 14 46 [(.tmp 13), (.func 47)]⟩,
    ⟨some 15, none, iBld 15 [vD (.slice none 0 0), vD (.int .i64 0), vD (.int .i64 0), vD (.int .i64 0), vD (.int .i64 0), vD (.slice none 0 0), vD (.int .i64 0), vD (.int .i64 0), vD (.slice none 0 0), vD (.int .i64 0), vD (.int .i64 0), vD (.int .i64 0), vD (.slice none 0 0), vD (.slice none 0 0), vD (.bool false), vD (.slice none 0 0), vD (.slice none 0 0)] [(0, 7), (7, 8), (15, 1), (16, 1)] [(.tmp 5), (.tmp 8), (.tmp 11), (.tmp 14)]⟩,
    ⟨none, none, iStor 17 (.tmp 2) (.tmp 15)⟩] [[], [0], [1, 0], [], [3], [4, 2, 3, 1, 0], [], [6], [7, 5, 6, 4, 2, 3, 1, 0], [], [9], [10, 8, 9, 7, 5, 6, 4, 2, 3, 1, 0], [2, 5, 8, 11, 1, 0, 4, 3, 7, 6, 10, 9], [12, 11, 0, 1, 2, 3, 4, 5, 6, 7, 8, 9, 10]] [2] [2]
def lane_Own : IC := (cSeq lane_Own_r0 (cSeq lane_Own_r1 cRet))
theorem told_lane_Own {args r : List D} (hl : args.length = 1) (h : lane_Own (start args) (fin [(2, some (17, true))] r)) : Told Try.prog 29 args r :=
  told_of follows Try.func29 rfl (an := [([], [1, 2], [1, 2], []), ([], [2], [2], [])]) (by kernel_rfl) (by kernel_rfl) (by rw [hl]; decide +kernel) h

def list_OwnP_r0 : IC := cReg Try.prog [
    ⟨some 4, none, iMov 4 (.const (.slice none 0 0)) true⟩] [0, 1] []
def list_OwnP_r1 : IC := cReg Try.prog [
    ⟨some 5, none, iMov 5 (.const (.slice none 0 0)) true⟩] [0, 1, 5] []
def list_OwnP_r2 : IC := cReg Try.prog [
    ⟨some 8, none, iMov 8 (.tmp 0) false⟩,
    ⟨some 9, none, iLen 9 false (.tmp 8)⟩,
    ⟨some 10, none, iMov 10 (.const (.int .i64 0)) false⟩] [1, 5, 8, 9, 10] []
def list_OwnP_r3 : IC := cReg Try.prog [
    ⟨some 11, none, iBin 11 .lss (.tmp 10) (.tmp 9)⟩] [1, 5, 8, 9, 10, 11] []
def list_OwnP_c3 : IC := cCond (.tmp 11) cSkip (cExit 0)
def list_OwnP_r4 : IC := cReg Try.prog [
    ⟨some 12, none, iIaS 12 1 (.tmp 8) (.tmp 10)⟩,
    ⟨some 13, none, iLoad 13 1 false (.tmp 12) false⟩,
    ⟨some 7, none, iMov 7 (.tmp 13) true⟩] [1, 5, 7, 8, 9, 10] []
def list_OwnP_r5 : IC := cReg Try.prog [
    ⟨some 14, none, iMov 14 (.tmp 5) true⟩,
    ⟨some 15, none, iMov 15 (.tmp 1) false⟩,
    ⟨some 16, none, iMov 16 (.tmp 7) false⟩,
    ⟨some 17, none, iCallV 17 Try.prog 15 [(.tmp 16)]⟩,
    ⟨some 18, none, iRow 18 23 1 [(.tmp 17)]⟩,
    ⟨some 19, none, iApp 19 23 1 24 (.tmp 14) (.tmp 18)⟩,
    ⟨some 5, none, iMov 5 (.tmp 19) true⟩] [1, 5, 8, 9, 10] []
def list_OwnP_b4 : IC := cBlock 1 (cSeq list_OwnP_r4 list_OwnP_r5)
def list_OwnP_r6 : IC := cReg Try.prog [
    ⟨some 20, none, iBin 20 .add (.tmp 10) (.const (.int .i64 1))⟩,
    ⟨some 10, none, iMov 10 (.tmp 20) false⟩] [1, 5, 8, 9, 10] []
def list_OwnP_l2a : IC := (cSeq list_OwnP_r3 (cSeq list_OwnP_c3 (cSeq list_OwnP_b4 list_OwnP_r6)))
def list_OwnP_l2 : IC := cLoop list_OwnP_l2a
def list_OwnP_b1 : IC := cBlock 0 list_OwnP_l2
def list_OwnP_r7 : IC := cReg Try.prog [
    ⟨some 21, none, iMov 21 (.tmp 5) false⟩,
    ⟨some 4, none, iMov 4 (.tmp 21) true⟩] [4] []
def list_OwnP : IC := (cSeq list_OwnP_r0 (cSeq list_OwnP_r1 (cSeq (cSeq list_OwnP_r2 list_OwnP_b1) (cSeq list_OwnP_r7 cRet))))
theorem told_list_OwnP {args r : List D} (hl : args.length = 2) (h : list_OwnP (start args) (fin [(4, none)] r)) : Told Try.prog 46 args r :=
  told_of follows Try.func46 rfl (an := [([], [0, 1], [], []), ([], [0, 1, 5], [], []), ([], [1, 5, 8, 9, 10], [], []), ([], [1, 5, 8, 9, 10, 11], [], []), ([], [1, 5, 7, 8, 9, 10], [], []), ([], [1, 5, 8, 9, 10], [], []), ([], [1, 5, 8, 9, 10], [], []), ([], [4], [], [])]) (by kernel_rfl) (by kernel_rfl) (by rw [hl]; decide +kernel) h

def bytes_CloneL_r0 : IC := cReg Try.prog [
    ⟨some 2, none, iMov 2 (.const (.slice none 0 0)) true⟩] [0] []
def bytes_CloneL_r1 : IC := cReg Try.prog [
    ⟨some 3, none, iMov 3 (.tmp 0) false⟩,
    ⟨some 4, none, iNil 4 true (.tmp 3)⟩] [0, 4] []
def bytes_CloneL_r2 : IC := cReg Try.prog [
    ⟨some 2, none, iMov 2 (.const (.slice none 0 0)) true⟩] [2] []
def bytes_CloneL_c1a : IC := (cSeq bytes_CloneL_r2 cRet)
def bytes_CloneL_c1 : IC := cCond (.tmp 4) bytes_CloneL_c1a cSkip
def bytes_CloneL_r3 : IC := cReg Try.prog [
    ⟨some 5, none, iRow 5 5 1 []⟩,
    ⟨some 6, none, iMov 6 (.tmp 0) false⟩,
    ⟨some 7, none, iApp 7 5 1 1 (.tmp 5) (.tmp 6)⟩,
    ⟨some 2, none, iMov 2 (.tmp 7) true⟩] [2] []
def bytes_CloneL : IC := (cSeq bytes_CloneL_r0 (cSeq (cSeq bytes_CloneL_r1 bytes_CloneL_c1) (cSeq bytes_CloneL_r3 cRet)))
theorem told_bytes_CloneL {args r : List D} (hl : args.length = 1) (h : bytes_CloneL (start args) (fin [(2, none)] r)) : Told Try.prog 47 args r :=
  told_of follows Try.func47 rfl (an := [([], [0], [], []), ([], [0, 4], [], []), ([], [2], [], []), ([], [2], [], [])]) (by kernel_rfl) (by kernel_rfl) (by rw [hl]; decide +kernel) h

end Go.Proofs.Ytngfedhffehkaac.ab
