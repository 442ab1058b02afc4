/-
  Several texts in one.
-/
import Derived.Test.YtngfedhffehkaacM40
import Derived.Test.YtngfedhffehkaacM23
import Derived.Test.YtngfedhffehkaacM39
import Derived.Test.YtngfedhffehkaacM34
import Derived.Test.YtngfedhffehkaacM38

/-
  What the answer's Play tells.
-/
namespace Go.Proofs.Ytngfedhffehkaac.ab
set_option linter.unusedVariables false
set_option linter.unusedSimpArgs false
open Go Go.RowKit
open mth

def encSl (l : List Sp) : List D := l.map fun s => aD (encSp s)
theorem len_sl (l : List Sp) : (encSl l).length = l.length := by simp [encSl]
theorem at_sl {l : List Sp} {i : Nat} {s : Sp} (h : l[i]? = some s) : (encSl l)[i]? = some (aD [vI s.kind, vI s.tenant, vI s.n, vI s.m, vB s.back, vI s.msg.stream, sD 1 (s.msg.data.map encB)]) := by simp [encSl, h, encSp]
/-- At the head of the loop. -/
def plSt (l : List Sp) (w : Wd) (es : List Int) (k : Nat) : St :=
  ⟨[(4, pD 4 0), (6, pD 6 0), (8, sD 1 (es.map vI)), (18, sD 7 (encSl l)), (19, vI l.length), (20, vI k)], [(4, [vD (.slice none 0 0), vI 0]), (6, encWd w)], [((8, none), (35, 1, none))]⟩
def plJ (n : Nat) (l : List Sp) : Nat → St → Prop := fun m st => ∃ k : Nat, k ≤ l.length ∧ k ≤ 160 ∧ m = l.length - k ∧ st = plSt l (runW (newW n) (l.take k)).1 (runW (newW n) (l.take k)).2 k
set_option maxHeartbeats 8000000 in
theorem play_told (hS : CSpoilR 34) (n : Nat) (hn : 1 ≤ n ∧ n ≤ 3) (l : List Sp) (hl : l.length ≤ 9223372036854775807) : Told Try.prog 9 [vI n, sD 7 (encSl l)] [aD (encWd (runW (newW n) (l.take 160)).1), sD 1 ((runW (newW n) (l.take 160)).2.map vI)] := by
  refine told_r6_Play rfl ?_
  have hN := new_told n hn
  have hgood := good_run (good_new hn) l
  simp only [encWd] at hN
  refine wk0 ?_
  refine cg [[aD (encWd (newW n)), vI 0]] @encWd.eq_1 ?_ ?_
  · exact obl_cons hN obl_nil
  refine wk @len_sl ?_
  refine aw_loop (plJ n l) l.length (plSt l (newW n) [] 0) ?_ ⟨0, by omega, by omega, rfl, rfl⟩ ?_
  · exact (Le.nilS 8 35 1 rfl).trans (Le.keep (lv := [4, 6, 8, 18, 19, 20]) (lb := [4, 6]) (by simp only [ev0, ev1, ev2, look, lookF, cellsFrom, offT, offP, List.tail_nil, List.length_nil, Int.cast_ofNat_Int, Nat.reduceEqDiff, Nat.reduceAdd, Nat.reduceMul, Nat.reduceLeDiff, Nat.reduceLT, ↓reduceIte, reduceCtorEq, Int.reduceBEq, Int.reduceBNe, Int.reduceLT, Int.reduceLE, Int.reduceToNat]; rfl))
  rintro m st ⟨k, hk, hk160, hm, rfl⟩
  obtain ⟨hw, htk, hel⟩ := hgood k
  by_cases hlt : k < l.length
  · obtain ⟨s, hs⟩ : ∃ s, l[k]? = some s := ⟨l[k], List.getElem?_eq_getElem hlt⟩
    have g1 : (k : Int) < (l.length : Int) := by omega
    have g2 : (0 : Int) ≤ (k : Int) := by omega
    have g3 := at_sl hs
    have g4 : inR .i64 ((k : Int) + 1) = true := inR_of (by omega)
    by_cases h160 : k = 160
    · subst h160
      have g5 : ((160 : Int) == 160) = true := rfl
      have g6 : (160 : Int) < (l.length : Int) := by omega
      have g7 : (0 : Int) ≤ 160 := by omega
      have e160 : ((160 : Nat) : Int) = 160 := rfl
      generalize plJ n l = J at *
      generalize (runW (newW n) (l.take 160)).1 = w at *
      generalize (runW (newW n) (l.take 160)).2 = es at *
      simp only [plSt, encWd, e160]
      refine wk (an5 @g5 @g6 @g7 @g3 @len_sl) ?_
      exact ValsLe.refl _
    · have g5 : ((k : Int) == 160) = false := by rw [beq_eq_false_iff_ne]; omega
      have ht0 : (newW n).ticks = 0 := rfl
      have hD := do_told hS _ hw (by rw [ht0] at htk; omega) s
      have hnx : Next (plJ n l) m (plSt l (doW (runW (newW n) (l.take k)).1 s).1 ((runW (newW n) (l.take k)).2 ++ [(doW (runW (newW n) (l.take k)).1 s).2]) (k + 1)) := by
        refine ⟨l.length - (k + 1), _, by omega, Le.refl _, k + 1, by omega, by omega, rfl, ?_⟩
        rw [List.take_add_one, hs, Option.toList_some, runW_snoc]
      generalize plJ n l = J at *
      generalize (runW (newW n) (l.take k)).1 = w at *
      generalize (runW (newW n) (l.take k)).2 = es at *
      generalize doW w s = R at *
      obtain ⟨w', e⟩ := R
      have b1 : (es.length + 1) * 8 ≤ 140737488355328 := by omega
      simp only [plSt, encWd, encSp, Int.natCast_add, Int.cast_ofNat_Int, List.map_append, List.map_cons, List.map_nil] at hD hnx ⊢
      refine wk (an6 @g1 @g2 @g3 @g5 @len_sl @Int.toNat_natCast) ?_
      refine cg [[aD (encWd w'), vI e]] (an7 @encWd.eq_1 @g1 @g2 @g3 @g5 @len_sl @Int.toNat_natCast) ?_ ?_
      · exact obl_cons hD obl_nil
      refine wk (an3 @g4 @b1 @zmap) ?_
      exact hnx
  · have : k = l.length := by omega
    subst this
    have g1 : ¬ (l.length : Int) < (l.length : Int) := by omega
    have e1 : l.take 160 = l.take l.length := by rw [List.take_of_length_le (by omega), List.take_of_length_le (Nat.le_refl _)]
    rw [e1]
    generalize plJ n l = J at *
    generalize (runW (newW n) (l.take l.length)).1 = w at *
    generalize (runW (newW n) (l.take l.length)).2 = es at *
    simp only [plSt, encWd]
    refine wk @g1 ?_
    exact ValsLe.refl _
end Go.Proofs.Ytngfedhffehkaac.ab

/-
  Steps that came in.
-/
namespace Go.Proofs.Ytngfedhffehkaac.ab
set_option linter.unusedSimpArgs false
set_option linter.unusedVariables false
open Go Go.ChangeShapes Go.WideShapes Go.RowKit
open mth

theorem cellsSp : Try.prog.cellsOf 27 = 7 := by kernel_rfl
theorem cells4 : Try.prog.cellsOf 4 = 1 := by kernel_rfl
section
variable {H : Type} {enc : TypeId × Value → H} {W : World}
set_option maxRecDepth 100000 in
/-- The cells of a step. -/
theorem in_step {n : Nat} {cs : List Value} {y : DataW H × List MemPlace} (hf : DataW.trod enc Try.prog W 0 (fun _ => true) true n 27 cs = some y) (hl7 : cs.length = 7) :
    ∃ s : Sp, Row (AllOf W) W (encSp s) cs ∧ s.msg.data.length ≤ Rows.uptoBulk y.1 := by
  obtain ⟨v0, v1, v2, v3, v4, v5, v6, rfl⟩ : ∃ v0 v1 v2 v3 v4 v5 v6, cs = [v0, v1, v2, v3, v4, v5, v6] := by
    match cs, hl7 with
    | [v0, v1, v2, v3, v4, v5, v6], _ => exact ⟨v0, v1, v2, v3, v4, v5, v6, rfl⟩
  obtain ⟨ys, n', _, hx, hl, hlen, hfs⟩ := DataW.trod_struct Try.underlying27 hf
  have f0 := hfs 0 _ rfl
  have f1 := hfs 1 _ rfl
  have f2 := hfs 2 _ rfl
  have f3 := hfs 3 _ rfl
  have f4 := hfs 4 _ rfl
  have f5 := hfs 5 _ rfl
  obtain ⟨y0, y1, y2, y3, y4, y5, rfl⟩ : ∃ y0 y1 y2 y3 y4 y5, ys = [y0, y1, y2, y3, y4, y5] := by
    match ys, hlen with
    | [y0, y1, y2, y3, y4, y5], _ => exact ⟨y0, y1, y2, y3, y4, y5, rfl⟩
  simp [cells3, cells4, cellsMs] at f0 f1 f2 f3 f4 f5
  obtain ⟨a0, h0, _, k0⟩ := DataW.trod_int Try.underlying3 f0
  obtain ⟨a1, h1, _, k1⟩ := DataW.trod_int Try.underlying3 f1
  obtain ⟨a2, h2, _, k2⟩ := DataW.trod_int Try.underlying3 f2
  obtain ⟨a3, h3, _, k3⟩ := DataW.trod_int Try.underlying3 f3
  obtain ⟨a4, h4, _⟩ := DataW.trod_bool Try.underlying4 f4
  simp at h0 h1 h2 h3 h4
  subst h0 h1 h2 h3 h4
  obtain ⟨m, hm, _, hb⟩ := in_msg f5 rfl
  exact ⟨⟨a0, a1, a2, a3, a4, m⟩, (Row.single (CRep.v rfl)).app ((Row.single (CRep.v rfl)).app ((Row.single (CRep.v rfl)).app ((Row.single (CRep.v rfl)).app ((Row.single (CRep.v rfl)).app hm)))), by
    rw [hx]
    simp only [Rows.uptoBulk, Rows.uptoBulkAll, List.map_cons, List.map_nil]
    omega⟩
/-- Steps that came in, and what their messages have. -/
theorem in_stepsB {n : Nat} {v : Value} {y : DataW H × List MemPlace} (hf : DataW.trod enc Try.prog W 0 (fun _ => true) true n 22 [v] = some y) :
    ∃ cs : List Sp, CRep (AllOf W) W (sD 7 (encSl cs)) v ∧ cs.length ≤ Rows.uptoBulk y.1 ∧ ∀ c ∈ cs, c.msg.data.length ≤ Rows.uptoBulk y.1 :=
  in_sliceB (α := Sp) (encA := fun c => aD (encSp c)) (Pa := fun c => c.msg.data.length ≤ Rows.uptoBulk y.1) (size := 7) Try.underlying22 cellsSp (by omega) (fun n cs' y' h hl hb => by
    obtain ⟨s, h1, h2⟩ := in_step h hl
    exact ⟨s, h1, by omega⟩) hf
end
end Go.Proofs.Ytngfedhffehkaac.ab

/-
  A step that came in by itself.
-/
namespace Go.Proofs.Ytngfedhffehkaac.ab
set_option linter.unusedSimpArgs false
set_option linter.unusedVariables false
open Go Go.ChangeShapes Go.WideShapes Go.RowKit
open mth

section
variable {H : Type} {enc : TypeId × Value → H} {W : World} {base : Nat}
end
end Go.Proofs.Ytngfedhffehkaac.ab

/-
  What the answer tells of good senders.
-/
namespace Go.Proofs.Ytngfedhffehkaac.ab
set_option linter.unusedVariables false
set_option linter.unusedSimpArgs false
open Go Go.RowKit
open mth

theorem refSame_told {s : Sd} (h : GoodS s) : Told Try.prog 26 [aD (encSd s), aD (encSd s)] [vB true] :=
  sameSd_told s (by have := h.q; omega) (by have := h.f; omega) (fun c hc => by rw [h.early c hc]; simp)
end Go.Proofs.Ytngfedhffehkaac.ab

/-
  What the functions of package recv are held to.
-/
namespace Go.Proofs.Ytngfedhffehkaac.ab
set_option linter.unusedVariables false
set_option linter.unusedSimpArgs false
open Go Go.RowKit
open mth

theorem good_hearly {r : Rv} (h : GoodR r) : ∀ c ∈ r.hold, c.early.length ≤ 9223372036854775807 := fun c hc => by
  have := h.h c hc
  rw [(wrong_one this.1 this.2).2.2.1]; simp
theorem good_sizes {r : Rv} (h : GoodR r) : r.early.length ≤ 3 ∧ r.hold.length ≤ 43 ∧ r.told.length ≤ 43 := by
  have := h.n; have := h.t; have := h.l
  omega
theorem sameR_told {r : Rv} (h : GoodR r) : Told Try.prog 27 [aD (encRv r), aD (encRv r)] [vB true] := by
  have := good_sizes h
  exact sameRv_told r (by omega) (by omega) (by omega) (good_hearly h)
/- What the functions of package recv are held to: number f of the program. -/
end Go.Proofs.Ytngfedhffehkaac.ab

/-
  What the functions of package lane are held to.
-/
namespace Go.Proofs.Ytngfedhffehkaac.ab
set_option linter.unusedVariables false
set_option linter.unusedSimpArgs false
open Go Go.RowKit
open mth

theorem sameLn_good {l : Ln} (h : GoodL l) : Told Try.prog 12 [aD (encLn l), aD (encLn l)] [vB true] :=
  sameLn_told l (refSame_told h.s) (sameR_told h.r) (by have := h.t; omega) (by have := h.b; omega)
/-! ### What the functions of package lane are held to -/
def CLOwn (f : Nat) : Prop := ∀ l, GoodL l → Told Try.prog f [aD (encLn l)] [aD (encLn l)]
end Go.Proofs.Ytngfedhffehkaac.ab

/-
  Plain mathematics for what the statements on worlds ask. Nothing of the program.
-/
namespace Go.Proofs.Ytngfedhffehkaac.mth
set_option linter.unusedSimpArgs false
set_option linter.unusedVariables false
theorem getD_get {α : Type} {l : List α} {j : Nat} {d : α} (h : j < l.length) : l[j]? = some (l.getD j d) := by
  rw [List.getD_eq_getElem?_getD, List.getElem?_eq_getElem h]; rfl
theorem do_len (w : Wd) (s : Sp) : (doW w s).1.lanes.length = w.lanes.length := by
  unfold doW
  split
  · rfl
  · split
    · rfl
    · simp
theorem lenW_run (w : Wd) (l : List Sp) : (runW w l).1.lanes.length = w.lanes.length := by
  have : ∀ (l : List Sp) (x : Wd × List Int), (l.foldl (fun x s => ((doW x.1 s).1, x.2 ++ [(doW x.1 s).2])) x).1.lanes.length = x.1.lanes.length := by
    intro l
    induction l with
    | nil => intro x; rfl
    | cons s l ih => intro x; rw [List.foldl_cons, ih]; exact do_len _ _
  exact this l (w, [])
end Go.Proofs.Ytngfedhffehkaac.mth
