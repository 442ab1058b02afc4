/-
  Several texts in one.
-/
import Derived.Test.YtngfedhffehkaacM44
import Derived.Test.YtngfedhffehkaacM23
import Derived.Test.YtngfedhffehkaacM41
import Derived.ChangeOld
import Derived.SizedLaws
import Derived.Test.YtngfedhffehkaacProg

/-
  The closed fact that the statements on views ask first.
-/
namespace Go.Proofs.Ytngfedhffehkaac.ab
set_option linter.unusedVariables false
set_option linter.unusedSimpArgs false
open Go Go.RowKit
open mth

def av0 : Sp := ⟨1, 0, 0, 0, false, ⟨0, []⟩⟩
def av1 : Sp := ⟨2, 1, 0, 0, false, ⟨0, []⟩⟩
def av2 : Sp := ⟨2, 0, 0, 0, false, ⟨0, []⟩⟩
theorem av_only : onlyW [av0, av1, av2] 1 = [av0, av1] := rfl
theorem av_puts : putsW [av0, av1, av2] [0, 0, 9] 1 = [⟨0, []⟩] := rfl
set_option maxHeartbeats 16000000 in
theorem alive10_told (hO : CVOf 13) (hL : CVOnly 14) (hP : CVPuts 17) : Told Try.prog 19 [] [vB true] := by
  refine told_w10_alive rfl ?_
  have g0 : GoodW (newW 2) := good_new (by decide)
  have h0 := new_told 2 (by decide)
  have h1 := hO (newW 2) 1 g0
  have h2 := hO (newW 2) 2 g0
  have h3 := hL [av0, av1, av2] 1 (by decide) (by unfold SmallD; decide)
  have h4 := hP [av0, av1, av2] [0, 0, 9] 1 (by decide) (by unfold SmallD; decide) (by decide)
  rw [show ofW (newW 2) 1 = (zeroL, true) from rfl] at h1
  rw [show ofW (newW 2) 2 = (zeroL, false) from rfl] at h2
  rw [av_only] at h3
  rw [av_puts] at h4
  have cn : ((2 : Nat) : Int) = 2 := rfl
  rw [cn] at h0
  generalize newW 2 = w0 at *
  generalize zeroL = z at *
  simp only [encWd, encSl, encSp, encMl, encMs, encLn, av0, av1, av2, List.map_cons, List.map_nil] at h0 h1 h2 h3 h4
  refine wk0 ?_
  refine cg [[aD (encWd w0), vI 0]] @encWd.eq_1 ?_ ?_
  · exact obl_cons h0 obl_nil
  refine wk0 ?_
  refine cg [[aD (encLn z), vB true]] @encLn.eq_1 ?_ ?_
  · exact obl_cons h1 obl_nil
  refine wk0 ?_
  refine cg [[aD (encLn z), vB false]] @encLn.eq_1 ?_ ?_
  · exact obl_cons h2 obl_nil
  refine wk Bool.not_false ?_
  refine cg [[sD 7 [aD (encSp av0), aD (encSp av1)]]] (an7 @encSp.eq_1 @av0.eq_1 @av1.eq_1 @zmn Bool.not_false @zcons @znil) ?_ ?_
  · refine ⟨⟨_, ?_, h3⟩, trivial⟩
    repeat' (first | exact vals_nil | exact row_nil | exact es_nil | exact CVLe.refl _ | exact LfLe.refl _ | exact LfLe.nil _ | exact EsLe.refl _ | refine vals_cons ?_ ?_ | refine row_cons ?_ ?_ | refine es_cons ?_ ?_ | refine EsLe.app ?_ ?_ | refine CVLe.row ?_ | refine CVLe.leafV ?_ | refine CVLe.leafS ?_ | refine LfLe.s ?_)
  refine wk (an2 @zcons @znil) ?_
  refine cg [[sD 2 [aD (encMs ⟨0, []⟩)]]] (an4 @encMs.eq_1 @zmn @zcons @znil) ?_ ?_
  · refine ⟨⟨_, ?_, h4⟩, trivial⟩
    repeat' (first | exact vals_nil | exact row_nil | exact es_nil | exact CVLe.refl _ | exact LfLe.refl _ | exact LfLe.nil _ | exact EsLe.refl _ | refine vals_cons ?_ ?_ | refine row_cons ?_ ?_ | refine es_cons ?_ ?_ | refine EsLe.app ?_ ?_ | refine CVLe.row ?_ | refine CVLe.leafV ?_ | refine CVLe.leafS ?_ | refine LfLe.s ?_)
  refine wk (an2 @zcons @znil) ?_
  exact ValsLe.refl _
end Go.Proofs.Ytngfedhffehkaac.ab

/-
  What the statement ViewSwap tells, out of what the functions of package view tell.
-/
namespace Go.Proofs.Ytngfedhffehkaac.ab
set_option linter.unusedVariables false
set_option linter.unusedSimpArgs false
open Go Go.RowKit
open mth

/-- In the inner loop. -/
def vsIn (n : Int) (mine theirs : List Sp) (ats : List Int) (t : Int) (L : List Sp) (k i : Nat) (s : Sp) : St :=
  ⟨[(0, vI n), (1, sD 7 (encSl mine)), (2, sD 7 (encSl theirs)), (3, sD 1 (ats.map vI)), (4, vI t), (13, sD 7 (encSl L)), (14, vI k), (15, vI i), (16, pD 16 0), (66, sD 7 (encSl mine)), (67, vI mine.length), (68, vI i)], [(16, encSp s)], [((13, none), (27, 7, none))]⟩
def vsEnd (n : Int) (mine theirs : List Sp) (ats : List Int) (t : Int) (L : List Sp) (k i : Nat) (s : Sp) (z : Nat × D) : St :=
  ⟨[(0, vI n), (1, sD 7 (encSl mine)), (2, sD 7 (encSl theirs)), (3, sD 1 (ats.map vI)), (4, vI t), (13, sD 7 (encSl L)), (14, vI k), (15, vI i), (16, pD 16 0), (66, sD 7 (encSl mine)), (67, vI mine.length), (68, vI i), z], [(16, encSp s)], [((13, none), (27, 7, none))]⟩
def VsJ (n : Int) (mine theirs : List Sp) (ats : List Int) (t : Int) (L0 : List Sp) (i : Nat) (s : Sp) : Nat → St → Prop := fun m st => ∃ (L : List Sp) (k : Nat), k ≤ theirs.length ∧ m = theirs.length - k ∧ L.length = i + k ∧ onlyW L t = onlyW L0 t ∧ st = vsIn n mine theirs ats t L k i s
set_option maxHeartbeats 16000000 in
theorem vsw_in (n : Int) (mine theirs : List Sp) (ats : List Int) (t : Int) (hth : ∀ s ∈ theirs, s.tenant ≠ t ∧ s.kind ≠ 1) (hlen : mine.length + theirs.length ≤ 160) (L0 : List Sp) (k0 i : Nat) (s : Sp) (hi : i ≤ mine.length) (hk0 : k0 ≤ theirs.length) (hL0 : L0.length = i + k0) (Q : AX → St → Prop)
    (hQ : ∀ (z : Nat × D) (L : List Sp) (k : Nat), k ≤ theirs.length → L.length = i + k → onlyW L t = onlyW L0 t → Q none (vsEnd n mine theirs ats t L k i s z)) : cLoop w10_ViewSwap_l13a (vsIn n mine theirs ats t L0 k0 i s) (blk 4 Q) := by
  refine aw_loop (VsJ n mine theirs ats t L0 i s) (theirs.length - k0) _ (Le.refl _) ⟨L0, k0, hk0, rfl, hL0, rfl, rfl⟩ ?_
  rintro m st ⟨L, k, hk, hm, hL, ho, rfl⟩
  have q0 := hQ (89, vB false) L k hk hL ho
  by_cases h1 : i < ats.length
  · have g1 : (i : Int) < (ats.length : Int) := by omega
    have g0 : (0 : Int) ≤ (i : Int) := by omega
    obtain ⟨a, ha⟩ : ∃ a, ats[i]? = some a := ⟨ats[i], List.getElem?_eq_getElem h1⟩
    have g2 : (ats.map vI)[i]? = some (vI a) := by simp [ha]
    by_cases h2 : 0 < a
    · by_cases h3 : k < theirs.length
      · have g3 : (k : Int) < (theirs.length : Int) := by omega
        have g3' : (0 : Int) ≤ (k : Int) := by omega
        obtain ⟨y, hy⟩ : ∃ y, theirs[k]? = some y := ⟨theirs[k], List.getElem?_eq_getElem h3⟩
        have g4 := at_sl hy
        have hyt := hth y (List.mem_of_getElem? hy)
        have hone : onlyW (L ++ [y]) t = onlyW L0 t := by
          have e : mineB t y = false := by unfold mineB; simp [hyt.1, hyt.2]
          rw [only_snoc, e, ← ho]; simp
        have hL2 : (L ++ [y]).length = i + (k + 1) := by rw [List.length_append, hL]; rfl
        have b1 : (L.length + 1) * 72 ≤ 140737488355328 := by omega
        have g5 : inR .i64 ((k : Int) + 1) = true := inR_of (by omega)
        have ea : a.tmod 3 = a % 3 := Int.tmod_eq_emod_of_nonneg (by omega)
        have ek : ((k : Int) + 1).tmod 3 = ((k : Int) + 1) % 3 := Int.tmod_eq_emod_of_nonneg (by omega)
        have z3 : ¬ (3 : Int) = 0 := by decide
        have g6 : inR .i64 (((k : Int) + 1) % 3) = true := inR_of (by omega)
        have g7 : inR .i64 (a % 3) = true := inR_of (by omega)
        have hle : Le (vsEnd n mine theirs ats t (L ++ [y]) (k + 1) i s (106, vB false)) (vsIn n mine theirs ats t (L ++ [y]) (k + 1) i s) := by
          simp only [vsEnd, vsIn, encSp]
          exact Le.keep (lv := [0, 1, 2, 3, 4, 13, 14, 15, 16, 66, 67, 68]) (lb := [16]) (by simp only [ev0, ev1, ev2, look, lookF, cellsFrom, offT, offP, List.tail_nil, List.length_nil, Int.cast_ofNat_Int, Nat.reduceEqDiff, Nat.reduceAdd, Nat.reduceMul, Nat.reduceLeDiff, Nat.reduceLT, ↓reduceIte, reduceCtorEq, Int.reduceBEq, Int.reduceBNe, Int.reduceLT, Int.reduceLE, Int.reduceToNat])
        have hnx : Next (VsJ n mine theirs ats t L0 i s) m (vsEnd n mine theirs ats t (L ++ [y]) (k + 1) i s (106, vB false)) := ⟨theirs.length - (k + 1), _, by omega, hle, L ++ [y], k + 1, by omega, rfl, hL2, hone, rfl⟩
        have q1 := hQ (106, vB true) (L ++ [y]) (k + 1) (by omega) hL2 hone
        clear hle
        generalize VsJ n mine theirs ats t L0 i s = J at *
        simp only [vsIn, vsEnd, encSp, sl_snoc, Int.natCast_add, Int.cast_ofNat_Int] at hnx q1 ⊢
        by_cases h4 : ((k : Int) + 1) % 3 = a % 3
        · have q4 : ((((k : Int) + 1) % 3) == (a % 3)) = true := by simpa using h4
          refine wk (an18 @g0 @g1 @g2 @h2 @g3 @g3' @g4 @g5 @z3 @ea @ek @g6 @g7 @b1 @q4 @len_sl @zmap @Int.toNat_natCast) ?_
          exact q1
        · have q4 : ((((k : Int) + 1) % 3) == (a % 3)) = false := by simpa using h4
          refine wk (an18 @g0 @g1 @g2 @h2 @g3 @g3' @g4 @g5 @z3 @ea @ek @g6 @g7 @b1 @q4 @len_sl @zmap @Int.toNat_natCast) ?_
          exact hnx
      · have g3 : ¬ (k : Int) < (theirs.length : Int) := by omega
        generalize VsJ n mine theirs ats t L0 i s = J at *
        simp only [vsIn, vsEnd] at q0 ⊢
        refine wk (an8 @g0 @g1 @g2 @h2 @g3 @len_sl @zmap @Int.toNat_natCast) ?_
        exact q0
    · generalize VsJ n mine theirs ats t L0 i s = J at *
      simp only [vsIn, vsEnd] at q0 ⊢
      refine wk (an7 @g0 @g1 @g2 @h2 @len_sl @zmap @Int.toNat_natCast) ?_
      exact q0
  · have g1 : ¬ (i : Int) < (ats.length : Int) := by omega
    generalize VsJ n mine theirs ats t L0 i s = J at *
    simp only [vsIn, vsEnd] at q0 ⊢
    refine wk (an3 @g1 @len_sl @zmap) ?_
    exact q0
def vsSt (n : Int) (mine theirs : List Sp) (ats : List Int) (t : Int) (L : List Sp) (k i : Nat) : St :=
  ⟨[(0, vI n), (1, sD 7 (encSl mine)), (2, sD 7 (encSl theirs)), (3, sD 1 (ats.map vI)), (4, vI t), (13, sD 7 (encSl L)), (14, vI k), (66, sD 7 (encSl mine)), (67, vI mine.length), (68, vI i)], [], [((13, none), (27, 7, none))]⟩
def VsO (n : Int) (mine theirs : List Sp) (ats : List Int) (t : Int) : Nat → St → Prop := fun m st => ∃ (L : List Sp) (k i : Nat), i ≤ mine.length ∧ m = mine.length - i ∧ k ≤ theirs.length ∧ L.length = i + k ∧ onlyW L t = onlyW (mine.take i) t ∧ st = vsSt n mine theirs ats t L k i
def vsT (n : Int) (mine theirs : List Sp) (ats : List Int) (t : Int) (i : Nat) : St :=
  ⟨[(0, vI n), (1, sD 7 (encSl mine)), (2, sD 7 (encSl theirs)), (3, sD 1 (ats.map vI)), (4, vI t), (50, sD 7 (encSl theirs)), (51, vI theirs.length), (52, vI i)], [], []⟩
set_option maxHeartbeats 16000000 in
theorem viewSwap_good (hS : CSpoilR 34) (hO : CVOf 13) (hL : CVOnly 14) (hP : CVPuts 17) (n : Nat) (hn : 1 ≤ n ∧ n ≤ 3) (mine theirs : List Sp) (ats : List Int) (hlen : mine.length + theirs.length ≤ 160) (t : Nat) (ht : t < n) :
    Told Try.prog 7 [vI n, sD 7 (encSl mine), sD 7 (encSl theirs), sD 1 (ats.map vI), vI t] [vB true] := by
  refine told_w10_ViewSwap rfl ?_
  have hA := alive10_told hO hL hP
  have n1 : ¬ (n : Int) < 1 := by omega
  have n2 : ¬ 3 < (n : Int) := by omega
  have n3 : ¬ (t : Int) < 0 := by omega
  have n4 : ¬ (n : Int) ≤ (t : Int) := by omega
  have n5 : inR .i64 ((mine.length : Int) + (theirs.length : Int)) = true := inR_of (by omega)
  have n6 : ¬ 160 < (mine.length : Int) + (theirs.length : Int) := by omega
  refine wk0 ?_
  refine cg [[vB true]] Bool.not_true ?_ ?_
  · exact obl_cons hA obl_nil
  refine wk (an7 @n1 @n2 @n3 @n4 @n5 @n6 @len_sl) ?_
  refine aw_loop (fun m st => ∃ i : Nat, i ≤ theirs.length ∧ m = theirs.length - i ∧ (∀ s ∈ theirs.take i, s.tenant ≠ (t : Int) ∧ s.kind ≠ 1) ∧ st = vsT n mine theirs ats t i) theirs.length (vsT n mine theirs ats t 0) (Le.refl _) ⟨0, by omega, by omega, by simp, rfl⟩ ?_
  rintro m st ⟨i, hi, hm, hno, rfl⟩
  by_cases hlt : i < theirs.length
  · obtain ⟨s, hs⟩ : ∃ s, theirs[i]? = some s := ⟨theirs[i], List.getElem?_eq_getElem hlt⟩
    have g1 : (i : Int) < (theirs.length : Int) := by omega
    have g2 : (0 : Int) ≤ (i : Int) := by omega
    have g3 := at_sl hs
    have g4 : inR .i64 ((i : Int) + 1) = true := inR_of (by omega)
    by_cases h1 : s.tenant = t
    · have q1 : (s.tenant == (t : Int)) = true := by simpa using h1
      generalize (fun m st => ∃ i : Nat, i ≤ theirs.length ∧ m = theirs.length - i ∧ (∀ s ∈ theirs.take i, s.tenant ≠ (t : Int) ∧ s.kind ≠ 1) ∧ st = vsT n mine theirs ats t i) = J at *
      simp only [vsT]
      refine wk (an6 @g1 @g2 @g3 @q1 @len_sl @Int.toNat_natCast) ?_
      exact ValsLe.refl _
    have q1 : (s.tenant == (t : Int)) = false := by simpa using h1
    by_cases h2 : s.kind = 1
    · have q2 : (s.kind == 1) = true := by simpa using h2
      generalize (fun m st => ∃ i : Nat, i ≤ theirs.length ∧ m = theirs.length - i ∧ (∀ s ∈ theirs.take i, s.tenant ≠ (t : Int) ∧ s.kind ≠ 1) ∧ st = vsT n mine theirs ats t i) = J at *
      simp only [vsT]
      refine wk (an7 @g1 @g2 @g3 @q1 @q2 @len_sl @Int.toNat_natCast) ?_
      exact ValsLe.refl _
    have q2 : (s.kind == 1) = false := by simpa using h2
    have hnx : Next (fun m st => ∃ i : Nat, i ≤ theirs.length ∧ m = theirs.length - i ∧ (∀ s ∈ theirs.take i, s.tenant ≠ (t : Int) ∧ s.kind ≠ 1) ∧ st = vsT n mine theirs ats t i) m (vsT n mine theirs ats t (i + 1)) := ⟨theirs.length - (i + 1), _, by omega, Le.refl _, i + 1, by omega, rfl, fun z hz => by
      rw [List.take_add_one, hs] at hz
      rcases List.mem_append.1 hz with q | q
      · exact hno z q
      · have q : z = s := by simpa using q
        rw [q]; exact ⟨h1, h2⟩, rfl⟩
    generalize (fun m st => ∃ i : Nat, i ≤ theirs.length ∧ m = theirs.length - i ∧ (∀ s ∈ theirs.take i, s.tenant ≠ (t : Int) ∧ s.kind ≠ 1) ∧ st = vsT n mine theirs ats t i) = J at *
    simp only [vsT, Int.natCast_add, Int.cast_ofNat_Int] at hnx ⊢
    refine wk (an8 @g1 @g2 @g3 @g4 @q1 @q2 @len_sl @Int.toNat_natCast) ?_
    exact hnx
  · have hin : i = theirs.length := by omega
    subst hin
    rw [List.take_length] at hno
    have g1 : ¬ (theirs.length : Int) < (theirs.length : Int) := by omega
    generalize (fun m st => ∃ i : Nat, i ≤ theirs.length ∧ m = theirs.length - i ∧ (∀ s ∈ theirs.take i, s.tenant ≠ (t : Int) ∧ s.kind ≠ 1) ∧ st = vsT n mine theirs ats t i) = J at *
    simp only [vsT]
    refine wk (an2 @g1 @len_sl) ?_
    refine aw_loop (VsO n mine theirs ats t) mine.length (vsSt n mine theirs ats t [] 0 0) ((Le.nilS 13 27 7 rfl).trans (Le.keep (lv := [0, 1, 2, 3, 4, 13, 14, 66, 67, 68]) (lb := []) (by simp only [ev0, ev1, ev2, look, lookF, cellsFrom, offT, offP, List.tail_nil, List.length_nil, Int.cast_ofNat_Int, Nat.reduceEqDiff, Nat.reduceAdd, Nat.reduceMul, Nat.reduceLeDiff, Nat.reduceLT, ↓reduceIte, reduceCtorEq, Int.reduceBEq, Int.reduceBNe, Int.reduceLT, Int.reduceLE, Int.reduceToNat]; rfl))) ⟨[], 0, 0, by omega, by omega, by omega, rfl, rfl, rfl⟩ ?_
    rintro m st ⟨L, k, i, hi, hm, hk, hL, ho, rfl⟩
    by_cases hlt : i < mine.length
    · obtain ⟨s, hs⟩ : ∃ s, mine[i]? = some s := ⟨mine[i], List.getElem?_eq_getElem hlt⟩
      have g1 : (i : Int) < (mine.length : Int) := by omega
      have g2 : (0 : Int) ≤ (i : Int) := by omega
      have g3 := at_sl hs
      have g4 : inR .i64 ((i : Int) + 1) = true := inR_of (by omega)
      have hin := vsw_in n mine theirs ats t hno hlen L k i s (by omega) hk hL
      have hnx : ∀ (L' : List Sp) (k' : Nat), k' ≤ theirs.length → L'.length = i + k' → onlyW L' t = onlyW L t → Next (VsO n mine theirs ats t) m (vsSt n mine theirs ats t (L' ++ [s]) k' (i + 1)) := fun L' k' h1 h2 h3 => ⟨mine.length - (i + 1), _, by omega, Le.refl _, L' ++ [s], k', i + 1, by omega, rfl, h1, by rw [List.length_append, h2]; simp; omega, by
        rw [only_snoc, h3, ho, List.take_add_one, hs, Option.toList_some, only_snoc], rfl⟩
      generalize VsO n mine theirs ats t = J at *
      simp only [vsIn, vsEnd, vsSt, encSp, sl_snoc, Int.natCast_add, Int.cast_ofNat_Int] at hin hnx ⊢
      have b1 : ∀ (L' : List Sp) (k' : Nat), k' ≤ theirs.length → L'.length = i + k' → (L'.length + 1) * 72 ≤ 140737488355328 := fun L' k' h1 h2 => by omega
      refine wk (an5 @g1 @g2 @g3 @len_sl @Int.toNat_natCast) ?_
      refine hin _ fun z L' k' e1 e2 e3 => ?_
      have b2 := b1 L' k' e1 e2
      have hnx := hnx L' k' e1 e2 e3
      refine wk (an3 @b2 @g4 @len_sl) ?_
      exact hnx
    · have hin : i = mine.length := by omega
      subst hin
      rw [List.take_length] at ho
      have p1 := play_told hS n hn L (by omega)
      have p2 := play_told hS n hn mine (by omega)
      rw [List.take_of_length_le (by omega)] at p1
      rw [List.take_of_length_le (by omega)] at p2
      have hsim := sim_same t (newW n) ho
      have hw := (good_run (good_new hn) L 160).1
      rw [List.take_of_length_le (by omega)] at hw
      have hx := (good_run (good_new hn) mine 160).1
      rw [List.take_of_length_le (by omega)] at hx
      have hwn : (runW (newW n) L).1.lanes.length = n := by rw [lenW_run]; simp [newW]
      have g1 : ¬ (mine.length : Int) < (mine.length : Int) := by omega
      generalize VsO n mine theirs ats t = J at *
      generalize (runW (newW n) L).2 = e1 at *
      generalize (runW (newW n) L).1 = w at *
      generalize (runW (newW n) mine).2 = e2 at *
      generalize (runW (newW n) mine).1 = x at *
      have o1 := hO w t hw
      have o2 := hO x t hx
      rw [← sim_of hsim] at o2
      rw [of_in (by omega)] at o1 o2
      have hgl : GoodL (w.lanes.getD t zeroL) := by
        rw [List.getD_eq_getElem?_getD, List.getElem?_eq_getElem (by omega), Option.getD_some]
        exact hw.l _ (List.getElem_mem (by omega))
      generalize w.lanes.getD t zeroL = a at *
      have s1 := sameLn_good hgl
      simp only [vsSt, encWd, encLn] at p1 p2 o1 o2 s1 ⊢
      refine wk @g1 ?_
      refine cg [[aD (encWd w), sD 1 (e1.map vI)]] @encWd.eq_1 ?_ ?_
      · exact obl_cons p1 obl_nil
      refine wk0 ?_
      refine cg [[aD (encWd x), sD 1 (e2.map vI)]] @encWd.eq_1 ?_ ?_
      · exact obl_cons p2 obl_nil
      refine wk0 ?_
      refine cg [[aD (encLn a), vB true]] @encLn.eq_1 ?_ ?_
      · exact obl_cons o1 obl_nil
      refine wk0 ?_
      refine cg [[aD (encLn a), vB true]] @encLn.eq_1 ?_ ?_
      · exact obl_cons o2 obl_nil
      refine wk0 ?_
      refine cg [[vB true]] @encLn.eq_1 ?_ ?_
      · exact obl_cons s1 obl_nil
      refine wk0 ?_
      exact ValsLe.refl _
set_option maxHeartbeats 8000000 in
theorem viewSwap_not (hO : CVOf 13) (hL : CVOnly 14) (hP : CVPuts 17) (n : Int) (mine theirs : List Sp) (ats : List Int) (t : Int) (hm : mine.length ≤ 9223372036854775807) (hth : theirs.length ≤ 9223372036854775807) (h : n < 1 ∨ 3 < n ∨ t < 0 ∨ n ≤ t) : Told Try.prog 7 [vI n, sD 7 (encSl mine), sD 7 (encSl theirs), sD 1 (ats.map vI), vI t] [vB true] := by
  refine told_w10_ViewSwap rfl ?_
  have hA := alive10_told hO hL hP
  refine wk0 ?_
  refine cg [[vB true]] Bool.not_true ?_ ?_
  · exact obl_cons hA obl_nil
  by_cases n1 : n < 1
  · refine wk @n1 ?_
    exact ValsLe.refl _
  by_cases n2 : 3 < n
  · refine wk (an2 @n1 @n2) ?_
    exact ValsLe.refl _
  by_cases n3 : t < 0
  · refine wk (an3 @n1 @n2 @n3) ?_
    exact ValsLe.refl _
  have n4 : n ≤ t := by omega
  refine wk (an4 @n1 @n2 @n3 @n4) ?_
  exact ValsLe.refl _
set_option maxHeartbeats 8000000 in
theorem viewSwap_long (hO : CVOf 13) (hL : CVOnly 14) (hP : CVPuts 17) (n : Int) (mine theirs : List Sp) (ats : List Int) (t : Int) (hs : inR .i64 ((mine.length : Int) + (theirs.length : Int)) = true) (n1 : ¬ n < 1) (n2 : ¬ 3 < n) (n3 : ¬ t < 0) (n4 : ¬ n ≤ t) (n5 : 160 < (mine.length : Int) + (theirs.length : Int)) : Told Try.prog 7 [vI n, sD 7 (encSl mine), sD 7 (encSl theirs), sD 1 (ats.map vI), vI t] [vB true] := by
  refine told_w10_ViewSwap rfl ?_
  have hA := alive10_told hO hL hP
  refine wk0 ?_
  refine cg [[vB true]] Bool.not_true ?_ ?_
  · exact obl_cons hA obl_nil
  refine wk (an7 @n1 @n2 @n3 @n4 @n5 @hs @len_sl) ?_
  exact ValsLe.refl _
theorem viewSwap_told (hS : CSpoilR 34) (hO : CVOf 13) (hL : CVOnly 14) (hP : CVPuts 17) (n : Int) (mine : List Sp) (hm : mine.length ≤ 1048576) (theirs : List Sp) (hth : theirs.length ≤ 1048576) (ats : List Int) (t : Int) : Told Try.prog 7 [vI n, sD 7 (encSl mine), sD 7 (encSl theirs), sD 1 (ats.map vI), vI t] [vB true] := by
  by_cases h : n < 1 ∨ 3 < n ∨ t < 0 ∨ n ≤ t
  · exact viewSwap_not hO hL hP n mine theirs ats t (by omega) (by omega) h
  by_cases h5 : 160 < (mine.length : Int) + (theirs.length : Int)
  · exact viewSwap_long hO hL hP n mine theirs ats t (inR_of (by omega)) (by omega) (by omega) (by omega) (by omega) h5
  · obtain ⟨q, rfl⟩ : ∃ q : Nat, n = q := ⟨n.toNat, by omega⟩
    obtain ⟨u, rfl⟩ : ∃ u : Nat, t = u := ⟨t.toNat, by omega⟩
    exact viewSwap_good hS hO hL hP q (by omega) mine theirs ats (by omega) u (by omega)
end Go.Proofs.Ytngfedhffehkaac.ab

/-
  The row of ViewSwap out of what the functions are held to.
-/
namespace Go.Proofs.Ytngfedhffehkaac.viewSwap
set_option linter.unusedSimpArgs false
open Go Go.ChangeShapes Go.WideShapes Go.RowKit
set_option linter.unusedVariables false
open ab mth

set_option maxRecDepth 100000 in
theorem lifted (hS : CSpoilR 34) (hO : CVOf 13) (hL : CVOnly 14) (hP : CVPuts 17) (os : Os) (started : os.Started) (H : Type) (enc : TypeId × Value → H) (F : Stop.Interp) :
    ReturnsInHanded {} Try.checked os 7 .any ((Rows.OpenSpec.upto Rows.viewSwapSpec).pre6 enc Try.prog Try.f7 Rows.viewSwapUptoRow.domain false) (((Rows.OpenSpec.upto Rows.viewSwapSpec).at F).post enc Try.prog Try.f7 false true false false) := by
  refine returnsInHanded_of_cond (C := Try.checked) (s := Rows.OpenSpec.upto Rows.viewSwapSpec) (k := Rows.uptoSmall) rfl own started (by kernel_rfl) Try.func7
    (OpenSpec.witness (enc := enc) (C := Try.checked) (s := Rows.OpenSpec.upto Rows.viewSwapSpec) (k := Rows.uptoSmall) rfl false ⟨#[], #[.int .i64 0, .slice none 0 0, .slice none 0 0, .slice none 0 0, .int .i64 0], []⟩ 8 (by kernel_rfl) (by kernel_rfl) (by kernel_rfl)
      (x := ([.lit (.int .i64 0), .nil, .nil, .nil, .lit (.int .i64 0)], [], [])) (by kernel_rfl) rfl (by kernel_rfl)) ?_
  intro W base args ds gs before hval0 hW0 _ hk _
  have hval : ∀ (j : Nat) t v, Try.f7.params[j]? = some t → args[j]? = some v → Value.okWide Try.prog W .any base t v := hval0
  have hW' := hW0
  obtain ⟨p, q, hA0, hV, rfl, hfz, hnd⟩ := hW0
  have hA : DataW.TrodAll enc Try.prog W 0 (fun _ => true) true Try.f7.params.toList args.toList ds p := hA0
  rw [Try.params7] at hA hval
  obtain ⟨v0, vs0, d0, ds0, p0, q0, hargs, rfl, rfl, h0, r0⟩ := trodAll_cons hA
  obtain ⟨v1, vs1, d1, ds1, p1, q1, rfl, rfl, rfl, h1, r1⟩ := trodAll_cons r0
  obtain ⟨v2, vs2, d2, ds2, p2, q2, rfl, rfl, rfl, h2, r2⟩ := trodAll_cons r1
  obtain ⟨v3, vs3, d3, ds3, p3, q3, rfl, rfl, rfl, h3, r3⟩ := trodAll_cons r2
  obtain ⟨v4, vs4, d4, ds4, p4, q4, rfl, rfl, rfl, h4, r4⟩ := trodAll_cons r3
  obtain ⟨rfl, rfl, rfl⟩ := trodAll_nil r4
  obtain rfl : args = #[v0, v1, v2, v3, v4] := by cases args; simp_all
  obtain ⟨rfl, rfl⟩ := trodVars_none hV
  have lt0 : ∀ x ∈ p0, x.block < W.heap.size := by obtain ⟨m, hm⟩ := h0; exact DataW.trod_lt m _ _ _ hm
  have lt1 : ∀ x ∈ p1, x.block < W.heap.size := by obtain ⟨m, hm⟩ := h1; exact DataW.trod_lt m _ _ _ hm
  have lt2 : ∀ x ∈ p2, x.block < W.heap.size := by obtain ⟨m, hm⟩ := h2; exact DataW.trod_lt m _ _ _ hm
  have lt3 : ∀ x ∈ p3, x.block < W.heap.size := by obtain ⟨m, hm⟩ := h3; exact DataW.trod_lt m _ _ _ hm
  have lt4 : ∀ x ∈ p4, x.block < W.heap.size := by obtain ⟨m, hm⟩ := h4; exact DataW.trod_lt m _ _ _ hm
  obtain ⟨n0, rfl⟩ := okWide_int Try.underlying3 (hval 0 3 v0 rfl rfl)
  obtain ⟨a1, len1, cap1, rfl⟩ := okWide_slice Try.underlying22 (hval 1 22 v1 rfl rfl)
  obtain ⟨x1, hM1, hu1, _⟩ := (by obtain ⟨fuel, hf⟩ := h1; exact in_steps hf : ∃ cs : List Sp, CRep (AllOf W) W (sD 7 (encSl cs)) (.slice a1 len1 cap1) ∧ cs.length ≤ Rows.uptoBulk d1 ∧ ∀ c ∈ cs, True)
  have hl1 := hM1.len
  rw [len_sl] at hl1
  obtain ⟨a2, len2, cap2, rfl⟩ := okWide_slice Try.underlying22 (hval 2 22 v2 rfl rfl)
  obtain ⟨x2, hM2, hu2, _⟩ := (by obtain ⟨fuel, hf⟩ := h2; exact in_steps hf : ∃ cs : List Sp, CRep (AllOf W) W (sD 7 (encSl cs)) (.slice a2 len2 cap2) ∧ cs.length ≤ Rows.uptoBulk d2 ∧ ∀ c ∈ cs, True)
  have hl2 := hM2.len
  rw [len_sl] at hl2
  obtain ⟨a3, len3, cap3, rfl⟩ := okWide_slice Try.underlying46 (hval 3 46 v3 rfl rfl)
  obtain ⟨x3, hM3, _, _⟩ := (by obtain ⟨fuel, hf⟩ := h3; exact in_ints hf : ∃ ms : List Int, CRep (AllOf W) W (sD 1 (ms.map vI)) (.slice a3 len3 cap3) ∧ ms.length ≤ Rows.uptoBulk d3 ∧ ∀ m ∈ ms, inR .i64 m = true)
  have hl3 := hM3.len
  rw [List.length_map] at hl3
  obtain ⟨n4, rfl⟩ := okWide_int Try.underlying3 (hval 4 3 v4 rfl rfl)
  have hbd : Rows.uptoBulkAll ([d0, d1, d2, d3, d4] ++ []) ≤ 1048576 := of_decide_eq_true hk
  simp only [List.append_nil, Rows.uptoBulkAll] at hbd
  clear hA0 hval0
  refine ((viewSwap_told hS hO hL hP n0 x1 (by omega) x2 (by omega) x3 n4).yes (W := W) (vs := [.int .i64 n0, .slice a1 len1 cap1, .slice a2 len2 cap2, .slice a3 len3 cap3, .int .i64 n4]) (Vals.cons (.inl (CRep.v rfl)) (Vals.cons (.inl hM1) (Vals.cons (.inl hM2) (Vals.cons (.inl hM3) (Vals.cons (.inl (CRep.v rfl)) Vals.nil)))))).mono fun e W' ⟨he, bel⟩ => ?_
  subst he
  exact ⟨_, rfl, _, _, _, [], _, [], hW', trodAll_mk1 (shut_bool Try.underlying4 _), (trodAll_cons_mk (Below.trod laidOut (by kernel_rfl) (of_decide_eq_true (by kernel_rfl)) h0 bel lt0) (trodAll_cons_mk (Below.trod laidOut (by kernel_rfl) (of_decide_eq_true (by kernel_rfl)) h1 bel lt1) (trodAll_cons_mk (Below.trod laidOut (by kernel_rfl) (of_decide_eq_true (by kernel_rfl)) h2 bel lt2) (trodAll_cons_mk (Below.trod laidOut (by kernel_rfl) (of_decide_eq_true (by kernel_rfl)) h3 bel lt3) (trodAll_cons_mk (Below.trod laidOut (by kernel_rfl) (of_decide_eq_true (by kernel_rfl)) h4 bel lt4) trodAll_mk0))))), rfl, bel.frame _, fun h => by cases h⟩

theorem over (hS : CSpoilR 34) (hO : CVOf 13) (hL : CVOnly 14) (hP : CVPuts 17) : Rows.viewSwapUptoRow.holds Try.pinned (Rows.OpenSpec.upto Rows.viewSwapSpec) :=
  OpenClaim.holds_of_cond 7 Try.f7 rfl rfl rfl rfl rfl rfl rfl ⟨rfl, rfl, rfl, rfl, rfl⟩ rfl rfl rfl rfl rfl (by kernel_rfl) Try.func7 (by kernel_rfl)
    (of_decide_eq_true (by kernel_rfl)) (by unfold Func.isWrapper; first | (rw [if_pos (by decide +kernel)]; kernel_rfl) | (rw [if_neg (by decide +kernel)]; exact ⟨rfl, rfl⟩))
    (fun os started H enc _ F => lifted hS hO hL hP os started H enc F)
end Go.Proofs.Ytngfedhffehkaac.viewSwap

/-
  Functions as plain code (written by wip/abs/ir.py): view.Of, view.Only, view.Puts.
-/
namespace Go.Proofs.Ytngfedhffehkaac.ab
set_option linter.unusedSimpArgs false
set_option linter.unusedVariables false
set_option maxRecDepth 100000
open Go Go.RowKit

def view_Of_r0 : IC := cReg Try.prog [
    ⟨some 2, none, iBox 2 (.tmp 0)⟩,
    ⟨some 4, none, iAlo 4 [vD (.slice none 0 0), vD (.int .i64 0), vD (.int .i64 0), vD (.int .i64 0), vD (.int .i64 0), vD (.slice none 0 0), vD (.int .i64 0), vD (.int .i64 0), vD (.slice none 0 0), vD (.int .i64 0), vD (.int .i64 0), vD (.int .i64 0), vD (.slice none 0 0), vD (.slice none 0 0), vD (.bool false), vD (.slice none 0 0), vD (.slice none 0 0)]⟩,
    ⟨some 5, none, iMov 5 (.const (.bool false)) true⟩] [1, 2, 4] [2, 4]
def view_Of_r1 : IC := cReg Try.prog [
    ⟨some 6, none, iMov 6 (.tmp 1) false⟩,
    ⟨some 7, none, iBin 7 .lss (.tmp 6) (.const (.int .i64 0))⟩,
    ⟨some 8, none, iMov 8 (.tmp 7) false⟩,
    ⟨some 9, some (8, false), iMov 9 (.tmp 1) false⟩,
    ⟨some 10, some (8, false), iFad 10 0 (.tmp 2)⟩,
    ⟨some 11, some (8, false), iLoad 11 1 false (.tmp 10) false⟩,
    ⟨some 12, some (8, false), iLen 12 false (.tmp 11)⟩,
    ⟨some 13, some (8, false), iBin 13 .geq (.tmp 9) (.tmp 12)⟩,
    ⟨some 14, none, iPick 14 (.tmp 8) (.const (.bool true)) (.tmp 13)⟩] [1, 2, 4, 14] [2, 4]
def view_Of_r2 : IC := cReg Try.prog [
    ⟨some 15, none, iBld 15 [vD (.slice none 0 0), vD (.int .i64 0), vD (.int .i64 0), vD (.int .i64 0), vD (.int .i64 0), vD (.slice none 0 0), vD (.int .i64 0), vD (.int .i64 0), vD (.slice none 0 0), vD (.int .i64 0), vD (.int .i64 0), vD (.int .i64 0), vD (.slice none 0 0), vD (.slice none 0 0), vD (.bool false), vD (.slice none 0 0), vD (.slice none 0 0)] [] []⟩,
    ⟨none, none, iStor 17 (.tmp 4) (.tmp 15)⟩,
    ⟨some 5, none, iMov 5 (.const (.bool false)) true⟩] [4, 5] [4]
def view_Of_c1a : IC := (cSeq view_Of_r2 cRet)
def view_Of_c1 : IC := cCond (.tmp 14) view_Of_c1a cSkip
def view_Of_r3 : IC := cReg Try.prog [
    ⟨some 16, none, iFad 16 0 (.tmp 2)⟩,
    ⟨some 17, none, iLoad 17 1 false (.tmp 16) false⟩,
    ⟨some 18, none, iMov 18 (.tmp 1) false⟩,
    ⟨some 19, none, iIaS 19 17 (.tmp 17) (.tmp 18)⟩,
    ⟨some 20, none, iLoad 20 17 true (.tmp 19) false⟩,
    ⟨some 21, none, iCall 21 29 [(.tmp 20)]⟩,
    ⟨none, none, iStor 17 (.tmp 4) (.tmp 21)⟩,
    ⟨some 5, none, iMov 5 (.const (.bool true)) true⟩] [4, 5] [4]
def view_Of : IC := (cSeq view_Of_r0 (cSeq (cSeq view_Of_r1 view_Of_c1) (cSeq view_Of_r3 cRet)))
theorem told_view_Of {args r : List D} (hl : args.length = 2) (h : view_Of (start args) (fin [(4, some (17, true)), (5, none)] r)) : Told Try.prog 13 args r :=
  told_of follows Try.func13 rfl (an := [([], [1, 2, 4], [2, 4], []), ([], [1, 2, 4, 14], [2, 4], []), ([], [4, 5], [4], []), ([], [4, 5], [4], [])]) (by kernel_rfl) (by kernel_rfl) (by rw [hl]; decide +kernel) h

def view_Only_r0 : IC := cReg Try.prog [
    ⟨some 4, none, iMov 4 (.const (.slice none 0 0)) true⟩] [0, 1] []
def view_Only_r1 : IC := cReg Try.prog [
    ⟨some 5, none, iMov 5 (.const (.slice none 0 0)) true⟩] [0, 1, 5] []
def view_Only_r2 : IC := cReg Try.prog [
    ⟨some 8, none, iMov 8 (.tmp 0) false⟩,
    ⟨some 9, none, iLen 9 false (.tmp 8)⟩,
    ⟨some 10, none, iMov 10 (.const (.int .i64 0)) false⟩] [1, 5, 8, 9, 10] []
def view_Only_r3 : IC := cReg Try.prog [
    ⟨some 11, none, iBin 11 .lss (.tmp 10) (.tmp 9)⟩] [1, 5, 8, 9, 10, 11] []
def view_Only_c3 : IC := cCond (.tmp 11) cSkip (cExit 0)
def view_Only_r4 : IC := cReg Try.prog [
    ⟨some 12, none, iIaS 12 7 (.tmp 8) (.tmp 10)⟩,
    ⟨some 13, none, iLoad 13 7 true (.tmp 12) false⟩,
    ⟨some 7, none, iAlo 7 [vD (.int .i64 0), vD (.int .i64 0), vD (.int .i64 0), vD (.int .i64 0), vD (.bool false), vD (.int .i64 0), vD (.slice none 0 0)]⟩,
    ⟨none, none, iStor 7 (.tmp 7) (.tmp 13)⟩] [1, 5, 7, 8, 9, 10] [7]
def view_Only_r5 : IC := cReg Try.prog [
    ⟨some 14, none, iFad 14 0 (.tmp 7)⟩,
    ⟨some 15, none, iLoad 15 1 false (.tmp 14) false⟩,
    ⟨some 16, none, iBin 16 .eql (.tmp 15) (.const (.int .i64 1))⟩,
    ⟨some 17, none, iMov 17 (.tmp 16) false⟩,
    ⟨some 18, some (17, false), iFad 18 1 (.tmp 7)⟩,
    ⟨some 19, some (17, false), iLoad 19 1 false (.tmp 18) false⟩,
    ⟨some 20, some (17, false), iMov 20 (.tmp 1) false⟩,
    ⟨some 21, some (17, false), iBin 21 .eql (.tmp 19) (.tmp 20)⟩,
    ⟨some 22, none, iPick 22 (.tmp 17) (.const (.bool true)) (.tmp 21)⟩] [1, 5, 7, 8, 9, 10, 22] [7]
def view_Only_r6 : IC := cReg Try.prog [
    ⟨some 23, none, iFad 23 5 (.tmp 7)⟩,
    ⟨some 24, none, iLoad 24 2 true (.tmp 23) false⟩,
    ⟨some 25, none, iCall 25 30 [(.tmp 24)]⟩,
    ⟨some 26, none, iFad 26 5 (.tmp 7)⟩,
    ⟨none, none, iStor 2 (.tmp 26) (.tmp 25)⟩] [1, 5, 7, 8, 9, 10] [7]
def view_Only_r7 : IC := cReg Try.prog [
    ⟨some 27, none, iMov 27 (.tmp 5) true⟩,
    ⟨some 28, none, iLoad 28 7 true (.tmp 7) false⟩,
    ⟨some 29, none, iRow 29 27 7 [(.tmp 28)]⟩,
    ⟨some 30, none, iApp 30 27 7 72 (.tmp 27) (.tmp 29)⟩,
    ⟨some 5, none, iMov 5 (.tmp 30) true⟩] [1, 5, 8, 9, 10] []
def view_Only_c5a : IC := (cSeq view_Only_r6 view_Only_r7)
def view_Only_c5 : IC := cCond (.tmp 22) view_Only_c5a cSkip
def view_Only_b4 : IC := cBlock 1 (cSeq view_Only_r4 (cSeq view_Only_r5 view_Only_c5))
def view_Only_r8 : IC := cReg Try.prog [
    ⟨some 31, none, iBin 31 .add (.tmp 10) (.const (.int .i64 1))⟩,
    ⟨some 10, none, iMov 10 (.tmp 31) false⟩] [1, 5, 8, 9, 10] []
def view_Only_l2a : IC := (cSeq view_Only_r3 (cSeq view_Only_c3 (cSeq view_Only_b4 view_Only_r8)))
def view_Only_l2 : IC := cLoop view_Only_l2a
def view_Only_b1 : IC := cBlock 0 view_Only_l2
def view_Only_r9 : IC := cReg Try.prog [
    ⟨some 32, none, iMov 32 (.tmp 5) false⟩,
    ⟨some 4, none, iMov 4 (.tmp 32) true⟩] [4] []
def view_Only : IC := (cSeq view_Only_r0 (cSeq view_Only_r1 (cSeq (cSeq view_Only_r2 view_Only_b1) (cSeq view_Only_r9 cRet))))
theorem told_view_Only {args r : List D} (hl : args.length = 2) (h : view_Only (start args) (fin [(4, none)] r)) : Told Try.prog 14 args r :=
  told_of follows Try.func14 rfl (an := [([], [0, 1], [], []), ([], [0, 1, 5], [], []), ([], [1, 5, 8, 9, 10], [], []), ([], [1, 5, 8, 9, 10, 11], [], []), ([], [1, 5, 7, 8, 9, 10], [7], []), ([], [1, 5, 7, 8, 9, 10, 22], [7], []), ([], [1, 5, 7, 8, 9, 10], [7], []), ([], [1, 5, 8, 9, 10], [], []), ([], [1, 5, 8, 9, 10], [], []), ([], [4], [], [])]) (by kernel_rfl) (by kernel_rfl) (by rw [hl]; decide +kernel) h

def view_Puts_r0 : IC := cReg Try.prog [
    ⟨some 6, none, iMov 6 (.const (.slice none 0 0)) true⟩] [0, 1, 2] []
def view_Puts_r1 : IC := cReg Try.prog [
    ⟨some 7, none, iMov 7 (.const (.slice none 0 0)) true⟩] [0, 1, 2, 7] []
def view_Puts_r2 : IC := cReg Try.prog [
    ⟨some 10, none, iMov 10 (.tmp 0) false⟩,
    ⟨some 11, none, iMov 11 (.tmp 0) false⟩,
    ⟨some 12, none, iLen 12 false (.tmp 11)⟩,
    ⟨some 13, none, iMov 13 (.tmp 1) false⟩,
    ⟨some 14, none, iLen 14 false (.tmp 13)⟩,
    ⟨some 15, none, iMm 15 false (.tmp 12) (.tmp 14)⟩,
    ⟨some 16, none, iSlc 16 7 (.tmp 10) none (some (.tmp 15))⟩,
    ⟨some 17, none, iLen 17 false (.tmp 16)⟩,
    ⟨some 18, none, iMov 18 (.const (.int .i64 0)) false⟩] [1, 2, 7, 16, 17, 18] []
def view_Puts_r3 : IC := cReg Try.prog [
    ⟨some 19, none, iBin 19 .lss (.tmp 18) (.tmp 17)⟩] [1, 2, 7, 16, 17, 18, 19] []
def view_Puts_c3 : IC := cCond (.tmp 19) cSkip (cExit 0)
def view_Puts_r4 : IC := cReg Try.prog [
    ⟨some 20, none, iMov 20 (.tmp 18) false⟩,
    ⟨some 21, none, iIaS 21 7 (.tmp 16) (.tmp 18)⟩,
    ⟨some 22, none, iLoad 22 7 true (.tmp 21) false⟩,
    ⟨some 9, none, iAlo 9 [vD (.int .i64 0), vD (.int .i64 0), vD (.int .i64 0), vD (.int .i64 0), vD (.bool false), vD (.int .i64 0), vD (.slice none 0 0)]⟩,
    ⟨some 8, none, iMov 8 (.tmp 20) true⟩,
    ⟨none, none, iStor 7 (.tmp 9) (.tmp 22)⟩] [1, 2, 7, 8, 9, 16, 17, 18] [9]
def view_Puts_r5_0 : IC := cReg Try.prog [
    ⟨some 23, none, iFad 23 0 (.tmp 9)⟩,
    ⟨some 24, none, iLoad 24 1 false (.tmp 23) false⟩,
    ⟨some 25, none, iBin 25 .eql (.tmp 24) (.const (.int .i64 2))⟩,
    ⟨some 26, none, iMov 26 (.tmp 25) false⟩,
    ⟨some 27, some (26, true), iFad 27 1 (.tmp 9)⟩,
    ⟨some 28, some (26, true), iLoad 28 1 false (.tmp 27) false⟩,
    ⟨some 29, some (26, true), iMov 29 (.tmp 2) false⟩,
    ⟨some 30, some (26, true), iBin 30 .eql (.tmp 28) (.tmp 29)⟩,
    ⟨some 31, none, iPick 31 (.tmp 26) (.tmp 30) (.const (.bool false))⟩,
    ⟨some 32, none, iMov 32 (.tmp 31) false⟩] [1, 2, 7, 8, 9, 16, 17, 18, 32] [9]
def view_Puts_r5_1 : IC := cReg Try.prog [
    ⟨some 33, some (32, true), iMov 33 (.tmp 1) false⟩,
    ⟨some 34, some (32, true), iMov 34 (.tmp 8) false⟩,
    ⟨some 35, some (32, true), iIaS 35 1 (.tmp 33) (.tmp 34)⟩,
    ⟨some 36, some (32, true), iLoad 36 1 false (.tmp 35) false⟩,
    ⟨some 37, some (32, true), iBin 37 .eql (.tmp 36) (.const (.int .i64 0))⟩,
    ⟨some 38, none, iPick 38 (.tmp 32) (.tmp 37) (.const (.bool false))⟩] [1, 2, 7, 9, 16, 17, 18, 38] [9]
def view_Puts_r5 : IC := (cSeq view_Puts_r5_0 view_Puts_r5_1)
def view_Puts_r6 : IC := cReg Try.prog [
    ⟨some 39, none, iMov 39 (.tmp 7) true⟩,
    ⟨some 40, none, iFad 40 5 (.tmp 9)⟩,
    ⟨some 41, none, iLoad 41 2 true (.tmp 40) false⟩,
    ⟨some 42, none, iCall 42 30 [(.tmp 41)]⟩,
    ⟨some 43, none, iRow 43 25 2 [(.tmp 42)]⟩,
    ⟨some 44, none, iApp 44 25 2 32 (.tmp 39) (.tmp 43)⟩,
    ⟨some 7, none, iMov 7 (.tmp 44) true⟩] [1, 2, 7, 16, 17, 18] []
def view_Puts_c5 : IC := cCond (.tmp 38) view_Puts_r6 cSkip
def view_Puts_b4 : IC := cBlock 1 (cSeq view_Puts_r4 (cSeq view_Puts_r5 view_Puts_c5))
def view_Puts_r7 : IC := cReg Try.prog [
    ⟨some 45, none, iBin 45 .add (.tmp 18) (.const (.int .i64 1))⟩,
    ⟨some 18, none, iMov 18 (.tmp 45) false⟩] [1, 2, 7, 16, 17, 18] []
def view_Puts_l2a : IC := (cSeq view_Puts_r3 (cSeq view_Puts_c3 (cSeq view_Puts_b4 view_Puts_r7)))
def view_Puts_l2 : IC := cLoop view_Puts_l2a
def view_Puts_b1 : IC := cBlock 0 view_Puts_l2
def view_Puts_r8 : IC := cReg Try.prog [
    ⟨some 46, none, iMov 46 (.tmp 7) false⟩,
    ⟨some 6, none, iMov 6 (.tmp 46) true⟩] [6] []
def view_Puts : IC := (cSeq view_Puts_r0 (cSeq view_Puts_r1 (cSeq (cSeq view_Puts_r2 view_Puts_b1) (cSeq view_Puts_r8 cRet))))
theorem told_view_Puts {args r : List D} (hl : args.length = 3) (h : view_Puts (start args) (fin [(6, none)] r)) : Told Try.prog 17 args r :=
  told_of follows Try.func17 rfl (an := [([], [0, 1, 2], [], []), ([], [0, 1, 2, 7], [], []), ([], [1, 2, 7, 16, 17, 18], [], []), ([], [1, 2, 7, 16, 17, 18, 19], [], []), ([], [1, 2, 7, 8, 9, 16, 17, 18], [9], []), ([(10, [1, 2, 7, 8, 9, 16, 17, 18, 32], [9])], [1, 2, 7, 9, 16, 17, 18, 38], [9], []), ([], [1, 2, 7, 16, 17, 18], [], []), ([], [1, 2, 7, 16, 17, 18], [], []), ([], [6], [], [])]) (by kernel_rfl) (by kernel_rfl) (by rw [hl]; decide +kernel) h

end Go.Proofs.Ytngfedhffehkaac.ab
