/-
  Several texts in one.
-/
import Derived.Test.YtgechpchbenanacM37
import Derived.Test.YtgechpchbenanacM35

/-
  What the answer's RecvHear tells: up to the next that has not come, and what came early.
-/
namespace Go.Proofs.Ytgechpchbenanac.ab
set_option linter.unusedVariables false
set_option linter.unusedSimpArgs false
open Go Go.RowKit
open mth

/-- At the head of the second loop. -/
def rbSt (B3 B4 : List D) (early : List Int) (p0 p1 p2 : Int) (H T : List D) (L : List Int) (n : Int) : St :=
  ⟨[(2, pD 2 0), (3, pD 3 0), (4, pD 4 0), (5, hD 200018)], [(2, [vI n, sD 1 (early.map vI), vI p0, vI p1, vI p2, sD 6 H, sD 2 T, vB true]), (3, B3), (4, B4), (200018, encS L)], []⟩
theorem rbSt_def (B3 B4 : List D) (early : List Int) (p0 p1 p2 : Int) (H T : List D) (L : List Int) (n : Int) : rbSt B3 B4 early p0 p1 p2 H T L n = ⟨[(2, pD 2 0), (3, pD 3 0), (4, pD 4 0), (5, hD 200018)], [(2, [vI n, sD 1 (early.map vI), vI p0, vI p1, vI p2, sD 6 H, sD 2 T, vB true]), (3, B3), (4, B4), (200018, encS L)], []⟩ := rfl
set_option maxHeartbeats 4000000 in
theorem rh_climb (next nx p0 p1 p2 : Int) (H T : List D) (c : Ch) (early L : List Int) (h0 : 0 ≤ next) (h1 : next ≤ nx) (h2 : nx ≤ 40) (h3 : L.contains nx = false) (h4 : ∀ m, next ≤ m → m < nx → L.contains m = true) (Q : AX → St → Prop)
    (hQ : Q none ⟨[(2, pD 2 0), (3, pD 3 0), (4, pD 4 0), (5, hD 200018), (59, vB false)], [(2, [vI nx, sD 1 (early.map vI), vI p0, vI p1, vI p2, sD 6 H, sD 2 T, vB true]), (3, encCh c), (4, [vI 0, vD (.slice none 0 0), vI 0, vI 0, vI 0, vD (.slice none 0 0), vD (.slice none 0 0), vB false]), (200018, encS L)], []⟩) :
    r1_RecvHear_b8 (rbSt (encCh c) [vI 0, vD (.slice none 0 0), vI 0, vI 0, vI 0, vD (.slice none 0 0), vD (.slice none 0 0), vB false] early p0 p1 p2 H T L next) Q := by
  refine aw_block ?_
  refine aw_loop (fun m st => ∃ n : Int, next ≤ n ∧ n ≤ nx ∧ m = (nx - n).toNat ∧ st = rbSt (encCh c) [vI 0, vD (.slice none 0 0), vI 0, vI 0, vI 0, vD (.slice none 0 0), vD (.slice none 0 0), vB false] early p0 p1 p2 H T L n) (nx - next).toNat _ (Le.refl _) ⟨next, by omega, by omega, rfl, rfl⟩ ?_
  rintro m st ⟨n, hn1, hn2, hm, rfl⟩
  have hlk := encS_look L n
  have g1 : inR .i64 n = true := inR_of (by omega)
  by_cases hlt : n < nx
  · rw [h4 n hn1 hlt] at hlk
    have g2 : inR .i64 (n + 1) = true := inR_of (by omega)
    have hnx : Next (fun m st => ∃ n : Int, next ≤ n ∧ n ≤ nx ∧ m = (nx - n).toNat ∧ st = rbSt (encCh c) [vI 0, vD (.slice none 0 0), vI 0, vI 0, vI 0, vD (.slice none 0 0), vD (.slice none 0 0), vB false] early p0 p1 p2 H T L n) m (rbSt (encCh c) [vI 0, vD (.slice none 0 0), vI 0, vI 0, vI 0, vD (.slice none 0 0), vD (.slice none 0 0), vB false] early p0 p1 p2 H T L (n + 1)) :=
      ⟨(nx - (n + 1)).toNat, _, by omega, Le.refl _, n + 1, by omega, by omega, rfl, rfl⟩
    generalize (fun m st => ∃ n : Int, next ≤ n ∧ n ≤ nx ∧ m = (nx - n).toNat ∧ st = rbSt (encCh c) [vI 0, vD (.slice none 0 0), vI 0, vI 0, vI 0, vD (.slice none 0 0), vD (.slice none 0 0), vB false] early p0 p1 p2 H T L n) = J at *
    simp only [rbSt_def, encCh] at hnx ⊢
    refine wk (an3 @g1 @g2 @hlk) ?_
    exact hnx
  · have : n = nx := by omega
    subst this
    rw [h3] at hlk
    simp only [rbSt_def]
    refine wk (an2 @g1 @hlk) ?_
    exact hQ

/-- At the head of the third loop. -/
def rcSt (B3 B4 : List D) (next p0 p1 p2 : Int) (H T : List D) (L : List Int) (n : Int) : St :=
  ⟨[(2, pD 2 0), (3, pD 3 0), (4, pD 4 0), (5, hD 200018), (8, vI n)], [(2, [vI next, sD 1 (((rangeI next n).filter fun m => L.contains m).map vI), vI p0, vI p1, vI p2, sD 6 H, sD 2 T, vB true]), (3, B3), (4, B4), (200018, encS L)], [((2, some 1), (3, 1, none))]⟩
theorem rcSt_def (B3 B4 : List D) (next p0 p1 p2 : Int) (H T : List D) (L : List Int) (n : Int) : rcSt B3 B4 next p0 p1 p2 H T L n = ⟨[(2, pD 2 0), (3, pD 3 0), (4, pD 4 0), (5, hD 200018), (8, vI n)], [(2, [vI next, sD 1 (((rangeI next n).filter fun m => L.contains m).map vI), vI p0, vI p1, vI p2, sD 6 H, sD 2 T, vB true]), (3, B3), (4, B4), (200018, encS L)], [((2, some 1), (3, 1, none))]⟩ := rfl
set_option maxHeartbeats 4000000 in
theorem rh_over (next p0 p1 p2 : Int) (H T : List D) (c : Ch) (L : List Int) (h0 : 0 ≤ next) (h1 : next ≤ 40) (Q : AX → St → Prop)
    (hQ : Q none ⟨[(2, pD 2 0), (3, pD 3 0), (4, pD 4 0), (5, hD 200018), (8, vI 40), (68, vB false)], [(2, [vI next, sD 1 ((earlyR L next).map vI), vI p0, vI p1, vI p2, sD 6 H, sD 2 T, vB true]), (3, encCh c), (4, [vI 0, vD (.slice none 0 0), vI 0, vI 0, vI 0, vD (.slice none 0 0), vD (.slice none 0 0), vB false]), (200018, encS L)], [((2, some 1), (3, 1, none))]⟩) :
    r1_RecvHear_b12 (rcSt (encCh c) [vI 0, vD (.slice none 0 0), vI 0, vI 0, vI 0, vD (.slice none 0 0), vD (.slice none 0 0), vB false] next p0 p1 p2 H T L next) Q := by
  refine aw_block ?_
  refine aw_loop (fun m st => ∃ n : Int, next ≤ n ∧ n ≤ 40 ∧ m = (40 - n).toNat ∧ st = rcSt (encCh c) [vI 0, vD (.slice none 0 0), vI 0, vI 0, vI 0, vD (.slice none 0 0), vD (.slice none 0 0), vB false] next p0 p1 p2 H T L n) (40 - next).toNat _ (Le.refl _) ⟨next, by omega, by omega, rfl, rfl⟩ ?_
  rintro m st ⟨n, hn1, hn2, hm, rfl⟩
  have hlk := encS_look L n
  have g1 : inR .i64 n = true := inR_of (by omega)
  have hnx : n < 40 → Next (fun m st => ∃ n : Int, next ≤ n ∧ n ≤ 40 ∧ m = (40 - n).toNat ∧ st = rcSt (encCh c) [vI 0, vD (.slice none 0 0), vI 0, vI 0, vI 0, vD (.slice none 0 0), vD (.slice none 0 0), vB false] next p0 p1 p2 H T L n) m (rcSt (encCh c) [vI 0, vD (.slice none 0 0), vI 0, vI 0, vI 0, vD (.slice none 0 0), vD (.slice none 0 0), vB false] next p0 p1 p2 H T L (n + 1)) :=
    fun hlt => ⟨(40 - (n + 1)).toNat, _, by omega, Le.refl _, n + 1, by omega, by omega, rfl, rfl⟩
  have hsz : (((rangeI next n).filter fun m => L.contains m).map vI).length ≤ 40 := by
    rw [List.length_map]
    refine Nat.le_trans (List.length_filter_le _ _) ?_
    rw [rangeI_len]; omega
  by_cases hlt : n < 40
  · have g2 : inR .i64 (n + 1) = true := inR_of (by omega)
    have hnx := hnx hlt
    generalize (fun m st => ∃ n : Int, next ≤ n ∧ n ≤ 40 ∧ m = (40 - n).toNat ∧ st = rcSt (encCh c) [vI 0, vD (.slice none 0 0), vI 0, vI 0, vI 0, vD (.slice none 0 0), vD (.slice none 0 0), vB false] next p0 p1 p2 H T L n) = J at *
    cases hc : L.contains n with
    | true =>
      rw [hc] at hlk
      have he : ((rangeI next (n + 1)).filter fun m => L.contains m).map vI = ((rangeI next n).filter fun m => L.contains m).map vI ++ [vI n] := by
        rw [rangeI_snoc hn1, List.filter_append, List.map_append, List.filter_cons_of_pos (by exact hc), List.filter_nil]; rfl
      simp only [rcSt_def, encCh, he] at hnx ⊢
      generalize ((rangeI next n).filter fun m => L.contains m).map vI = E at *
      have g3 : E.length * 8 ≤ 140737488355328 := by omega
      have g4 : (E.length + 1) * 8 ≤ 140737488355328 := by omega
      refine wk (an7 @hlt @g1 @g2 @g3 @g4 @hlk @zapp) ?_
      exact hnx
    | false =>
      rw [hc] at hlk
      have he : ((rangeI next (n + 1)).filter fun m => L.contains m).map vI = ((rangeI next n).filter fun m => L.contains m).map vI := by
        rw [rangeI_snoc hn1, List.filter_append, List.map_append, List.filter_cons_of_neg (by rw [hc]; simp), List.filter_nil]
        exact List.append_nil _
      simp only [rcSt_def, encCh, he] at hnx ⊢
      generalize ((rangeI next n).filter fun m => L.contains m).map vI = E at *
      refine wk (an4 @hlt @g1 @g2 @hlk) ?_
      exact hnx
  · have : n = 40 := by omega
    subst this
    simp only [rcSt_def]
    refine wk0 ?_
    exact hQ
end Go.Proofs.Ytgechpchbenanac.ab

/-
  What the answer's RecvHear tells: what waits is told as long as some of it is its stream's next.
-/
namespace Go.Proofs.Ytgechpchbenanac.ab
set_option linter.unusedVariables false
set_option linter.unusedSimpArgs false
open Go Go.RowKit
open mth

theorem ml_snoc3 (l : List Ms) (m : Ms) : encMl (l ++ [m]) = encMl l ++ [aD [vI m.stream, sD 1 (m.data.map encB)]] := by simp [encMl, encMs]
theorem cl_cut (l : List Ch) (i j : Nat) : encCl (l.take i ++ l.drop j) = (encCl l).take i ++ (encCl l).drop j := by simp [encCl]
/-- At the head of the outer loop. -/
def rdSt (next : Int) (E H : List D) (d : Dr) (a : Bool) : St := ⟨[(2, pD 2 0), (4, pD 4 0), (9, sD 6 (encCl d.hold)), (10, vB a)], [(2, [vI next, sD 1 E, vI d.p0, vI d.p1, vI d.p2, sD 6 H, sD 2 (encMl d.told), vB true]), (4, [vI 0, vD (.slice none 0 0), vI 0, vI 0, vI 0, vD (.slice none 0 0), vD (.slice none 0 0), vB false])], []⟩
/-- At the head of the inner one. -/
def riSt (next : Int) (E H : List D) (d : Dr) (i : Nat) : St := ⟨[(2, pD 2 0), (4, pD 4 0), (9, sD 6 (encCl d.hold)), (10, vB false), (88, sD 6 (encCl d.hold)), (89, vI d.hold.length), (90, vI i)], [(2, [vI next, sD 1 E, vI d.p0, vI d.p1, vI d.p2, sD 6 H, sD 2 (encMl d.told), vB true]), (4, [vI 0, vD (.slice none 0 0), vI 0, vI 0, vI 0, vD (.slice none 0 0), vD (.slice none 0 0), vB false])], []⟩
def roSt (next : Int) (E H : List D) (d : Dr) : St := ⟨[(2, pD 2 0), (4, pD 4 0), (9, sD 6 (encCl d.hold)), (10, vB true)], [(2, [vI next, sD 1 E, vI d.p0, vI d.p1, vI d.p2, sD 6 H, sD 2 (encMl d.told), vB true]), (4, [vI 0, vD (.slice none 0 0), vI 0, vI 0, vI 0, vD (.slice none 0 0), vD (.slice none 0 0), vB false])], [((9, none), (93, 6, none)), ((2, some 6), (25, 2, none))]⟩
theorem roSt_le (next : Int) (E H : List D) (d : Dr) : Le (roSt next E H d) (rdSt next E H d true) := Le.look (fun s v h => h) (fun b => rfl) (fun p x h => by simp [rdSt, lookF] at h)

set_option maxHeartbeats 4000000 in
theorem rh_one0t (next p0 p1 p2 : Int) (E H : List D) (hold : List Ch) (told : List Ms) (i : Nat) (kind number place : Int) (data : List UInt8) (early : List Int) (hx : hold[i]? = some ⟨kind, number, 0, place, data, early⟩) (hr : (place == p0) = true) (hp : 0 ≤ p0 ∧ p0 ≤ 1000) (hT : told.length ≤ 1000) (hc : hold.length ≤ 1000) (Q : AX → St → Prop)
    (hQ : Q (some (some 8)) (roSt next E H ⟨p0 + 1, p1, p2, hold.take i ++ hold.drop (i + 1), told ++ [⟨0, data⟩]⟩)) :
    r1_RecvHear_l22a (riSt next E H ⟨p0, p1, p2, hold, told⟩ i) Q := by
  have hi : i < hold.length := (List.getElem?_eq_some_iff.1 hx).1
  have g0 : (0 : Int) ≤ (i : Int) := by omega
  have g1 : (i : Int) ≤ (hold.length : Int) := by omega
  have g2 : inR .i64 ((i : Int) + 1) = true := inR_of (by omega)
  have g3 : (i : Int) + 1 ≤ (hold.length : Int) := by omega
  have g4 : (0 : Int) ≤ (i : Int) + 1 := by omega
  have g5 : inR .i64 (p0 + 1) = true := inR_of (by omega)
  have g6 : (hold.length : Int) ≤ (hold.length : Int) := by omega
  have g7 : (i : Int) < (hold.length : Int) := by omega
  have g8 := at_cl hx
  have b1 : told.length * 32 ≤ 140737488355328 := by omega
  have b2 : (told.length + 1) * 32 ≤ 140737488355328 := by omega
  have q1 : ((i : Int) + 1).toNat = i + 1 := by omega
  have q2 : (encCl hold).take hold.length = encCl hold := List.take_of_length_le (by rw [len_cl]; exact Nat.le_refl _)
  have b3 : ((encCl hold).take i).length * 80 ≤ 140737488355328 := by rw [List.length_take, len_cl]; omega
  have b4 : (((encCl hold).take i).length + ((encCl hold).drop (i + 1)).length) * 80 ≤ 140737488355328 := by rw [List.length_take, List.length_drop, len_cl]; omega
  simp only [roSt, riSt, cl_cut, ml_snoc3, Int.natCast_add, Int.cast_ofNat_Int] at hQ ⊢
  refine wk (an22 @g0 @g1 @g2 @g3 @g4 @g5 @g6 @g7 @g8 @hr @len_cl @len_ml @q1 @q2 @b1 @b2 @b3 @b4 @zapp @Int.toNat_natCast @zd0 @Int.toNat_zero) ?_
  exact hQ
set_option maxHeartbeats 4000000 in
theorem rh_one0f (next p0 p1 p2 : Int) (E H : List D) (hold : List Ch) (told : List Ms) (i : Nat) (kind number place : Int) (data : List UInt8) (early : List Int) (hx : hold[i]? = some ⟨kind, number, 0, place, data, early⟩) (hr : (place == p0) = false) (hp : 0 ≤ p0 ∧ p0 ≤ 1000) (hT : told.length ≤ 1000) (hc : hold.length ≤ 1000) (Q : AX → St → Prop)
    (hQ : Q none (riSt next E H ⟨p0, p1, p2, hold, told⟩ (i + 1))) :
    r1_RecvHear_l22a (riSt next E H ⟨p0, p1, p2, hold, told⟩ i) Q := by
  have hi : i < hold.length := (List.getElem?_eq_some_iff.1 hx).1
  have g0 : (0 : Int) ≤ (i : Int) := by omega
  have g1 : (i : Int) ≤ (hold.length : Int) := by omega
  have g2 : inR .i64 ((i : Int) + 1) = true := inR_of (by omega)
  have g3 : (i : Int) + 1 ≤ (hold.length : Int) := by omega
  have g4 : (0 : Int) ≤ (i : Int) + 1 := by omega
  have g5 : inR .i64 (p0 + 1) = true := inR_of (by omega)
  have g6 : (hold.length : Int) ≤ (hold.length : Int) := by omega
  have g7 : (i : Int) < (hold.length : Int) := by omega
  have g8 := at_cl hx
  have b1 : told.length * 32 ≤ 140737488355328 := by omega
  have b2 : (told.length + 1) * 32 ≤ 140737488355328 := by omega
  have q1 : ((i : Int) + 1).toNat = i + 1 := by omega
  have q2 : (encCl hold).take hold.length = encCl hold := List.take_of_length_le (by rw [len_cl]; exact Nat.le_refl _)
  have b3 : ((encCl hold).take i).length * 80 ≤ 140737488355328 := by rw [List.length_take, len_cl]; omega
  have b4 : (((encCl hold).take i).length + ((encCl hold).drop (i + 1)).length) * 80 ≤ 140737488355328 := by rw [List.length_take, List.length_drop, len_cl]; omega
  simp only [roSt, riSt, cl_cut, ml_snoc3, Int.natCast_add, Int.cast_ofNat_Int] at hQ ⊢
  refine wk (an22 @g0 @g1 @g2 @g3 @g4 @g5 @g6 @g7 @g8 @hr @len_cl @len_ml @q1 @q2 @b1 @b2 @b3 @b4 @zapp @Int.toNat_natCast @zd0 @Int.toNat_zero) ?_
  exact hQ
set_option maxHeartbeats 4000000 in
theorem rh_one1t (next p0 p1 p2 : Int) (E H : List D) (hold : List Ch) (told : List Ms) (i : Nat) (kind number place : Int) (data : List UInt8) (early : List Int) (hx : hold[i]? = some ⟨kind, number, 1, place, data, early⟩) (hr : (place == p1) = true) (hp : 0 ≤ p1 ∧ p1 ≤ 1000) (hT : told.length ≤ 1000) (hc : hold.length ≤ 1000) (Q : AX → St → Prop)
    (hQ : Q (some (some 8)) (roSt next E H ⟨p0, p1 + 1, p2, hold.take i ++ hold.drop (i + 1), told ++ [⟨1, data⟩]⟩)) :
    r1_RecvHear_l22a (riSt next E H ⟨p0, p1, p2, hold, told⟩ i) Q := by
  have hi : i < hold.length := (List.getElem?_eq_some_iff.1 hx).1
  have g0 : (0 : Int) ≤ (i : Int) := by omega
  have g1 : (i : Int) ≤ (hold.length : Int) := by omega
  have g2 : inR .i64 ((i : Int) + 1) = true := inR_of (by omega)
  have g3 : (i : Int) + 1 ≤ (hold.length : Int) := by omega
  have g4 : (0 : Int) ≤ (i : Int) + 1 := by omega
  have g5 : inR .i64 (p1 + 1) = true := inR_of (by omega)
  have g6 : (hold.length : Int) ≤ (hold.length : Int) := by omega
  have g7 : (i : Int) < (hold.length : Int) := by omega
  have g8 := at_cl hx
  have b1 : told.length * 32 ≤ 140737488355328 := by omega
  have b2 : (told.length + 1) * 32 ≤ 140737488355328 := by omega
  have q1 : ((i : Int) + 1).toNat = i + 1 := by omega
  have q2 : (encCl hold).take hold.length = encCl hold := List.take_of_length_le (by rw [len_cl]; exact Nat.le_refl _)
  have b3 : ((encCl hold).take i).length * 80 ≤ 140737488355328 := by rw [List.length_take, len_cl]; omega
  have b4 : (((encCl hold).take i).length + ((encCl hold).drop (i + 1)).length) * 80 ≤ 140737488355328 := by rw [List.length_take, List.length_drop, len_cl]; omega
  simp only [roSt, riSt, cl_cut, ml_snoc3, Int.natCast_add, Int.cast_ofNat_Int] at hQ ⊢
  refine wk (an22 @g0 @g1 @g2 @g3 @g4 @g5 @g6 @g7 @g8 @hr @len_cl @len_ml @q1 @q2 @b1 @b2 @b3 @b4 @zapp @Int.toNat_natCast @zd0 @Int.toNat_zero) ?_
  exact hQ
set_option maxHeartbeats 4000000 in
theorem rh_one1f (next p0 p1 p2 : Int) (E H : List D) (hold : List Ch) (told : List Ms) (i : Nat) (kind number place : Int) (data : List UInt8) (early : List Int) (hx : hold[i]? = some ⟨kind, number, 1, place, data, early⟩) (hr : (place == p1) = false) (hp : 0 ≤ p1 ∧ p1 ≤ 1000) (hT : told.length ≤ 1000) (hc : hold.length ≤ 1000) (Q : AX → St → Prop)
    (hQ : Q none (riSt next E H ⟨p0, p1, p2, hold, told⟩ (i + 1))) :
    r1_RecvHear_l22a (riSt next E H ⟨p0, p1, p2, hold, told⟩ i) Q := by
  have hi : i < hold.length := (List.getElem?_eq_some_iff.1 hx).1
  have g0 : (0 : Int) ≤ (i : Int) := by omega
  have g1 : (i : Int) ≤ (hold.length : Int) := by omega
  have g2 : inR .i64 ((i : Int) + 1) = true := inR_of (by omega)
  have g3 : (i : Int) + 1 ≤ (hold.length : Int) := by omega
  have g4 : (0 : Int) ≤ (i : Int) + 1 := by omega
  have g5 : inR .i64 (p1 + 1) = true := inR_of (by omega)
  have g6 : (hold.length : Int) ≤ (hold.length : Int) := by omega
  have g7 : (i : Int) < (hold.length : Int) := by omega
  have g8 := at_cl hx
  have b1 : told.length * 32 ≤ 140737488355328 := by omega
  have b2 : (told.length + 1) * 32 ≤ 140737488355328 := by omega
  have q1 : ((i : Int) + 1).toNat = i + 1 := by omega
  have q2 : (encCl hold).take hold.length = encCl hold := List.take_of_length_le (by rw [len_cl]; exact Nat.le_refl _)
  have b3 : ((encCl hold).take i).length * 80 ≤ 140737488355328 := by rw [List.length_take, len_cl]; omega
  have b4 : (((encCl hold).take i).length + ((encCl hold).drop (i + 1)).length) * 80 ≤ 140737488355328 := by rw [List.length_take, List.length_drop, len_cl]; omega
  simp only [roSt, riSt, cl_cut, ml_snoc3, Int.natCast_add, Int.cast_ofNat_Int] at hQ ⊢
  refine wk (an22 @g0 @g1 @g2 @g3 @g4 @g5 @g6 @g7 @g8 @hr @len_cl @len_ml @q1 @q2 @b1 @b2 @b3 @b4 @zapp @Int.toNat_natCast @zd0 @Int.toNat_zero) ?_
  exact hQ
set_option maxHeartbeats 4000000 in
theorem rh_one2t (next p0 p1 p2 : Int) (E H : List D) (hold : List Ch) (told : List Ms) (i : Nat) (kind number place : Int) (data : List UInt8) (early : List Int) (hx : hold[i]? = some ⟨kind, number, 2, place, data, early⟩) (hr : (place == p2) = true) (hp : 0 ≤ p2 ∧ p2 ≤ 1000) (hT : told.length ≤ 1000) (hc : hold.length ≤ 1000) (Q : AX → St → Prop)
    (hQ : Q (some (some 8)) (roSt next E H ⟨p0, p1, p2 + 1, hold.take i ++ hold.drop (i + 1), told ++ [⟨2, data⟩]⟩)) :
    r1_RecvHear_l22a (riSt next E H ⟨p0, p1, p2, hold, told⟩ i) Q := by
  have hi : i < hold.length := (List.getElem?_eq_some_iff.1 hx).1
  have g0 : (0 : Int) ≤ (i : Int) := by omega
  have g1 : (i : Int) ≤ (hold.length : Int) := by omega
  have g2 : inR .i64 ((i : Int) + 1) = true := inR_of (by omega)
  have g3 : (i : Int) + 1 ≤ (hold.length : Int) := by omega
  have g4 : (0 : Int) ≤ (i : Int) + 1 := by omega
  have g5 : inR .i64 (p2 + 1) = true := inR_of (by omega)
  have g6 : (hold.length : Int) ≤ (hold.length : Int) := by omega
  have g7 : (i : Int) < (hold.length : Int) := by omega
  have g8 := at_cl hx
  have b1 : told.length * 32 ≤ 140737488355328 := by omega
  have b2 : (told.length + 1) * 32 ≤ 140737488355328 := by omega
  have q1 : ((i : Int) + 1).toNat = i + 1 := by omega
  have q2 : (encCl hold).take hold.length = encCl hold := List.take_of_length_le (by rw [len_cl]; exact Nat.le_refl _)
  have b3 : ((encCl hold).take i).length * 80 ≤ 140737488355328 := by rw [List.length_take, len_cl]; omega
  have b4 : (((encCl hold).take i).length + ((encCl hold).drop (i + 1)).length) * 80 ≤ 140737488355328 := by rw [List.length_take, List.length_drop, len_cl]; omega
  simp only [roSt, riSt, cl_cut, ml_snoc3, Int.natCast_add, Int.cast_ofNat_Int] at hQ ⊢
  refine wk (an22 @g0 @g1 @g2 @g3 @g4 @g5 @g6 @g7 @g8 @hr @len_cl @len_ml @q1 @q2 @b1 @b2 @b3 @b4 @zapp @Int.toNat_natCast @zd0 @Int.toNat_zero) ?_
  exact hQ
set_option maxHeartbeats 4000000 in
theorem rh_one2f (next p0 p1 p2 : Int) (E H : List D) (hold : List Ch) (told : List Ms) (i : Nat) (kind number place : Int) (data : List UInt8) (early : List Int) (hx : hold[i]? = some ⟨kind, number, 2, place, data, early⟩) (hr : (place == p2) = false) (hp : 0 ≤ p2 ∧ p2 ≤ 1000) (hT : told.length ≤ 1000) (hc : hold.length ≤ 1000) (Q : AX → St → Prop)
    (hQ : Q none (riSt next E H ⟨p0, p1, p2, hold, told⟩ (i + 1))) :
    r1_RecvHear_l22a (riSt next E H ⟨p0, p1, p2, hold, told⟩ i) Q := by
  have hi : i < hold.length := (List.getElem?_eq_some_iff.1 hx).1
  have g0 : (0 : Int) ≤ (i : Int) := by omega
  have g1 : (i : Int) ≤ (hold.length : Int) := by omega
  have g2 : inR .i64 ((i : Int) + 1) = true := inR_of (by omega)
  have g3 : (i : Int) + 1 ≤ (hold.length : Int) := by omega
  have g4 : (0 : Int) ≤ (i : Int) + 1 := by omega
  have g5 : inR .i64 (p2 + 1) = true := inR_of (by omega)
  have g6 : (hold.length : Int) ≤ (hold.length : Int) := by omega
  have g7 : (i : Int) < (hold.length : Int) := by omega
  have g8 := at_cl hx
  have b1 : told.length * 32 ≤ 140737488355328 := by omega
  have b2 : (told.length + 1) * 32 ≤ 140737488355328 := by omega
  have q1 : ((i : Int) + 1).toNat = i + 1 := by omega
  have q2 : (encCl hold).take hold.length = encCl hold := List.take_of_length_le (by rw [len_cl]; exact Nat.le_refl _)
  have b3 : ((encCl hold).take i).length * 80 ≤ 140737488355328 := by rw [List.length_take, len_cl]; omega
  have b4 : (((encCl hold).take i).length + ((encCl hold).drop (i + 1)).length) * 80 ≤ 140737488355328 := by rw [List.length_take, List.length_drop, len_cl]; omega
  simp only [roSt, riSt, cl_cut, ml_snoc3, Int.natCast_add, Int.cast_ofNat_Int] at hQ ⊢
  refine wk (an22 @g0 @g1 @g2 @g3 @g4 @g5 @g6 @g7 @g8 @hr @len_cl @len_ml @q1 @q2 @b1 @b2 @b3 @b4 @zapp @Int.toNat_natCast @zd0 @Int.toNat_zero) ?_
  exact hQ
end Go.Proofs.Ytgechpchbenanac.ab
