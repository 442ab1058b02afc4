/-
  Several texts in one.
-/
import Derived.Test.YtgechpchbenanacM31
import Derived.Test.YtgechpchbenanacM32
import Derived.Test.YtgechpchbenanacM30

/-
  What the answer's functions on chunks tell.
-/
namespace Go.Proofs.Ytgechpchbenanac.ab
set_option linter.unusedVariables false
set_option linter.unusedSimpArgs false
open Go Go.RowKit
open mth

theorem at_il {l : List Int} {i : Nat} {x : Int} (h : l[i]? = some x) : (l.map vI)[i]? = some (vI x) := by simp [h]
theorem len_cl (l : List Ch) : (encCl l).length = l.length := by simp [encCl]
theorem at_cl {l : List Ch} {i : Nat} {c : Ch} (h : l[i]? = some c) : (encCl l)[i]? = some (aD [vI c.kind, vI c.number, vI c.stream, vI c.place, sD 1 (c.data.map encB), sD 1 (c.early.map vI)]) := by simp [encCl, h, encCh]
end Go.Proofs.Ytgechpchbenanac.ab

/-
  What the answer's Wrong tells.
-/
namespace Go.Proofs.Ytgechpchbenanac.ab
set_option linter.unusedVariables false
set_option linter.unusedSimpArgs false
open Go Go.RowKit
open mth

theorem ne_f {n : Nat} (h : n = 0) : ((n : Int) != 0) = false := by subst h; rfl
theorem ne_t {n : Nat} (h : n ≠ 0) : ((n : Int) != 0) = true := by
  have : ¬ (n : Int) = 0 := by omega
  simpa using this
def wrSt (l : List Int) (last : Int) (k : Nat) : St := ⟨[(3, vI last), (71, sD 1 (l.map vI)), (72, vI l.length), (73, vI k)], [], []⟩
set_option maxHeartbeats 4000000 in
theorem wrong_told (c : Ch) (hl : c.early.length ≤ 9223372036854775807) : Told Try.prog 89 [aD (encCh c)] [vI (wrongL c)] := by
  refine told_r1_Wrong rfl ?_
  simp only [encCh]
  by_cases hk : c.kind = 1
  · have k1 : (c.kind != 1) = false := by simpa using hk
    have k2 : (c.kind == 1) = true := by simpa using hk
    by_cases hn : c.number < 0 ∨ 40 < c.number
    · have hw : wrongL c = 3 := by unfold wrongL; rw [if_neg (by omega), if_pos hn]
      rw [hw]
      by_cases n1 : c.number < 0
      · refine wk (an2 @k1 @n1) ?_
        exact ValsLe.refl _
      · have n2 : 40 < c.number := by omega
        refine wk (an3 @k1 @n1 @n2) ?_
        exact ValsLe.refl _
    · have n1 : ¬ c.number < 0 := by omega
      have n2 : ¬ 40 < c.number := by omega
      by_cases hp : 39 < c.number ∨ c.place < 0 ∨ c.number < c.place
      · have hw : wrongL c = 3 := by unfold wrongL; rw [if_neg (by omega), if_neg hn, if_pos hk, if_pos hp]
        rw [hw]
        by_cases p1 : 39 < c.number
        · refine wk (an5 @k1 @k2 @n1 @n2 @p1) ?_
          exact ValsLe.refl _
        · by_cases p2 : c.place < 0
          · refine wk (an6 @k1 @k2 @n1 @n2 @p1 @p2) ?_
            exact ValsLe.refl _
          · have p3 : c.number < c.place := by omega
            refine wk (an7 @k1 @k2 @n1 @n2 @p1 @p2 @p3) ?_
            exact ValsLe.refl _
      · have p1 : ¬ 39 < c.number := by omega
        have p2 : ¬ c.place < 0 := by omega
        have p3 : ¬ c.number < c.place := by omega
        by_cases he : c.early.length = 0
        · have e1 : ((c.early.length : Int) != 0) = false := ne_f (by omega)
          have hw : wrongL c = wrongMsgL c.stream c.data := by unfold wrongL; rw [if_neg (by omega), if_neg hn, if_pos hk, if_neg hp, if_neg (by omega)]
          rw [hw]
          have hm := wrongMsg_told ⟨c.stream, c.data⟩
          simp only [encMs] at hm
          refine wk (an9 @k1 @k2 @n1 @n2 @p1 @p2 @p3 @e1 @zmap) ?_
          refine cg0 [[vI (wrongMsgL c.stream c.data)]] ?_ ?_
          · exact obl_cons hm obl_nil
          refine wk0 ?_
          exact ValsLe.refl _
        · have e1 : ((c.early.length : Int) != 0) = true := ne_t (by omega)
          have hw : wrongL c = 5 := by unfold wrongL; rw [if_neg (by omega), if_neg hn, if_pos hk, if_neg hp, if_pos he]
          rw [hw]
          refine wk (an9 @k1 @k2 @n1 @n2 @p1 @p2 @p3 @e1 @zmap) ?_
          exact ValsLe.refl _
  · have k1 : (c.kind != 1) = true := by simpa using hk
    have k2 : (c.kind == 1) = false := by simpa using hk
    by_cases hk2 : c.kind = 2
    · have k3 : (c.kind != 2) = false := by simpa using hk2
      by_cases hn : c.number < 0 ∨ 40 < c.number
      · have hw : wrongL c = 3 := by unfold wrongL; rw [if_neg (by omega), if_pos hn]
        rw [hw]
        by_cases n1 : c.number < 0
        · refine wk (an3 @k1 @k3 @n1) ?_
          exact ValsLe.refl _
        · have n2 : 40 < c.number := by omega
          refine wk (an4 @k1 @k3 @n1 @n2) ?_
          exact ValsLe.refl _
      · have n1 : ¬ c.number < 0 := by omega
        have n2 : ¬ 40 < c.number := by omega
        by_cases hs : c.stream ≠ 0 ∨ c.place ≠ 0
        · have hw : wrongL c = 3 := by unfold wrongL; rw [if_neg (by omega), if_neg hn, if_neg hk, if_pos hs]
          rw [hw]
          by_cases s1 : c.stream = 0
          · have s2 : (c.stream != 0) = false := by simpa using s1
            have s3 : (c.place != 0) = true := by simp; omega
            refine wk (an7 @k1 @k2 @k3 @n1 @n2 @s2 @s3) ?_
            exact ValsLe.refl _
          · have s2 : (c.stream != 0) = true := by simpa using s1
            refine wk (an6 @k1 @k2 @k3 @n1 @n2 @s2) ?_
            exact ValsLe.refl _
        · have s2 : (c.stream != 0) = false := by simp; omega
          have s3 : (c.place != 0) = false := by simp; omega
          by_cases hd : c.data.length ≠ 0 ∨ 3 < c.early.length
          · have hw : wrongL c = 5 := by unfold wrongL; rw [if_neg (by omega), if_neg hn, if_neg hk, if_neg hs, if_pos hd]
            rw [hw]
            by_cases d1 : c.data.length = 0
            · have d2 : ((c.data.length : Int) != 0) = false := ne_f (by omega)
              have d3 : 3 < (c.early.length : Int) := by omega
              refine wk (an10 @k1 @k2 @k3 @n1 @n2 @s2 @s3 @d2 @d3 @zmap) ?_
              exact ValsLe.refl _
            · have d2 : ((c.data.length : Int) != 0) = true := ne_t (by omega)
              refine wk (an9 @k1 @k2 @k3 @n1 @n2 @s2 @s3 @d2 @zmap) ?_
              exact ValsLe.refl _
          · have d2 : ((c.data.length : Int) != 0) = false := ne_f (by omega)
            have d3 : ¬ 3 < (c.early.length : Int) := by omega
            have hw : wrongL c = if risesL c.number c.early = true then 0 else 3 := by unfold wrongL; rw [if_neg (by omega), if_neg hn, if_neg hk, if_neg hs, if_neg hd]
            rw [hw]
            refine wk (an10 @k1 @k2 @k3 @n1 @n2 @s2 @s3 @d2 @d3 @zmap) ?_
            clear hw
            generalize c.early = l at *
            generalize c.number = low at *
            refine aw_loop (fun n st => ∃ (k : Nat) (last : Int), k ≤ l.length ∧ n = l.length - k ∧ risesL low l = risesL last (l.drop k) ∧ st = wrSt l last k) l.length (wrSt l low 0) (Le.refl _) ⟨0, low, by omega, by omega, rfl, rfl⟩ ?_
            rintro n st ⟨k, last, hk', hn', hr, rfl⟩
            by_cases hlt : k < l.length
            · obtain ⟨x, hx⟩ : ∃ m, l[k]? = some m := ⟨l[k], List.getElem?_eq_getElem hlt⟩
              have g1 : (k : Int) < (l.length : Int) := by omega
              have g2 : (0 : Int) ≤ (k : Int) := by omega
              have g3 := at_il hx
              have g4 : inR .i64 ((k : Int) + 1) = true := inR_of (by omega)
              have hst := rises_drop last l k x hx
              rw [← hr] at hst
              simp only [wrSt]
              by_cases x1 : x ≤ last
              · rw [show decide (last < x) = false by simp; omega, Bool.false_and] at hst
                rw [hst]
                refine wk (an4 @g1 @g2 @g3 @x1) ?_
                exact ValsLe.refl _
              · rw [show decide (last < x) = true by simp; omega, Bool.true_and] at hst
                by_cases x2 : 39 < x
                · rw [show decide (x ≤ 39) = false by simp; omega, Bool.false_and] at hst
                  rw [hst]
                  refine wk (an5 @g1 @g2 @g3 @x1 @x2) ?_
                  exact ValsLe.refl _
                · rw [show decide (x ≤ 39) = true by simp; omega, Bool.true_and] at hst
                  refine wk (an6 @g1 @g2 @g3 @g4 @x1 @x2) ?_
                  exact ⟨l.length - (k + 1), _, by omega, Le.refl _, k + 1, x, by omega, rfl, hst, by simp only [wrSt, Int.natCast_add, Int.cast_ofNat_Int]⟩
            · have hk'' : k = l.length := by omega
              subst hk''
              have g1 : ¬ (l.length : Int) < (l.length : Int) := by omega
              have : risesL low l = true := by rw [hr, List.drop_length]; rfl
              rw [if_pos this]
              simp only [wrSt]
              refine wk @g1 ?_
              exact ValsLe.refl _
    · have k3 : (c.kind != 2) = true := by simpa using hk2
      have hw : wrongL c = 1 := by unfold wrongL; rw [if_pos ⟨hk, hk2⟩]
      rw [hw]
      refine wk (an2 @k1 @k3) ?_
      exact ValsLe.refl _
end Go.Proofs.Ytgechpchbenanac.ab

/-
  What the landed Bytes tells, and the answer's: sums, seals, bytes of chunks.
-/
namespace Go.Proofs.Ytgechpchbenanac.ab
set_option linter.unusedVariables false
set_option linter.unusedSimpArgs false
open Go Go.RowKit
open mth

theorem enc_b8 {n : Int} (h : 0 ≤ n ∧ n ≤ 255) : encB (b8 n) = vD (.int .u8 n) := by
  unfold encB
  rw [b8_toNat h]
/-! ### The answer's -/
def suSt (l : List UInt8) (k : Nat) : St := ⟨[(0, sD 1 (l.map encB)), (3, vI (sumL (l.take k))), (6, vI l.length), (7, vI k)], [], []⟩
theorem sum_step (l : List UInt8) (k : Nat) (h : k < l.length) : sumL (l.take (k + 1)) = (139 * sumL (l.take k) + ((l.getD k 0).toNat : Int) + 1) % 65521 := by
  rw [List.take_add_one, List.getElem?_eq_getElem h, Option.toList_some, sumL_snoc, List.getD_eq_getElem?_getD, List.getElem?_eq_getElem h]
  simp only [mth.step]
  rw [Int.mul_comm]
  rfl
set_option maxHeartbeats 4000000 in
theorem refSum_told (l : List UInt8) (hl : l.length ≤ 9223372036854775807) : Told Try.prog 103 [sD 1 (l.map encB)] [vI (sumL l)] := by
  refine told_r1_Sum rfl ?_
  refine wk @zmap ?_
  refine aw_loop (fun m st => ∃ k, k ≤ l.length ∧ m = l.length - k ∧ st = suSt l k) l.length (suSt l 0) (Le.refl _) ⟨0, by omega, by omega, rfl⟩ ?_
  rintro m st ⟨k, hk, hm, rfl⟩
  by_cases hlt : k < l.length
  · have q1 : (k : Int) < (l.length : Int) := by omega
    have q2 : (0 : Int) ≤ (k : Int) := by omega
    have q3 := at_bs hlt
    have q4 : inR .i64 ((k : Int) + 1) = true := inR_of (by omega)
    have q5 := wrap_64 (u8_lt (l.getD k 0))
    have hs := sumL_bd (l.take k)
    have hu := u8_lt (l.getD k 0)
    have hst := sum_step l k hlt
    have hnx : Next (fun m st => ∃ k, k ≤ l.length ∧ m = l.length - k ∧ st = suSt l k) m (suSt l (k + 1)) := ⟨l.length - (k + 1), _, by omega, Le.refl _, k + 1, by omega, rfl, rfl⟩
    generalize (fun m st => ∃ k, k ≤ l.length ∧ m = l.length - k ∧ st = suSt l k) = J at *
    unfold suSt at hnx ⊢
    rw [hst] at hnx
    generalize sumL (l.take k) = s at *
    generalize ((l.getD k 0).toNat : Int) = u at *
    have r1 : inR .i64 (139 * s) = true := inR_of (by omega)
    have r2 : inR .i64 (139 * s + u) = true := inR_of (by omega)
    have r3 : inR .i64 (139 * s + u + 1) = true := inR_of (by omega)
    have r4 : (139 * s + u + 1).tmod 65521 = (139 * s + u + 1) % 65521 := Int.tmod_eq_emod_of_nonneg (by omega)
    have r5 : (65521 : Int) ≠ 0 := by decide
    simp only [Int.natCast_add, Int.cast_ofNat_Int] at hnx ⊢
    refine wk (an12 @q1 @q2 @q3 @q4 @q5 @r1 @r2 @r3 @r4 @r5 @zmap @Int.toNat_natCast) ?_
    exact hnx
  · have hin : k = l.length := by omega
    subst hin
    have q1 : ¬ (l.length : Int) < (l.length : Int) := by omega
    generalize (fun m st => ∃ k, k ≤ l.length ∧ m = l.length - k ∧ st = suSt l k) = J at *
    unfold suSt
    rw [List.take_length]
    refine wk @q1 ?_
    exact ValsLe.refl _
theorem seal_enc (l : List UInt8) : (sealL l).map encB = l.map encB ++ [vD (.int .u8 (sumL l / 256)), vD (.int .u8 (sumL l % 256))] := by
  have hb := sumL_bd l
  unfold sealL
  rw [List.map_append]
  simp only [List.map_cons, List.map_nil]
  unfold encB
  rw [hiB_toNat hb, loB_toNat hb]
set_option maxHeartbeats 4000000 in
theorem refSeal_told (l : List UInt8) (hl : l.length ≤ 1048600) : Told Try.prog 86 [sD 1 (l.map encB)] [sD 1 ((sealL l).map encB)] := by
  refine told_r1_Seal rfl ?_
  have o1 := refSum_told l (by omega)
  have hb := sumL_bd l
  rw [seal_enc]
  generalize sumL l = s at *
  have r1 : s.tdiv 256 = s / 256 := Int.tdiv_eq_ediv_of_nonneg hb.1
  have r2 : s.tmod 256 = s % 256 := Int.tmod_eq_emod_of_nonneg hb.1
  have r3 : (256 : Int) ≠ 0 := by decide
  have r4 : inR .i64 (s / 256) = true := inR_of (by omega)
  have r5 := wrap_8 (show 0 ≤ s / 256 ∧ s / 256 ≤ 255 by omega)
  have r6 := wrap_8 (show 0 ≤ s % 256 ∧ s % 256 ≤ 255 by omega)
  have b0 : l.length * 1 ≤ 140737488355328 := by omega
  have b1 : (0 + l.length) * 1 ≤ 140737488355328 := by omega
  have b2 : (l.length + 2) * 1 ≤ 140737488355328 := by omega
  have b3 : (0 + l.length + 2) * 1 ≤ 140737488355328 := by omega
  refine wk0 ?_
  refine cg0 [[vI s]] ?_ ?_
  · exact obl_cons o1 obl_nil
  refine wk (an14 @r1 @r2 @r3 @r4 @r5 @r6 @b0 @b1 @b2 @b3 @zmap @zapp @zcons @znil) ?_
  exact ValsLe.refl _
theorem ba_list3 (a : List UInt8) : (⟨a.toArray⟩ : ByteArray).toList = a := by
  rw [ByteArray.toList_eq]
set_option maxHeartbeats 8000000 in
theorem refOpen_told (xs : List UInt8) (hx : xs.length ≤ 1048600) : Told Try.prog 88 [sD 1 (xs.map encB)] [sD 1 ((openL xs).map encB), vB (okL xs)] := by
  refine told_r1_Open rfl ?_
  by_cases h : xs.length < 2
  · have hk : okL xs = false := by unfold okL; rw [decide_eq_false (by omega)]; rfl
    have ho : openL xs = [] := by unfold openL; rw [hk]; rfl
    have g1 : (xs.length : Int) < 2 := by omega
    rw [hk, ho]
    refine wk (an2 @g1 @zmap) ?_
    repeat' (first | exact vals_nil | exact row_nil | exact es_nil | exact CVLe.refl _ | exact LfLe.refl _ | exact LfLe.nil _ | exact EsLe.refl _ | refine vals_cons ?_ ?_ | refine row_cons ?_ ?_ | refine es_cons ?_ ?_ | refine EsLe.app ?_ ?_ | refine CVLe.row ?_ | refine CVLe.leafV ?_ | refine CVLe.leafS ?_ | refine LfLe.s ?_)
  have g1 : ¬ (xs.length : Int) < 2 := by omega
  have g2 : inR .i64 ((xs.length : Int) - 2) = true := inR_of (by omega)
  have g3 : (0 : Int) ≤ (xs.length : Int) - 2 := by omega
  have g4 : (xs.length : Int) - 2 ≤ (xs.length : Int) := by omega
  have g5 : ((xs.length : Int) - 2).toNat = xs.length - 2 := by omega
  have g6 : (xs.map encB).take (xs.length - 2) = (xs.take (xs.length - 2)).map encB := List.map_take.symm
  have hok : okL xs = (sealL (xs.take (xs.length - 2)) == xs) := by unfold okL; rw [decide_eq_true (by omega)]; rfl
  have o1 := refSeal_told (xs.take (xs.length - 2)) (by rw [List.length_take]; omega)
  have z0 : (0 : Int) ≤ 0 := by decide
  have z1 : (0 : Int).toNat = 0 := rfl
  refine wk (an12 @g1 @g2 @g3 @g4 @g5 @g6 @z0 @z1 @zmap @zd0 @Int.le_refl @Int.natCast_zero) ?_
  unfold openL
  rw [hok]
  generalize xs.take (xs.length - 2) = ys at *
  cases hb : (sealL ys == xs) with
  | true =>
    generalize sealL ys = ss at *
    refine cd [[sD 1 (ss.map encB)]] (an4 @bytesOf_enc @ba_list3 @hb Bool.not_true) ?_ ?_
    · exact obl_cons o1 obl_nil
    refine wk0 ?_
    exact ValsLe.refl _
  | false =>
    generalize sealL ys = ss at *
    refine cd [[sD 1 (ss.map encB)]] (an4 @bytesOf_enc @ba_list3 @hb Bool.not_false) ?_ ?_
    · exact obl_cons o1 obl_nil
    refine wk0 ?_
    repeat' (first | exact vals_nil | exact row_nil | exact es_nil | exact CVLe.refl _ | exact LfLe.refl _ | exact LfLe.nil _ | exact EsLe.refl _ | refine vals_cons ?_ ?_ | refine row_cons ?_ ?_ | refine es_cons ?_ ?_ | refine EsLe.app ?_ ?_ | refine CVLe.row ?_ | refine CVLe.leafV ?_ | refine CVLe.leafS ?_ | refine LfLe.s ?_)
end Go.Proofs.Ytgechpchbenanac.ab
