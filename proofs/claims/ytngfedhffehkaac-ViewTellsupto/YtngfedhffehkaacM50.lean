/-
  Several texts in one.
-/
import Derived.Test.YtngfedhffehkaacM23
import Derived.Test.YtngfedhffehkaacM49
import Derived.Test.YtngfedhffehkaacProg
import Derived.Test.YtngfedhffehkaacM46
import Derived.Test.YtngfedhffehkaacM41
import Derived.Test.YtngfedhffehkaacM47
import Derived.Test.YtngfedhffehkaacM39

/-
  Functions as plain code (written by wip/abs/ir.py): recv.Own, recv.Own=recv_OwnX;X+Z+H5.
-/
namespace Go.Proofs.Ytngfedhffehkaac.ab
set_option linter.unusedSimpArgs false
set_option linter.unusedVariables false
set_option maxRecDepth 100000
open Go Go.RowKit

def recv_Own_r0 : IC := cReg Try.prog [
    ⟨some 1, none, iBox 1 (.tmp 0)⟩,
    ⟨some 2, none, iAlo 2 [vD (.int .i64 0), vD (.slice none 0 0), vD (.int .i64 0), vD (.int .i64 0), vD (.int .i64 0), vD (.slice none 0 0), vD (.slice none 0 0), vD (.bool false)]⟩] [1, 2] [1, 2]
def recv_Own_r1 : IC := cReg Try.prog [
    ⟨some 3, none, iFad 3 1 (.tmp 1)⟩,
    ⟨some 4, none, iLoad 4 1 false (.tmp 3) false⟩,
    ⟨some 5, none, iApp 5 3 1 8 (.const (.slice none 0 0)) (.tmp 4)⟩,
    ⟨some 6, none, iFad 6 1 (.tmp 1)⟩,
    ⟨none, none, iStor 1 (.tmp 6) (.tmp 5)⟩] [1, 2] [1, 2]
def recv_Own_r2 : IC := cReg Try.prog [
    ⟨some 7, none, iFad 7 5 (.tmp 1)⟩,
    ⟨some 8, none, iLoad 8 1 false (.tmp 7) false⟩,
    ⟨some 9, none, iCall 9 73 [(.tmp 8), (.func 74)]⟩,
    ⟨some 10, none, iFad 10 5 (.tmp 1)⟩,
    ⟨none, none, iStor 1 (.tmp 10) (.tmp 9)⟩] [1, 2] [1, 2]
def recv_Own_r3 : IC := cReg Try.prog [
    ⟨some 11, none, iFad 11 6 (.tmp 1)⟩,
    ⟨some 12, none, iLoad 12 1 false (.tmp 11) false⟩,
    ⟨some 13, none, iCall 13 72 [(.tmp 12), (.func 30)]⟩,
    ⟨some 14, none, iFad 14 6 (.tmp 1)⟩,
    ⟨none, none, iStor 1 (.tmp 14) (.tmp 13)⟩] [1, 2] [1, 2]
def recv_Own_r4 : IC := cReg Try.prog [
    ⟨some 15, none, iLoad 15 8 true (.tmp 1) false⟩,
    ⟨none, none, iStor 8 (.tmp 2) (.tmp 15)⟩] [2] [2]
def recv_Own : IC := (cSeq recv_Own_r0 (cSeq recv_Own_r1 (cSeq recv_Own_r2 (cSeq recv_Own_r3 (cSeq recv_Own_r4 cRet)))))
theorem told_recv_Own {args r : List D} (hl : args.length = 1) (h : recv_Own (start args) (fin [(2, some (8, true))] r)) : Told Try.prog 45 args r :=
  told_of follows Try.func45 rfl (an := [([], [1, 2], [1, 2], []), ([], [1, 2], [1, 2], []), ([], [1, 2], [1, 2], []), ([], [1, 2], [1, 2], []), ([], [2], [2], [])]) (by kernel_rfl) (by kernel_rfl) (by rw [hl]; decide +kernel) h

end Go.Proofs.Ytngfedhffehkaac.ab

/-
  What the landed package recv tells: copies of receivers.
-/
namespace Go.Proofs.Ytngfedhffehkaac.ab
set_option linter.unusedVariables false
set_option linter.unusedSimpArgs false
open Go Go.RowKit
open mth

/-- No list of it is too long to be copied. -/
structure SmallR (r : Rv) : Prop where
  e : r.early.length ≤ 1048576
  h : r.hold.length ≤ 1048576
  c : ∀ c ∈ r.hold, c.data.length ≤ 1048576 ∧ c.early.length ≤ 1048576
  t : r.told.length ≤ 1048576
  m : ∀ m ∈ r.told, m.data.length ≤ 1048576
theorem wrongMsg_small {s : Int} {b : List UInt8} (h : wrongMsgL s b = 0) : b.length ≤ 6 := by
  unfold wrongMsgL at h
  split at h
  · cases h
  · split at h
    · cases h
    · omega
theorem good_smallR {r : Rv} (h : GoodR r) : SmallR r := by
  have hs := good_sizes h
  refine ⟨by omega, by omega, fun c hc => ?_, by omega, fun m hm => ?_⟩
  · have := h.h c hc
    have h2 := wrong_one this.1 this.2
    rw [h2.2.2.1]
    exact ⟨by have := wrongMsg_small h2.2.2.2; omega, by simp⟩
  · have := wrongMsg_small (h.m m hm); omega
set_option maxHeartbeats 4000000 in
theorem ownR_told (r : Rv) (h : SmallR r) : Told Try.prog 45 [aD (encRv r)] [aD (encRv r)] := by
  refine told_recv_Own rfl ?_
  simp only [encRv]
  have h1 : r.early.length * 8 ≤ 140737488355328 := by have := h.e; omega
  refine wk (an2 @h1 @zmap) ?_
  refine cg0 [[sD 6 (encCl r.hold)]] ?_ ?_
  · exact obl_cons (ownC_told r.hold h.h h.c) obl_nil
  refine wk0 ?_
  refine cg0 [[sD 2 (encMl r.told)]] ?_ ?_
  · exact obl_cons (ownM_told r.told h.t h.m) obl_nil
  refine wk0 ?_
  exact ValsLe.refl _
end Go.Proofs.Ytngfedhffehkaac.ab

/-
  What the landed functions tell that copy a lane.
-/
namespace Go.Proofs.Ytngfedhffehkaac.ab
set_option linter.unusedVariables false
set_option linter.unusedSimpArgs false
open Go Go.RowKit
open mth

set_option maxHeartbeats 1000000 in
theorem cloneL_nil : Told Try.prog 47 [vD (.slice none 0 0)] [sD 1 []] := by
  refine told_bytes_CloneL rfl ?_
  refine wk0 ?_
  repeat' (first | exact vals_nil | exact row_nil | exact es_nil | exact CVLe.refl _ | exact LfLe.refl _ | exact LfLe.nil _ | exact EsLe.refl _ | refine vals_cons ?_ ?_ | refine row_cons ?_ ?_ | refine es_cons ?_ ?_ | refine EsLe.app ?_ ?_ | refine CVLe.row ?_ | refine CVLe.leafV ?_ | refine CVLe.leafS ?_ | refine LfLe.s ?_)
set_option maxHeartbeats 1000000 in
theorem cloneL_n (a : List D) (ha : a.length ≤ 140737488355328) : Told Try.prog 47 [nD 1 a] [sD 1 a] := by
  refine told_bytes_CloneL rfl ?_
  have h1 : a.length * 1 ≤ 140737488355328 := by omega
  have h2 : (0 + a.length) * 1 ≤ 140737488355328 := by omega
  refine wk (an2 @h1 @h2) ?_
  repeat' (first | exact vals_nil | exact row_nil | exact es_nil | exact CVLe.refl _ | exact LfLe.refl _ | exact LfLe.nil _ | exact EsLe.refl _ | refine vals_cons ?_ ?_ | refine row_cons ?_ ?_ | refine es_cons ?_ ?_ | refine EsLe.app ?_ ?_ | refine CVLe.row ?_ | refine CVLe.leafV ?_ | refine CVLe.leafS ?_ | refine LfLe.s ?_)
theorem cloneL_told (a : List UInt8) (ha : a.length ≤ 140737488355328) : Told Try.prog 47 [sD 1 (a.map encB)] [sD 1 (a.map encB)] := by
  cases a with
  | nil => exact Told.split (pre := []) (post := []) cloneL_nil (cloneL_n [] (by simp))
  | cons x r => exact (cloneL_n ((x :: r).map encB) (by simpa using ha)).less ⟨CVLe.leafS (LfLe.sn 1 _ _), trivial⟩ (ValsLe.refl _)
theorem pk_snoc (l : List (List UInt8)) (x : List UInt8) : encPk (l ++ [x]) = encPk l ++ [sD 1 (x.map encB)] := by simp [encPk]
def opSt (l : List (List UInt8)) (k : Nat) : St := ⟨[(1, vD (.func (.func 47) #[] #[])), (5, sD 1 (encPk (l.take k))), (8, sD 1 (encPk l)), (9, vI l.length), (10, vI k)], [], [((5, none), (23, 1, none))]⟩
set_option maxHeartbeats 4000000 in
theorem ownP_told (l : List (List UInt8)) (hl : l.length ≤ 1048576) (hm : ∀ m ∈ l, m.length ≤ 1048576) : Told Try.prog 46 [sD 1 (encPk l), vD (.func (.func 47) #[] #[])] [sD 1 (encPk l)] := by
  refine told_list_OwnP rfl ?_
  refine wk @len_pk ?_
  refine aw_loop (fun n st => ∃ k, k ≤ l.length ∧ n = l.length - k ∧ st = opSt l k) l.length (opSt l 0) ((Le.nilS 5 23 1 rfl).trans (Le.keep (lv := [1, 5, 8, 9, 10]) (lb := []) (by simp only [ev0, ev1, ev2, look, lookF, cellsFrom, offT, offP, List.tail_nil, List.length_nil, Int.cast_ofNat_Int, Nat.reduceEqDiff, Nat.reduceAdd, Nat.reduceMul, Nat.reduceLeDiff, Nat.reduceLT, ↓reduceIte, reduceCtorEq, Int.reduceBEq, Int.reduceBNe, Int.reduceLT, Int.reduceLE, Int.reduceToNat]; rfl))) ⟨0, by omega, by omega, rfl⟩ ?_
  rintro n st ⟨k, hk', hn, rfl⟩
  by_cases hlt : k < l.length
  · obtain ⟨x, hx⟩ : ∃ m, l[k]? = some m := ⟨l[k], List.getElem?_eq_getElem hlt⟩
    have g1 : (k : Int) < (l.length : Int) := by omega
    have g2 : (0 : Int) ≤ (k : Int) := by omega
    have g3 := at_pk hx
    have g4 : inR .i64 ((k : Int) + 1) = true := inR_of (by omega)
    have hlen : (l.take k).length = k := by rw [List.length_take]; omega
    have hb1 : ((l.take k).length + 1) * 24 ≤ 140737488355328 := by omega
    have hnx : Next (fun n st => ∃ k, k ≤ l.length ∧ n = l.length - k ∧ st = opSt l k) n
        ⟨[(1, vD (.func (.func 47) #[] #[])), (5, sD 1 (encPk (l.take k) ++ [sD 1 (x.map encB)])), (8, sD 1 (encPk l)), (9, vI l.length), (10, vI ((k : Int) + 1))], [], [((5, none), (23, 1, none))]⟩ := by
      rw [← pk_snoc, show l.take k ++ [x] = l.take (k + 1) by rw [List.take_add_one, hx]; rfl]
      exact ⟨l.length - (k + 1), _, by omega, Le.refl _, k + 1, by omega, rfl, by simp only [opSt, Int.natCast_add, Int.cast_ofNat_Int]⟩
    generalize (fun n st => ∃ k, k ≤ l.length ∧ n = l.length - k ∧ st = opSt l k) = J at *
    simp only [opSt]
    generalize l.take k = G at *
    have callP : callableB Try.prog 47 = true := by kernel_rfl
    refine wk (an7 @g1 @g2 @g3 @callP @hb1 @len_pk @Int.toNat_natCast) ?_
    refine cg [[sD 1 (x.map encB)]] (an3 @callP @hb1 @len_pk) ?_ ?_
    · exact obl_cons (cloneL_told x (by have := hm x (List.mem_of_getElem? hx); omega)) obl_nil
    refine wk @g4 ?_
    exact hnx
  · have hk'' : k = l.length := by omega
    subst hk''
    have g1 : ¬ (l.length : Int) < (l.length : Int) := by omega
    simp only [opSt, List.take_length]
    refine wk @g1 ?_
    exact ValsLe.refl _
set_option maxHeartbeats 4000000 in
theorem landL_own : CLOwn 29 := by
  intro l hg
  refine told_lane_Own rfl ?_
  have h1 := ownS_told l.s (good_small hg.s)
  have h2 := ownR_told l.r (good_smallR hg.r)
  have h3 := ownP_told l.there (by have := hg.t; omega) (fun m hm => by have := hg.tn m hm; omega)
  have h4 := ownP_told l.back (by have := hg.b; omega) (fun m hm => by have := hg.bn m hm; omega)
  simp only [encLn, encSd, encRv] at h1 h2 ⊢
  refine wk0 ?_
  refine cd [[aD (encSd l.s)], [aD (encRv l.r)], [sD 1 (encPk l.there)], [sD 1 (encPk l.back)]] (an2 @encSd.eq_1 @encRv.eq_1) ?_ ?_
  · exact obl_cons h1 (obl_cons h2 (obl_cons h3 (obl_cons h4 obl_nil)))
  refine wk0 ?_
  exact ValsLe.refl _
end Go.Proofs.Ytngfedhffehkaac.ab

/-
  What the answer's Packet tells: what is spoilt.
-/
namespace Go.Proofs.Ytngfedhffehkaac.ab
set_option linter.unusedVariables false
set_option linter.unusedSimpArgs false
open Go Go.RowKit
open mth

theorem turn_even {b : UInt8} (h : b.toNat % 2 = 0) : (turnB b).toNat = b.toNat + 1 := by
  have hb : b.toNat < 256 := b.toNat_lt
  unfold turnB
  rw [if_pos (by unfold i8; omega)]
  unfold i8 b8
  rw [show ((b.toNat : Int) + 1) = ((b.toNat + 1 : Nat) : Int) by omega]
  simp [UInt8.toNat_ofNat']; omega
theorem turn_odd {b : UInt8} (h : ¬ b.toNat % 2 = 0) : ((turnB b).toNat : Int) = (b.toNat : Int) - 1 := by
  have hb : b.toNat < 256 := b.toNat_lt
  unfold turnB
  rw [if_neg (by unfold i8; omega)]
  unfold i8 b8
  rw [show ((b.toNat : Int) - 1) = ((b.toNat - 1 : Nat) : Int) by omega]
  simp [UInt8.toNat_ofNat']; omega
theorem enc_spoil {p : List (List UInt8)} {n k : Nat} {x : List UInt8} {b : UInt8} (hx : p[n]? = some x) (hb : x[k]? = some b) : encPk (spoilP p n k) = (encPk p).set n (sD 1 ((x.map encB).set k (encB (turnB b)))) := by
  have e0 : p.getD n [] = x := by rw [List.getD_eq_getElem?_getD, hx]; rfl
  have e1 : x.getD k 0 = b := by rw [List.getD_eq_getElem?_getD, hb]; rfl
  unfold spoilP
  rw [e0, e1]
  simp [encPk, List.map_set]
set_option maxHeartbeats 8000000 in
theorem packet_spoil : CSpoilR 34 := by
  intro l n k back x hg hx hk
  refine told_r6_Packet rfl ?_
  obtain ⟨w1, w2⟩ := hg.way back
  have hlt : n < (wayP l back).length := (List.getElem?_eq_some_iff.1 hx).1
  have hxl := w2 x (List.mem_of_getElem? hx)
  obtain ⟨b, hb⟩ : ∃ b, x[k]? = some b := ⟨_, List.getElem?_eq_getElem hk⟩
  have h1 := wayP_told l back
  have h3 := withP_told l back (spoilP (wayP l back) n k)
  have he := enc_spoil hx hb
  generalize hl' : withP l back (spoilP (wayP l back) n k) = l' at *
  clear hl'
  generalize spoilP (wayP l back) n k = q at *
  generalize wayP l back = p at *
  have hbl : b.toNat < 256 := b.toNat_lt
  have g0 : ¬ (n : Int) < 0 := by omega
  have g1 : ¬ (p.length : Int) ≤ (n : Int) := by omega
  have g2 : (0 : Int) ≤ (n : Int) := by omega
  have g3 : (n : Int) < (p.length : Int) := by omega
  have g4 := at_pk hx
  have hEl := len_pk p
  have k0 : ¬ (k : Int) < 0 := by omega
  have k1 : ¬ (x.length : Int) ≤ (k : Int) := by omega
  have k2 : (0 : Int) ≤ (k : Int) := by omega
  have k3 : (k : Int) < (x.length : Int) := by omega
  have k4 : (x.map encB)[k]? = some (vD (.int .u8 (b.toNat : Int))) := by rw [List.getElem?_map, hb]; rfl
  have k5 : 0 < p.length := by omega
  have k6 : 0 < x.length := by omega
  have k7 : p.length * 24 ≤ 140737488355328 := by omega
  have k8 : x.length * 1 ≤ 140737488355328 := by omega
  have k9 : (2 : Int) ≠ 0 := by decide
  have k10 : (b.toNat : Int).tmod 2 = ((b.toNat % 2 : Nat) : Int) := by rw [Int.tmod_eq_emod_of_nonneg (by omega)]; omega
  by_cases hev : b.toNat % 2 = 0
  · have e1 : (((b.toNat % 2 : Nat) : Int) == 0) = true := by simp; omega
    have e2 : inR .u8 ((b.toNat : Int) + 1) = true := inR_u8.2 (by omega)
    have e3 : encB (turnB b) = vD (.int .u8 ((b.toNat : Int) + 1)) := by unfold encB; rw [turn_even hev]; rfl
    rw [e3] at he
    rw [he] at h3
    generalize encPk p = E at *
    simp only [encLn] at h1 h3 ⊢
    refine wk0 ?_
    refine cg0 [[sD 1 E]] ?_ ?_
    · exact obl_cons h1 obl_nil
    refine wk (an23 @g0 @g1 @g2 @g3 @g4 @hEl @k0 @k1 @k2 @k3 @k4 @k5 @k6 @k7 @k8 @k9 @k10 @e1 @e2 @zmap @zset @zss @Int.toNat_natCast) ?_
    refine cg [[aD (encLn l')]] @encLn.eq_1 ?_ ?_
    · exact obl_cons h3 obl_nil
    refine wk0 ?_
    exact ValsLe.refl _
  · have e1 : (((b.toNat % 2 : Nat) : Int) == 0) = false := by simp; omega
    have e2 : inR .u8 ((b.toNat : Int) - 1) = true := inR_u8.2 (by omega)
    have e3 : encB (turnB b) = vD (.int .u8 ((b.toNat : Int) - 1)) := by unfold encB; rw [turn_odd hev]
    rw [e3] at he
    rw [he] at h3
    generalize encPk p = E at *
    simp only [encLn] at h1 h3 ⊢
    refine wk0 ?_
    refine cg0 [[sD 1 E]] ?_ ?_
    · exact obl_cons h1 obl_nil
    refine wk (an23 @g0 @g1 @g2 @g3 @g4 @hEl @k0 @k1 @k2 @k3 @k4 @k5 @k6 @k7 @k8 @k9 @k10 @e1 @e2 @zmap @zset @zss @Int.toNat_natCast) ?_
    refine cg [[aD (encLn l')]] @encLn.eq_1 ?_ ?_
    · exact obl_cons h3 obl_nil
    refine wk0 ?_
    exact ValsLe.refl _
end Go.Proofs.Ytngfedhffehkaac.ab
