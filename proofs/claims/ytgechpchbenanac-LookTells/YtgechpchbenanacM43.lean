/-
  Several texts in one.
-/
import Derived.Test.YtgechpchbenanacM42
import Derived.Test.YtgechpchbenanacM26

/-
  What the answer's step tells.
-/
namespace Go.Proofs.Ytgechpchbenanac.ab
set_option linter.unusedVariables false
set_option linter.unusedSimpArgs false
open Go Go.RowKit
open mth

def encLl (l : List Ln) : List D := l.map fun x => aD (encLn x)
def encWd (w : Wd) : List D := [sD 17 (encLl w.lanes), vI w.ticks]
def encSp (s : Sp) : List D := [vI s.kind, vI s.tenant, vI s.n, vI s.m, vB s.back, vI s.msg.stream, sD 1 (s.msg.data.map encB)]
theorem len_ll (l : List Ln) : (encLl l).length = l.length := by simp [encLl]
theorem at_ll {l : List Ln} {i : Nat} {x : Ln} (h : l[i]? = some x) : (encLl l)[i]? = some (aD (encLn x)) := by simp [encLl, h]
set_option maxHeartbeats 4000000 in
theorem do_kind (w : Wd) (s : Sp) (h : s.kind < 1 ∨ 6 < s.kind) : Told Try.prog 32 [aD (encWd w), aD (encSp s)] [aD (encWd w), vI 1] := by
  refine told_r6_Do rfl ?_
  obtain ⟨kind, tenant, n, m, back, msg⟩ := s
  simp only at h
  simp only [encWd, encSp]
  by_cases h1 : kind < 1
  · refine wk @h1 ?_
    exact ValsLe.refl _
  · have h2 : 6 < kind := by omega
    refine wk (an2 @h1 @h2) ?_
    exact ValsLe.refl _
set_option maxHeartbeats 4000000 in
theorem do_none (w : Wd) (s : Sp) (h : 2 ≤ s.kind ∧ s.kind ≤ 6) (hw : s.tenant < 0 ∨ (w.lanes.length : Int) ≤ s.tenant) : Told Try.prog 32 [aD (encWd w), aD (encSp s)] [aD (encWd w), vI 6] := by
  refine told_r6_Do rfl ?_
  obtain ⟨kind, tenant, n, m, back, msg⟩ := s
  simp only at h hw
  have h1 : ¬ kind < 1 := by omega
  have h2 : ¬ 6 < kind := by omega
  have h3 : (kind == 1) = false := by rw [beq_eq_false_iff_ne]; omega
  simp only [encWd, encSp]
  by_cases h4 : tenant < 0
  · refine wk (an4 @h1 @h2 @h3 @h4) ?_
    exact ValsLe.refl _
  · have h5 : (w.lanes.length : Int) ≤ tenant := by omega
    refine wk (an6 @h1 @h2 @h3 @h4 @h5 @len_ll) ?_
    exact ValsLe.refl _
theorem set_ll (l : List Ln) (j : Nat) (x : Ln) : encLl (l.set j x) = (encLl l).set j (aD (encLn x)) := by simp [encLl, List.map_set]
set_option maxHeartbeats 8000000 in
theorem do_put (w : Wd) (s : Sp) (h : s.kind = 2) (j : Nat) (hj : s.tenant = j) (l : Ln) (hl : w.lanes[j]? = some l) (hg : GoodL l) (hn : w.lanes.length ≤ 3) : Told Try.prog 32 [aD (encWd w), aD (encSp s)] [aD (encWd ⟨w.lanes.set j { l with s := putS l.s s.msg }, w.ticks⟩), vI (putE l.s s.msg)] := by
  refine told_r6_Do rfl ?_
  obtain ⟨kind, tenant, n, m, back, msg⟩ := s
  simp only at h hj ⊢
  subst h hj
  have h1 := refPut_told hg.s msg
  have hlt : j < w.lanes.length := (List.getElem?_eq_some_iff.1 hl).1
  have g1 : ¬ (j : Int) < 0 := by omega
  have g2 : ¬ (w.lanes.length : Int) ≤ (j : Int) := by omega
  have g3 : (0 : Int) ≤ (j : Int) := by omega
  have g4 : (j : Int) < (w.lanes.length : Int) := by omega
  have g5 := at_ll hl
  have b1 : w.lanes.length * 248 ≤ 140737488355328 := by omega
  obtain ⟨lanes, ticks⟩ := w
  obtain ⟨s', r', t', k'⟩ := l
  simp only at *
  generalize putS s' msg = q at *
  generalize putE s' msg = e at *
  have b0 : 0 < lanes.length := by omega
  simp only [encWd, encSp, set_ll, encLn, encSd, encMs] at h1 g5 ⊢
  refine wk (an7 @g1 @g2 @g3 @g4 @g5 @len_ll @Int.toNat_natCast) ?_
  refine cg [[aD (encSd q), vI e]] (an8 @encSd.eq_1 @g1 @g2 @g3 @g4 @g5 @len_ll @Int.toNat_natCast) ?_ ?_
  · exact obl_cons h1 obl_nil
  refine wk (an10 @g1 @g2 @g3 @g4 @g5 @b0 @b1 @len_ll @Int.toNat_natCast @zset) ?_
  exact ValsLe.refl _
set_option maxHeartbeats 8000000 in
theorem do_packet (hS : CSpoilR 45) (w : Wd) (s : Sp) (h : 3 ≤ s.kind ∧ s.kind ≤ 6) (j : Nat) (hj : s.tenant = j) (l : Ln) (hl : w.lanes[j]? = some l) (hg : GoodL l) (hn : w.lanes.length ≤ 3) : Told Try.prog 32 [aD (encWd w), aD (encSp s)] [aD (encWd ⟨w.lanes.set j (packetL l s.kind s.n s.m s.back).1, w.ticks⟩), vI (packetL l s.kind s.n s.m s.back).2] := by
  refine told_r6_Do rfl ?_
  have h1 := packet_told hS l hg s.kind s.n s.m h s.back
  generalize packetL l s.kind s.n s.m s.back = R at *
  obtain ⟨l', e⟩ := R
  obtain ⟨kind, tenant, n, m, back, msg⟩ := s
  simp only at h hj h1 ⊢
  subst hj
  have hlt : j < w.lanes.length := (List.getElem?_eq_some_iff.1 hl).1
  have g1 : ¬ (j : Int) < 0 := by omega
  have g2 : ¬ (w.lanes.length : Int) ≤ (j : Int) := by omega
  have g3 : (0 : Int) ≤ (j : Int) := by omega
  have g4 : (j : Int) < (w.lanes.length : Int) := by omega
  have g5 := at_ll hl
  have b1 : w.lanes.length * 248 ≤ 140737488355328 := by omega
  have k1 : ¬ kind < 1 := by omega
  have k2 : ¬ 6 < kind := by omega
  have k3 : (kind == 1) = false := by rw [beq_eq_false_iff_ne]; omega
  have k4 : (kind == 2) = false := by rw [beq_eq_false_iff_ne]; omega
  obtain ⟨lanes, ticks⟩ := w
  simp only at *
  have b0 : 0 < lanes.length := by omega
  simp only [encWd, encSp, set_ll, encLn] at h1 g5 ⊢
  refine wk (an11 @g1 @g2 @g3 @g4 @g5 @k1 @k2 @k3 @k4 @len_ll @Int.toNat_natCast) ?_
  refine cg [[aD (encLn l'), vI e]] (an12 @encLn.eq_1 @g1 @g2 @g3 @g4 @g5 @k1 @k2 @k3 @k4 @len_ll @Int.toNat_natCast) ?_ ?_
  · exact obl_cons h1 obl_nil
  refine wk (an10 @g1 @g2 @g3 @g4 @g5 @b0 @b1 @len_ll @Int.toNat_natCast @zset) ?_
  exact ValsLe.refl _
set_option maxHeartbeats 8000000 in
theorem do_tick (w : Wd) (s : Sp) (h : s.kind = 1) (j : Nat) (hj : w.ticks.tmod w.lanes.length = j) (l : Ln) (hl : w.lanes[j]? = some l) (hg : GoodL l) (hn : w.lanes.length ≤ 3) (ht : 0 ≤ w.ticks ∧ w.ticks ≤ 1000000) : Told Try.prog 32 [aD (encWd w), aD (encSp s)] [aD (encWd ⟨w.lanes.set j (speakL l), w.ticks + 1⟩), vI 0] := by
  refine told_r6_Do rfl ?_
  have h1 := refSpeak_told l hg.s hg.r
  generalize speakL l = l' at *
  obtain ⟨kind, tenant, n, m, back, msg⟩ := s
  simp only at h ⊢
  subst h
  have hlt : j < w.lanes.length := (List.getElem?_eq_some_iff.1 hl).1
  have g1 : ¬ (j : Int) < 0 := by omega
  have g2 : ¬ (w.lanes.length : Int) ≤ (j : Int) := by omega
  have g3 : (0 : Int) ≤ (j : Int) := by omega
  have g4 : (j : Int) < (w.lanes.length : Int) := by omega
  have g5 := at_ll hl
  have b1 : w.lanes.length * 248 ≤ 140737488355328 := by omega
  have g6 : inR .i64 (w.ticks + 1) = true := inR_of (by omega)
  obtain ⟨lanes, ticks⟩ := w
  simp only at *
  have b0 : 0 < lanes.length := by omega
  have g7 : ((lanes.length : Int) == 0) = false := by rw [beq_eq_false_iff_ne]; omega
  have g8 : ¬ (lanes.length : Int) = 0 := by omega
  have g9 : inR .i64 (j : Int) = true := inR_of (by omega)
  simp only [encWd, encSp, set_ll, encLn] at h1 g5 ⊢
  refine wk (an12 @hj @g1 @g2 @g3 @g4 @g5 @g6 @g7 @g8 @g9 @len_ll @Int.toNat_natCast) ?_
  refine cg [[aD (encLn l')]] (an10 @encLn.eq_1 @hj @g1 @g2 @g3 @g4 @g5 @g6 @len_ll @Int.toNat_natCast) ?_ ?_
  · exact obl_cons h1 obl_nil
  refine wk (an10 @g1 @g2 @g3 @g4 @g5 @b0 @b1 @len_ll @Int.toNat_natCast @zset) ?_
  exact ValsLe.refl _
theorem do_told (hS : CSpoilR 45) (w : Wd) (hw : GoodW w) (ht : w.ticks ≤ 1000000) (s : Sp) : Told Try.prog 32 [aD (encWd w), aD (encSp s)] [aD (encWd (doW w s).1), vI (doW w s).2] := by
  unfold doW
  by_cases hk : s.kind < 1 ∨ 6 < s.kind
  · rw [if_pos hk]; exact do_kind w s hk
  rw [if_neg hk]
  have hn := hw.n
  have ht0 := hw.t
  by_cases h1 : s.kind = 1
  · have hwho : whoW w s = w.ticks.tmod w.lanes.length := by unfold whoW; rw [if_pos h1]
    have htk : ticksW w s = w.ticks + 1 := by unfold ticksW; rw [if_pos h1]
    rw [hwho, htk]
    have q0 : 0 ≤ w.ticks.tmod w.lanes.length := Int.tmod_nonneg _ ht0
    have q1 : w.ticks.tmod w.lanes.length < w.lanes.length := by
      have := Int.tmod_lt_of_pos w.ticks (b := (w.lanes.length : Int)) (by omega)
      omega
    obtain ⟨j, hj⟩ : ∃ j : Nat, w.ticks.tmod w.lanes.length = j := ⟨(w.ticks.tmod w.lanes.length).toNat, by omega⟩
    rw [hj] at q0 q1 ⊢
    rw [if_neg (by omega)]
    obtain ⟨l, hl⟩ : ∃ l, w.lanes[j]? = some l := ⟨_, List.getElem?_eq_getElem (by omega)⟩
    have e0 : w.lanes.getD j zeroL = l := by rw [List.getD_eq_getElem?_getD, hl]; rfl
    have := do_tick w s h1 j hj l hl (hw.l l (List.mem_of_getElem? hl)) hn.2 ⟨ht0, ht⟩
    simpa only [Int.toNat_natCast, e0, laneW, h1, if_true] using this
  · have hwho : whoW w s = s.tenant := by unfold whoW; rw [if_neg h1]
    have htk : ticksW w s = w.ticks := by unfold ticksW; rw [if_neg h1]
    rw [hwho, htk]
    by_cases hr : s.tenant < 0 ∨ (w.lanes.length : Int) ≤ s.tenant
    · rw [if_pos hr]
      exact do_none w s (by omega) hr
    rw [if_neg hr]
    obtain ⟨j, hj⟩ : ∃ j : Nat, s.tenant = j := ⟨s.tenant.toNat, by omega⟩
    rw [hj]
    obtain ⟨l, hl⟩ : ∃ l, w.lanes[j]? = some l := ⟨_, List.getElem?_eq_getElem (by omega)⟩
    have e0 : w.lanes.getD j zeroL = l := by rw [List.getD_eq_getElem?_getD, hl]; rfl
    have hg := hw.l l (List.mem_of_getElem? hl)
    by_cases h2 : s.kind = 2
    · have := do_put w s h2 j hj l hl hg hn.2
      have hL : laneW l s = ({ l with s := putS l.s s.msg }, putE l.s s.msg) := by unfold laneW; rw [if_neg h1, if_pos h2]
      rw [Int.toNat_natCast, e0, hL]
      exact this
    · have := do_packet hS w s (by omega) j hj l hl hg hn.2
      have hL : laneW l s = packetL l s.kind s.n s.m s.back := by unfold laneW; rw [if_neg h1, if_neg h2]
      rw [Int.toNat_natCast, e0, hL]
      exact this
set_option maxHeartbeats 4000000 in
theorem new_told (n : Nat) (h : 1 ≤ n ∧ n ≤ 3) : Told Try.prog 31 [vI n] [aD (encWd (newW n)), vI 0] := by
  refine told_r6_NewQ rfl ?_
  have h3 : n = 1 ∨ n = 2 ∨ n = 3 := by omega
  rcases h3 with rfl | rfl | rfl
  · simp only [newW, encWd, encLl, List.replicate, List.map_cons, List.map_nil, encLn, zeroL, zeroS, zeroR, encMl, encCl, encPk]
    refine wk (an4 @Int.toNat_natCast @zrs @zr0 @zcons) ?_
    repeat' (first | exact vals_nil | exact row_nil | exact es_nil | exact CVLe.refl _ | exact LfLe.refl _ | exact LfLe.nil _ | exact EsLe.refl _ | refine vals_cons ?_ ?_ | refine row_cons ?_ ?_ | refine es_cons ?_ ?_ | refine EsLe.app ?_ ?_ | refine CVLe.row ?_ | refine CVLe.leafV ?_ | refine CVLe.leafS ?_ | refine LfLe.s ?_)
  · simp only [newW, encWd, encLl, List.replicate, List.map_cons, List.map_nil, encLn, zeroL, zeroS, zeroR, encMl, encCl, encPk]
    refine wk (an4 @Int.toNat_natCast @zrs @zr0 @zcons) ?_
    repeat' (first | exact vals_nil | exact row_nil | exact es_nil | exact CVLe.refl _ | exact LfLe.refl _ | exact LfLe.nil _ | exact EsLe.refl _ | refine vals_cons ?_ ?_ | refine row_cons ?_ ?_ | refine es_cons ?_ ?_ | refine EsLe.app ?_ ?_ | refine CVLe.row ?_ | refine CVLe.leafV ?_ | refine CVLe.leafS ?_ | refine LfLe.s ?_)
  · simp only [newW, encWd, encLl, List.replicate, List.map_cons, List.map_nil, encLn, zeroL, zeroS, zeroR, encMl, encCl, encPk]
    refine wk (an4 @Int.toNat_natCast @zrs @zr0 @zcons) ?_
    repeat' (first | exact vals_nil | exact row_nil | exact es_nil | exact CVLe.refl _ | exact LfLe.refl _ | exact LfLe.nil _ | exact EsLe.refl _ | refine vals_cons ?_ ?_ | refine row_cons ?_ ?_ | refine es_cons ?_ ?_ | refine EsLe.app ?_ ?_ | refine CVLe.row ?_ | refine CVLe.leafV ?_ | refine CVLe.leafS ?_ | refine LfLe.s ?_)
end Go.Proofs.Ytgechpchbenanac.ab

/-
  What the answer's Play tells.
-/
namespace Go.Proofs.Ytgechpchbenanac.ab
set_option linter.unusedVariables false
set_option linter.unusedSimpArgs false
open Go Go.RowKit
open mth

def encSl (l : List Sp) : List D := l.map fun s => aD (encSp s)
theorem len_sl (l : List Sp) : (encSl l).length = l.length := by simp [encSl]
theorem at_sl {l : List Sp} {i : Nat} {s : Sp} (h : l[i]? = some s) : (encSl l)[i]? = some (aD [vI s.kind, vI s.tenant, vI s.n, vI s.m, vB s.back, vI s.msg.stream, sD 1 (s.msg.data.map encB)]) := by simp [encSl, h, encSp]
/-- At the head of the loop. -/
def plSt (l : List Sp) (w : Wd) (es : List Int) (k : Nat) : St :=
  ⟨[(4, pD 4 0), (6, pD 6 0), (8, sD 1 (es.map vI)), (18, sD 7 (encSl l)), (19, vI l.length), (20, vI k)], [(4, [vD (.slice none 0 0), vI 0]), (6, encWd w)], [((8, none), (35, 1, none))]⟩
def plJ (n : Nat) (l : List Sp) : Nat → St → Prop := fun m st => ∃ k : Nat, k ≤ l.length ∧ k ≤ 160 ∧ m = l.length - k ∧ st = plSt l (runW (newW n) (l.take k)).1 (runW (newW n) (l.take k)).2 k
set_option maxHeartbeats 8000000 in
theorem play_told (hS : CSpoilR 45) (n : Nat) (hn : 1 ≤ n ∧ n ≤ 3) (l : List Sp) (hl : l.length ≤ 9223372036854775807) : Told Try.prog 12 [vI n, sD 7 (encSl l)] [aD (encWd (runW (newW n) (l.take 160)).1), sD 1 ((runW (newW n) (l.take 160)).2.map vI)] := by
  refine told_r6_Play rfl ?_
  have hN := new_told n hn
  have hgood := good_run (good_new hn) l
  simp only [encWd] at hN
  refine wk0 ?_
  refine cg [[aD (encWd (newW n)), vI 0]] @encWd.eq_1 ?_ ?_
  · exact obl_cons hN obl_nil
  refine wk @len_sl ?_
  refine aw_loop (plJ n l) l.length (plSt l (newW n) [] 0) ?_ ⟨0, by omega, by omega, rfl, rfl⟩ ?_
  · exact (Le.nilS 8 35 1 rfl).trans (Le.keep (lv := [4, 6, 8, 18, 19, 20]) (lb := [4, 6]) (by simp only [ev0, ev1, ev2, look, lookF, cellsFrom, offT, offP, List.tail_nil, List.length_nil, Int.cast_ofNat_Int, Nat.reduceEqDiff, Nat.reduceAdd, Nat.reduceMul, Nat.reduceLeDiff, Nat.reduceLT, ↓reduceIte, reduceCtorEq, Int.reduceBEq, Int.reduceBNe, Int.reduceLT, Int.reduceLE, Int.reduceToNat]; rfl))
  rintro m st ⟨k, hk, hk160, hm, rfl⟩
  obtain ⟨hw, htk, hel⟩ := hgood k
  by_cases hlt : k < l.length
  · obtain ⟨s, hs⟩ : ∃ s, l[k]? = some s := ⟨l[k], List.getElem?_eq_getElem hlt⟩
    have g1 : (k : Int) < (l.length : Int) := by omega
    have g2 : (0 : Int) ≤ (k : Int) := by omega
    have g3 := at_sl hs
    have g4 : inR .i64 ((k : Int) + 1) = true := inR_of (by omega)
    by_cases h160 : k = 160
    · subst h160
      have g5 : ((160 : Int) == 160) = true := rfl
      have g6 : (160 : Int) < (l.length : Int) := by omega
      have g7 : (0 : Int) ≤ 160 := by omega
      have e160 : ((160 : Nat) : Int) = 160 := rfl
      generalize plJ n l = J at *
      generalize (runW (newW n) (l.take 160)).1 = w at *
      generalize (runW (newW n) (l.take 160)).2 = es at *
      simp only [plSt, encWd, e160]
      refine wk (an5 @g5 @g6 @g7 @g3 @len_sl) ?_
      exact ValsLe.refl _
    · have g5 : ((k : Int) == 160) = false := by rw [beq_eq_false_iff_ne]; omega
      have ht0 : (newW n).ticks = 0 := rfl
      have hD := do_told hS _ hw (by rw [ht0] at htk; omega) s
      have hnx : Next (plJ n l) m (plSt l (doW (runW (newW n) (l.take k)).1 s).1 ((runW (newW n) (l.take k)).2 ++ [(doW (runW (newW n) (l.take k)).1 s).2]) (k + 1)) := by
        refine ⟨l.length - (k + 1), _, by omega, Le.refl _, k + 1, by omega, by omega, rfl, ?_⟩
        rw [List.take_add_one, hs, Option.toList_some, runW_snoc]
      generalize plJ n l = J at *
      generalize (runW (newW n) (l.take k)).1 = w at *
      generalize (runW (newW n) (l.take k)).2 = es at *
      generalize doW w s = R at *
      obtain ⟨w', e⟩ := R
      have b1 : (es.length + 1) * 8 ≤ 140737488355328 := by omega
      simp only [plSt, encWd, encSp, Int.natCast_add, Int.cast_ofNat_Int, List.map_append, List.map_cons, List.map_nil] at hD hnx ⊢
      refine wk (an6 @g1 @g2 @g3 @g5 @len_sl @Int.toNat_natCast) ?_
      refine cg [[aD (encWd w'), vI e]] (an7 @encWd.eq_1 @g1 @g2 @g3 @g5 @len_sl @Int.toNat_natCast) ?_ ?_
      · exact obl_cons hD obl_nil
      refine wk (an3 @g4 @b1 @zmap) ?_
      exact hnx
  · have : k = l.length := by omega
    subst this
    have g1 : ¬ (l.length : Int) < (l.length : Int) := by omega
    have e1 : l.take 160 = l.take l.length := by rw [List.take_of_length_le (by omega), List.take_of_length_le (Nat.le_refl _)]
    rw [e1]
    generalize plJ n l = J at *
    generalize (runW (newW n) (l.take l.length)).1 = w at *
    generalize (runW (newW n) (l.take l.length)).2 = es at *
    simp only [plSt, encWd]
    refine wk @g1 ?_
    exact ValsLe.refl _
end Go.Proofs.Ytgechpchbenanac.ab

/-
  Steps that came in.
-/
namespace Go.Proofs.Ytgechpchbenanac.ab
set_option linter.unusedSimpArgs false
set_option linter.unusedVariables false
open Go Go.ChangeShapes Go.WideShapes Go.RowKit
open mth

theorem cellsSp : Try.prog.cellsOf 27 = 7 := by kernel_rfl
theorem cells4 : Try.prog.cellsOf 4 = 1 := by kernel_rfl
section
variable {H : Type} {enc : TypeId × Value → H} {W : World}
set_option maxRecDepth 100000 in
/-- The cells of a step. -/
theorem in_step {n : Nat} {cs : List Value} {y : DataW H × List MemPlace} (hf : DataW.trod enc Try.prog W 0 (fun _ => true) true n 27 cs = some y) (hl7 : cs.length = 7) :
    ∃ s : Sp, Row (AllOf W) W (encSp s) cs ∧ s.msg.data.length ≤ Rows.uptoBulk y.1 := by
  obtain ⟨v0, v1, v2, v3, v4, v5, v6, rfl⟩ : ∃ v0 v1 v2 v3 v4 v5 v6, cs = [v0, v1, v2, v3, v4, v5, v6] := by
    match cs, hl7 with
    | [v0, v1, v2, v3, v4, v5, v6], _ => exact ⟨v0, v1, v2, v3, v4, v5, v6, rfl⟩
  obtain ⟨ys, n', _, hx, hl, hlen, hfs⟩ := DataW.trod_struct Try.underlying27 hf
  have f0 := hfs 0 _ rfl
  have f1 := hfs 1 _ rfl
  have f2 := hfs 2 _ rfl
  have f3 := hfs 3 _ rfl
  have f4 := hfs 4 _ rfl
  have f5 := hfs 5 _ rfl
  obtain ⟨y0, y1, y2, y3, y4, y5, rfl⟩ : ∃ y0 y1 y2 y3 y4 y5, ys = [y0, y1, y2, y3, y4, y5] := by
    match ys, hlen with
    | [y0, y1, y2, y3, y4, y5], _ => exact ⟨y0, y1, y2, y3, y4, y5, rfl⟩
  simp [cells3, cells4, cellsMs] at f0 f1 f2 f3 f4 f5
  obtain ⟨a0, h0, _, k0⟩ := DataW.trod_int Try.underlying3 f0
  obtain ⟨a1, h1, _, k1⟩ := DataW.trod_int Try.underlying3 f1
  obtain ⟨a2, h2, _, k2⟩ := DataW.trod_int Try.underlying3 f2
  obtain ⟨a3, h3, _, k3⟩ := DataW.trod_int Try.underlying3 f3
  obtain ⟨a4, h4, _⟩ := DataW.trod_bool Try.underlying4 f4
  simp at h0 h1 h2 h3 h4
  subst h0 h1 h2 h3 h4
  obtain ⟨m, hm, _, hb⟩ := in_msg f5 rfl
  exact ⟨⟨a0, a1, a2, a3, a4, m⟩, (Row.single (CRep.v rfl)).app ((Row.single (CRep.v rfl)).app ((Row.single (CRep.v rfl)).app ((Row.single (CRep.v rfl)).app ((Row.single (CRep.v rfl)).app hm)))), by
    rw [hx]
    simp only [Rows.uptoBulk, Rows.uptoBulkAll, List.map_cons, List.map_nil]
    omega⟩
/-- Steps that came in. -/
theorem in_steps {n : Nat} {v : Value} {y : DataW H × List MemPlace} (hf : DataW.trod enc Try.prog W 0 (fun _ => true) true n 22 [v] = some y) :
    ∃ cs : List Sp, CRep (AllOf W) W (sD 7 (encSl cs)) v ∧ cs.length ≤ Rows.uptoBulk y.1 ∧ ∀ c ∈ cs, True :=
  in_slice (α := Sp) (encA := fun c => aD (encSp c)) (Pa := fun c => True) (size := 7) Try.underlying22 cellsSp (by omega) (fun n cs' y h hl => by
    obtain ⟨s, h1, _⟩ := in_step h hl
    exact ⟨s, h1, trivial⟩) hf
end
end Go.Proofs.Ytgechpchbenanac.ab
