/-
  What the statement RecvSays tells: the loops over what is told.
-/
import Derived.Test.YtnncmddmjpocfabM33
import Derived.Test.YtnncmddmjpocfabM33
import Derived.Test.YtnncmddmjpocfabM35
namespace Go.Proofs.Ytnncmddmjpocfab.ab
set_option linter.unusedVariables false
set_option linter.unusedSimpArgs false
open Go Go.RowKit
open mth

theorem aw_rng {p : RngP} {body : IC} {st : St} {Q : AX → St → Prop} (h : ∃ b cs, look st.tm p.t = some (hD b) ∧ look st.bx b = some cs ∧
  ∀ gm g : Nat, ∃ J : St → Prop, (∃ st0, Le (rngSt p gm g b st) st0 ∧ J st0) ∧ (∀ st', J st' → look st'.tm p.t = some (vD (.map (some gm))) ∧ look st'.tm p.d2 = some (vD (.pointer (some ⟨g, 0, none⟩))) ∧ look st'.bx b = none) ∧
    (∀ st' k v, J st' → mlk cs k = some v → body (rngBody p k st') (rngThn J Q)) ∧ ∀ st', J st' → Q none (rngOut p b cs st')) : cRng p body st Q := h
theorem mlk_mem {l : List Int} {k : Int} {v : Value} (h : mlk (encS l) k = some v) : k ∈ l := by
  induction l with
  | nil => simp [encS, mlk] at h
  | cons x r ih =>
    have h' : mlk (aD [vI x, vB true] :: encS r) k = some v := h
    unfold mlk at h'
    split at h'
    · rename_i e; subst e; exact List.mem_cons_self
    · exact List.mem_cons_of_mem _ (ih h')
/-- The numbers below, the last one first. -/
def downI (j : Int) : List Int := (rangeI 0 j).reverse
theorem downI_snoc {j : Int} (h : 0 ≤ j) : downI (j + 1) = j :: downI j := by simp [downI, rangeI_snoc h]
theorem mem_downI {j n : Int} : n ∈ downI j ↔ 0 ≤ n ∧ n < j := by simp [downI, mem_rangeI]
theorem downI_len {j : Int} : (downI j).length = j.toNat := by simp [downI, rangeI_len]

/-- At the head of the loop over the numbers below. -/
def rsA (B4 B6 B9 C : List D) (S : List D) (room : Bool) (len k nx j : Int) : St :=
  ⟨[(3, hD 200018), (4, pD 4 0), (6, pD 6 0), (7, vB room), (9, pD 9 0), (11, hD 200067), (19, sD 6 S), (20, vI len), (21, vI k), (69, vI nx), (70, vI j)], [(4, B4), (6, B6), (9, B9), (200018, C), (200067, encS (downI j))], []⟩
set_option maxHeartbeats 4000000 in
theorem rs_nums (B4 B6 B9 C : List D) (S : List D) (room : Bool) (len k nx : Int) (h0 : 0 ≤ nx) (h1 : nx ≤ 40) (Q : AX → St → Prop)
    (hQ : Q none ⟨[(3, hD 200018), (4, pD 4 0), (6, pD 6 0), (7, vB room), (9, pD 9 0), (11, hD 200067), (19, sD 6 S), (20, vI len), (21, vI k), (69, vI nx), (70, vI nx), (71, vB false)], [(4, B4), (6, B6), (9, B9), (200018, C), (200067, encS (downI nx))], []⟩) :
    w6_RecvSays_b8 (rsA B4 B6 B9 C S room len k nx 0) Q := by
  refine aw_block ?_
  refine aw_loop (fun n st => ∃ j : Int, 0 ≤ j ∧ j ≤ nx ∧ n = (nx - j).toNat ∧ st = rsA B4 B6 B9 C S room len k nx j) (nx - 0).toNat _ (Le.refl _) ⟨0, by omega, by omega, rfl, rfl⟩ ?_
  rintro n st ⟨j, hj0, hj, hn, rfl⟩
  by_cases hlt : j < nx
  · have g4 : inR .i64 (j + 1) = true := inR_of (by omega)
    have g5 : inR .i64 j = true := inR_of (by omega)
    have hnx : Next (fun n st => ∃ j : Int, 0 ≤ j ∧ j ≤ nx ∧ n = (nx - j).toNat ∧ st = rsA B4 B6 B9 C S room len k nx j) n
        ⟨[(3, hD 200018), (4, pD 4 0), (6, pD 6 0), (7, vB room), (9, pD 9 0), (11, hD 200067), (19, sD 6 S), (20, vI len), (21, vI k), (69, vI nx), (70, vI (j + 1))], [(4, B4), (6, B6), (9, B9), (200018, C), (200067, aD [vI j, vB true] :: encS (downI j))], []⟩ := by
      refine ⟨(nx - (j + 1)).toNat, _, by omega, Le.refl _, j + 1, by omega, by omega, rfl, ?_⟩
      rw [rsA, downI_snoc hj0, encS_cons]
    generalize (fun n st => ∃ j : Int, 0 ≤ j ∧ j ≤ nx ∧ n = (nx - j).toNat ∧ st = rsA B4 B6 B9 C S room len k nx j) = J at *
    have g7 : (encS (downI j)).length < 9223372036854775807 := by rw [len_encS, downI_len]; omega
    simp only [rsA]
    generalize downI j = L at *
    repeat (first | refine aw_seq ?_ | refine aw_block ?_ | with_reducible refine aw_ret ?_ | with_reducible refine aw_skip ?_ | with_reducible refine aw_exit ?_ | refine thn_normal ?_ | refine thn_out ?_ | refine blk_normal ?_ | refine blk_ret ?_ | refine blk_exit ?_ | ((first | refine aw_regO ?_ | refine aw_regDO ?_ | refine aw_condO ?_ | refine fin_retO ?_); (conv => (arg 1; simp (maxSteps := 30000) only [ev0, ev1, ev2, look, lookF, cellsFrom, offT, offP, List.tail_nil, List.length_nil, Int.cast_ofNat_Int, Nat.reduceEqDiff, Nat.reduceAdd, Nat.reduceMul, Nat.reduceLeDiff, Nat.reduceLT, ↓reduceIte, reduceCtorEq, Int.reduceBEq, Int.reduceBNe, Int.reduceLT, Int.reduceLE, Int.reduceToNat, hlt, g4, g5, g7])); (first | with_reducible refine on_yes ?_ | with_reducible refine on_no ?_ | with_reducible refine on_reg ?_ | (with_reducible refine on_regD (by decide +kernel) ?_) | with_reducible refine on_fin ?_)))
    exact hnx
  · have : j = nx := by omega
    subst this
    simp only [rsA]
    repeat (first | refine aw_seq ?_ | refine aw_block ?_ | with_reducible refine aw_ret ?_ | with_reducible refine aw_skip ?_ | with_reducible refine aw_exit ?_ | refine thn_normal ?_ | refine thn_out ?_ | refine blk_normal ?_ | refine blk_ret ?_ | refine blk_exit ?_ | ((first | refine aw_regO ?_ | refine aw_regDO ?_ | refine aw_condO ?_ | refine fin_retO ?_); (conv => (arg 1; simp (maxSteps := 30000) only [ev0, ev1, ev2, look, lookF, cellsFrom, offT, offP, List.tail_nil, List.length_nil, Int.cast_ofNat_Int, Nat.reduceEqDiff, Nat.reduceAdd, Nat.reduceMul, Nat.reduceLeDiff, Nat.reduceLT, ↓reduceIte, reduceCtorEq, Int.reduceBEq, Int.reduceBNe, Int.reduceLT, Int.reduceLE, Int.reduceToNat, hlt])); (first | with_reducible refine on_yes ?_ | with_reducible refine on_no ?_ | with_reducible refine on_reg ?_ | (with_reducible refine on_regD (by decide +kernel) ?_) | with_reducible refine on_fin ?_)))
    exact hQ
/-- At the head of the loop over what came too soon. -/
def rsB (B4 B6 C : List D) (S : List D) (room : Bool) (len k : Int) (early T : List Int) (j : Nat) : St :=
  ⟨[(3, hD 200018), (4, pD 4 0), (6, pD 6 0), (7, vB room), (11, hD 200067), (19, sD 6 S), (20, vI len), (21, vI k), (77, sD 1 (early.map vI)), (78, vI early.length), (79, vI j)], [(4, B4), (6, B6), (200018, C), (200067, encS ((early.take j).reverse ++ T))], []⟩
set_option maxHeartbeats 4000000 in
theorem rs_early (B4 B6 C : List D) (S : List D) (room : Bool) (len k : Int) (early T : List Int) (he : early.length ≤ 3) (h40 : ∀ m ∈ early, 0 ≤ m ∧ m < 40) (hT : T.length ≤ 40) (Q : AX → St → Prop)
    (hQ : Q none ⟨[(3, hD 200018), (4, pD 4 0), (6, pD 6 0), (7, vB room), (11, hD 200067), (19, sD 6 S), (20, vI len), (21, vI k), (77, sD 1 (early.map vI)), (78, vI early.length), (79, vI early.length), (80, vB false)], [(4, B4), (6, B6), (200018, C), (200067, encS (early.reverse ++ T))], []⟩) :
    w6_RecvSays_b12 (rsB B4 B6 C S room len k early T 0) Q := by
  refine aw_block ?_
  refine aw_loop (fun n st => ∃ j : Nat, j ≤ early.length ∧ n = early.length - j ∧ st = rsB B4 B6 C S room len k early T j) (early.length - 0) _ (Le.refl _) ⟨0, by omega, rfl, rfl⟩ ?_
  rintro n st ⟨j, hj, hn, rfl⟩
  by_cases hlt : j < early.length
  · obtain ⟨y, hy⟩ : ∃ m, early[j]? = some m := ⟨early[j], List.getElem?_eq_getElem hlt⟩
    have hyr := h40 y (List.mem_of_getElem? hy)
    have g1 : (j : Int) < (early.length : Int) := by omega
    have g2 : (0 : Int) ≤ (j : Int) := by omega
    have g3 := at_il hy
    have g4 : inR .i64 ((j : Int) + 1) = true := inR_of (by omega)
    have g5 : inR .i64 y = true := inR_of (by omega)
    have htk : early.take (j + 1) = early.take j ++ [y] := by rw [List.take_add_one, hy]; rfl
    have hnx : Next (fun n st => ∃ j : Nat, j ≤ early.length ∧ n = early.length - j ∧ st = rsB B4 B6 C S room len k early T j) n
        ⟨[(3, hD 200018), (4, pD 4 0), (6, pD 6 0), (7, vB room), (11, hD 200067), (19, sD 6 S), (20, vI len), (21, vI k), (77, sD 1 (early.map vI)), (78, vI early.length), (79, vI ((j : Int) + 1))], [(4, B4), (6, B6), (200018, C), (200067, aD [vI y, vB true] :: encS ((early.take j).reverse ++ T))], []⟩ := by
      refine ⟨early.length - (j + 1), _, by omega, Le.refl _, j + 1, by omega, rfl, ?_⟩
      rw [rsB, htk, List.reverse_append, Int.natCast_add, Int.cast_ofNat_Int, encS_cons]; rfl
    generalize (fun n st => ∃ j : Nat, j ≤ early.length ∧ n = early.length - j ∧ st = rsB B4 B6 C S room len k early T j) = J at *
    have g7 : (encS ((early.take j).reverse ++ T)).length < 9223372036854775807 := by
      rw [len_encS, List.length_append, List.length_reverse, List.length_take]; omega
    simp only [rsB]
    generalize (early.take j).reverse ++ T = L at *
    repeat (first | refine aw_seq ?_ | refine aw_block ?_ | with_reducible refine aw_ret ?_ | with_reducible refine aw_skip ?_ | with_reducible refine aw_exit ?_ | refine thn_normal ?_ | refine thn_out ?_ | refine blk_normal ?_ | refine blk_ret ?_ | refine blk_exit ?_ | ((first | refine aw_regO ?_ | refine aw_regDO ?_ | refine aw_condO ?_ | refine fin_retO ?_); (conv => (arg 1; simp (maxSteps := 30000) only [ev0, ev1, ev2, look, lookF, cellsFrom, offT, offP, List.tail_nil, List.length_nil, Int.cast_ofNat_Int, Nat.reduceEqDiff, Nat.reduceAdd, Nat.reduceMul, Nat.reduceLeDiff, Nat.reduceLT, ↓reduceIte, reduceCtorEq, Int.reduceBEq, Int.reduceBNe, Int.reduceLT, Int.reduceLE, Int.reduceToNat, g1, g2, g3, g4, g5, g7])); (first | with_reducible refine on_yes ?_ | with_reducible refine on_no ?_ | with_reducible refine on_reg ?_ | (with_reducible refine on_regD (by decide +kernel) ?_) | with_reducible refine on_fin ?_)))
    exact hnx
  · have : j = early.length := by omega
    subst this
    have g1 : ¬ (early.length : Int) < (early.length : Int) := by omega
    simp only [rsB, List.take_length]
    repeat (first | refine aw_seq ?_ | refine aw_block ?_ | with_reducible refine aw_ret ?_ | with_reducible refine aw_skip ?_ | with_reducible refine aw_exit ?_ | refine thn_normal ?_ | refine thn_out ?_ | refine blk_normal ?_ | refine blk_ret ?_ | refine blk_exit ?_ | ((first | refine aw_regO ?_ | refine aw_regDO ?_ | refine aw_condO ?_ | refine fin_retO ?_); (conv => (arg 1; simp (maxSteps := 30000) only [ev0, ev1, ev2, look, lookF, cellsFrom, offT, offP, List.tail_nil, List.length_nil, Int.cast_ofNat_Int, Nat.reduceEqDiff, Nat.reduceAdd, Nat.reduceMul, Nat.reduceLeDiff, Nat.reduceLT, ↓reduceIte, reduceCtorEq, Int.reduceBEq, Int.reduceBNe, Int.reduceLT, Int.reduceLE, Int.reduceToNat, g1])); (first | with_reducible refine on_yes ?_ | with_reducible refine on_no ?_ | with_reducible refine on_reg ?_ | (with_reducible refine on_regD (by decide +kernel) ?_) | with_reducible refine on_fin ?_)))
    exact hQ
/-- All that is told came. -/
def rsG (B4 B6 : List D) (K : List Int) (S : List D) (room : Bool) (len k : Int) (gm g : Nat) : St :=
  ⟨[(3, hD 200018), (4, pD 4 0), (6, pD 6 0), (7, vB room), (11, vD (.map (some gm))), (19, sD 6 S), (20, vI len), (21, vI k), (87, vD (.pointer (some ⟨g, 0, none⟩)))], [(4, B4), (6, B6), (200018, encS K)], []⟩
set_option maxHeartbeats 4000000 in
theorem rs_told (B4 B6 : List D) (K : List Int) (S : List D) (room : Bool) (len k : Int) (early : List Int) (z : Int) (T : List Int) (hT : ∀ m ∈ T, (0 ≤ m ∧ m < 40) ∧ K.contains m = true) (Q : AX → St → Prop)
    (hQ : ∀ gm g : Nat, Q none ⟨[(11, hD 200067), (3, hD 200018), (4, pD 4 0), (6, pD 6 0), (7, vB room), (11, vD (.map (some gm))), (19, sD 6 S), (20, vI len), (21, vI k), (87, vD (.pointer (some ⟨g, 0, none⟩)))], [(200067, encS T), (4, B4), (6, B6), (200018, encS K)], []⟩) :
    w6_RecvSays_g1 ⟨[(3, hD 200018), (4, pD 4 0), (6, pD 6 0), (7, vB room), (11, hD 200067), (19, sD 6 S), (20, vI len), (21, vI k), (77, sD 1 (early.map vI)), (78, vI z), (79, vI z), (80, vB false)], [(4, B4), (6, B6), (200018, encS K), (200067, encS T)], []⟩ Q := by
  refine aw_rng ⟨200067, encS T, rfl, rfl, fun gm g => ⟨fun st' => st' = rsG B4 B6 K S room len k gm g, ⟨_, ?_, rfl⟩, ?_, ?_, ?_⟩⟩
  · exact Le.keep (lv := [3, 4, 6, 7, 11, 19, 20, 21, 87]) (lb := [4, 6, 200018]) (by simp only [rngSt, offTs, offFs, noRef, List.map_cons, List.map_nil, ev0, ev1, ev2, look, lookF, cellsFrom, offT, offP, List.tail_nil, List.length_nil, Int.cast_ofNat_Int, Nat.reduceEqDiff, Nat.reduceAdd, Nat.reduceMul, Nat.reduceLeDiff, Nat.reduceLT, ↓reduceIte, reduceCtorEq, Int.reduceBEq, Int.reduceBNe, Int.reduceLT, Int.reduceLE, Int.reduceToNat]; rfl)
  · rintro st' rfl
    exact ⟨rfl, rfl, rfl⟩
  · rintro st' m v rfl hm
    obtain ⟨hm1, hm2⟩ := hT m (mlk_mem hm)
    have g5 : inR .i64 m = true := inR_of (by omega)
    simp only [rngBody, rsG, offTs, offFs, offT, offP, List.map_cons, List.map_nil]
    repeat (first | refine aw_seq ?_ | refine aw_block ?_ | with_reducible refine aw_ret ?_ | with_reducible refine aw_skip ?_ | with_reducible refine aw_exit ?_ | refine thn_normal ?_ | refine thn_out ?_ | refine blk_normal ?_ | refine blk_ret ?_ | refine blk_exit ?_ | ((first | refine aw_regO ?_ | refine aw_regDO ?_ | refine aw_condO ?_ | refine fin_retO ?_); (conv => (arg 1; simp (maxSteps := 30000) only [ev0, ev1, ev2, look, lookF, cellsFrom, offT, offP, List.tail_nil, List.length_nil, Int.cast_ofNat_Int, Nat.reduceEqDiff, Nat.reduceAdd, Nat.reduceMul, Nat.reduceLeDiff, Nat.reduceLT, ↓reduceIte, reduceCtorEq, Int.reduceBEq, Int.reduceBNe, Int.reduceLT, Int.reduceLE, Int.reduceToNat, g5, encS_look, hm2, Bool.not_true])); (first | with_reducible refine on_yes ?_ | with_reducible refine on_no ?_ | with_reducible refine on_reg ?_ | (with_reducible refine on_regD (by decide +kernel) ?_) | with_reducible refine on_fin ?_)))
    exact ⟨_, Le.keep (lv := [3, 4, 6, 7, 11, 19, 20, 21, 87]) (lb := [4, 6, 200018]) (by simp only [ev0, ev1, ev2, look, lookF, cellsFrom, offT, offP, List.tail_nil, List.length_nil, Int.cast_ofNat_Int, Nat.reduceEqDiff, Nat.reduceAdd, Nat.reduceMul, Nat.reduceLeDiff, Nat.reduceLT, ↓reduceIte, reduceCtorEq, Int.reduceBEq, Int.reduceBNe, Int.reduceLT, Int.reduceLE, Int.reduceToNat]), rfl⟩
  · rintro st' rfl
    exact hQ gm g
/-- What is done with a chunk that is right. -/
def w6rest : IC := (cSeq w6_RecvSays_r11 (cSeq w6_RecvSays_r12 (cSeq w6_RecvSays_r13 (cSeq (cSeq w6_RecvSays_r14 w6_RecvSays_c7) (cSeq w6_RecvSays_r16 (cSeq (cSeq w6_RecvSays_r17 w6_RecvSays_b8) (cSeq (cSeq w6_RecvSays_r22 w6_RecvSays_b12) (cSeq w6_RecvSays_g1 (cSeq w6_RecvSays_r32 w6_RecvSays_c17)))))))))
set_option maxHeartbeats 8000000 in
theorem rs_rest (hS : CSayR 18) (hH : CHearR 22) {r : Rv} {c : Ch} (hg : GoodR r) (hk : c.kind = 1) (hw : wrongL c = 0) (K : List Int) (hK : K.length < 9223372036854775807) (hs : ∀ m, 0 ≤ m → Tells r m → K.contains m = true) (S : List D) (len k : Int) (room : Bool)
    (hr : room = true → c.number = r.next ∨ r.early.length < 3) (Q : AX → St → Prop)
    (hQ : Q none ⟨[(3, hD 200018), (4, pD 4 0), (19, sD 6 S), (20, vI len), (21, vI k), (103, vB false)], [(4, encRv (hearR r c)), (200018, encS (c.number :: K))], []⟩) :
    w6rest ⟨[(3, hD 200018), (4, pD 4 0), (6, pD 6 0), (7, vB room), (19, sD 6 S), (20, vI len), (21, vI k)], [(4, encRv r), (6, encCh c), (200018, encS K)], []⟩ Q := by
  have hx := hg.hear hw
  have hT1 := hH r c hg hw
  have hT2 := hS (hearR r c) hx
  rw [says_is hk] at hT2
  have hon := says_only hg hk hw hs
  have hla := fun h => says_last hg hk hw (hr h)
  have hnum := (wrong_one hk hw).1
  generalize hearR r c = x at *
  have hsz := good_sizes hx
  have hxn := hx.n
  have h40 : ∀ m ∈ x.early, 0 ≤ m ∧ m < 40 := fun m hm => by have := hx.in40 m hm; omega
  have g5 : inR .i64 c.number = true := inR_of (by omega)
  have g7 : (encS K).length < 9223372036854775807 := by rw [len_encS]; exact hK
  have hTd : ∀ m ∈ x.early.reverse ++ downI x.next, (0 ≤ m ∧ m < 40) ∧ (c.number :: K).contains m = true := fun m hm => by
    rcases List.mem_append.1 hm with q | q
    · have q := List.mem_reverse.1 q
      exact ⟨h40 m q, hon m (h40 m q).1 (.inr (List.contains_iff_mem.2 q))⟩
    · have q := mem_downI.1 q
      exact ⟨by omega, hon m q.1 (.inl q.2)⟩
  have hTl : room = true → (x.early.reverse ++ downI x.next).contains c.number = true := fun h => by
    rw [List.contains_iff_mem]
    rcases hla h with q | q
    · exact List.mem_append_right _ (mem_downI.2 ⟨hnum.1, q⟩)
    · exact List.mem_append_left _ (List.mem_reverse.2 (List.contains_iff_mem.1 q))
  have hTn : (downI x.next).length ≤ 40 := by rw [downI_len]; omega
  simp only [encRv, encCh, encS_cons] at hT1 hT2 hQ ⊢
  repeat (first | refine aw_seq ?_ | refine aw_block ?_ | with_reducible refine aw_ret ?_ | with_reducible refine aw_skip ?_ | with_reducible refine aw_exit ?_ | refine thn_normal ?_ | refine thn_out ?_ | refine blk_normal ?_ | refine blk_ret ?_ | refine blk_exit ?_ | ((first | refine aw_regO ?_ | refine aw_regDO ?_ | refine aw_condO ?_ | refine fin_retO ?_); (conv => (arg 1; simp (maxSteps := 30000) only [ev0, ev1, ev2, look, lookF, cellsFrom, offT, offP, List.tail_nil, List.length_nil, Int.cast_ofNat_Int, Nat.reduceEqDiff, Nat.reduceAdd, Nat.reduceMul, Nat.reduceLeDiff, Nat.reduceLT, ↓reduceIte, reduceCtorEq, Int.reduceBEq, Int.reduceBNe, Int.reduceLT, Int.reduceLE, Int.reduceToNat, g5, g7])); (first | with_reducible refine on_yes ?_ | with_reducible refine on_no ?_ | with_reducible refine on_reg ?_ | (with_reducible refine on_regD (by decide +kernel) ?_) | with_reducible refine on_fin ?_)))
  refine aw_reg [[aD (encRv x)]] (by simp only [ev0, ev1, ev2, look, lookF, cellsFrom, offT, offP, List.tail_nil, List.length_nil, Int.cast_ofNat_Int, Nat.reduceEqDiff, Nat.reduceAdd, Nat.reduceMul, Nat.reduceLeDiff, Nat.reduceLT, ↓reduceIte, reduceCtorEq, Int.reduceBEq, Int.reduceBNe, Int.reduceLT, Int.reduceLE, Int.reduceToNat, encRv]; first | rfl | exact ⟨rfl, rfl⟩) ?_ ?_
  · exact obl_cons hT1 obl_nil
  repeat (first | refine aw_seq ?_ | refine aw_block ?_ | with_reducible refine aw_ret ?_ | with_reducible refine aw_skip ?_ | with_reducible refine aw_exit ?_ | refine thn_normal ?_ | refine thn_out ?_ | refine blk_normal ?_ | refine blk_ret ?_ | refine blk_exit ?_ | ((first | refine aw_regO ?_ | refine aw_regDO ?_ | refine aw_condO ?_ | refine fin_retO ?_); (conv => (arg 1; simp (maxSteps := 30000) only [ev0, ev1, ev2, look, lookF, cellsFrom, offT, offP, List.tail_nil, List.length_nil, Int.cast_ofNat_Int, Nat.reduceEqDiff, Nat.reduceAdd, Nat.reduceMul, Nat.reduceLeDiff, Nat.reduceLT, ↓reduceIte, reduceCtorEq, Int.reduceBEq, Int.reduceBNe, Int.reduceLT, Int.reduceLE, Int.reduceToNat])); (first | with_reducible refine on_yes ?_ | with_reducible refine on_no ?_ | with_reducible refine on_reg ?_ | (with_reducible refine on_regD (by decide +kernel) ?_) | with_reducible refine on_fin ?_)))
  refine aw_reg [[aD (encRv { x with owes := false }), aD (encCh ⟨2, x.next, 0, 0, [], x.early⟩), vB true]] (by simp only [ev0, ev1, ev2, look, lookF, cellsFrom, offT, offP, List.tail_nil, List.length_nil, Int.cast_ofNat_Int, Nat.reduceEqDiff, Nat.reduceAdd, Nat.reduceMul, Nat.reduceLeDiff, Nat.reduceLT, ↓reduceIte, reduceCtorEq, Int.reduceBEq, Int.reduceBNe, Int.reduceLT, Int.reduceLE, Int.reduceToNat, encRv, encCh, List.map_nil]; first | rfl | exact ⟨rfl, rfl⟩) ?_ ?_
  · exact obl_cons hT2 obl_nil
  repeat (first | refine aw_seq ?_ | refine aw_block ?_ | with_reducible refine aw_ret ?_ | with_reducible refine aw_skip ?_ | with_reducible refine aw_exit ?_ | refine thn_normal ?_ | refine thn_out ?_ | refine blk_normal ?_ | refine blk_ret ?_ | refine blk_exit ?_ | ((first | refine aw_regO ?_ | refine aw_regDO ?_ | refine aw_condO ?_ | refine fin_retO ?_); (conv => (arg 1; simp (maxSteps := 30000) only [ev0, ev1, ev2, look, lookF, cellsFrom, offT, offP, List.tail_nil, List.length_nil, Int.cast_ofNat_Int, Nat.reduceEqDiff, Nat.reduceAdd, Nat.reduceMul, Nat.reduceLeDiff, Nat.reduceLT, ↓reduceIte, reduceCtorEq, Int.reduceBEq, Int.reduceBNe, Int.reduceLT, Int.reduceLE, Int.reduceToNat, Bool.not_true, Bool.not_false])); (first | with_reducible refine on_yes ?_ | with_reducible refine on_no ?_ | with_reducible refine on_reg ?_ | (with_reducible refine on_regD (by decide +kernel) ?_) | with_reducible refine on_fin ?_)))
  refine le_loop (st' := rsA _ _ _ (encS (c.number :: K)) S room len k x.next 0) (Le.refl _) ?_
  refine rs_nums _ _ _ _ S room len k x.next hxn.1 hxn.2 _ ?_
  repeat (first | refine aw_seq ?_ | refine aw_block ?_ | with_reducible refine aw_ret ?_ | with_reducible refine aw_skip ?_ | with_reducible refine aw_exit ?_ | refine thn_normal ?_ | refine thn_out ?_ | refine blk_normal ?_ | refine blk_ret ?_ | refine blk_exit ?_ | ((first | refine aw_regO ?_ | refine aw_regDO ?_ | refine aw_condO ?_ | refine fin_retO ?_); (conv => (arg 1; simp (maxSteps := 30000) only [ev0, ev1, ev2, look, lookF, cellsFrom, offT, offP, List.tail_nil, List.length_nil, Int.cast_ofNat_Int, Nat.reduceEqDiff, Nat.reduceAdd, Nat.reduceMul, Nat.reduceLeDiff, Nat.reduceLT, ↓reduceIte, reduceCtorEq, Int.reduceBEq, Int.reduceBNe, Int.reduceLT, Int.reduceLE, Int.reduceToNat, List.length_map])); (first | with_reducible refine on_yes ?_ | with_reducible refine on_no ?_ | with_reducible refine on_reg ?_ | (with_reducible refine on_regD (by decide +kernel) ?_) | with_reducible refine on_fin ?_)))
  refine le_loop (st' := rsB _ _ (encS (c.number :: K)) S room len k x.early (downI x.next) 0) (Le.refl _) ?_
  refine rs_early _ _ _ S room len k x.early (downI x.next) hsz.1 h40 hTn _ ?_
  refine thn_normal ?_
  refine aw_seq ?_
  refine rs_told _ _ (c.number :: K) S room len k x.early x.early.length _ hTd _ fun gm g => ?_
  cases room with
  | true =>
    have hc := hTl rfl
    repeat (first | refine aw_seq ?_ | refine aw_block ?_ | with_reducible refine aw_ret ?_ | with_reducible refine aw_skip ?_ | with_reducible refine aw_exit ?_ | refine thn_normal ?_ | refine thn_out ?_ | refine blk_normal ?_ | refine blk_ret ?_ | refine blk_exit ?_ | ((first | refine aw_regO ?_ | refine aw_regDO ?_ | refine aw_condO ?_ | refine fin_retO ?_); (conv => (arg 1; simp (maxSteps := 30000) only [ev0, ev1, ev2, look, lookF, cellsFrom, offT, offP, List.tail_nil, List.length_nil, Int.cast_ofNat_Int, Nat.reduceEqDiff, Nat.reduceAdd, Nat.reduceMul, Nat.reduceLeDiff, Nat.reduceLT, ↓reduceIte, reduceCtorEq, Int.reduceBEq, Int.reduceBNe, Int.reduceLT, Int.reduceLE, Int.reduceToNat, g5, encS_look, hc, Bool.not_true])); (first | with_reducible refine on_yes ?_ | with_reducible refine on_no ?_ | with_reducible refine on_reg ?_ | (with_reducible refine on_regD (by decide +kernel) ?_) | with_reducible refine on_fin ?_)))
    exact hQ
  | false =>
    repeat (first | refine aw_seq ?_ | refine aw_block ?_ | with_reducible refine aw_ret ?_ | with_reducible refine aw_skip ?_ | with_reducible refine aw_exit ?_ | refine thn_normal ?_ | refine thn_out ?_ | refine blk_normal ?_ | refine blk_ret ?_ | refine blk_exit ?_ | ((first | refine aw_regO ?_ | refine aw_regDO ?_ | refine aw_condO ?_ | refine fin_retO ?_); (conv => (arg 1; simp (maxSteps := 30000) only [ev0, ev1, ev2, look, lookF, cellsFrom, offT, offP, List.tail_nil, List.length_nil, Int.cast_ofNat_Int, Nat.reduceEqDiff, Nat.reduceAdd, Nat.reduceMul, Nat.reduceLeDiff, Nat.reduceLT, ↓reduceIte, reduceCtorEq, Int.reduceBEq, Int.reduceBNe, Int.reduceLT, Int.reduceLE, Int.reduceToNat])); (first | with_reducible refine on_yes ?_ | with_reducible refine on_no ?_ | with_reducible refine on_reg ?_ | (with_reducible refine on_regD (by decide +kernel) ?_) | with_reducible refine on_fin ?_)))
    exact hQ
/-- At the head of the loop over what comes. -/
def rsO (l : List Ch) (K : List Int) (r : Rv) (k : Nat) : St :=
  ⟨[(3, hD 200018), (4, pD 4 0), (19, sD 6 (encCl l)), (20, vI l.length), (21, vI k)], [(4, encRv r), (200018, encS K)], []⟩
def rsJ (l : List Ch) : Nat → St → Prop := fun n st => ∃ (k : Nat) (K : List Int) (r : Rv), k ≤ l.length ∧ n = l.length - k ∧ GoodR r ∧ K.length ≤ k ∧ (∀ m, 0 ≤ m → Tells r m → K.contains m = true) ∧ st = rsO l K r k
set_option maxHeartbeats 8000000 in
theorem recvSays_told (hO : COwnR 21) (hS : CSayR 18) (hH : CHearR 22) (l : List Ch) (hl : l.length ≤ 9223372036854775807) (he : ∀ c ∈ l, c.early.length ≤ 9223372036854775807) :
    Told Try.prog 5 [sD 6 (encCl l)] [vB true] := by
  refine told_w6_RecvSays rfl ?_
  have hA := alive6_told hO hS hH
  repeat (first | refine aw_seq ?_ | refine aw_block ?_ | with_reducible refine aw_ret ?_ | with_reducible refine aw_skip ?_ | with_reducible refine aw_exit ?_ | refine thn_normal ?_ | refine thn_out ?_ | refine blk_normal ?_ | refine blk_ret ?_ | refine blk_exit ?_ | ((first | refine aw_regO ?_ | refine aw_regDO ?_ | refine aw_condO ?_ | refine fin_retO ?_); (conv => (arg 1; simp (maxSteps := 30000) only [ev0, ev1, ev2, look, lookF, cellsFrom, offT, offP, List.tail_nil, List.length_nil, Int.cast_ofNat_Int, Nat.reduceEqDiff, Nat.reduceAdd, Nat.reduceMul, Nat.reduceLeDiff, Nat.reduceLT, ↓reduceIte, reduceCtorEq, Int.reduceBEq, Int.reduceBNe, Int.reduceLT, Int.reduceLE, Int.reduceToNat])); (first | with_reducible refine on_yes ?_ | with_reducible refine on_no ?_ | with_reducible refine on_reg ?_ | (with_reducible refine on_regD (by decide +kernel) ?_) | with_reducible refine on_fin ?_)))
  refine aw_reg [[vB true]] (by simp only [ev0, ev1, ev2, look, lookF, cellsFrom, offT, offP, List.tail_nil, List.length_nil, Int.cast_ofNat_Int, Nat.reduceEqDiff, Nat.reduceAdd, Nat.reduceMul, Nat.reduceLeDiff, Nat.reduceLT, ↓reduceIte, reduceCtorEq, Int.reduceBEq, Int.reduceBNe, Int.reduceLT, Int.reduceLE, Int.reduceToNat, Bool.not_true]; first | rfl | exact ⟨rfl, rfl⟩) ?_ ?_
  · exact obl_cons hA obl_nil
  repeat (first | refine aw_seq ?_ | refine aw_block ?_ | with_reducible refine aw_ret ?_ | with_reducible refine aw_skip ?_ | with_reducible refine aw_exit ?_ | refine thn_normal ?_ | refine thn_out ?_ | refine blk_normal ?_ | refine blk_ret ?_ | refine blk_exit ?_ | ((first | refine aw_regO ?_ | refine aw_regDO ?_ | refine aw_condO ?_ | refine fin_retO ?_); (conv => (arg 1; simp (maxSteps := 30000) only [ev0, ev1, ev2, look, lookF, cellsFrom, offT, offP, List.tail_nil, List.length_nil, Int.cast_ofNat_Int, Nat.reduceEqDiff, Nat.reduceAdd, Nat.reduceMul, Nat.reduceLeDiff, Nat.reduceLT, ↓reduceIte, reduceCtorEq, Int.reduceBEq, Int.reduceBNe, Int.reduceLT, Int.reduceLE, Int.reduceToNat, Bool.not_true, len_cl])); (first | with_reducible refine on_yes ?_ | with_reducible refine on_no ?_ | with_reducible refine on_reg ?_ | (with_reducible refine on_regD (by decide +kernel) ?_) | with_reducible refine on_fin ?_)))
  refine aw_loop (rsJ l) l.length (rsO l [] zeroR 0) ?_ ⟨0, [], zeroR, by omega, by omega, good_zeroR, by simp, ?_, rfl⟩ ?_
  · refine (Le.box 4 (cs' := encRv zeroR) (by decide) rfl rfl ?_).trans (Le.look (fun s v h => h) (fun b => ?_) (fun p x h => by simp [rsO, lookF] at h))
    · exact ⟨LfLe.refl _, LfLe.nil 1, LfLe.refl _, LfLe.refl _, LfLe.refl _, LfLe.nil 6, LfLe.nil 2, LfLe.refl _, trivial⟩
    · simp only [rsO, look, encS, List.map_nil]
      repeat' split
      all_goals simp_all
  · rintro m h0 (q | q)
    · simp [zeroR] at q; omega
    · simp [zeroR] at q
  rintro n st ⟨k, K, r, hk, hn, hg, hK, hs, rfl⟩
  by_cases hlt : k < l.length
  · obtain ⟨c, hc⟩ : ∃ c, l[k]? = some c := ⟨l[k], List.getElem?_eq_getElem hlt⟩
    have hcm := List.mem_of_getElem? hc
    have g1 : (k : Int) < (l.length : Int) := by omega
    have g2 : (0 : Int) ≤ (k : Int) := by omega
    have g3 := at_cl hc
    have g4 : inR .i64 ((k : Int) + 1) = true := inR_of (by omega)
    have h10 := wrong_told c (he c hcm)
    by_cases hw : wrongL c = 0
    · have w1 : (wrongL c != 0) = false := by simpa using hw
      by_cases hk1 : c.kind = 1
      · have w2 : (c.kind != 1) = false := by simpa using hk1
        have hnx : Next (rsJ l) n (rsO l (c.number :: K) (hearR r c) (k + 1)) := ⟨l.length - (k + 1), _, by omega, Le.refl _, k + 1, _, _, by omega, rfl, hg.hear hw, by simp; omega, says_only hg hk1 hw hs, rfl⟩
        have hrest := fun room hr Q hQ => rs_rest hS hH hg hk1 hw K (by omega) hs (encCl l) l.length k room hr Q hQ
        generalize rsJ l = J at *
        simp only [rsO, Int.natCast_add, Int.cast_ofNat_Int] at hnx ⊢
        by_cases e1 : c.number = r.next
        · have e2 : (c.number == r.next) = true := by simpa using e1
          simp only [encRv, encCh] at h10 hrest hnx ⊢
          repeat (first | refine aw_seq ?_ | refine aw_block ?_ | with_reducible refine aw_ret ?_ | with_reducible refine aw_skip ?_ | with_reducible refine aw_exit ?_ | refine thn_normal ?_ | refine thn_out ?_ | refine blk_normal ?_ | refine blk_ret ?_ | refine blk_exit ?_ | ((first | refine aw_regO ?_ | refine aw_regDO ?_ | refine aw_condO ?_ | refine fin_retO ?_); (conv => (arg 1; simp (maxSteps := 30000) only [ev0, ev1, ev2, look, lookF, cellsFrom, offT, offP, List.tail_nil, List.length_nil, Int.cast_ofNat_Int, Nat.reduceEqDiff, Nat.reduceAdd, Nat.reduceMul, Nat.reduceLeDiff, Nat.reduceLT, ↓reduceIte, reduceCtorEq, Int.reduceBEq, Int.reduceBNe, Int.reduceLT, Int.reduceLE, Int.reduceToNat, g1, g2, g3])); (first | with_reducible refine on_yes ?_ | with_reducible refine on_no ?_ | with_reducible refine on_reg ?_ | (with_reducible refine on_regD (by decide +kernel) ?_) | with_reducible refine on_fin ?_)))
          refine aw_reg [[vI (wrongL c)]] (by simp only [ev0, ev1, ev2, look, lookF, cellsFrom, offT, offP, List.tail_nil, List.length_nil, Int.cast_ofNat_Int, Nat.reduceEqDiff, Nat.reduceAdd, Nat.reduceMul, Nat.reduceLeDiff, Nat.reduceLT, ↓reduceIte, reduceCtorEq, Int.reduceBEq, Int.reduceBNe, Int.reduceLT, Int.reduceLE, Int.reduceToNat, w1, w2]; first | rfl | exact ⟨rfl, rfl⟩) ?_ ?_
          · exact obl_cons h10 obl_nil
          repeat (first | refine aw_seq ?_ | refine aw_block ?_ | with_reducible refine aw_ret ?_ | with_reducible refine aw_skip ?_ | with_reducible refine aw_exit ?_ | refine thn_normal ?_ | refine thn_out ?_ | refine blk_normal ?_ | refine blk_ret ?_ | refine blk_exit ?_ | ((first | refine aw_regO ?_ | refine aw_regDO ?_ | refine aw_condO ?_ | refine fin_retO ?_); (conv => (arg 1; simp (maxSteps := 30000) only [ev0, ev1, ev2, look, lookF, cellsFrom, offT, offP, List.tail_nil, List.length_nil, Int.cast_ofNat_Int, Nat.reduceEqDiff, Nat.reduceAdd, Nat.reduceMul, Nat.reduceLeDiff, Nat.reduceLT, ↓reduceIte, reduceCtorEq, Int.reduceBEq, Int.reduceBNe, Int.reduceLT, Int.reduceLE, Int.reduceToNat, w1, w2, e2])); (first | with_reducible refine on_yes ?_ | with_reducible refine on_no ?_ | with_reducible refine on_reg ?_ | (with_reducible refine on_regD (by decide +kernel) ?_) | with_reducible refine on_fin ?_)))
          refine hrest true (fun _ => .inl e1) _ ?_
          repeat (first | refine aw_seq ?_ | refine aw_block ?_ | with_reducible refine aw_ret ?_ | with_reducible refine aw_skip ?_ | with_reducible refine aw_exit ?_ | refine thn_normal ?_ | refine thn_out ?_ | refine blk_normal ?_ | refine blk_ret ?_ | refine blk_exit ?_ | ((first | refine aw_regO ?_ | refine aw_regDO ?_ | refine aw_condO ?_ | refine fin_retO ?_); (conv => (arg 1; simp (maxSteps := 30000) only [ev0, ev1, ev2, look, lookF, cellsFrom, offT, offP, List.tail_nil, List.length_nil, Int.cast_ofNat_Int, Nat.reduceEqDiff, Nat.reduceAdd, Nat.reduceMul, Nat.reduceLeDiff, Nat.reduceLT, ↓reduceIte, reduceCtorEq, Int.reduceBEq, Int.reduceBNe, Int.reduceLT, Int.reduceLE, Int.reduceToNat, g4])); (first | with_reducible refine on_yes ?_ | with_reducible refine on_no ?_ | with_reducible refine on_reg ?_ | (with_reducible refine on_regD (by decide +kernel) ?_) | with_reducible refine on_fin ?_)))
          exact hnx
        · have e2 : (c.number == r.next) = false := by simpa using e1
          by_cases e3 : r.early.length < 3
          · have e4 : (r.early.length : Int) < 3 := by omega
            simp only [encRv, encCh] at h10 hrest hnx ⊢
            repeat (first | refine aw_seq ?_ | refine aw_block ?_ | with_reducible refine aw_ret ?_ | with_reducible refine aw_skip ?_ | with_reducible refine aw_exit ?_ | refine thn_normal ?_ | refine thn_out ?_ | refine blk_normal ?_ | refine blk_ret ?_ | refine blk_exit ?_ | ((first | refine aw_regO ?_ | refine aw_regDO ?_ | refine aw_condO ?_ | refine fin_retO ?_); (conv => (arg 1; simp (maxSteps := 30000) only [ev0, ev1, ev2, look, lookF, cellsFrom, offT, offP, List.tail_nil, List.length_nil, Int.cast_ofNat_Int, Nat.reduceEqDiff, Nat.reduceAdd, Nat.reduceMul, Nat.reduceLeDiff, Nat.reduceLT, ↓reduceIte, reduceCtorEq, Int.reduceBEq, Int.reduceBNe, Int.reduceLT, Int.reduceLE, Int.reduceToNat, g1, g2, g3])); (first | with_reducible refine on_yes ?_ | with_reducible refine on_no ?_ | with_reducible refine on_reg ?_ | (with_reducible refine on_regD (by decide +kernel) ?_) | with_reducible refine on_fin ?_)))
            refine aw_reg [[vI (wrongL c)]] (by simp only [ev0, ev1, ev2, look, lookF, cellsFrom, offT, offP, List.tail_nil, List.length_nil, Int.cast_ofNat_Int, Nat.reduceEqDiff, Nat.reduceAdd, Nat.reduceMul, Nat.reduceLeDiff, Nat.reduceLT, ↓reduceIte, reduceCtorEq, Int.reduceBEq, Int.reduceBNe, Int.reduceLT, Int.reduceLE, Int.reduceToNat, w1, w2]; first | rfl | exact ⟨rfl, rfl⟩) ?_ ?_
            · exact obl_cons h10 obl_nil
            repeat (first | refine aw_seq ?_ | refine aw_block ?_ | with_reducible refine aw_ret ?_ | with_reducible refine aw_skip ?_ | with_reducible refine aw_exit ?_ | refine thn_normal ?_ | refine thn_out ?_ | refine blk_normal ?_ | refine blk_ret ?_ | refine blk_exit ?_ | ((first | refine aw_regO ?_ | refine aw_regDO ?_ | refine aw_condO ?_ | refine fin_retO ?_); (conv => (arg 1; simp (maxSteps := 30000) only [ev0, ev1, ev2, look, lookF, cellsFrom, offT, offP, List.tail_nil, List.length_nil, Int.cast_ofNat_Int, Nat.reduceEqDiff, Nat.reduceAdd, Nat.reduceMul, Nat.reduceLeDiff, Nat.reduceLT, ↓reduceIte, reduceCtorEq, Int.reduceBEq, Int.reduceBNe, Int.reduceLT, Int.reduceLE, Int.reduceToNat, w1, w2, e2, e4, List.length_map])); (first | with_reducible refine on_yes ?_ | with_reducible refine on_no ?_ | with_reducible refine on_reg ?_ | (with_reducible refine on_regD (by decide +kernel) ?_) | with_reducible refine on_fin ?_)))
            refine hrest true (fun _ => .inr e3) _ ?_
            repeat (first | refine aw_seq ?_ | refine aw_block ?_ | with_reducible refine aw_ret ?_ | with_reducible refine aw_skip ?_ | with_reducible refine aw_exit ?_ | refine thn_normal ?_ | refine thn_out ?_ | refine blk_normal ?_ | refine blk_ret ?_ | refine blk_exit ?_ | ((first | refine aw_regO ?_ | refine aw_regDO ?_ | refine aw_condO ?_ | refine fin_retO ?_); (conv => (arg 1; simp (maxSteps := 30000) only [ev0, ev1, ev2, look, lookF, cellsFrom, offT, offP, List.tail_nil, List.length_nil, Int.cast_ofNat_Int, Nat.reduceEqDiff, Nat.reduceAdd, Nat.reduceMul, Nat.reduceLeDiff, Nat.reduceLT, ↓reduceIte, reduceCtorEq, Int.reduceBEq, Int.reduceBNe, Int.reduceLT, Int.reduceLE, Int.reduceToNat, g4])); (first | with_reducible refine on_yes ?_ | with_reducible refine on_no ?_ | with_reducible refine on_reg ?_ | (with_reducible refine on_regD (by decide +kernel) ?_) | with_reducible refine on_fin ?_)))
            exact hnx
          · have e4 : ¬ (r.early.length : Int) < 3 := by omega
            simp only [encRv, encCh] at h10 hrest hnx ⊢
            repeat (first | refine aw_seq ?_ | refine aw_block ?_ | with_reducible refine aw_ret ?_ | with_reducible refine aw_skip ?_ | with_reducible refine aw_exit ?_ | refine thn_normal ?_ | refine thn_out ?_ | refine blk_normal ?_ | refine blk_ret ?_ | refine blk_exit ?_ | ((first | refine aw_regO ?_ | refine aw_regDO ?_ | refine aw_condO ?_ | refine fin_retO ?_); (conv => (arg 1; simp (maxSteps := 30000) only [ev0, ev1, ev2, look, lookF, cellsFrom, offT, offP, List.tail_nil, List.length_nil, Int.cast_ofNat_Int, Nat.reduceEqDiff, Nat.reduceAdd, Nat.reduceMul, Nat.reduceLeDiff, Nat.reduceLT, ↓reduceIte, reduceCtorEq, Int.reduceBEq, Int.reduceBNe, Int.reduceLT, Int.reduceLE, Int.reduceToNat, g1, g2, g3])); (first | with_reducible refine on_yes ?_ | with_reducible refine on_no ?_ | with_reducible refine on_reg ?_ | (with_reducible refine on_regD (by decide +kernel) ?_) | with_reducible refine on_fin ?_)))
            refine aw_reg [[vI (wrongL c)]] (by simp only [ev0, ev1, ev2, look, lookF, cellsFrom, offT, offP, List.tail_nil, List.length_nil, Int.cast_ofNat_Int, Nat.reduceEqDiff, Nat.reduceAdd, Nat.reduceMul, Nat.reduceLeDiff, Nat.reduceLT, ↓reduceIte, reduceCtorEq, Int.reduceBEq, Int.reduceBNe, Int.reduceLT, Int.reduceLE, Int.reduceToNat, w1, w2]; first | rfl | exact ⟨rfl, rfl⟩) ?_ ?_
            · exact obl_cons h10 obl_nil
            repeat (first | refine aw_seq ?_ | refine aw_block ?_ | with_reducible refine aw_ret ?_ | with_reducible refine aw_skip ?_ | with_reducible refine aw_exit ?_ | refine thn_normal ?_ | refine thn_out ?_ | refine blk_normal ?_ | refine blk_ret ?_ | refine blk_exit ?_ | ((first | refine aw_regO ?_ | refine aw_regDO ?_ | refine aw_condO ?_ | refine fin_retO ?_); (conv => (arg 1; simp (maxSteps := 30000) only [ev0, ev1, ev2, look, lookF, cellsFrom, offT, offP, List.tail_nil, List.length_nil, Int.cast_ofNat_Int, Nat.reduceEqDiff, Nat.reduceAdd, Nat.reduceMul, Nat.reduceLeDiff, Nat.reduceLT, ↓reduceIte, reduceCtorEq, Int.reduceBEq, Int.reduceBNe, Int.reduceLT, Int.reduceLE, Int.reduceToNat, w1, w2, e2, e4, List.length_map])); (first | with_reducible refine on_yes ?_ | with_reducible refine on_no ?_ | with_reducible refine on_reg ?_ | (with_reducible refine on_regD (by decide +kernel) ?_) | with_reducible refine on_fin ?_)))
            refine hrest false (fun h => by cases h) _ ?_
            repeat (first | refine aw_seq ?_ | refine aw_block ?_ | with_reducible refine aw_ret ?_ | with_reducible refine aw_skip ?_ | with_reducible refine aw_exit ?_ | refine thn_normal ?_ | refine thn_out ?_ | refine blk_normal ?_ | refine blk_ret ?_ | refine blk_exit ?_ | ((first | refine aw_regO ?_ | refine aw_regDO ?_ | refine aw_condO ?_ | refine fin_retO ?_); (conv => (arg 1; simp (maxSteps := 30000) only [ev0, ev1, ev2, look, lookF, cellsFrom, offT, offP, List.tail_nil, List.length_nil, Int.cast_ofNat_Int, Nat.reduceEqDiff, Nat.reduceAdd, Nat.reduceMul, Nat.reduceLeDiff, Nat.reduceLT, ↓reduceIte, reduceCtorEq, Int.reduceBEq, Int.reduceBNe, Int.reduceLT, Int.reduceLE, Int.reduceToNat, g4])); (first | with_reducible refine on_yes ?_ | with_reducible refine on_no ?_ | with_reducible refine on_reg ?_ | (with_reducible refine on_regD (by decide +kernel) ?_) | with_reducible refine on_fin ?_)))
            exact hnx
      · have w2 : (c.kind != 1) = true := by simpa using hk1
        generalize rsJ l = J at *
        simp only [rsO, encRv, encCh] at h10 ⊢
        repeat (first | refine aw_seq ?_ | refine aw_block ?_ | with_reducible refine aw_ret ?_ | with_reducible refine aw_skip ?_ | with_reducible refine aw_exit ?_ | refine thn_normal ?_ | refine thn_out ?_ | refine blk_normal ?_ | refine blk_ret ?_ | refine blk_exit ?_ | ((first | refine aw_regO ?_ | refine aw_regDO ?_ | refine aw_condO ?_ | refine fin_retO ?_); (conv => (arg 1; simp (maxSteps := 30000) only [ev0, ev1, ev2, look, lookF, cellsFrom, offT, offP, List.tail_nil, List.length_nil, Int.cast_ofNat_Int, Nat.reduceEqDiff, Nat.reduceAdd, Nat.reduceMul, Nat.reduceLeDiff, Nat.reduceLT, ↓reduceIte, reduceCtorEq, Int.reduceBEq, Int.reduceBNe, Int.reduceLT, Int.reduceLE, Int.reduceToNat, g1, g2, g3])); (first | with_reducible refine on_yes ?_ | with_reducible refine on_no ?_ | with_reducible refine on_reg ?_ | (with_reducible refine on_regD (by decide +kernel) ?_) | with_reducible refine on_fin ?_)))
        refine aw_reg [[vI (wrongL c)]] (by simp only [ev0, ev1, ev2, look, lookF, cellsFrom, offT, offP, List.tail_nil, List.length_nil, Int.cast_ofNat_Int, Nat.reduceEqDiff, Nat.reduceAdd, Nat.reduceMul, Nat.reduceLeDiff, Nat.reduceLT, ↓reduceIte, reduceCtorEq, Int.reduceBEq, Int.reduceBNe, Int.reduceLT, Int.reduceLE, Int.reduceToNat, w1, w2]; first | rfl | exact ⟨rfl, rfl⟩) ?_ ?_
        · exact obl_cons h10 obl_nil
        repeat (first | refine aw_seq ?_ | refine aw_block ?_ | with_reducible refine aw_ret ?_ | with_reducible refine aw_skip ?_ | with_reducible refine aw_exit ?_ | refine thn_normal ?_ | refine thn_out ?_ | refine blk_normal ?_ | refine blk_ret ?_ | refine blk_exit ?_ | ((first | refine aw_regO ?_ | refine aw_regDO ?_ | refine aw_condO ?_ | refine fin_retO ?_); (conv => (arg 1; simp (maxSteps := 30000) only [ev0, ev1, ev2, look, lookF, cellsFrom, offT, offP, List.tail_nil, List.length_nil, Int.cast_ofNat_Int, Nat.reduceEqDiff, Nat.reduceAdd, Nat.reduceMul, Nat.reduceLeDiff, Nat.reduceLT, ↓reduceIte, reduceCtorEq, Int.reduceBEq, Int.reduceBNe, Int.reduceLT, Int.reduceLE, Int.reduceToNat, w1, w2])); (first | with_reducible refine on_yes ?_ | with_reducible refine on_no ?_ | with_reducible refine on_reg ?_ | (with_reducible refine on_regD (by decide +kernel) ?_) | with_reducible refine on_fin ?_)))
        exact ValsLe.refl _
    · have w1 : (wrongL c != 0) = true := by simpa using hw
      generalize rsJ l = J at *
      simp only [rsO, encRv, encCh] at h10 ⊢
      repeat (first | refine aw_seq ?_ | refine aw_block ?_ | with_reducible refine aw_ret ?_ | with_reducible refine aw_skip ?_ | with_reducible refine aw_exit ?_ | refine thn_normal ?_ | refine thn_out ?_ | refine blk_normal ?_ | refine blk_ret ?_ | refine blk_exit ?_ | ((first | refine aw_regO ?_ | refine aw_regDO ?_ | refine aw_condO ?_ | refine fin_retO ?_); (conv => (arg 1; simp (maxSteps := 30000) only [ev0, ev1, ev2, look, lookF, cellsFrom, offT, offP, List.tail_nil, List.length_nil, Int.cast_ofNat_Int, Nat.reduceEqDiff, Nat.reduceAdd, Nat.reduceMul, Nat.reduceLeDiff, Nat.reduceLT, ↓reduceIte, reduceCtorEq, Int.reduceBEq, Int.reduceBNe, Int.reduceLT, Int.reduceLE, Int.reduceToNat, g1, g2, g3])); (first | with_reducible refine on_yes ?_ | with_reducible refine on_no ?_ | with_reducible refine on_reg ?_ | (with_reducible refine on_regD (by decide +kernel) ?_) | with_reducible refine on_fin ?_)))
      refine aw_reg [[vI (wrongL c)]] (by simp only [ev0, ev1, ev2, look, lookF, cellsFrom, offT, offP, List.tail_nil, List.length_nil, Int.cast_ofNat_Int, Nat.reduceEqDiff, Nat.reduceAdd, Nat.reduceMul, Nat.reduceLeDiff, Nat.reduceLT, ↓reduceIte, reduceCtorEq, Int.reduceBEq, Int.reduceBNe, Int.reduceLT, Int.reduceLE, Int.reduceToNat, w1]; first | rfl | exact ⟨rfl, rfl⟩) ?_ ?_
      · exact obl_cons h10 obl_nil
      repeat (first | refine aw_seq ?_ | refine aw_block ?_ | with_reducible refine aw_ret ?_ | with_reducible refine aw_skip ?_ | with_reducible refine aw_exit ?_ | refine thn_normal ?_ | refine thn_out ?_ | refine blk_normal ?_ | refine blk_ret ?_ | refine blk_exit ?_ | ((first | refine aw_regO ?_ | refine aw_regDO ?_ | refine aw_condO ?_ | refine fin_retO ?_); (conv => (arg 1; simp (maxSteps := 30000) only [ev0, ev1, ev2, look, lookF, cellsFrom, offT, offP, List.tail_nil, List.length_nil, Int.cast_ofNat_Int, Nat.reduceEqDiff, Nat.reduceAdd, Nat.reduceMul, Nat.reduceLeDiff, Nat.reduceLT, ↓reduceIte, reduceCtorEq, Int.reduceBEq, Int.reduceBNe, Int.reduceLT, Int.reduceLE, Int.reduceToNat, w1])); (first | with_reducible refine on_yes ?_ | with_reducible refine on_no ?_ | with_reducible refine on_reg ?_ | (with_reducible refine on_regD (by decide +kernel) ?_) | with_reducible refine on_fin ?_)))
      exact ValsLe.refl _
  · have : k = l.length := by omega
    subst this
    have g1 : ¬ (l.length : Int) < (l.length : Int) := by omega
    generalize rsJ l = J at *
    simp only [rsO]
    repeat (first | refine aw_seq ?_ | refine aw_block ?_ | with_reducible refine aw_ret ?_ | with_reducible refine aw_skip ?_ | with_reducible refine aw_exit ?_ | refine thn_normal ?_ | refine thn_out ?_ | refine blk_normal ?_ | refine blk_ret ?_ | refine blk_exit ?_ | ((first | refine aw_regO ?_ | refine aw_regDO ?_ | refine aw_condO ?_ | refine fin_retO ?_); (conv => (arg 1; simp (maxSteps := 30000) only [ev0, ev1, ev2, look, lookF, cellsFrom, offT, offP, List.tail_nil, List.length_nil, Int.cast_ofNat_Int, Nat.reduceEqDiff, Nat.reduceAdd, Nat.reduceMul, Nat.reduceLeDiff, Nat.reduceLT, ↓reduceIte, reduceCtorEq, Int.reduceBEq, Int.reduceBNe, Int.reduceLT, Int.reduceLE, Int.reduceToNat, g1])); (first | with_reducible refine on_yes ?_ | with_reducible refine on_no ?_ | with_reducible refine on_reg ?_ | (with_reducible refine on_regD (by decide +kernel) ?_) | with_reducible refine on_fin ?_)))
    exact ValsLe.refl _
end Go.Proofs.Ytnncmddmjpocfab.ab
