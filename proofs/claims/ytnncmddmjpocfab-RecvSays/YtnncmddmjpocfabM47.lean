/-
  Several texts in one.
-/
import Derived.Test.YtnncmddmjpocfabM46
import Derived.WalkKit
import Derived.Deep.LoopGhost
import Derived.Deep.RegionLaw
import Derived.Shelf.RegionOpenPlain
import Derived.Lib.Walk
import Derived.Sort.WalkB12
import Derived.Lib.SliceRun
import Derived.Test.YtnncmddmjpocfabM38
import Derived.Test.YtnncmddmjpocfabM44
import Derived.Test.YtnncmddmjpocfabALandHear2
import Derived.Test.YtnncmddmjpocfabM23

/-
  What the library's function slices.Delete tells, at rows of chunks: the row is turned in its place.
-/
namespace Go.Proofs.Ytnncmddmjpocfab.ab
set_option linter.unusedVariables false
set_option linter.unusedSimpArgs false
open Go Go.RowKit Go.Lib Go.Sort Go.Shelf

theorem infoC : (Try.prog.info? 32).map (fun i => i.size) = some 6 := by kernel_rfl
theorem run_clearC (w : World) (ty : TypeId) (z : Value) (hv : ∀ w, (zeroValue 32).run Try.prog w = .ok z w) (b o n c : Nat) (hn : 0 < n) (h1 : ∀ v ∈ (Builtin.zeroCells z.cells n).toList, v.oneCell' = true)
    (hc : ∀ j, j < (Builtin.zeroCells z.cells n).toList.length → (w.cell? ⟨b, o + j, none⟩).isSome = true) (hf : ∀ j, w.frozen? ⟨b, o + j, none⟩ = false) :
    (Builtin.clear_ #[26] ty #[.slice (some ⟨b, o, none⟩) n c]).run Try.prog w = .ok (.tuple #[]) (w.setCells b o (Builtin.zeroCells z.cells n).toList) := by
  have hst := run_storeCells_cells (P := Try.prog) b o (Builtin.zeroCells z.cells n).toList 0 w (by simpa using hc) (fun j _ => by simpa using hf j) h1
  simp only [Nat.add_zero] at hst
  obtain ⟨m, rfl⟩ : ∃ m, n = m + 1 := ⟨n - 1, by omega⟩
  simp [Builtin.clear_, run_underlying Try.underlying26, hv, hst]
set_option maxHeartbeats 4000000 in
set_option maxRecDepth 1000000 in
theorem delete_walk (g n cap i j : Nat) (us : List Value) (t : TypeId) (w : World) (zv : Value) (zc : List Value) (hv : ∀ w, (zeroValue 32).run Try.prog w = .ok zv w) (hzc : (Builtin.zeroCells zv.cells (n - (i + (n - j)))).toList = zc) (hzl : zc.length = (j - i) * 6) (hz1 : ∀ v ∈ zc, v.oneCell' = true)
    (hg : w.heap[g]? = some (.cells us.toArray t (0, 0))) (hl : n * 6 ≤ us.length) (hcap : n ≤ cap) (hm : cap ≤ 9223372036854775807) (hij : i < j) (hj : j ≤ n) (h1 : ∀ v ∈ us.take (n * 6), v.oneCell' = true) :
    Calls Try.prog 87 #[.slice (some ⟨g, 0, none⟩) n cap, .int .i64 i, .int .i64 j] w fun e w' =>
      e = .returned (.slice (some ⟨g, 0, none⟩) (n - (j - i)) cap) ∧ w' = ((w.drew.setCells g (0 + i * 6) ((us.take (n * 6)).drop (j * 6))).setCells g ((i + (n - j)) * 6) zc) := by
  have mixed : Try.prog.follows .mixedOrders = true := by kernel_rfl
  obtain ⟨i0, hi0, hz⟩ := Option.map_eq_some_iff.1 infoC
  have hne : ¬ (i = j) := by omega
  obtain ⟨news, hnews⟩ : ∃ news, news = (us.take (n * 6)).drop (j * 6) := ⟨_, rfl⟩
  have hlen : news.length = (n - j) * 6 := by rw [hnews, List.length_drop, List.length_take]; omega
  have hcell : ∀ k, w.cell? ⟨g, k, none⟩ = us[k]? := fun k => by rw [cell_of_row w g k us.toArray t (0, 0) hg]; simp
  have hget : ∀ k u, news[k]? = some u → us[j * 6 + k]? = some u := fun k u hu => by
    rw [hnews, List.getElem?_drop, List.getElem?_take] at hu
    split at hu
    · exact hu
    · cases hu
  obtain ⟨A, hA, hsrc⟩ : ∃ A : Addr, (if cap = j then (some (⟨g, 0, none⟩ : Addr)) else some ⟨g, j * 6, none⟩) = some A ∧ Hid (∀ k u, news[k]? = some u → w.drew.cell? (A.add k) = some u) := by
    by_cases h : cap = j
    · refine ⟨⟨g, 0, none⟩, by simp [h], fun k u hu => ?_⟩
      have h0 : news.length = 0 := by rw [hlen]; omega
      rw [List.length_eq_zero_iff.1 h0] at hu
      simp at hu
    · refine ⟨⟨g, j * 6, none⟩, by simp [h], fun k u hu => ?_⟩
      rw [Addr.add_lit]
      exact (hcell _).trans (hget k u hu)
  have s1 : Hid (news.length = (n - j) * 6) := hlen
  have s2 : Hid (∀ u ∈ news, u.oneCell' = true) := fun u hu => h1 u (List.mem_of_mem_drop (hnews ▸ hu))
  have s3 : Hid (∀ k, k < news.length → (w.drew.cell? ⟨g, 0 + i * 6 + k, none⟩).isSome = true ∧ w.drew.frozen? ⟨g, 0 + i * 6 + k, none⟩ = false) := fun k hk => by
    rw [hlen] at hk
    refine ⟨?_, frozen_of_row w g _ us.toArray t hg⟩
    show (w.cell? _).isSome = true
    rw [hcell, List.getElem?_eq_getElem (by omega)]; rfl
  obtain ⟨W1, hW1⟩ : ∃ W1, W1 = w.drew.setCells g (0 + i * 6) news := ⟨_, rfl⟩
  have hcl : ∀ ty, (Builtin.clear_ #[26] ty #[.slice (some ⟨g, (i + (n - j)) * 6, none⟩) (n - (i + (n - j))) (cap - (i + (n - j)))]).run Try.prog W1 = .ok (.tuple #[]) (W1.setCells g ((i + (n - j)) * 6) zc) := fun ty => by
    have := run_clearC W1 ty zv hv g ((i + (n - j)) * 6) (n - (i + (n - j))) (cap - (i + (n - j))) (by omega) (by rw [hzc]; exact hz1) (fun k hk => by
      rw [hzc, hzl] at hk
      rw [hW1]
      refine isSome_setCells g news (0 + i * 6) w.drew (fun k hk => (s3 k hk).1) _ ?_
      show (w.cell? _).isSome = true
      rw [hcell, List.getElem?_eq_getElem (by omega)]; rfl) (fun k => by
      rw [hW1, World.frozen?_setCells]
      exact frozen_of_row w g _ us.toArray t hg)
    rw [hzc] at this
    exact this
  have hW : Hid (W1 = w.drew.setCells g (0 + i * 6) news) := hW1
  have hic : i ≤ cap := by omega
  have hjc : j ≤ cap := by omega
  have hin : i ≤ n := by omega
  rw [← hnews, ← hW1]
  clear hW1 hget hnews hlen hcell hg hl h1 hzc hzl hz1
  go_enter Try.func87, Try.ntmps87
  go_wp2_with fail
  go_region_law_o (refine step_append_room rfl (.tmp 22) (.tmp 25) 26 rfl 32 i0 6 Try.underlying26 hi0 hz g 0 i cap (by simp [Act.eval, Act.put]) A (n - j) (cap - j) news (by simp [Act.eval, Act.put, hA]) s1.out hsrc.out s2.out (by omega) s3.out ?_; rw [← hW.out])
  go_wp2
  go_ret
  exact ⟨by rw [show n - (j - i) = i + (n - j) by omega]; rfl, rfl⟩
/-- Cells that are laid one by one, and as a row. -/
theorem setCells_row {w : World} {g o : Nat} {us vs : List Value} {t : TypeId} (hg : w.heap[g]? = some (.cells us.toArray t (0, 0))) (hl : o + vs.length ≤ us.length) (h1 : ∀ v ∈ vs, v.oneCell' = true) : w.setCells g o vs = w.setRow g (over us o vs).toArray := by
  have e1 := run_storeCells_at (P := Try.prog) g o t vs 0 us.toArray w hg (by simpa using hl) h1
  have e2 := run_storeCells_cells (P := Try.prog) g o vs 0 w (fun j hj => by
    rw [cell_of_row w g _ us.toArray t (0, 0) hg, List.getElem?_toArray, List.getElem?_eq_getElem (by omega)]; rfl) (fun j hj => frozen_of_row w g _ us.toArray t hg) h1
  rw [e2] at e1
  have e3 := (Result.ok.injEq .. ▸ e1 : _ ∧ _).2
  rw [Nat.add_zero] at e3
  rw [e3]
  simp [over]
theorem zeroC : ∃ zv : Value, (∀ w, (zeroValue 32).run Try.prog w = .ok zv w) ∧ (Builtin.zeroCells zv.cells 1).toList.length = 6 ∧ ∀ v ∈ (Builtin.zeroCells zv.cells 1).toList, v.oneCell' = true := by
  refine ⟨_, Try.zeroValue32, by decide +kernel, ?_⟩
  intro v hv
  have : (Builtin.zeroCells (Value.agg #[.int .i64 0, .int .i64 0, .int .i64 0, .int .i64 0, .slice none 0 0, .slice none 0 0]).cells 1).toList.all (fun v => v.oneCell') = true := by decide +kernel
  exact List.all_eq_true.1 this v hv
set_option maxHeartbeats 1000000 in
theorem delete_told (es : List D) (i : Nat) (hi : i < es.length) : ToldU Try.prog 87 [vI i, vI ((i : Int) + 1)] 6 es (es.take i ++ es.drop (i + 1)) := by
  intro w I vs g us t cap hv hlt hg hel hnI hcap hm
  obtain ⟨x, y, rfl⟩ : ∃ x y, vs = [x, y] := by
    match vs, hv.1 with
    | [x, y], _ => exact ⟨x, y, rfl⟩
    | [], q => simp at q
    | [_], q => simp at q
    | _ :: _ :: _ :: _, q => simp at q
  have hx : x = .int .i64 i := ((hv.2 0 _ _ rfl rfl).leaf (fun cs e => by cases e)).invV.1
  have hy : y = .int .i64 ((i : Int) + 1) := ((hv.2 1 _ _ rfl rfl).leaf (fun cs e => by cases e)).invV.1
  subst hx hy
  obtain ⟨zv, hzv, hz6, hz1⟩ := zeroC
  have hn := hel.2.1
  have hcell : ∀ k, k < es.length * 6 → ∃ l u, us[k]? = some u ∧ CRep I w l u := fun k hk => by
    have h1 : k / 6 < es.length := by omega
    have h2 : k % 6 < 6 := Nat.mod_lt _ (by omega)
    have h3 : (cellsD es[k / 6]).length = 6 := hel.1 _ (List.getElem_mem h1)
    obtain ⟨u, q1, q2⟩ := hel.2.2 (k / 6) (k % 6) es[k / 6] (cellsD es[k / 6])[k % 6] (List.getElem?_eq_getElem h1) (List.getElem?_eq_getElem (by omega))
    exact ⟨_, u, by rw [show k / 6 * 6 + k % 6 = k by omega] at q1; exact q1, q2⟩
  have h1 : ∀ v ∈ us.take (es.length * 6), v.oneCell' = true := fun v hv => by
    obtain ⟨k, hk, rfl⟩ := List.mem_iff_getElem.1 hv
    rw [List.length_take] at hk
    obtain ⟨l, u, q1, q2⟩ := hcell k (by omega)
    rw [List.getElem_take]
    rw [List.getElem?_eq_getElem (by omega)] at q1
    rw [Option.some.inj q1]
    exact q2.one.1
  have e1 : es.length - (i + (es.length - (i + 1))) = 1 := by omega
  refine (delete_walk g es.length cap i (i + 1) us t w zv _ hzv (by rw [e1]) (by rw [hz6]; omega) hz1 hg hn hcap (by unfold maxLen at hm; omega) (by omega) (by omega) h1).mono fun e w' ⟨he, hw⟩ => ?_
  obtain ⟨zc, hzc⟩ : ∃ zc, zc = (Builtin.zeroCells zv.cells 1).toList := ⟨_, rfl⟩
  rw [← hzc] at hw hz6 hz1
  obtain ⟨news, hnews⟩ : ∃ news, news = (us.take (es.length * 6)).drop ((i + 1) * 6) := ⟨_, rfl⟩
  rw [← hnews] at hw
  have hnl : news.length = (es.length - (i + 1)) * 6 := by rw [hnews, List.length_drop, List.length_take]; omega
  have hg' : w.drew.heap[g]? = some (.cells us.toArray t (0, 0)) := hg
  have r1 := setCells_row (o := 0 + i * 6) (vs := news) hg' (by omega) (fun v hv => h1 v (List.mem_of_mem_drop (hnews ▸ hv)))
  rw [r1] at hw
  have hg1 := setRow_heap w.drew g us.toArray (over us (0 + i * 6) news).toArray t (0, 0) hg'
  have hol : (over us (0 + i * 6) news).length = us.length := over_len (by omega)
  have r2 := setCells_row (o := (i + (es.length - (i + 1))) * 6) (vs := zc) hg1 (by omega) hz1
  rw [r2] at hw
  have hg2 := setRow_heap (w.drew.setRow g (over us (0 + i * 6) news).toArray) g _ (over (over us (0 + i * 6) news) ((i + (es.length - (i + 1))) * 6) zc).toArray t (0, 0) hg1
  rw [← hw] at hg2
  have hel' : (es.take i ++ es.drop (i + 1)).length = es.length - 1 := by simp; omega
  have hblk : ∀ k, k ≠ g → w'.heap[k]? = w.heap[k]? := fun k hk => by
    rw [hw, setRow_other _ _ _ _ hk, setRow_other _ _ _ _ hk]; rfl
  have hsz : w'.heap.size = w.heap.size := by rw [hw, setRow_size, setRow_size]; rfl
  refine ⟨by rw [he, hel']; congr 2; omega, ⟨by rw [hw]; rfl, by rw [hw]; rfl, by rw [hw]; rfl, by omega, fun k _ hk => hblk k (fun e => hk (by rw [e]))⟩, _, hg2, ?_, by omega⟩
  have hcl : ∀ b j, I b j → w'.cell? ⟨b, j, none⟩ = w.cell? ⟨b, j, none⟩ := fun b j hj => World.cell?_of_block (a := ⟨b, j, none⟩) (hblk b (fun e => hnI j (e ▸ hj)))
  refine ⟨fun e he => ?_, ?_, fun k j e l hk hj => ?_⟩
  · rcases List.mem_append.1 he with q | q
    · exact hel.1 e (List.mem_of_mem_take q)
    · exact hel.1 e (List.mem_of_mem_drop q)
  · rw [over_len (by omega), hol, hel']; omega
  · have hj6 : j < 6 := by
      have h2 : (cellsD e).length = 6 := by
        rcases List.mem_append.1 (List.mem_of_getElem? hk) with q | q
        · exact hel.1 e (List.mem_of_mem_take q)
        · exact hel.1 e (List.mem_of_mem_drop q)
      have := (List.getElem?_eq_some_iff.1 hj).1
      omega
    have hkl : k < es.length - 1 := by have := (List.getElem?_eq_some_iff.1 hk).1; omega
    rw [over_out (by omega) (.inl (by omega))]
    by_cases hki : k < i
    · rw [List.getElem?_append_left (by rw [List.length_take]; omega), List.getElem?_take, if_pos hki] at hk
      obtain ⟨u, q1, q2⟩ := hel.2.2 k j e l hk hj
      exact ⟨u, by rw [over_out (by omega) (.inl (by omega))]; exact q1, q2.keep (fun _ _ h => h) hcl⟩
    · rw [List.getElem?_append_right (by rw [List.length_take]; omega), List.length_take, Nat.min_eq_left (by omega), List.getElem?_drop] at hk
      obtain ⟨u, q1, q2⟩ := hel.2.2 (i + 1 + (k - i)) j e l hk hj
      refine ⟨u, ?_, q2.keep (fun _ _ h => h) hcl⟩
      have hin : k * 6 + j - i * 6 < news.length := by omega
      have h4 := over_in (cs := us) (ds := news) (off := 0 + i * 6) (j := k * 6 + j - i * 6) (by omega) hin
      rw [show 0 + i * 6 + (k * 6 + j - i * 6) = k * 6 + j by omega] at h4
      rw [h4, hnews, List.getElem?_drop, List.getElem?_take, if_pos (by omega), ← q1]
      congr 1
      omega
end Go.Proofs.Ytnncmddmjpocfab.ab

/-
  What the landed package recv tells: whether a number is taken; whether a chunk is due.
-/
namespace Go.Proofs.Ytnncmddmjpocfab.ab
set_option linter.unusedVariables false
set_option linter.unusedSimpArgs false
open Go Go.RowKit
open mth

set_option maxHeartbeats 4000000 in
theorem takes_told (nx : Int) (early : List Int) (p0 p1 p2 : Int) (c5 c6 : D) (ow : Bool) (n : Int) (hl : early.length ≤ 1048576) :
    Told Try.prog 56 [aD [vI nx, sD 1 (early.map vI), vI p0, vI p1, vI p2, c5, c6, vB ow], vI n] [vB (!(early.contains n || (decide (n < nx) || (decide (nx < n) && decide (2 < early.length)))))] := by
  refine told_recv_takes rfl ?_
  by_cases q1 : n < nx
  · rw [decide_eq_true q1, Bool.true_or, Bool.or_true, Bool.not_true]
    repeat (first | refine aw_seq ?_ | refine aw_block ?_ | with_reducible refine aw_ret ?_ | with_reducible refine aw_skip ?_ | with_reducible refine aw_exit ?_ | refine thn_normal ?_ | refine thn_out ?_ | refine blk_normal ?_ | refine blk_ret ?_ | refine blk_exit ?_ | ((first | refine aw_regO ?_ | refine aw_regDO ?_ | refine aw_condO ?_ | refine fin_retO ?_); (conv => (arg 1; simp (maxSteps := 30000) only [ev0, ev1, ev2, look, lookF, cellsFrom, offT, offP, List.tail_nil, List.length_nil, Int.cast_ofNat_Int, Nat.reduceEqDiff, Nat.reduceAdd, Nat.reduceMul, Nat.reduceLeDiff, Nat.reduceLT, ↓reduceIte, reduceCtorEq, Int.reduceBEq, Int.reduceBNe, Int.reduceLT, Int.reduceLE, Int.reduceToNat, q1])); (first | with_reducible refine on_yes ?_ | with_reducible refine on_no ?_ | with_reducible refine on_reg ?_ | (with_reducible refine on_regD (by decide +kernel) ?_) | with_reducible refine on_fin ?_)))
    exact ValsLe.refl _
  · rw [decide_eq_false q1, Bool.false_or]
    have q1' : ¬ n < nx := q1
    repeat (first | refine aw_seq ?_ | refine aw_block ?_ | with_reducible refine aw_ret ?_ | with_reducible refine aw_skip ?_ | with_reducible refine aw_exit ?_ | refine thn_normal ?_ | refine thn_out ?_ | refine blk_normal ?_ | refine blk_ret ?_ | refine blk_exit ?_ | ((first | refine aw_regO ?_ | refine aw_regDO ?_ | refine aw_condO ?_ | refine fin_retO ?_); (conv => (arg 1; simp (maxSteps := 30000) only [ev0, ev1, ev2, look, lookF, cellsFrom, offT, offP, List.tail_nil, List.length_nil, Int.cast_ofNat_Int, Nat.reduceEqDiff, Nat.reduceAdd, Nat.reduceMul, Nat.reduceLeDiff, Nat.reduceLT, ↓reduceIte, reduceCtorEq, Int.reduceBEq, Int.reduceBNe, Int.reduceLT, Int.reduceLE, Int.reduceToNat, q1'])); (first | with_reducible refine on_yes ?_ | with_reducible refine on_no ?_ | with_reducible refine on_reg ?_ | (with_reducible refine on_regD (by decide +kernel) ?_) | with_reducible refine on_fin ?_)))
    refine aw_reg [[vB (early.contains n)]] (by simp only [ev0, ev1, ev2, look, lookF, cellsFrom, offT, offP, List.tail_nil, List.length_nil, Int.cast_ofNat_Int, Nat.reduceEqDiff, Nat.reduceAdd, Nat.reduceMul, Nat.reduceLeDiff, Nat.reduceLT, ↓reduceIte, reduceCtorEq, Int.reduceBEq, Int.reduceBNe, Int.reduceLT, Int.reduceLE, Int.reduceToNat, q1']; first | rfl | exact ⟨rfl, rfl⟩) ?_ ?_
    · exact obl_cons (contains_told early n (by omega)) obl_nil
    cases hc : early.contains n with
    | true =>
      repeat (first | refine aw_seq ?_ | refine aw_block ?_ | with_reducible refine aw_ret ?_ | with_reducible refine aw_skip ?_ | with_reducible refine aw_exit ?_ | refine thn_normal ?_ | refine thn_out ?_ | refine blk_normal ?_ | refine blk_ret ?_ | refine blk_exit ?_ | ((first | refine aw_regO ?_ | refine aw_regDO ?_ | refine aw_condO ?_ | refine fin_retO ?_); (conv => (arg 1; simp (maxSteps := 30000) only [ev0, ev1, ev2, look, lookF, cellsFrom, offT, offP, List.tail_nil, List.length_nil, Int.cast_ofNat_Int, Nat.reduceEqDiff, Nat.reduceAdd, Nat.reduceMul, Nat.reduceLeDiff, Nat.reduceLT, ↓reduceIte, reduceCtorEq, Int.reduceBEq, Int.reduceBNe, Int.reduceLT, Int.reduceLE, Int.reduceToNat])); (first | with_reducible refine on_yes ?_ | with_reducible refine on_no ?_ | with_reducible refine on_reg ?_ | (with_reducible refine on_regD (by decide +kernel) ?_) | with_reducible refine on_fin ?_)))
      exact ValsLe.refl _
    | false =>
      rw [Bool.false_or]
      cases he : (n == nx) with
      | true =>
        have : n = nx := by simpa using he
        subst this
        rw [decide_eq_false (by omega), Bool.false_and]
        repeat (first | refine aw_seq ?_ | refine aw_block ?_ | with_reducible refine aw_ret ?_ | with_reducible refine aw_skip ?_ | with_reducible refine aw_exit ?_ | refine thn_normal ?_ | refine thn_out ?_ | refine blk_normal ?_ | refine blk_ret ?_ | refine blk_exit ?_ | ((first | refine aw_regO ?_ | refine aw_regDO ?_ | refine aw_condO ?_ | refine fin_retO ?_); (conv => (arg 1; simp (maxSteps := 30000) only [ev0, ev1, ev2, look, lookF, cellsFrom, offT, offP, List.tail_nil, List.length_nil, Int.cast_ofNat_Int, Nat.reduceEqDiff, Nat.reduceAdd, Nat.reduceMul, Nat.reduceLeDiff, Nat.reduceLT, ↓reduceIte, reduceCtorEq, Int.reduceBEq, Int.reduceBNe, Int.reduceLT, Int.reduceLE, Int.reduceToNat, he])); (first | with_reducible refine on_yes ?_ | with_reducible refine on_no ?_ | with_reducible refine on_reg ?_ | (with_reducible refine on_regD (by decide +kernel) ?_) | with_reducible refine on_fin ?_)))
        exact ValsLe.refl _
      | false =>
        have hne : n ≠ nx := by simpa using he
        rw [decide_eq_true (by omega : nx < n), Bool.true_and]
        by_cases h3 : 2 < early.length
        · have h3' : ¬ ((early.length : Int) < 3) := by omega
          rw [decide_eq_true h3]
          repeat (first | refine aw_seq ?_ | refine aw_block ?_ | with_reducible refine aw_ret ?_ | with_reducible refine aw_skip ?_ | with_reducible refine aw_exit ?_ | refine thn_normal ?_ | refine thn_out ?_ | refine blk_normal ?_ | refine blk_ret ?_ | refine blk_exit ?_ | ((first | refine aw_regO ?_ | refine aw_regDO ?_ | refine aw_condO ?_ | refine fin_retO ?_); (conv => (arg 1; simp (maxSteps := 30000) only [ev0, ev1, ev2, look, lookF, cellsFrom, offT, offP, List.tail_nil, List.length_nil, Int.cast_ofNat_Int, Nat.reduceEqDiff, Nat.reduceAdd, Nat.reduceMul, Nat.reduceLeDiff, Nat.reduceLT, ↓reduceIte, reduceCtorEq, Int.reduceBEq, Int.reduceBNe, Int.reduceLT, Int.reduceLE, Int.reduceToNat, he, h3', List.length_map])); (first | with_reducible refine on_yes ?_ | with_reducible refine on_no ?_ | with_reducible refine on_reg ?_ | (with_reducible refine on_regD (by decide +kernel) ?_) | with_reducible refine on_fin ?_)))
          exact ValsLe.refl _
        · have h3' : ((early.length : Int) < 3) := by omega
          rw [decide_eq_false h3]
          repeat (first | refine aw_seq ?_ | refine aw_block ?_ | with_reducible refine aw_ret ?_ | with_reducible refine aw_skip ?_ | with_reducible refine aw_exit ?_ | refine thn_normal ?_ | refine thn_out ?_ | refine blk_normal ?_ | refine blk_ret ?_ | refine blk_exit ?_ | ((first | refine aw_regO ?_ | refine aw_regDO ?_ | refine aw_condO ?_ | refine fin_retO ?_); (conv => (arg 1; simp (maxSteps := 30000) only [ev0, ev1, ev2, look, lookF, cellsFrom, offT, offP, List.tail_nil, List.length_nil, Int.cast_ofNat_Int, Nat.reduceEqDiff, Nat.reduceAdd, Nat.reduceMul, Nat.reduceLeDiff, Nat.reduceLT, ↓reduceIte, reduceCtorEq, Int.reduceBEq, Int.reduceBNe, Int.reduceLT, Int.reduceLE, Int.reduceToNat, he, h3', List.length_map])); (first | with_reducible refine on_yes ?_ | with_reducible refine on_no ?_ | with_reducible refine on_reg ?_ | (with_reducible refine on_regD (by decide +kernel) ?_) | with_reducible refine on_fin ?_)))
          exact ValsLe.refl _
/-- Whether it is due. -/
def dueP (p0 p1 p2 : Int) (x : Ch) : Bool := x.place == plc p0 p1 p2 x.stream
set_option maxHeartbeats 4000000 in
theorem due_told (nx p0 p1 p2 : Int) (c1 c5 c6 : D) (ow : Bool) (x : Ch) (hs : x.stream = 0 ∨ x.stream = 1 ∨ x.stream = 2) :
    Told Try.prog 85 [aD (encCh x), jD 0 0 [vI nx, c1, vI p0, vI p1, vI p2, c5, c6, vB ow]] [vB (dueP p0 p1 p2 x)] := by
  refine told_recv_tellDueS1 rfl ?_
  simp only [encCh]
  unfold dueP
  rcases hs with h | h | h
  · have e : plc p0 p1 p2 x.stream = p0 := by rw [h]; rfl
    rw [e]
    repeat (first | refine aw_seq ?_ | refine aw_block ?_ | with_reducible refine aw_ret ?_ | with_reducible refine aw_skip ?_ | with_reducible refine aw_exit ?_ | refine thn_normal ?_ | refine thn_out ?_ | refine blk_normal ?_ | refine blk_ret ?_ | refine blk_exit ?_ | ((first | refine aw_regO ?_ | refine aw_regDO ?_ | refine aw_condO ?_ | refine fin_retO ?_); (conv => (arg 1; simp (maxSteps := 30000) only [ev0, ev1, ev2, look, lookF, cellsFrom, offT, offP, List.tail_nil, List.length_nil, Int.cast_ofNat_Int, Nat.reduceEqDiff, Nat.reduceAdd, Nat.reduceMul, Nat.reduceLeDiff, Nat.reduceLT, ↓reduceIte, reduceCtorEq, Int.reduceBEq, Int.reduceBNe, Int.reduceLT, Int.reduceLE, Int.reduceToNat, h])); (first | with_reducible refine on_yes ?_ | with_reducible refine on_no ?_ | with_reducible refine on_reg ?_ | (with_reducible refine on_regD (by decide +kernel) ?_) | with_reducible refine on_fin ?_)))
    exact ValsLe.refl _
  · have e : plc p0 p1 p2 x.stream = p1 := by rw [h]; rfl
    rw [e]
    repeat (first | refine aw_seq ?_ | refine aw_block ?_ | with_reducible refine aw_ret ?_ | with_reducible refine aw_skip ?_ | with_reducible refine aw_exit ?_ | refine thn_normal ?_ | refine thn_out ?_ | refine blk_normal ?_ | refine blk_ret ?_ | refine blk_exit ?_ | ((first | refine aw_regO ?_ | refine aw_regDO ?_ | refine aw_condO ?_ | refine fin_retO ?_); (conv => (arg 1; simp (maxSteps := 30000) only [ev0, ev1, ev2, look, lookF, cellsFrom, offT, offP, List.tail_nil, List.length_nil, Int.cast_ofNat_Int, Nat.reduceEqDiff, Nat.reduceAdd, Nat.reduceMul, Nat.reduceLeDiff, Nat.reduceLT, ↓reduceIte, reduceCtorEq, Int.reduceBEq, Int.reduceBNe, Int.reduceLT, Int.reduceLE, Int.reduceToNat, h])); (first | with_reducible refine on_yes ?_ | with_reducible refine on_no ?_ | with_reducible refine on_reg ?_ | (with_reducible refine on_regD (by decide +kernel) ?_) | with_reducible refine on_fin ?_)))
    exact ValsLe.refl _
  · have e : plc p0 p1 p2 x.stream = p2 := by rw [h]; rfl
    rw [e]
    repeat (first | refine aw_seq ?_ | refine aw_block ?_ | with_reducible refine aw_ret ?_ | with_reducible refine aw_skip ?_ | with_reducible refine aw_exit ?_ | refine thn_normal ?_ | refine thn_out ?_ | refine blk_normal ?_ | refine blk_ret ?_ | refine blk_exit ?_ | ((first | refine aw_regO ?_ | refine aw_regDO ?_ | refine aw_condO ?_ | refine fin_retO ?_); (conv => (arg 1; simp (maxSteps := 30000) only [ev0, ev1, ev2, look, lookF, cellsFrom, offT, offP, List.tail_nil, List.length_nil, Int.cast_ofNat_Int, Nat.reduceEqDiff, Nat.reduceAdd, Nat.reduceMul, Nat.reduceLeDiff, Nat.reduceLT, ↓reduceIte, reduceCtorEq, Int.reduceBEq, Int.reduceBNe, Int.reduceLT, Int.reduceLE, Int.reduceToNat, h])); (first | with_reducible refine on_yes ?_ | with_reducible refine on_no ?_ | with_reducible refine on_reg ?_ | (with_reducible refine on_regD (by decide +kernel) ?_) | with_reducible refine on_fin ?_)))
    exact ValsLe.refl _
theorem callDue : callableB Try.prog 85 = true := by kernel_rfl
end Go.Proofs.Ytnncmddmjpocfab.ab

/-
  Plain mathematics for receivers: a number laid into those that came early, in its place; the first ones taken away. Nothing of the program.
-/
namespace Go.Proofs.Ytnncmddmjpocfab.mth
set_option linter.unusedSimpArgs false
set_option linter.unusedVariables false

/-- Sorted lists of the same numbers are the same. -/
theorem eq_sorted : ∀ {l l' : List Int}, l.Pairwise (· < ·) → l'.Pairwise (· < ·) → (∀ x, x ∈ l ↔ x ∈ l') → l = l'
  | [], [], _, _, _ => rfl
  | [], y :: r', _, _, h => absurd ((h y).2 (by simp)) (by simp)
  | x :: r, [], _, _, h => absurd ((h x).1 (by simp)) (by simp)
  | x :: r, y :: r', h1, h2, h => by
    rw [List.pairwise_cons] at h1 h2
    have hxy : x = y := by
      have hx := (h x).1 (by simp)
      have hy := (h y).2 (by simp)
      rcases List.mem_cons.1 hx with e | e
      · exact e
      · rcases List.mem_cons.1 hy with e' | e'
        · exact e'.symm
        · have := h1.1 y e'; have := h2.1 x e; omega
    subst hxy
    congr 1
    refine eq_sorted h1.2 h2.2 (fun z => ?_)
    constructor
    · intro hz
      have := (h z).1 (by simp [hz])
      rcases List.mem_cons.1 this with e | e
      · subst e; have := h1.1 z hz; omega
      · exact e
    · intro hz
      have := (h z).2 (by simp [hz])
      rcases List.mem_cons.1 this with e | e
      · subst e; have := h2.1 z hz; omega
      · exact e
theorem rangeI_sorted (a b : Int) : (rangeI a b).Pairwise (· < ·) := by
  unfold rangeI
  rw [List.pairwise_map]
  exact List.pairwise_lt_range.imp (fun h => by omega)
theorem earlyR_sorted (S : List Int) (a : Int) : (earlyR S a).Pairwise (· < ·) := (rangeI_sorted a 40).filter _
theorem mem_earlyR {S : List Int} {a m : Int} : m ∈ earlyR S a ↔ (a ≤ m ∧ m < 40) ∧ m ∈ S := by
  unfold earlyR
  rw [List.mem_filter, mem_rangeI, List.contains_iff_mem]

/-- Where it lies, and what is then. -/
def layIn (l : List Int) (n : Int) : List Int := l.take (l.countP (· < n)) ++ n :: l.drop (l.countP (· < n))
theorem layIn_cons {x n : Int} {r : List Int} (h : x < n) : layIn (x :: r) n = x :: layIn r n := by
  unfold layIn
  rw [List.countP_cons_of_pos (by simpa using h)]
  rfl
theorem layIn_head {l : List Int} {n : Int} (h : ∀ x ∈ l, n < x) : layIn l n = n :: l := by
  have : l.countP (· < n) = 0 := by
    rw [List.countP_eq_zero]
    intro x hx
    have := h x hx
    simp; omega
  unfold layIn
  rw [this]; rfl
theorem layIn_ok {n : Int} : ∀ {l : List Int}, l.Pairwise (· < ·) → n ∉ l → (layIn l n).Pairwise (· < ·) ∧ ∀ m, m ∈ layIn l n ↔ m = n ∨ m ∈ l
  | [], _, _ => by rw [layIn_head (fun x hx => by cases hx)]; simp
  | x :: r, h, hn => by
    rw [List.pairwise_cons] at h
    simp only [List.mem_cons, not_or] at hn
    by_cases hx : x < n
    · rw [layIn_cons hx]
      obtain ⟨h1, h2⟩ := layIn_ok h.2 hn.2
      refine ⟨List.pairwise_cons.2 ⟨fun m hm => ?_, h1⟩, fun m => ?_⟩
      · rcases (h2 m).1 hm with rfl | hm
        · exact hx
        · exact h.1 m hm
      · rw [List.mem_cons, h2, List.mem_cons]
        constructor
        · rintro (q | q | q)
          · exact .inr (.inl q)
          · exact .inl q
          · exact .inr (.inr q)
        · rintro (q | q | q)
          · exact .inr (.inl q)
          · exact .inl q
          · exact .inr (.inr q)
    · have hlt : ∀ y ∈ x :: r, n < y := fun y hy => by
        rcases List.mem_cons.1 hy with rfl | hy
        · have := hn.1; omega
        · have := h.1 y hy; have := hn.1; omega
      rw [layIn_head hlt]
      exact ⟨List.pairwise_cons.2 ⟨hlt, List.pairwise_cons.2 h⟩, fun m => by rw [List.mem_cons]⟩
/-- The first ones are taken away, as long as they are the next ones. -/
def strip : List Int → Int → List Int × Int
  | [], nx => ([], nx)
  | x :: r, nx => if x = nx then strip r (nx + 1) else (x :: r, nx)
theorem strip_ok (S : List Int) : ∀ (L : List Int) (nx : Int) (f : Nat), L.Pairwise (· < ·) → (∀ x ∈ L, nx ≤ x ∧ x < 40) → (∀ m, nx ≤ m → (m ∈ S ↔ m ∈ L)) → nx ≤ 40 → 40 - nx < f →
    (strip L nx).2 = climb f S nx ∧ (strip L nx).1 = earlyR S (strip L nx).2
  | [], nx, f, h1, h2, h3, h4, h5 => by
    have hc : S.contains nx = false := by
      cases h : S.contains nx with
      | false => rfl
      | true => exact absurd ((h3 nx (Int.le_refl _)).1 (List.contains_iff_mem.1 h)) (by simp)
    refine ⟨(climb_end hc f).symm, ?_⟩
    refine eq_sorted List.Pairwise.nil (earlyR_sorted _ _) (fun x => ?_)
    show x ∈ [] ↔ x ∈ earlyR S nx
    rw [mem_earlyR]
    constructor
    · intro h; cases h
    · intro ⟨⟨q1, _⟩, q2⟩; exact (h3 x q1).1 q2
  | x :: r, nx, f, h1, h2, h3, h4, h5 => by
    rw [List.pairwise_cons] at h1
    by_cases hx : x = nx
    · subst hx
      have e : strip (x :: r) x = strip r (x + 1) := by
        show (if x = x then _ else _) = _
        rw [if_pos rfl]
      rw [e]
      have hx40 := (h2 x (by simp)).2
      obtain ⟨g, rfl⟩ : ∃ g, f = g + 1 := ⟨f - 1, by omega⟩
      have hin : S.contains x = true := List.contains_iff_mem.2 ((h3 x (Int.le_refl _)).2 (by simp))
      rw [climb_eq hin]
      refine strip_ok S r (x + 1) g h1.2 (fun y hy => ⟨by have := h1.1 y hy; omega, (h2 y (by simp [hy])).2⟩) (fun m hm => ?_) (by omega) (by omega)
      rw [h3 m (by omega), List.mem_cons]
      constructor
      · rintro (q | q)
        · omega
        · exact q
      · exact .inr
    · have e : strip (x :: r) nx = (x :: r, nx) := by
        show (if x = nx then _ else _) = _
        rw [if_neg hx]
      rw [e]
      have hgt : ∀ y ∈ x :: r, nx < y := fun y hy => by
        rcases List.mem_cons.1 hy with rfl | hy
        · have := (h2 y (by simp)).1; omega
        · have := h1.1 y hy; have := (h2 x (by simp)).1; omega
      have hc : S.contains nx = false := by
        cases h : S.contains nx with
        | false => rfl
        | true => have := hgt nx ((h3 nx (Int.le_refl _)).1 (List.contains_iff_mem.1 h)); omega
      refine ⟨(climb_end hc f).symm, ?_⟩
      refine eq_sorted (List.pairwise_cons.2 h1) (earlyR_sorted _ _) (fun y => ?_)
      show y ∈ x :: r ↔ y ∈ earlyR S nx
      rw [mem_earlyR]
      constructor
      · intro hy; exact ⟨h2 y hy, (h3 y (h2 y hy).1).2 hy⟩
      · intro ⟨⟨q1, _⟩, q2⟩; exact (h3 y q1).1 q2
/-- What the landed program makes of the numbers that came. -/
theorem take_strip {r : Rv} (h : GoodR r) {n : Int} (hn : 0 ≤ n ∧ n < 40) (hs : seenR r n = false) :
    strip (layIn r.early n) r.next = (earlyR (n :: r.early) (climb 41 (n :: r.early) r.next), climb 41 (n :: r.early) r.next) := by
  have hse : r.early.Pairwise (· < ·) := by rw [h.e]; exact earlyR_sorted _ _
  unfold seenR at hs
  simp only [Bool.or_eq_false_iff, decide_eq_false_iff_not] at hs
  have hne : n ∉ r.early := fun q => by
    have := List.contains_iff_mem.2 q
    rw [this] at hs
    exact absurd hs.1 (by simp)
  obtain ⟨h1, h2⟩ := layIn_ok hse hne
  have h0 := h.n
  obtain ⟨q1, q2⟩ := strip_ok (n :: r.early) (layIn r.early n) r.next 41 h1 (fun x hx => by
    rcases (h2 x).1 hx with rfl | q
    · omega
    · have := h.in40 x q; omega) (fun m hm => by rw [h2, List.mem_cons]) h0.2 (by omega)
  rw [← q1]
  exact Prod.ext q2 rfl
end Go.Proofs.Ytnncmddmjpocfab.mth
