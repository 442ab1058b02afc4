/-
  Rows of bytes that the call made, of which something may be frozen that is no spare cell of theirs (what '[]byte(s)' makes); appending to one. Nothing of the program but the type of bytes.
-/
import Derived.Test.YtlomffhofionnaaDoorBytes
namespace Go.Proofs.YtlomffhofionnaaDoor.leaf
set_option linter.unusedVariables false
open Go.RowKit
open mth

/-- The slice value v is of a row from block base on, it holds xs, and its spare cells may be written. -/
def Om (w : World) (base : Nat) (v : Value) (xs : List UInt8) : Prop :=
  ∃ g cap cur fz, v = .slice (some ⟨g, 0, none⟩) xs.length cap ∧ base ≤ g ∧ w.heap[g]? = some (.cells cur 5 fz) ∧ (fz.2 ≤ xs.length ∨ cap ≤ fz.1) ∧ xs.length ≤ cap ∧ cap ≤ maxLen ∧ cur.size = cap ∧ cur.toList.take xs.length = xs.map B

theorem Om.form {w : World} {base : Nat} {v : Value} {xs : List UInt8} (h : Om w base v xs) : ∃ g c, v = .slice (some ⟨g, 0, none⟩) xs.length c ∧ base ≤ g ∧ g < w.heap.size := by
  obtain ⟨g, cap, cur, fz, rfl, hb, hg, r⟩ := h
  exact ⟨g, cap, rfl, hb, (Array.getElem?_eq_some_iff.1 hg).1⟩
theorem Om.cells {w : World} {base g n cap : Nat} {xs : List UInt8} (h : Om w base (.slice (some ⟨g, 0, none⟩) n cap) xs) : ∀ j u, (xs.map B)[j]? = some u → w.cell? ⟨g, j, none⟩ = some u := by
  intro j u hu
  obtain ⟨g', cap', cur, fz, he, -, hg, -, -, -, -, ht⟩ := h
  injection he with h1 _ h2
  injection h1 with h1
  injection h1 with h1
  subst h1
  rw [cell_of_row w g j cur 5 fz hg]
  rw [← ht, List.getElem?_take] at hu
  split at hu
  · simpa using hu
  · cases hu
theorem Om.bs {w : World} {base : Nat} {v : Value} {xs : List UInt8} (h : Om w base v xs) : Bs w v xs := by
  have hc := h
  obtain ⟨g, cap, cur, fz, rfl, -, -, -, hl, -⟩ := h
  refine ⟨_, cap, rfl, hl, fun h => by simp at h, fun i hi => ⟨_, rfl, ?_⟩⟩
  rw [Addr.add_lit, Nat.zero_add]
  refine hc.cells i _ ?_
  rw [List.getElem?_map, List.getElem?_eq_getElem hi]
  simp [B, List.getD, hi]
theorem Om.later {w w' : World} {base : Nat} {v : Value} {xs : List UInt8} (h : Om w base v xs) (hb : Below w.heap.size w w') : Om w' base v xs := by
  obtain ⟨g, cap, cur, fz, rfl, h1, hg, r⟩ := h
  exact ⟨g, cap, cur, fz, rfl, h1, (hb.block g (Array.getElem?_eq_some_iff.1 hg).1).trans hg, r⟩

/-- What '[]byte(s)' makes. -/
theorem bytes_mark (u : World) (s : ByteArray) (xs : List UInt8) (hs : s.data.toList = xs) (hm : xs.length ≤ maxLen) :
    ∃ (cap : Nat) (u' : World), (convert 9 22 (.string s)).run Tryd.prog u = .ok (.slice (some ⟨u.heap.size, 0, none⟩) xs.length cap) u' ∧ Om u' u.heap.size (.slice (some ⟨u.heap.size, 0, none⟩) xs.length cap) xs ∧ Below u.heap.size u u' ∧ u'.heap.size = u.heap.size + 1 := by
  have hl : xs.length = s.size := by rw [← hs, Array.length_toList]; rfl
  have hge := grownCap_ge u s.size 0 5
  have hsz : (bytesRow s (grownCap u s.size 0 5)).size = grownCap u s.size 0 5 := by
    simp [bytesRow]
    have : s.data.size = s.size := rfl
    omega
  refine ⟨grownCap u s.size 0 5, u.drew.alloc (.cells (bytesRow s (grownCap u s.size 0 5)) 5 ((bytesRow s (grownCap u s.size 0 5)).size, (bytesRow s (grownCap u s.size 0 5)).size + 1)), ?_, ?_, ?_, ?_⟩
  · rw [hl]; exact run_bytes_of_string u 9 22 5 s Tryd.underlying9 Tryd.underlying22 Tryd.underlying5
  · refine ⟨u.heap.size, grownCap u s.size 0 5, _, _, rfl, Nat.le_refl _, heap_alloc_new u.drew _, .inr (by rw [hsz]; exact Nat.le_refl _), by omega, grownCap_le_maxLen _ _ _ _ (by omega), hsz, ?_⟩
    apply List.ext_getElem?
    intro j
    rw [List.getElem?_take]
    split
    · rename_i hj
      have hj' : j < s.data.size := by rw [hl] at hj; exact hj
      rw [Array.getElem?_toList, bytesRow_at s _ j hj', List.getElem?_map, List.getElem?_eq_getElem hj]
      have : xs[j] = s.data[j] := by subst hs; simp
      rw [this]; rfl
    · rename_i hj
      rw [List.getElem?_eq_none (by simp; omega)]
  · exact (Below.drew (Below.refl _ _)).alloc (Nat.le_refl _) _
  · simp

/-- Storing cells of a row, none of them frozen. -/
theorem store_row (P : Program) (g o : Nat) (t : TypeId) (fz : Nat × Nat) : ∀ (vs : List Value) (i : Nat) (cur : Array Value) (w : World), w.heap[g]? = some (.cells cur t fz) → (fz.2 ≤ o + i ∨ o + i + vs.length ≤ fz.1) → o + i + vs.length ≤ cur.size → (∀ v ∈ vs, v.oneCell' = true) →
    (storeCells ⟨g, o, none⟩ vs i).run P w = .ok () (w.setRow g (cur.toList.take (o + i) ++ vs ++ cur.toList.drop (o + i + vs.length)).toArray)
  | [], i, cur, w, hg, _, _, _ => by
    simp only [storeCells, List.append_nil, List.length_nil, Nat.add_zero, List.take_append_drop, Array.toArray_toList]
    rw [setRow_self w g cur t fz hg]
    rfl
  | v :: rest, i, cur, w, hg, hfz, hl, h1 => by
    simp only [List.length_cons] at hfz hl
    have hi : o + i < cur.size := by omega
    have hcell : w.cell? ⟨g, o + i, none⟩ = some cur[o + i] := by simp [World.cell?, hg, hi]
    have hfro : w.frozen? ⟨g, o + i, none⟩ = false := by
      obtain ⟨lo, hi'⟩ := fz
      simp only [World.frozen?, hg, Bool.and_eq_false_iff, decide_eq_false_iff_not]
      simp only at hfz
      omega
    have hst : (store ((⟨g, o, none⟩ : Addr).add i) v).run P w = .ok () (w.setRow g (cur.setIfInBounds (o + i) v)) := by
      rw [Addr.add_lit, run_store P w _ v _ (h1 v (by simp)), hcell]
      simp [hfro, setCell_eq_setRow w g (o + i) cur t fz v hg]
    have ih := store_row P g o t fz rest (i + 1) (cur.setIfInBounds (o + i) v) (w.setRow g (cur.setIfInBounds (o + i) v)) (setRow_heap w g cur _ t _ hg) (by omega) (by simp; omega) (fun x hx => h1 x (by simp [hx]))
    simp only [storeCells, Sem.run_bind, hst, Result.andThen_ok, ih, setRow_setRow]
    congr 3
    have e := list_seg_step cur.toList (o + i) v rest (by simp; omega)
    simpa [Array.toList_setIfInBounds, Nat.add_assoc] using e

/-- 'append(v, ys...)' to such a row. -/
theorem mark_append (w : World) (base : Nat) (ty : TypeId) (v : Value) (xs ys : List UInt8) (hown : Om w base v xs) (a : Addr) (c : Nat) (hnews : ∀ j u, (ys.map B)[j]? = some u → w.cell? (a.add j) = some u) (h63 : xs.length + ys.length ≤ 140737488355328) (hbase : base ≤ w.heap.size) :
    ∃ v' w', (Builtin.append_ #[22, 22] ty #[v, .slice (some a) ys.length c]).run Tryd.prog w = .ok v' w' ∧ Om w' base v' (xs ++ ys) ∧ w.grownBy w' v.ownBlock := by
  obtain ⟨i5, hi5, hz50, hz51, hz52⟩ := info_parts info5
  have hown0 := hown
  obtain ⟨g, cap, cur, fz, rfl, hbg, hg, hfz, hnc, hcm, hcs, htake⟩ := hown
  have hlen : (xs.map B ++ ys.map B).length = (xs ++ ys).length := by simp
  by_cases hroom : xs.length + ys.length ≤ cap
  · have hf := run_firstCells_some (P := Tryd.prog) w 1 ys.length a ys.length c (ys.map B) (by simp) hnews
    have hst := store_row Tryd.prog g xs.length 5 fz (ys.map B) 0 cur w hg (by simp only [Nat.add_zero, List.length_map]; omega) (by simp only [Nat.add_zero, List.length_map]; omega) (B_one ys)
    simp only [Nat.add_zero] at hst
    refine ⟨.slice (some ⟨g, 0, none⟩) (xs.length + ys.length) cap, w.setRow g (cur.toList.take xs.length ++ ys.map B ++ cur.toList.drop (xs.length + (ys.map B).length)).toArray, ?_, ⟨g, cap, _, fz, by rw [List.length_append], hbg, setRow_heap w g cur _ 5 _ hg, by rw [List.length_append]; omega, by rw [List.length_append]; exact hroom, hcm, ?_, ?_⟩, ⟨rfl, rfl, rfl, by simp, fun k _ hk => setRow_other w g k _ (fun e => hk (by simp [Value.ownBlock, e]))⟩⟩
    · simp [Builtin.append_, run_underlying Tryd.underlying22, sizeOf, typeInfo, hi5, hz51, Builtin.lenOf, hroom, hf, Addr.add_lit, hst]
    · simp only [List.size_toArray, List.length_append, List.length_take, List.length_drop, Array.length_toList, List.length_map]
      omega
    · rw [htake, ← hlen, List.map_append]
      exact List.take_left
  · have holds : ∀ j u, (xs.map B)[j]? = some u → w.cell? ((⟨g, 0, none⟩ : Addr).add j) = some u := fun j u hu => by rw [Addr.add_lit, Nat.zero_add]; exact hown0.cells j u hu
    have hr := run_append_grow (P := Tryd.prog) w 22 ty 5 i5 (.int .u8 0) Tryd.underlying22 hi5 hz50 ⟨g, 0, none⟩ xs.length cap (xs.map B) (by rw [hz51]; simp) holds a ys.length c (ys.map B) (by rw [hz51]; simp) hnews (by omega) (by omega) (growslice_fits (by omega) (by rw [hz52]; omega))
    have hge := grownCap_ge w (xs.length + ys.length) cap 5
    have hcm2 : grownCap w (xs.length + ys.length) cap 5 ≤ maxLen := grownCap_le_maxLen w (xs.length + ys.length) cap 5 (by unfold maxLen; omega)
    refine ⟨_, _, hr, ⟨w.heap.size, _, _, (0, 0), by rw [List.length_append], hbase, heap_alloc_new w.drew _, .inl (Nat.zero_le _), by rw [List.length_append]; exact hge, hcm2, ?_, ?_⟩, ⟨rfl, rfl, rfl, by simp, fun k hk _ => Below.heap_alloc w.drew _ k hk⟩⟩
    · have hz1 : (Value.int IntKind.u8 0).cells.size = 1 := rfl
      simp only [Array.size_append, List.size_toArray, size_zeroCells, hz1, List.length_map]
      omega
    · simp only [Array.toList_append]
      rw [List.append_assoc, ← List.append_assoc, ← hlen, List.map_append]
      exact List.take_left

theorem wpList_append_mark {w : World} {ops : Array Oper} {rest : List Oper} {o : Oper} {a : Act} {Q : Exit → Act → World → Prop} (hgd : o.guard = none) (s x : Operand)
    (ho : o.op = .call { callee := .builtin .append, args := #[s, x], argTypes := #[22, 22] }) (base : Nat) (v : Value) (xs ys : List UInt8) (hs : a.eval s = v) (hown : Om w base v xs)
    (ad : Addr) (m c : Nat) (hx : a.eval x = .slice (some ad) m c) (hl : ys.length = m) (hnews : ∀ j u, (ys.map B)[j]? = some u → w.cell? (ad.add j) = some u) (h63 : xs.length + m ≤ 140737488355328) (hbase : base ≤ w.heap.size)
    (h : ∀ g c' w', Om w' base (.slice (some ⟨g, 0, none⟩) (xs.length + m) c') (xs ++ ys) → w.grownBy w' v.ownBlock → wpList Tryd.prog ops Q rest (a.put o.dst (.slice (some ⟨g, 0, none⟩) (xs.length + m) c')) w') : wpList Tryd.prog ops Q (o :: rest) a w := by
  subst hl
  refine wpList_plain hgd fun K hK => ?_
  obtain ⟨v', w', hr, h2, h3⟩ := mark_append w base o.type v xs ys hown ad c hnews h63 hbase
  obtain ⟨g, c', hv, -⟩ := h2.form
  rw [List.length_append] at hv
  subst hv
  unfold Oper.wp execOp
  simp only [ho, resolve, invoke, builtin, Sem.run_bind, Sem.run_pure, Result.andThen_ok, List.map_toArray, List.map_cons, List.map_nil, hs, hx, hr]
  exact hK _ _ (h g c' w' h2 h3)
theorem step_append_mark {w : World} {ops : Array Oper} {o : Oper} {a : Act} {K : Act → World → Prop} {Q : Exit → Act → World → Prop} {E : Prop} (hgd : o.guard = none) (s x : Operand)
    (ho : o.op = .call { callee := .builtin .append, args := #[s, x], argTypes := #[22, 22] }) (base : Nat) (v : Value) (xs ys : List UInt8) (hs : a.eval s = v) (hown : Om w base v xs)
    (ad : Addr) (m c : Nat) (hx : a.eval x = .slice (some ad) m c) (hl : ys.length = m) (hnews : ∀ j u, (ys.map B)[j]? = some u → w.cell? (ad.add j) = some u) (h63 : xs.length + m ≤ 140737488355328) (hbase : base ≤ w.heap.size)
    (h : ∀ g c' w', Om w' base (.slice (some ⟨g, 0, none⟩) (xs.length + m) c') (xs ++ ys) → w.grownBy w' v.ownBlock → K (a.put o.dst (.slice (some ⟨g, 0, none⟩) (xs.length + m) c')) w') :
    if Region.wanted o (yielded ops a.tmps) = true then Oper.wp Tryd.prog o a w K Q else E := by
  subst hl
  have hw : Region.wanted o (yielded ops a.tmps) = true := by simp [Region.wanted, hgd]
  rw [if_pos hw]
  obtain ⟨v', w', hr, h2, h3⟩ := mark_append w base o.type v xs ys hown ad c hnews h63 hbase
  obtain ⟨g, c', hv, -⟩ := h2.form
  rw [List.length_append] at hv
  subst hv
  unfold Oper.wp execOp
  simp only [ho, resolve, invoke, builtin, Sem.run_bind, Sem.run_pure, Result.andThen_ok, List.map_toArray, List.map_cons, List.map_nil, hs, hx, hr]
  exact h g c' w' h2 h3
end Go.Proofs.YtlomffhofionnaaDoor.leaf
