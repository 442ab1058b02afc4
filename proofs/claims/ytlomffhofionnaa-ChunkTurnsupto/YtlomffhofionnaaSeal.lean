/-
  The contracts of the two functions that seal bytes.
-/
import Derived.Test.YtlomffhofionnaaLeaf
import Derived.Laws.CopyOwn
import Derived.Laws.IdiomStrings
import Derived.Laws.AppendOwnNone
import Derived.Outline
import Derived.Deep.DeepMust
namespace Go.Proofs.Ytlomffhofionnaa.leaf
set_option linter.unusedVariables false
open Go.RowKit
open mth

theorem info5 : (Try.prog.info? 5).map (fun i => (i.zero, i.size, i.bytes)) = some (some (.int .u8 0), 1, 1) := by kernel_rfl
theorem size5 : (Try.prog.info? 5).map (·.size) = some 1 := by kernel_rfl

theorem B_one (xs : List UInt8) : ∀ v ∈ xs.map B, v.oneCell' = true := by
  intro u hu
  obtain ⟨_, _, rfl⟩ := List.mem_map.1 hu
  rfl

/-- The cells of a slice that came in, as the laws on copy and append ask for them. -/
theorem Bs_cells {w : World} {a : Option Addr} {cap : Nat} {xs : List UInt8} (h : Bs w (.slice a xs.length cap) xs) (hp : 0 < xs.length) : ∃ ad, a = some ad ∧ ∀ j v, (xs.map B)[j]? = some v → w.cell? (ad.add j) = some v := by
  obtain ⟨a', cap', he, hlc, hno, hc⟩ := h
  injection he with h1 _ h2
  subst h1 h2
  obtain ⟨x, rfl, _⟩ := hc 0 hp
  refine ⟨x, rfl, fun j v hv => ?_⟩
  have hj : j < xs.length := by
    have := (List.getElem?_eq_some_iff.1 hv).1
    simpa using this
  obtain ⟨x', hx', hcc⟩ := hc j hj
  simp at hx'
  subst hx'
  rw [hcc]
  simp [hj] at hv
  simp [List.getD, hj, ← hv, B]

/-- Nothing old has turned: what a slice holds it holds still. -/
theorem Bs.later {w w' : World} {v : Value} {xs : List UInt8} (h : Bs w v xs) (hb : Below w.heap.size w w') : Bs w' v xs := by
  obtain ⟨a, cap, rfl, hlc, hno, hc⟩ := h
  refine ⟨a, cap, rfl, hlc, hno, fun i hi => ?_⟩
  obtain ⟨x, rfl, hcc⟩ := hc i hi
  exact ⟨x, rfl, (hb.cell (World.block_lt_of_cell? w _ hcc)).trans hcc⟩

theorem owns_made {w : World} {B0 g n cap : Nat} {cur : List Value} {xs : List Value} (hg : w.heap[g]? = some (.cells cur.toArray 5 (0, 0))) (hB : B0 ≤ g) (hn : n ≤ cap) (hm : cap ≤ maxLen) (hl : cur.length = cap) (hx : cur.take n = xs) :
    w.ownsRow B0 5 1 (.slice (some ⟨g, 0, none⟩) n cap) n xs :=
  ⟨by rw [← hx]; simp; omega, .inr ⟨g, cap, cur.toArray, rfl, hB, hg, hn, hm, by simpa using hl, by simpa using hx⟩⟩

theorem two_new (w : World) (x y : Int) : ∀ (j : Nat) (u : Value), [Value.int .u8 x, Value.int .u8 y][j]? = some u → (w.alloc (.cells #[Value.int .u8 x, Value.int .u8 y] 5)).cell? ((⟨w.heap.size, 0, none⟩ : Addr).add j) = some u := by
  intro j u hj
  rw [Addr.add_lit, Nat.zero_add, World.cell?_alloc_mark]
  simpa using hj
theorem two_new' (w : World) (n : Nat) (x y : Int) (hn : n = w.heap.size) : ∀ (j : Nat) (u : Value), [Value.int .u8 x, Value.int .u8 y][j]? = some u → (w.alloc (.cells #[Value.int .u8 x, Value.int .u8 y] 5)).cell? ((⟨n, 0, none⟩ : Addr).add j) = some u := by
  subst hn; exact two_new w x y
theorem two_one (x y : Int) : ∀ u ∈ [Value.int .u8 x, Value.int .u8 y], u.oneCell' = true := by
  intro u hu
  simp at hu
  rcases hu with rfl | rfl <;> rfl
theorem seal_cells (xs : List UInt8) : (sealL xs).map B = xs.map B ++ [Value.int .u8 (sumL xs / 256), Value.int .u8 (sumL xs % 256)] := by
  simp [sealL, B, hiB_toNat (sumL_bd xs), loB_toNat (sumL_bd xs)]

/-- 'copy(out, b)', out a row of the call's own, as long as b or longer: what the run comes to. -/
theorem run_copy {w u : World} {a : Option Addr} {cap B0 g dcap : Nat} {xs : List UInt8} {cur : List Value} (h : Bs w (.slice a xs.length cap) xs) (hu : Below w.heap.size w u)
    (hg : u.heap[g]? = some (.cells cur.toArray 5 (0, 0))) (hB : w.heap.size ≤ g) (hB0 : B0 ≤ g) (hl : xs.length ≤ cur.length) (hd : dcap ≤ maxLen) (hcd : cur.length = dcap) :
    ∃ u', (Builtin.copy_ #[22, 22] 3 #[.slice (some ⟨g, 0, none⟩) xs.length dcap, .slice a xs.length cap]).run Try.prog u = .ok (.int .i64 xs.length) u' ∧
      u'.ownsRow B0 5 1 (.slice (some ⟨g, 0, none⟩) xs.length dcap) xs.length (xs.map B) ∧ Below w.heap.size w u' := by
  by_cases h0 : xs.length = 0
  · have hrun := run_copy_none (P := Try.prog) u 22 22 3 5 (some ⟨g, 0, none⟩) a xs.length dcap xs.length cap Try.underlying22 size5 (by simp [h0])
    refine ⟨u, ?_, ?_, hu⟩
    · rw [hrun]; simp [goInt, h0]
    · obtain rfl : xs = [] := List.eq_nil_of_length_eq_zero h0
      exact owns_made hg hB0 (Nat.zero_le _) hd hcd (by simp)
  · obtain ⟨ad, rfl, hc⟩ := Bs_cells (h.later hu) (by omega)
    have hrun := run_copy_row (P := Try.prog) u 22 22 3 5 g 0 xs.length dcap ad xs.length cap cur.toArray 5 (xs.map B) Try.underlying22 size5 hg (by simp) hc (by simpa using hl) (B_one xs)
    have hs := setRow_heap u g _ ((cur.toArray.toList.take 0 ++ xs.map B ++ cur.toArray.toList.drop (0 + (xs.map B).length)).toArray) 5 _ hg
    refine ⟨_, hrun.trans (by simp [goInt]), owns_made hs hB0 (by omega) hd ?_ ?_, below_setRow hu hB _⟩
    · simp; omega
    · simp

set_option maxHeartbeats 400000 in
theorem seal_any (a : Option Addr) (cap : Nat) (xs : List UInt8) (w : World) (h : Bs w (.slice a xs.length cap) xs) (hr : xs.length + 2 ≤ 140737488355328) :
    Calls Try.prog 13 #[.slice a xs.length cap] w fun e w' => e = .returned (.slice (some ⟨w.heap.size, 0, none⟩) (xs.length + 2) (xs.length + 2)) ∧ w'.ownsRow w.heap.size 5 1 (.slice (some ⟨w.heap.size, 0, none⟩) (xs.length + 2) (xs.length + 2)) (xs.length + 2) ((sealL xs).map B) ∧ Below w.heap.size w w' := by
  obtain ⟨i0, hi, hz0, hz1, hz2⟩ := info_parts info5
  have hmk : ∀ u : World, (Instr.makeSlice 22 (.int .i64 (xs.length : Int)) (.int .i64 ((xs.length : Int) + 2))).run Try.prog u =
      .ok (.slice (some ⟨u.heap.size, 0, none⟩) xs.length (xs.length + 2)) (u.alloc (.cells (madeCells #[.int .u8 0] (xs.length + 2)) 5)) := fun u => by
    have h := run_make (P := Try.prog) u 22 5 i0 (.int .u8 0) Try.underlying22 hi hz0 .i64 .i64 (xs.length : Int) ((xs.length : Int) + 2) (by omega) (by omega) (by rw [hz2]; omega) (by omega)
    have e : ((xs.length : Int) + 2).toNat = xs.length + 2 := by omega
    have e' : ((xs.length : Int)).toNat = xs.length := by omega
    rw [e, e'] at h
    simpa [hz1, Value.cells] using h
  have hb := sumL_bd xs
  have hrow : (w.alloc (.cells (madeCells #[.int .u8 0] (xs.length + 2)) 5)).heap[w.heap.size]? = some (.cells (List.replicate (xs.length + 2) (Value.int .u8 0)).toArray 5 (0, 0)) := by
    rw [heap_alloc_new]
    rw [← toList_madeCells_one]
  obtain ⟨w1, hcp, hown, hb1⟩ := run_copy (B0 := w.heap.size) (dcap := xs.length + 2) h ((Below.refl _ _).alloc (Nat.le_refl _) _) hrow (Nat.le_refl _) (Nat.le_refl _) (by simp) (by unfold maxLen; omega) (by simp)
  clear hrow
  go_enter Try.func13, Try.ntmps13
  go_wp2_with (first
    | (go_at_call 11; refine (of_any a cap xs _ h (by unfold maxLen; omega)).mono ?_; rintro e w' ⟨rfl, rfl⟩)
    | (at_builtin; go_must (refine wpList_append_fits _ rfl (.tmp 16) (.tmp 22) 22 rfl w.heap.size 5 i0 1 Try.underlying22 hi hz1 w.heap.size xs.length (xs.length + 2) (xs.map B) rfl (hown.alloc _) ⟨w1.heap.size, 0, none⟩ 2 2 [.int .u8 (sumL xs / 256), .int .u8 (sumL xs % 256)] rfl rfl (two_new _ _ _) (two_one _ _) (by omega) ?_); intro w2 hown2 hgrow2))
  go_ret
  refine ⟨rfl, ?_, ?_⟩
  · rw [seal_cells]; exact hown2
  · exact (hb1.alloc hb1.size _).grown hgrow2 (by have := hb1.size; simp; omega) (by intro k hk; simp at hk; omega)

/-- A slice that was made empty owns nothing. -/
theorem owns_empty (w : World) : (w.alloc (.cells #[] 5)).ownsRow w.heap.size 5 1 (.slice (some ⟨w.heap.size, 0, none⟩) 0 0) 0 [] :=
  World.ownsRow_made w #[] 0 (Nat.le_refl _) (Nat.zero_le _) rfl

set_option maxHeartbeats 400000 in
theorem refSeal_any (a : Option Addr) (cap : Nat) (xs : List UInt8) (w : World) (h : Bs w (.slice a xs.length cap) xs) (hr : xs.length + 2 ≤ 140737488355328) :
    Calls Try.prog 14 #[.slice a xs.length cap] w fun e w' => ∃ v', e = .returned v' ∧ w'.ownsRow w.heap.size 5 1 v' (xs.length + 2) ((sealL xs).map B) ∧ Below w.heap.size w w' := by
  obtain ⟨i0, hi, hz0, hz1, hz2⟩ := info_parts info5
  have hb := sumL_bd xs
  have he := owns_empty w
  have hb0 : Below w.heap.size w (w.alloc (.cells #[] 5)) := (Below.refl _ _).alloc (Nat.le_refl _) _
  cases a with
  | none =>
    obtain ⟨rfl, rfl⟩ : xs = [] ∧ cap = 0 := by
      obtain ⟨a', cap', hv, hlc, hno, hc⟩ := h
      injection hv with h1 _ h2
      subst h1 h2
      have := hno rfl
      exact ⟨List.eq_nil_of_length_eq_zero (by omega), this⟩
    go_enter Try.func14, Try.ntmps14
    go_wp2_with (first
      | (go_at_call 12; refine (sum_any none 0 [] _ h (by unfold maxLen; simp)).mono ?_; rintro e w' ⟨rfl, rfl⟩)
      | (at_builtin; refine wpList_append_own_none rfl (.tmp 6) (.tmp 7) 22 rfl w.heap.size 5 i0 1 Try.underlying22 hi (.slice (some ⟨w.heap.size, 0, none⟩) 0 0) 0 [] rfl he rfl ?_)
      | (at_builtin; refine wpList_append_own _ rfl (.tmp 8) (.tmp 15) 22 rfl w.heap.size 5 i0 (.int .u8 0) 1 1 Try.underlying22 hi hz0 hz1 hz2 rfl (by decide) (.slice (some ⟨w.heap.size, 0, none⟩) 0 0) 0 [] rfl (he.alloc _) ⟨w.heap.size + 1, 0, none⟩ 2 2 [.int .u8 (sumL [] / 256), .int .u8 (sumL [] % 256)] rfl rfl (two_new' _ _ _ _ (by simp)) (two_one _ _) (by unfold maxLen; omega) (by omega) (by simp; omega) ?_; intro v2 w2 hown2 hgrow2 hnil2))
    go_ret
    refine ⟨_, rfl, ?_, ?_⟩
    · rw [seal_cells]; exact hown2
    · exact (hb0.alloc hb0.size _).grown hgrow2 (by simp; omega) (by intro k hk; simp [Value.ownBlock] at hk; omega)
  | some ad =>
    have hsrc : ∀ j v, (xs.map B)[j]? = some v → (w.alloc (.cells #[] 5)).cell? (ad.add j) = some v := by
      intro j v hj
      have hp : 0 < xs.length := by
        have := (List.getElem?_eq_some_iff.1 hj).1
        simp at this; omega
      obtain ⟨ad', h1, h2⟩ := Bs_cells (h.later hb0) hp
      cases h1
      exact h2 j v hj
    go_enter Try.func14, Try.ntmps14
    go_wp2_with (first
      | (go_at_call 12; refine (sum_any (some ad) cap xs _ h (by unfold maxLen; omega)).mono ?_; rintro e w' ⟨rfl, rfl⟩)
      | (at_builtin; refine wpList_append_own _ rfl (.tmp 6) (.tmp 7) 22 rfl w.heap.size 5 i0 (.int .u8 0) 1 1 Try.underlying22 hi hz0 hz1 hz2 rfl (by decide) (.slice (some ⟨w.heap.size, 0, none⟩) 0 0) 0 [] rfl he ad xs.length cap (xs.map B) rfl (by simp) hsrc (B_one xs) (by unfold maxLen; omega) (by omega) (by simp) ?_; intro v1 w1 hown1 hgrow1 hnil1; clear he hsrc hnil1; simp only [Nat.zero_add, List.nil_append] at hown1)
      | (at_builtin; refine wpList_append_own _ rfl (.tmp 8) (.tmp 15) 22 rfl w.heap.size 5 i0 (.int .u8 0) 1 1 Try.underlying22 hi hz0 hz1 hz2 rfl (by decide) v1 xs.length (xs.map B) rfl (hown1.alloc _) ⟨w1.heap.size, 0, none⟩ 2 2 [.int .u8 (sumL xs / 256), .int .u8 (sumL xs % 256)] rfl rfl (two_new _ _ _) (two_one _ _) (by unfold maxLen; omega) (by omega) (by have := hgrow1.size; simp at this ⊢; omega) ?_; intro v2 w2 hown2 hgrow2 hnil2))
    go_ret
    refine ⟨_, rfl, ?_, ?_⟩
    · rw [seal_cells]; exact hown2
    · have hb1 : Below w.heap.size w w1 := hb0.grown hgrow1 (by simp) (by intro k hk; simp [Value.ownBlock] at hk; omega)
      exact (hb1.alloc hb1.size _).grown hgrow2 (by have := hb1.size; simp; omega) (fun k hk => (hown1.lt k hk).1)
end Go.Proofs.Ytlomffhofionnaa.leaf
