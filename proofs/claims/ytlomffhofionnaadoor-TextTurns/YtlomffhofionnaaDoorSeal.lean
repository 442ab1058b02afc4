/-
  The contracts of the two functions that seal bytes.
-/
import Derived.Test.YtlomffhofionnaaDoorLeaf
import Derived.Laws.CopyOwn
import Derived.Laws.IdiomStrings
import Derived.Laws.AppendOwnNone
import Derived.Outline
import Derived.Deep.DeepMust
namespace Go.Proofs.YtlomffhofionnaaDoor.leaf
set_option linter.unusedVariables false
open Go.RowKit
open mth

theorem info5 : (Tryd.prog.info? 5).map (fun i => (i.zero, i.size, i.bytes)) = some (some (.int .u8 0), 1, 1) := by kernel_rfl
theorem size5 : (Tryd.prog.info? 5).map (·.size) = some 1 := by kernel_rfl

theorem B_one (xs : List UInt8) : ∀ v ∈ xs.map B, v.oneCell' = true := by
  intro u hu
  obtain ⟨_, _, rfl⟩ := List.mem_map.1 hu
  rfl

/-- The cells of a slice that came in, as the laws on copy and append ask for them. -/
theorem Bs_cells {w : World} {a : Option Addr} {cap : Nat} {xs : List UInt8} (h : Bs w (.slice a xs.length cap) xs) (hp : 0 < xs.length) : ∃ ad, a = some ad ∧ ∀ j v, (xs.map B)[j]? = some v → w.cell? (ad.add j) = some v := by
  obtain ⟨a', cap', he, hlc, hno, hc⟩ := h
  injection he with h1 _ h2
  subst h1 h2
  obtain ⟨x, rfl, _⟩ := hc 0 hp
  refine ⟨x, rfl, fun j v hv => ?_⟩
  have hj : j < xs.length := by
    have := (List.getElem?_eq_some_iff.1 hv).1
    simpa using this
  obtain ⟨x', hx', hcc⟩ := hc j hj
  simp at hx'
  subst hx'
  rw [hcc]
  simp [hj] at hv
  simp [List.getD, hj, ← hv, B]

/-- Nothing old has turned: what a slice holds it holds still. -/
theorem Bs.later {w w' : World} {v : Value} {xs : List UInt8} (h : Bs w v xs) (hb : Below w.heap.size w w') : Bs w' v xs := by
  obtain ⟨a, cap, rfl, hlc, hno, hc⟩ := h
  refine ⟨a, cap, rfl, hlc, hno, fun i hi => ?_⟩
  obtain ⟨x, rfl, hcc⟩ := hc i hi
  exact ⟨x, rfl, (hb.cell (World.block_lt_of_cell? w _ hcc)).trans hcc⟩

theorem owns_made {w : World} {B0 g n cap : Nat} {cur : List Value} {xs : List Value} (hg : w.heap[g]? = some (.cells cur.toArray 5 (0, 0))) (hB : B0 ≤ g) (hn : n ≤ cap) (hm : cap ≤ maxLen) (hl : cur.length = cap) (hx : cur.take n = xs) :
    w.ownsRow B0 5 1 (.slice (some ⟨g, 0, none⟩) n cap) n xs :=
  ⟨by rw [← hx]; simp; omega, .inr ⟨g, cap, cur.toArray, rfl, hB, hg, hn, hm, by simpa using hl, by simpa using hx⟩⟩

theorem two_new (w : World) (x y : Int) : ∀ (j : Nat) (u : Value), [Value.int .u8 x, Value.int .u8 y][j]? = some u → (w.alloc (.cells #[Value.int .u8 x, Value.int .u8 y] 5)).cell? ((⟨w.heap.size, 0, none⟩ : Addr).add j) = some u := by
  intro j u hj
  rw [Addr.add_lit, Nat.zero_add, World.cell?_alloc_mark]
  simpa using hj
theorem two_new' (w : World) (n : Nat) (x y : Int) (hn : n = w.heap.size) : ∀ (j : Nat) (u : Value), [Value.int .u8 x, Value.int .u8 y][j]? = some u → (w.alloc (.cells #[Value.int .u8 x, Value.int .u8 y] 5)).cell? ((⟨n, 0, none⟩ : Addr).add j) = some u := by
  subst hn; exact two_new w x y
theorem two_one (x y : Int) : ∀ u ∈ [Value.int .u8 x, Value.int .u8 y], u.oneCell' = true := by
  intro u hu
  simp at hu
  rcases hu with rfl | rfl <;> rfl
theorem seal_cells (xs : List UInt8) : (sealL xs).map B = xs.map B ++ [Value.int .u8 (sumL xs / 256), Value.int .u8 (sumL xs % 256)] := by
  simp [sealL, B, hiB_toNat (sumL_bd xs), loB_toNat (sumL_bd xs)]

/-- 'copy(out, b)', out a row of the call's own, as long as b or longer: what the run comes to. -/
theorem run_copy {w u : World} {a : Option Addr} {cap B0 g dcap : Nat} {xs : List UInt8} {cur : List Value} (h : Bs w (.slice a xs.length cap) xs) (hu : Below w.heap.size w u)
    (hg : u.heap[g]? = some (.cells cur.toArray 5 (0, 0))) (hB : w.heap.size ≤ g) (hB0 : B0 ≤ g) (hl : xs.length ≤ cur.length) (hd : dcap ≤ maxLen) (hcd : cur.length = dcap) :
    ∃ u', (Builtin.copy_ #[22, 22] 3 #[.slice (some ⟨g, 0, none⟩) xs.length dcap, .slice a xs.length cap]).run Tryd.prog u = .ok (.int .i64 xs.length) u' ∧
      u'.ownsRow B0 5 1 (.slice (some ⟨g, 0, none⟩) xs.length dcap) xs.length (xs.map B) ∧ Below w.heap.size w u' := by
  by_cases h0 : xs.length = 0
  · have hrun := run_copy_none (P := Tryd.prog) u 22 22 3 5 (some ⟨g, 0, none⟩) a xs.length dcap xs.length cap Tryd.underlying22 size5 (by simp [h0])
    refine ⟨u, ?_, ?_, hu⟩
    · rw [hrun]; simp [goInt, h0]
    · obtain rfl : xs = [] := List.eq_nil_of_length_eq_zero h0
      exact owns_made hg hB0 (Nat.zero_le _) hd hcd (by simp)
  · obtain ⟨ad, rfl, hc⟩ := Bs_cells (h.later hu) (by omega)
    have hrun := run_copy_row (P := Tryd.prog) u 22 22 3 5 g 0 xs.length dcap ad xs.length cap cur.toArray 5 (xs.map B) Tryd.underlying22 size5 hg (by simp) hc (by simpa using hl) (B_one xs)
    have hs := setRow_heap u g _ ((cur.toArray.toList.take 0 ++ xs.map B ++ cur.toArray.toList.drop (0 + (xs.map B).length)).toArray) 5 _ hg
    refine ⟨_, hrun.trans (by simp [goInt]), owns_made hs hB0 (by omega) hd ?_ ?_, below_setRow hu hB _⟩
    · simp; omega
    · simp

/-- A slice that was made empty owns nothing. -/
theorem owns_empty (w : World) : (w.alloc (.cells #[] 5)).ownsRow w.heap.size 5 1 (.slice (some ⟨w.heap.size, 0, none⟩) 0 0) 0 [] :=
  World.ownsRow_made w #[] 0 (Nat.le_refl _) (Nat.zero_le _) rfl

end Go.Proofs.YtlomffhofionnaaDoor.leaf
