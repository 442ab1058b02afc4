/-
  The contract of what tells which chunk any bytes are: of another kind than data.
-/
import Derived.Test.YtlomffhofionnaaDoorRead
namespace Go.Proofs.YtlomffhofionnaaDoor.leaf
set_option linter.unusedVariables false
open Go.RowKit
open mth

theorem Bs_byte {w : World} {b off cap n : Nat} {xs : List UInt8} (h : Bs w (.slice (some ⟨b, off, none⟩) n cap) xs) (i : Nat) (x : UInt8) (hx : xs[i]? = some x) : w.cell? ⟨b, off + i, none⟩ = some (.int .u8 (i8 x)) := by
  obtain ⟨a', cap', hv, hlc, hno, hc⟩ := h
  injection hv with h1 _ h2
  subst h1 h2
  obtain ⟨z, hz, hcc⟩ := hc i (List.getElem?_eq_some_iff.1 hx).1
  simp at hz
  subst hz
  rw [Addr.add_lit] at hcc
  rw [hcc]
  simp [List.getD, hx, i8]

theorem info3 : (Tryd.prog.info? 3).map (fun i => (i.zero, i.size, i.bytes)) = some (some (.int .i64 0), 1, 8) := by kernel_rfl
theorem one_new (w : World) (v : Value) : ∀ (j : Nat) (u : Value), [v][j]? = some u → (w.alloc (.cells #[v] 3)).cell? ((⟨w.heap.size, 0, none⟩ : Addr).add j) = some u := by
  intro j u hj
  rw [Addr.add_lit, Nat.zero_add, World.cell?_alloc_mark]
  simpa using hj
theorem one_one (n : Int) : ∀ u ∈ [Value.int .i64 n], u.oneCell' = true := by
  intro u hu
  simp at hu
  subst hu
  rfl
theorem store_cell {wr w2 : World} {ev : Value} {g : Nat} {o : Obj} {u : Value} (hne : ∀ (q : Nat), ev.ownBlock = some q → g < q) (hg : ((wr.alloc o).drew).grownBy w2 ev.ownBlock) (hz : g < wr.heap.size) (h : wr.cell? ⟨g, 5, none⟩ = some u) : w2.cell? ⟨g, 5, none⟩ = some u := by
  have h1 := hg.cell_far ⟨g, 5, none⟩ (by simp; omega) (fun e => by have := hne g e.symm; omega)
  rw [h1]
  have h2 : (wr.alloc o).drew.cell? ⟨g, 5, none⟩ = wr.cell? ⟨g, 5, none⟩ := World.cell?_of_block (w := wr) (Below.heap_alloc wr o g hz)
  rw [h2, h]
theorem store_free {wr w2 : World} {ev : Value} {g : Nat} {o : Obj} (hne : ∀ (q : Nat), ev.ownBlock = some q → g < q) (hg : ((wr.alloc o).drew).grownBy w2 ev.ownBlock) (hz : g < wr.heap.size) (h : wr.frozen? ⟨g, 5, none⟩ = false) : w2.frozen? ⟨g, 5, none⟩ = false := by
  have h1 := hg.frozen_far ⟨g, 5, none⟩ (by simp; omega) (fun e => by have := hne g e.symm; omega)
  rw [h1]
  have h2 : (wr.alloc o).drew.frozen? ⟨g, 5, none⟩ = wr.frozen? ⟨g, 5, none⟩ := World.frozen?_of_block (w := wr) (Below.heap_alloc wr o g hz)
  rw [h2, h]
theorem many_step {w1 wr w2 : World} {ev v u : Value} {g n j : Nat} {o : Obj} {cs : Array Value} {t e : TypeId} {L : List Value} (hg : g = w1.heap.size) (hne : ∀ (q : Nat), ev.ownBlock = some q → g < q)
    (hgr : wr.heap[g]? = some (.cells cs t (0, 0))) (hgrow : ((wr.alloc o).drew).grownBy w2 ev.ownBlock) (hown : w2.ownsRow (g + 1) e 1 v n L) (hbr : Below w1.heap.size w1 wr) :
    (w2.setCell ⟨g, j, none⟩ u).heap[g]? = some (.cells (cs.setIfInBounds j u) t (0, 0)) ∧ (w2.setCell ⟨g, j, none⟩ u).ownsRow (g + 1) e 1 v n L ∧ Below w1.heap.size w1 (w2.setCell ⟨g, j, none⟩ u) := by
  have hz : g < wr.heap.size := (Array.getElem?_eq_some_iff.1 hgr).1
  have h1 : w2.heap[g]? = some (.cells cs t (0, 0)) := by
    rw [hgrow.block g (by simp; omega) (fun e => by have := hne g e.symm; omega)]
    exact (Below.heap_alloc wr o g hz).trans hgr
  refine ⟨heap_setCell_same w2 g j cs t u h1, ownsRow_setCell_below hown (by simp) u, ?_⟩
  have h2 : Below w1.heap.size w1 ((wr.alloc o).drew) := Below.drew (hbr.alloc hbr.size o)
  exact (h2.grown hgrow h2.size (fun q hq => by have := hne q hq; omega)).setCell (by simp; omega) u
def V64 (x : UInt8) : Value := .int .i64 (i8 x)
theorem drop_snoc (x : List UInt8) (k : Nat) (y : UInt8) (hy : x[k]? = some y) (h2 : 2 ≤ k) : ((x.drop 2).take (k + 1 - 2)).map V64 = ((x.drop 2).take (k - 2)).map V64 ++ [V64 y] := by
  have e : k + 1 - 2 = (k - 2) + 1 := by omega
  rw [e, List.take_add_one, List.getElem?_drop]
  have : 2 + (k - 2) = k := by omega
  rw [this, hy]
  simp

theorem ownsI_later {w w' : World} {base n : Nat} {v : Value} {e : TypeId} {xs : List Value} (h : w.ownsRow base e 1 v n xs) (hb : Below w.heap.size w w') : w'.ownsRow base e 1 v n xs := by
  obtain ⟨h1, h2⟩ := h
  refine ⟨h1, ?_⟩
  rcases h2 with h2 | ⟨g, cap, cur, hv, hg, hh, r⟩
  · exact .inl h2
  · exact .inr ⟨g, cap, cur, hv, hg, (hb.block g (Array.getElem?_eq_some_iff.1 hh).1).trans hh, r⟩
theorem owns_Is {w : World} {base n : Nat} {v : Value} {ys : List UInt8} (h : w.ownsRow base 3 1 v n (ys.map V64)) : Is w v (ys.map i8) := by
  obtain ⟨h1, h2⟩ := h
  simp at h1
  subst h1
  rcases h2 with ⟨rfl, h0⟩ | ⟨g, cap, cur, rfl, _, hh, hn, hm, hs, ht⟩
  · obtain rfl : ys = [] := List.eq_nil_of_length_eq_zero h0
    exact Is_nil w
  · refine ⟨some ⟨g, 0, none⟩, cap, by simp, by simpa using hn, fun h => by simp at h, fun i hi => ⟨_, rfl, ?_⟩, ?_, hm⟩
    · simp at hi
      rw [Addr.add_lit, Nat.zero_add, cell_of_row w g i cur 3 (0, 0) hh]
      have h3 : cur[i]? = (ys.map V64)[i]? := by
        rw [← ht, Nat.mul_one, List.getElem?_take_of_lt hi, Array.getElem?_toList]
      rw [h3]
      simp [hi, V64, List.getD]
    · intro m hm'
      obtain ⟨y, _, rfl⟩ := List.mem_map.1 hm'
      have := y.toNat_lt
      unfold I64 i8
      omega

end Go.Proofs.YtlomffhofionnaaDoor.leaf
