/-
  The contract of what tells which chunk any bytes are: of another kind than data.
-/
import Derived.Test.YtlomffhofionnaaRead
namespace Go.Proofs.Ytlomffhofionnaa.leaf
set_option linter.unusedVariables false
open Go.RowKit
open mth

theorem Bs_byte {w : World} {b off cap n : Nat} {xs : List UInt8} (h : Bs w (.slice (some ⟨b, off, none⟩) n cap) xs) (i : Nat) (x : UInt8) (hx : xs[i]? = some x) : w.cell? ⟨b, off + i, none⟩ = some (.int .u8 (i8 x)) := by
  obtain ⟨a', cap', hv, hlc, hno, hc⟩ := h
  injection hv with h1 _ h2
  subst h1 h2
  obtain ⟨z, hz, hcc⟩ := hc i (List.getElem?_eq_some_iff.1 hx).1
  simp at hz
  subst hz
  rw [Addr.add_lit] at hcc
  rw [hcc]
  simp [List.getD, hx, i8]

theorem info3 : (Try.prog.info? 3).map (fun i => (i.zero, i.size, i.bytes)) = some (some (.int .i64 0), 1, 8) := by kernel_rfl
theorem one_new (w : World) (v : Value) : ∀ (j : Nat) (u : Value), [v][j]? = some u → (w.alloc (.cells #[v] 3)).cell? ((⟨w.heap.size, 0, none⟩ : Addr).add j) = some u := by
  intro j u hj
  rw [Addr.add_lit, Nat.zero_add, World.cell?_alloc_mark]
  simpa using hj
theorem one_one (n : Int) : ∀ u ∈ [Value.int .i64 n], u.oneCell' = true := by
  intro u hu
  simp at hu
  subst hu
  rfl
theorem store_cell {wr w2 : World} {ev : Value} {g : Nat} {o : Obj} {u : Value} (hne : ∀ (q : Nat), ev.ownBlock = some q → g < q) (hg : ((wr.alloc o).drew).grownBy w2 ev.ownBlock) (hz : g < wr.heap.size) (h : wr.cell? ⟨g, 5, none⟩ = some u) : w2.cell? ⟨g, 5, none⟩ = some u := by
  have h1 := hg.cell_far ⟨g, 5, none⟩ (by simp; omega) (fun e => by have := hne g e.symm; omega)
  rw [h1]
  have h2 : (wr.alloc o).drew.cell? ⟨g, 5, none⟩ = wr.cell? ⟨g, 5, none⟩ := World.cell?_of_block (w := wr) (Below.heap_alloc wr o g hz)
  rw [h2, h]
theorem store_free {wr w2 : World} {ev : Value} {g : Nat} {o : Obj} (hne : ∀ (q : Nat), ev.ownBlock = some q → g < q) (hg : ((wr.alloc o).drew).grownBy w2 ev.ownBlock) (hz : g < wr.heap.size) (h : wr.frozen? ⟨g, 5, none⟩ = false) : w2.frozen? ⟨g, 5, none⟩ = false := by
  have h1 := hg.frozen_far ⟨g, 5, none⟩ (by simp; omega) (fun e => by have := hne g e.symm; omega)
  rw [h1]
  have h2 : (wr.alloc o).drew.frozen? ⟨g, 5, none⟩ = wr.frozen? ⟨g, 5, none⟩ := World.frozen?_of_block (w := wr) (Below.heap_alloc wr o g hz)
  rw [h2, h]
theorem many_step {w1 wr w2 : World} {ev v u : Value} {g n j : Nat} {o : Obj} {cs : Array Value} {t e : TypeId} {L : List Value} (hg : g = w1.heap.size) (hne : ∀ (q : Nat), ev.ownBlock = some q → g < q)
    (hgr : wr.heap[g]? = some (.cells cs t (0, 0))) (hgrow : ((wr.alloc o).drew).grownBy w2 ev.ownBlock) (hown : w2.ownsRow (g + 1) e 1 v n L) (hbr : Below w1.heap.size w1 wr) :
    (w2.setCell ⟨g, j, none⟩ u).heap[g]? = some (.cells (cs.setIfInBounds j u) t (0, 0)) ∧ (w2.setCell ⟨g, j, none⟩ u).ownsRow (g + 1) e 1 v n L ∧ Below w1.heap.size w1 (w2.setCell ⟨g, j, none⟩ u) := by
  have hz : g < wr.heap.size := (Array.getElem?_eq_some_iff.1 hgr).1
  have h1 : w2.heap[g]? = some (.cells cs t (0, 0)) := by
    rw [hgrow.block g (by simp; omega) (fun e => by have := hne g e.symm; omega)]
    exact (Below.heap_alloc wr o g hz).trans hgr
  refine ⟨heap_setCell_same w2 g j cs t u h1, ownsRow_setCell_below hown (by simp) u, ?_⟩
  have h2 : Below w1.heap.size w1 ((wr.alloc o).drew) := Below.drew (hbr.alloc hbr.size o)
  exact (h2.grown hgrow h2.size (fun q hq => by have := hne q hq; omega)).setCell (by simp; omega) u
def V64 (x : UInt8) : Value := .int .i64 (i8 x)
theorem drop_snoc (x : List UInt8) (k : Nat) (y : UInt8) (hy : x[k]? = some y) (h2 : 2 ≤ k) : ((x.drop 2).take (k + 1 - 2)).map V64 = ((x.drop 2).take (k - 2)).map V64 ++ [V64 y] := by
  have e : k + 1 - 2 = (k - 2) + 1 := by omega
  rw [e, List.take_add_one, List.getElem?_drop]
  have : 2 + (k - 2) = k := by omega
  rw [this, hy]
  simp

theorem ownsI_later {w w' : World} {base n : Nat} {v : Value} {e : TypeId} {xs : List Value} (h : w.ownsRow base e 1 v n xs) (hb : Below w.heap.size w w') : w'.ownsRow base e 1 v n xs := by
  obtain ⟨h1, h2⟩ := h
  refine ⟨h1, ?_⟩
  rcases h2 with h2 | ⟨g, cap, cur, hv, hg, hh, r⟩
  · exact .inl h2
  · exact .inr ⟨g, cap, cur, hv, hg, (hb.block g (Array.getElem?_eq_some_iff.1 hh).1).trans hh, r⟩
theorem owns_Is {w : World} {base n : Nat} {v : Value} {ys : List UInt8} (h : w.ownsRow base 3 1 v n (ys.map V64)) : Is w v (ys.map i8) := by
  obtain ⟨h1, h2⟩ := h
  simp at h1
  subst h1
  rcases h2 with ⟨rfl, h0⟩ | ⟨g, cap, cur, rfl, _, hh, hn, hm, hs, ht⟩
  · obtain rfl : ys = [] := List.eq_nil_of_length_eq_zero h0
    exact Is_nil w
  · refine ⟨some ⟨g, 0, none⟩, cap, by simp, by simpa using hn, fun h => by simp at h, fun i hi => ⟨_, rfl, ?_⟩, ?_, hm⟩
    · simp at hi
      rw [Addr.add_lit, Nat.zero_add, cell_of_row w g i cur 3 (0, 0) hh]
      have h3 : cur[i]? = (ys.map V64)[i]? := by
        rw [← ht, Nat.mul_one, List.getElem?_take_of_lt hi, Array.getElem?_toList]
      rw [h3]
      simp [hi, V64, List.getD]
    · intro m hm'
      obtain ⟨y, _, rfl⟩ := List.mem_map.1 hm'
      have := y.toNat_lt
      unfold I64 i8
      omega

set_option maxHeartbeats 8000000 in
theorem refRead_many (a : Option Addr) (cap : Nat) (xs : List UInt8) (w : World) (h : Bs w (.slice a xs.length cap) xs) (hr : xs.length ≤ 140737488355328) (hk : okL xs = true) (x0 x1 : UInt8) (hx0 : (openL xs)[0]? = some x0) (hx1 : (openL xs)[1]? = some x1) (h01 : i8 x0 ≠ 1) (hlen : (openL xs).length ≤ 1048600)
    (c : Ch) (hc : c = ⟨i8 x0, i8 x1, 0, 0, [], ((openL xs).drop 2).map i8⟩) :
    Calls Try.prog 23 #[.slice a xs.length cap] w fun e w' => ∃ v', e = .returned (.tuple #[v', .int .i64 (wrongL c)]) ∧ Cv w' v' (if wrongL c = 0 then c else zeroC) ∧ Below w.heap.size w w' := by
  have hb0 : Below w.heap.size w (w.alloc (.cells #[.int .i64 0, .int .i64 0, .int .i64 0, .int .i64 0, .slice none 0 0, .slice none 0 0] 32)) := (Below.refl _ _).alloc (Nat.le_refl _) _
  have HO := hide (refOpen_any a cap xs _ (h.later hb0) hr)
  rw [hk] at HO
  have HB0 := hide hb0
  clear h hb0
  obtain ⟨x, hx⟩ : ∃ x, x = openL xs := ⟨_, rfl⟩
  rw [← hx] at HO hx0 hx1 hlen hc
  have HC := hide hc
  have HX0 := hide hx0
  have HX1 := hide hx1
  have hl2 : (2 : Int) ≤ (x.length : Int) := by have := (List.getElem?_eq_some_iff.1 hx1).1; omega
  have h01' : (i8 x0 == 1) = false := by simpa using h01
  have hn1 : (i8 x0 != 1) = true := by simpa using h01
  have hi0 : 0 ≤ i8 x0 ∧ i8 x0 ≤ 255 := by have := x0.toNat_lt; unfold i8; omega
  have hi1 : 0 ≤ i8 x1 ∧ i8 x1 ≤ 255 := by have := x1.toNat_lt; unfold i8; omega
  clear hx hc hx0 hx1 h01
  go_enter Try.func23, Try.ntmps23
  go_wp2_with fail
  refine HO.out.mono ?_
  rintro e w1 ⟨v1, rfl, hB1, hb1⟩
  clear HO
  obtain ⟨hc1, hf1⟩ := bcell hb1
  have hz1 : w.heap.size < w1.heap.size := by have := hb1.size; simp at this; omega
  have hbb : Below w.heap.size w w1 := HB0.out.trans (hb1.mono (by simp))
  have HBB := hide hbb
  clear hb1 hbb HB0
  obtain ⟨b1, o1, c1, rfl⟩ : ∃ b1 o1 c1, v1 = .slice (some ⟨b1, o1, none⟩) x.length c1 := by
    obtain ⟨a1, c1, rfl, hlc, hno, hc⟩ := hB1
    obtain ⟨z, rfl, hz⟩ := hc 0 (by omega)
    obtain ⟨b1, o1, spot⟩ := z
    have hspot : spot = none := by simpa [Addr.add] using World.cell?_spot hz
    subst hspot
    exact ⟨b1, o1, c1, rfl⟩
  have hcell0 : w1.cell? ⟨b1, o1, none⟩ = some (.int .u8 (i8 x0)) := by simpa using Bs_byte hB1 0 x0 HX0.out
  have hcell1 : w1.cell? ⟨b1, o1 + 1, none⟩ = some (.int .u8 (i8 x1)) := Bs_byte hB1 1 x1 HX1.out
  have hlt1 : b1 < w1.heap.size := World.block_lt_of_cell? w1 _ hcell0
  have hl1 : (1 : Int) < (x.length : Int) := by omega
  have HB1 := hide hB1
  clear hB1
  go_wp2_with fail
  go_region
  obtain ⟨g, hg⟩ : ∃ g, g = w1.heap.size := ⟨_, rfl⟩
  obtain ⟨W, hW⟩ : ∃ W, W = (w1.alloc (.cells #[.int .i64 (i8 x0), .int .i64 (i8 x1), .int .i64 0, .int .i64 0, .slice none 0 0, .slice none 0 0] 32)).drew := ⟨_, rfl⟩
  have hWg : W.heap[g]? = some (.cells #[.int .i64 (i8 x0), .int .i64 (i8 x1), .int .i64 0, .int .i64 0, .slice none 0 0, .slice none 0 0] 32 (0, 0)) := by
    rw [hW, hg]; exact heap_alloc_new w1 _
  have hWb : Below w1.heap.size w1 W := by rw [hW]; exact Below.drew ((Below.refl _ _).alloc (Nat.le_refl _) _)
  have hWz : g < W.heap.size := by rw [hW, hg]; simp
  rw [← hW, ← hg]
  obtain ⟨i0, hi, hz0, hz1', hz2⟩ := info_parts info3
  clear hW hcell0 hcell1
  have HC1 := hide hc1
  have HF1 := hide hf1
  have HWG := hide hWg
  have HG := hide hg
  clear hc1 hf1 hWg hg
  go_wp2_with fail
  go_loopw [8] (fun i wr => ∃ (k : Nat) (ev : Value), 2 ≤ k ∧ k ≤ x.length ∧ i = .int .i64 k ∧ wr.heap[g]? = some (.cells #[.int .i64 (i8 x0), .int .i64 (i8 x1), .int .i64 0, .int .i64 0, .slice none 0 0, ev] 32 (0, 0)) ∧
      wr.ownsRow (g + 1) 3 1 ev (k - 2) (((x.drop 2).take (k - 2)).map V64) ∧ Below w1.heap.size w1 wr) (fun i _ => x.length - (intOf i).toNat)
  case atStart => exact ⟨2, .slice none 0 0, Nat.le_refl _, by omega, rfl, HWG.out, World.ownsRow_nil _ _ _ _, hWb⟩
  case round =>
    obtain ⟨k, ev, hk2, hkl, rfl, hgr, hown, hbr⟩ := hrel
    have hg0 : wr.cell? ⟨g, 0, none⟩ = some (.int .i64 (i8 x0)) := by rw [cell_of_row wr g 0 _ 32 (0, 0) hgr]; rfl
    have hg5 : wr.cell? ⟨g, 5, none⟩ = some ev := by rw [cell_of_row wr g 5 _ 32 (0, 0) hgr]; rfl
    have hgz : g < wr.heap.size := (Array.getElem?_eq_some_iff.1 hgr).1
    by_cases hlt : k < x.length
    · obtain ⟨y, hy⟩ := some_at hlt
      have hcy := Bs_byte (HB1.out.later hbr) k y hy
      have hiy : 0 ≤ i8 y ∧ i8 y ≤ 255 := by have := y.toNat_lt; unfold i8; omega
      have hwr : IntKind.i64.wrap (i8 y) = i8 y := by rw [IntKind.wrap_i64]; omega
      have hne : ∀ (q : Nat), ev.ownBlock = some q → g < q := fun q hq => (hown.lt q hq).1
      have hfg : wr.frozen? ⟨g, 5, none⟩ = false := by simp [World.frozen?, hgr]
      have hlt' : (k : Int) < (x.length : Int) := by omega
      have hb1r : b1 < wr.heap.size := by have := hbr.size; omega
      have HNE := hide hne
      have HFG := hide hfg
      clear hne hfg
      have HY := hide hy
      have HO := hide hown
      have HGR := hide hgr
      have HBR := hide hbr
      clear hy hown hgr hbr hWb hWz
      go_wp2_with fail
      go_region_law ((refine step_append_lies _ (by rfl) (.tmp 68) (.tmp 74) 30 (by rfl) (g + 1) 3 i0 (.int .i64 0) 1 8 Try.underlying30 hi hz0 hz1' hz2 rfl (by omega) ev (k - 2) (((x.drop 2).take (k - 2)).map V64) (by rfl) (by exact World.ownsRow.drew (HO.out.alloc _)) ⟨wr.heap.size, 0, none⟩ 1 1 [V64 y] (by rfl) rfl (by exact one_new wr (V64 y)) (one_one _) (by omega) (by unfold maxLen; omega) (by omega) (by simp; omega) (wr.heap.size + 1) (by simp) ?_; intro g' cap' w2 hown2 hgrow2 hat2 hlt2; have hs5 : w2.cell? ⟨g, 5, none⟩ = some ev := store_cell HNE.out hgrow2 hgz hg5; have hf5 : w2.frozen? ⟨g, 5, none⟩ = false := store_free HNE.out hgrow2 hgz HFG.out; have HO2 := hide hown2; have HG2 := hide hgrow2; clear hown2 hgrow2))
      all_goals
        go_wp2
        go_roundw
        case rel =>
          obtain ⟨r1, r2, r3⟩ := many_step (j := 5) (u := .slice (some ⟨g', 0, none⟩) (k - 2 + 1) cap') HG.out HNE.out HGR.out HG2.out HO2.out HBR.out
          refine ⟨k + 1, _, by omega, by omega, by go_num, r1, ?_, r3⟩
          rw [drop_snoc x k y HY.out hk2, show k + 1 - 2 = k - 2 + 1 by omega]
          exact r2
        case measure => simp [intOf]; omega
    · have hX : ((x.drop 2).take (k - 2)) = x.drop 2 := List.take_of_length_le (by simp; omega)
      rw [hX] at hown
      obtain ⟨ae, ne, ce, rfl⟩ : ∃ ae ne ce, ev = .slice ae ne ce := by
        obtain ⟨a', c', h, _⟩ := (owns_Is hown).shape
        exact ⟨_, _, _, h⟩
      have hg1 : wr.cell? ⟨g, 1, none⟩ = some (.int .i64 (i8 x1)) := by rw [cell_of_row wr g 1 _ 32 (0, 0) hgr]; rfl
      have hg2 : wr.cell? ⟨g, 2, none⟩ = some (.int .i64 0) := by rw [cell_of_row wr g 2 _ 32 (0, 0) hgr]; rfl
      have hg3 : wr.cell? ⟨g, 3, none⟩ = some (.int .i64 0) := by rw [cell_of_row wr g 3 _ 32 (0, 0) hgr]; rfl
      have hg4 : wr.cell? ⟨g, 4, none⟩ = some (.slice none 0 0) := by rw [cell_of_row wr g 4 _ 32 (0, 0) hgr]; rfl
      have hCv : Cv wr (.agg #[.int .i64 (i8 x0), .int .i64 (i8 x1), .int .i64 0, .int .i64 0, .slice none 0 0, .slice ae ne ce]) c := by
        rw [HC.out]
        exact ⟨_, _, rfl, Bs_nil wr, owns_Is hown, by simp, by simp only [I64]; omega, by simp only [I64]; omega, by simp [I64], by simp [I64]⟩
      have HCV := hide hCv
      have HO := hide hown
      have HBR := hide hbr
      obtain ⟨hcr, hfr⟩ := bcell hbr
      have HCR := hide hcr
      have HFR := hide hfr
      clear hCv hown hbr hgr hX hWb hcr hfr
      go_wp2_with fail
      refine (refWrong_any _ c wr HCV.out).mono ?_
      rintro e w5 ⟨rfl, hb5⟩
      obtain ⟨hc5, hf5⟩ := bcell hb5
      have hrz : w.heap.size < wr.heap.size := by have := HBR.out.size; omega
      have hR : ∀ o, w5.cell? ⟨w.heap.size, o, none⟩ = (w.alloc (.cells #[.int .i64 0, .int .i64 0, .int .i64 0, .int .i64 0, .slice none 0 0, .slice none 0 0] 32)).cell? ⟨w.heap.size, o, none⟩ := fun o => by
        rw [hc5 _ _ hrz, HCR.out _ _ hz1, HC1.out _ _ (by simp)]
      have hF : ∀ o, w5.frozen? ⟨w.heap.size, o, none⟩ = (w.alloc (.cells #[.int .i64 0, .int .i64 0, .int .i64 0, .int .i64 0, .slice none 0 0, .slice none 0 0] 32)).frozen? ⟨w.heap.size, o, none⟩ := fun o => by
        rw [hf5 _ _ hrz, HFR.out _ _ hz1, HF1.out _ _ (by simp)]
      have hG : ∀ o, w5.cell? ⟨g, o, none⟩ = wr.cell? ⟨g, o, none⟩ := fun o => hc5 _ _ hgz
      have hb05 : Below w.heap.size w w5 := (HBB.out.trans (HBR.out.mono (by omega))).trans (hb5.mono (by omega))
      have HB5 := hide hb05
      have HO5 := hide (ownsI_later HO.out hb5)
      have hz5 : w.heap.size < w5.heap.size := by have := hb5.size; omega
      clear hb5 hc5 hf5 hb05
      by_cases he : wrongL c = 0
      · rw [he]
        go_wp2_with fail
        refine bodyPost_ret (v := .tuple #[.agg #[.int .i64 (i8 x0), .int .i64 (i8 x1), .int .i64 0, .int .i64 0, .slice none 0 0, .slice ae ne ce], .int .i64 0]) (by simp [results, Try.results23, go_sem, hR]) rfl ⟨_, rfl, ?_, ?_⟩
        · rw [HC.out]
          have hgw : w.heap.size < g + 1 := by have := HG.out; omega
          have hO := ownsRow_setCell_below (ownsRow_setCell_below (ownsRow_setCell_below (ownsRow_setCell_below (ownsRow_setCell_below (ownsRow_setCell_below HO5.out (a := ⟨w.heap.size, 0, none⟩) hgw (.int .i64 (i8 x0))) (a := ⟨w.heap.size, 1, none⟩) hgw (.int .i64 (i8 x1))) (a := ⟨w.heap.size, 2, none⟩) hgw (.int .i64 0)) (a := ⟨w.heap.size, 3, none⟩) hgw (.int .i64 0)) (a := ⟨w.heap.size, 4, none⟩) hgw (.slice none 0 0)) (a := ⟨w.heap.size, 5, none⟩) hgw (.slice ae ne ce)
          exact ⟨_, _, rfl, Bs_nil _, owns_Is hO, by simp, by simp only [I64]; omega, by simp only [I64]; omega, by simp [I64], by simp [I64]⟩
        · exact (((((HB5.out.setCell (Nat.le_refl _) _).setCell (Nat.le_refl _) _).setCell (Nat.le_refl _) _).setCell (Nat.le_refl _) _).setCell (Nat.le_refl _) _).setCell (Nat.le_refl _) _
      · have he' : (wrongL c != 0) = true := by simpa using he
        have HE := hide he
        clear he
        go_wp2_with fail
        refine (no_any (wrongL c) w5).mono ?_
        rintro e w6 ⟨rfl, hb6⟩
        obtain ⟨hc6, hf6⟩ := bcell hb6
        go_wp2_with fail
        have hb : Below w.heap.size w w6 := HB5.out.trans (hb6.mono (by omega))
        refine bodyPost_ret (v := .tuple #[.agg #[.int .i64 0, .int .i64 0, .int .i64 0, .int .i64 0, .slice none 0 0, .slice none 0 0], .int .i64 (wrongL c)]) (by simp [results, Try.results23, go_sem, hR, hc6, hz5]) rfl ⟨_, rfl, Cv_zero _, ?_⟩
        exact (((((hb.setCell (Nat.le_refl _) _).setCell (Nat.le_refl _) _).setCell (Nat.le_refl _) _).setCell (Nat.le_refl _) _).setCell (Nat.le_refl _) _).setCell (Nat.le_refl _) _
end Go.Proofs.Ytlomffhofionnaa.leaf
