/-
  What the two functions that read a chunk hand back lies in blocks of its own (written by wip/abs/genreadf.py).
-/
import Derived.Test.YtngfedhffehkaacM29
namespace Go.Proofs.Ytngfedhffehkaac.leaf
set_option maxRecDepth 10000
set_option linter.unusedSimpArgs false
set_option linter.unusedVariables false
open Go.RowKit
open mth

theorem Fresh_zero (n : Nat) : Fresh n (.agg #[.int .i64 0, .int .i64 0, .int .i64 0, .int .i64 0, .slice none 0 0, .slice none 0 0]) := ⟨_, _, _, _, _, _, _, _, _, _, rfl, fresh_none _, fresh_none _⟩
theorem Fresh.mono {n m : Nat} {v : Value} (h : Fresh n v) (hm : m ≤ n) : Fresh m v := by
  obtain ⟨k0, k1, k2, k3, a1, n1, c1, a2, n2, c2, rfl, h1, h2⟩ := h
  exact ⟨_, _, _, _, _, _, _, _, _, _, rfl, ⟨fun p hp => ⟨Nat.le_trans hm (h1.1 p hp).1, (h1.1 p hp).2⟩, h1.2⟩, fun p hp => ⟨Nat.le_trans hm (h2.1 p hp).1, (h2.1 p hp).2⟩, h2.2⟩
set_option maxHeartbeats 4000000 in
theorem refRead_spoiltF (a : Option Addr) (cap : Nat) (xs : List UInt8) (w : World) (h : Bs w (.slice a xs.length cap) xs) (hr : xs.length ≤ 140737488355328) (hk : okL xs = false) :
    Calls Try.prog 56 #[.slice a xs.length cap] w fun e w' => ∃ v', e = .returned (.tuple #[v', .int .i64 7]) ∧ (Cv w' v' zeroC ∧ Fresh w.heap.size v') ∧ Below w.heap.size w w' := by
  have hb0 : Below w.heap.size w (w.alloc (.cells #[.int .i64 0, .int .i64 0, .int .i64 0, .int .i64 0, .slice none 0 0, .slice none 0 0] 86)) := (Below.refl _ _).alloc (Nat.le_refl _) _
  have HO := hide (refOpen_any a cap xs _ (h.later hb0) hr)
  rw [hk] at HO
  have HB0 := hide hb0
  clear h hb0
  go_enter Try.func56, Try.ntmps56
  go_wp2_with fail
  refine HO.out.mono ?_
  rintro e w1 ⟨v1, rfl, -, hb1⟩
  clear HO
  obtain ⟨hc1, hf1⟩ := bcell hb1
  have hz1 : w.heap.size < w1.heap.size := by have := hb1.size; simp at this; omega
  go_wp2_with fail
  refine (no_any 7 w1).mono ?_
  rintro e w2 ⟨rfl, hb2⟩
  obtain ⟨hc2, hf2⟩ := bcell hb2
  go_wp2_with fail
  have hb : Below w.heap.size w w2 := (HB0.out.trans (hb1.mono (by simp))).trans (hb2.mono (by omega))
  refine bodyPost_ret (v := .tuple #[.agg #[.int .i64 0, .int .i64 0, .int .i64 0, .int .i64 0, .slice none 0 0, .slice none 0 0], .int .i64 7]) (by simp [results, Try.results56, go_sem, hc1, hc2, hz1]) rfl ⟨_, rfl, ⟨Cv_zero _, Fresh_zero _⟩, ?_⟩
  exact (((((hb.setCell (Nat.le_refl _) _).setCell (Nat.le_refl _) _).setCell (Nat.le_refl _) _).setCell (Nat.le_refl _) _).setCell (Nat.le_refl _) _).setCell (Nat.le_refl _) _

set_option maxHeartbeats 4000000 in
theorem refRead_shortF (a : Option Addr) (cap : Nat) (xs : List UInt8) (w : World) (h : Bs w (.slice a xs.length cap) xs) (hr : xs.length ≤ 140737488355328) (hk : okL xs = true) (hsh : shortL (openL xs) = true) :
    Calls Try.prog 56 #[.slice a xs.length cap] w fun e w' => ∃ v', e = .returned (.tuple #[v', .int .i64 8]) ∧ (Cv w' v' zeroC ∧ Fresh w.heap.size v') ∧ Below w.heap.size w w' := by
  have hb0 : Below w.heap.size w (w.alloc (.cells #[.int .i64 0, .int .i64 0, .int .i64 0, .int .i64 0, .slice none 0 0, .slice none 0 0] 86)) := (Below.refl _ _).alloc (Nat.le_refl _) _
  have HO := hide (refOpen_any a cap xs _ (h.later hb0) hr)
  rw [hk] at HO
  have HB0 := hide hb0
  have HS := hide hsh
  clear h hb0 hsh
  go_enter Try.func56, Try.ntmps56
  go_wp2_with fail
  refine HO.out.mono ?_
  rintro e w1 ⟨v1, rfl, hB1, hb1⟩
  clear HO
  obtain ⟨x, hx⟩ : ∃ x, x = openL xs := ⟨_, rfl⟩
  rw [← hx] at hB1 HS
  clear hx
  obtain ⟨hc1, hf1⟩ := bcell hb1
  have hz1 : w.heap.size < w1.heap.size := by have := hb1.size; simp at this; omega
  have hbb : Below w.heap.size w w1 := HB0.out.trans (hb1.mono (by simp))
  have HBB := hide hbb
  clear hb1 hbb HB0
  by_cases hl : x.length < 2
  · obtain ⟨a1, c1, rfl, -⟩ := hB1
    have hl' : (x.length : Int) < 2 := by omega
    go_wp2_with fail
    refine (no_any 8 w1).mono ?_
    rintro e w2 ⟨rfl, hb2⟩
    obtain ⟨hc2, hf2⟩ := bcell hb2
    go_wp2_with fail
    have hb : Below w.heap.size w w2 := HBB.out.trans (hb2.mono (by omega))
    refine bodyPost_ret (v := .tuple #[.agg #[.int .i64 0, .int .i64 0, .int .i64 0, .int .i64 0, .slice none 0 0, .slice none 0 0], .int .i64 8]) (by simp [results, Try.results56, go_sem, hc1, hc2, hz1]) rfl ⟨_, rfl, ⟨Cv_zero _, Fresh_zero _⟩, ?_⟩
    exact (((((hb.setCell (Nat.le_refl _) _).setCell (Nat.le_refl _) _).setCell (Nat.le_refl _) _).setCell (Nat.le_refl _) _).setCell (Nat.le_refl _) _).setCell (Nat.le_refl _) _
  · have hs := HS.out
    simp only [shortL, Bool.or_eq_true, decide_eq_true_eq, Bool.and_eq_true] at hs
    have h1 : i8 (x.getD 0 0) = 1 ∧ x.length < 4 := by omega
    obtain ⟨a1, c1, rfl, hlc, hno, hc⟩ := hB1
    obtain ⟨z, rfl, hz⟩ := hc 0 (by omega)
    obtain ⟨b1, o1, spot⟩ := z
    have hspot : spot = none := by simpa [Addr.add] using World.cell?_spot hz
    subst hspot
    have hcell : w1.cell? ⟨b1, o1, none⟩ = some (.int .u8 1) := by
      have : w1.cell? ⟨b1, o1, none⟩ = some (.int .u8 (i8 (x.getD 0 0))) := by simpa [Addr.add, i8] using hz
      rw [this, h1.1]
    have hl2 : (2 : Int) ≤ (x.length : Int) := by omega
    have hl4 : (x.length : Int) < 4 := by omega
    clear hz hc hs h1 hl
    go_wp2_with fail
    refine (no_any 8 w1).mono ?_
    rintro e w2 ⟨rfl, hb2⟩
    obtain ⟨hc2, hf2⟩ := bcell hb2
    go_wp2_with fail
    have hb : Below w.heap.size w w2 := HBB.out.trans (hb2.mono (by omega))
    refine bodyPost_ret (v := .tuple #[.agg #[.int .i64 0, .int .i64 0, .int .i64 0, .int .i64 0, .slice none 0 0, .slice none 0 0], .int .i64 8]) (by simp [results, Try.results56, go_sem, hc1, hc2, hz1]) rfl ⟨_, rfl, ⟨Cv_zero _, Fresh_zero _⟩, ?_⟩
    exact (((((hb.setCell (Nat.le_refl _) _).setCell (Nat.le_refl _) _).setCell (Nat.le_refl _) _).setCell (Nat.le_refl _) _).setCell (Nat.le_refl _) _).setCell (Nat.le_refl _) _

set_option maxHeartbeats 8000000 in
theorem refRead_manyF (a : Option Addr) (cap : Nat) (xs : List UInt8) (w : World) (h : Bs w (.slice a xs.length cap) xs) (hr : xs.length ≤ 140737488355328) (hk : okL xs = true) (x0 x1 : UInt8) (hx0 : (openL xs)[0]? = some x0) (hx1 : (openL xs)[1]? = some x1) (h01 : i8 x0 ≠ 1) (hlen : (openL xs).length ≤ 1048600)
    (c : Ch) (hc : c = ⟨i8 x0, i8 x1, 0, 0, [], ((openL xs).drop 2).map i8⟩) :
    Calls Try.prog 56 #[.slice a xs.length cap] w fun e w' => ∃ v', e = .returned (.tuple #[v', .int .i64 (wrongL c)]) ∧ (Cv w' v' (if wrongL c = 0 then c else zeroC) ∧ Fresh w.heap.size v') ∧ Below w.heap.size w w' := by
  have hb0 : Below w.heap.size w (w.alloc (.cells #[.int .i64 0, .int .i64 0, .int .i64 0, .int .i64 0, .slice none 0 0, .slice none 0 0] 86)) := (Below.refl _ _).alloc (Nat.le_refl _) _
  have HO := hide (refOpen_any a cap xs _ (h.later hb0) hr)
  rw [hk] at HO
  have HB0 := hide hb0
  clear h hb0
  obtain ⟨x, hx⟩ : ∃ x, x = openL xs := ⟨_, rfl⟩
  rw [← hx] at HO hx0 hx1 hlen hc
  have HC := hide hc
  have HX0 := hide hx0
  have HX1 := hide hx1
  have hl2 : (2 : Int) ≤ (x.length : Int) := by have := (List.getElem?_eq_some_iff.1 hx1).1; omega
  have h01' : (i8 x0 == 1) = false := by simpa using h01
  have hn1 : (i8 x0 != 1) = true := by simpa using h01
  have hi0 : 0 ≤ i8 x0 ∧ i8 x0 ≤ 255 := by have := x0.toNat_lt; unfold i8; omega
  have hi1 : 0 ≤ i8 x1 ∧ i8 x1 ≤ 255 := by have := x1.toNat_lt; unfold i8; omega
  clear hx hc hx0 hx1 h01
  go_enter Try.func56, Try.ntmps56
  go_wp2_with fail
  refine HO.out.mono ?_
  rintro e w1 ⟨v1, rfl, hB1, hb1⟩
  clear HO
  obtain ⟨hc1, hf1⟩ := bcell hb1
  have hz1 : w.heap.size < w1.heap.size := by have := hb1.size; simp at this; omega
  have hbb : Below w.heap.size w w1 := HB0.out.trans (hb1.mono (by simp))
  have HBB := hide hbb
  clear hb1 hbb HB0
  obtain ⟨b1, o1, c1, rfl⟩ : ∃ b1 o1 c1, v1 = .slice (some ⟨b1, o1, none⟩) x.length c1 := by
    obtain ⟨a1, c1, rfl, hlc, hno, hc⟩ := hB1
    obtain ⟨z, rfl, hz⟩ := hc 0 (by omega)
    obtain ⟨b1, o1, spot⟩ := z
    have hspot : spot = none := by simpa [Addr.add] using World.cell?_spot hz
    subst hspot
    exact ⟨b1, o1, c1, rfl⟩
  have hcell0 : w1.cell? ⟨b1, o1, none⟩ = some (.int .u8 (i8 x0)) := by simpa using Bs_byte hB1 0 x0 HX0.out
  have hcell1 : w1.cell? ⟨b1, o1 + 1, none⟩ = some (.int .u8 (i8 x1)) := Bs_byte hB1 1 x1 HX1.out
  have hlt1 : b1 < w1.heap.size := World.block_lt_of_cell? w1 _ hcell0
  have hl1 : (1 : Int) < (x.length : Int) := by omega
  have HB1 := hide hB1
  clear hB1
  go_wp2_with fail
  go_region
  obtain ⟨g, hg⟩ : ∃ g, g = w1.heap.size := ⟨_, rfl⟩
  obtain ⟨W, hW⟩ : ∃ W, W = (w1.alloc (.cells #[.int .i64 (i8 x0), .int .i64 (i8 x1), .int .i64 0, .int .i64 0, .slice none 0 0, .slice none 0 0] 86)).drew := ⟨_, rfl⟩
  have hWg : W.heap[g]? = some (.cells #[.int .i64 (i8 x0), .int .i64 (i8 x1), .int .i64 0, .int .i64 0, .slice none 0 0, .slice none 0 0] 86 (0, 0)) := by
    rw [hW, hg]; exact heap_alloc_new w1 _
  have hWb : Below w1.heap.size w1 W := by rw [hW]; exact Below.drew ((Below.refl _ _).alloc (Nat.le_refl _) _)
  have hWz : g < W.heap.size := by rw [hW, hg]; simp
  rw [← hW, ← hg]
  obtain ⟨i0, hi, hz0, hz1', hz2⟩ := info_parts info3
  clear hW hcell0 hcell1
  have HC1 := hide hc1
  have HF1 := hide hf1
  have HWG := hide hWg
  have HG := hide hg
  clear hc1 hf1 hWg hg
  go_wp2_with fail
  go_loopw [8] (fun i wr => ∃ (k : Nat) (ev : Value), 2 ≤ k ∧ k ≤ x.length ∧ i = .int .i64 k ∧ wr.heap[g]? = some (.cells #[.int .i64 (i8 x0), .int .i64 (i8 x1), .int .i64 0, .int .i64 0, .slice none 0 0, ev] 86 (0, 0)) ∧
      wr.ownsRow (g + 1) 3 1 ev (k - 2) (((x.drop 2).take (k - 2)).map V64) ∧ Below w1.heap.size w1 wr) (fun i _ => x.length - (intOf i).toNat)
  case atStart => exact ⟨2, .slice none 0 0, Nat.le_refl _, by omega, rfl, HWG.out, World.ownsRow_nil _ _ _ _, hWb⟩
  case round =>
    obtain ⟨k, ev, hk2, hkl, rfl, hgr, hown, hbr⟩ := hrel
    have hg0 : wr.cell? ⟨g, 0, none⟩ = some (.int .i64 (i8 x0)) := by rw [cell_of_row wr g 0 _ 86 (0, 0) hgr]; rfl
    have hg5 : wr.cell? ⟨g, 5, none⟩ = some ev := by rw [cell_of_row wr g 5 _ 86 (0, 0) hgr]; rfl
    have hgz : g < wr.heap.size := (Array.getElem?_eq_some_iff.1 hgr).1
    by_cases hlt : k < x.length
    · obtain ⟨y, hy⟩ := some_at hlt
      have hcy := Bs_byte (HB1.out.later hbr) k y hy
      have hiy : 0 ≤ i8 y ∧ i8 y ≤ 255 := by have := y.toNat_lt; unfold i8; omega
      have hwr : IntKind.i64.wrap (i8 y) = i8 y := by rw [IntKind.wrap_i64]; omega
      have hne : ∀ (q : Nat), ev.ownBlock = some q → g < q := fun q hq => (hown.lt q hq).1
      have hfg : wr.frozen? ⟨g, 5, none⟩ = false := by simp [World.frozen?, hgr]
      have hlt' : (k : Int) < (x.length : Int) := by omega
      have hb1r : b1 < wr.heap.size := by have := hbr.size; omega
      have HNE := hide hne
      have HFG := hide hfg
      clear hne hfg
      have HY := hide hy
      have HO := hide hown
      have HGR := hide hgr
      have HBR := hide hbr
      clear hy hown hgr hbr hWb hWz
      go_wp2_with fail
      go_region_law ((refine step_append_lies _ (by rfl) (.tmp 68) (.tmp 74) 46 (by rfl) (g + 1) 3 i0 (.int .i64 0) 1 8 Try.underlying46 hi hz0 hz1' hz2 rfl (by omega) ev (k - 2) (((x.drop 2).take (k - 2)).map V64) (by rfl) (by exact World.ownsRow.drew (HO.out.alloc _)) ⟨wr.heap.size, 0, none⟩ 1 1 [V64 y] (by rfl) rfl (by exact one_new wr (V64 y)) (one_one _) (by omega) (by unfold maxLen; omega) (by omega) (by simp; omega) (wr.heap.size + 1) (by simp) ?_; intro g' cap' w2 hown2 hgrow2 hat2 hlt2; have hs5 : w2.cell? ⟨g, 5, none⟩ = some ev := store_cell HNE.out hgrow2 hgz hg5; have hf5 : w2.frozen? ⟨g, 5, none⟩ = false := store_free HNE.out hgrow2 hgz HFG.out; have HO2 := hide hown2; have HG2 := hide hgrow2; clear hown2 hgrow2))
      all_goals
        go_wp2
        go_roundw
        case rel =>
          obtain ⟨r1, r2, r3⟩ := many_step (j := 5) (u := .slice (some ⟨g', 0, none⟩) (k - 2 + 1) cap') HG.out HNE.out HGR.out HG2.out HO2.out HBR.out
          refine ⟨k + 1, _, by omega, by omega, by go_num, r1, ?_, r3⟩
          rw [drop_snoc x k y HY.out hk2, show k + 1 - 2 = k - 2 + 1 by omega]
          exact r2
        case measure => simp [intOf]; omega
    · have hX : ((x.drop 2).take (k - 2)) = x.drop 2 := List.take_of_length_le (by simp; omega)
      rw [hX] at hown
      obtain ⟨ae, ne, ce, rfl⟩ : ∃ ae ne ce, ev = .slice ae ne ce := by
        obtain ⟨a', c', h, _⟩ := (owns_Is hown).shape
        exact ⟨_, _, _, h⟩
      have hg1 : wr.cell? ⟨g, 1, none⟩ = some (.int .i64 (i8 x1)) := by rw [cell_of_row wr g 1 _ 86 (0, 0) hgr]; rfl
      have hg2 : wr.cell? ⟨g, 2, none⟩ = some (.int .i64 0) := by rw [cell_of_row wr g 2 _ 86 (0, 0) hgr]; rfl
      have hg3 : wr.cell? ⟨g, 3, none⟩ = some (.int .i64 0) := by rw [cell_of_row wr g 3 _ 86 (0, 0) hgr]; rfl
      have hg4 : wr.cell? ⟨g, 4, none⟩ = some (.slice none 0 0) := by rw [cell_of_row wr g 4 _ 86 (0, 0) hgr]; rfl
      have hCv : Cv wr (.agg #[.int .i64 (i8 x0), .int .i64 (i8 x1), .int .i64 0, .int .i64 0, .slice none 0 0, .slice ae ne ce]) c := by
        rw [HC.out]
        exact ⟨_, _, rfl, Bs_nil wr, owns_Is hown, by simp, by simp only [I64]; omega, by simp only [I64]; omega, by simp [I64], by simp [I64]⟩
      have HCV := hide hCv
      have HO := hide hown
      have HBR := hide hbr
      obtain ⟨hcr, hfr⟩ := bcell hbr
      have HCR := hide hcr
      have HFR := hide hfr
      clear hCv hown hbr hgr hX hWb hcr hfr
      go_wp2_with fail
      refine (refWrong_any _ c wr HCV.out).mono ?_
      rintro e w5 ⟨rfl, hb5⟩
      obtain ⟨hc5, hf5⟩ := bcell hb5
      have hrz : w.heap.size < wr.heap.size := by have := HBR.out.size; omega
      have hR : ∀ o, w5.cell? ⟨w.heap.size, o, none⟩ = (w.alloc (.cells #[.int .i64 0, .int .i64 0, .int .i64 0, .int .i64 0, .slice none 0 0, .slice none 0 0] 86)).cell? ⟨w.heap.size, o, none⟩ := fun o => by
        rw [hc5 _ _ hrz, HCR.out _ _ hz1, HC1.out _ _ (by simp)]
      have hF : ∀ o, w5.frozen? ⟨w.heap.size, o, none⟩ = (w.alloc (.cells #[.int .i64 0, .int .i64 0, .int .i64 0, .int .i64 0, .slice none 0 0, .slice none 0 0] 86)).frozen? ⟨w.heap.size, o, none⟩ := fun o => by
        rw [hf5 _ _ hrz, HFR.out _ _ hz1, HF1.out _ _ (by simp)]
      have hG : ∀ o, w5.cell? ⟨g, o, none⟩ = wr.cell? ⟨g, o, none⟩ := fun o => hc5 _ _ hgz
      have hb05 : Below w.heap.size w w5 := (HBB.out.trans (HBR.out.mono (by omega))).trans (hb5.mono (by omega))
      have HB5 := hide hb05
      have HO5 := hide (ownsI_later HO.out hb5)
      have hz5 : w.heap.size < w5.heap.size := by have := hb5.size; omega
      clear hb5 hc5 hf5 hb05
      by_cases he : wrongL c = 0
      · rw [he]
        go_wp2_with fail
        refine bodyPost_ret (v := .tuple #[.agg #[.int .i64 (i8 x0), .int .i64 (i8 x1), .int .i64 0, .int .i64 0, .slice none 0 0, .slice ae ne ce], .int .i64 0]) (by simp [results, Try.results56, go_sem, hR]) rfl ⟨_, rfl, ?_, ?_⟩
        · rw [HC.out]
          have hgw : w.heap.size < g + 1 := by have := HG.out; omega
          have hO := ownsRow_setCell_below (ownsRow_setCell_below (ownsRow_setCell_below (ownsRow_setCell_below (ownsRow_setCell_below (ownsRow_setCell_below HO5.out (a := ⟨w.heap.size, 0, none⟩) hgw (.int .i64 (i8 x0))) (a := ⟨w.heap.size, 1, none⟩) hgw (.int .i64 (i8 x1))) (a := ⟨w.heap.size, 2, none⟩) hgw (.int .i64 0)) (a := ⟨w.heap.size, 3, none⟩) hgw (.int .i64 0)) (a := ⟨w.heap.size, 4, none⟩) hgw (.slice none 0 0)) (a := ⟨w.heap.size, 5, none⟩) hgw (.slice ae ne ce)
          exact ⟨⟨_, _, rfl, Bs_nil _, owns_Is hO, by simp, by simp only [I64]; omega, by simp only [I64]; omega, by simp [I64], by simp [I64]⟩, _, _, _, _, _, _, _, _, _, _, rfl, fresh_none _, fresh_owns hO (by omega)⟩
        · exact (((((HB5.out.setCell (Nat.le_refl _) _).setCell (Nat.le_refl _) _).setCell (Nat.le_refl _) _).setCell (Nat.le_refl _) _).setCell (Nat.le_refl _) _).setCell (Nat.le_refl _) _
      · have he' : (wrongL c != 0) = true := by simpa using he
        have HE := hide he
        clear he
        go_wp2_with fail
        refine (no_any (wrongL c) w5).mono ?_
        rintro e w6 ⟨rfl, hb6⟩
        obtain ⟨hc6, hf6⟩ := bcell hb6
        go_wp2_with fail
        have hb : Below w.heap.size w w6 := HB5.out.trans (hb6.mono (by omega))
        refine bodyPost_ret (v := .tuple #[.agg #[.int .i64 0, .int .i64 0, .int .i64 0, .int .i64 0, .slice none 0 0, .slice none 0 0], .int .i64 (wrongL c)]) (by simp [results, Try.results56, go_sem, hR, hc6, hz5]) rfl ⟨_, rfl, ⟨Cv_zero _, Fresh_zero _⟩, ?_⟩
        exact (((((hb.setCell (Nat.le_refl _) _).setCell (Nat.le_refl _) _).setCell (Nat.le_refl _) _).setCell (Nat.le_refl _) _).setCell (Nat.le_refl _) _).setCell (Nat.le_refl _) _

set_option maxHeartbeats 8000000 in
theorem refRead_dataF (a : Option Addr) (cap : Nat) (xs : List UInt8) (w : World) (h : Bs w (.slice a xs.length cap) xs) (hr : xs.length ≤ 140737488355328) (hk : okL xs = true) (x0 x1 x2 x3 : UInt8) (hx0 : (openL xs)[0]? = some x0) (hx1 : (openL xs)[1]? = some x1) (hx2 : (openL xs)[2]? = some x2) (hx3 : (openL xs)[3]? = some x3) (h01 : i8 x0 = 1) (hlen : (openL xs).length ≤ 1048600)
    (c : Ch) (hc : c = ⟨1, i8 x1, i8 x2, i8 x3, (openL xs).drop 4, []⟩) :
    Calls Try.prog 56 #[.slice a xs.length cap] w fun e w' => ∃ v', e = .returned (.tuple #[v', .int .i64 (wrongL c)]) ∧ (Cv w' v' (if wrongL c = 0 then c else zeroC) ∧ Fresh w.heap.size v') ∧ Below w.heap.size w w' := by
  have hb0 : Below w.heap.size w (w.alloc (.cells #[.int .i64 0, .int .i64 0, .int .i64 0, .int .i64 0, .slice none 0 0, .slice none 0 0] 86)) := (Below.refl _ _).alloc (Nat.le_refl _) _
  have HO := hide (refOpen_any a cap xs _ (h.later hb0) hr)
  rw [hk] at HO
  have HB0 := hide hb0
  clear h hb0
  obtain ⟨x, hx⟩ : ∃ x, x = openL xs := ⟨_, rfl⟩
  rw [← hx] at HO hx0 hx1 hx2 hx3 hlen hc
  have HC := hide hc
  have HX0 := hide hx0
  have HX1 := hide hx1
  have HX2 := hide hx2
  have HX3 := hide hx3
  have hl2 : (4 : Int) ≤ (x.length : Int) := by have := (List.getElem?_eq_some_iff.1 hx3).1; omega
  have H01 := hide h01
  have hi2 : 0 ≤ i8 x2 ∧ i8 x2 ≤ 255 := by have := x2.toNat_lt; unfold i8; omega
  have hi3 : 0 ≤ i8 x3 ∧ i8 x3 ≤ 255 := by have := x3.toNat_lt; unfold i8; omega
  have hi1 : 0 ≤ i8 x1 ∧ i8 x1 ≤ 255 := by have := x1.toNat_lt; unfold i8; omega
  clear hx hc hx0 hx1 hx2 hx3 h01
  go_enter Try.func56, Try.ntmps56
  go_wp2_with fail
  refine HO.out.mono ?_
  rintro e w1 ⟨v1, rfl, hB1, hb1⟩
  clear HO
  obtain ⟨hc1, hf1⟩ := bcell hb1
  have hz1 : w.heap.size < w1.heap.size := by have := hb1.size; simp at this; omega
  have hbb : Below w.heap.size w w1 := HB0.out.trans (hb1.mono (by simp))
  have HBB := hide hbb
  clear hb1 hbb HB0
  obtain ⟨b1, o1, c1, rfl⟩ : ∃ b1 o1 c1, v1 = .slice (some ⟨b1, o1, none⟩) x.length c1 := by
    obtain ⟨a1, c1, rfl, hlc, hno, hc⟩ := hB1
    obtain ⟨z, rfl, hz⟩ := hc 0 (by omega)
    obtain ⟨b1, o1, spot⟩ := z
    have hspot : spot = none := by simpa [Addr.add] using World.cell?_spot hz
    subst hspot
    exact ⟨b1, o1, c1, rfl⟩
  have hcell0 : w1.cell? ⟨b1, o1, none⟩ = some (.int .u8 1) := by rw [← H01.out]; simpa using Bs_byte hB1 0 x0 HX0.out
  have hcell1 : w1.cell? ⟨b1, o1 + 1, none⟩ = some (.int .u8 (i8 x1)) := Bs_byte hB1 1 x1 HX1.out
  have hlt1 : b1 < w1.heap.size := World.block_lt_of_cell? w1 _ hcell0
  have hl1 : (1 : Int) < (x.length : Int) := by omega
  have HB1 := hide hB1
  clear hB1
  go_wp2_with fail
  go_region
  obtain ⟨g, hg⟩ : ∃ g, g = w1.heap.size := ⟨_, rfl⟩
  obtain ⟨W, hW⟩ : ∃ W, W = (w1.alloc (.cells #[.int .i64 1, .int .i64 (i8 x1), .int .i64 0, .int .i64 0, .slice none 0 0, .slice none 0 0] 86)).drew := ⟨_, rfl⟩
  have hWg : W.heap[g]? = some (.cells #[.int .i64 1, .int .i64 (i8 x1), .int .i64 0, .int .i64 0, .slice none 0 0, .slice none 0 0] 86 (0, 0)) := by
    rw [hW, hg]; exact heap_alloc_new w1 _
  have hWb : Below w1.heap.size w1 W := by rw [hW]; exact Below.drew ((Below.refl _ _).alloc (Nat.le_refl _) _)
  have hWz : g < W.heap.size := by rw [hW, hg]; simp
  rw [← hW, ← hg]
  obtain ⟨i0, hi, hz0, hz1', hz2⟩ := info_parts info5
  clear hW hcell0 hcell1
  have HC1 := hide hc1
  have HF1 := hide hf1
  have HWG := hide hWg
  have HG := hide hg
  clear hc1 hf1 hWg hg
  go_wp2_with fail
  go_loopw [8] (fun i wr => ∃ (k : Nat) (dv : Value), 2 ≤ k ∧ k ≤ x.length ∧ i = .int .i64 k ∧ wr.heap[g]? = some (.cells #[.int .i64 1, .int .i64 (i8 x1), .int .i64 (if 3 ≤ k then i8 x2 else 0), .int .i64 (if 4 ≤ k then i8 x3 else 0), dv, .slice none 0 0] 86 (0, 0)) ∧
      wr.ownsRow (g + 1) 5 1 dv (k - 4) (((x.drop 4).take (k - 4)).map B) ∧ Below w1.heap.size w1 wr) (fun i _ => x.length - (intOf i).toNat)
  case atStart => exact ⟨2, .slice none 0 0, Nat.le_refl _, by omega, rfl, HWG.out, World.ownsRow_nil _ _ _ _, hWb⟩
  case round =>
    obtain ⟨k, dv, hk2, hkl, rfl, hgr, hown, hbr⟩ := hrel
    have hg0 : wr.cell? ⟨g, 0, none⟩ = some (.int .i64 1) := by rw [cell_of_row wr g 0 _ 86 (0, 0) hgr]; rfl
    have hgz : g < wr.heap.size := (Array.getElem?_eq_some_iff.1 hgr).1
    by_cases hlt : k < x.length
    · have hlt' : (k : Int) < (x.length : Int) := by omega
      have hb1r : b1 < wr.heap.size := by have := hbr.size; omega
      rcases (show k = 2 ∨ k = 3 ∨ 4 ≤ k by omega) with rfl | rfl | hk4
      · have hcy := Bs_byte (HB1.out.later hbr) 2 x2 HX2.out
        have hs2 : wr.cell? ⟨g, 2, none⟩ = some (.int .i64 0) := by rw [cell_of_row wr g 2 _ 86 (0, 0) hgr]; rfl
        have hf2 : wr.frozen? ⟨g, 2, none⟩ = false := by simp [World.frozen?, hgr]
        have HO := hide hown
        have HGR := hide hgr
        have HBR := hide hbr
        clear hown hgr hbr hWb hWz
        go_wp2
        go_roundw
        case rel =>
          refine ⟨3, dv, by omega, by omega, by go_num, (heap_setCell_same wr g 2 _ 86 (.int .i64 (i8 x2)) HGR.out).trans (by simp), ownsRow_setCell_below HO.out (by simp) _, HBR.out.setCell (by have := HG.out; simp; omega) _⟩
        case measure => simp [intOf]; omega
      · have hcy := Bs_byte (HB1.out.later hbr) 3 x3 HX3.out
        have hs2 : wr.cell? ⟨g, 3, none⟩ = some (.int .i64 0) := by rw [cell_of_row wr g 3 _ 86 (0, 0) hgr]; rfl
        have hf2 : wr.frozen? ⟨g, 3, none⟩ = false := by simp [World.frozen?, hgr]
        have HO := hide hown
        have HGR := hide hgr
        have HBR := hide hbr
        clear hown hgr hbr hWb hWz
        go_wp2
        go_roundw
        case rel =>
          refine ⟨4, dv, by omega, by omega, by go_num, (heap_setCell_same wr g 3 _ 86 (.int .i64 (i8 x3)) HGR.out).trans (by simp), ownsRow_setCell_below HO.out (by simp) _, HBR.out.setCell (by have := HG.out; simp; omega) _⟩
        case measure => simp [intOf]; omega
      · obtain ⟨y, hy⟩ := some_at hlt
        rw [if_pos (by omega), if_pos (by omega)] at hgr
        have hcy := Bs_byte (HB1.out.later hbr) k y hy
        have hg4 : wr.cell? ⟨g, 4, none⟩ = some dv := by rw [cell_of_row wr g 4 _ 86 (0, 0) hgr]; rfl
        have hne : ∀ (q : Nat), dv.ownBlock = some q → g < q := fun q hq => (hown.lt q hq).1
        have hfg : wr.frozen? ⟨g, 4, none⟩ = false := by simp [World.frozen?, hgr]
        have hk2' : ((k : Int) == 2) = false := by simp only [beq_eq_false_iff_ne, ne_eq]; omega
        have hk3' : ((k : Int) == 3) = false := by simp only [beq_eq_false_iff_ne, ne_eq]; omega
        have HNE := hide hne
        have HFG := hide hfg
        have HY := hide hy
        have HO := hide hown
        have HGR := hide hgr
        have HBR := hide hbr
        clear hne hfg hy hown hgr hbr hWb hWz
        go_wp2_with fail
        go_region_law ((refine step_append_lies _ (by rfl) (.tmp 55) (.tmp 60) 23 (by rfl) (g + 1) 5 i0 (.int .u8 0) 1 1 Try.underlying23 hi hz0 hz1' hz2 rfl (by omega) dv (k - 4) (((x.drop 4).take (k - 4)).map B) (by rfl) (by exact World.ownsRow.drew (HO.out.alloc _)) ⟨wr.heap.size, 0, none⟩ 1 1 [B y] (by rfl) rfl (by exact one_newB wr (B y)) (one_oneB _) (by omega) (by unfold maxLen; omega) (by omega) (by simp; omega) (wr.heap.size + 1) (by simp) ?_; intro g' cap' w2 hown2 hgrow2 hat2 hlt2; have hs5 : w2.cell? ⟨g, 4, none⟩ = some dv := store_cell' HNE.out hgrow2 hgz hg4; have hf5 : w2.frozen? ⟨g, 4, none⟩ = false := store_free' HNE.out hgrow2 hgz HFG.out; have HO2 := hide hown2; have HG2 := hide hgrow2; clear hown2 hgrow2))
        all_goals
          go_wp2
          go_roundw
          case rel =>
            obtain ⟨r1, r2, r3⟩ := many_step (j := 4) (u := .slice (some ⟨g', 0, none⟩) (k - 4 + 1) cap') HG.out HNE.out HGR.out HG2.out HO2.out HBR.out
            refine ⟨k + 1, .slice (some ⟨g', 0, none⟩) (k - 4 + 1) cap', by omega, by omega, by go_num, ?_, ?_, r3⟩
            · rw [if_pos (by omega), if_pos (by omega)]
              exact r1
            · rw [drop_snocB x k y HY.out hk4, show k + 1 - 4 = k - 4 + 1 by omega]
              exact r2
          case measure => simp [intOf]; omega
    · have hX : ((x.drop 4).take (k - 4)) = x.drop 4 := List.take_of_length_le (by simp; omega)
      rw [if_pos (by omega), if_pos (by omega)] at hgr
      rw [hX] at hown
      obtain ⟨ae, ne, ce, rfl⟩ : ∃ ae ne ce, dv = .slice ae ne ce := by
        obtain ⟨a', c', h, _⟩ := owns_Bs hown
        exact ⟨_, _, _, h⟩
      have hg1 : wr.cell? ⟨g, 1, none⟩ = some (.int .i64 (i8 x1)) := by rw [cell_of_row wr g 1 _ 86 (0, 0) hgr]; rfl
      have hg2 : wr.cell? ⟨g, 2, none⟩ = some (.int .i64 (i8 x2)) := by rw [cell_of_row wr g 2 _ 86 (0, 0) hgr]; rfl
      have hg3 : wr.cell? ⟨g, 3, none⟩ = some (.int .i64 (i8 x3)) := by rw [cell_of_row wr g 3 _ 86 (0, 0) hgr]; rfl
      have hg5 : wr.cell? ⟨g, 5, none⟩ = some (.slice none 0 0) := by rw [cell_of_row wr g 5 _ 86 (0, 0) hgr]; rfl
      have hg4 : wr.cell? ⟨g, 4, none⟩ = some (.slice ae ne ce) := by rw [cell_of_row wr g 4 _ 86 (0, 0) hgr]; rfl
      have hCv : Cv wr (.agg #[.int .i64 1, .int .i64 (i8 x1), .int .i64 (i8 x2), .int .i64 (i8 x3), .slice ae ne ce, .slice none 0 0]) c := by
        rw [HC.out]
        exact ⟨_, _, rfl, owns_Bs hown, Is_nil wr, by unfold maxLen; simp; omega, by simp [I64], by simp only [I64]; omega, by simp only [I64]; omega, by simp only [I64]; omega⟩
      have HCV := hide hCv
      have HO := hide hown
      have HBR := hide hbr
      obtain ⟨hcr, hfr⟩ := bcell hbr
      have HCR := hide hcr
      have HFR := hide hfr
      clear hCv hown hbr hgr hX hWb hcr hfr
      go_wp2_with fail
      refine (refWrong_any _ c wr HCV.out).mono ?_
      rintro e w5 ⟨rfl, hb5⟩
      obtain ⟨hc5, hf5⟩ := bcell hb5
      have hrz : w.heap.size < wr.heap.size := by have := HBR.out.size; omega
      have hR : ∀ o, w5.cell? ⟨w.heap.size, o, none⟩ = (w.alloc (.cells #[.int .i64 0, .int .i64 0, .int .i64 0, .int .i64 0, .slice none 0 0, .slice none 0 0] 86)).cell? ⟨w.heap.size, o, none⟩ := fun o => by
        rw [hc5 _ _ hrz, HCR.out _ _ hz1, HC1.out _ _ (by simp)]
      have hF : ∀ o, w5.frozen? ⟨w.heap.size, o, none⟩ = (w.alloc (.cells #[.int .i64 0, .int .i64 0, .int .i64 0, .int .i64 0, .slice none 0 0, .slice none 0 0] 86)).frozen? ⟨w.heap.size, o, none⟩ := fun o => by
        rw [hf5 _ _ hrz, HFR.out _ _ hz1, HF1.out _ _ (by simp)]
      have hG : ∀ o, w5.cell? ⟨g, o, none⟩ = wr.cell? ⟨g, o, none⟩ := fun o => hc5 _ _ hgz
      have hb05 : Below w.heap.size w w5 := (HBB.out.trans (HBR.out.mono (by omega))).trans (hb5.mono (by omega))
      have HB5 := hide hb05
      have HO5 := hide (ownsI_later HO.out hb5)
      have hz5 : w.heap.size < w5.heap.size := by have := hb5.size; omega
      clear hb5 hc5 hf5 hb05
      by_cases he : wrongL c = 0
      · rw [he]
        go_wp2_with fail
        refine bodyPost_ret (v := .tuple #[.agg #[.int .i64 1, .int .i64 (i8 x1), .int .i64 (i8 x2), .int .i64 (i8 x3), .slice ae ne ce, .slice none 0 0], .int .i64 0]) (by simp [results, Try.results56, go_sem, hR]) rfl ⟨_, rfl, ?_, ?_⟩
        · rw [HC.out]
          have hgw : w.heap.size < g + 1 := by have := HG.out; omega
          have hO := ownsRow_setCell_below (ownsRow_setCell_below (ownsRow_setCell_below (ownsRow_setCell_below (ownsRow_setCell_below (ownsRow_setCell_below HO5.out (a := ⟨w.heap.size, 0, none⟩) hgw (.int .i64 1)) (a := ⟨w.heap.size, 1, none⟩) hgw (.int .i64 (i8 x1))) (a := ⟨w.heap.size, 2, none⟩) hgw (.int .i64 (i8 x2))) (a := ⟨w.heap.size, 3, none⟩) hgw (.int .i64 (i8 x3))) (a := ⟨w.heap.size, 4, none⟩) hgw (.slice ae ne ce)) (a := ⟨w.heap.size, 5, none⟩) hgw (.slice none 0 0)
          exact ⟨⟨_, _, rfl, owns_Bs hO, Is_nil _, by unfold maxLen; simp; omega, by simp [I64], by simp only [I64]; omega, by simp only [I64]; omega, by simp only [I64]; omega⟩, _, _, _, _, _, _, _, _, _, _, rfl, fresh_owns hO (by omega), fresh_none _⟩
        · exact (((((HB5.out.setCell (Nat.le_refl _) _).setCell (Nat.le_refl _) _).setCell (Nat.le_refl _) _).setCell (Nat.le_refl _) _).setCell (Nat.le_refl _) _).setCell (Nat.le_refl _) _
      · have he' : (wrongL c != 0) = true := by simpa using he
        have HE := hide he
        clear he
        go_wp2_with fail
        refine (no_any (wrongL c) w5).mono ?_
        rintro e w6 ⟨rfl, hb6⟩
        obtain ⟨hc6, hf6⟩ := bcell hb6
        go_wp2_with fail
        have hb : Below w.heap.size w w6 := HB5.out.trans (hb6.mono (by omega))
        refine bodyPost_ret (v := .tuple #[.agg #[.int .i64 0, .int .i64 0, .int .i64 0, .int .i64 0, .slice none 0 0, .slice none 0 0], .int .i64 (wrongL c)]) (by simp [results, Try.results56, go_sem, hR, hc6, hz5]) rfl ⟨_, rfl, ⟨Cv_zero _, Fresh_zero _⟩, ?_⟩
        exact (((((hb.setCell (Nat.le_refl _) _).setCell (Nat.le_refl _) _).setCell (Nat.le_refl _) _).setCell (Nat.le_refl _) _).setCell (Nat.le_refl _) _).setCell (Nat.le_refl _) _

/-- The answer's 'Read', whatever it is given. -/
theorem refRead_anyF (a : Option Addr) (cap : Nat) (xs : List UInt8) (w : World) (h : Bs w (.slice a xs.length cap) xs) (hr : xs.length ≤ 140737488355328) (hlen : xs.length ≤ 1048600) :
    Calls Try.prog 56 #[.slice a xs.length cap] w fun e w' => ∃ v', e = .returned (.tuple #[v', .int .i64 (readE xs)]) ∧ (Cv w' v' (readC xs) ∧ Fresh w.heap.size v') ∧ Below w.heap.size w w' := by
  have hl := len_openL xs
  cases hk : okL xs with
  | false =>
    have e1 : readE xs = 7 := by simp [readE, hk]
    have e2 : readC xs = zeroC := by simp [readC, e1]
    rw [e1, e2]
    exact refRead_spoiltF a cap xs w h hr hk
  | true =>
    cases hs : shortL (openL xs) with
    | true =>
      have e1 : readE xs = 8 := by simp [readE, hk, hs]
      have e2 : readC xs = zeroC := by simp [readC, e1]
      rw [e1, e2]
      exact refRead_shortF a cap xs w h hr hk hs
    | false =>
      have e1 : readE xs = wrongL (fieldsL (openL xs)) := by simp [readE, hk, hs]
      have e2 : readC xs = if wrongL (fieldsL (openL xs)) = 0 then fieldsL (openL xs) else zeroC := by simp [readC, e1]
      rw [e1, e2]
      have hs' := hs
      simp only [shortL, Bool.or_eq_false_iff, decide_eq_false_iff_not, Bool.and_eq_false_iff] at hs'
      obtain ⟨x0, hx0⟩ := some_at (xs := openL xs) (k := 0) (by omega)
      obtain ⟨x1, hx1⟩ := some_at (xs := openL xs) (k := 1) (by omega)
      have g0 : (openL xs).getD 0 0 = x0 := by simp [List.getD, hx0]
      have g1 : (openL xs).getD 1 0 = x1 := by simp [List.getD, hx1]
      by_cases h1 : i8 x0 = 1
      · rw [g0] at hs'
        obtain ⟨x2, hx2⟩ := some_at (xs := openL xs) (k := 2) (by omega)
        obtain ⟨x3, hx3⟩ := some_at (xs := openL xs) (k := 3) (by omega)
        have g2 : (openL xs).getD 2 0 = x2 := by simp [List.getD, hx2]
        have g3 : (openL xs).getD 3 0 = x3 := by simp [List.getD, hx3]
        have e3 : fieldsL (openL xs) = ⟨1, i8 x1, i8 x2, i8 x3, (openL xs).drop 4, []⟩ := by unfold fieldsL; rw [g0, if_pos h1, g1, g2, g3]
        rw [e3]
        exact refRead_dataF a cap xs w h hr hk x0 x1 x2 x3 hx0 hx1 hx2 hx3 h1 (by omega) _ rfl
      · have e3 : fieldsL (openL xs) = ⟨i8 x0, i8 x1, 0, 0, [], ((openL xs).drop 2).map i8⟩ := by unfold fieldsL; rw [g0, if_neg h1, g1]
        rw [e3]
        exact refRead_manyF a cap xs w h hr hk x0 x1 hx0 hx1 h1 (by omega) _ rfl

end Go.Proofs.Ytngfedhffehkaac.leaf
