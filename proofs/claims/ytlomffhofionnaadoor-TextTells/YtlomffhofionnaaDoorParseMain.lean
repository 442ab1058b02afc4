/-
  The contract of the answer's reading of a text: the digits.
-/
import Derived.Test.YtlomffhofionnaaDoorParse
namespace Go.Proofs.YtlomffhofionnaaDoor.leaf
set_option linter.unusedVariables false
open Go.RowKit
open mth

theorem take_snoc_at (xs : List UInt8) (k : Nat) (y : UInt8) (hy : xs[k]? = some y) (h2 : 2 ≤ k) : (xs.drop 2).take (k + 1 - 2) = (xs.drop 2).take (k - 2) ++ [y] := by
  have e : k + 1 - 2 = (k - 2) + 1 := by omega
  rw [e, List.take_add_one, List.getElem?_drop]
  have : 2 + (k - 2) = k := by omega
  rw [this, hy]
  rfl

theorem store_cell2 {wr w2 : World} {ev : Value} {g : Nat} {o : Obj} {u : Value} {j : Nat} (hne : ∀ (q : Nat), ev.ownBlock = some q → g < q) (hg : (wr.alloc o).grownBy w2 ev.ownBlock) (hz : g < wr.heap.size) (h : wr.cell? ⟨g, j, none⟩ = some u) : w2.cell? ⟨g, j, none⟩ = some u :=
  store_cell' (wr := wr) (o := o) hne (show ((wr.alloc o).drew).grownBy w2 ev.ownBlock from ⟨hg.os, hg.tape, hg.output, hg.size, hg.block⟩) hz h
theorem store_free2 {wr w2 : World} {ev : Value} {g : Nat} {o : Obj} {j : Nat} (hne : ∀ (q : Nat), ev.ownBlock = some q → g < q) (hg : (wr.alloc o).grownBy w2 ev.ownBlock) (hz : g < wr.heap.size) (h : wr.frozen? ⟨g, j, none⟩ = false) : w2.frozen? ⟨g, j, none⟩ = false :=
  store_free' (wr := wr) (o := o) hne (show ((wr.alloc o).drew).grownBy w2 ev.ownBlock from ⟨hg.os, hg.tape, hg.output, hg.size, hg.block⟩) hz h
theorem many_step2 {w1 wr w2 : World} {ev v u : Value} {g n j : Nat} {o : Obj} {cs : Array Value} {t e : TypeId} {L : List Value} (hg : g = w1.heap.size) (hne : ∀ (q : Nat), ev.ownBlock = some q → g < q)
    (hgr : wr.heap[g]? = some (.cells cs t (0, 0))) (hgrow : (wr.alloc o).grownBy w2 ev.ownBlock) (hown : w2.ownsRow (g + 1) e 1 v n L) (hbr : Below w1.heap.size w1 wr) :
    (w2.setCell ⟨g, j, none⟩ u).heap[g]? = some (.cells (cs.setIfInBounds j u) t (0, 0)) ∧ (w2.setCell ⟨g, j, none⟩ u).ownsRow (g + 1) e 1 v n L ∧ Below w1.heap.size w1 (w2.setCell ⟨g, j, none⟩ u) :=
  many_step (o := o) hg hne hgr (show ((wr.alloc o).drew).grownBy w2 ev.ownBlock from ⟨hgrow.os, hgrow.tape, hgrow.output, hgrow.size, hgrow.block⟩) hown hbr

set_option maxHeartbeats 16000000 in
theorem parse_main (S : ByteArray) (w : World) (h2 : (2 : Int) ≤ (S.size : Int)) (h0 : 0 < S.size) (h1 : 1 < S.size) (hl : S.size ≤ 140737488355328) (c1 : 48 ≤ ((S[0]'h0).toNat : Int)) (c2 : ((S[0]'h0).toNat : Int) ≤ 57) (c3 : (((S[1]'h1).toNat : Int) != 58) = false) (c4 : ((S.size : Int) % 2 == 1) = false)
    (xs : List UInt8) (hxs : S.data.toList = xs) (E : Int) (M : Ms) (hE : Hid (∀ d, d = pairsL (xs.drop 2) → digitsL (xs.drop 2) = true → E = wrongMsgL (((S[0]'h0).toNat : Int) - 48) d ∧ M = if E = 0 then ⟨((S[0]'h0).toNat : Int) - 48, d⟩ else ⟨0, []⟩)) (hE2 : Hid (digitsL (xs.drop 2) = false → E = 2 ∧ M = ⟨0, []⟩)) :
    Calls Tryd.prog 6 #[.string S] w fun e w' => ∃ v', e = .returned (.tuple #[v', .int .i64 E]) ∧ Mv w' v' M ∧ Below w.heap.size w w' := by
  have hlen : xs.length = S.size := by rw [← hxs, Array.length_toList]; rfl
  have hat : ∀ (j : Nat) (hj : j < S.size), xs[j]? = some (S[j]'hj) := by
    intro j hj
    rw [← hxs, Array.getElem?_toList, Array.getElem?_eq_getElem (by exact hj)]
    rfl
  have HAT := hide hat
  have HLEN := hide hlen
  obtain ⟨i0, hi, hz0, hz1', hz2⟩ := info_parts info5
  obtain ⟨W, hW⟩ : ∃ W, W = w.alloc (.cells #[.int .i64 0, .slice none 0 0] 24) := ⟨_, rfl⟩
  have hbW : Below w.heap.size w W := by rw [hW]; exact (Below.refl _ _).alloc (Nat.le_refl _) _
  have hWz : W.heap.size = w.heap.size + 1 := by rw [hW]; simp
  have hWg : W.heap[w.heap.size]? = some (.cells #[.int .i64 0, .slice none 0 0] 24 (0, 0)) := by rw [hW]; exact heap_alloc_new _ _
  have HWB := hide hbW
  have HWZ := hide hWz
  have HWG := hide hWg
  have HW := hide hW
  clear hat hlen hxs hW hbW hWz hWg
  obtain ⟨a0, ha0⟩ : ∃ a0, a0 = ((S[0]'h0).toNat : Int) - 48 := ⟨_, rfl⟩
  have ha09 : 0 ≤ a0 ∧ a0 ≤ 9 := by omega
  rw [← ha0] at hE
  have HA0 := hide ha0
  clear ha0
  go_enter Tryd.func6, Tryd.ntmps6
  go_wp2_with fail
  rw [← HA0.out, ← HW.out]
  clear c1 c2 c3
  go_loopw [5, 6] (fun n i wr => ∃ (k : Nat) (dv : Value), 2 ≤ k ∧ k ≤ S.size ∧ i = .int .i64 k ∧ digitsL ((xs.drop 2).take (k - 2)) = true ∧ n = .int .i64 (if k % 2 = 0 then 0 else valB (xs.getD (k - 1) 0)) ∧
      wr.heap[W.heap.size]? = some (.cells #[.int .i64 a0, dv] 24 (0, 0)) ∧ wr.ownsRow (W.heap.size + 1) 5 1 dv ((k - 2) / 2) ((pairsL ((xs.drop 2).take (k - 2))).map B) ∧ Below W.heap.size W wr) (fun _ i _ => S.size - (intOf i).toNat)
  case atStart =>
    refine ⟨2, .slice none 0 0, Nat.le_refl _, by omega, rfl, rfl, rfl, heap_alloc_new _ _, World.ownsRow_nil _ _ _ _, (Below.refl _ _).alloc (Nat.le_refl _) _⟩
  case round =>
    obtain ⟨k, dv, hk2, hkl, rfl, hdig, rfl, hgr, hown, hbr⟩ := hrel
    by_cases hlt : k < S.size
    · have hlt' : (k : Int) < (S.size : Int) := by omega
      obtain ⟨y, hy⟩ : ∃ y, y = S[k]'hlt := ⟨_, rfl⟩
      have hxk : xs[k]? = some y := by rw [hy]; exact HAT.out k hlt
      have hvb := val_bd y
      have HY := hide hy
      have HXK := hide hxk
      have HD := hide hdig
      have HO := hide hown
      have HG := hide hgr
      have HB := hide hbr
      clear hy hxk hdig hown hgr hbr
      obtain ⟨nn, hnn⟩ : ∃ nn, nn = if k % 2 = 0 then 0 else valB (xs.getD (k - 1) 0) := ⟨_, rfl⟩
      rw [← hnn]
      have HN := hide hnn
      clear hnn
      go_wp2_with fail
      obtain ⟨wo, rfl⟩ : ∃ wo : World, wo = wr := ⟨_, rfl⟩
      go_loopw [7, 46] (fun dd q wr => ∃ (j t : Nat), j ≤ 16 ∧ q = .int .i64 j ∧ dd = .int .i64 (found y j) ∧ wr = wo.drewN t) (fun _ q _ => 16 - (intOf q).toNat)
      case atStart => exact ⟨0, 0, by omega, rfl, by unfold found; rw [if_neg (by omega)], rfl⟩
      case round =>
        obtain ⟨j, t, hj, rfl, rfl, rfl⟩ := hrel
        by_cases hj16 : j < 16
        · have f1 := fun w => hex_at64 w j hj16
          have he := hex_eq j hj16 y
          rw [HY.out] at he
          have hj' : (j : Int) < 16 := by omega
          have HF := hide (found_step y j)
          by_cases hv : valB y = j
          · have hv' : decide (valB (S[k]'hlt) = (j : Int)) = true := by rw [← HY.out]; simpa using hv
            rw [hv'] at he
            have HV := hide hv
            clear hv hv'
            go_wp2
            go_quiet (fail)
            go_wp2
            go_roundw
            case rel => exact ⟨j + 1, _, by omega, by go_num, by rw [HF.out, if_pos HV.out], rfl⟩
            case measure => simp [intOf]; omega
          · have hv' : decide (valB (S[k]'hlt) = (j : Int)) = false := by rw [← HY.out]; simpa using hv
            rw [hv'] at he
            have HV := hide hv
            clear hv hv'
            go_wp2
            go_quiet (fail)
            go_wp2
            go_roundw
            case rel => exact ⟨j + 1, _, by omega, by go_num, by rw [HF.out, if_neg HV.out], rfl⟩
            case measure => simp [intOf]; omega
        · have hj17 : j = 16 := by omega
          subst hj17
          obtain ⟨wi, hwi⟩ : ∃ wi, wi = wo.drewN t := ⟨_, rfl⟩
          have hOi : wi.ownsRow (W.heap.size + 1) 5 1 dv ((k - 2) / 2) ((pairsL ((xs.drop 2).take (k - 2))).map B) := by rw [hwi]; exact HO.out
          have hGi : wi.heap[W.heap.size]? = some (.cells #[.int .i64 a0, dv] 24 (0, 0)) := by rw [hwi]; exact HG.out
          have hBi : Below W.heap.size W wi := by rw [hwi]; exact below_drewN HB.out t
          rw [← hwi]
          clear hwi HO HG HB hj16 hj
          have hlW : w.heap.size < W.heap.size := by rw [HWZ.out]; omega
          have hRg : wi.heap[w.heap.size]? = some (.cells #[.int .i64 0, .slice none 0 0] 24 (0, 0)) := (hBi.block _ hlW).trans HWG.out
          have hR0 : wi.cell? ⟨w.heap.size, 0, none⟩ = some (.int .i64 0) := by rw [cell_of_row wi _ 0 _ 24 (0, 0) hRg]; rfl
          have hR1 : wi.cell? ⟨w.heap.size, 1, none⟩ = some (.slice none 0 0) := by rw [cell_of_row wi _ 1 _ 24 (0, 0) hRg]; rfl
          have hF0 : wi.frozen? ⟨w.heap.size, 0, none⟩ = false := by simp [World.frozen?, hRg]
          have hF1 : wi.frozen? ⟨w.heap.size, 1, none⟩ = false := by simp [World.frozen?, hRg]
          clear hRg
          have HOi := hide hOi
          have HGi := hide hGi
          have HBi := hide hBi
          have hwB : Below w.heap.size w wi := HWB.out.trans (hBi.mono HWB.out.size)
          have HWBi := hide hwB
          clear hOi hGi hBi hwB
          rcases found_all y with ⟨hv, hf⟩ | ⟨hv, hf⟩
          · rw [hf]
            have hdn : digitsL ((xs.drop 2).take (k + 1 - 2)) = true := by
              rw [take_snoc_at xs k y HXK.out hk2]
              have := HD.out
              unfold digitsL at *
              rw [List.all_append, this]
              simpa using hv
            have HDN := hide hdn
            have hgd : xs.getD (k + 1 - 1) 0 = y := by simp [List.getD, HXK.out]
            have HGD := hide hgd
            have HTS := hide (take_snoc_at xs k y HXK.out hk2)
            clear hf hdn hgd hE hE2
            have hll : ((xs.drop 2).take (k - 2)).length = k - 2 := by rw [List.length_take, List.length_drop, HLEN.out]; omega
            by_cases hev : k % 2 = 0
            · have hn0 : nn = 0 := by rw [HN.out, if_pos hev]
              subst hn0
              have hkm : ((k : Int) % 2 == 1) = false := by simp only [beq_eq_false_iff_ne, ne_eq]; omega
              have HEV := hide hev
              have HLL := hide hll
              clear hev hll hR0 hR1 hF0 hF1
              go_wp2
              go_roundw
              case rel =>
                refine ⟨k + 1, dv, by omega, by omega, by go_num, HDN.out, ?_, HGi.out, ?_, HBi.out⟩
                · have := HEV.out
                  rw [if_neg (by omega), HGD.out]
                · have := HEV.out
                  rw [HTS.out, pairs_even _ y (by rw [HLL.out]; omega), show (k + 1 - 2) / 2 = (k - 2) / 2 by omega]
                  exact HOi.out
              case measure => simp [intOf]; omega
            · obtain ⟨q, hq⟩ := some_at (xs := xs) (k := k - 1) (by rw [HLEN.out]; omega)
              have hnq : nn = valB q := by rw [HN.out, if_neg hev]; simp [List.getD, hq]
              subst hnq
              have hsp : (xs.drop 2).take (k - 2) = (xs.drop 2).take (k - 3) ++ [q] := by
                have := take_snoc_at xs (k - 1) q hq (by omega)
                rw [show k - 1 + 1 - 2 = k - 2 by omega, show k - 1 - 2 = k - 3 by omega] at this
                exact this
              have hvq : 0 ≤ valB q := by
                have h := HD.out
                rw [hsp] at h
                unfold digitsL at h
                rw [List.all_append] at h
                simp only [List.all_cons, List.all_nil, Bool.and_true, Bool.and_eq_true, decide_eq_true_eq] at h
                exact h.2
              have hqb := val_bd q
              have hpo : pairsL ((xs.drop 2).take (k + 1 - 2)) = pairsL ((xs.drop 2).take (k - 2)) ++ [b8 (16 * valB q + valB y)] := by
                rw [HTS.out, hsp]
                exact pairs_odd _ q y (by rw [List.length_take, List.length_drop, HLEN.out]; omega)
              have hbn : 0 ≤ 16 * valB q + valB y ∧ 16 * valB q + valB y ≤ 255 := by omega
              have hBn : B (b8 (16 * valB q + valB y)) = .int .u8 (16 * valB q + valB y) := by unfold B; rw [b8_toNat hbn]
              have hkm : ((k : Int) % 2 == 1) = true := by simp only [beq_iff_eq]; omega
              have hGj : wi.heap[w.heap.size + 1]? = some (.cells #[.int .i64 a0, dv] 24 (0, 0)) := by rw [← HWZ.out]; exact HGi.out
              have HGj := hide hGj
              have HOj : Hid (wi.ownsRow (w.heap.size + 1 + 1) 5 1 dv ((k - 2) / 2) ((pairsL ((xs.drop 2).take (k - 2))).map B)) := by
                have := HOi.out
                rw [HWZ.out] at this
                exact this
              have hg1 : wi.cell? ⟨w.heap.size + 1, 1, none⟩ = some dv := by rw [cell_of_row wi _ 1 _ 24 (0, 0) hGj]; rfl
              have hgz : w.heap.size + 1 < wi.heap.size := (Array.getElem?_eq_some_iff.1 hGj).1
              have hne : ∀ (q : Nat), dv.ownBlock = some q → w.heap.size + 1 < q := fun q hq => (HOj.out.lt q hq).1
              have hfg : wi.frozen? ⟨w.heap.size + 1, 1, none⟩ = false := by simp [World.frozen?, hGj]
              clear hGj
              have hlp : ((k - 2) / 2 + 1) ≤ 140737488355328 := by omega
              have HPO := hide hpo
              have HBN := hide hBn
              have HEV := hide hev
              have HNE := hide hne
              have HFG := hide hfg
              clear hev hll hR0 hR1 hF0 hF1 hpo hBn hne hfg hsp hq
              go_wp2_with (first
                | (at_builtin; refine wpList_append_lies _ rfl (.tmp 68) (.tmp 71) 22 rfl (w.heap.size + 1 + 1) 5 i0 (.int .u8 0) 1 1 Tryd.underlying22 hi hz0 hz1' hz2 rfl (by omega) dv ((k - 2) / 2) ((pairsL ((xs.drop 2).take (k - 2))).map B) rfl (HOj.out.alloc _) ⟨wi.heap.size, 0, none⟩ 1 1 [.int .u8 (16 * valB q + valB y)] rfl rfl (one_newB wi _) (by intro u hu; simp at hu; subst hu; rfl) (by omega) (by unfold maxLen; omega) (by omega) (by simp; omega) (wi.heap.size + 1) (by simp) ?_; intro g' cap' w2 hown2 hgrow2 hat2 hlt2; have hs5 : w2.cell? ⟨w.heap.size + 1, 1, none⟩ = some dv := store_cell2 HNE.out hgrow2 hgz hg1; have hf5 : w2.frozen? ⟨w.heap.size + 1, 1, none⟩ = false := store_free2 HNE.out hgrow2 hgz HFG.out; have HO2 := hide hown2; have HG2 := hide hgrow2; clear hown2 hgrow2))
              go_roundw
              case rel =>
                obtain ⟨r1, r2, r3⟩ := many_step2 (j := 1) (u := .slice (some ⟨g', 0, none⟩) ((k - 2) / 2 + 1) cap') HWZ.out.symm HNE.out HGj.out HG2.out HO2.out HBi.out
                refine ⟨k + 1, .slice (some ⟨g', 0, none⟩) ((k - 2) / 2 + 1) cap', by omega, by omega, by go_num, HDN.out, ?_, by rw [HWZ.out]; exact r1, ?_, r3⟩
                · have := HEV.out
                  rw [if_pos (by omega)]
                · have := HEV.out
                  rw [HPO.out, List.map_append, List.map_cons, List.map_nil, HBN.out, show (k + 1 - 2) / 2 = (k - 2) / 2 + 1 by omega, HWZ.out]
                  exact r2
              case measure => simp [intOf]; omega
          · have hdf : digitsL (xs.drop 2) = false := by
              rw [Bool.eq_false_iff]
              intro h
              unfold digitsL at h
              rw [List.all_eq_true] at h
              have hm : y ∈ xs.drop 2 := List.mem_iff_getElem?.2 ⟨k - 2, by rw [List.getElem?_drop, show 2 + (k - 2) = k by omega]; exact HXK.out⟩
              have := h y hm
              simp only [decide_eq_true_eq] at this
              omega
            obtain ⟨rfl, rfl⟩ := hE2.out hdf
            rw [hf]
            clear hdf hf hv hE hE2
            go_wp2_with fail
            refine bodyPost_ret (v := .tuple #[.agg #[.int .i64 0, .slice none 0 0], .int .i64 2]) (by simp [results, Tryd.results6, go_sem, hR0, hR1]) rfl ⟨_, rfl, Mv_zero _, ?_⟩
            exact (HWBi.out.setCell (Nat.le_refl _) _).setCell (Nat.le_refl _) _
    · have hX : (xs.drop 2).take (k - 2) = xs.drop 2 := List.take_of_length_le (by rw [List.length_drop, HLEN.out]; omega)
      rw [hX] at hdig hown
      obtain ⟨hE1, hM1⟩ := hE.out (pairsL (xs.drop 2)) rfl hdig
      have hld : (pairsL (xs.drop 2)).length ≤ maxLen := by rw [len_pairs, List.length_drop, HLEN.out]; unfold maxLen; omega
      obtain ⟨d, hd⟩ : ∃ d, d = pairsL (xs.drop 2) := ⟨_, rfl⟩
      rw [← hd] at hown hE1 hM1 hld
      obtain ⟨ae, ne, ce, rfl⟩ : ∃ ae ne ce, dv = .slice ae ne ce := by
        obtain ⟨a', c', h, _⟩ := owns_Bs hown
        exact ⟨_, _, _, h⟩
      have hGj : wr.heap[w.heap.size + 1]? = some (.cells #[.int .i64 a0, .slice ae ne ce] 24 (0, 0)) := by rw [← HWZ.out]; exact hgr
      have hg0 : wr.cell? ⟨w.heap.size + 1, 0, none⟩ = some (.int .i64 a0) := by rw [cell_of_row wr _ 0 _ 24 (0, 0) hGj]; rfl
      have hg1 : wr.cell? ⟨w.heap.size + 1, 1, none⟩ = some (.slice ae ne ce) := by rw [cell_of_row wr _ 1 _ 24 (0, 0) hGj]; rfl
      have hgz : w.heap.size + 1 < wr.heap.size := (Array.getElem?_eq_some_iff.1 hGj).1
      have hlW : w.heap.size < W.heap.size := by rw [HWZ.out]; omega
      have hRg : wr.heap[w.heap.size]? = some (.cells #[.int .i64 0, .slice none 0 0] 24 (0, 0)) := (hbr.block _ hlW).trans HWG.out
      have hwB : Below w.heap.size w wr := HWB.out.trans (hbr.mono HWB.out.size)
      have HCALL := hide (refWrongMsg_any a0 (.slice ae ne ce) d wr (owns_Bs hown) hld)
      have HO := hide hown
      have HRG := hide hRg
      have HWBR := hide hwB
      have HE1 := hide hE1
      have HM1 := hide hM1
      have HLD := hide hld
      have HGJ := hide hGj
      clear hX hdig hown hgr hbr hE hE2 hE1 hM1 hld hd hGj hRg hwB hlW
      generalize (if k % 2 = 0 then 0 else valB (xs.getD (k - 1) 0)) = nn
      go_wp2_with fail
      refine HCALL.out.mono ?_
      rintro e w5 ⟨rfl, hb5⟩
      have hRg5 : w5.heap[w.heap.size]? = some (.cells #[.int .i64 0, .slice none 0 0] 24 (0, 0)) := (hb5.block _ (by omega)).trans HRG.out
      have hGj5 : w5.heap[w.heap.size + 1]? = some (.cells #[.int .i64 a0, .slice ae ne ce] 24 (0, 0)) := (hb5.block _ hgz).trans HGJ.out
      have hR0 : w5.cell? ⟨w.heap.size, 0, none⟩ = some (.int .i64 0) := by rw [cell_of_row w5 _ 0 _ 24 (0, 0) hRg5]; rfl
      have hR1 : w5.cell? ⟨w.heap.size, 1, none⟩ = some (.slice none 0 0) := by rw [cell_of_row w5 _ 1 _ 24 (0, 0) hRg5]; rfl
      have hF0 : w5.frozen? ⟨w.heap.size, 0, none⟩ = false := by simp [World.frozen?, hRg5]
      have hF1 : w5.frozen? ⟨w.heap.size, 1, none⟩ = false := by simp [World.frozen?, hRg5]
      have hG0 : w5.cell? ⟨w.heap.size + 1, 0, none⟩ = some (.int .i64 a0) := by rw [cell_of_row w5 _ 0 _ 24 (0, 0) hGj5]; rfl
      have hG1 : w5.cell? ⟨w.heap.size + 1, 1, none⟩ = some (.slice ae ne ce) := by rw [cell_of_row w5 _ 1 _ 24 (0, 0) hGj5]; rfl
      have HB5 : Hid (Below w.heap.size w w5) := HWBR.out.trans (hb5.mono HWBR.out.size)
      have HO5 := hide (ownsI_later HO.out hb5)
      rw [← HE1.out]
      clear hRg5 hGj5 hb5 HCALL HO hg0 hg1
      by_cases he : E = 0
      · have hM : M = ⟨a0, d⟩ := by rw [HM1.out, if_pos he]
        subst he
        subst hM
        clear HM1 HE1
        go_wp2_with fail
        refine bodyPost_ret (v := .tuple #[.agg #[.int .i64 a0, .slice ae ne ce], .int .i64 0]) (by simp [results, Tryd.results6, go_sem, hR0, hR1]) rfl ⟨_, rfl, ?_, (HB5.out.setCell (Nat.le_refl _) _).setCell (Nat.le_refl _) _⟩
        have hgw : w.heap.size < W.heap.size + 1 := by rw [HWZ.out]; omega
        have hO := ownsRow_setCell_below (ownsRow_setCell_below HO5.out (a := ⟨w.heap.size, 0, none⟩) hgw (.int .i64 a0)) (a := ⟨w.heap.size, 1, none⟩) hgw (.slice ae ne ce)
        exact ⟨_, rfl, owns_Bs hO, HLD.out, by simp only [I64]; omega⟩
      · have hM : M = ⟨0, []⟩ := by rw [HM1.out, if_neg he]
        subst hM
        have he' : (E != 0) = true := by simpa using he
        clear HM1 HE1 he
        go_wp2_with fail
        exact bodyPost_ret (v := .tuple #[.agg #[.int .i64 0, .slice none 0 0], .int .i64 E]) (by simp [results, Tryd.results6, go_sem, hR0, hR1]) rfl ⟨_, rfl, Mv_zero _, (HB5.out.setCell (Nat.le_refl _) _).setCell (Nat.le_refl _) _⟩

/-- The answer's 'Parse', whatever it is given. -/
theorem refParse_any (S : ByteArray) (xs : List UInt8) (hxs : S.data.toList = xs) (w : World) (hl : S.size ≤ 140737488355328) :
    Calls Tryd.prog 6 #[.string S] w fun e w' => ∃ v', e = .returned (.tuple #[v', .int .i64 (parseE xs)]) ∧ Mv w' v' (parseM xs) ∧ Below w.heap.size w w' := by
  have hlen : xs.length = S.size := by rw [← hxs, Array.length_toList]; rfl
  have hbad : formL xs = false → parseE xs = 2 ∧ parseM xs = ⟨0, []⟩ := by
    intro h
    have e : parseE xs = 2 := by unfold parseE; rw [h]; rfl
    exact ⟨e, by unfold parseM; rw [e]; rfl⟩
  by_cases h2 : S.size < 2
  · obtain ⟨e1, e2⟩ := hbad (by unfold formL; rw [hlen]; simp; omega)
    rw [e1, e2]
    exact parse_short S w (by omega)
  · have h0 : 0 < S.size := by omega
    have h1 : 1 < S.size := by omega
    have hat : ∀ (j : Nat) (hj : j < S.size), xs.getD j 0 = S[j]'hj := by
      intro j hj
      rw [← hxs]
      simp only [List.getD, Array.getElem?_toList]
      rw [Array.getElem?_eq_getElem (by exact hj)]
      rfl
    have g0 : i8 (xs.getD 0 0) = ((S[0]'h0).toNat : Int) := by rw [hat 0 h0]; rfl
    have g1 : i8 (xs.getD 1 0) = ((S[1]'h1).toNat : Int) := by rw [hat 1 h1]; rfl
    by_cases hh : ((S[0]'h0).toNat : Int) < 48 ∨ 57 < ((S[0]'h0).toNat : Int) ∨ ((S[1]'h1).toNat : Int) ≠ 58 ∨ (S.size : Int) % 2 = 1
    · obtain ⟨e1, e2⟩ := hbad (by
        rw [Bool.eq_false_iff]
        intro hf
        unfold formL at hf
        simp only [Bool.and_eq_true, decide_eq_true_eq] at hf
        rw [g0, g1, hlen] at hf
        omega)
      rw [e1, e2]
      exact parse_head S w (by omega) h0 h1 hl hh
    · refine parse_main S w (by omega) h0 h1 hl (by omega) (by omega) (by simp only [bne_eq_false_iff_eq]; omega) (by simp only [beq_eq_false_iff_ne, ne_eq]; omega) xs hxs (parseE xs) (parseM xs) ?_ ?_
      · show ∀ d, _
        intro d hd hdig
        have hf : formL xs = true := by
          unfold formL
          simp only [Bool.and_eq_true, decide_eq_true_eq]
          rw [g0, g1, hlen]
          refine ⟨by omega, by omega, by omega, by omega, by omega, hdig⟩
        have e : parseE xs = wrongMsgL (((S[0]'h0).toNat : Int) - 48) d := by
          unfold parseE rawM
          rw [if_pos hf, g0, hd]
        refine ⟨e, ?_⟩
        unfold parseM rawM
        rw [g0, hd]
      · show digitsL (xs.drop 2) = false → _
        intro hdig
        exact hbad (by unfold formL; rw [hdig]; simp)
end Go.Proofs.YtlomffhofionnaaDoor.leaf
