/-
  Several texts in one.
-/
import Derived.Test.YtngfedhffehkaacM25
import Derived.Test.YtngfedhffehkaacM22
import Derived.Deep.AppendLies
import Derived.Deep.RegionLaw

/-
  The contracts of what tells what is wrong with a message or a chunk.
-/
namespace Go.Proofs.Ytngfedhffehkaac.leaf
set_option maxRecDepth 10000
set_option linter.unusedSimpArgs false
set_option linter.unusedVariables false
open Go.RowKit
open mth

theorem ite3 (s : Int) (d : List UInt8) (n : Int) (h : n = if s < 0 ∨ 2 < s then 3 else if 6 < d.length then 4 else 0) : Ending.returned (.int .i64 n) = .returned (.int .i64 (wrongMsgL s d)) := by
  rw [h]; rfl

set_option maxHeartbeats 1000000 in
theorem refWrongMsg_any (s : Int) (dv : Value) (d : List UInt8) (w : World) (hd : Bs w dv d) (hm : d.length ≤ maxLen) :
    Calls Try.prog 52 #[.agg #[.int .i64 s, dv]] w fun e w' => e = .returned (.int .i64 (wrongMsgL s d)) ∧ Below w.heap.size w w' := by
  obtain ⟨a, cap, rfl, -⟩ := hd
  unfold maxLen at hm
  go_enter Try.func52, Try.ntmps52
  go_wp2
  all_goals
    go_ret
    exact ⟨ite3 s d _ (by repeat' split
                          all_goals omega), (Below.refl _ _).alloc (Nat.le_refl _) _⟩

/-- The chunk value v holds c. -/
def Cv (w : World) (v : Value) (c : Ch) : Prop :=
  ∃ dv ev, v = .agg #[.int .i64 c.kind, .int .i64 c.number, .int .i64 c.stream, .int .i64 c.place, dv, ev] ∧ Bs w dv c.data ∧ Is w ev c.early ∧ c.data.length ≤ maxLen ∧ I64 c.kind ∧ I64 c.number ∧ I64 c.stream ∧ I64 c.place

theorem Cv.later {w w' : World} {v : Value} {c : Ch} (h : Cv w v c) (hb : Below w.heap.size w w') : Cv w' v c := by
  obtain ⟨dv, ev, rfl, h1, h2, r⟩ := h
  exact ⟨dv, ev, rfl, h1.later hb, h2.later hb, r⟩

theorem ret_eq {r n : Int} (h : n = r) : Ending.returned (.int .i64 n) = .returned (.int .i64 r) := by rw [h]

set_option maxHeartbeats 4000000 in
theorem refWrong_kind (kind number stream place : Int) (dv ev : Value) (w : World) (h1 : (kind != 1) = true) (h2 : (kind != 2) = true) :
    Calls Try.prog 78 #[.agg #[.int .i64 kind, .int .i64 number, .int .i64 stream, .int .i64 place, dv, ev]] w fun e w' => e = .returned (.int .i64 1) ∧ Below w.heap.size w w' := by
  go_enter Try.func78, Try.ntmps78
  go_wp2
  go_ret
  exact ⟨rfl, (Below.refl _ _).alloc (Nat.le_refl _) _⟩

set_option maxHeartbeats 4000000 in
theorem refWrong_one (number stream place : Int) (b : Option Addr) (cb : Nat) (data : List UInt8) (a : Option Addr) (ca : Nat) (early : List Int) (w : World) (hd : Bs w (.slice b data.length cb) data) (hm : data.length ≤ maxLen) (hma : early.length ≤ maxLen)
    (r : Int) (hr : Hid (r = wrongL ⟨1, number, stream, place, data, early⟩)) :
    Calls Try.prog 78 #[.agg #[.int .i64 1, .int .i64 number, .int .i64 stream, .int .i64 place, .slice b data.length cb, .slice a early.length ca]] w fun e w' => e = .returned (.int .i64 r) ∧ Below w.heap.size w w' := by
  have hb0 : Below w.heap.size w (w.alloc (.cells #[.int .i64 1, .int .i64 number, .int .i64 stream, .int .i64 place, .slice b data.length cb, .slice a early.length ca] 86)) := (Below.refl _ _).alloc (Nat.le_refl _) _
  have HB0 := hide hb0
  have HM := hide hm
  have HD := hide hd
  clear hb0 hd
  unfold maxLen at hm hma
  have HR : Hid (r = _) := hr.out.trans (wrongL_one number stream place data early)
  clear hr
  by_cases hle : early.length = 0
  · have hle' : ((early.length : Int) != 0) = false := by simp only [bne_eq_false_iff_eq]; omega
    have HLE := hide hle
    clear hle
    go_enter Try.func78, Try.ntmps78
    go_wp2_with (go_at_call 52; refine (refWrongMsg_any stream (.slice b data.length cb) data _ (HD.out.later HB0.out) HM.out).mono ?_; rintro e w1 ⟨rfl, hb1⟩)
    all_goals
      go_ret
      refine ⟨ret_eq ?_, by first | exact HB0.out | exact HB0.out.trans (hb1.mono HB0.out.size)⟩
      rw [HR.out]
      clear HR
      have hle := HLE.out
      repeat' split
      all_goals first | rfl | omega
  · have hle' : ((early.length : Int) != 0) = true := by simp only [bne_iff_ne, ne_eq]; omega
    have HLE := hide hle
    clear hle
    go_enter Try.func78, Try.ntmps78
    go_wp2
    all_goals
      go_ret
      refine ⟨ret_eq ?_, HB0.out⟩
      rw [HR.out]
      clear HR
      have hle := HLE.out
      repeat' split
      all_goals first | rfl | omega

set_option maxHeartbeats 4000000 in
theorem refWrong_loop (number stream place : Int) (b : Option Addr) (cb : Nat) (dl : Nat) (a : Option Addr) (ca : Nat) (early : List Int) (w : World) (he : Is w (.slice a early.length ca) early) (hm : dl ≤ maxLen) (hn0 : 0 ≤ number) (hn1 : number ≤ 40)
    (hs' : (stream != 0) = false) (hp' : (place != 0) = false) (hd' : ((dl : Int) != 0) = false) (hl : early.length ≤ 3) (r : Int) (hr : Hid (r = if risesL number early = true then 0 else 3)) :
    Calls Try.prog 78 #[.agg #[.int .i64 2, .int .i64 number, .int .i64 stream, .int .i64 place, .slice b dl cb, .slice a early.length ca]] w fun e w' => e = .returned (.int .i64 r) ∧ Below w.heap.size w w' := by
  have hb0 : Below w.heap.size w (w.alloc (.cells #[.int .i64 2, .int .i64 number, .int .i64 stream, .int .i64 place, .slice b dl cb, .slice a early.length ca] 86)) := (Below.refl _ _).alloc (Nat.le_refl _) _
  have hei := he.num
  have he2 := he.later hb0
  have HB0 := hide hb0
  clear hb0 he
  unfold maxLen at hm
  by_cases h0 : early.length = 0
  · obtain rfl : early = [] := List.eq_nil_of_length_eq_zero h0
    have hr0 : r = 0 := hr.out
    subst hr0
    clear he2 hei hr h0
    go_enter Try.func78, Try.ntmps78
    go_wp2
    refine wp_loop_rounds 1 ?_
    rw [rounds_succ]
    go_wp2
    go_ret
    exact ⟨rfl, HB0.out⟩
  · obtain ⟨ba, oa, rfl, hca⟩ := he2.at h0
    have HA := hide hca
    have HI := hide hei
    clear he2 hca hei
    go_enter Try.func78, Try.ntmps78
    go_wp2
    go_loop [3, 73] (fun lo i => ∃ (k : Nat) (l : Int), k ≤ early.length ∧ i = .int .i64 k ∧ lo = .int .i64 l ∧ risesL number early = risesL l (early.drop k)) (fun _ i => early.length - (intOf i).toNat)
    case atStart => exact ⟨0, number, Nat.zero_le _, rfl, rfl, rfl⟩
    case round =>
      obtain ⟨k, l, hk, rfl, rfl, hrs⟩ := hrel
      have HRS := hide hrs
      clear hrs
      by_cases hlt : k < early.length
      · obtain ⟨x, hx⟩ := some_at hlt
        have h1 := HA.out k x hx
        have hlt' : (k : Int) < (early.length : Int) := by omega
        have HX := hide hx
        have HD := hide (rises_drop l early k x hx)
        have hxi := HI.out x (List.mem_of_getElem? hx)
        unfold I64 at hxi
        clear hx
        by_cases hbad : x ≤ l ∨ 39 < x
        · have hf : risesL number early = false := by
            rw [HRS.out, HD.out]
            simp only [Bool.and_eq_false_iff, decide_eq_false_iff_not]
            omega
          have hr3 : r = 3 := by rw [hr.out, hf]; rfl
          subst hr3
          rcases hbad with hbad | hbad
          · clear hr HRS HD hf
            go_wp2
            go_ret
            exact ⟨rfl, HB0.out⟩
          · clear hr HRS HD hf
            by_cases hxl : x ≤ l
            · go_wp2
              go_ret
              exact ⟨rfl, HB0.out⟩
            · go_wp2
              go_ret
              exact ⟨rfl, HB0.out⟩
        · have hg1 : l < x := by omega
          have hg2 : x ≤ 39 := by omega
          clear hbad
          go_wp2
          go_round
          case rel => exact ⟨k + 1, x, by omega, by go_num, rfl, by rw [HRS.out, HD.out]; simp [hg1, hg2]⟩
          case measure => simp [intOf]; omega
      · have ht : risesL number early = true := by
          rw [HRS.out, List.drop_eq_nil_of_le (by omega)]; rfl
        have hr0 : r = 0 := by rw [hr.out, ht]; rfl
        subst hr0
        clear hr HRS ht
        go_wp2
        go_ret
        exact ⟨rfl, HB0.out⟩

set_option maxHeartbeats 4000000 in
theorem refWrong_two (number stream place : Int) (b : Option Addr) (cb : Nat) (data : List UInt8) (a : Option Addr) (ca : Nat) (early : List Int) (w : World) (he : Is w (.slice a early.length ca) early) (hm : data.length ≤ maxLen) (hma : early.length ≤ maxLen) (k2 : I64 number)
    (r : Int) (hr : Hid (r = wrongL ⟨2, number, stream, place, data, early⟩)) :
    Calls Try.prog 78 #[.agg #[.int .i64 2, .int .i64 number, .int .i64 stream, .int .i64 place, .slice b data.length cb, .slice a early.length ca]] w fun e w' => e = .returned (.int .i64 r) ∧ Below w.heap.size w w' := by
  have hb0 : Below w.heap.size w (w.alloc (.cells #[.int .i64 2, .int .i64 number, .int .i64 stream, .int .i64 place, .slice b data.length cb, .slice a early.length ca] 86)) := (Below.refl _ _).alloc (Nat.le_refl _) _
  have HB0 := hide hb0
  have HE := hide he
  clear hb0 he
  unfold maxLen at hm hma
  unfold I64 at k2
  have HR : Hid (r = _) := hr.out.trans (wrongL_two number stream place data early)
  clear hr
  by_cases hs : stream = 0
  · have hs' : (stream != 0) = false := by simpa using hs
    have HS := hide hs
    clear hs
    by_cases hp : place = 0
    · have hp' : (place != 0) = false := by simpa using hp
      have HP := hide hp
      clear hp
      by_cases hd : data.length = 0
      · have hd' : ((data.length : Int) != 0) = false := by simp only [bne_eq_false_iff_eq]; omega
        have HD := hide hd
        clear hd
        by_cases hl : 3 < early.length
        · go_enter Try.func78, Try.ntmps78
          go_wp2
          all_goals
            go_ret
            refine ⟨ret_eq ?_, HB0.out⟩
            rw [HR.out]
            clear HR
            have h1 := HS.out
            have h2 := HP.out
            have h3 := HD.out
            repeat' split
            all_goals first | rfl | omega
        · by_cases hn : number < 0 ∨ 40 < number
          · have hl' : early.length ≤ 3 := by omega
            have : r = 3 := by rw [HR.out, if_pos hn]
            subst this
            clear hl HR
            rcases hn with hn | hn
            · go_enter Try.func78, Try.ntmps78
              go_wp2
              go_ret
              exact ⟨rfl, HB0.out⟩
            · have hn' : ¬ number < 0 := by omega
              go_enter Try.func78, Try.ntmps78
              go_wp2
              go_ret
              exact ⟨rfl, HB0.out⟩
          · refine refWrong_loop number stream place b cb data.length a ca early w HE.out (by unfold maxLen; omega) (by omega) (by omega) hs' hp' hd' (by omega) r ?_
            show r = _
            have h1 := HS.out
            have h2 := HP.out
            have h3 := HD.out
            rw [HR.out, if_neg hn, if_neg (by omega), if_neg (by omega)]
      · have hd' : ((data.length : Int) != 0) = true := by simp only [bne_iff_ne, ne_eq]; omega
        have HD := hide hd
        clear hd
        go_enter Try.func78, Try.ntmps78
        go_wp2
        all_goals
          go_ret
          refine ⟨ret_eq ?_, HB0.out⟩
          rw [HR.out]
          clear HR
          have h1 := HS.out
          have h2 := HP.out
          have h3 := HD.out
          repeat' split
          all_goals first | rfl | omega
    · have hp' : (place != 0) = true := by simpa using hp
      have HP := hide hp
      clear hp
      go_enter Try.func78, Try.ntmps78
      go_wp2
      all_goals
        go_ret
        refine ⟨ret_eq ?_, HB0.out⟩
        rw [HR.out]
        clear HR
        have h1 := HS.out
        have h2 := HP.out
        repeat' split
        all_goals first | rfl | omega
  · have hs' : (stream != 0) = true := by simpa using hs
    have HS := hide hs
    clear hs
    go_enter Try.func78, Try.ntmps78
    go_wp2
    all_goals
      go_ret
      refine ⟨ret_eq ?_, HB0.out⟩
      rw [HR.out]
      clear HR
      have h1 := HS.out
      repeat' split
      all_goals first | rfl | omega

theorem refWrong_any (v : Value) (c : Ch) (w : World) (h : Cv w v c) :
    Calls Try.prog 78 #[v] w fun e w' => e = .returned (.int .i64 (wrongL c)) ∧ Below w.heap.size w w' := by
  obtain ⟨dv, ev, rfl, hd, he, hm, k1, k2, k3, k4⟩ := h
  obtain ⟨kind, number, stream, place, data, early⟩ := c
  simp only at *
  by_cases h1 : kind = 1
  · subst h1
    obtain ⟨a, ca, rfl, hla, hma⟩ := he.shape
    have hd' := hd
    obtain ⟨b, cb, rfl, -⟩ := hd'
    exact refWrong_one number stream place b cb data a ca early w hd hm (by omega) _ rfl
  · by_cases h2 : kind = 2
    · subst h2
      obtain ⟨a, ca, rfl, hla, hma⟩ := he.shape
      obtain ⟨b, cb, rfl, -⟩ := hd
      exact refWrong_two number stream place b cb data a ca early w he hm (by omega) k2 _ rfl
    · rw [wrongL_kind _ h1 h2]
      exact refWrong_kind kind number stream place dv ev w (by simpa using h1) (by simpa using h2)
end Go.Proofs.Ytngfedhffehkaac.leaf

/-
  The contract of what tells which chunk any bytes are.
-/
namespace Go.Proofs.Ytngfedhffehkaac.leaf
set_option maxRecDepth 10000
set_option linter.unusedSimpArgs false
set_option linter.unusedVariables false
open Go.RowKit
open mth

theorem Cv_zero (w : World) : Cv w (.agg #[.int .i64 0, .int .i64 0, .int .i64 0, .int .i64 0, .slice none 0 0, .slice none 0 0]) zeroC :=
  ⟨_, _, rfl, Bs_nil w, Is_nil w, by simp [zeroC], by simp [I64, zeroC], by simp [I64, zeroC], by simp [I64, zeroC], by simp [I64, zeroC]⟩

set_option maxHeartbeats 1000000 in
theorem no_any (e : Int) (w : World) :
    Calls Try.prog 76 #[.int .i64 e] w fun r w' => r = .returned (.tuple #[.agg #[.int .i64 0, .int .i64 0, .int .i64 0, .int .i64 0, .slice none 0 0, .slice none 0 0], .int .i64 e]) ∧ Below w.heap.size w w' := by
  go_enter Try.func76, Try.ntmps76
  go_wp2
  exact bodyPost_ret (v := .tuple #[.agg #[.int .i64 0, .int .i64 0, .int .i64 0, .int .i64 0, .slice none 0 0, .slice none 0 0], .int .i64 e]) (by simp [results, Try.results76, go_sem]) rfl ⟨rfl, (Below.refl _ _).alloc (Nat.le_refl _) _⟩

/-- What was there is there still, and may be written still. -/
theorem bcell {W w1 : World} (hb : Below W.heap.size W w1) : (∀ b o, b < W.heap.size → w1.cell? ⟨b, o, none⟩ = W.cell? ⟨b, o, none⟩) ∧ (∀ b o, b < W.heap.size → w1.frozen? ⟨b, o, none⟩ = W.frozen? ⟨b, o, none⟩) :=
  ⟨fun b o h => hb.cell (p := ⟨b, o, none⟩) h, fun b o h => hb.frozen (p := ⟨b, o, none⟩) h⟩

end Go.Proofs.Ytngfedhffehkaac.leaf

/-
  The contract of what tells which chunk any bytes are: of another kind than data.
-/
namespace Go.Proofs.Ytngfedhffehkaac.leaf
set_option maxRecDepth 10000
set_option linter.unusedSimpArgs false
set_option linter.unusedVariables false
open Go.RowKit
open mth

theorem Bs_byte {w : World} {b off cap n : Nat} {xs : List UInt8} (h : Bs w (.slice (some ⟨b, off, none⟩) n cap) xs) (i : Nat) (x : UInt8) (hx : xs[i]? = some x) : w.cell? ⟨b, off + i, none⟩ = some (.int .u8 (i8 x)) := by
  obtain ⟨a', cap', hv, hlc, hno, hc⟩ := h
  injection hv with h1 _ h2
  subst h1 h2
  obtain ⟨z, hz, hcc⟩ := hc i (List.getElem?_eq_some_iff.1 hx).1
  simp at hz
  subst hz
  rw [Addr.add_lit] at hcc
  rw [hcc]
  simp [List.getD, hx, i8]

theorem info3 : (Try.prog.info? 3).map (fun i => (i.zero, i.size, i.bytes)) = some (some (.int .i64 0), 1, 8) := by kernel_rfl
theorem one_new (w : World) (v : Value) : ∀ (j : Nat) (u : Value), [v][j]? = some u → (w.alloc (.cells #[v] 3)).cell? ((⟨w.heap.size, 0, none⟩ : Addr).add j) = some u := by
  intro j u hj
  rw [Addr.add_lit, Nat.zero_add, World.cell?_alloc_mark]
  simpa using hj
theorem one_one (n : Int) : ∀ u ∈ [Value.int .i64 n], u.oneCell' = true := by
  intro u hu
  simp at hu
  subst hu
  rfl
theorem store_cell {wr w2 : World} {ev : Value} {g : Nat} {o : Obj} {u : Value} (hne : ∀ (q : Nat), ev.ownBlock = some q → g < q) (hg : ((wr.alloc o).drew).grownBy w2 ev.ownBlock) (hz : g < wr.heap.size) (h : wr.cell? ⟨g, 5, none⟩ = some u) : w2.cell? ⟨g, 5, none⟩ = some u := by
  have h1 := hg.cell_far ⟨g, 5, none⟩ (by simp; omega) (fun e => by have := hne g e.symm; omega)
  rw [h1]
  have h2 : (wr.alloc o).drew.cell? ⟨g, 5, none⟩ = wr.cell? ⟨g, 5, none⟩ := World.cell?_of_block (w := wr) (Below.heap_alloc wr o g hz)
  rw [h2, h]
theorem store_free {wr w2 : World} {ev : Value} {g : Nat} {o : Obj} (hne : ∀ (q : Nat), ev.ownBlock = some q → g < q) (hg : ((wr.alloc o).drew).grownBy w2 ev.ownBlock) (hz : g < wr.heap.size) (h : wr.frozen? ⟨g, 5, none⟩ = false) : w2.frozen? ⟨g, 5, none⟩ = false := by
  have h1 := hg.frozen_far ⟨g, 5, none⟩ (by simp; omega) (fun e => by have := hne g e.symm; omega)
  rw [h1]
  have h2 : (wr.alloc o).drew.frozen? ⟨g, 5, none⟩ = wr.frozen? ⟨g, 5, none⟩ := World.frozen?_of_block (w := wr) (Below.heap_alloc wr o g hz)
  rw [h2, h]
theorem many_step {w1 wr w2 : World} {ev v u : Value} {g n j : Nat} {o : Obj} {cs : Array Value} {t e : TypeId} {L : List Value} (hg : g = w1.heap.size) (hne : ∀ (q : Nat), ev.ownBlock = some q → g < q)
    (hgr : wr.heap[g]? = some (.cells cs t (0, 0))) (hgrow : ((wr.alloc o).drew).grownBy w2 ev.ownBlock) (hown : w2.ownsRow (g + 1) e 1 v n L) (hbr : Below w1.heap.size w1 wr) :
    (w2.setCell ⟨g, j, none⟩ u).heap[g]? = some (.cells (cs.setIfInBounds j u) t (0, 0)) ∧ (w2.setCell ⟨g, j, none⟩ u).ownsRow (g + 1) e 1 v n L ∧ Below w1.heap.size w1 (w2.setCell ⟨g, j, none⟩ u) := by
  have hz : g < wr.heap.size := (Array.getElem?_eq_some_iff.1 hgr).1
  have h1 : w2.heap[g]? = some (.cells cs t (0, 0)) := by
    rw [hgrow.block g (by simp; omega) (fun e => by have := hne g e.symm; omega)]
    exact (Below.heap_alloc wr o g hz).trans hgr
  refine ⟨heap_setCell_same w2 g j cs t u h1, ownsRow_setCell_below hown (by simp) u, ?_⟩
  have h2 : Below w1.heap.size w1 ((wr.alloc o).drew) := Below.drew (hbr.alloc hbr.size o)
  exact (h2.grown hgrow h2.size (fun q hq => by have := hne q hq; omega)).setCell (by simp; omega) u
def V64 (x : UInt8) : Value := .int .i64 (i8 x)
theorem drop_snoc (x : List UInt8) (k : Nat) (y : UInt8) (hy : x[k]? = some y) (h2 : 2 ≤ k) : ((x.drop 2).take (k + 1 - 2)).map V64 = ((x.drop 2).take (k - 2)).map V64 ++ [V64 y] := by
  have e : k + 1 - 2 = (k - 2) + 1 := by omega
  rw [e, List.take_add_one, List.getElem?_drop]
  have : 2 + (k - 2) = k := by omega
  rw [this, hy]
  simp

theorem ownsI_later {w w' : World} {base n : Nat} {v : Value} {e : TypeId} {xs : List Value} (h : w.ownsRow base e 1 v n xs) (hb : Below w.heap.size w w') : w'.ownsRow base e 1 v n xs := by
  obtain ⟨h1, h2⟩ := h
  refine ⟨h1, ?_⟩
  rcases h2 with h2 | ⟨g, cap, cur, hv, hg, hh, r⟩
  · exact .inl h2
  · exact .inr ⟨g, cap, cur, hv, hg, (hb.block g (Array.getElem?_eq_some_iff.1 hh).1).trans hh, r⟩
theorem owns_Is {w : World} {base n : Nat} {v : Value} {ys : List UInt8} (h : w.ownsRow base 3 1 v n (ys.map V64)) : Is w v (ys.map i8) := by
  obtain ⟨h1, h2⟩ := h
  simp at h1
  subst h1
  rcases h2 with ⟨rfl, h0⟩ | ⟨g, cap, cur, rfl, _, hh, hn, hm, hs, ht⟩
  · obtain rfl : ys = [] := List.eq_nil_of_length_eq_zero h0
    exact Is_nil w
  · refine ⟨some ⟨g, 0, none⟩, cap, by simp, by simpa using hn, fun h => by simp at h, fun i hi => ⟨_, rfl, ?_⟩, ?_, hm⟩
    · simp at hi
      rw [Addr.add_lit, Nat.zero_add, cell_of_row w g i cur 3 (0, 0) hh]
      have h3 : cur[i]? = (ys.map V64)[i]? := by
        rw [← ht, Nat.mul_one, List.getElem?_take_of_lt hi, Array.getElem?_toList]
      rw [h3]
      simp [hi, V64, List.getD]
    · intro m hm'
      obtain ⟨y, _, rfl⟩ := List.mem_map.1 hm'
      have := y.toNat_lt
      unfold I64 i8
      omega

end Go.Proofs.Ytngfedhffehkaac.leaf
