/-
  The contract of the program's reading of bytes, whole.
-/
import Derived.Test.YtlomffhofionnaaLandRead
namespace Go.Proofs.Ytlomffhofionnaa.leaf
set_option linter.unusedVariables false
open Go.RowKit
open mth

theorem from_any (v : Value) (x : List UInt8) (w : World) (h : Bs w v x) (hm : x.length ≤ 1048600) (hs : shortL x = false) :
    Calls Try.prog 31 #[v] w fun e w' => ∃ v', e = .returned v' ∧ Cv w' v' (fromL x) ∧ Fresh w.heap.size v' ∧ Below w.heap.size w w' := by
  simp only [shortL, Bool.or_eq_false_iff, decide_eq_false_iff_not, Bool.and_eq_false_iff] at hs
  obtain ⟨b, o, c, rfl, hlc, hb⟩ := Bs_some h (by omega)
  obtain ⟨x0, hx0⟩ := some_at (xs := x) (k := 0) (by omega)
  obtain ⟨x1, hx1⟩ := some_at (xs := x) (k := 1) (by omega)
  have g0 : x.getD 0 0 = x0 := by simp [List.getD, hx0]
  have g1 : x.getD 1 0 = x1 := by simp [List.getD, hx1]
  rw [g0] at hs
  unfold fromL
  rw [g0, g1]
  by_cases h1 : i8 x0 = 1
  · obtain ⟨x2, hx2⟩ := some_at (xs := x) (k := 2) (by omega)
    obtain ⟨x3, hx3⟩ := some_at (xs := x) (k := 3) (by omega)
    have g2 : x.getD 2 0 = x2 := by simp [List.getD, hx2]
    have g3 : x.getD 3 0 = x3 := by simp [List.getD, hx3]
    rw [if_pos h1, g2, g3]
    exact from_data b o c x w h (by omega) x0 x1 x2 x3 hx0 hx1 hx2 hx3 h1
  · rw [if_neg h1]
    by_cases h2 : i8 x0 = 2
    · rw [if_pos h2]
      exact from_ack b o c x w h hm x0 x1 hx0 hx1 h2
    · rw [if_neg h2]
      exact from_kind b o c x w h (by omega) x0 x1 hx0 hx1 h1 h2

/-- What a chunk is made of, all slices named. -/
theorem Cv.parts {w : World} {v : Value} {c : Ch} (h : Cv w v c) : ∃ a1 n1 c1 a2 n2 c2, v = .agg #[.int .i64 c.kind, .int .i64 c.number, .int .i64 c.stream, .int .i64 c.place, .slice a1 n1 c1, .slice a2 n2 c2] := by
  obtain ⟨dv, ev, rfl, ⟨a1, c1, rfl, -⟩, ⟨a2, c2, rfl, -⟩, -⟩ := h
  exact ⟨_, _, _, _, _, _, rfl⟩

set_option maxHeartbeats 4000000 in
theorem landRead_spoilt (a : Option Addr) (cap : Nat) (xs : List UInt8) (w : World) (h : Bs w (.slice a xs.length cap) xs) (hr : xs.length ≤ 140737488355328) (hk : okL xs = false) :
    Calls Try.prog 22 #[.slice a xs.length cap] w fun e w' => ∃ v', e = .returned (.tuple #[v', .int .i64 7]) ∧ Cv w' v' zeroC ∧ Below w.heap.size w w' := by
  have hb0 : Below w.heap.size w (w.alloc (.cells #[.int .i64 0, .int .i64 0, .int .i64 0, .int .i64 0, .slice none 0 0, .slice none 0 0] 32)) := (Below.refl _ _).alloc (Nat.le_refl _) _
  have HO := hide (open_any a cap xs _ (h.later hb0) hr)
  rw [hk] at HO
  have HB0 := hide hb0
  clear h hb0
  go_enter Try.func22, Try.ntmps22
  go_wp2_with fail
  refine HO.out.mono ?_
  rintro e w1 ⟨v1, rfl, -, hb1⟩
  clear HO
  obtain ⟨hc1, hf1⟩ := bcell hb1
  have hz1 : w.heap.size < w1.heap.size := by have := hb1.size; simp at this; omega
  go_wp2_with fail
  have hb : Below w.heap.size w w1 := HB0.out.trans (hb1.mono (by simp))
  exact bodyPost_ret (v := .tuple #[.agg #[.int .i64 0, .int .i64 0, .int .i64 0, .int .i64 0, .slice none 0 0, .slice none 0 0], .int .i64 7]) (by simp [results, Try.results22, go_sem, hc1]) rfl ⟨_, rfl, Cv_zero _, six_below hb (Nat.le_refl _)⟩

set_option maxHeartbeats 4000000 in
theorem landRead_short (a : Option Addr) (cap : Nat) (xs : List UInt8) (w : World) (h : Bs w (.slice a xs.length cap) xs) (hr : xs.length ≤ 140737488355328) (hk : okL xs = true) (hsh : shortL (openL xs) = true) (hlen : (openL xs).length ≤ 140737488355328) :
    Calls Try.prog 22 #[.slice a xs.length cap] w fun e w' => ∃ v', e = .returned (.tuple #[v', .int .i64 8]) ∧ Cv w' v' zeroC ∧ Below w.heap.size w w' := by
  have hb0 : Below w.heap.size w (w.alloc (.cells #[.int .i64 0, .int .i64 0, .int .i64 0, .int .i64 0, .slice none 0 0, .slice none 0 0] 32)) := (Below.refl _ _).alloc (Nat.le_refl _) _
  have HO := hide (open_any a cap xs _ (h.later hb0) hr)
  rw [hk] at HO
  have HB0 := hide hb0
  have HS := hide hsh
  clear h hb0 hsh
  go_enter Try.func22, Try.ntmps22
  go_wp2_with fail
  refine HO.out.mono ?_
  rintro e w1 ⟨v1, rfl, hB1, hb1⟩
  clear HO
  obtain ⟨hc1, hf1⟩ := bcell hb1
  have hz1 : w.heap.size < w1.heap.size := by have := hb1.size; simp at this; omega
  have HE := hide (endsTooSoon_any v1 _ w1 hB1 hlen)
  rw [HS.out] at HE
  clear HS hB1
  go_wp2_with fail
  refine HE.out.mono ?_
  rintro e w2 ⟨rfl, rfl⟩
  go_wp2_with fail
  have hb : Below w.heap.size w w1 := HB0.out.trans (hb1.mono (by simp))
  exact bodyPost_ret (v := .tuple #[.agg #[.int .i64 0, .int .i64 0, .int .i64 0, .int .i64 0, .slice none 0 0, .slice none 0 0], .int .i64 8]) (by simp [results, Try.results22, go_sem, hc1]) rfl ⟨_, rfl, Cv_zero _, six_below hb (Nat.le_refl _)⟩

set_option maxHeartbeats 8000000 in
theorem landRead_long (a : Option Addr) (cap : Nat) (xs : List UInt8) (w : World) (h : Bs w (.slice a xs.length cap) xs) (hr : xs.length ≤ 140737488355328) (hk : okL xs = true) (hsh : shortL (openL xs) = false) (hlen : (openL xs).length ≤ 1048600) (c : Ch) (hc : c = fromL (openL xs)) :
    Calls Try.prog 22 #[.slice a xs.length cap] w fun e w' => ∃ v', e = .returned (.tuple #[v', .int .i64 (wrongL c)]) ∧ Cv w' v' (if wrongL c = 0 then c else zeroC) ∧ Below w.heap.size w w' := by
  have hb0 : Below w.heap.size w (w.alloc (.cells #[.int .i64 0, .int .i64 0, .int .i64 0, .int .i64 0, .slice none 0 0, .slice none 0 0] 32)) := (Below.refl _ _).alloc (Nat.le_refl _) _
  have HO := hide (open_any a cap xs _ (h.later hb0) hr)
  rw [hk] at HO
  have HB0 := hide hb0
  have HS := hide hsh
  have HC := hide hc
  clear h hb0 hsh hc
  go_enter Try.func22, Try.ntmps22
  go_wp2_with fail
  refine HO.out.mono ?_
  rintro e w1 ⟨v1, rfl, hB1, hb1⟩
  clear HO
  have hR1 : w1.heap[w.heap.size]? = some (.cells #[.int .i64 0, .int .i64 0, .int .i64 0, .int .i64 0, .slice none 0 0, .slice none 0 0] 32 (0, 0)) := (hb1.block _ (by simp)).trans (heap_alloc_new w _)
  have hz1 : w.heap.size < w1.heap.size := by have := hb1.size; simp at this; omega
  have hbb : Below w.heap.size w w1 := HB0.out.trans (hb1.mono (by simp))
  have HE := hide (endsTooSoon_any v1 _ w1 hB1 (by omega))
  rw [HS.out] at HE
  have HF := hide (from_any v1 _ w1 hB1 hlen HS.out)
  rw [← HC.out] at HF
  have HR1 := hide hR1
  have HBB := hide hbb
  clear HS hB1 hb1 hbb hR1 HB0
  go_wp2_with fail
  refine HE.out.mono ?_
  rintro e w2 ⟨rfl, rfl⟩
  clear HE
  go_wp2_with fail
  refine HF.out.mono ?_
  rintro e w2 ⟨v2, rfl, hC2, hF2, hb2⟩
  clear HF
  obtain ⟨a3, n3, c3, a4, n4, c4, rfl⟩ := hC2.parts
  have hR2 : w2.heap[w.heap.size]? = some (.cells #[.int .i64 0, .int .i64 0, .int .i64 0, .int .i64 0, .slice none 0 0, .slice none 0 0] 32 (0, 0)) := (hb2.block _ hz1).trans HR1.out
  have hbb2 : Below w.heap.size w w2 := HBB.out.trans (hb2.mono (by omega))
  have hz2 : w.heap.size < w2.heap.size := by have := hb2.size; omega
  have HC2 := hide hC2
  have HF2 := hide hF2
  have HR2 := hide hR2
  have HBB2 := hide hbb2
  clear hC2 hF2 hb2 hbb2 hR2 HR1 HBB
  go_wp2_with fail
  have hbX : Below w2.heap.size w2 (w2.alloc (.cells #[.int .i64 c.kind, .int .i64 c.number, .int .i64 c.stream, .int .i64 c.place, .slice a3 n3 c3, .slice a4 n4 c4] 32)) := (Below.refl _ _).alloc (Nat.le_refl _) _
  refine (landWrong_any _ c _ (HC2.out.later hbX)).mono ?_
  rintro e w3 ⟨rfl, hb3⟩
  have hG3 : w3.heap[w2.heap.size]? = some (.cells #[.int .i64 c.kind, .int .i64 c.number, .int .i64 c.stream, .int .i64 c.place, .slice a3 n3 c3, .slice a4 n4 c4] 32 (0, 0)) := (hb3.block _ (by simp)).trans (heap_alloc_new w2 _)
  have hR3 : w3.heap[w.heap.size]? = some (.cells #[.int .i64 0, .int .i64 0, .int .i64 0, .int .i64 0, .slice none 0 0, .slice none 0 0] 32 (0, 0)) := (hb3.block _ (by simp; omega)).trans ((Below.heap_alloc w2 _ _ hz2).trans HR2.out)
  have hbb3 : Below w2.heap.size w2 w3 := hbX.trans (hb3.mono (by simp))
  have HC3 := hide (HC2.out.later hbb3)
  have HO3 := hide (HBB2.out.trans (hbb3.mono (by omega)))
  obtain ⟨hs0, hs1, hs2, hs3, hs4, hs5⟩ := row_cells hG3
  obtain ⟨hr0, hr1, hr2, hr3, hr4, hr5⟩ := row_cells hR3
  have hrf : ∀ o, w3.frozen? ⟨w.heap.size, o, none⟩ = false := fun o => by simp [World.frozen?, hR3]
  have hne : ¬ w2.heap.size = w.heap.size := by omega
  clear hbX hb3 hG3 hR3 hbb3 HC2 HBB2 HR2
  by_cases he : wrongL c = 0
  · rw [he]
    go_wp2_with fail
    refine bodyPost_ret (v := .tuple #[.agg #[.int .i64 c.kind, .int .i64 c.number, .int .i64 c.stream, .int .i64 c.place, .slice a3 n3 c3, .slice a4 n4 c4], .int .i64 0]) (by simp [results, Try.results22, go_sem, hr0, hr1, hr2, hr3, hr4, hr5]) rfl ⟨_, rfl, ?_, six_below HO3.out (Nat.le_refl _)⟩
    exact Cv_setCell (Cv_setCell (Cv_setCell (Cv_setCell (Cv_setCell (Cv_setCell HC3.out HF2.out hz1) HF2.out hz1) HF2.out hz1) HF2.out hz1) HF2.out hz1) HF2.out hz1
  · have he' : (wrongL c != 0) = true := by simpa using he
    have HE := hide he
    clear he
    go_wp2_with fail
    refine bodyPost_ret (v := .tuple #[.agg #[.int .i64 0, .int .i64 0, .int .i64 0, .int .i64 0, .slice none 0 0, .slice none 0 0], .int .i64 (wrongL c)]) (by simp [results, Try.results22, go_sem, hr0, hr1, hr2, hr3, hr4, hr5]) rfl ⟨_, rfl, ?_, six_below HO3.out (Nat.le_refl _)⟩
    exact Cv_zero _

/-- The program's 'Read', whatever it is given, to some 1,000,000 bytes. -/
theorem landRead_any (a : Option Addr) (cap : Nat) (xs : List UInt8) (w : World) (h : Bs w (.slice a xs.length cap) xs) (hr : xs.length ≤ 140737488355328) (hlen : xs.length ≤ 1048600) :
    Calls Try.prog 22 #[.slice a xs.length cap] w fun e w' => ∃ v', e = .returned (.tuple #[v', .int .i64 (readE xs)]) ∧ Cv w' v' (readC xs) ∧ Below w.heap.size w w' := by
  have hl := len_openL xs
  cases hk : okL xs with
  | false =>
    have e1 : readE xs = 7 := by simp [readE, hk]
    have e2 : readC xs = zeroC := by simp [readC, e1]
    rw [e1, e2]
    exact landRead_spoilt a cap xs w h hr hk
  | true =>
    cases hs : shortL (openL xs) with
    | true =>
      have e1 : readE xs = 8 := by simp [readE, hk, hs]
      have e2 : readC xs = zeroC := by simp [readC, e1]
      rw [e1, e2]
      exact landRead_short a cap xs w h hr hk hs (by omega)
    | false =>
      have e1 : readE xs = wrongL (fromL (openL xs)) := by rw [(fromL_fields _).1]; simp [readE, hk, hs]
      have e2 : readC xs = if wrongL (fromL (openL xs)) = 0 then fromL (openL xs) else zeroC := by
        unfold readC
        rw [e1]
        by_cases h0 : wrongL (fromL (openL xs)) = 0
        · rw [if_pos h0, if_pos h0, (fromL_fields _).2 (by rw [← (fromL_fields _).1]; exact h0)]
        · rw [if_neg h0, if_neg h0]
      rw [e1, e2]
      exact landRead_long a cap xs w h hr hk hs (by omega) _ rfl
end Go.Proofs.Ytlomffhofionnaa.leaf
