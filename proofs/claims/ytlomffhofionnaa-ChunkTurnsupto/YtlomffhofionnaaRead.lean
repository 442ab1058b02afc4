/-
  The contract of what tells which chunk any bytes are.
-/
import Derived.Test.YtlomffhofionnaaWrong
import Derived.Test.YtlomffhofionnaaPureRead
import Derived.Deep.AppendLies
import Derived.Deep.RegionLaw
namespace Go.Proofs.Ytlomffhofionnaa.leaf
set_option linter.unusedVariables false
open Go.RowKit
open mth

theorem Cv_zero (w : World) : Cv w (.agg #[.int .i64 0, .int .i64 0, .int .i64 0, .int .i64 0, .slice none 0 0, .slice none 0 0]) zeroC :=
  ⟨_, _, rfl, Bs_nil w, Is_nil w, by simp [zeroC], by simp [I64, zeroC], by simp [I64, zeroC], by simp [I64, zeroC], by simp [I64, zeroC]⟩

set_option maxHeartbeats 1000000 in
theorem no_any (e : Int) (w : World) :
    Calls Try.prog 32 #[.int .i64 e] w fun r w' => r = .returned (.tuple #[.agg #[.int .i64 0, .int .i64 0, .int .i64 0, .int .i64 0, .slice none 0 0, .slice none 0 0], .int .i64 e]) ∧ Below w.heap.size w w' := by
  go_enter Try.func32, Try.ntmps32
  go_wp2
  exact bodyPost_ret (v := .tuple #[.agg #[.int .i64 0, .int .i64 0, .int .i64 0, .int .i64 0, .slice none 0 0, .slice none 0 0], .int .i64 e]) (by simp [results, Try.results32, go_sem]) rfl ⟨rfl, (Below.refl _ _).alloc (Nat.le_refl _) _⟩

/-- What was there is there still, and may be written still. -/
theorem bcell {W w1 : World} (hb : Below W.heap.size W w1) : (∀ b o, b < W.heap.size → w1.cell? ⟨b, o, none⟩ = W.cell? ⟨b, o, none⟩) ∧ (∀ b o, b < W.heap.size → w1.frozen? ⟨b, o, none⟩ = W.frozen? ⟨b, o, none⟩) :=
  ⟨fun b o h => hb.cell (p := ⟨b, o, none⟩) h, fun b o h => hb.frozen (p := ⟨b, o, none⟩) h⟩

set_option maxHeartbeats 4000000 in
theorem refRead_spoilt (a : Option Addr) (cap : Nat) (xs : List UInt8) (w : World) (h : Bs w (.slice a xs.length cap) xs) (hr : xs.length ≤ 140737488355328) (hk : okL xs = false) :
    Calls Try.prog 23 #[.slice a xs.length cap] w fun e w' => ∃ v', e = .returned (.tuple #[v', .int .i64 7]) ∧ Cv w' v' zeroC ∧ Below w.heap.size w w' := by
  have hb0 : Below w.heap.size w (w.alloc (.cells #[.int .i64 0, .int .i64 0, .int .i64 0, .int .i64 0, .slice none 0 0, .slice none 0 0] 32)) := (Below.refl _ _).alloc (Nat.le_refl _) _
  have HO := hide (refOpen_any a cap xs _ (h.later hb0) hr)
  rw [hk] at HO
  have HB0 := hide hb0
  clear h hb0
  go_enter Try.func23, Try.ntmps23
  go_wp2_with fail
  refine HO.out.mono ?_
  rintro e w1 ⟨v1, rfl, -, hb1⟩
  clear HO
  obtain ⟨hc1, hf1⟩ := bcell hb1
  have hz1 : w.heap.size < w1.heap.size := by have := hb1.size; simp at this; omega
  go_wp2_with fail
  refine (no_any 7 w1).mono ?_
  rintro e w2 ⟨rfl, hb2⟩
  obtain ⟨hc2, hf2⟩ := bcell hb2
  go_wp2_with fail
  have hb : Below w.heap.size w w2 := (HB0.out.trans (hb1.mono (by simp))).trans (hb2.mono (by omega))
  refine bodyPost_ret (v := .tuple #[.agg #[.int .i64 0, .int .i64 0, .int .i64 0, .int .i64 0, .slice none 0 0, .slice none 0 0], .int .i64 7]) (by simp [results, Try.results23, go_sem, hc1, hc2, hz1]) rfl ⟨_, rfl, Cv_zero _, ?_⟩
  exact (((((hb.setCell (Nat.le_refl _) _).setCell (Nat.le_refl _) _).setCell (Nat.le_refl _) _).setCell (Nat.le_refl _) _).setCell (Nat.le_refl _) _).setCell (Nat.le_refl _) _

set_option maxHeartbeats 4000000 in
theorem refRead_short (a : Option Addr) (cap : Nat) (xs : List UInt8) (w : World) (h : Bs w (.slice a xs.length cap) xs) (hr : xs.length ≤ 140737488355328) (hk : okL xs = true) (hsh : shortL (openL xs) = true) :
    Calls Try.prog 23 #[.slice a xs.length cap] w fun e w' => ∃ v', e = .returned (.tuple #[v', .int .i64 8]) ∧ Cv w' v' zeroC ∧ Below w.heap.size w w' := by
  have hb0 : Below w.heap.size w (w.alloc (.cells #[.int .i64 0, .int .i64 0, .int .i64 0, .int .i64 0, .slice none 0 0, .slice none 0 0] 32)) := (Below.refl _ _).alloc (Nat.le_refl _) _
  have HO := hide (refOpen_any a cap xs _ (h.later hb0) hr)
  rw [hk] at HO
  have HB0 := hide hb0
  have HS := hide hsh
  clear h hb0 hsh
  go_enter Try.func23, Try.ntmps23
  go_wp2_with fail
  refine HO.out.mono ?_
  rintro e w1 ⟨v1, rfl, hB1, hb1⟩
  clear HO
  obtain ⟨x, hx⟩ : ∃ x, x = openL xs := ⟨_, rfl⟩
  rw [← hx] at hB1 HS
  clear hx
  obtain ⟨hc1, hf1⟩ := bcell hb1
  have hz1 : w.heap.size < w1.heap.size := by have := hb1.size; simp at this; omega
  have hbb : Below w.heap.size w w1 := HB0.out.trans (hb1.mono (by simp))
  have HBB := hide hbb
  clear hb1 hbb HB0
  by_cases hl : x.length < 2
  · obtain ⟨a1, c1, rfl, -⟩ := hB1
    have hl' : (x.length : Int) < 2 := by omega
    go_wp2_with fail
    refine (no_any 8 w1).mono ?_
    rintro e w2 ⟨rfl, hb2⟩
    obtain ⟨hc2, hf2⟩ := bcell hb2
    go_wp2_with fail
    have hb : Below w.heap.size w w2 := HBB.out.trans (hb2.mono (by omega))
    refine bodyPost_ret (v := .tuple #[.agg #[.int .i64 0, .int .i64 0, .int .i64 0, .int .i64 0, .slice none 0 0, .slice none 0 0], .int .i64 8]) (by simp [results, Try.results23, go_sem, hc1, hc2, hz1]) rfl ⟨_, rfl, Cv_zero _, ?_⟩
    exact (((((hb.setCell (Nat.le_refl _) _).setCell (Nat.le_refl _) _).setCell (Nat.le_refl _) _).setCell (Nat.le_refl _) _).setCell (Nat.le_refl _) _).setCell (Nat.le_refl _) _
  · have hs := HS.out
    simp only [shortL, Bool.or_eq_true, decide_eq_true_eq, Bool.and_eq_true] at hs
    have h1 : i8 (x.getD 0 0) = 1 ∧ x.length < 4 := by omega
    obtain ⟨a1, c1, rfl, hlc, hno, hc⟩ := hB1
    obtain ⟨z, rfl, hz⟩ := hc 0 (by omega)
    obtain ⟨b1, o1, spot⟩ := z
    have hspot : spot = none := by simpa [Addr.add] using World.cell?_spot hz
    subst hspot
    have hcell : w1.cell? ⟨b1, o1, none⟩ = some (.int .u8 1) := by
      have : w1.cell? ⟨b1, o1, none⟩ = some (.int .u8 (i8 (x.getD 0 0))) := by simpa [Addr.add, i8] using hz
      rw [this, h1.1]
    have hl2 : (2 : Int) ≤ (x.length : Int) := by omega
    have hl4 : (x.length : Int) < 4 := by omega
    clear hz hc hs h1 hl
    go_wp2_with fail
    refine (no_any 8 w1).mono ?_
    rintro e w2 ⟨rfl, hb2⟩
    obtain ⟨hc2, hf2⟩ := bcell hb2
    go_wp2_with fail
    have hb : Below w.heap.size w w2 := HBB.out.trans (hb2.mono (by omega))
    refine bodyPost_ret (v := .tuple #[.agg #[.int .i64 0, .int .i64 0, .int .i64 0, .int .i64 0, .slice none 0 0, .slice none 0 0], .int .i64 8]) (by simp [results, Try.results23, go_sem, hc1, hc2, hz1]) rfl ⟨_, rfl, Cv_zero _, ?_⟩
    exact (((((hb.setCell (Nat.le_refl _) _).setCell (Nat.le_refl _) _).setCell (Nat.le_refl _) _).setCell (Nat.le_refl _) _).setCell (Nat.le_refl _) _).setCell (Nat.le_refl _) _
end Go.Proofs.Ytlomffhofionnaa.leaf
