/-
  The contract of the closed fact that is asked first.
-/
import Derived.Test.YtlomffhofionnaaRefOpen
import Derived.Lib.SlBytesConst
namespace Go.Proofs.Ytlomffhofionnaa.leaf
set_option linter.unusedVariables false
open Go.RowKit
open mth

/-- Open at what was sealed. -/
theorem open_sealed (g cap : Nat) (xs : List UInt8) (w : World) (h : Bs w (.slice (some ⟨g, 0, none⟩) (xs.length + 2) cap) (sealL xs)) (hr : xs.length + 2 ≤ 140737488355328) :
    Calls Try.prog 9 #[.slice (some ⟨g, 0, none⟩) (xs.length + 2) cap] w fun e w' => ∃ v', e = .returned (.tuple #[v', .bool true]) ∧ Bs w' v' xs ∧ Below w.heap.size w w' := by
  have e : (sealL xs).length = xs.length + 2 := length_sealL xs
  have := open_any (some ⟨g, 0, none⟩) cap (sealL xs) w (by rw [e]; exact h) (by rw [e]; exact hr)
  rw [ok_seal, open_seal, e] at this
  exact this
theorem open_nil (w : World) : Calls Try.prog 9 #[.slice none 0 0] w fun e w' => ∃ v', e = .returned (.tuple #[v', .bool false]) ∧ Below w.heap.size w w' := by
  have := open_any none 0 [] w (Bs_nil w) (by simp)
  exact this.mono fun e w' ⟨v', h1, _, h2⟩ => ⟨v', h1, h2⟩
theorem of_nil (w : World) : Calls Try.prog 11 #[.slice none 0 0] w fun e w' => e = .returned (.int .i64 7) ∧ w = w' :=
  of_any none 0 [] w (Bs_nil w) (by unfold maxLen; simp)

theorem Bs_ab (w : World) : Bs (w.alloc (.cells #[.int .u8 97, .int .u8 98] 5 (2, 3))) (.slice (some ⟨w.heap.size, 0, none⟩) 2 2) [97, 98] := by
  refine ⟨_, _, rfl, by simp, fun h => by simp at h, fun i hi => ⟨_, rfl, ?_⟩⟩
  rw [Addr.add_lit, Nat.zero_add, World.cell?_alloc_mark]
  match i, hi with
  | 0, _ => rfl
  | 1, _ => rfl

set_option maxHeartbeats 2000000 in
theorem alive_any (w : World) : Calls Try.prog 15 #[] w fun e w' => e = .returned (.bool true) ∧ Below w.heap.size w w' := by
  have kc := fun (w : World) (C : Array Value) (n c : Nat) => Lib.run_convert_bytes_const (P := Try.prog) w 22 5 C n c Try.underlying22 Try.underlying5
  go_enter Try.func15, Try.ntmps15
  go_wp2_with fail
  have hb0 : Below w.heap.size w (w.alloc (.cells #[.int .u8 97, .int .u8 98] 5 (2, 3))) := (Below.refl _ _).alloc (Nat.le_refl _) _
  have hs := seal_any (some ⟨w.heap.size, 0, none⟩) 2 [97, 98] _ (Bs_ab w) (by simp)
  generalize w.alloc (.cells #[.int .u8 97, .int .u8 98] 5 (2, 3)) = u at *
  refine hs.mono ?_
  clear hs kc
  rintro e w1 ⟨rfl, hown1, hb1⟩
  simp only []
  go_wp2_with fail
  have ho := open_sealed u.heap.size 4 [97, 98] w1 (owns_Bs hown1) (by simp)
  refine ho.mono ?_
  clear ho
  rintro e w2 ⟨v2, rfl, hB2, hb2⟩
  go_wp2_with fail
  refine (open_nil w2).mono ?_
  rintro e w3 ⟨v3, rfl, hb3⟩
  go_wp2_with fail
  refine (of_nil w3).mono ?_
  rintro e w' ⟨rfl, rfl⟩
  have hc := conv_run (hB2.later hb3)
  have hb : Below w.heap.size w w3 := ((hb0.trans (hb1.mono hb0.size)).trans (hb2.mono (Nat.le_trans hb0.size hb1.size))).trans (hb3.mono (Nat.le_trans (Nat.le_trans hb0.size hb1.size) hb2.size))
  clear hB2 hown1 hb0 hb1 hb2 hb3
  go_wp2
  go_ret
  exact ⟨rfl, hb⟩
end Go.Proofs.Ytlomffhofionnaa.leaf
