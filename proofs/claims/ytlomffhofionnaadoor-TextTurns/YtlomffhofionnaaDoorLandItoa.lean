/-
  The contracts of what the program's texts lean on: the decimal digit of a small number, the place of a byte among the digits.
-/
import Derived.Test.YtlomffhofionnaaDoorParse
import Derived.Laws.Externs
namespace Go.Proofs.YtlomffhofionnaaDoor.leaf
set_option linter.unusedVariables false
open Go.RowKit
open mth

theorem cut_digit (w : World) : ∀ k : Nat, k < 3 → (Instr.slice 9 (.string ⟨#[48, 49, 50, 51, 52, 53, 54, 55, 56, 57, 97, 98, 99, 100, 101, 102, 103, 104, 105, 106, 107, 108, 109, 110, 111, 112, 113, 114, 115, 116, 117, 118, 119, 120, 121, 122]⟩) (some (.int .i64 (k : Int))) (some (.int .i64 ((k : Int) + 1))) none).run Tryd.prog w = .ok (.string ⟨#[b8 (48 + (k : Int))]⟩) w := fun k h => match k, h with
  | 0, _ => by kernel_rfl
  | 1, _ => by kernel_rfl
  | 2, _ => by kernel_rfl
  | n + 3, h => absurd h (by omega)

set_option maxRecDepth 100000 in
set_option maxHeartbeats 2000000 in
theorem small_any (k : Nat) (hk : k < 3) (w : World) : Calls Tryd.prog 20 #[.int .i64 (k : Int)] w fun e w' => e = .returned (.string ⟨#[b8 (48 + (k : Int))]⟩) ∧ w = w' := by
  have hc := fun w => cut_digit w k hk
  have hk' : (k : Int) < 3 := by omega
  go_enter Tryd.func20, Tryd.ntmps20
  go_wp2
  go_ret
  exact ⟨rfl, rfl⟩
set_option maxRecDepth 100000 in
set_option maxHeartbeats 2000000 in
theorem formatInt_any (k : Nat) (hk : k < 3) (w : World) : Calls Tryd.prog 18 #[.int .i64 (k : Int), .int .i64 10] w fun e w' => e = .returned (.string ⟨#[b8 (48 + (k : Int))]⟩) ∧ w = w' := by
  have hk' : (k : Int) < 3 := by omega
  go_enter Tryd.func18, Tryd.ntmps18
  go_wp2_with (go_at_call 20; refine (small_any k hk _).mono ?_; rintro e w1 ⟨rfl, rfl⟩)
  go_ret
  exact ⟨rfl, rfl⟩
theorem itoaIn_any (k : Nat) (hk : k < 3) (w : World) : Calls Tryd.prog 16 #[.int .i64 (k : Int)] w fun e w' => e = .returned (.string ⟨#[b8 (48 + (k : Int))]⟩) ∧ w = w' := by
  have hk' : (k : Int) < 3 := by omega
  go_enter Tryd.func16, Tryd.ntmps16
  go_wp2_with (go_at_call 18; refine (formatInt_any k hk _).mono ?_; rintro e w1 ⟨rfl, rfl⟩)
  go_ret
  exact ⟨rfl, rfl⟩
theorem itoa_any (k : Nat) (hk : k < 3) (w : World) : Calls Tryd.prog 14 #[.int .i64 (k : Int)] w fun e w' => e = .returned (.string ⟨#[b8 (48 + (k : Int))]⟩) ∧ w = w' := by
  have hk' : (k : Int) < 3 := by omega
  go_enter Tryd.func14, Tryd.ntmps14
  go_wp2_with (go_at_call 16; refine (itoaIn_any k hk _).mono ?_; rintro e w1 ⟨rfl, rfl⟩)
  go_ret
  exact ⟨rfl, rfl⟩

/-- Where a byte stands among the sixteen digits. -/
theorem idx_val (y : UInt8) : firstIdx ⟨#[48, 49, 50, 51, 52, 53, 54, 55, 56, 57, 97, 98, 99, 100, 101, 102]⟩ y = valB y := by
  have h : ∀ n : Nat, n < 256 → firstIdx ⟨#[48, 49, 50, 51, 52, 53, 54, 55, 56, 57, 97, 98, 99, 100, 101, 102]⟩ (UInt8.ofNat n) = valB (UInt8.ofNat n) := by decide +kernel
  have := h y.toNat y.toNat_lt
  rwa [UInt8.ofNat_toNat] at this
theorem idx_run (y : UInt8) (w : World) : (callFunc 24 #[.string ⟨#[48, 49, 50, 51, 52, 53, 54, 55, 56, 57, 97, 98, 99, 100, 101, 102]⟩, .int .u8 (y.toNat : Int)]).run Tryd.prog w = .ok (.value (.int .i64 (valB y))) w := by
  rw [run_callFunc_extern Tryd.func24 (by kernel_rfl) (by kernel_rfl) (by kernel_rfl) (e := Extern.BytealgIndexByte.indexByte) (by kernel_rfl), run_indexByte_string]
  have e : ((y.toNat : Int)).toNat.toUInt8 = y := by simp
  rw [e, idx_val]
  rfl
set_option maxRecDepth 100000 in
theorem idxIn_any (y : UInt8) (w : World) : Calls Tryd.prog 19 #[.string ⟨#[48, 49, 50, 51, 52, 53, 54, 55, 56, 57, 97, 98, 99, 100, 101, 102]⟩, .int .u8 (y.toNat : Int)] w fun e w' => e = .returned (.int .i64 (valB y)) ∧ w = w' := by
  have hr := idx_run y
  go_enter Tryd.func19, Tryd.ntmps19
  go_wp2
  go_ret
  exact ⟨rfl, rfl⟩
set_option maxRecDepth 100000 in
theorem idx_any (y : UInt8) (w : World) : Calls Tryd.prog 17 #[.string ⟨#[48, 49, 50, 51, 52, 53, 54, 55, 56, 57, 97, 98, 99, 100, 101, 102]⟩, .int .u8 (y.toNat : Int)] w fun e w' => e = .returned (.int .i64 (valB y)) ∧ w = w' := by
  go_enter Tryd.func17, Tryd.ntmps17
  go_wp2_with (go_at_call 19; refine (idxIn_any y _).mono ?_; rintro e w1 ⟨rfl, rfl⟩)
  go_ret
  exact ⟨rfl, rfl⟩
end Go.Proofs.YtlomffhofionnaaDoor.leaf
