/-
  The contract of the answer's function that opens what is sealed.
-/
import Derived.Test.YtlomffhofionnaaOpen
import Derived.Deep.RegionWith
import Derived.BigRegion
namespace Go.Proofs.Ytlomffhofionnaa.leaf
set_option linter.unusedVariables false
open Go.RowKit
open mth

/-- 'string(b)'. -/
theorem conv_run {w : World} {v : Value} {xs : List UInt8} (h : Bs w v xs) : (convert 22 9 v).run Try.prog w = .ok (.string ⟨xs.toArray⟩) w := by
  obtain ⟨a, cap, rfl, hlc, hno, hc⟩ := h
  cases a with
  | none =>
    obtain rfl : xs = [] := List.eq_nil_of_length_eq_zero (by have := hno rfl; omega)
    rw [run_convert_bytes_string w 22 9 5 none _ cap Try.underlying22 Try.underlying5 Try.underlying9]
    rfl
  | some ad =>
    refine run_convert_bytes_back w 22 9 5 ad cap xs Try.underlying22 Try.underlying5 Try.underlying9 fun j hj => ?_
    obtain ⟨x, hx, hcc⟩ := hc j hj
    simp at hx
    subst hx
    simpa [List.getD, hj] using hcc

theorem refOpen_short (a : Option Addr) (cap : Nat) (xs : List UInt8) (w : World) (hs : xs.length < 2) :
    Calls Try.prog 10 #[.slice a xs.length cap] w fun e w' => ∃ v', e = .returned (.tuple #[v', .bool (okL xs)]) ∧ Bs w' v' (openL xs) ∧ Below w.heap.size w w' := by
  have hk : okL xs = false := by simp [okL]; omega
  have ho : openL xs = [] := by simp [openL, hk]
  rw [hk, ho]
  clear hk ho
  go_enter Try.func10, Try.ntmps10
  go_wp2
  go_ret2
  exact ⟨_, rfl, Bs_nil _, Below.refl _ _⟩

theorem ok_eq (ys : List UInt8) (x y : UInt8) : okL (ys ++ [x, y]) = (sealL ys == ys ++ [x, y]) := by
  simp [okL]

set_option maxHeartbeats 1000000 in
theorem refOpen_long (b off : Nat) (cap : Nat) (ys : List UInt8) (x y : UInt8) (w : World) (h : Bs w (.slice (some ⟨b, off, none⟩) (ys.length + 2) cap) (ys ++ [x, y])) (hcap : ys.length + 2 ≤ cap) (hr : ys.length + 2 ≤ 140737488355328) (k : Bool) (o : List UInt8) (hk : (sealL ys == ys ++ [x, y]) = k) (ho : Hid (o = if k = true then ys else [])) :
    Calls Try.prog 10 #[.slice (some ⟨b, off, none⟩) (ys.length + 2) cap] w fun e w' => ∃ v', e = .returned (.tuple #[v', .bool k]) ∧ Bs w' v' o ∧ Below w.heap.size w w' := by
  have hB : Bs w (.slice (some ⟨b, off, none⟩) ys.length cap) ys := Bs_take (zs := [x, y]) (by simpa using h)
  have hc0 := conv_run (w := w.drew) (v := .slice (some ⟨b, off, none⟩) (ys.length + 2) cap) (xs := ys ++ [x, y]) h
  have HB : Hid (Bs w.drew (.slice (some ⟨b, off, none⟩) ys.length cap) ys) := hB
  have H := hide h
  clear h hB
  cases k
  all_goals
    go_enter Try.func10, Try.ntmps10
    go_wp2
    go_region_with ((go_at_call 14; refine (refSeal_any (some ⟨b, off, none⟩) cap ys _ HB.out (by omega)).mono ?_; rintro e w1 ⟨v1, rfl, hown1, hb1⟩; have hc1 := conv_run (owns_Bs hown1); have hc2 := conv_run (Bs.later (w' := w1) (w := w.drew) H.out hb1)))
    all_goals
      go_wp2
      go_ret2
      have hb0 : Below w.heap.size w w1 := (Below.drew (Below.refl _ _)).trans hb1
      rw [ho.out]
      first
        | exact ⟨_, rfl, Bs_nil _, hb0⟩
        | exact ⟨_, rfl, Bs.later (w := w.drew) HB.out hb1, hb0⟩

/-- The answer's 'Open', whatever it is given. -/
theorem refOpen_any (a : Option Addr) (cap : Nat) (xs : List UInt8) (w : World) (h : Bs w (.slice a xs.length cap) xs) (hr : xs.length ≤ 140737488355328) :
    Calls Try.prog 10 #[.slice a xs.length cap] w fun e w' => ∃ v', e = .returned (.tuple #[v', .bool (okL xs)]) ∧ Bs w' v' (openL xs) ∧ Below w.heap.size w w' := by
  by_cases hl : xs.length < 2
  · exact refOpen_short a cap xs w hl
  · obtain ⟨ys, x, y, rfl⟩ : ∃ ys x y, xs = ys ++ [x, y] := ⟨_, _, _, last_two xs (by omega)⟩
    obtain ⟨a', cap', hv, hlc, hno, hc⟩ := h
    injection hv with h1 _ h2
    subst h1 h2
    obtain ⟨z, rfl, hc0⟩ := hc 0 (by simp)
    obtain ⟨b, off, spot⟩ := z
    have hspot : spot = none := by simpa [Addr.add] using World.cell?_spot hc0
    subst hspot
    have := refOpen_long b off cap ys x y w ⟨_, _, by simp, hlc, hno, hc⟩ (by simpa using hlc) (by simpa using hr) _ _ (ok_eq ys x y).symm (open_last ys x y)
    simpa using this
end Go.Proofs.Ytlomffhofionnaa.leaf
