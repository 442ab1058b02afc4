/-
  Several texts in one.
-/
import Derived.Test.YtngfedhffehkaacM24
import Derived.Deep.QuietTactic
import Derived.BigQuiet
import Derived.WalkSmall
import Derived.Deep.RegionWith
import Derived.BigRegion

/-
  The contracts of the two functions that open what is sealed.
-/
namespace Go.Proofs.Ytngfedhffehkaac.leaf
set_option maxRecDepth 10000
set_option linter.unusedSimpArgs false
set_option linter.unusedVariables false
open Go.RowKit
open mth

theorem Bs_nil (w : World) : Bs w (.slice none 0 0) [] := ⟨none, 0, rfl, Nat.le_refl _, fun _ => rfl, fun i hi => by simp at hi⟩

theorem hide {p : Prop} (h : p) : Hid p := h
theorem Bs_take {w : World} {b off cap : Nat} {ys zs : List UInt8} (h : Bs w (.slice (some ⟨b, off, none⟩) (ys ++ zs).length cap) (ys ++ zs)) : Bs w (.slice (some ⟨b, off, none⟩) ys.length cap) ys := by
  obtain ⟨a', cap', hv, hlc, hno, hc⟩ := h
  injection hv with h1 _ h2
  subst h1 h2
  refine ⟨_, _, rfl, by simp at hlc; omega, fun h => by simp at h, fun i hi => ?_⟩
  obtain ⟨x, hx, hcc⟩ := hc i (by simp; omega)
  refine ⟨x, hx, hcc.trans ?_⟩
  simp [List.getD, List.getElem?_append_left hi]

theorem owns_Bs {w : World} {base n : Nat} {v : Value} {xs : List UInt8} (h : w.ownsRow base 5 1 v n (xs.map B)) : Bs w v xs := by
  obtain ⟨h1, h2⟩ := h
  simp at h1
  subst h1
  rcases h2 with ⟨rfl, h0⟩ | ⟨g, cap, cur, rfl, _, hh, hn, hm, hs, ht⟩
  · obtain rfl : xs = [] := List.eq_nil_of_length_eq_zero h0
    exact Bs_nil w
  · refine ⟨_, _, rfl, hn, fun h => by simp at h, fun i hi => ⟨_, rfl, ?_⟩⟩
    rw [Addr.add_lit, Nat.zero_add]
    have hc : w.cell? ⟨g, i, none⟩ = cur[i]? := by
      unfold World.cell?
      simp [hh]
    rw [hc]
    have h3 : cur[i]? = (xs.map B)[i]? := by
      rw [← ht, Nat.mul_one, List.getElem?_take_of_lt hi, Array.getElem?_toList]
    rw [h3]
    simp [hi, B, List.getD]

theorem open_last (ys : List UInt8) (x y : UInt8) : openL (ys ++ [x, y]) = if okL (ys ++ [x, y]) = true then ys else [] := by
  simp [openL]

end Go.Proofs.Ytngfedhffehkaac.leaf

/-
  The contract of the answer's function that opens what is sealed.
-/
namespace Go.Proofs.Ytngfedhffehkaac.leaf
set_option maxRecDepth 10000
set_option linter.unusedSimpArgs false
set_option linter.unusedVariables false
open Go.RowKit
open mth

/-- 'string(b)'. -/
theorem conv_run {w : World} {v : Value} {xs : List UInt8} (h : Bs w v xs) : (convert 23 9 v).run Try.prog w = .ok (.string ⟨xs.toArray⟩) w := by
  obtain ⟨a, cap, rfl, hlc, hno, hc⟩ := h
  cases a with
  | none =>
    obtain rfl : xs = [] := List.eq_nil_of_length_eq_zero (by have := hno rfl; omega)
    rw [run_convert_bytes_string w 23 9 5 none _ cap Try.underlying23 Try.underlying5 Try.underlying9]
    rfl
  | some ad =>
    refine run_convert_bytes_back w 23 9 5 ad cap xs Try.underlying23 Try.underlying5 Try.underlying9 fun j hj => ?_
    obtain ⟨x, hx, hcc⟩ := hc j hj
    simp at hx
    subst hx
    simpa [List.getD, hj] using hcc

theorem refOpen_short (a : Option Addr) (cap : Nat) (xs : List UInt8) (w : World) (hs : xs.length < 2) :
    Calls Try.prog 77 #[.slice a xs.length cap] w fun e w' => ∃ v', e = .returned (.tuple #[v', .bool (okL xs)]) ∧ Bs w' v' (openL xs) ∧ Below w.heap.size w w' := by
  have hk : okL xs = false := by simp [okL]; omega
  have ho : openL xs = [] := by simp [openL, hk]
  rw [hk, ho]
  clear hk ho
  go_enter Try.func77, Try.ntmps77
  go_wp2
  go_ret2
  exact ⟨_, rfl, Bs_nil _, Below.refl _ _⟩

theorem ok_eq (ys : List UInt8) (x y : UInt8) : okL (ys ++ [x, y]) = (sealL ys == ys ++ [x, y]) := by
  simp [okL]

set_option maxHeartbeats 1000000 in
theorem refOpen_long (b off : Nat) (cap : Nat) (ys : List UInt8) (x y : UInt8) (w : World) (h : Bs w (.slice (some ⟨b, off, none⟩) (ys.length + 2) cap) (ys ++ [x, y])) (hcap : ys.length + 2 ≤ cap) (hr : ys.length + 2 ≤ 140737488355328) (k : Bool) (o : List UInt8) (hk : (sealL ys == ys ++ [x, y]) = k) (ho : Hid (o = if k = true then ys else [])) :
    Calls Try.prog 77 #[.slice (some ⟨b, off, none⟩) (ys.length + 2) cap] w fun e w' => ∃ v', e = .returned (.tuple #[v', .bool k]) ∧ Bs w' v' o ∧ Below w.heap.size w w' := by
  have hB : Bs w (.slice (some ⟨b, off, none⟩) ys.length cap) ys := Bs_take (zs := [x, y]) (by simpa using h)
  have hc0 := conv_run (w := w.drew) (v := .slice (some ⟨b, off, none⟩) (ys.length + 2) cap) (xs := ys ++ [x, y]) h
  have HB : Hid (Bs w.drew (.slice (some ⟨b, off, none⟩) ys.length cap) ys) := hB
  have H := hide h
  clear h hB
  cases k
  all_goals
    go_enter Try.func77, Try.ntmps77
    go_wp2
    go_region_with ((go_at_call 75; refine (refSeal_any (some ⟨b, off, none⟩) cap ys _ HB.out (by omega)).mono ?_; rintro e w1 ⟨v1, rfl, hown1, hb1⟩; have hc1 := conv_run (owns_Bs hown1); have hc2 := conv_run (Bs.later (w' := w1) (w := w.drew) H.out hb1)))
    all_goals
      go_wp2
      go_ret2
      have hb0 : Below w.heap.size w w1 := (Below.drew (Below.refl _ _)).trans hb1
      rw [ho.out]
      first
        | exact ⟨_, rfl, Bs_nil _, hb0⟩
        | exact ⟨_, rfl, Bs.later (w := w.drew) HB.out hb1, hb0⟩

/-- The answer's 'Open', whatever it is given. -/
theorem refOpen_any (a : Option Addr) (cap : Nat) (xs : List UInt8) (w : World) (h : Bs w (.slice a xs.length cap) xs) (hr : xs.length ≤ 140737488355328) :
    Calls Try.prog 77 #[.slice a xs.length cap] w fun e w' => ∃ v', e = .returned (.tuple #[v', .bool (okL xs)]) ∧ Bs w' v' (openL xs) ∧ Below w.heap.size w w' := by
  by_cases hl : xs.length < 2
  · exact refOpen_short a cap xs w hl
  · obtain ⟨ys, x, y, rfl⟩ : ∃ ys x y, xs = ys ++ [x, y] := ⟨_, _, _, last_two xs (by omega)⟩
    obtain ⟨a', cap', hv, hlc, hno, hc⟩ := h
    injection hv with h1 _ h2
    subst h1 h2
    obtain ⟨z, rfl, hc0⟩ := hc 0 (by simp)
    obtain ⟨b, off, spot⟩ := z
    have hspot : spot = none := by simpa [Addr.add] using World.cell?_spot hc0
    subst hspot
    have := refOpen_long b off cap ys x y w ⟨_, _, by simp, hlc, hno, hc⟩ (by simpa using hlc) (by simpa using hr) _ _ (ok_eq ys x y).symm (open_last ys x y)
    simpa using this
end Go.Proofs.Ytngfedhffehkaac.leaf

/-
  Lists of numbers, messages and chunks as the model holds them.
-/
namespace Go.Proofs.Ytngfedhffehkaac.leaf
set_option linter.unusedSimpArgs false
set_option linter.unusedVariables false
open Go.RowKit
open mth

/-- A number that an int holds. -/
def I64 (n : Int) : Prop := -9223372036854775808 ≤ n ∧ n ≤ 9223372036854775807
/-- The slice value v holds the numbers xs. -/
def Is (w : World) (v : Value) (xs : List Int) : Prop :=
  ∃ (a : Option Addr) (cap : Nat), v = .slice a xs.length cap ∧ xs.length ≤ cap ∧ (a = none → cap = 0) ∧ (∀ i, i < xs.length → ∃ x, a = some x ∧ w.cell? (x.add i) = some (.int .i64 (xs.getD i 0))) ∧ (∀ n ∈ xs, I64 n) ∧ cap ≤ maxLen

theorem Is.later {w w' : World} {v : Value} {xs : List Int} (h : Is w v xs) (hb : Below w.heap.size w w') : Is w' v xs := by
  obtain ⟨a, cap, rfl, hlc, hno, hc, hn, hm⟩ := h
  refine ⟨a, cap, rfl, hlc, hno, fun i hi => ?_, hn, hm⟩
  obtain ⟨x, rfl, hcc⟩ := hc i hi
  exact ⟨x, rfl, (hb.cell (World.block_lt_of_cell? w _ hcc)).trans hcc⟩
theorem Is.shape {w : World} {v : Value} {xs : List Int} (h : Is w v xs) : ∃ a cap, v = .slice a xs.length cap ∧ xs.length ≤ cap ∧ cap ≤ maxLen := by
  obtain ⟨a, cap, rfl, hlc, _, _, _, hm⟩ := h; exact ⟨a, cap, rfl, hlc, hm⟩
theorem Is_nil (w : World) : Is w (.slice none 0 0) [] := ⟨none, 0, rfl, Nat.le_refl _, fun _ => rfl, fun i hi => by simp at hi, by simp, Nat.zero_le _⟩
theorem Is.num {w : World} {v : Value} {xs : List Int} (h : Is w v xs) : ∀ n ∈ xs, I64 n := by
  obtain ⟨a, cap, rfl, _, _, _, hn, _⟩ := h; exact hn
/-- One number of it. -/
theorem Is.at {w : World} {a : Option Addr} {n cap : Nat} {xs : List Int} (h : Is w (.slice a n cap) xs) (hp : xs.length ≠ 0) : ∃ b off, a = some ⟨b, off, none⟩ ∧ ∀ j x, xs[j]? = some x → w.cell? ⟨b, off + j, none⟩ = some (.int .i64 x) := by
  obtain ⟨a', cap', he, hlc, hno, hc, hn, hm⟩ := h
  injection he with h1 _ h2
  subst h1 h2
  obtain ⟨x, rfl, hc0⟩ := hc 0 (by omega)
  obtain ⟨b, off, spot⟩ := x
  have hspot : spot = none := by simpa [Addr.add] using World.cell?_spot hc0
  subst hspot
  refine ⟨b, off, rfl, fun j y hy => ?_⟩
  have hj : j < xs.length := (List.getElem?_eq_some_iff.1 hy).1
  obtain ⟨x', hx', hcc⟩ := hc j hj
  simp at hx'
  subst hx'
  rw [Addr.add_lit] at hcc
  rw [hcc]
  simp [List.getD, hy]

theorem some_at {α : Type} {xs : List α} {k : Nat} (h : k < xs.length) : ∃ x, xs[k]? = some x := ⟨xs[k], List.getElem?_eq_getElem h⟩

end Go.Proofs.Ytngfedhffehkaac.leaf
