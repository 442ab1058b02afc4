/-
  The contracts of the two functions that open what is sealed.
-/
import Derived.Test.YtlomffhofionnaaSeal
import Derived.Deep.QuietTactic
import Derived.BigQuiet
import Derived.WalkSmall
namespace Go.Proofs.Ytlomffhofionnaa.leaf
set_option linter.unusedVariables false
open Go.RowKit
open mth

theorem Bs_nil (w : World) : Bs w (.slice none 0 0) [] := ⟨none, 0, rfl, Nat.le_refl _, fun _ => rfl, fun i hi => by simp at hi⟩

theorem open_short (a : Option Addr) (cap : Nat) (xs : List UInt8) (w : World) (hs : xs.length < 2) :
    Calls Try.prog 9 #[.slice a xs.length cap] w fun e w' => ∃ v', e = .returned (.tuple #[v', .bool (okL xs)]) ∧ Bs w' v' (openL xs) ∧ Below w.heap.size w w' := by
  have hk : okL xs = false := by simp [okL]; omega
  have ho : openL xs = [] := by simp [openL, hk]
  rw [hk, ho]
  clear hk ho
  go_enter Try.func9, Try.ntmps9
  go_wp2
  go_ret2
  exact ⟨_, rfl, Bs_nil _, Below.refl _ _⟩

theorem hide {p : Prop} (h : p) : Hid p := h
theorem Bs_take {w : World} {b off cap : Nat} {ys zs : List UInt8} (h : Bs w (.slice (some ⟨b, off, none⟩) (ys ++ zs).length cap) (ys ++ zs)) : Bs w (.slice (some ⟨b, off, none⟩) ys.length cap) ys := by
  obtain ⟨a', cap', hv, hlc, hno, hc⟩ := h
  injection hv with h1 _ h2
  subst h1 h2
  refine ⟨_, _, rfl, by simp at hlc; omega, fun h => by simp at h, fun i hi => ?_⟩
  obtain ⟨x, hx, hcc⟩ := hc i (by simp; omega)
  refine ⟨x, hx, hcc.trans ?_⟩
  simp [List.getD, List.getElem?_append_left hi]

theorem Bs_at {w : World} {b off cap : Nat} {xs : List UInt8} (h : Bs w (.slice (some ⟨b, off, none⟩) xs.length cap) xs) (i : Nat) (hi : i < xs.length) : w.cell? ⟨b, off + i, none⟩ = some (.int .u8 ((xs.getD i 0).toNat : Int)) := by
  obtain ⟨a', cap', hv, hlc, hno, hc⟩ := h
  injection hv with h1 _ h2
  subst h1 h2
  obtain ⟨x, hx, hcc⟩ := hc i hi
  simp at hx
  subst hx
  rw [Addr.add_lit] at hcc
  exact hcc

theorem Bs.drewN {w : World} {v : Value} {xs : List UInt8} (h : Bs w v xs) (n : Nat) : Bs (w.drewN n) v xs := h

theorem or_bytes (x y : UInt8) : bits .or .i64 ((x.toNat : Int) * 256) (y.toNat : Int) = (x.toNat : Int) * 256 + (y.toNat : Int) := by
  have hx := x.toNat_lt
  have hy := y.toNat_lt
  generalize x.toNat = a at *
  generalize y.toNat = b at *
  have h : a <<< 8 + b = a <<< 8 ||| b := Nat.shiftLeft_add_eq_or_of_lt hy a
  have e : a <<< 8 = a * 256 := by rw [Nat.shiftLeft_eq]
  rw [e] at h
  have ea : ((a : Int) * 256) = ((a * 256 : Nat) : Int) := by omega
  rw [ea]
  show IntKind.i64.wrap ((BitVec.ofInt 64 ((a * 256 : Nat) : Int) ||| BitVec.ofInt 64 (b : Int)).toNat : Int) = _
  rw [BitVec.toNat_or, BitVec.ofInt_natCast, BitVec.ofInt_natCast, BitVec.toNat_ofNat, BitVec.toNat_ofNat, Nat.mod_eq_of_lt (by omega), Nat.mod_eq_of_lt (by omega), ← h, IntKind.wrap_i64]
  omega

theorem owns_Bs {w : World} {base n : Nat} {v : Value} {xs : List UInt8} (h : w.ownsRow base 5 1 v n (xs.map B)) : Bs w v xs := by
  obtain ⟨h1, h2⟩ := h
  simp at h1
  subst h1
  rcases h2 with ⟨rfl, h0⟩ | ⟨g, cap, cur, rfl, _, hh, hn, hm, hs, ht⟩
  · obtain rfl : xs = [] := List.eq_nil_of_length_eq_zero h0
    exact Bs_nil w
  · refine ⟨_, _, rfl, hn, fun h => by simp at h, fun i hi => ⟨_, rfl, ?_⟩⟩
    rw [Addr.add_lit, Nat.zero_add]
    have hc : w.cell? ⟨g, i, none⟩ = cur[i]? := by
      unfold World.cell?
      simp [hh]
    rw [hc]
    have h3 : cur[i]? = (xs.map B)[i]? := by
      rw [← ht, Nat.mul_one, List.getElem?_take_of_lt hi, Array.getElem?_toList]
    rw [h3]
    simp [hi, B, List.getD]

theorem ok_last (ys : List UInt8) (x y : UInt8) : okL (ys ++ [x, y]) = decide ((x.toNat : Int) * 256 + (y.toNat : Int) = sumL ys) := by
  rw [Bool.eq_iff_iff, ok_iff _ (by simp)]
  simp [List.getD]
theorem open_last (ys : List UInt8) (x y : UInt8) : openL (ys ++ [x, y]) = if okL (ys ++ [x, y]) = true then ys else [] := by
  simp [openL]

set_option maxHeartbeats 400000 in
theorem open_long (b off : Nat) (cap : Nat) (ys : List UInt8) (x y : UInt8) (w : World) (h : Bs w (.slice (some ⟨b, off, none⟩) (ys ++ [x, y]).length cap) (ys ++ [x, y])) (hcap : ys.length + 2 ≤ cap) (hr : ys.length + 2 ≤ 140737488355328) :
    Calls Try.prog 9 #[.slice (some ⟨b, off, none⟩) (ys.length + 2) cap] w fun e w' => ∃ v', e = .returned (.tuple #[v', .bool (okL (ys ++ [x, y]))]) ∧ Bs w' v' (openL (ys ++ [x, y])) ∧ Below w.heap.size w w' := by
  have hcx : w.cell? ⟨b, off + ys.length, none⟩ = some (.int .u8 (x.toNat : Int)) := by
    have := Bs_at h ys.length (by simp)
    simpa [List.getD] using this
  have hcy : w.cell? ⟨b, off + ys.length + 1, none⟩ = some (.int .u8 (y.toNat : Int)) := by
    have := Bs_at h (ys.length + 1) (by simp)
    rw [← Nat.add_assoc] at this
    simpa [List.getD] using this
  have hb := sumL_bd ys
  have hx := x.toNat_lt
  have hy := y.toNat_lt
  have hor := or_bytes x y
  obtain ⟨i0, hi, hz0, hz1, hz2⟩ := info_parts info5
  have hmk : ∀ u : World, (Instr.makeSlice 22 (.int .i64 (ys.length : Int)) (.int .i64 (ys.length : Int))).run Try.prog u =
      .ok (.slice (some ⟨u.heap.size, 0, none⟩) ys.length ys.length) (u.alloc (.cells (madeCells #[.int .u8 0] ys.length) 5)) := fun u => by
    have h := run_make (P := Try.prog) u 22 5 i0 (.int .u8 0) Try.underlying22 hi hz0 .i64 .i64 (ys.length : Int) (ys.length : Int) (by omega) (by omega) (by rw [hz2]; omega) (by omega)
    have e' : ((ys.length : Int)).toNat = ys.length := by omega
    rw [e'] at h
    simpa [hz1, Value.cells] using h
  have HOK := hide (ok_last ys x y)
  have HOP := hide (open_last ys x y)
  obtain ⟨k, hk⟩ : ∃ k, k = okL (ys ++ [x, y]) := ⟨_, rfl⟩
  obtain ⟨o, ho⟩ : ∃ o, o = openL (ys ++ [x, y]) := ⟨_, rfl⟩
  rw [← hk, ← ho]
  rw [← hk] at HOK HOP
  rw [← ho] at HOP
  clear hk ho
  go_enter Try.func9, Try.ntmps9
  go_wp2
  go_quiet (fail)
  obtain ⟨u, hu⟩ : ∃ u, u = w.drewN nq := ⟨_, rfl⟩
  rw [← hu]
  have hbu : Below w.heap.size w u := by rw [hu]; exact below_drewN (Below.refl _ _) nq
  have hcx' : u.cell? ⟨b, off + ys.length, none⟩ = some (.int .u8 (x.toNat : Int)) := by rw [hu]; exact hcx
  have hcy' : u.cell? ⟨b, off + ys.length + 1, none⟩ = some (.int .u8 (y.toNat : Int)) := by rw [hu]; exact hcy
  have hof : ∀ n, Calls Try.prog 11 #[.slice (some ⟨b, off, none⟩) ys.length cap] (u.drewN n) fun e w' => e = .returned (.int .i64 (sumL ys)) ∧ w' = u.drewN n := fun n =>
    (of_any (some ⟨b, off, none⟩) cap ys (u.drewN n) ((Bs_take (h.later hbu)).drewN n) (by unfold maxLen; omega)).mono fun e w' h => ⟨h.1, h.2.symm⟩
  have HOF := hide hof
  clear hof hcx hcy hu nq
  go_wp2
  go_quiet ((go_at_call 11; exact Calls.quiet_of_same (HOF.out _)))
  obtain ⟨u2, hu2⟩ : ∃ u2, u2 = u.drewN nq := ⟨_, rfl⟩
  rw [← hu2]
  have hb2 : Below w.heap.size w u2 := by rw [hu2]; exact below_drewN hbu nq
  clear hcx' hcy' hbu HOF hu2 nq
  by_cases hs : (x.toNat : Int) * 256 + (y.toNat : Int) = sumL ys
  · have hk : k = true := by rw [HOK.out]; simpa using hs
    have ho : o = ys := by rw [HOP.out, hk]; simp
    subst hk
    subst ho
    have hs' : ((x.toNat : Int) * 256 + (y.toNat : Int) != sumL o) = false := by simpa using hs
    have hrow : (u2.alloc (.cells (madeCells #[.int .u8 0] o.length) 5)).heap[u2.heap.size]? = some (.cells (List.replicate o.length (Value.int .u8 0)).toArray 5 (0, 0)) := by
      rw [heap_alloc_new]
      rw [← toList_madeCells_one]
    obtain ⟨w1, hcp, hown, hb1⟩ := run_copy (B0 := w.heap.size) (dcap := o.length) (Bs_take h) (hb2.alloc hb2.size _) hrow hb2.size hb2.size (by simp) (by unfold maxLen; omega) (by simp)
    clear hrow hs HOK HOP
    go_wp2
    go_ret2
    exact ⟨_, rfl, owns_Bs hown, hb1⟩
  · have hk : k = false := by rw [HOK.out]; simpa using hs
    have ho : o = [] := by rw [HOP.out, hk]; simp
    subst hk
    subst ho
    have hs' : ((x.toNat : Int) * 256 + (y.toNat : Int) != sumL ys) = true := by simpa using hs
    clear hs HOK HOP
    go_wp2
    go_ret2
    exact ⟨_, rfl, Bs_nil _, hb2⟩

/-- 'Open', whatever it is given. -/
theorem open_any (a : Option Addr) (cap : Nat) (xs : List UInt8) (w : World) (h : Bs w (.slice a xs.length cap) xs) (hr : xs.length ≤ 140737488355328) :
    Calls Try.prog 9 #[.slice a xs.length cap] w fun e w' => ∃ v', e = .returned (.tuple #[v', .bool (okL xs)]) ∧ Bs w' v' (openL xs) ∧ Below w.heap.size w w' := by
  by_cases hl : xs.length < 2
  · exact open_short a cap xs w hl
  · obtain ⟨ys, x, y, rfl⟩ : ∃ ys x y, xs = ys ++ [x, y] := by
      refine ⟨xs.take (xs.length - 2), xs[xs.length - 2], xs[xs.length - 1], ?_⟩
      exact last_two xs (by omega)
    obtain ⟨a', cap', hv, hlc, hno, hc⟩ := h
    injection hv with h1 _ h2
    subst h1 h2
    obtain ⟨z, rfl, hc0⟩ := hc 0 (by simp)
    obtain ⟨b, off, spot⟩ := z
    have hspot : spot = none := by simpa [Addr.add] using World.cell?_spot hc0
    subst hspot
    have := open_long b off cap ys x y w ⟨_, _, rfl, hlc, hno, hc⟩ (by simpa using hlc) (by simpa using hr)
    simpa using this
end Go.Proofs.Ytlomffhofionnaa.leaf
