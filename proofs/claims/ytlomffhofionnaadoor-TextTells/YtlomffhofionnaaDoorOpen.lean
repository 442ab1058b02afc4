/-
  The contracts of the two functions that open what is sealed.
-/
import Derived.Test.YtlomffhofionnaaDoorSeal
import Derived.Deep.QuietTactic
import Derived.BigQuiet
import Derived.WalkSmall
namespace Go.Proofs.YtlomffhofionnaaDoor.leaf
set_option linter.unusedVariables false
open Go.RowKit
open mth

theorem Bs_nil (w : World) : Bs w (.slice none 0 0) [] := ⟨none, 0, rfl, Nat.le_refl _, fun _ => rfl, fun i hi => by simp at hi⟩

theorem hide {p : Prop} (h : p) : Hid p := h
theorem Bs_take {w : World} {b off cap : Nat} {ys zs : List UInt8} (h : Bs w (.slice (some ⟨b, off, none⟩) (ys ++ zs).length cap) (ys ++ zs)) : Bs w (.slice (some ⟨b, off, none⟩) ys.length cap) ys := by
  obtain ⟨a', cap', hv, hlc, hno, hc⟩ := h
  injection hv with h1 _ h2
  subst h1 h2
  refine ⟨_, _, rfl, by simp at hlc; omega, fun h => by simp at h, fun i hi => ?_⟩
  obtain ⟨x, hx, hcc⟩ := hc i (by simp; omega)
  refine ⟨x, hx, hcc.trans ?_⟩
  simp [List.getD, List.getElem?_append_left hi]

theorem Bs_at {w : World} {b off cap : Nat} {xs : List UInt8} (h : Bs w (.slice (some ⟨b, off, none⟩) xs.length cap) xs) (i : Nat) (hi : i < xs.length) : w.cell? ⟨b, off + i, none⟩ = some (.int .u8 ((xs.getD i 0).toNat : Int)) := by
  obtain ⟨a', cap', hv, hlc, hno, hc⟩ := h
  injection hv with h1 _ h2
  subst h1 h2
  obtain ⟨x, hx, hcc⟩ := hc i hi
  simp at hx
  subst hx
  rw [Addr.add_lit] at hcc
  exact hcc

theorem Bs.drewN {w : World} {v : Value} {xs : List UInt8} (h : Bs w v xs) (n : Nat) : Bs (w.drewN n) v xs := h

theorem or_bytes (x y : UInt8) : bits .or .i64 ((x.toNat : Int) * 256) (y.toNat : Int) = (x.toNat : Int) * 256 + (y.toNat : Int) := by
  have hx := x.toNat_lt
  have hy := y.toNat_lt
  generalize x.toNat = a at *
  generalize y.toNat = b at *
  have h : a <<< 8 + b = a <<< 8 ||| b := Nat.shiftLeft_add_eq_or_of_lt hy a
  have e : a <<< 8 = a * 256 := by rw [Nat.shiftLeft_eq]
  rw [e] at h
  have ea : ((a : Int) * 256) = ((a * 256 : Nat) : Int) := by omega
  rw [ea]
  show IntKind.i64.wrap ((BitVec.ofInt 64 ((a * 256 : Nat) : Int) ||| BitVec.ofInt 64 (b : Int)).toNat : Int) = _
  rw [BitVec.toNat_or, BitVec.ofInt_natCast, BitVec.ofInt_natCast, BitVec.toNat_ofNat, BitVec.toNat_ofNat, Nat.mod_eq_of_lt (by omega), Nat.mod_eq_of_lt (by omega), ← h, IntKind.wrap_i64]
  omega

theorem owns_Bs {w : World} {base n : Nat} {v : Value} {xs : List UInt8} (h : w.ownsRow base 5 1 v n (xs.map B)) : Bs w v xs := by
  obtain ⟨h1, h2⟩ := h
  simp at h1
  subst h1
  rcases h2 with ⟨rfl, h0⟩ | ⟨g, cap, cur, rfl, _, hh, hn, hm, hs, ht⟩
  · obtain rfl : xs = [] := List.eq_nil_of_length_eq_zero h0
    exact Bs_nil w
  · refine ⟨_, _, rfl, hn, fun h => by simp at h, fun i hi => ⟨_, rfl, ?_⟩⟩
    rw [Addr.add_lit, Nat.zero_add]
    have hc : w.cell? ⟨g, i, none⟩ = cur[i]? := by
      unfold World.cell?
      simp [hh]
    rw [hc]
    have h3 : cur[i]? = (xs.map B)[i]? := by
      rw [← ht, Nat.mul_one, List.getElem?_take_of_lt hi, Array.getElem?_toList]
    rw [h3]
    simp [hi, B, List.getD]

theorem ok_last (ys : List UInt8) (x y : UInt8) : okL (ys ++ [x, y]) = decide ((x.toNat : Int) * 256 + (y.toNat : Int) = sumL ys) := by
  rw [Bool.eq_iff_iff, ok_iff _ (by simp)]
  simp [List.getD]
theorem open_last (ys : List UInt8) (x y : UInt8) : openL (ys ++ [x, y]) = if okL (ys ++ [x, y]) = true then ys else [] := by
  simp [openL]

end Go.Proofs.YtlomffhofionnaaDoor.leaf
