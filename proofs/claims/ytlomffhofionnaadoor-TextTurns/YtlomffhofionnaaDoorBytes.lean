/-
  The contract of what tells a right chunk's bytes.
-/
import Derived.Test.YtlomffhofionnaaDoorWrong
namespace Go.Proofs.YtlomffhofionnaaDoor.leaf
set_option linter.unusedVariables false
open Go.RowKit
open mth

/-- 'string([]byte{x, y})'. -/
theorem conv_two (x y : Int) (hx : 0 ≤ x ∧ x ≤ 255) (hy : 0 ≤ y ∧ y ≤ 255) (u : World) (n : Nat) (hn : n = u.heap.size) :
    (convert 22 9 (.slice (some ⟨n, 0, none⟩) 2 2)).run Tryd.prog (u.alloc (.cells #[.int .u8 x, .int .u8 y] 5)) = .ok (.string ⟨#[b8 x, b8 y]⟩) (u.alloc (.cells #[.int .u8 x, .int .u8 y] 5)) := by
  subst hn
  refine conv_run (xs := [b8 x, b8 y]) ⟨_, _, rfl, by simp, fun h => by simp at h, fun i hi => ⟨_, rfl, ?_⟩⟩
  rw [Addr.add_lit, Nat.zero_add, World.cell?_alloc_mark]
  match i, hi with
  | 0, _ => simp [b8_toNat hx]
  | 1, _ => simp [b8_toNat hy]
theorem conv_one (x : Int) (hx : 0 ≤ x ∧ x ≤ 255) (u : World) (n : Nat) (hn : n = u.heap.size) :
    (convert 22 9 (.slice (some ⟨n, 0, none⟩) 1 1)).run Tryd.prog (u.alloc (.cells #[.int .u8 x] 5)) = .ok (.string ⟨#[b8 x]⟩) (u.alloc (.cells #[.int .u8 x] 5)) := by
  subst hn
  refine conv_run (xs := [b8 x]) ⟨_, _, rfl, by simp, fun h => by simp at h, fun i hi => ⟨_, rfl, ?_⟩⟩
  rw [Addr.add_lit, Nat.zero_add, World.cell?_alloc_mark]
  match i, hi with
  | 0, _ => simp [b8_toNat hx]

theorem owns_base {w : World} {b b' n : Nat} {v : Value} {xs : List Value} (h : w.ownsRow b 5 1 v n xs) (hb : b' ≤ b) : w.ownsRow b' 5 1 v n xs := by
  obtain ⟨h1, h2⟩ := h
  refine ⟨h1, ?_⟩
  rcases h2 with h2 | ⟨g, cap, cur, hv, hg, r⟩
  · exact .inl h2
  · exact .inr ⟨g, cap, cur, hv, by omega, r⟩

/-- '[]byte(s)'. -/
theorem bytes_run (u : World) (s : ByteArray) (xs : List UInt8) (hs : s.data.toList = xs) :
    ∃ (cap : Nat) (u' : World), (convert 9 22 (.string s)).run Tryd.prog u = .ok (.slice (some ⟨u.heap.size, 0, none⟩) xs.length cap) u' ∧ Bs u' (.slice (some ⟨u.heap.size, 0, none⟩) xs.length cap) xs ∧ Below u.heap.size u u' := by
  have hl : xs.length = s.size := by rw [← hs, Array.length_toList]; rfl
  refine ⟨grownCap u s.size 0 5, u.drew.alloc (.cells (bytesRow s (grownCap u s.size 0 5)) 5 ((bytesRow s (grownCap u s.size 0 5)).size, (bytesRow s (grownCap u s.size 0 5)).size + 1)), ?_, ?_, ?_⟩
  · rw [hl]; exact run_bytes_of_string u 9 22 5 s Tryd.underlying9 Tryd.underlying22 Tryd.underlying5
  · refine ⟨_, _, rfl, ?_, fun h => by simp at h, fun i hi => ⟨_, rfl, ?_⟩⟩
    · rw [hl]; exact grownCap_ge _ _ _ _
    · rw [Addr.add_lit, Nat.zero_add]
      have hi' : i < s.data.size := by rw [hl] at hi; exact hi
      have h1 := World.cell?_alloc_mark u.drew (bytesRow s (grownCap u s.size 0 5)) 5 ((bytesRow s (grownCap u s.size 0 5)).size, (bytesRow s (grownCap u s.size 0 5)).size + 1) i
      refine h1.trans ?_
      rw [bytesRow_at s _ i hi']
      have : xs.getD i 0 = s.data[i] := by
        rw [← hs]
        simp only [List.getD, Array.getElem?_toList]
        rw [Array.getElem?_eq_getElem hi']
        rfl
      rw [this]
  · exact (Below.drew (Below.refl _ _)).alloc (Nat.le_refl _) _

theorem append_one (X : List UInt8) (y : UInt8) : (⟨X.toArray⟩ : ByteArray) ++ ⟨#[y]⟩ = ⟨(X ++ [y]).toArray⟩ := by
  rw [ByteArray.mk_append_mk]
theorem map_snoc (l : List Int) (k : Nat) (x : Int) (h : l[k]? = some x) (p : List UInt8) : p ++ (l.take (k + 1)).map b8 = (p ++ (l.take k).map b8) ++ [b8 x] := by
  rw [List.take_add_one, h]; simp

end Go.Proofs.YtlomffhofionnaaDoor.leaf
