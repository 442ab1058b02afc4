/-
  Several texts in one.
-/
import Derived.Test.YtngfedhffehkaacM26
import Derived.Laws.AppendOwnNone

/-
  The contract of the program's copy of a chunk.
-/
namespace Go.Proofs.Ytngfedhffehkaac.leaf
set_option maxRecDepth 10000
set_option linter.unusedSimpArgs false
set_option linter.unusedVariables false
open Go.RowKit
open mth

end Go.Proofs.Ytngfedhffehkaac.leaf

/-
  The contract of what tells a right chunk's bytes.
-/
namespace Go.Proofs.Ytngfedhffehkaac.leaf
set_option maxRecDepth 10000
set_option linter.unusedSimpArgs false
set_option linter.unusedVariables false
open Go.RowKit
open mth

/-- 'string([]byte{x, y})'. -/
theorem conv_two (x y : Int) (hx : 0 ≤ x ∧ x ≤ 255) (hy : 0 ≤ y ∧ y ≤ 255) (u : World) (n : Nat) (hn : n = u.heap.size) :
    (convert 23 9 (.slice (some ⟨n, 0, none⟩) 2 2)).run Try.prog (u.alloc (.cells #[.int .u8 x, .int .u8 y] 5)) = .ok (.string ⟨#[b8 x, b8 y]⟩) (u.alloc (.cells #[.int .u8 x, .int .u8 y] 5)) := by
  subst hn
  refine conv_run (xs := [b8 x, b8 y]) ⟨_, _, rfl, by simp, fun h => by simp at h, fun i hi => ⟨_, rfl, ?_⟩⟩
  rw [Addr.add_lit, Nat.zero_add, World.cell?_alloc_mark]
  match i, hi with
  | 0, _ => simp [b8_toNat hx]
  | 1, _ => simp [b8_toNat hy]
theorem conv_one (x : Int) (hx : 0 ≤ x ∧ x ≤ 255) (u : World) (n : Nat) (hn : n = u.heap.size) :
    (convert 23 9 (.slice (some ⟨n, 0, none⟩) 1 1)).run Try.prog (u.alloc (.cells #[.int .u8 x] 5)) = .ok (.string ⟨#[b8 x]⟩) (u.alloc (.cells #[.int .u8 x] 5)) := by
  subst hn
  refine conv_run (xs := [b8 x]) ⟨_, _, rfl, by simp, fun h => by simp at h, fun i hi => ⟨_, rfl, ?_⟩⟩
  rw [Addr.add_lit, Nat.zero_add, World.cell?_alloc_mark]
  match i, hi with
  | 0, _ => simp [b8_toNat hx]

theorem owns_base {w : World} {b b' n : Nat} {v : Value} {xs : List Value} (h : w.ownsRow b 5 1 v n xs) (hb : b' ≤ b) : w.ownsRow b' 5 1 v n xs := by
  obtain ⟨h1, h2⟩ := h
  refine ⟨h1, ?_⟩
  rcases h2 with h2 | ⟨g, cap, cur, hv, hg, r⟩
  · exact .inl h2
  · exact .inr ⟨g, cap, cur, hv, by omega, r⟩

/-- '[]byte(s)'. -/
theorem bytes_run (u : World) (s : ByteArray) (xs : List UInt8) (hs : s.data.toList = xs) :
    ∃ (cap : Nat) (u' : World), (convert 9 23 (.string s)).run Try.prog u = .ok (.slice (some ⟨u.heap.size, 0, none⟩) xs.length cap) u' ∧ Bs u' (.slice (some ⟨u.heap.size, 0, none⟩) xs.length cap) xs ∧ Below u.heap.size u u' := by
  have hl : xs.length = s.size := by rw [← hs, Array.length_toList]; rfl
  refine ⟨grownCap u s.size 0 5, u.drew.alloc (.cells (bytesRow s (grownCap u s.size 0 5)) 5 ((bytesRow s (grownCap u s.size 0 5)).size, (bytesRow s (grownCap u s.size 0 5)).size + 1)), ?_, ?_, ?_⟩
  · rw [hl]; exact run_bytes_of_string u 9 23 5 s Try.underlying9 Try.underlying23 Try.underlying5
  · refine ⟨_, _, rfl, ?_, fun h => by simp at h, fun i hi => ⟨_, rfl, ?_⟩⟩
    · rw [hl]; exact grownCap_ge _ _ _ _
    · rw [Addr.add_lit, Nat.zero_add]
      have hi' : i < s.data.size := by rw [hl] at hi; exact hi
      have h1 := World.cell?_alloc_mark u.drew (bytesRow s (grownCap u s.size 0 5)) 5 ((bytesRow s (grownCap u s.size 0 5)).size, (bytesRow s (grownCap u s.size 0 5)).size + 1) i
      refine h1.trans ?_
      rw [bytesRow_at s _ i hi']
      have : xs.getD i 0 = s.data[i] := by
        rw [← hs]
        simp only [List.getD, Array.getElem?_toList]
        rw [Array.getElem?_eq_getElem hi']
        rfl
      rw [this]
  · exact (Below.drew (Below.refl _ _)).alloc (Nat.le_refl _) _

set_option maxHeartbeats 4000000 in
theorem refBytes_one (number stream place : Int) (b : Option Addr) (cb : Nat) (data : List UInt8) (a : Option Addr) (ca : Nat) (w : World) (hd : Bs w (.slice b data.length cb) data) (h6 : data.length ≤ 6)
    (hn : 0 ≤ number ∧ number ≤ 40) (hs : 0 ≤ stream ∧ stream ≤ 2) (hp : 0 ≤ place ∧ place ≤ 40) :
    Calls Try.prog 50 #[.agg #[.int .i64 1, .int .i64 number, .int .i64 stream, .int .i64 place, .slice b data.length cb, .slice a 0 ca]] w fun e w' => ∃ v', e = .returned v' ∧ w'.ownsRow w.heap.size 5 1 v' (data.length + 6) ((sealL ([b8 1, b8 number, b8 stream, b8 place] ++ data)).map B) ∧ Below w.heap.size w w' := by
  have c1 := conv_two 1 number (by omega) (by omega)
  have c2 := conv_two stream place (by omega) (by omega)
  have hb0 : Below w.heap.size w (((w.alloc (.cells #[.int .i64 1, .int .i64 number, .int .i64 stream, .int .i64 place, .slice b data.length cb, .slice a 0 ca] 86)).alloc (.cells #[.int .u8 1, .int .u8 number] 5)).alloc (.cells #[.int .u8 stream, .int .u8 place] 5)) :=
    (((Below.refl _ _).alloc (Nat.le_refl _) _).alloc (by simp) _).alloc (by simp; omega) _
  have c3 := conv_run (hd.later hb0)
  obtain ⟨cap4, u4, c4, hB4, hb4⟩ := bytes_run (((w.alloc (.cells #[.int .i64 1, .int .i64 number, .int .i64 stream, .int .i64 place, .slice b data.length cb, .slice a 0 ca] 86)).alloc (.cells #[.int .u8 1, .int .u8 number] 5)).alloc (.cells #[.int .u8 stream, .int .u8 place] 5))
    ((⟨#[b8 1, b8 number]⟩ : ByteArray) ++ ⟨#[b8 stream, b8 place]⟩ ++ ⟨data.toArray⟩) ([b8 1, b8 number, b8 stream, b8 place] ++ data) (by simp)
  have HL : ([b8 1, b8 number, b8 stream, b8 place] ++ data).length = data.length + 4 := by simp
  have hz : (((w.alloc (.cells #[.int .i64 1, .int .i64 number, .int .i64 stream, .int .i64 place, .slice b data.length cb, .slice a 0 ca] 86)).alloc (.cells #[.int .u8 1, .int .u8 number] 5)).alloc (.cells #[.int .u8 stream, .int .u8 place] 5)).heap.size = w.heap.size + 3 := by simp
  rw [hz] at c4 hB4 hb4
  have hb04 : Below w.heap.size w u4 := hb0.trans (hb4.mono (by omega))
  clear hz hb4
  generalize ([b8 1, b8 number, b8 stream, b8 place] ++ data) = X at *
  have HB4 := hide hB4
  have HB0 := hide hb04
  have HX := hide HL
  clear hb0 hd hB4 hb04 HL
  go_enter Try.func50, Try.ntmps50
  go_wp2_with fail
  refine wp_loop_rounds 1 ?_
  rw [rounds_succ]
  go_wp2_with fail
  refine (refSeal_any _ cap4 X u4 HB4.out (by rw [HX.out]; omega)).mono ?_
  rintro e w5 ⟨v5, rfl, hown5, hb5⟩
  go_wp2
  go_ret
  refine ⟨_, rfl, ?_, HB0.out.trans (hb5.mono HB0.out.size)⟩
  have e : X.length + 2 = data.length + 6 := by rw [HX.out]
  rw [e] at hown5
  exact owns_base hown5 HB0.out.size

theorem append_one (X : List UInt8) (y : UInt8) : (⟨X.toArray⟩ : ByteArray) ++ ⟨#[y]⟩ = ⟨(X ++ [y]).toArray⟩ := by
  rw [ByteArray.mk_append_mk]
theorem map_snoc (l : List Int) (k : Nat) (x : Int) (h : l[k]? = some x) (p : List UInt8) : p ++ (l.take (k + 1)).map b8 = (p ++ (l.take k).map b8) ++ [b8 x] := by
  rw [List.take_add_one, h]; simp

set_option maxHeartbeats 4000000 in
theorem refBytes_two (number : Int) (b : Option Addr) (cb : Nat) (a : Option Addr) (ca : Nat) (early : List Int) (w : World) (he : Is w (.slice a early.length ca) early) (h3 : early.length ≤ 3)
    (hn : 0 ≤ number ∧ number ≤ 40) (hr : ∀ x ∈ early, 0 ≤ x ∧ x ≤ 39) :
    Calls Try.prog 50 #[.agg #[.int .i64 2, .int .i64 number, .int .i64 0, .int .i64 0, .slice b 0 cb, .slice a early.length ca]] w fun e w' => ∃ v', e = .returned v' ∧ w'.ownsRow w.heap.size 5 1 v' (early.length + 4) ((sealL ([b8 2, b8 number] ++ early.map b8)).map B) ∧ Below w.heap.size w w' := by
  have c1 := conv_two 2 number (by omega) (by omega)
  have HE := hide he
  have HR := hide hr
  clear he hr
  go_enter Try.func50, Try.ntmps50
  go_wp2_with fail
  clear c1
  have hbs : Below w.heap.size w ((w.alloc (.cells #[.int .i64 2, .int .i64 number, .int .i64 0, .int .i64 0, .slice b 0 cb, .slice a early.length ca] 86)).alloc (.cells #[.int .u8 2, .int .u8 number] 5)) :=
    ((Below.refl _ _).alloc (Nat.le_refl _) _).alloc (by simp) _
  go_loopw [3, 34] (fun s i wr => ∃ k : Nat, k ≤ early.length ∧ i = .int .i64 k ∧ s = .string ⟨([b8 2, b8 number] ++ (early.take k).map b8).toArray⟩ ∧ Below w.heap.size w wr) (fun _ i _ => early.length - (intOf i).toNat)
  case atStart => exact ⟨0, Nat.zero_le _, rfl, rfl, hbs⟩
  case round =>
    obtain ⟨k, hk, rfl, rfl, hbr⟩ := hrel
    clear hbs
    by_cases hlt : k < early.length
    · obtain ⟨x, hx⟩ := some_at hlt
      obtain ⟨ba, oa, rfl, hca⟩ := (HE.out.later hbr).at (by omega)
      have h1 := hca k x hx
      have hx9 := HR.out x (List.mem_of_getElem? hx)
      have c2 := conv_one x (by omega)
      have hlt' : (k : Int) < (early.length : Int) := by omega
      have HX := hide (map_snoc early k x hx [b8 2, b8 number])
      have hlen : ([b8 2, b8 number] ++ (early.take k).map b8).length ≤ 6 := by simp; omega
      have HBR := hide hbr
      clear hca hx hbr
      generalize ([b8 2, b8 number] ++ (early.take k).map b8) = X at *
      go_wp2
      go_roundw
      case rel => exact ⟨k + 1, by omega, by go_num, by rw [HX.out, append_one], HBR.out.alloc HBR.out.size _⟩
      case measure => simp [intOf]; omega
    · have hX : [b8 2, b8 number] ++ (early.take k).map b8 = [b8 2, b8 number] ++ early.map b8 := by rw [List.take_of_length_le (by omega)]
      obtain ⟨X, hX0⟩ : ∃ X, X = [b8 2, b8 number] ++ early.map b8 := ⟨_, rfl⟩
      rw [hX, ← hX0]
      have HL : X.length = early.length + 2 := by rw [hX0]; simp
      have HX0 := hide hX0
      clear hX hX0
      obtain ⟨cap4, u4, c4, hB4, hb4⟩ := bytes_run wr ⟨X.toArray⟩ X (by simp)
      have hb04 : Below w.heap.size w u4 := hbr.trans (hb4.mono hbr.size)
      have HB4 := hide hB4
      have HB0 := hide hb04
      have HX := hide HL
      clear hB4 hb4 hb04 HL hbr
      go_wp2_with fail
      refine (refSeal_any _ cap4 X u4 HB4.out (by rw [HX.out]; omega)).mono ?_
      rintro e w5 ⟨v5, rfl, hown5, hb5⟩
      go_wp2
      go_ret
      refine ⟨_, rfl, ?_, HB0.out.trans (hb5.mono HB0.out.size)⟩
      have e : X.length + 2 = early.length + 4 := by rw [HX.out]
      rw [e, HX0.out] at hown5
      exact owns_base hown5 HB0.out.size

theorem refBytes_any (v : Value) (c : Ch) (w : World) (h : Cv w v c) (hc : wrongL c = 0) :
    Calls Try.prog 50 #[v] w fun e w' => ∃ v', e = .returned v' ∧ w'.ownsRow w.heap.size 5 1 v' ((bodyL c).length + 2) ((sealL (bodyL c)).map B) ∧ Below w.heap.size w w' := by
  obtain ⟨dv, ev, rfl, hd, he, hm, k1, k2, k3, k4⟩ := h
  have hcs := right_cases c hc
  obtain ⟨kind, number, stream, place, data, early⟩ := c
  simp only at *
  rcases hcs with ⟨rfl, h2, h3, h4, h5, rfl⟩ | ⟨rfl, h2, rfl, rfl, rfl, h6, h7⟩
  · obtain ⟨a, ca, rfl, hla, hma⟩ := he.shape
    have hd' := hd
    obtain ⟨b, cb, rfl, -⟩ := hd'
    have := refBytes_one number stream place b cb data a ca w hd h5 (by omega) (by omega) (by omega)
    simpa [bodyL, Nat.add_assoc] using this
  · obtain ⟨a, ca, rfl, hla, hma⟩ := he.shape
    obtain ⟨b, cb, rfl, -⟩ := hd
    have := refBytes_two number b cb a ca early w he h6 (by omega) (fun x hx => by have := rises_mem _ _ h7 x hx; omega)
    simpa [bodyL, Nat.add_assoc] using this
end Go.Proofs.Ytngfedhffehkaac.leaf
