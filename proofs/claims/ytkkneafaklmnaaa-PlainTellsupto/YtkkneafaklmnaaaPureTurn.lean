/-
  Plain mathematics for chunks: there, and back; what is unlike looks unlike; a spoilt one is none. Nothing of the program.
-/
import Derived.Test.YtkkneafaklmnaaaPureRead
namespace Go.Proofs.Ytkkneafaklmnaaa.mth

theorem i8_b8 {n : Int} (h : 0 ≤ n ∧ n ≤ 255) : i8 (b8 n) = n := b8_toNat h
theorem b8_i8 (x : UInt8) : b8 (i8 x) = x := by
  have h : 0 ≤ i8 x ∧ i8 x ≤ 255 := by have := x.toNat_lt; unfold i8; omega
  apply UInt8.toNat_inj.1
  have := b8_toNat h
  unfold i8 at this
  unfold i8
  omega
theorem map_i8_b8 (l : List Int) (h : ∀ x ∈ l, 0 ≤ x ∧ x ≤ 255) : (l.map b8).map i8 = l := by
  rw [List.map_map]
  exact (List.map_congr_left (fun x hx => i8_b8 (h x hx))).trans (List.map_id' l)
theorem map_b8_i8 (l : List UInt8) : (l.map i8).map b8 = l := by
  rw [List.map_map]
  exact (List.map_congr_left (fun x _ => b8_i8 x)).trans (List.map_id' l)

theorem fields_body (c : Ch) (h : wrongL c = 0) : fieldsL (bodyL c) = c ∧ shortL (bodyL c) = false := by
  have hcs := right_cases c h
  obtain ⟨kind, number, stream, place, data, early⟩ := c
  simp only at hcs
  rcases hcs with ⟨rfl, h2, h3, h4, h5, rfl⟩ | ⟨rfl, h2, rfl, rfl, rfl, h6, h7⟩
  · have e : bodyL ⟨1, number, stream, place, data, []⟩ = [b8 1, b8 number, b8 stream, b8 place] ++ data := by simp [bodyL]
    rw [e]
    have e1 : i8 (b8 1) = 1 := i8_b8 (by omega)
    constructor
    · unfold fieldsL
      simp only [List.cons_append, List.getD_cons_zero, List.getD_cons_succ, e1, if_true, List.drop_succ_cons, List.drop_zero, List.nil_append]
      rw [i8_b8 (by omega), i8_b8 (by omega), i8_b8 (by omega)]
    · simp [shortL]
  · have e : bodyL ⟨2, number, 0, 0, [], early⟩ = [b8 2, b8 number] ++ early.map b8 := by simp [bodyL]
    rw [e]
    have e1 : i8 (b8 2) = 2 := i8_b8 (by omega)
    constructor
    · unfold fieldsL
      simp only [List.cons_append, List.getD_cons_zero, List.getD_cons_succ, e1, List.drop_succ_cons, List.drop_zero, List.nil_append]
      rw [if_neg (by omega), i8_b8 (by omega), map_i8_b8 early (fun x hx => by have := rises_mem _ _ h7 x hx; omega)]
    · simp [shortL, e1]

/-- THERE, AND BACK. -/
theorem read_bytes (c : Ch) (h : wrongL c = 0) : readE (sealL (bodyL c)) = 0 ∧ readC (sealL (bodyL c)) = c := by
  obtain ⟨h1, h2⟩ := fields_body c h
  have e : readE (sealL (bodyL c)) = 0 := by
    simp [readE, ok_seal, open_seal, h2, h1, h]
  exact ⟨e, by simp [readC, e, open_seal, h1]⟩

theorem body_fields (x : List UInt8) (hs : shortL x = false) (h : wrongL (fieldsL x) = 0) : bodyL (fieldsL x) = x := by
  simp only [shortL, Bool.or_eq_false_iff, decide_eq_false_iff_not, Bool.and_eq_false_iff] at hs
  obtain ⟨hs1, hs2⟩ := hs
  unfold fieldsL
  by_cases h1 : i8 (x.getD 0 0) = 1
  · rw [if_pos h1]
    match x, hs1, hs2, h1 with
    | x0 :: x1 :: x2 :: x3 :: r, _, _, h1 =>
      have hb : b8 1 = x0 := by
        have := b8_i8 x0
        simp at h1
        rw [h1] at this
        exact this
      simp [bodyL, b8_i8, hb]
    | [], hs1, _, _ => simp at hs1
    | [_], hs1, _, _ => simp at hs1
    | [_, _], _, hs2, h1 => simp at hs2; exact absurd h1 hs2
    | [_, _, _], _, hs2, h1 => simp at hs2; exact absurd h1 hs2
  · rw [if_neg h1]
    match x, hs1, h1 with
    | x0 :: x1 :: r, _, h1 =>
      have h1' : ¬ i8 x0 = 1 := by simpa using h1
      have hm : r.map (b8 ∘ i8) = r := by rw [← List.map_map]; exact map_b8_i8 r
      simp [bodyL, h1', b8_i8, hm]
    | [], hs1, _ => simp at hs1
    | [_], hs1, _ => simp at hs1

/-- BYTES THAT ARE READ ARE THEIR OWN. -/
theorem bytes_read (b : List UInt8) (h : readE b = 0) : wrongL (readC b) = 0 ∧ sealL (bodyL (readC b)) = b := by
  have hc : readC b = fieldsL (openL b) := by simp [readC, h]
  rw [hc]
  unfold readE at h
  split at h
  · omega
  · rename_i hk
    split at h
    · omega
    · rename_i hs
      have hk' : okL b = true := by simpa using hk
      refine ⟨h, ?_⟩
      rw [body_fields _ (by simpa using hs) h]
      have ho : openL b = b.take (b.length - 2) := by simp [openL, hk']
      have := hk'
      simp only [okL, Bool.and_eq_true, decide_eq_true_eq, beq_iff_eq] at this
      rw [ho]
      exact this.2

/-- WHAT IS UNLIKE LOOKS UNLIKE. -/
theorem unlike (a b : Ch) (ha : wrongL a = 0) (hb : wrongL b = 0) : (sealL (bodyL a) == sealL (bodyL b)) = sameC a b := by
  rw [Bool.eq_iff_iff, sameC_iff, beq_iff_eq]
  constructor
  · intro h
    rw [← (read_bytes a ha).2, h, (read_bytes b hb).2]
  · intro h
    rw [h]

/-- A CHUNK THAT IS SPOILT IS NONE. -/
theorem spoilt (c : Ch) (k : Nat) (y : UInt8) (hk : k < (sealL (bodyL c)).length) (hne : (sealL (bodyL c))[k] ≠ y) : readE ((sealL (bodyL c)).set k y) = 7 := by
  have := turned (bodyL c) k y hk hne
  simp [readE, this]

theorem len_body (c : Ch) (h : wrongL c = 0) : 2 ≤ (bodyL c).length ∧ (bodyL c).length ≤ 10 := by
  have hcs := right_cases c h
  obtain ⟨kind, number, stream, place, data, early⟩ := c
  simp only at hcs
  rcases hcs with ⟨rfl, h2, h3, h4, h5, rfl⟩ | ⟨rfl, h2, rfl, rfl, rfl, h6, h7⟩
  · simp [bodyL]; omega
  · simp [bodyL]; omega
end Go.Proofs.Ytkkneafaklmnaaa.mth
