/-
  Chunks and messages that came in, as the walks want them.
-/
import Derived.Test.YtlomffhofionnaaDoorRows
import Derived.Test.YtlomffhofionnaaDoorArgs
import Derived.Test.YtlomffhofionnaaDoorWrong
import Derived.Lib.SmallJoins
namespace Go.Proofs.YtlomffhofionnaaDoor.leaf
set_option linter.unusedVariables false
open Go.ChangeShapes Go.WideShapes Go.ChangeAt Go.RowKit
open mth

theorem bulk_length {H : Type} (l : List (DataW H)) : l.length ≤ Rows.uptoBulkAll l := by
  induction l with
  | nil => simp [Rows.uptoBulkAll]
  | cons x r ih =>
    have : 1 ≤ Rows.uptoBulk x := by
      cases x with
      | lit l => cases l <;> simp [Rows.uptoBulk]
      | nil => simp [Rows.uptoBulk]
      | ptr d => simp [Rows.uptoBulk]
      | slice elems spare => simp [Rows.uptoBulk]
      | agg parts => simp [Rows.uptoBulk]
      | iface t d => simp [Rows.uptoBulk]
      | map entries => simp [Rows.uptoBulk]
      | held h => simp [Rows.uptoBulk]
    simp only [Rows.uptoBulkAll, List.length_cons]; omega
theorem bulk_slice {H : Type} (elems spare : List (DataW H)) : elems.length + spare.length + 1 ≤ Rows.uptoBulk (.slice elems spare) := by
  have h1 := bulk_length elems
  have h2 := bulk_length spare
  simp only [Rows.uptoBulk]
  omega

theorem int_of_wf {z : Int} (h : (Lit.int .i64 z).wf = true) : I64 z := by
  unfold I64
  simpa [Lit.wf, IntKind.min, IntKind.max, IntKind.signed, IntKind.bits] using h

/-- A slice of bytes in a cell. -/
theorem bytes_cell {H : Type} {enc : TypeId × Value → H} {W : World} {n : Nat} {v : Value} {y : DataW H × List MemPlace} (hf : DataW.trod enc Tryd.prog W 0 (fun _ => true) true n 22 [v] = some y) :
    ∃ xs : List UInt8, Bs W v xs ∧ xs.length ≤ maxLen ∧ xs.length ≤ Rows.uptoBulk y.1 := by
  rcases open_ints Tryd.underlying22 Tryd.underlying5 cells5 hf with ⟨hcs, hy⟩ | ⟨x, l, c, zs, hcs, _, hl, hm, hz, hx, hcell, hwz⟩
  · simp at hcs
    subst hcs
    exact ⟨[], ⟨_, _, rfl, Nat.le_refl _, fun _ => rfl, fun i hi => by simp at hi⟩, by simp, by simp⟩
  · simp at hcs
    subst hcs
    simp only [if_true] at hz
    have e : ((zs.take l).map (fun z : Int => UInt8.ofNat z.toNat)).length = l := by simp; omega
    refine ⟨(zs.take l).map (fun z => UInt8.ofNat z.toNat), ⟨_, _, by rw [e], by rw [e]; exact hl, fun h => by simp at h, fun i hi => ⟨x, rfl, ?_⟩⟩, by rw [e]; omega, ?_⟩
    · rw [e] at hi
      rw [hcell i (by omega)]
      have hi' : i < zs.length := by omega
      have : (((zs.take l).map (fun z : Int => UInt8.ofNat z.toNat)).getD i 0) = UInt8.ofNat (zs[i]).toNat := by
        simp [List.getD, hi, hi']
      rw [this, byte_of (hwz _ (List.getElem_mem hi'))]
      simp [List.getD, hi']
    · rw [e, hx]
      have := bulk_slice (H := H) (lits .u8 (zs.take l)) (lits .u8 (zs.drop l))
      simp only [lits, List.length_map, List.length_take, List.length_drop] at this
      simp only [lits]
      omega
theorem bulk_mem {H : Type} {d : DataW H} {l : List (DataW H)} (h : d ∈ l) : Rows.uptoBulk d ≤ Rows.uptoBulkAll l := by
  induction l with
  | nil => cases h
  | cons x r ih =>
    simp only [Rows.uptoBulkAll]
    cases List.mem_cons.1 h with
    | inl e => subst e; omega
    | inr e => have := ih e; omega

theorem cells34 : Tryd.prog.cellsOf 24 = 2 := by kernel_rfl
theorem cells3 : Tryd.prog.cellsOf 3 = 1 := by kernel_rfl
theorem cells22 : Tryd.prog.cellsOf 22 = 1 := by kernel_rfl
/-- A message that came in. -/
theorem msg_in {H : Type} {enc : TypeId × Value → H} {W : World} {base : Nat} {v : Value} {d : DataW H} {p : List MemPlace} (hok : Value.okWide Tryd.prog W .any base 24 v) (hT : DataW.Trod enc Tryd.prog W 0 (fun _ => true) true 24 v d p) :
    ∃ s dv xs, v = .agg #[.int .i64 s, dv] ∧ I64 s ∧ Bs W dv xs ∧ xs.length ≤ maxLen ∧ xs.length ≤ Rows.uptoBulk d := by
  obtain ⟨cs, rfl, hsz⟩ := okWide_struct Tryd.underlying24 hok
  rw [cells34] at hsz
  obtain ⟨v0, v1, rfl⟩ : ∃ v0 v1, cs = #[v0, v1] := by
    obtain ⟨l⟩ := cs
    match l, hsz with
    | [v0, v1], _ => exact ⟨v0, v1, rfl⟩
  obtain ⟨fuel, hf⟩ := hT
  obtain ⟨ys, n, _, hx, hl, hlen, hfs⟩ := DataW.trod_struct Tryd.underlying24 hf
  have f0 := hfs 0 _ rfl
  have f1 := hfs 1 _ rfl
  obtain ⟨y0, y1, rfl⟩ : ∃ y0 y1, ys = [y0, y1] := by
    match ys, hlen with
    | [y0, y1], _ => exact ⟨y0, y1, rfl⟩
  simp [Value.cells, cells3, cells22] at f0 f1
  obtain ⟨a0, h0, _, k0⟩ := DataW.trod_int Tryd.underlying3 f0
  simp at h0
  subst h0
  obtain ⟨xs, hB, hm, hb1⟩ := bytes_cell f1
  simp only [Prod.mk.injEq] at hx
  obtain ⟨rfl, _⟩ := hx
  refine ⟨a0, _, xs, rfl, int_of_wf k0, hB, hm, ?_⟩
  have e : Rows.uptoBulk (H := H) (.agg [y0.1, y1.1]) = Rows.uptoBulkAll [y0.1, y1.1] + 1 := by simp [Rows.uptoBulk]
  simp only [List.map_cons, List.map_nil]
  rw [e]
  have := bulk_mem (d := y1.1) (l := [y0.1, y1.1]) (by simp)
  omega
end Go.Proofs.YtlomffhofionnaaDoor.leaf
