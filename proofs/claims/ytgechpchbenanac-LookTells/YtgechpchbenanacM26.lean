/-
  Several texts in one.
-/
import Derived.Test.YtgechpchbenanacM25
import Derived.Test.YtgechpchbenanacM24
import Derived.Test.YtgechpchbenanacProg
import Derived.Test.YtgechpchbenanacRows
import Derived.Deep.Slices
import Derived.OpenShut
import Derived.SizedLaws
import Derived.WalkKit
import Derived.ProofKit
import Derived.JoinedCond
import Derived.Below

/-
  Plain mathematics for messages as texts. Nothing of the program.
-/
namespace Go.Proofs.Ytgechpchbenanac.mth
set_option linter.unusedSimpArgs false

structure Ms where
  stream : Int
  data : List UInt8

def sameM (a b : Ms) : Bool := a.stream == b.stream && a.data == b.data
theorem sameM_iff (a b : Ms) : sameM a b = true ↔ a = b := by
  cases a; cases b; simp [sameM]

end Go.Proofs.Ytgechpchbenanac.mth

/-
  Messages and chunks, as plain data.
-/
namespace Go.Proofs.Ytgechpchbenanac.ab
set_option linter.unusedSimpArgs false
set_option linter.unusedVariables false
open Go mth

abbrev vI (n : Int) : D := vD (.int .i64 n)
def encMs (m : Ms) : List D := [vI m.stream, sD 1 (m.data.map encB)]
def encCh (c : Ch) : List D := [vI c.kind, vI c.number, vI c.stream, vI c.place, sD 1 (c.data.map encB), sD 1 (c.early.map vI)]
/-- Lists of them. -/
def encMl (l : List Ms) : List D := l.map fun m => aD (encMs m)
def encCl (l : List Ch) : List D := l.map fun c => aD (encCh c)
theorem len_ml (l : List Ms) : (encMl l).length = l.length := by simp [encMl]
end Go.Proofs.Ytgechpchbenanac.ab

/-
  The program follows what Go leaves open.
-/
namespace Go.Proofs.Ytgechpchbenanac.ab
set_option linter.unusedSimpArgs false
open Go
theorem follows : Try.prog.follows .mixedOrders = true := by kernel_rfl
end Go.Proofs.Ytgechpchbenanac.ab

/-
  What came in, as plain data.
-/
namespace Go.Proofs.Ytgechpchbenanac.ab
set_option linter.unusedSimpArgs false
set_option linter.unusedVariables false
open Go Go.ChangeShapes Go.WideShapes Go.RowKit
open mth

theorem bulk_length {H : Type} (l : List (DataW H)) : l.length ≤ Rows.uptoBulkAll l := by
  induction l with
  | nil => simp [Rows.uptoBulkAll]
  | cons x r ih =>
    have : 1 ≤ Rows.uptoBulk x := by
      cases x with
      | lit l => cases l <;> simp [Rows.uptoBulk]
      | nil => simp [Rows.uptoBulk]
      | ptr d => simp [Rows.uptoBulk]
      | slice elems spare => simp [Rows.uptoBulk]
      | agg parts => simp [Rows.uptoBulk]
      | iface t d => simp [Rows.uptoBulk]
      | map entries => simp [Rows.uptoBulk]
      | held h => simp [Rows.uptoBulk]
    simp only [Rows.uptoBulkAll, List.length_cons]; omega
theorem bulk_slice {H : Type} (elems spare : List (DataW H)) : elems.length + spare.length + 1 ≤ Rows.uptoBulk (.slice elems spare) := by
  have h1 := bulk_length elems
  have h2 := bulk_length spare
  simp only [Rows.uptoBulk]
  omega

/-- All that is there. -/
def AllOf (W : World) : Still := fun b _ => b < W.heap.size
theorem inR_wf {z : Int} (h : (Lit.int .i64 z).wf = true) : inR .i64 z = true := by
  refine inR_of ?_
  simpa [Lit.wf, IntKind.min, IntKind.max, IntKind.signed, IntKind.bits] using h
theorem u8_wf {z : Int} (h : (Lit.int .u8 z).wf = true) : (((UInt8.ofNat z.toNat).toNat : Nat) : Int) = z := by
  have hx : 0 ≤ z ∧ z ≤ 255 := by simpa [Lit.wf, IntKind.min, IntKind.max, IntKind.signed, IntKind.bits] using h
  rw [UInt8.toNat_ofNat']
  omega

section
variable {H : Type} {enc : TypeId × Value → H} {W : World}
theorem add_mul_add (a : Addr) (i j k : Nat) : (a.add (i * k)).add j = a.add (i * k + j) := by
  unfold Addr.add
  by_cases hi : i * k = 0 <;> by_cases hj : j = 0 <;> simp [hi, hj, Nat.add_assoc]
theorem bulk_mem {d : DataW H} : ∀ {l : List (DataW H)}, d ∈ l → Rows.uptoBulk d ≤ Rows.uptoBulkAll l
  | [], h => by simp at h
  | x :: l, h => by
    simp only [Rows.uptoBulkAll]
    rcases List.mem_cons.1 h with rfl | h
    · omega
    · have := bulk_mem h; omega
/-- A slice in a cell, whatever its elements are; they have no more than it has. -/
theorem in_sliceB {α : Type} {encA : α → D} {Pa : α → Prop} {size : Nat} {n : Nat} {t e : TypeId} {v : Value} {y : DataW H × List MemPlace}
    (ht : Try.prog.underlying t = some (.slice e)) (hc : Try.prog.cellsOf e = size) (hsz : 0 < size)
    (hopen : ∀ n cs' y', DataW.trod enc Try.prog W 0 (fun _ => true) true n e cs' = some y' → cs'.length = size → Rows.uptoBulk y'.1 ≤ Rows.uptoBulk y.1 → ∃ x : α, Row (AllOf W) W (cellsD (encA x)) cs' ∧ Pa x)
    (hf : DataW.trod enc Try.prog W 0 (fun _ => true) true n t [v] = some y) :
    ∃ xs : List α, CRep (AllOf W) W (sD size (xs.map encA)) v ∧ xs.length ≤ Rows.uptoBulk y.1 ∧ ∀ x ∈ xs, Pa x := by
  rcases Go.Deep.open_slice ht hf with ⟨hcs, _⟩ | ⟨a, len, cap, m, n', Dt, Pl, hcs, _, hl, hm, hmm, hx, hall⟩
  · simp at hcs
    subst hcs
    exact ⟨[], nil_rep size, by simp, fun x hx => by simp at hx⟩
  · simp at hcs
    subst hcs
    simp only [if_true] at hmm
    rw [hc] at hall
    have each : ∀ i, i < len → ∃ (x : α) (cs' : List Value), cs'.length = size ∧ Row (AllOf W) W (cellsD (encA x)) cs' ∧ Pa x ∧ ∀ j, j < size → W.cell? (a.add (i * size + j)) = cs'[j]? := by
      intro i hi
      obtain ⟨cs', h1, h2⟩ := hall i (by omega)
      obtain ⟨_, hlen, hcell⟩ := World.cells?_some h1
      obtain ⟨x, hr, hp⟩ := hopen n' cs' _ h2 hlen (by
        rw [hx]
        have h3 := bulk_mem (List.mem_map_of_mem (f := Dt) (List.mem_range.2 hi))
        simp only [Rows.uptoBulk]
        omega)
      exact ⟨x, cs', hlen, hr, hp, fun j hj => by rw [← add_mul_add]; exact hcell j hj⟩
    have hbk : len ≤ Rows.uptoBulk y.1 := by
      rw [hx]
      have := bulk_slice (H := H) ((List.range len).map Dt) ((List.range (m - len)).map fun j => Dt (len + j))
      simp only [List.length_map, List.length_range] at this
      simp only
      omega
    by_cases h0 : len = 0
    · subst h0
      exact ⟨[], CRep.s (es := []) ⟨fun _ _ => undef, by simp, (fun e => by cases e), hm, (fun e he => by simp at he), (fun h => absurd rfl h), (fun i j e l he => by simp at he)⟩, by simp, fun x hx => by simp at hx⟩
    · obtain ⟨x0, cs0, q0, r0, _, c0⟩ := each 0 (by omega)
      have hspot : ∃ b off, a = ⟨b, off, none⟩ := by
        obtain ⟨b, off, spot⟩ := a
        have h1 := c0 0 hsz
        rw [List.getElem?_eq_getElem (by omega)] at h1
        have : spot = none := by simpa [Addr.add] using World.cell?_spot h1
        exact ⟨b, off, by rw [this]⟩
      obtain ⟨b, off, rfl⟩ := hspot
      have hch : ∀ i, ∃ p : α × List Value, i < len → p.2.length = size ∧ Row (AllOf W) W (cellsD (encA p.1)) p.2 ∧ Pa p.1 ∧ ∀ j, j < size → W.cell? ⟨b, off + (i * size + j), none⟩ = p.2[j]? := by
        intro i
        by_cases hi : i < len
        · obtain ⟨x, cs', h1, h2, h3, h4⟩ := each i hi
          exact ⟨(x, cs'), fun _ => ⟨h1, h2, h3, fun j hj => by have := h4 j hj; rwa [Addr.add_lit] at this⟩⟩
        · exact ⟨(x0, cs0), fun h => absurd h hi⟩
      obtain ⟨f, hf'⟩ := Classical.skolem.1 hch
      have hlen : ((List.range len).map fun i => (f i).1).length = len := by simp
      refine ⟨(List.range len).map fun i => (f i).1, ?_, by rw [hlen]; exact hbk, fun x hx' => ?_⟩
      · have hat : ∀ i e, (((List.range len).map fun i => (f i).1).map encA)[i]? = some e → i < len ∧ e = encA (f i).1 := by
          intro i e he
          rw [List.getElem?_map, List.getElem?_map] at he
          cases hr : (List.range len)[i]? with
          | none => simp [hr] at he
          | some k =>
            obtain ⟨h1, h2⟩ := List.getElem?_eq_some_iff.1 hr
            simp at h1 h2
            subst h2
            simp [hr] at he
            exact ⟨h1, he.symm⟩
        have hl2 : (((List.range len).map fun i => (f i).1).map encA).length = len := by simp
        have := CRep.s (I := AllOf W) (w := W) (z := size) (es := ((List.range len).map fun i => (f i).1).map encA) (a := some ⟨b, off, none⟩) (cap := cap)
          ⟨fun i j => ((f i).2[j]?).getD undef, by rw [hl2]; exact hl, (fun e => by cases e), hm, fun e he => ?_, fun _ => ⟨b, off, rfl, fun i j hi hj => ?_⟩, fun i j e l he hl' => ?_⟩
        · rw [hl2] at this; exact this
        · obtain ⟨i, hi, rfl⟩ := List.mem_iff_getElem.1 he
          obtain ⟨h1, h2⟩ := hat i _ (List.getElem?_eq_getElem hi)
          rw [h2, (hf' i h1).2.1.1, (hf' i h1).1]
        · rw [hl2] at hi
          obtain ⟨g1, g2, g3, g4⟩ := hf' i hi
          have hjl : j < (f i).2.length := by omega
          have h5 := g4 j hj
          rw [List.getElem?_eq_getElem hjl] at h5
          rw [Nat.add_assoc]
          refine ⟨?_, ?_⟩
          · show _ = some (((f i).2[j]?).getD undef)
            rw [h5, List.getElem?_eq_getElem hjl]; rfl
          · exact World.block_lt_of_cell? W _ h5
        · obtain ⟨h1, rfl⟩ := hat i e he
          obtain ⟨u, q1, q2⟩ := (hf' i h1).2.1.at hl'
          show CRep _ _ l (((f i).2[j]?).getD undef)
          rw [q1]; exact q2
      · obtain ⟨i, hi, rfl⟩ := List.mem_map.1 hx'
        exact (hf' i (List.mem_range.1 hi)).2.2.1
/-- A slice in a cell, whatever its elements are. -/
theorem in_slice {α : Type} {encA : α → D} {Pa : α → Prop} {size : Nat} {n : Nat} {t e : TypeId} {v : Value} {y : DataW H × List MemPlace}
    (ht : Try.prog.underlying t = some (.slice e)) (hc : Try.prog.cellsOf e = size) (hsz : 0 < size)
    (hopen : ∀ n cs' y, DataW.trod enc Try.prog W 0 (fun _ => true) true n e cs' = some y → cs'.length = size → ∃ x : α, Row (AllOf W) W (cellsD (encA x)) cs' ∧ Pa x)
    (hf : DataW.trod enc Try.prog W 0 (fun _ => true) true n t [v] = some y) :
    ∃ xs : List α, CRep (AllOf W) W (sD size (xs.map encA)) v ∧ xs.length ≤ Rows.uptoBulk y.1 ∧ ∀ x ∈ xs, Pa x :=
  in_sliceB ht hc hsz (fun n cs' y h hl _ => hopen n cs' y h hl) hf
theorem cells3 : Try.prog.cellsOf 3 = 1 := by kernel_rfl
theorem cells5 : Try.prog.cellsOf 5 = 1 := by kernel_rfl
theorem row_one {c : D} {v : Value} (h : CRep (AllOf W) W c v) : Row (AllOf W) W [c] [v] := Row.single h
/-- Bytes in a cell. -/
theorem in_bytes {n : Nat} {v : Value} {y : DataW H × List MemPlace} (hf : DataW.trod enc Try.prog W 0 (fun _ => true) true n 23 [v] = some y) :
    ∃ xs : List UInt8, CRep (AllOf W) W (sD 1 (xs.map encB)) v ∧ xs.length ≤ Rows.uptoBulk y.1 := by
  obtain ⟨xs, h1, h2, _⟩ := in_slice (α := UInt8) (encA := encB) (Pa := fun _ => True) (size := 1) Try.underlying23 cells5 (by omega) (fun n cs' y h hl => by
    obtain ⟨v, rfl⟩ : ∃ v, cs' = [v] := by
      match cs', hl with
      | [v], _ => exact ⟨v, rfl⟩
    obtain ⟨a0, h0, _, k0⟩ := DataW.trod_int Try.underlying5 h
    simp at h0
    subst h0
    refine ⟨UInt8.ofNat a0.toNat, ?_, trivial⟩
    have : encB (UInt8.ofNat a0.toNat) = vD (.int .u8 a0) := by simp only [encB, u8_wf k0]
    rw [this]
    exact row_one (CRep.v rfl)) hf
  exact ⟨xs, h1, h2⟩
theorem cells22 : Try.prog.cellsOf 23 = 1 := by kernel_rfl
theorem cellsMs : Try.prog.cellsOf 25 = 2 := by kernel_rfl
/-- The cells of a message. -/
theorem in_msg {n : Nat} {cs : List Value} {y : DataW H × List MemPlace} (hf : DataW.trod enc Try.prog W 0 (fun _ => true) true n 25 cs = some y) (hl : cs.length = 2) :
    ∃ x : Ms, Row (AllOf W) W (encMs x) cs ∧ inR .i64 x.stream = true ∧ x.data.length ≤ Rows.uptoBulk y.1 := by
  obtain ⟨v0, v1, rfl⟩ : ∃ v0 v1, cs = [v0, v1] := by
    match cs, hl with
    | [v0, v1], _ => exact ⟨v0, v1, rfl⟩
  obtain ⟨ys, n', _, hx, hl', hlen, hfs⟩ := DataW.trod_struct Try.underlying25 hf
  have f0 := hfs 0 _ rfl
  have f1 := hfs 1 _ rfl
  obtain ⟨y0, y1, rfl⟩ : ∃ y0 y1, ys = [y0, y1] := by
    match ys, hlen with
    | [y0, y1], _ => exact ⟨y0, y1, rfl⟩
  simp [cells3, cells22] at f0 f1
  obtain ⟨a0, h0, _, k0⟩ := DataW.trod_int Try.underlying3 f0
  simp at h0
  subst h0
  obtain ⟨xs, hB, hb1⟩ := in_bytes f1
  refine ⟨⟨a0, xs⟩, (Row.single (CRep.v rfl)).app (Row.single hB), inR_wf k0, ?_⟩
  rw [hx]
  simp only [Rows.uptoBulk, Rows.uptoBulkAll, List.map_cons, List.map_nil]
  omega
end
end Go.Proofs.Ytgechpchbenanac.ab

/-
  From what a statement's code tells to its row: what is the same for all. 
-/
namespace Go.Proofs.Ytgechpchbenanac.ab
set_option linter.unusedSimpArgs false
set_option linter.unusedVariables false
open Go Go.ChangeShapes Go.WideShapes Go.RowKit

theorem own : ownKnob Try.prog.godebug = none := by kernel_rfl
theorem laidOut : laidOutB Try.prog = true := by kernel_rfl
/-- A statement that tells true. -/
theorem Told.yes {f : FuncId} {args : List D} (h : Told Try.prog f args [vB true]) {W : World} {vs : List Value} (hv : Vals (AllOf W) W args vs) : Calls Try.prog f vs.toArray W fun e W' => e = .returned (.bool true) ∧ Below W.heap.size W W' := by
  refine (h W (AllOf W) vs hv (fun b j hb => hb)).mono fun e W' ⟨v, he, hr, hb⟩ => ⟨?_, hb⟩
  have hv : CVRep _ W' (vD (.bool true)) v := hr
  rw [he, (hv.leaf (fun cs e => by cases e)).invV.1]
end Go.Proofs.Ytgechpchbenanac.ab

/-
  More of what came in: how long it is, a message, a chunk.
-/
namespace Go.Proofs.Ytgechpchbenanac.ab
set_option linter.unusedSimpArgs false
set_option linter.unusedVariables false
open Go Go.ChangeShapes Go.WideShapes Go.RowKit
open mth

/-- No slice is longer than an int tells. -/
theorem CRep.len {I : Still} {w : World} {z : Nat} {es : List D} {u : Value} (h : CRep I w (sD z es) u) : es.length ≤ 9223372036854775807 := by
  obtain ⟨a, cap, _, U, h1, _, h3, _⟩ := h.invS
  have e : maxLen = 9223372036854775807 := by decide
  omega
section
variable {H : Type} {enc : TypeId × Value → H} {W : World} {base : Nat}
end
end Go.Proofs.Ytgechpchbenanac.ab
