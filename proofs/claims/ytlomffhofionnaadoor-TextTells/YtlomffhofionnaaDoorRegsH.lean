/-
  A region that draws its order, a condition on the world holding all along: what reads is taken first; the rest in whatever order. Nothing of the program.
-/
import Derived.Deep.RegionHeld
import Derived.Below
import Derived.WalkKit
namespace Go.Proofs.YtlomffhofionnaaDoor.regs
set_option linter.unusedVariables false
open Go Go.RowKit

section
variable {P : Program} {ops : Array Oper} {Q : Exit → Act → World → Prop} {md : Region.Mode} {S : World → Prop}
/-- What is left of the region may come in whatever order, S holding all along. -/
def HeldS (S : World → Prop) (P : Program) (md : Region.Mode) (ops : Array Oper) (Q : Exit → Act → World → Prop) (fuel : Nat) (listed : Array Bool) (a : Act) (w : World) : Prop := wpAnyH P md ops Q S fuel listed a w
theorem heldS_begin {id : Nat} {a : Act} {w : World} (hm : P.follows .mixedOrders = true) (h : HeldS S P .any ops Q ops.size (Array.replicate ops.size false) a w.drew) : (Code.region id ops true).wp P Q a w := wp_region_held hm h
theorem heldS_take {i : Nat} {oi : Oper} {v : Value} {fuel : Nat} {listed : Array Bool} {a : Act} {w : World} (hi : ops[i]? = some oi)
    (hs : Region.noSelect ops = true) (hf : Region.free md ops listed i = true) (hr : (Region.ready md ops listed).contains i = true)
    (hQ : ∀ c a w, Q (.panic c) (a.put oi.dst v) w → Q (.panic c) a w) (hw : Region.wanted oi (yielded ops a.tmps) = true)
    (hy : ∀ w', S w' → (execOp a.eval oi).run P w' = .ok (.value v) w') (hS : S w)
    (h : HeldS S P md ops Q fuel (listed.setIfInBounds i true) (a.put oi.dst v) w) : HeldS S P md ops Q (fuel + 1) listed a w :=
  wpAnyH_take hi hs hf hr hQ (.inl ⟨hw, hy⟩) hS h
/-- One of those that may come up comes up. -/
def Comes (S : World → Prop) (P : Program) (md : Region.Mode) (ops : Array Oper) (Q : Exit → Act → World → Prop) (fuel : Nat) (listed : Array Bool) (a : Act) (w : World) (i : Nat) : Prop :=
  ∃ o, ops[i]? = some o ∧ ∀ K' : Act → World → Prop, Shut (∀ a w', S w' → HeldS S P md ops Q fuel (listed.setIfInBounds i true) a w' → K' a w') → if Region.wanted o (yielded ops a.tmps) = true then Oper.wp P o a w K' Q else K' (a.put o.dst undef) w
theorem heldS_ready {rs : List Nat} {fuel : Nat} {listed : Array Bool} {a : Act} {w : World} (hr : Region.ready md ops listed = rs) (hne : rs ≠ []) (h : ∀ i ∈ rs, Comes S P md ops Q fuel listed a w i) : HeldS S P md ops Q (fuel + 1) listed a w := by
  have all : ∀ l : List Nat, (∀ i ∈ l, Comes S P md ops Q fuel listed a w i) → AllReadyH P md ops Q S fuel listed a w l := by
    intro l
    induction l with
    | nil => exact fun _ => AllReadyH.nil
    | cons i r ih =>
      intro h
      obtain ⟨o, ho, hK⟩ := h i (by simp)
      exact AllReadyH.cons ho (fun K' hs => hK K' (fun a' w' hb hH => hs a' w' hb fun _ => hH)) (ih (fun j hj => h j (by simp [hj])))
  exact wpAnyH_ready hr hne (all rs h)
theorem heldS_done {listed : Array Bool} {a : Act} {w : World} (hr : Region.ready md ops listed = []) (h : Q .normal a w) (fuel : Nat) : HeldS S P md ops Q fuel listed a w := wpAnyH_done hr h fuel
theorem comes1 {p : Nat → Prop} {i : Nat} (h : p i) : ∀ x ∈ [i], p x := by simpa using h
theorem comes2 {p : Nat → Prop} {i j : Nat} (h : p i) (h' : p j) : ∀ x ∈ [i, j], p x := by simp [h, h']
theorem comes3 {p : Nat → Prop} {i j k : Nat} (h : p i) (h' : p j) (h'' : p k) : ∀ x ∈ [i, j, k], p x := by simp [h, h', h'']
end
end Go.Proofs.YtlomffhofionnaaDoor.regs
