/-
  A slice of bytes that came in, as the walks want it.
-/
import Derived.Test.YtlomffhofionnaaDoorLeaf
import Derived.OpenShut
import Derived.SizedLaws
namespace Go.Proofs.YtlomffhofionnaaDoor.leaf
set_option linter.unusedVariables false
open Go.ChangeShapes Go.WideShapes Go.ChangeAt Go.RowKit
open mth

theorem bytes5 : Tryd.prog.bytesOf 5 = 1 := by kernel_rfl
theorem cells5 : Tryd.prog.cellsOf 5 = 1 := by kernel_rfl

theorem byte_of {z : Int} (h : (Lit.int .u8 z).wf = true) : (((UInt8.ofNat z.toNat).toNat : Nat) : Int) = z := by
  have hx : 0 ≤ z ∧ z ≤ 255 := by simpa [Lit.wf, IntKind.min, IntKind.max, IntKind.signed, IntKind.bits] using h
  rw [UInt8.toNat_ofNat']
  omega

theorem bytes_in {H : Type} {enc : TypeId × Value → H} {W : World} {a : Option Addr} {len cap : Nat} {d : DataW H} {p : List MemPlace} (hT : DataW.Trod enc Tryd.prog W 0 (fun _ => true) true 22 (.slice a len cap) d p)
    (hs : ∀ elems spare, d = .slice elems spare → (elems.length + spare.length) * Tryd.prog.bytesOf 5 ≤ reachBytes) :
    ∃ xs : List UInt8, len = xs.length ∧ Bs W (.slice a len cap) xs ∧ len ≤ cap ∧ cap ≤ 140737488351232 := by
  obtain ⟨fuel, hf⟩ := hT
  rcases open_ints Tryd.underlying22 Tryd.underlying5 cells5 hf with ⟨hcs, _⟩ | ⟨x, l, c, zs, hcs, _, hl, hm, hz, hx, hcell, hwz⟩
  · simp [Value.cells] at hcs
    obtain ⟨rfl, rfl, rfl⟩ := hcs
    exact ⟨[], rfl, ⟨_, _, rfl, Nat.le_refl _, fun _ => rfl, fun i hi => by simp at hi⟩, Nat.le_refl _, by omega⟩
  · simp [Value.cells] at hcs
    obtain ⟨rfl, rfl, rfl⟩ := hcs
    simp only [Prod.mk.injEq] at hx
    simp only [if_true] at hz
    have hw := hs _ _ hx.1
    rw [bytes5] at hw
    simp only [lits, List.length_map, List.length_take, List.length_drop, reachBytes] at hw
    have e : ((zs.take len).map (fun z : Int => UInt8.ofNat z.toNat)).length = len := by simp; omega
    refine ⟨(zs.take len).map (fun z => UInt8.ofNat z.toNat), e.symm, ⟨_, _, by rw [e], by rw [e]; exact hl, fun h => by simp at h, fun i hi => ⟨x, rfl, ?_⟩⟩, hl, by omega⟩
    rw [e] at hi
    rw [hcell i (by omega)]
    have hi' : i < zs.length := by omega
    have : (((zs.take len).map (fun z : Int => UInt8.ofNat z.toNat)).getD i 0) = UInt8.ofNat (zs[i]).toNat := by
      simp [List.getD, hi, hi']
    rw [this, byte_of (hwz _ (List.getElem_mem hi'))]
    simp [List.getD, hi']
end Go.Proofs.YtlomffhofionnaaDoor.leaf
