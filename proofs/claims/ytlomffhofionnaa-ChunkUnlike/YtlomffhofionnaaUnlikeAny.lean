/-
  The walk of ChunkUnlike, whatever it is given.
-/
import Derived.Test.YtlomffhofionnaaAliveTwo
namespace Go.Proofs.Ytlomffhofionnaa.leaf
set_option linter.unusedVariables false
open Go.RowKit
open mth

theorem unlike_any (n : Nat) (hn : 12 ≤ n) (hO : COwn 21 n) (hM : CWrongMsg 18) (hW : CWrong 16) (hB : CBytes 24) (hR : CRead 22 n) (va vb : Value) (a b : Ch) (w : World) (ha : Cv w va a) (hb : Cv w vb b) :
    Calls Try.prog 6 #[va, vb] w fun e w' => e = .returned (.bool true) ∧ Below w.heap.size w w' := by
  have al := alive2_any n (by omega) hO hM hW hB hR
  obtain ⟨d1, d2, d3, e1, e2, e3, rfl⟩ := ha.form
  obtain ⟨d4, d5, d6, e4, e5, e6, rfl⟩ := hb.form
  by_cases h1 : wrongL a = 0
  · by_cases h2 : wrongL b = 0
    · exact unlike_ab hW hB al a b _ _ _ _ w ha hb h1 h2 (by simpa using h1) (by simpa using h2) (unlike a b h1 h2)
    · exact unlike_b hW hB al a b _ _ _ _ w ha hb (by simpa using h1) (by simpa using h2)
  · exact unlike_a hW hB al a b _ _ _ _ w ha hb (by simpa using h1)
end Go.Proofs.Ytlomffhofionnaa.leaf
