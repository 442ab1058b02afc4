import Derived.Test.YtgaofjiidedcbadM20
import Derived.Test.YtgaofjiidedcbadProg
set_option linter.unusedVariables false
set_option linter.unusedSimpArgs false
namespace Go.Proofs.Ytgaofjiidedcbad.ab
set_option maxRecDepth 100000
open Go Go.RowKit
set_option maxRecDepth 100000
set_option maxRecDepth 100000
end Go.Proofs.Ytgaofjiidedcbad.ab
namespace Go.Proofs.Ytgaofjiidedcbad.mth
def ofS (l : List Ms) (s : Int) : List Ms:=l.filter (fun m => m.stream == s)
theorem ofS_app (a b : List Ms) (s : Int) : ofS (a ++ b) s = ofS a s ++ ofS b s:=List.filter_append ..
def sameL : List Ms → List Ms → Bool
 | [],[] => true
 | a :: r,b :: t => sameM a b && sameL r t
 | _,_ => false
theorem sameL_iff : ∀ (a b : List Ms),sameL a b = true ↔ a = b
 | [],[] => by simp [sameL]
 | [],_ :: _ => by simp [sameL]
 | _ :: _,[] => by simp [sameL]
 | a :: r,b :: t => by simp only [sameL,Bool.and_eq_true,sameM_iff,sameL_iff r t,List.cons.injEq]
def preS (a b : List Ms) : Bool:=decide (a.length ≤ b.length) && sameL a (b.take a.length)
theorem preS_iff (a b : List Ms) : preS a b = true ↔ ∃ c,b = a ++ c:=by
 simp only [preS,Bool.and_eq_true,decide_eq_true_eq,sameL_iff]
 constructor
 ·rintro ⟨h1,h2⟩
  refine ⟨b.drop a.length,?_⟩
  have h3:=List.take_append_drop a.length b
  rw [← h2] at h3
  exact h3.symm
 ·rintro ⟨c,rfl⟩
  simp
def fitsS (told put : List Ms) : Bool:=preS (ofS told 0) (ofS put 0) && (preS (ofS told 1) (ofS put 1) && preS (ofS told 2) (ofS put 2))
end Go.Proofs.Ytgaofjiidedcbad.mth
