/-
  Print and Parse answer as the document does, of any right message, and of any text (the tables that strconv lays are tied to the program's text).
-/
import Derived.Test.YtlomffhofionnaaDoorCardTTells
import Derived.Test.YtlomffhofionnaaDoorLandPrint
import Derived.Test.YtlomffhofionnaaDoorLandParseAll
namespace Go.Proofs.YtlomffhofionnaaDoor
open leaf
theorem textTells_holds : Rows.TextTellsCardSaid := textTells.card landPrint_any landParse_any
#print axioms textTells_holds
end Go.Proofs.YtlomffhofionnaaDoor
