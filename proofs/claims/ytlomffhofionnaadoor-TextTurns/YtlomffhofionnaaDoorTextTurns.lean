/-
  A right message comes back from its text, a text that is read is its message's, and unlike messages have unlike texts (the tables that strconv lays are tied to the program's text).
-/
import Derived.Test.YtlomffhofionnaaDoorCardTTurns
import Derived.Test.YtlomffhofionnaaDoorLandPrint
import Derived.Test.YtlomffhofionnaaDoorLandParseAll
namespace Go.Proofs.YtlomffhofionnaaDoor
open leaf
theorem textTurns_holds : Rows.TextTurnsCardSaid := textTurns.card landPrint_any landParse_any
#print axioms textTurns_holds
end Go.Proofs.YtlomffhofionnaaDoor
