/-
  A right chunk comes back from its bytes, and bytes that are read are their own, where what comes in is of bulk at most 1048576.
-/
import Derived.Test.YtlomffhofionnaaRowTurnsUp
import Derived.Test.YtlomffhofionnaaLandReadMain
namespace Go.Proofs.Ytlomffhofionnaa
open leaf
theorem chunkTurns_holds : Rows.ChunkTurnsUptoSaid := chunkTurnsUpto.over landOwn_any (fun s dv d w h1 h2 _ => landWrongMsg_any s dv d w h1 h2) landWrong_any landBytes_any landRead_any
#print axioms chunkTurns_holds
end Go.Proofs.Ytlomffhofionnaa
