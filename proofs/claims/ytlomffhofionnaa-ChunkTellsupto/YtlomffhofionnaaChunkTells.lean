/-
  Own, WrongMsg, Wrong, Bytes and Read answer as the document does, where what comes in is of bulk at most 1048576.
-/
import Derived.Test.YtlomffhofionnaaRowCTells
import Derived.Test.YtlomffhofionnaaLandReadMain
namespace Go.Proofs.Ytlomffhofionnaa
open leaf
theorem chunkTells_holds : Rows.ChunkTellsUptoSaid := chunkTells.over landOwn_any (fun s dv d w h1 h2 _ => landWrongMsg_any s dv d w h1 h2) landWrong_any landBytes_any landRead_any
#print axioms chunkTells_holds
end Go.Proofs.Ytlomffhofionnaa
