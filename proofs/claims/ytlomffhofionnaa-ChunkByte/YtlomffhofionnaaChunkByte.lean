/-
  The bytes of a right chunk of which one is another one are none, at every chunk, place and byte.
-/
import Derived.Test.YtlomffhofionnaaRowSpoil
import Derived.Test.YtlomffhofionnaaLandReadMain
namespace Go.Proofs.Ytlomffhofionnaa
open leaf
theorem chunkByte_holds : Rows.ChunkByteSaid := chunkByte.over landOwn_any (fun s dv d w h1 h2 _ => landWrongMsg_any s dv d w h1 h2) landWrong_any landBytes_any landRead_any
#print axioms chunkByte_holds
end Go.Proofs.Ytlomffhofionnaa
