/-
  Two right chunks have the same bytes just where they are the same, at every two chunks.
-/
import Derived.Test.YtlomffhofionnaaRowUnlike
import Derived.Test.YtlomffhofionnaaLandReadMain
namespace Go.Proofs.Ytlomffhofionnaa
open leaf
theorem chunkUnlike_holds : Rows.ChunkUnlikeSaid := chunkUnlike.over landOwn_any (fun s dv d w h1 h2 _ => landWrongMsg_any s dv d w h1 h2) landWrong_any landBytes_any landRead_any
#print axioms chunkUnlike_holds
end Go.Proofs.Ytlomffhofionnaa
