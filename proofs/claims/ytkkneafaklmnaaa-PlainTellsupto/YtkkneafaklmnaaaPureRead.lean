/-
  Plain mathematics: what any bytes are. Nothing of the program.
-/
import Derived.Test.YtkkneafaklmnaaaPure
namespace Go.Proofs.Ytkkneafaklmnaaa.mth
def zeroC : Ch := ⟨0, 0, 0, 0, [], []⟩
def i8 (x : UInt8) : Int := (x.toNat : Int)
/-- What bytes are, field by field. -/
def fieldsL (x : List UInt8) : Ch :=
  if i8 (x.getD 0 0) = 1 then ⟨1, i8 (x.getD 1 0), i8 (x.getD 2 0), i8 (x.getD 3 0), x.drop 4, []⟩
  else ⟨i8 (x.getD 0 0), i8 (x.getD 1 0), 0, 0, [], (x.drop 2).map i8⟩
def shortL (x : List UInt8) : Bool := decide (x.length < 2) || (decide (i8 (x.getD 0 0) = 1) && decide (x.length < 4))
/-- What any bytes are: a chunk, and an error. -/
def readE (b : List UInt8) : Int := if okL b = false then 7 else if shortL (openL b) = true then 8 else wrongL (fieldsL (openL b))
def readC (b : List UInt8) : Ch := if readE b = 0 then fieldsL (openL b) else zeroC
end Go.Proofs.Ytkkneafaklmnaaa.mth
