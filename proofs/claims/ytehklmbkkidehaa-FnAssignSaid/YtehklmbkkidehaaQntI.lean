/-
  SomeVar, AllVar, PredVars of the program.
-/
import Derived.Test.YtehklmbkkidehaaQnt
namespace Go.Proofs.Ytehklmbkkidehaa
open Go.RowKit Tm

def depB (c : UInt8) (F : Nat → Bool) : Bool := ((nb 27 (someF c F) : Nat) : Int) != ((nb 27 F : Nat) : Int)

def lst (b : Bool) (c : UInt8) : List UInt8 := if b then [c] else []
def depL (F : Nat → Bool) : List UInt8 := lst (depB 120 F) 120 ++ lst (depB 121 F) 121 ++ lst (depB 122 F) 122

def xyz : ByteArray := ⟨#[120, 121, 122]⟩
end Go.Proofs.Ytehklmbkkidehaa
