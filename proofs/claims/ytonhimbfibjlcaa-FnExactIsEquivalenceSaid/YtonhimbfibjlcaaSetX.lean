/-
  Whether a set lies within another one.
-/
import Derived.Test.YtonhimbfibjlcaaSetW
namespace Go.Proofs.Ytonhimbfibjlcaa
open Go.RowKit

end Go.Proofs.Ytonhimbfibjlcaa
