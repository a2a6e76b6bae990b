/-
  ReadsOf and WritesOf, of the program and of the model.
-/
import Derived.Test.YtekcbadebjbhmaaRW
import Derived.Test.YtekcbadebjbhmaaSpW
