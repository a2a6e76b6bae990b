/-
  PartsOf of the program and of the model, together.
-/
import Derived.Test.YtekcbadebjbhmaaTxO
import Derived.Test.YtekcbadebjbhmaaSpO
