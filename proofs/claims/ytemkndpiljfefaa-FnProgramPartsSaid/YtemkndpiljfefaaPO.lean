/-
  PartsOf of the program and of the model, together.
-/
import Derived.Test.YtemkndpiljfefaaTxO
import Derived.Test.YtemkndpiljfefaaSpO
