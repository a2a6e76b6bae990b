/-
  ProgramValid of the program and of the model, together.
-/
import Derived.Test.YtemkndpiljfefaaRdP
import Derived.Test.YtemkndpiljfefaaEnd
