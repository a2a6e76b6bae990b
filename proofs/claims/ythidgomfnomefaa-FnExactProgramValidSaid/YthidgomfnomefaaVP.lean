/-
  ProgramValid of the program and of the model, together.
-/
import Derived.Test.YthidgomfnomefaaRdP
import Derived.Test.YthidgomfnomefaaEnd
