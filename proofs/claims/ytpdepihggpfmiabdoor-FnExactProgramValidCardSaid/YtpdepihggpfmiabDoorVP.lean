/-
  ProgramValid of the program and of the model, together.
-/
import Derived.Test.YtpdepihggpfmiabDoorRdP
import Derived.Test.YtpdepihggpfmiabDoorEnd
