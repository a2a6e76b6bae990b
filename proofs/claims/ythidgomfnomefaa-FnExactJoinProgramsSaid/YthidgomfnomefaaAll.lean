/-
  The words of chapter 3 on the program's side and on the model's side, together.
-/
import Derived.Test.YthidgomfnomefaaImO
import Derived.Test.YthidgomfnomefaaHdO
import Derived.Test.YthidgomfnomefaaSpR
