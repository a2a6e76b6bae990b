/-
  The words of chapter 3 on the program's side and on the model's side, together.
-/
import Derived.Test.YtpbbdhnnaagghaaImO
import Derived.Test.YtpbbdhnnaagghaaHdO
import Derived.Test.YtpbbdhnnaagghaaSpR
