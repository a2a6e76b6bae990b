/-
  PartsOf of the program and of the model, together.
-/
import Derived.Test.YtpbbdhnnaagghaaTxO
import Derived.Test.YtpbbdhnnaagghaaSpO
