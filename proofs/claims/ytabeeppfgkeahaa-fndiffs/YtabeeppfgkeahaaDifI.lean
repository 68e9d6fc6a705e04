/-
  What is different, patched, apart, in the program.
-/
import Derived.Test.YtabeeppfgkeahaaDifJ
import Derived.Test.YtabeeppfgkeahaaDifK
import Derived.Test.YtabeeppfgkeahaaDifL
