/-
  The contracts of library functions that the program calls: none is wanted at this seat.
-/
import Derived.Test.YtbcegpncledolaaRows
