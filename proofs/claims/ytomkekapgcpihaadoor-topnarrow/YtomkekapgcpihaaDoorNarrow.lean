/-
  What package narrow answers: Sum, Times, at every argument.
-/
import Derived.Test.YtomkekapgcpihaaDoorNarrowS
import Derived.Test.YtomkekapgcpihaaDoorNarrowT
