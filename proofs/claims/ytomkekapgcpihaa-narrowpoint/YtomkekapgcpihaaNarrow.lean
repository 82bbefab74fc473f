/-
  What package narrow answers: Sum, Times, at every argument.
-/
import Derived.Test.YtomkekapgcpihaaNarrowS
