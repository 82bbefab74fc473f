/-
  What package power's Of answers, at every argument.
-/
import Derived.Test.YthebaldogelhlaaPower
namespace Go.Proofs.Ythebaldogelhlaa
set_option linter.unusedSimpArgs false
open Go.RowKit

end Go.Proofs.Ythebaldogelhlaa
