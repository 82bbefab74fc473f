/-
  What package span answers: Hull, Meet, at every argument.
-/
import Derived.Test.YtmkdjaafkigemaaDoorSpan
namespace Go.Proofs.YtmkdjaafkigemaaDoor
set_option linter.unusedSimpArgs false
open Go.RowKit

end Go.Proofs.YtmkdjaafkigemaaDoor
