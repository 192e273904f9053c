import Derived.Test.YtfckjjdidkefcaaDoorCI3
import Derived.Test.YtfckjjdidkefcaaDoorBytes
import Derived.Test.YtfckjjdidkefcaaDoorBase
import Derived.Laws.CopyOwn
import Derived.Test.YtfckjjdidkefcaaDoorMid
namespace Go.Proofs.YtfckjjdidkefcaaDoor
open Go.RowKit
set_option linter.unusedVariables false
theorem infoB16 : (Tryd.prog.info? 31).map (·.size) = some 16 := by kernel_rfl
end Go.Proofs.YtfckjjdidkefcaaDoor
