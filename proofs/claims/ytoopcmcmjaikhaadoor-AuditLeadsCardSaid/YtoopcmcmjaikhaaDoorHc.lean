/- A header read: the walk. -/
import Derived.Test.YtoopcmcmjaikhaaDoorHc0
set_option linter.unusedSimpArgs false
set_option linter.unusedVariables false
namespace Go.Proofs.YtoopcmcmjaikhaaDoor
open Go.RowKit Go.Lib Go.Sort

end Go.Proofs.YtoopcmcmjaikhaaDoor

