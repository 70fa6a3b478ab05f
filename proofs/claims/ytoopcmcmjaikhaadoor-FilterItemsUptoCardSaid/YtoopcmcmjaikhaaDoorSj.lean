/- A count of one byte read, the document's. -/
import Derived.Test.YtoopcmcmjaikhaaDoorSh
set_option linter.unusedSimpArgs false
set_option linter.unusedVariables false
namespace Go.Proofs.YtoopcmcmjaikhaaDoor
open Go.RowKit Go.Lib

end Go.Proofs.YtoopcmcmjaikhaaDoor

