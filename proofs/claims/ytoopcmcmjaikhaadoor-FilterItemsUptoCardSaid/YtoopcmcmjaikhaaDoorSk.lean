/- A count read, the document's, whole. -/
import Derived.Test.YtoopcmcmjaikhaaDoorSi
import Derived.Test.YtoopcmcmjaikhaaDoorSj
set_option linter.unusedSimpArgs false
namespace Go.Proofs.YtoopcmcmjaikhaaDoor
open Go.RowKit Go.Lib

end Go.Proofs.YtoopcmcmjaikhaaDoor

