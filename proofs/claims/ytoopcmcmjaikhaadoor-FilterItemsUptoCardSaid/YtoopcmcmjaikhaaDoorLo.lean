/- What stands in the text on counts, under the name that the texts on headers use. -/
import Derived.Test.YtoopcmcmjaikhaaDoorZN
import Derived.Test.YtoopcmcmjaikhaaDoorZA
namespace Go.Proofs.YtoopcmcmjaikhaaDoor
end Go.Proofs.YtoopcmcmjaikhaaDoor

