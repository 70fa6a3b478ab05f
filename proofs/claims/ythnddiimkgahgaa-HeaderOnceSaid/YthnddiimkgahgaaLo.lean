/- What stands in the text on counts, under the name that the texts on headers use. -/
import Derived.Test.YthnddiimkgahgaaSd
import Derived.Test.YthnddiimkgahgaaWk
namespace Go.Proofs.Ythnddiimkgahgaa
end Go.Proofs.Ythnddiimkgahgaa
