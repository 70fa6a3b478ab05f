/- What stands in the text on counts, under the name that the texts on headers use. -/
import Derived.Test.YtjlefbkcjccjkaaSd
import Derived.Test.YtjlefbkcjccjkaaWk
namespace Go.Proofs.Ytjlefbkcjccjkaa
end Go.Proofs.Ytjlefbkcjccjkaa
