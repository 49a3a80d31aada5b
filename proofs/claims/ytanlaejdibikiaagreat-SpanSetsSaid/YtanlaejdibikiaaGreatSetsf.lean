/-
'SpanSets': all parts together.
-/
import Derived.Test.YtanlaejdibikiaaGreatSets
import Derived.Test.YtanlaejdibikiaaGreatFlat3
namespace Go.Proofs.YtanlaejdibikiaaGreat
end Go.Proofs.YtanlaejdibikiaaGreat
