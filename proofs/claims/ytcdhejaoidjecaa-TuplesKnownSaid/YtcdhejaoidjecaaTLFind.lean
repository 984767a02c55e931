/-
  TuplesFind returns true: the walk.
-/
import Derived.Test.YtcdhejaoidjecaaTFact
import Derived.Test.YtcdhejaoidjecaaTLives
import Derived.Test.YtcdhejaoidjecaaTOf
import Derived.Test.YtcdhejaoidjecaaTSm
namespace Go.Proofs.Ytcdhejaoidjecaa
open Go.RowKit Go.Sort


end Go.Proofs.Ytcdhejaoidjecaa
