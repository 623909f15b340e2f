/-
  The reference's Gcd.
-/
import Derived.Test.YtonpeagedggakaaRefQuo
import Derived.Test.YtonpeagedggakaaNatGcd
namespace Go.Proofs.Ytonpeagedggakaa
open Go.RowKit

end Go.Proofs.Ytonpeagedggakaa
