/-
  The reference's Int64, Print, Parse.
-/
import Derived.Test.YtonpeagedggakaaRIntA
import Derived.Test.YtonpeagedggakaaRefTexts
import Derived.Test.YtonpeagedggakaaIntB
namespace Go.Proofs.Ytonpeagedggakaa
open Go.RowKit

end Go.Proofs.Ytonpeagedggakaa
