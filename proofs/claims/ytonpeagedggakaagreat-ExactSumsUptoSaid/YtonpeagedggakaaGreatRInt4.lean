/-
  The reference's Int64, Print, Parse.
-/
import Derived.Test.YtonpeagedggakaaGreatRIntA
import Derived.Test.YtonpeagedggakaaGreatRefTexts
import Derived.Test.YtonpeagedggakaaGreatIntB
namespace Go.Proofs.YtonpeagedggakaaGreat
open Go.RowKit

end Go.Proofs.YtonpeagedggakaaGreat
