/-
  The reference's Int64, Print, Parse.
-/
import Derived.Test.YtogafnfpncbgiaaGreatRIntA
import Derived.Test.YtogafnfpncbgiaaGreatRefTexts
import Derived.Test.YtogafnfpncbgiaaGreatIntB
namespace Go.Proofs.YtogafnfpncbgiaaGreat
open Go.RowKit

end Go.Proofs.YtogafnfpncbgiaaGreat
