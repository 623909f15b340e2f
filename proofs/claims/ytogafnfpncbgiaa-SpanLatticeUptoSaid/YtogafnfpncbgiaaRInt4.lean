/-
  The reference's Int64, Print, Parse.
-/
import Derived.Test.YtogafnfpncbgiaaRIntA
import Derived.Test.YtogafnfpncbgiaaRefTexts
import Derived.Test.YtogafnfpncbgiaaIntB
namespace Go.Proofs.Ytogafnfpncbgiaa
open Go.RowKit

end Go.Proofs.Ytogafnfpncbgiaa
