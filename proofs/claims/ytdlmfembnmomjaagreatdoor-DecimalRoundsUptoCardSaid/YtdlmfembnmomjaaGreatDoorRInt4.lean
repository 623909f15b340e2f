/-
  The reference's Int64, Print, Parse.
-/
import Derived.Test.YtdlmfembnmomjaaGreatDoorRIntA
import Derived.Test.YtdlmfembnmomjaaGreatDoorRefTexts
import Derived.Test.YtdlmfembnmomjaaGreatDoorIntB
namespace Go.Proofs.YtdlmfembnmomjaaGreatDoor
open Go.RowKit

end Go.Proofs.YtdlmfembnmomjaaGreatDoor
