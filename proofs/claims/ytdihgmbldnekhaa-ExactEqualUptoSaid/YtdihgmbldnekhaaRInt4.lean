/-
  The reference's Int64, Print, Parse.
-/
import Derived.Test.YtdihgmbldnekhaaRIntA
import Derived.Test.YtdihgmbldnekhaaRefTexts
import Derived.Test.YtdihgmbldnekhaaIntB
namespace Go.Proofs.Ytdihgmbldnekhaa
open Go.RowKit

end Go.Proofs.Ytdihgmbldnekhaa
