/-
  The reference's Gcd.
-/
import Derived.Test.YtogafnfpncbgiaaRefQuo
import Derived.Test.YtogafnfpncbgiaaNatGcd
namespace Go.Proofs.Ytogafnfpncbgiaa
open Go.RowKit

end Go.Proofs.Ytogafnfpncbgiaa
