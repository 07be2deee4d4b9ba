/-
  Contract of the reference: rillref09.Ref.
-/
import Derived.Test.YtkgefogkdmbciaaPaM
namespace Go.Proofs.Ytkgefogkdmbciaa
open Go.RowKit

end Go.Proofs.Ytkgefogkdmbciaa
