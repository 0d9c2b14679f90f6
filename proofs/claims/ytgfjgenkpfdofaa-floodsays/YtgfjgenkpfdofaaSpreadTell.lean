/-
  'tell': one tells another one what it owes.
-/
import Derived.Test.YtgfjgenkpfdofaaSpreadPure
namespace Go.Proofs.Ytgfjgenkpfdofaa
open Go.RowKit St

end Go.Proofs.Ytgfjgenkpfdofaa
