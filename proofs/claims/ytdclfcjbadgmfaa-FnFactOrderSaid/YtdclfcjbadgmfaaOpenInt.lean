/-
  A number that comes in (it lies in OpenInts).
-/
import Derived.Test.YtdclfcjbadgmfaaOpen
namespace Go.Proofs.Ytdclfcjbadgmfaa
open Go.RowKit

end Go.Proofs.Ytdclfcjbadgmfaa
