import Derived.Test.YtofkcmihcgmmpaaGreatRows
import Derived.JoinedOf
import Derived.KernelRfl
import Derived.Test.YtofkcmihcgmmpaaGreatJFta
import Derived.Test.YtofkcmihcgmmpaaGreatJFtb
import Derived.Test.YtofkcmihcgmmpaaGreatJFtc
import Derived.Test.YtofkcmihcgmmpaaGreatJFtd
import Derived.Test.YtofkcmihcgmmpaaGreatJFte
namespace Go.Proofs.YtofkcmihcgmmpaaGreat
open Go
set_option maxRecDepth 100000
theorem and_t {a b : Bool} (ha : a = true) (hb : b = true) : (a && b) = true := by rw [ha, hb]; rfl

end Go.Proofs.YtofkcmihcgmmpaaGreat
