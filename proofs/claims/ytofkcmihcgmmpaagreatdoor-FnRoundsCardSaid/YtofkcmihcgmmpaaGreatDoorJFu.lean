import Derived.Test.YtofkcmihcgmmpaaGreatDoorRows
import Derived.JoinedOf
import Derived.KernelRfl
import Derived.Test.YtofkcmihcgmmpaaGreatDoorJFua
import Derived.Test.YtofkcmihcgmmpaaGreatDoorJFub
import Derived.Test.YtofkcmihcgmmpaaGreatDoorJFuc
import Derived.Test.YtofkcmihcgmmpaaGreatDoorJFud
import Derived.Test.YtofkcmihcgmmpaaGreatDoorJFue
namespace Go.Proofs.YtofkcmihcgmmpaaGreatDoor
open Go
set_option maxRecDepth 100000
theorem and_t {a b : Bool} (ha : a = true) (hb : b = true) : (a && b) = true := by rw [ha, hb]; rfl

end Go.Proofs.YtofkcmihcgmmpaaGreatDoor
