import Derived.Test.YtokmmloakahkhaaGreatDoorRows
import Derived.SevenTiedAt
import Derived.KernelRfl
namespace Go.Proofs.YtokmmloakahkhaaGreatDoor
open Go
set_option maxRecDepth 100000
theorem fnConsequences_goes : false = Rows.fnConsequencesRow.goesBy Tryz.pinned.checked.prog := by kernel_rfl

end Go.Proofs.YtokmmloakahkhaaGreatDoor
