/-
  szIntS.
-/
import Derived.Test.YtcoelmhlkfignaaWords
import Derived.Test.YtcoelmhlkfignaaInts
namespace Go.Proofs.Ytcoelmhlkfignaa
open Go.RowKit

theorem szIntS_any (A : Option Addr) (n c : Nat) (left : Int) (w : World) (h0 : 0 ≤ left) (hl : left ≤ 1048576) (hn : n ≤ 9223372036854775807) :
    Calls Try.prog 38 #[.slice A n c, .int .i64 left] w fun e w' => e = .returned (.int .i64 (szV left n)) ∧ w = w' := by
  by_cases h : left < n
  · have h1 : left - (n : Int) < 0 := by omega
    have HV := Lib.hid (show szV left n = -1 from if_pos h)
    go_enter Try.func38, Try.ntmps38
    go_wp2
    go_ret
    exact ⟨ret_int HV.out.symm, rfl⟩
  · have h1 : ¬ left - (n : Int) < 0 := by omega
    have HV := Lib.hid (show szV left n = left - n from if_neg h)
    go_enter Try.func38, Try.ntmps38
    go_wp2
    go_ret
    exact ⟨ret_int HV.out.symm, rfl⟩

end Go.Proofs.Ytcoelmhlkfignaa
