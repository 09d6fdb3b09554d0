/- near, reach, holds, and the reference's limit. -/
import Derived.Test.YtinhmklpnkikgabDoorGridMend
namespace Go.Proofs.YtinhmklpnkikgabDoor
open Go.ChangeShapes Go.WideShapes Go.ChangeAt Go.RowKit
namespace Grd
theorem min2 (a b : Int) (w : World) : (Builtin.min_ #[3, 3] 3 #[.int .i64 a, .int .i64 b]).run Tryd.prog w = .ok (.int .i64 (min a b)) w := by
  simp [Builtin.min_, Builtin.min2, go_sem]
  repeat' split
  all_goals omega
theorem max2 (a b : Int) (w : World) : (Builtin.max_ #[3, 3] 3 #[.int .i64 a, .int .i64 b]).run Tryd.prog w = .ok (.int .i64 (max a b)) w := by
  simp [Builtin.max_, Builtin.max2, go_sem]
  repeat' split
  all_goals omega
def nearI (n : Int) : Int := min (max n (-1000)) 1000
theorem near_any (n : Int) (w : World) :
    Calls Tryd.prog 24 #[.int .i64 n] w fun e w' => e = .returned (.int .i64 (nearI n)) ∧ w = w' := by
  have h1 := max2 n (-1000)
  have h2 := min2 (max n (-1000)) 1000
  go_enter Tryd.func24, Tryd.ntmps24
  go_wp2_with fail
  go_ret
  exact ⟨rfl, rfl⟩
theorem reach_any (p l s : Int) (w : World) (h0 : -2000 ≤ p) (h1 : p ≤ 2000) (h2 : -2000 ≤ l) (h3 : l ≤ 2000) :
    Calls Tryd.prog 23 #[.int .i64 p, .int .i64 l, .int .i64 s] w fun e w' => e = .returned (.tuple #[.int .i64 (max p 0), .int .i64 (min (p + l) s)]) ∧ w = w' := by
  have e1 := max2 p 0
  have e2 := min2 (p + l) s
  go_enter Tryd.func23, Tryd.ntmps23
  go_wp2_with fail
  go_ret2
  exact ⟨rfl, rfl⟩
end Grd
end Go.Proofs.YtinhmklpnkikgabDoor
