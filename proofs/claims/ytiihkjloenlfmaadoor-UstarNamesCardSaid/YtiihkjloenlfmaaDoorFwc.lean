/- strconv.FormatInt to the base 8. Conditions: a number from 0 on, below 8^20; de Bruijn's table is there. -/
import Derived.Test.YtiihkjloenlfmaaDoorFda
import Derived.Test.YtiihkjloenlfmaaDoorTab
namespace Go.Proofs.YtiihkjloenlfmaaDoor
open Go.RowKit

set_option maxRecDepth 100000 in
theorem pow2_any (w : World) : Calls Tryd.prog 72 #[.int .i64 8] w fun e w' => e = .returned (.bool true) ∧ w' = w := by
  go_enter Tryd.func72, Tryd.ntmps72
  go_wp2_with fail
  go_ret
  exact ⟨rfl, rfl⟩

set_option maxRecDepth 100000 in
theorem tz64_any (w : World) (hT : Tabs w) : Calls Tryd.prog 78 #[.int .u64 8] w fun e w' => e = .returned (.int .i64 3) ∧ w' = w := by
  have hc : w.cell? ⟨3, 7, none⟩ = some (.int .u8 3) := by
    rw [hT.2.cell (g := 3) (by kernel_rfl) 7 (by decide)]
    rfl
  have k1 : IntKind.u64.wrap (bits BinOp.and IntKind.u64 8 (IntKind.u64.wrap (-8)) * 285870213051353865) / 288230376151711744 = 7 := by decide +kernel
  clear hT
  go_enter Tryd.func78, Tryd.ntmps78
  go_wp2_with fail
  go_ret
  exact ⟨rfl, rfl⟩

set_option maxRecDepth 100000 in
theorem tz_any (w : World) (hT : Tabs w) : Calls Tryd.prog 73 #[.int .u64 8] w fun e w' => e = .returned (.int .i64 3) ∧ w' = w := by
  have HI := Lib.hid (tz64_any w hT)
  clear hT
  go_enter Tryd.func73, Tryd.ntmps73
  go_wp2_with fail
  refine HI.out.mono ?_
  rintro e w ⟨rfl, rfl⟩
  go_wp2_with fail
  go_ret
  exact ⟨rfl, rfl⟩
end Go.Proofs.YtiihkjloenlfmaaDoor
