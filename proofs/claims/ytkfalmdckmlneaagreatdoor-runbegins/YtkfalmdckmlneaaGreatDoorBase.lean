/-
  What every walk over this project asks: small helpers, an error by its number, unit.MayBe.
-/
import Derived.Test.YtkfalmdckmlneaaGreatDoorProg
import Derived.Test.YtkfalmdckmlneaaGreatDoorMaths
import Derived.WalkKit
import Derived.Handy
import Derived.WalkMore
import Derived.Below
import Derived.RegionTactic
import Derived.ChangeAlike
import Derived.Deep.QuietTactic
import Derived.BigQuiet
import Derived.WalkLawsBesides
namespace Go.Proofs.YtkfalmdckmlneaaGreatDoor
set_option linter.unusedSimpArgs false
open Go.RowKit

theorem hid {p : Prop} (h : p) : Hid p := h
theorem ret2i {a b c d : Int} (h1 : a = c) (h2 : b = d) : Ending.returned (.tuple #[.int .i64 a, .int .i64 b]) = .returned (.tuple #[.int .i64 c, .int .i64 d]) := by rw [h1, h2]
theorem w64 {x : Int} (h1 : -9223372036854775808 ≤ x) (h2 : x ≤ 9223372036854775807) : wrap64 x = x := IntWalk.wrap64_in _ ⟨h1, h2⟩

theorem mayBe_any (n : Int) (w : World) :
    Calls Tryz.prog 114 #[.int .i64 n] w fun e w' => e = .returned (.bool (Um.may n)) ∧ w' = w := by
  by_cases h : -1000000000 ≤ n
  · by_cases h' : n ≤ 1000000000
    · have hm : Hid (Um.may n = true) := (Um.may_iff n).2 ⟨h, h'⟩
      go_enter Tryz.func114, Tryz.ntmps114
      go_wp2
      go_ret
      exact ⟨by rw [hm.out]; simp, rfl⟩
    · have hm : Hid (Um.may n = false) := (Um.may_not n).2 (by omega)
      go_enter Tryz.func114, Tryz.ntmps114
      go_wp2
      go_ret
      exact ⟨by rw [hm.out]; simp, rfl⟩
  · have hm : Hid (Um.may n = false) := (Um.may_not n).2 (by omega)
    have hd : decide (-1000000000 ≤ n) = false := by simpa using h
    go_enter Tryz.func114, Tryz.ntmps114
    go_wp2
    go_ret
    exact ⟨by rw [hm.out]; simp, rfl⟩

/-- An error that is told by its number: 0 is none. -/
def errV (k : Int) : Value := if k = 0 then .nilIface else .iface 85 (.int .i64 k)
theorem errV_none : errV 0 = .nilIface := rfl
theorem errV_some {k : Int} (h : ¬ k = 0) : errV k = .iface 85 (.int .i64 k) := by simp [errV, h]

theorem errG (k : Int) (j : Nat) (w : World) : (eqGuard BinOp.eql 39 (.tmp j) (.const .nilIface) (errV k) .nilIface).run Tryz.prog w = .ok () w := by
  unfold errV; split <;> simp [go_sem]
theorem errGn (k : Int) (j : Nat) (w : World) : (eqGuard BinOp.neq 39 (.tmp j) (.const .nilIface) (errV k) .nilIface).run Tryz.prog w = .ok () w := by
  unfold errV; split <;> simp [go_sem]
theorem errE (k : Int) (w : World) : (binOp .eql 39 (errV k) .nilIface).run Tryz.prog w = .ok (.bool (k == 0)) w := by
  unfold errV; split <;> rename_i h <;> simp [go_sem, h]
theorem errN (k : Int) (w : World) : (binOp .neq 39 (errV k) .nilIface).run Tryz.prog w = .ok (.bool (k != 0)) w := by
  unfold errV; split <;> rename_i h <;> simp [go_sem, h]

end Go.Proofs.YtkfalmdckmlneaaGreatDoor
