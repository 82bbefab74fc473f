/-
  A system in memory, and what package step's own functions lay into blocks: a system, a list; what is wrong with a system.
-/
import Derived.Test.YtbnencjfgnkbfaaGreatDoorLt
namespace Go.Proofs.YtbnencjfgnkbfaaGreatDoor
set_option linter.unusedSimpArgs false
open Go.RowKit

theorem sys_cells (w : World) (v0 v1 : Value) (T : TypeId) : (w.alloc (.cells #[v0, v1] T)).cell? ⟨w.heap.size, 0, none⟩ = some v0 ∧ (w.alloc (.cells #[v0, v1] T)).cell? ⟨w.heap.size, 1, none⟩ = some v1 := ⟨(Blk.new w T #[v0, v1]).cell 0 rfl, (Blk.new w T #[v0, v1]).cell 1 rfl⟩
theorem sysF_none (p : List (Int × Int)) : Um.sysF [] p = 5 := rfl
theorem sysF_full {s : List (List Um.Tm)} {p : List (Int × Int)} (h : 3 < s.length) : Um.sysF s p = 4 := by
  unfold Um.sysF
  rw [if_neg (by rintro rfl; simp at h), if_pos h]
theorem sysF_shape {s : List (List Um.Tm)} {p : List (Int × Int)} (h0 : s ≠ []) (h3 : ¬ 3 < s.length) (h : ¬ p.length = s.length) : Um.sysF s p = 3 := by
  unfold Um.sysF
  rw [if_neg h0, if_neg h3, if_neg h]
theorem sysF_forms {s : List (List Um.Tm)} {p : List (Int × Int)} (h0 : s ≠ []) (h3 : ¬ 3 < s.length) (h : p.length = s.length) : Um.sysF s p = if Um.formsF s.length s = 0 then Um.sidesF p else Um.formsF s.length s := by
  unfold Um.sysF
  rw [if_neg h0, if_neg h3, if_pos h]
/-- A system in block B. -/
structure SyAt (w : World) (B : Nat) (v0 v1 : Value) : Prop where
  lt : B < w.heap.size
  c0 : w.cell? ⟨B, 0, none⟩ = some v0
  c1 : w.cell? ⟨B, 1, none⟩ = some v1
theorem SyAt.step {w w' : World} {B : Nat} {v0 v1 : Value} (h : SyAt w B v0 v1) (hb : Below w.heap.size w w') : SyAt w' B v0 v1 :=
  ⟨Nat.lt_of_lt_of_le h.lt hb.size, (hb.cell (p := ⟨B, 0, none⟩) h.lt).trans h.c0, (hb.cell (p := ⟨B, 1, none⟩) h.lt).trans h.c1⟩
theorem SyAt.new (w : World) (v0 v1 : Value) (T : TypeId) {B : Nat} (hB : B = w.heap.size) : SyAt (w.alloc (.cells #[v0, v1] T)) B v0 v1 := by
  subst hB
  exact ⟨(Blk.new w T #[v0, v1]).lt, (Blk.new w T #[v0, v1]).cell 0 rfl, (Blk.new w T #[v0, v1]).cell 1 rfl⟩
theorem SyAt.alloc {w : World} {B : Nat} {v0 v1 : Value} (h : SyAt w B v0 v1) (o : Obj) : SyAt (w.alloc o) B v0 v1 := h.step ((Below.refl _ _).alloc (Nat.le_refl _) o)
/-- A value in block B. -/
structure VaAt (w : World) (B : Nat) (v : Value) : Prop where
  lt : B < w.heap.size
  c : w.cell? ⟨B, 0, none⟩ = some v
theorem VaAt.step {w w' : World} {B : Nat} {v : Value} (h : VaAt w B v) (hb : Below w.heap.size w w') : VaAt w' B v :=
  ⟨Nat.lt_of_lt_of_le h.lt hb.size, (hb.cell (p := ⟨B, 0, none⟩) h.lt).trans h.c⟩
theorem VaAt.new (w : World) (v : Value) (T : TypeId) {B : Nat} (hB : B = w.heap.size) : VaAt (w.alloc (.cells #[v] T)) B v := by
  subst hB
  exact ⟨(Blk.new w T #[v]).lt, (Blk.new w T #[v]).cell 0 rfl⟩
theorem VaAt.alloc {w : World} {B : Nat} {v : Value} (h : VaAt w B v) (o : Obj) : VaAt (w.alloc o) B v := h.step ((Below.refl _ _).alloc (Nat.le_refl _) o)
end Go.Proofs.YtbnencjfgnkbfaaGreatDoor
