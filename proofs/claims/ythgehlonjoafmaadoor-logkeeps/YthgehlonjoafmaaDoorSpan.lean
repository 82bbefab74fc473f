/-
  What package span answers: Check, fitting, Add, Less, Hull, Meet, at every argument.
-/
import Derived.Test.YthgehlonjoafmaaDoorBase
import Derived.Test.YthgehlonjoafmaaDoorMaths
import Derived.Lib.MinMax
namespace Go.Proofs.YthgehlonjoafmaaDoor
set_option linter.unusedSimpArgs false
open Go.RowKit

theorem ret_v {a b : Value} (h : a = b) : Ending.returned a = .returned b := by rw [h]
theorem errV1 : errV 1 = .iface 47 (.int .i64 1) := errV_some (by decide)
theorem errV3 : errV 3 = .iface 47 (.int .i64 3) := errV_some (by decide)
theorem errV4 : errV 4 = .iface 47 (.int .i64 4) := errV_some (by decide)
theorem errV5 : errV 5 = .iface 47 (.int .i64 5) := errV_some (by decide)

theorem cell_new (w : World) (v : Value) (t : TypeId) {b : Nat} (hb : b = w.heap.size) : (w.alloc (.cells #[v] t)).cell? ⟨b, 0, none⟩ = some v := by
  subst hb
  simp [go_sem]
theorem cell_old (w : World) (o : Obj) (p : Addr) {v : Value} (hp : p.block < w.heap.size) (h : w.cell? p = some v) : (w.alloc o).cell? p = some v := (((Below.refl w.heap.size w).alloc (Nat.le_refl _) o).cell (p := p) hp).trans h
theorem check_any (lo hi : Int) (w : World) :
    Calls Tryd.prog 37 #[.agg #[.int .i64 lo, .int .i64 hi]] w fun e w' => e = .returned (errV (Um.chk lo hi)) ∧ w' = w.alloc (.cells #[.int .i64 lo, .int .i64 hi] 28) := by
  cases hl : Um.may lo
  · have HR := hid (Um.chk_big (lo := lo) (hi := hi) (by rw [hl]; rfl))
    go_enter Tryd.func37, Tryd.ntmps37
    go_wp2_with (go_at_call 45; refine (mayBe_any _ _).mono ?_; rintro e w1 ⟨rfl, rfl⟩)
    go_returns
    rw [HR.out]
    exact ⟨rfl, rfl⟩
  · cases hh : Um.may hi
    · have HR := hid (Um.chk_big (lo := lo) (hi := hi) (by rw [hl, hh]; rfl))
      go_enter Tryd.func37, Tryd.ntmps37
      go_wp2_with (go_at_call 45; refine (mayBe_any _ _).mono ?_; rintro e w1 ⟨rfl, rfl⟩)
      go_returns
      rw [HR.out]
      exact ⟨rfl, rfl⟩
    · by_cases h : hi < lo
      · have HR := hid (Um.chk_turned (lo := lo) (hi := hi) (by rw [hl, hh]; rfl) h)
        have h' : decide (hi < lo) = true := by simpa using h
        go_enter Tryd.func37, Tryd.ntmps37
        go_wp2_with (go_at_call 45; refine (mayBe_any _ _).mono ?_; rintro e w1 ⟨rfl, rfl⟩)
        go_returns
        rw [HR.out]
        exact ⟨rfl, rfl⟩
      · have HR := hid (Um.chk_right (lo := lo) (hi := hi) (by rw [hl, hh]; rfl) h)
        have h' : decide (hi < lo) = false := by simpa using h
        go_enter Tryd.func37, Tryd.ntmps37
        go_wp2_with (go_at_call 45; refine (mayBe_any _ _).mono ?_; rintro e w1 ⟨rfl, rfl⟩)
        go_returns
        rw [HR.out]
        exact ⟨rfl, rfl⟩


/-- What is wrong with two, one behind the other: the slice lies behind all that there was. -/
theorem checkTwo_first (al ah bl bh : Int) (w : World) {b : Nat} (hb : b = w.heap.size) (h1 : ¬ Um.chk al ah = 0) :
    Calls Tryd.prog 28 #[.slice (some ⟨b, 0, none⟩) 2 2] (w.alloc (.cells #[.int .i64 al, .int .i64 ah, .int .i64 bl, .int .i64 bh] 28)) fun e w' => e = .returned (errV (Um.chk al ah)) ∧ w' = ((w.alloc (.cells #[.int .i64 al, .int .i64 ah, .int .i64 bl, .int .i64 bh] 28)).alloc (.cells #[.int .i64 al, .int .i64 ah] 28)).alloc (.cells #[.int .i64 al, .int .i64 ah] 28) := by
  subst hb
  have q1 := errG
  have q2 := errGn
  have q3 := errE
  have q4 := errN
  have k1 : (Um.chk al ah != 0) = true := by simpa using h1
  have HC := fun w => hid (check_any al ah w)
  clear h1
  generalize Um.chk al ah = G at *
  go_enter Tryd.func28, Tryd.ntmps28
  go_wp2
  refine wp_loop_rounds 1 ?_
  rw [rounds_succ]
  go_wp2_with (go_at_call 37; refine (HC _).out.mono ?_; rintro e w1 ⟨rfl, rfl⟩)
  go_returns
  exact ⟨rfl, rfl⟩

theorem checkTwo_second (al ah bl bh : Int) (w : World) {b : Nat} (hb : b = w.heap.size) (h1 : Um.chk al ah = 0) (h2 : ¬ Um.chk bl bh = 0) :
    Calls Tryd.prog 28 #[.slice (some ⟨b, 0, none⟩) 2 2] (w.alloc (.cells #[.int .i64 al, .int .i64 ah, .int .i64 bl, .int .i64 bh] 28)) fun e w' => e = .returned (errV (Um.chk bl bh)) ∧ w' = ((((w.alloc (.cells #[.int .i64 al, .int .i64 ah, .int .i64 bl, .int .i64 bh] 28)).alloc (.cells #[.int .i64 al, .int .i64 ah] 28)).alloc (.cells #[.int .i64 al, .int .i64 ah] 28)).alloc (.cells #[.int .i64 bl, .int .i64 bh] 28)).alloc (.cells #[.int .i64 bl, .int .i64 bh] 28) := by
  subst hb
  have q1 := errG
  have q2 := errGn
  have q3 := errE
  have q4 := errN
  have k1 : (Um.chk al ah != 0) = false := by simpa using h1
  have k2 : (Um.chk bl bh != 0) = true := by simpa using h2
  have HC := fun w => hid (check_any al ah w)
  have HD := fun w => hid (check_any bl bh w)
  clear h1 h2
  generalize Um.chk al ah = G at *
  generalize Um.chk bl bh = G2 at *
  go_enter Tryd.func28, Tryd.ntmps28
  go_wp2
  refine wp_loop_rounds 2 ?_
  rw [rounds_succ]
  go_wp2_with (go_at_call 37; refine (HC _).out.mono ?_; rintro e w1 ⟨rfl, rfl⟩)
  rw [rounds_succ]
  go_wp2_with (go_at_call 37; refine (HD _).out.mono ?_; rintro e w1 ⟨rfl, rfl⟩)
  go_returns
  exact ⟨rfl, rfl⟩

theorem checkTwo_good (al ah bl bh : Int) (w : World) {b : Nat} (hb : b = w.heap.size) (h1 : Um.chk al ah = 0) (h2 : Um.chk bl bh = 0) :
    Calls Tryd.prog 28 #[.slice (some ⟨b, 0, none⟩) 2 2] (w.alloc (.cells #[.int .i64 al, .int .i64 ah, .int .i64 bl, .int .i64 bh] 28)) fun e w' => e = .returned (Value.nilIface) ∧ w' = ((((w.alloc (.cells #[.int .i64 al, .int .i64 ah, .int .i64 bl, .int .i64 bh] 28)).alloc (.cells #[.int .i64 al, .int .i64 ah] 28)).alloc (.cells #[.int .i64 al, .int .i64 ah] 28)).alloc (.cells #[.int .i64 bl, .int .i64 bh] 28)).alloc (.cells #[.int .i64 bl, .int .i64 bh] 28) := by
  subst hb
  have q1 := errG
  have q2 := errGn
  have q3 := errE
  have q4 := errN
  have k1 : (Um.chk al ah != 0) = false := by simpa using h1
  have k2 : (Um.chk bl bh != 0) = false := by simpa using h2
  have HC := fun w => hid (check_any al ah w)
  have HD := fun w => hid (check_any bl bh w)
  clear h1 h2
  generalize Um.chk al ah = G at *
  generalize Um.chk bl bh = G2 at *
  go_enter Tryd.func28, Tryd.ntmps28
  go_wp2
  refine wp_loop_rounds 3 ?_
  rw [rounds_succ]
  go_wp2_with (go_at_call 37; refine (HC _).out.mono ?_; rintro e w1 ⟨rfl, rfl⟩)
  rw [rounds_succ]
  go_wp2_with (go_at_call 37; refine (HD _).out.mono ?_; rintro e w1 ⟨rfl, rfl⟩)
  rw [rounds_succ]
  go_wp2
  go_returns
  exact ⟨rfl, rfl⟩

end Go.Proofs.YthgehlonjoafmaaDoor
