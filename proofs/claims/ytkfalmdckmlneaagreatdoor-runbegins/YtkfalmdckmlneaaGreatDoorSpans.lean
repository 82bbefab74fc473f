/-
  What package span answers: Check, fitting, Add, Less, Hull, Meet, at every argument.
  What package span answers: Add, Less, at every argument.
  What package span answers: Hull, Meet, at every argument.
  What package span's ofEnds answers with unit.Times, and with unit.By: the first error of the four pairs of ends, or the least lower one and the greatest upper one.
  What package span's ofEnds answers with unit.Times.
  What package span's ofEnds answers with unit.By.
  What package span answers: Times, at every argument.
  What package span answers: By, at every argument.
-/
import Derived.Test.YtkfalmdckmlneaaGreatDoorBase
import Derived.Test.YtkfalmdckmlneaaGreatDoorMaths
import Derived.Lib.MinMax
import Derived.Test.YtkfalmdckmlneaaGreatDoorUnits
namespace Go.Proofs.YtkfalmdckmlneaaGreatDoor
set_option linter.unusedSimpArgs false
open Go.RowKit

theorem ret_v {a b : Value} (h : a = b) : Ending.returned a = .returned b := by rw [h]
theorem errV1 : errV 1 = .iface 85 (.int .i64 1) := errV_some (by decide)
theorem errV3 : errV 3 = .iface 85 (.int .i64 3) := errV_some (by decide)
theorem errV4 : errV 4 = .iface 85 (.int .i64 4) := errV_some (by decide)
theorem errV5 : errV 5 = .iface 85 (.int .i64 5) := errV_some (by decide)

theorem cell_new (w : World) (v : Value) (t : TypeId) {b : Nat} (hb : b = w.heap.size) : (w.alloc (.cells #[v] t)).cell? ⟨b, 0, none⟩ = some v := by
  subst hb
  simp [go_sem]
theorem cell_old (w : World) (o : Obj) (p : Addr) {v : Value} (hp : p.block < w.heap.size) (h : w.cell? p = some v) : (w.alloc o).cell? p = some v := (((Below.refl w.heap.size w).alloc (Nat.le_refl _) o).cell (p := p) hp).trans h
theorem check_any (lo hi : Int) (w : World) :
    Calls Tryz.prog 112 #[.agg #[.int .i64 lo, .int .i64 hi]] w fun e w' => e = .returned (errV (Um.chk lo hi)) ∧ w' = w.alloc (.cells #[.int .i64 lo, .int .i64 hi] 29) := by
  cases hl : Um.may lo
  · have HR := hid (Um.chk_big (lo := lo) (hi := hi) (by rw [hl]; rfl))
    go_enter Tryz.func112, Tryz.ntmps112
    go_wp2_with (go_at_call 114; refine (mayBe_any _ _).mono ?_; rintro e w1 ⟨rfl, rfl⟩)
    go_returns
    rw [HR.out]
    exact ⟨rfl, rfl⟩
  · cases hh : Um.may hi
    · have HR := hid (Um.chk_big (lo := lo) (hi := hi) (by rw [hl, hh]; rfl))
      go_enter Tryz.func112, Tryz.ntmps112
      go_wp2_with (go_at_call 114; refine (mayBe_any _ _).mono ?_; rintro e w1 ⟨rfl, rfl⟩)
      go_returns
      rw [HR.out]
      exact ⟨rfl, rfl⟩
    · by_cases h : hi < lo
      · have HR := hid (Um.chk_turned (lo := lo) (hi := hi) (by rw [hl, hh]; rfl) h)
        have h' : decide (hi < lo) = true := by simpa using h
        go_enter Tryz.func112, Tryz.ntmps112
        go_wp2_with (go_at_call 114; refine (mayBe_any _ _).mono ?_; rintro e w1 ⟨rfl, rfl⟩)
        go_returns
        rw [HR.out]
        exact ⟨rfl, rfl⟩
      · have HR := hid (Um.chk_right (lo := lo) (hi := hi) (by rw [hl, hh]; rfl) h)
        have h' : decide (hi < lo) = false := by simpa using h
        go_enter Tryz.func112, Tryz.ntmps112
        go_wp2_with (go_at_call 114; refine (mayBe_any _ _).mono ?_; rintro e w1 ⟨rfl, rfl⟩)
        go_returns
        rw [HR.out]
        exact ⟨rfl, rfl⟩

theorem fitting_any (lo hi : Int) (w : World) :
    Calls Tryz.prog 83 #[.int .i64 lo, .int .i64 hi] w fun e w' => e = .returned (.tuple #[.agg #[.int .i64 (Um.fit lo hi).1, .int .i64 (Um.fit lo hi).2.1], errV (Um.fit lo hi).2.2]) ∧ w' = w.alloc (.cells #[.int .i64 (Um.fit lo hi).1, .int .i64 (Um.fit lo hi).2.1] 29) := by
  cases hl : Um.may lo
  · have HR := hid (Um.fit_no (lo := lo) (hi := hi) (by rw [hl]; rfl))
    go_enter Tryz.func83, Tryz.ntmps83
    go_wp2_with (go_at_call 114; refine (mayBe_any _ _).mono ?_; rintro e w1 ⟨rfl, rfl⟩)
    go_returns
    rw [HR.out]
    exact ⟨rfl, rfl⟩
  · cases hh : Um.may hi
    · have HR := hid (Um.fit_no (lo := lo) (hi := hi) (by rw [hl, hh]; rfl))
      go_enter Tryz.func83, Tryz.ntmps83
      go_wp2_with (go_at_call 114; refine (mayBe_any _ _).mono ?_; rintro e w1 ⟨rfl, rfl⟩)
      go_returns
      rw [HR.out]
      exact ⟨rfl, rfl⟩
    · have HR := hid (Um.fit_yes (lo := lo) (hi := hi) (by rw [hl, hh]; rfl))
      go_enter Tryz.func83, Tryz.ntmps83
      go_wp2_with (go_at_call 114; refine (mayBe_any _ _).mono ?_; rintro e w1 ⟨rfl, rfl⟩)
      go_returns
      rw [HR.out]
      exact ⟨rfl, rfl⟩

/-- What is wrong with two, one behind the other: the slice lies behind all that there was. -/
theorem checkTwo_first (al ah bl bh : Int) (w : World) {b : Nat} (hb : b = w.heap.size) (h1 : ¬ Um.chk al ah = 0) :
    Calls Tryz.prog 113 #[.slice (some ⟨b, 0, none⟩) 2 2] (w.alloc (.cells #[.int .i64 al, .int .i64 ah, .int .i64 bl, .int .i64 bh] 29)) fun e w' => e = .returned (errV (Um.chk al ah)) ∧ w' = ((w.alloc (.cells #[.int .i64 al, .int .i64 ah, .int .i64 bl, .int .i64 bh] 29)).alloc (.cells #[.int .i64 al, .int .i64 ah] 29)).alloc (.cells #[.int .i64 al, .int .i64 ah] 29) := by
  subst hb
  have q1 := errG
  have q2 := errGn
  have q3 := errE
  have q4 := errN
  have k1 : (Um.chk al ah != 0) = true := by simpa using h1
  have HC := fun w => hid (check_any al ah w)
  clear h1
  generalize Um.chk al ah = G at *
  go_enter Tryz.func113, Tryz.ntmps113
  go_wp2
  refine wp_loop_rounds 1 ?_
  rw [rounds_succ]
  go_wp2_with (go_at_call 112; refine (HC _).out.mono ?_; rintro e w1 ⟨rfl, rfl⟩)
  go_returns
  exact ⟨rfl, rfl⟩

theorem checkTwo_second (al ah bl bh : Int) (w : World) {b : Nat} (hb : b = w.heap.size) (h1 : Um.chk al ah = 0) (h2 : ¬ Um.chk bl bh = 0) :
    Calls Tryz.prog 113 #[.slice (some ⟨b, 0, none⟩) 2 2] (w.alloc (.cells #[.int .i64 al, .int .i64 ah, .int .i64 bl, .int .i64 bh] 29)) fun e w' => e = .returned (errV (Um.chk bl bh)) ∧ w' = ((((w.alloc (.cells #[.int .i64 al, .int .i64 ah, .int .i64 bl, .int .i64 bh] 29)).alloc (.cells #[.int .i64 al, .int .i64 ah] 29)).alloc (.cells #[.int .i64 al, .int .i64 ah] 29)).alloc (.cells #[.int .i64 bl, .int .i64 bh] 29)).alloc (.cells #[.int .i64 bl, .int .i64 bh] 29) := by
  subst hb
  have q1 := errG
  have q2 := errGn
  have q3 := errE
  have q4 := errN
  have k1 : (Um.chk al ah != 0) = false := by simpa using h1
  have k2 : (Um.chk bl bh != 0) = true := by simpa using h2
  have HC := fun w => hid (check_any al ah w)
  have HD := fun w => hid (check_any bl bh w)
  clear h1 h2
  generalize Um.chk al ah = G at *
  generalize Um.chk bl bh = G2 at *
  go_enter Tryz.func113, Tryz.ntmps113
  go_wp2
  refine wp_loop_rounds 2 ?_
  rw [rounds_succ]
  go_wp2_with (go_at_call 112; refine (HC _).out.mono ?_; rintro e w1 ⟨rfl, rfl⟩)
  rw [rounds_succ]
  go_wp2_with (go_at_call 112; refine (HD _).out.mono ?_; rintro e w1 ⟨rfl, rfl⟩)
  go_returns
  exact ⟨rfl, rfl⟩

theorem checkTwo_good (al ah bl bh : Int) (w : World) {b : Nat} (hb : b = w.heap.size) (h1 : Um.chk al ah = 0) (h2 : Um.chk bl bh = 0) :
    Calls Tryz.prog 113 #[.slice (some ⟨b, 0, none⟩) 2 2] (w.alloc (.cells #[.int .i64 al, .int .i64 ah, .int .i64 bl, .int .i64 bh] 29)) fun e w' => e = .returned (Value.nilIface) ∧ w' = ((((w.alloc (.cells #[.int .i64 al, .int .i64 ah, .int .i64 bl, .int .i64 bh] 29)).alloc (.cells #[.int .i64 al, .int .i64 ah] 29)).alloc (.cells #[.int .i64 al, .int .i64 ah] 29)).alloc (.cells #[.int .i64 bl, .int .i64 bh] 29)).alloc (.cells #[.int .i64 bl, .int .i64 bh] 29) := by
  subst hb
  have q1 := errG
  have q2 := errGn
  have q3 := errE
  have q4 := errN
  have k1 : (Um.chk al ah != 0) = false := by simpa using h1
  have k2 : (Um.chk bl bh != 0) = false := by simpa using h2
  have HC := fun w => hid (check_any al ah w)
  have HD := fun w => hid (check_any bl bh w)
  clear h1 h2
  generalize Um.chk al ah = G at *
  generalize Um.chk bl bh = G2 at *
  go_enter Tryz.func113, Tryz.ntmps113
  go_wp2
  refine wp_loop_rounds 3 ?_
  rw [rounds_succ]
  go_wp2_with (go_at_call 112; refine (HC _).out.mono ?_; rintro e w1 ⟨rfl, rfl⟩)
  rw [rounds_succ]
  go_wp2_with (go_at_call 112; refine (HD _).out.mono ?_; rintro e w1 ⟨rfl, rfl⟩)
  rw [rounds_succ]
  go_wp2
  go_returns
  exact ⟨rfl, rfl⟩

theorem has_any (lo hi n : Int) (w : World) :
    Calls Tryz.prog 89 #[.agg #[.int .i64 lo, .int .i64 hi], .int .i64 n] w fun e w' => e = .returned (.bool (decide (lo ≤ n) && decide (n ≤ hi))) ∧ w' = w.alloc (.cells #[.int .i64 lo, .int .i64 hi] 29) := by
  by_cases h : lo ≤ n
  · have h' : decide (lo ≤ n) = true := by simpa using h
    go_enter Tryz.func89, Tryz.ntmps89
    go_wp2
    go_returns
    exact ⟨by rw [h']; rfl, rfl⟩
  · have h' : decide (lo ≤ n) = false := by simpa using h
    go_enter Tryz.func89, Tryz.ntmps89
    go_wp2
    go_returns
    exact ⟨rfl, rfl⟩
end Go.Proofs.YtkfalmdckmlneaaGreatDoor
namespace Go.Proofs.YtkfalmdckmlneaaGreatDoor
set_option linter.unusedSimpArgs false
open Go.RowKit

set_option maxHeartbeats 1000000 in
theorem add_any (al ah bl bh : Int) (w : World) :
    Calls Tryz.prog 57 #[.agg #[.int .i64 al, .int .i64 ah], .agg #[.int .i64 bl, .int .i64 bh]] w fun e w' => e = .returned (.tuple #[.agg #[.int .i64 (Um.made (Um.addR al ah bl bh) al ah bl bh).1, .int .i64 (Um.made (Um.addR al ah bl bh) al ah bl bh).2.1], errV (Um.made (Um.addR al ah bl bh) al ah bl bh).2.2]) ∧ Below w.heap.size w w' := by
  have q1 := errG
  have q2 := errGn
  have q3 := errE
  have q4 := errN
  have hmf : ∀ (fn : Fn) (first cap : Array Value) (w : World), (Instr.makeFunc fn first cap).run Tryz.prog w = .ok (.func fn first cap) w := fun _ _ _ _ => rfl
  by_cases h1 : Um.chk al ah = 0
  · by_cases h2 : Um.chk bl bh = 0
    · have HM := hid (Um.made_good (R := Um.addR al ah bl bh) h1 h2)
      have k1 : (Um.chk al ah != 0) = false := by simpa using h1
      have k2 : (Um.chk bl bh != 0) = false := by simpa using h2
      obtain ⟨m1, m2, m3⟩ := Um.chk_ok.1 h1
      obtain ⟨m4, m5, m6⟩ := Um.chk_ok.1 h2
      have HCA := fun w {b : Nat} (hb : b = w.heap.size) => hid (checkTwo_good al ah bl bh w hb h1 h2)
      clear h1 h2
      generalize Um.made (Um.addR al ah bl bh) al ah bl bh = M at *
      have b1 := (Um.may_iff al).1 m1
      have b2 := (Um.may_iff ah).1 m2
      have b3 := (Um.may_iff bl).1 m4
      have b4 := (Um.may_iff bh).1 m5
      obtain ⟨a1, a2⟩ := b1
      obtain ⟨a3, a4⟩ := b2
      obtain ⟨a5, a6⟩ := b3
      obtain ⟨a7, a8⟩ := b4
      clear m1 m2 m3 m4 m5 m6
      have HR : Hid (Um.addR al ah bl bh = Um.fit (al + bl) (ah + bh)) := rfl
      generalize Um.addR al ah bl bh = R at *
      go_enter Tryz.func57, Tryz.ntmps57
      go_wp2_with (first | (go_at_call 113; refine (HCA _ (by simp)).out.mono ?_; rintro e w1 ⟨rfl, rfl⟩) | (go_at_call 83; refine (fitting_any _ _ _).mono ?_; rintro e w1 ⟨rfl, rfl⟩) | go_in)
      go_returns
      rw [HM.out, HR.out]
      exact ⟨rfl, by go_grown⟩
    · have HM := hid (Um.made_second (R := Um.addR al ah bl bh) h1 h2)
      have k1 : (Um.chk al ah != 0) = false := by simpa using h1
      have k2 : (Um.chk bl bh != 0) = true := by simpa using h2
      have HCA := fun w {b : Nat} (hb : b = w.heap.size) => hid (checkTwo_second al ah bl bh w hb h1 h2)
      clear h1 h2
      generalize Um.made (Um.addR al ah bl bh) al ah bl bh = M at *
      go_enter Tryz.func57, Tryz.ntmps57
      go_wp2_with (first | (go_at_call 113; refine (HCA _ (by simp)).out.mono ?_; rintro e w1 ⟨rfl, rfl⟩) | go_in)
      go_returns
      rw [HM.out]
      exact ⟨rfl, by go_grown⟩
  · have HM := hid (Um.made_first (R := Um.addR al ah bl bh) (bl := bl) (bh := bh) h1)
    have k1 : (Um.chk al ah != 0) = true := by simpa using h1
    have HCA := fun w {b : Nat} (hb : b = w.heap.size) => hid (checkTwo_first al ah bl bh w hb h1)
    clear h1
    generalize Um.made (Um.addR al ah bl bh) al ah bl bh = M at *
    go_enter Tryz.func57, Tryz.ntmps57
    go_wp2_with (first | (go_at_call 113; refine (HCA _ (by simp)).out.mono ?_; rintro e w1 ⟨rfl, rfl⟩) | go_in)
    go_returns
    rw [HM.out]
    exact ⟨rfl, by go_grown⟩

set_option maxHeartbeats 1000000 in
theorem less_any (al ah bl bh : Int) (w : World) :
    Calls Tryz.prog 58 #[.agg #[.int .i64 al, .int .i64 ah], .agg #[.int .i64 bl, .int .i64 bh]] w fun e w' => e = .returned (.tuple #[.agg #[.int .i64 (Um.made (Um.lessR al ah bl bh) al ah bl bh).1, .int .i64 (Um.made (Um.lessR al ah bl bh) al ah bl bh).2.1], errV (Um.made (Um.lessR al ah bl bh) al ah bl bh).2.2]) ∧ Below w.heap.size w w' := by
  have q1 := errG
  have q2 := errGn
  have q3 := errE
  have q4 := errN
  have hmf : ∀ (fn : Fn) (first cap : Array Value) (w : World), (Instr.makeFunc fn first cap).run Tryz.prog w = .ok (.func fn first cap) w := fun _ _ _ _ => rfl
  by_cases h1 : Um.chk al ah = 0
  · by_cases h2 : Um.chk bl bh = 0
    · have HM := hid (Um.made_good (R := Um.lessR al ah bl bh) h1 h2)
      have k1 : (Um.chk al ah != 0) = false := by simpa using h1
      have k2 : (Um.chk bl bh != 0) = false := by simpa using h2
      obtain ⟨m1, m2, m3⟩ := Um.chk_ok.1 h1
      obtain ⟨m4, m5, m6⟩ := Um.chk_ok.1 h2
      have HCA := fun w {b : Nat} (hb : b = w.heap.size) => hid (checkTwo_good al ah bl bh w hb h1 h2)
      clear h1 h2
      generalize Um.made (Um.lessR al ah bl bh) al ah bl bh = M at *
      have b1 := (Um.may_iff al).1 m1
      have b2 := (Um.may_iff ah).1 m2
      have b3 := (Um.may_iff bl).1 m4
      have b4 := (Um.may_iff bh).1 m5
      obtain ⟨a1, a2⟩ := b1
      obtain ⟨a3, a4⟩ := b2
      obtain ⟨a5, a6⟩ := b3
      obtain ⟨a7, a8⟩ := b4
      clear m1 m2 m3 m4 m5 m6
      have HR : Hid (Um.lessR al ah bl bh = Um.fit (al - bh) (ah - bl)) := rfl
      generalize Um.lessR al ah bl bh = R at *
      go_enter Tryz.func58, Tryz.ntmps58
      go_wp2_with (first | (go_at_call 113; refine (HCA _ (by simp)).out.mono ?_; rintro e w1 ⟨rfl, rfl⟩) | (go_at_call 83; refine (fitting_any _ _ _).mono ?_; rintro e w1 ⟨rfl, rfl⟩) | go_in)
      go_returns
      rw [HM.out, HR.out]
      exact ⟨rfl, by go_grown⟩
    · have HM := hid (Um.made_second (R := Um.lessR al ah bl bh) h1 h2)
      have k1 : (Um.chk al ah != 0) = false := by simpa using h1
      have k2 : (Um.chk bl bh != 0) = true := by simpa using h2
      have HCA := fun w {b : Nat} (hb : b = w.heap.size) => hid (checkTwo_second al ah bl bh w hb h1 h2)
      clear h1 h2
      generalize Um.made (Um.lessR al ah bl bh) al ah bl bh = M at *
      go_enter Tryz.func58, Tryz.ntmps58
      go_wp2_with (first | (go_at_call 113; refine (HCA _ (by simp)).out.mono ?_; rintro e w1 ⟨rfl, rfl⟩) | go_in)
      go_returns
      rw [HM.out]
      exact ⟨rfl, by go_grown⟩
  · have HM := hid (Um.made_first (R := Um.lessR al ah bl bh) (bl := bl) (bh := bh) h1)
    have k1 : (Um.chk al ah != 0) = true := by simpa using h1
    have HCA := fun w {b : Nat} (hb : b = w.heap.size) => hid (checkTwo_first al ah bl bh w hb h1)
    clear h1
    generalize Um.made (Um.lessR al ah bl bh) al ah bl bh = M at *
    go_enter Tryz.func58, Tryz.ntmps58
    go_wp2_with (first | (go_at_call 113; refine (HCA _ (by simp)).out.mono ?_; rintro e w1 ⟨rfl, rfl⟩) | go_in)
    go_returns
    rw [HM.out]
    exact ⟨rfl, by go_grown⟩
end Go.Proofs.YtkfalmdckmlneaaGreatDoor
namespace Go.Proofs.YtkfalmdckmlneaaGreatDoor
set_option linter.unusedSimpArgs false
open Go.RowKit

set_option maxHeartbeats 1000000 in
theorem hull_any (al ah bl bh : Int) (w : World) :
    Calls Tryz.prog 62 #[.agg #[.int .i64 al, .int .i64 ah], .agg #[.int .i64 bl, .int .i64 bh]] w fun e w' => e = .returned (.tuple #[.agg #[.int .i64 (Um.made (Um.hullR al ah bl bh) al ah bl bh).1, .int .i64 (Um.made (Um.hullR al ah bl bh) al ah bl bh).2.1], errV (Um.made (Um.hullR al ah bl bh) al ah bl bh).2.2]) ∧ Below w.heap.size w w' := by
  have q1 := errG
  have q2 := errGn
  have q3 := errE
  have q4 := errN
  have hmf : ∀ (fn : Fn) (first cap : Array Value) (w : World), (Instr.makeFunc fn first cap).run Tryz.prog w = .ok (.func fn first cap) w := fun _ _ _ _ => rfl
  by_cases h1 : Um.chk al ah = 0
  · by_cases h2 : Um.chk bl bh = 0
    · have HM := hid (Um.made_good (R := Um.hullR al ah bl bh) h1 h2)
      have k1 : (Um.chk al ah != 0) = false := by simpa using h1
      have k2 : (Um.chk bl bh != 0) = false := by simpa using h2
      obtain ⟨m1, m2, m3⟩ := Um.chk_ok.1 h1
      obtain ⟨m4, m5, m6⟩ := Um.chk_ok.1 h2
      have HCA := fun w {b : Nat} (hb : b = w.heap.size) => hid (checkTwo_good al ah bl bh w hb h1 h2)
      clear h1 h2
      generalize Um.made (Um.hullR al ah bl bh) al ah bl bh = M at *
      clear m1 m2 m3 m4 m5 m6
      have HR : Hid (Um.hullR al ah bl bh = (min al bl, max ah bh, 0)) := rfl
      generalize Um.hullR al ah bl bh = R at *
      go_enter Tryz.func62, Tryz.ntmps62
      go_wp2_with (first | (go_at_call 113; refine (HCA _ (by simp)).out.mono ?_; rintro e w1 ⟨rfl, rfl⟩) | go_in)
      go_returns
      rw [HM.out, HR.out]
      exact ⟨rfl, by go_grown⟩
    · have HM := hid (Um.made_second (R := Um.hullR al ah bl bh) h1 h2)
      have k1 : (Um.chk al ah != 0) = false := by simpa using h1
      have k2 : (Um.chk bl bh != 0) = true := by simpa using h2
      have HCA := fun w {b : Nat} (hb : b = w.heap.size) => hid (checkTwo_second al ah bl bh w hb h1 h2)
      clear h1 h2
      generalize Um.made (Um.hullR al ah bl bh) al ah bl bh = M at *
      go_enter Tryz.func62, Tryz.ntmps62
      go_wp2_with (first | (go_at_call 113; refine (HCA _ (by simp)).out.mono ?_; rintro e w1 ⟨rfl, rfl⟩) | go_in)
      go_returns
      rw [HM.out]
      exact ⟨rfl, by go_grown⟩
  · have HM := hid (Um.made_first (R := Um.hullR al ah bl bh) (bl := bl) (bh := bh) h1)
    have k1 : (Um.chk al ah != 0) = true := by simpa using h1
    have HCA := fun w {b : Nat} (hb : b = w.heap.size) => hid (checkTwo_first al ah bl bh w hb h1)
    clear h1
    generalize Um.made (Um.hullR al ah bl bh) al ah bl bh = M at *
    go_enter Tryz.func62, Tryz.ntmps62
    go_wp2_with (first | (go_at_call 113; refine (HCA _ (by simp)).out.mono ?_; rintro e w1 ⟨rfl, rfl⟩) | go_in)
    go_returns
    rw [HM.out]
    exact ⟨rfl, by go_grown⟩

set_option maxHeartbeats 1000000 in
theorem meet_any (al ah bl bh : Int) (w : World) :
    Calls Tryz.prog 61 #[.agg #[.int .i64 al, .int .i64 ah], .agg #[.int .i64 bl, .int .i64 bh]] w fun e w' => e = .returned (.tuple #[.agg #[.int .i64 (Um.made (Um.meetR al ah bl bh) al ah bl bh).1, .int .i64 (Um.made (Um.meetR al ah bl bh) al ah bl bh).2.1], errV (Um.made (Um.meetR al ah bl bh) al ah bl bh).2.2]) ∧ Below w.heap.size w w' := by
  have q1 := errG
  have q2 := errGn
  have q3 := errE
  have q4 := errN
  have hmf : ∀ (fn : Fn) (first cap : Array Value) (w : World), (Instr.makeFunc fn first cap).run Tryz.prog w = .ok (.func fn first cap) w := fun _ _ _ _ => rfl
  by_cases h1 : Um.chk al ah = 0
  · by_cases h2 : Um.chk bl bh = 0
    · have HM := hid (Um.made_good (R := Um.meetR al ah bl bh) h1 h2)
      have k1 : (Um.chk al ah != 0) = false := by simpa using h1
      have k2 : (Um.chk bl bh != 0) = false := by simpa using h2
      obtain ⟨m1, m2, m3⟩ := Um.chk_ok.1 h1
      obtain ⟨m4, m5, m6⟩ := Um.chk_ok.1 h2
      have HCA := fun w {b : Nat} (hb : b = w.heap.size) => hid (checkTwo_good al ah bl bh w hb h1 h2)
      clear h1 h2
      generalize Um.made (Um.meetR al ah bl bh) al ah bl bh = M at *
      clear m1 m2 m3 m4 m5 m6
      by_cases hm : max al bl ≤ min ah bh
      · have HR := hid (Um.meet_yes hm)
        have hm' : decide (min ah bh < max al bl) = false := by simp; omega
        clear hm
        generalize Um.meetR al ah bl bh = R at *
        go_enter Tryz.func61, Tryz.ntmps61
        go_wp2_with (first | (go_at_call 113; refine (HCA _ (by simp)).out.mono ?_; rintro e w1 ⟨rfl, rfl⟩) | go_in)
        go_returns
        rw [HM.out, HR.out]
        exact ⟨rfl, by go_grown⟩
      · have HR := hid (Um.meet_no hm)
        have hm' : decide (min ah bh < max al bl) = true := by simp; omega
        clear hm
        generalize Um.meetR al ah bl bh = R at *
        go_enter Tryz.func61, Tryz.ntmps61
        go_wp2_with (first | (go_at_call 113; refine (HCA _ (by simp)).out.mono ?_; rintro e w1 ⟨rfl, rfl⟩) | go_in)
        go_returns
        rw [HM.out, HR.out]
        exact ⟨rfl, by go_grown⟩
    · have HM := hid (Um.made_second (R := Um.meetR al ah bl bh) h1 h2)
      have k1 : (Um.chk al ah != 0) = false := by simpa using h1
      have k2 : (Um.chk bl bh != 0) = true := by simpa using h2
      have HCA := fun w {b : Nat} (hb : b = w.heap.size) => hid (checkTwo_second al ah bl bh w hb h1 h2)
      clear h1 h2
      generalize Um.made (Um.meetR al ah bl bh) al ah bl bh = M at *
      go_enter Tryz.func61, Tryz.ntmps61
      go_wp2_with (first | (go_at_call 113; refine (HCA _ (by simp)).out.mono ?_; rintro e w1 ⟨rfl, rfl⟩) | go_in)
      go_returns
      rw [HM.out]
      exact ⟨rfl, by go_grown⟩
  · have HM := hid (Um.made_first (R := Um.meetR al ah bl bh) (bl := bl) (bh := bh) h1)
    have k1 : (Um.chk al ah != 0) = true := by simpa using h1
    have HCA := fun w {b : Nat} (hb : b = w.heap.size) => hid (checkTwo_first al ah bl bh w hb h1)
    clear h1
    generalize Um.made (Um.meetR al ah bl bh) al ah bl bh = M at *
    go_enter Tryz.func61, Tryz.ntmps61
    go_wp2_with (first | (go_at_call 113; refine (HCA _ (by simp)).out.mono ?_; rintro e w1 ⟨rfl, rfl⟩) | go_in)
    go_returns
    rw [HM.out]
    exact ⟨rfl, by go_grown⟩
end Go.Proofs.YtkfalmdckmlneaaGreatDoor
namespace Go.Proofs.YtkfalmdckmlneaaGreatDoor
set_option linter.unusedSimpArgs false
open Go.RowKit

theorem next_res (n d : Int) : (∃ k, ¬ k = 0 ∧ Um.nextR n d = (0, 0, k)) ∨ (∃ l h, Um.nextR n d = (l, h, 0) ∧ Um.may l = true ∧ Um.may h = true) := by
  by_cases h2 : Um.may (Um.fl n d) = true ∧ Um.may (Um.ce n d) = true
  · exact .inr ⟨_, _, Um.next_yes h2.1 h2.2, h2.1, h2.2⟩
  · exact .inl ⟨4, by decide, Um.next_no h2⟩
theorem times_res (a b : Int) : (∃ k, ¬ k = 0 ∧ Um.timesR a b = (0, 0, k)) ∨ (∃ l h, Um.timesR a b = (l, h, 0) ∧ Um.may l = true ∧ Um.may h = true) := by
  unfold Um.timesR
  by_cases h : Um.may a = true ∧ Um.may b = true
  · rw [if_pos h]; exact next_res _ _
  · rw [if_neg h]; exact .inl ⟨1, by decide, rfl⟩
theorem by_res (a b : Int) : (∃ k, ¬ k = 0 ∧ Um.byR a b = (0, 0, k)) ∨ (∃ l h, Um.byR a b = (l, h, 0) ∧ Um.may l = true ∧ Um.may h = true) := by
  unfold Um.byR
  by_cases h : Um.may a = true ∧ Um.may b = true
  · rw [if_pos h]
    by_cases hb : b = 0
    · rw [if_pos hb]; exact .inl ⟨8, by decide, rfl⟩
    · rw [if_neg hb]; exact next_res _ _
  · rw [if_neg h]; exact .inl ⟨1, by decide, rfl⟩
theorem ret_s2 {a b a' b' : Int} {v : Value} (h1 : a = a') (h2 : b = b') : Ending.returned (.tuple #[.agg #[.int .i64 a, .int .i64 b], v]) = .returned (.tuple #[.agg #[.int .i64 a', .int .i64 b'], v]) := by rw [h1, h2]
theorem ix0 (a b : Int) (w : World) : (Instr.index 133 (.agg #[.int .i64 a, .int .i64 b]) (.int .i64 0)).run Tryz.prog w = .ok (.int .i64 a) w := by kernel_rfl
theorem ix1 (a b : Int) (w : World) : (Instr.index 133 (.agg #[.int .i64 a, .int .i64 b]) (.int .i64 1)).run Tryz.prog w = .ok (.int .i64 b) w := by kernel_rfl
theorem drewN_alloc (w : World) (o : Obj) (n : Nat) : (w.alloc o).drewN n = (w.drewN n).alloc o := rfl
theorem wspans {W : World} {T : TypeId} {a b c d : Int} (h1 : a = c) (h2 : b = d) : W.alloc (.cells #[.int .i64 a, .int .i64 b] T) = W.alloc (.cells #[.int .i64 c, .int .i64 d] T) := by rw [h1, h2]
end Go.Proofs.YtkfalmdckmlneaaGreatDoor
namespace Go.Proofs.YtkfalmdckmlneaaGreatDoor
set_option linter.unusedSimpArgs false
open Go.RowKit

set_option maxRecDepth 100000 in
set_option maxHeartbeats 4000000 in
theorem ends_times (al ah bl bh : Int) (w : World) :
    Calls Tryz.prog 86 #[.agg #[.int .i64 al, .int .i64 ah], .agg #[.int .i64 bl, .int .i64 bh], .func (.func 87) #[] #[]] w fun e w' => e = .returned (.tuple #[.agg #[.int .i64 (Um.seq4 (Um.timesR al bl) (Um.timesR al bh) (Um.timesR ah bl) (Um.timesR ah bh)).1, .int .i64 (Um.seq4 (Um.timesR al bl) (Um.timesR al bh) (Um.timesR ah bl) (Um.timesR ah bh)).2.1], errV (Um.seq4 (Um.timesR al bl) (Um.timesR al bh) (Um.timesR ah bl) (Um.timesR ah bh)).2.2]) ∧
      ∃ (q : Nat) (x y : Int), w' = ((((w.drewN q).alloc (.cells #[.int .i64 al, .int .i64 ah] 29)).alloc (.cells #[.int .i64 bl, .int .i64 bh] 29)).alloc (.cells #[.int .i64 (Um.seq4 (Um.timesR al bl) (Um.timesR al bh) (Um.timesR ah bl) (Um.timesR ah bh)).1, .int .i64 (Um.seq4 (Um.timesR al bl) (Um.timesR al bh) (Um.timesR ah bl) (Um.timesR ah bh)).2.1] 29)).alloc (.cells #[.int .i64 x, .int .i64 y] 29) := by
  have q1 := errG
  have q2 := errGn
  have q3 := errE
  have q4 := errN
  have hdr := drewN_alloc
  have v0 := errV_none
  have ia := ix0
  have ib := ix1
  rcases times_res al bl with ⟨k, hk, e0⟩ | ⟨l0, h0, e0, m0, n0⟩
  · have HR : Hid (Um.seq4 (Um.timesR al bl) (Um.timesR al bh) (Um.timesR ah bl) (Um.timesR ah bh) = (0, 0, k)) := hid (by simp [Um.seq4, e0, hk])
    have kk : (k != 0) = true := by simpa using hk
    clear hk 
    generalize Um.seq4 (Um.timesR al bl) (Um.timesR al bh) (Um.timesR ah bl) (Um.timesR ah bh) = R at *
    go_enter Tryz.func86, Tryz.ntmps86
    go_wp2_with (go_at_call 87; refine (times_drew _ _ _).mono ?_; rintro e w1 ⟨rfl, q, rfl⟩)
    repeat (first | (refine wp_loop_rounds 3 ?_) | (rw [rounds_succ]; go_wp2_with (go_at_call 87; refine (times_drew _ _ _).mono ?_; rintro e w1 ⟨rfl, q, rfl⟩)))
    go_returns
    rw [HR.out]
    exact ⟨rfl, _, _, _, rfl⟩
  · skip
    rcases times_res al bh with ⟨k, hk, e1⟩ | ⟨l1, h1, e1, m1, n1⟩
    · have HR : Hid (Um.seq4 (Um.timesR al bl) (Um.timesR al bh) (Um.timesR ah bl) (Um.timesR ah bh) = (0, 0, k)) := hid (by simp [Um.seq4, e1, e0, hk])
      have kk : (k != 0) = true := by simpa using hk
      clear hk m0 n0
      generalize Um.seq4 (Um.timesR al bl) (Um.timesR al bh) (Um.timesR ah bl) (Um.timesR ah bh) = R at *
      go_enter Tryz.func86, Tryz.ntmps86
      go_wp2_with (go_at_call 87; refine (times_drew _ _ _).mono ?_; rintro e w1 ⟨rfl, q, rfl⟩)
      repeat (first | (refine wp_loop_rounds 3 ?_) | (rw [rounds_succ]; go_wp2_with (go_at_call 87; refine (times_drew _ _ _).mono ?_; rintro e w1 ⟨rfl, q, rfl⟩)))
      go_returns
      rw [HR.out]
      exact ⟨rfl, _, _, _, rfl⟩
    · skip
      rcases times_res ah bl with ⟨k, hk, e2⟩ | ⟨l2, h2, e2, m2, n2⟩
      · have HR : Hid (Um.seq4 (Um.timesR al bl) (Um.timesR al bh) (Um.timesR ah bl) (Um.timesR ah bh) = (0, 0, k)) := hid (by simp [Um.seq4, e2, e0, e1, hk])
        have kk : (k != 0) = true := by simpa using hk
        clear hk m0 n0 m1 n1
        generalize Um.seq4 (Um.timesR al bl) (Um.timesR al bh) (Um.timesR ah bl) (Um.timesR ah bh) = R at *
        go_enter Tryz.func86, Tryz.ntmps86
        go_wp2_with (go_at_call 87; refine (times_drew _ _ _).mono ?_; rintro e w1 ⟨rfl, q, rfl⟩)
        repeat (first | (refine wp_loop_rounds 3 ?_) | (rw [rounds_succ]; go_wp2_with (go_at_call 87; refine (times_drew _ _ _).mono ?_; rintro e w1 ⟨rfl, q, rfl⟩)))
        go_returns
        rw [HR.out]
        exact ⟨rfl, _, _, _, rfl⟩
      · skip
        rcases times_res ah bh with ⟨k, hk, e3⟩ | ⟨l3, h3, e3, m3, n3⟩
        · have HR : Hid (Um.seq4 (Um.timesR al bl) (Um.timesR al bh) (Um.timesR ah bl) (Um.timesR ah bh) = (0, 0, k)) := hid (by simp [Um.seq4, e3, e0, e1, e2, hk])
          have kk : (k != 0) = true := by simpa using hk
          clear hk m0 n0 m1 n1 m2 n2
          generalize Um.seq4 (Um.timesR al bl) (Um.timesR al bh) (Um.timesR ah bl) (Um.timesR ah bh) = R at *
          go_enter Tryz.func86, Tryz.ntmps86
          go_wp2_with (go_at_call 87; refine (times_drew _ _ _).mono ?_; rintro e w1 ⟨rfl, q, rfl⟩)
          repeat (first | (refine wp_loop_rounds 3 ?_) | (rw [rounds_succ]; go_wp2_with (go_at_call 87; refine (times_drew _ _ _).mono ?_; rintro e w1 ⟨rfl, q, rfl⟩)))
          go_returns
          rw [HR.out]
          exact ⟨rfl, _, _, _, rfl⟩
        · skip
          have HR : Hid (Um.seq4 (Um.timesR al bl) (Um.timesR al bh) (Um.timesR ah bl) (Um.timesR ah bh) = (Um.mn4 l0 l1 l2 l3, Um.mx4 h0 h1 h2 h3, 0)) := hid (by simp [Um.seq4, e0, e1, e2, e3])
          have b0 := hid ((Um.may_iff l0).1 m0)
          have c0 := hid ((Um.may_iff h0).1 n0)
          have b1 := hid ((Um.may_iff l1).1 m1)
          have c1 := hid ((Um.may_iff h1).1 n1)
          have b2 := hid ((Um.may_iff l2).1 m2)
          have c2 := hid ((Um.may_iff h2).1 n2)
          have b3 := hid ((Um.may_iff l3).1 m3)
          have c3 := hid ((Um.may_iff h3).1 n3)
          clear m0 n0 m1 n1 m2 n2 m3 n3
          generalize Um.seq4 (Um.timesR al bl) (Um.timesR al bh) (Um.timesR ah bl) (Um.timesR ah bh) = R at *
          go_enter Tryz.func86, Tryz.ntmps86
          go_wp2_with (go_at_call 87; refine (times_drew _ _ _).mono ?_; rintro e w1 ⟨rfl, q, rfl⟩)
          repeat (first | (refine wp_loop_rounds 3 ?_) | (rw [rounds_succ]; go_wp2_with (go_at_call 87; refine (times_drew _ _ _).mono ?_; rintro e w1 ⟨rfl, q, rfl⟩)))
          go_returns
          rw [HR.out]
          have b0 := b0.out
          have c0 := c0.out
          have b1 := b1.out
          have c1 := c1.out
          have b2 := b2.out
          have c2 := c2.out
          have b3 := b3.out
          have c3 := c3.out
          have E1 : min 1000000000 (min l0 (min l1 (min l2 l3))) = Um.mn4 l0 l1 l2 l3 := by unfold Um.mn4; omega
          have E2 : max (-1000000000) (max h0 (max h1 (max h2 h3))) = Um.mx4 h0 h1 h2 h3 := by unfold Um.mx4; omega
          rw [E1, E2]
          exact ⟨rfl, _, _, _, rfl⟩
end Go.Proofs.YtkfalmdckmlneaaGreatDoor
namespace Go.Proofs.YtkfalmdckmlneaaGreatDoor
set_option linter.unusedSimpArgs false
open Go.RowKit

set_option maxRecDepth 100000 in
set_option maxHeartbeats 4000000 in
theorem ends_by (al ah bl bh : Int) (w : World) :
    Calls Tryz.prog 86 #[.agg #[.int .i64 al, .int .i64 ah], .agg #[.int .i64 bl, .int .i64 bh], .func (.func 90) #[] #[]] w fun e w' => e = .returned (.tuple #[.agg #[.int .i64 (Um.seq4 (Um.byR al bl) (Um.byR al bh) (Um.byR ah bl) (Um.byR ah bh)).1, .int .i64 (Um.seq4 (Um.byR al bl) (Um.byR al bh) (Um.byR ah bl) (Um.byR ah bh)).2.1], errV (Um.seq4 (Um.byR al bl) (Um.byR al bh) (Um.byR ah bl) (Um.byR ah bh)).2.2]) ∧
      ∃ (q : Nat) (x y : Int), w' = ((((w.drewN q).alloc (.cells #[.int .i64 al, .int .i64 ah] 29)).alloc (.cells #[.int .i64 bl, .int .i64 bh] 29)).alloc (.cells #[.int .i64 (Um.seq4 (Um.byR al bl) (Um.byR al bh) (Um.byR ah bl) (Um.byR ah bh)).1, .int .i64 (Um.seq4 (Um.byR al bl) (Um.byR al bh) (Um.byR ah bl) (Um.byR ah bh)).2.1] 29)).alloc (.cells #[.int .i64 x, .int .i64 y] 29) := by
  have q1 := errG
  have q2 := errGn
  have q3 := errE
  have q4 := errN
  have hdr := drewN_alloc
  have v0 := errV_none
  have ia := ix0
  have ib := ix1
  rcases by_res al bl with ⟨k, hk, e0⟩ | ⟨l0, h0, e0, m0, n0⟩
  · have HR : Hid (Um.seq4 (Um.byR al bl) (Um.byR al bh) (Um.byR ah bl) (Um.byR ah bh) = (0, 0, k)) := hid (by simp [Um.seq4, e0, hk])
    have kk : (k != 0) = true := by simpa using hk
    clear hk 
    generalize Um.seq4 (Um.byR al bl) (Um.byR al bh) (Um.byR ah bl) (Um.byR ah bh) = R at *
    go_enter Tryz.func86, Tryz.ntmps86
    go_wp2_with (go_at_call 90; refine (by_drew _ _ _).mono ?_; rintro e w1 ⟨rfl, q, rfl⟩)
    repeat (first | (refine wp_loop_rounds 3 ?_) | (rw [rounds_succ]; go_wp2_with (go_at_call 90; refine (by_drew _ _ _).mono ?_; rintro e w1 ⟨rfl, q, rfl⟩)))
    go_returns
    rw [HR.out]
    exact ⟨rfl, _, _, _, rfl⟩
  · skip
    rcases by_res al bh with ⟨k, hk, e1⟩ | ⟨l1, h1, e1, m1, n1⟩
    · have HR : Hid (Um.seq4 (Um.byR al bl) (Um.byR al bh) (Um.byR ah bl) (Um.byR ah bh) = (0, 0, k)) := hid (by simp [Um.seq4, e1, e0, hk])
      have kk : (k != 0) = true := by simpa using hk
      clear hk m0 n0
      generalize Um.seq4 (Um.byR al bl) (Um.byR al bh) (Um.byR ah bl) (Um.byR ah bh) = R at *
      go_enter Tryz.func86, Tryz.ntmps86
      go_wp2_with (go_at_call 90; refine (by_drew _ _ _).mono ?_; rintro e w1 ⟨rfl, q, rfl⟩)
      repeat (first | (refine wp_loop_rounds 3 ?_) | (rw [rounds_succ]; go_wp2_with (go_at_call 90; refine (by_drew _ _ _).mono ?_; rintro e w1 ⟨rfl, q, rfl⟩)))
      go_returns
      rw [HR.out]
      exact ⟨rfl, _, _, _, rfl⟩
    · skip
      rcases by_res ah bl with ⟨k, hk, e2⟩ | ⟨l2, h2, e2, m2, n2⟩
      · have HR : Hid (Um.seq4 (Um.byR al bl) (Um.byR al bh) (Um.byR ah bl) (Um.byR ah bh) = (0, 0, k)) := hid (by simp [Um.seq4, e2, e0, e1, hk])
        have kk : (k != 0) = true := by simpa using hk
        clear hk m0 n0 m1 n1
        generalize Um.seq4 (Um.byR al bl) (Um.byR al bh) (Um.byR ah bl) (Um.byR ah bh) = R at *
        go_enter Tryz.func86, Tryz.ntmps86
        go_wp2_with (go_at_call 90; refine (by_drew _ _ _).mono ?_; rintro e w1 ⟨rfl, q, rfl⟩)
        repeat (first | (refine wp_loop_rounds 3 ?_) | (rw [rounds_succ]; go_wp2_with (go_at_call 90; refine (by_drew _ _ _).mono ?_; rintro e w1 ⟨rfl, q, rfl⟩)))
        go_returns
        rw [HR.out]
        exact ⟨rfl, _, _, _, rfl⟩
      · skip
        rcases by_res ah bh with ⟨k, hk, e3⟩ | ⟨l3, h3, e3, m3, n3⟩
        · have HR : Hid (Um.seq4 (Um.byR al bl) (Um.byR al bh) (Um.byR ah bl) (Um.byR ah bh) = (0, 0, k)) := hid (by simp [Um.seq4, e3, e0, e1, e2, hk])
          have kk : (k != 0) = true := by simpa using hk
          clear hk m0 n0 m1 n1 m2 n2
          generalize Um.seq4 (Um.byR al bl) (Um.byR al bh) (Um.byR ah bl) (Um.byR ah bh) = R at *
          go_enter Tryz.func86, Tryz.ntmps86
          go_wp2_with (go_at_call 90; refine (by_drew _ _ _).mono ?_; rintro e w1 ⟨rfl, q, rfl⟩)
          repeat (first | (refine wp_loop_rounds 3 ?_) | (rw [rounds_succ]; go_wp2_with (go_at_call 90; refine (by_drew _ _ _).mono ?_; rintro e w1 ⟨rfl, q, rfl⟩)))
          go_returns
          rw [HR.out]
          exact ⟨rfl, _, _, _, rfl⟩
        · skip
          have HR : Hid (Um.seq4 (Um.byR al bl) (Um.byR al bh) (Um.byR ah bl) (Um.byR ah bh) = (Um.mn4 l0 l1 l2 l3, Um.mx4 h0 h1 h2 h3, 0)) := hid (by simp [Um.seq4, e0, e1, e2, e3])
          have b0 := hid ((Um.may_iff l0).1 m0)
          have c0 := hid ((Um.may_iff h0).1 n0)
          have b1 := hid ((Um.may_iff l1).1 m1)
          have c1 := hid ((Um.may_iff h1).1 n1)
          have b2 := hid ((Um.may_iff l2).1 m2)
          have c2 := hid ((Um.may_iff h2).1 n2)
          have b3 := hid ((Um.may_iff l3).1 m3)
          have c3 := hid ((Um.may_iff h3).1 n3)
          clear m0 n0 m1 n1 m2 n2 m3 n3
          generalize Um.seq4 (Um.byR al bl) (Um.byR al bh) (Um.byR ah bl) (Um.byR ah bh) = R at *
          go_enter Tryz.func86, Tryz.ntmps86
          go_wp2_with (go_at_call 90; refine (by_drew _ _ _).mono ?_; rintro e w1 ⟨rfl, q, rfl⟩)
          repeat (first | (refine wp_loop_rounds 3 ?_) | (rw [rounds_succ]; go_wp2_with (go_at_call 90; refine (by_drew _ _ _).mono ?_; rintro e w1 ⟨rfl, q, rfl⟩)))
          go_returns
          rw [HR.out]
          have b0 := b0.out
          have c0 := c0.out
          have b1 := b1.out
          have c1 := c1.out
          have b2 := b2.out
          have c2 := c2.out
          have b3 := b3.out
          have c3 := c3.out
          have E1 : min 1000000000 (min l0 (min l1 (min l2 l3))) = Um.mn4 l0 l1 l2 l3 := by unfold Um.mn4; omega
          have E2 : max (-1000000000) (max h0 (max h1 (max h2 h3))) = Um.mx4 h0 h1 h2 h3 := by unfold Um.mx4; omega
          rw [E1, E2]
          exact ⟨rfl, _, _, _, rfl⟩
end Go.Proofs.YtkfalmdckmlneaaGreatDoor
namespace Go.Proofs.YtkfalmdckmlneaaGreatDoor
set_option linter.unusedSimpArgs false
open Go.RowKit

set_option maxHeartbeats 1000000 in
theorem stimes_any (al ah bl bh : Int) (w : World) :
    Calls Tryz.prog 59 #[.agg #[.int .i64 al, .int .i64 ah], .agg #[.int .i64 bl, .int .i64 bh]] w fun e w' => e = .returned (.tuple #[.agg #[.int .i64 (Um.made (Um.stimesR al ah bl bh) al ah bl bh).1, .int .i64 (Um.made (Um.stimesR al ah bl bh) al ah bl bh).2.1], errV (Um.made (Um.stimesR al ah bl bh) al ah bl bh).2.2]) ∧ Below w.heap.size w w' := by
  have q1 := errG
  have q2 := errGn
  have q3 := errE
  have q4 := errN
  have hmf : ∀ (fn : Fn) (first cap : Array Value) (w : World), (Instr.makeFunc fn first cap).run Tryz.prog w = .ok (.func fn first cap) w := fun _ _ _ _ => rfl
  by_cases h1 : Um.chk al ah = 0
  · by_cases h2 : Um.chk bl bh = 0
    · have HM := hid (Um.made_good (R := Um.stimesR al ah bl bh) h1 h2)
      have k1 : (Um.chk al ah != 0) = false := by simpa using h1
      have k2 : (Um.chk bl bh != 0) = false := by simpa using h2
      obtain ⟨m1, m2, m3⟩ := Um.chk_ok.1 h1
      obtain ⟨m4, m5, m6⟩ := Um.chk_ok.1 h2
      have HCA := fun w {b : Nat} (hb : b = w.heap.size) => hid (checkTwo_good al ah bl bh w hb h1 h2)
      clear h1 h2
      generalize Um.made (Um.stimesR al ah bl bh) al ah bl bh = M at *
      have HR := hid (Um.stimes_seq m1 m2 m4 m5)
      clear m1 m2 m3 m4 m5 m6
      have hdr := drewN_alloc
      generalize Um.stimesR al ah bl bh = R at *
      go_enter Tryz.func59, Tryz.ntmps59
      go_wp2_with (first | (go_at_call 113; refine (HCA _ (by simp)).out.mono ?_; rintro e w1 ⟨rfl, rfl⟩) | (go_at_call 86; refine (ends_times _ _ _ _ _).mono ?_; rintro e w1 ⟨rfl, q, x, y, rfl⟩) | go_in)
      go_returns
      rw [HM.out, ← HR.out]
      exact ⟨rfl, by go_grown; exact below_drewN (Below.refl _ _) _⟩
    · have HM := hid (Um.made_second (R := Um.stimesR al ah bl bh) h1 h2)
      have k1 : (Um.chk al ah != 0) = false := by simpa using h1
      have k2 : (Um.chk bl bh != 0) = true := by simpa using h2
      have HCA := fun w {b : Nat} (hb : b = w.heap.size) => hid (checkTwo_second al ah bl bh w hb h1 h2)
      clear h1 h2
      generalize Um.made (Um.stimesR al ah bl bh) al ah bl bh = M at *
      go_enter Tryz.func59, Tryz.ntmps59
      go_wp2_with (first | (go_at_call 113; refine (HCA _ (by simp)).out.mono ?_; rintro e w1 ⟨rfl, rfl⟩) | go_in)
      go_returns
      rw [HM.out]
      exact ⟨rfl, by go_grown⟩
  · have HM := hid (Um.made_first (R := Um.stimesR al ah bl bh) (bl := bl) (bh := bh) h1)
    have k1 : (Um.chk al ah != 0) = true := by simpa using h1
    have HCA := fun w {b : Nat} (hb : b = w.heap.size) => hid (checkTwo_first al ah bl bh w hb h1)
    clear h1
    generalize Um.made (Um.stimesR al ah bl bh) al ah bl bh = M at *
    go_enter Tryz.func59, Tryz.ntmps59
    go_wp2_with (first | (go_at_call 113; refine (HCA _ (by simp)).out.mono ?_; rintro e w1 ⟨rfl, rfl⟩) | go_in)
    go_returns
    rw [HM.out]
    exact ⟨rfl, by go_grown⟩
end Go.Proofs.YtkfalmdckmlneaaGreatDoor
namespace Go.Proofs.YtkfalmdckmlneaaGreatDoor
set_option linter.unusedSimpArgs false
open Go.RowKit

set_option maxHeartbeats 1000000 in
theorem sby_any (al ah bl bh : Int) (w : World) :
    Calls Tryz.prog 60 #[.agg #[.int .i64 al, .int .i64 ah], .agg #[.int .i64 bl, .int .i64 bh]] w fun e w' => e = .returned (.tuple #[.agg #[.int .i64 (Um.made (Um.sbyR al ah bl bh) al ah bl bh).1, .int .i64 (Um.made (Um.sbyR al ah bl bh) al ah bl bh).2.1], errV (Um.made (Um.sbyR al ah bl bh) al ah bl bh).2.2]) ∧ Below w.heap.size w w' := by
  have q1 := errG
  have q2 := errGn
  have q3 := errE
  have q4 := errN
  have hmf : ∀ (fn : Fn) (first cap : Array Value) (w : World), (Instr.makeFunc fn first cap).run Tryz.prog w = .ok (.func fn first cap) w := fun _ _ _ _ => rfl
  by_cases h1 : Um.chk al ah = 0
  · by_cases h2 : Um.chk bl bh = 0
    · have HM := hid (Um.made_good (R := Um.sbyR al ah bl bh) h1 h2)
      have k1 : (Um.chk al ah != 0) = false := by simpa using h1
      have k2 : (Um.chk bl bh != 0) = false := by simpa using h2
      obtain ⟨m1, m2, m3⟩ := Um.chk_ok.1 h1
      obtain ⟨m4, m5, m6⟩ := Um.chk_ok.1 h2
      have HCA := fun w {b : Nat} (hb : b = w.heap.size) => hid (checkTwo_good al ah bl bh w hb h1 h2)
      clear h1 h2
      generalize Um.made (Um.sbyR al ah bl bh) al ah bl bh = M at *
      have hdr := drewN_alloc
      by_cases hz : bl ≤ 0 ∧ 0 ≤ bh
      · have HR : Hid (Um.sbyR al ah bl bh = (0, 0, 8)) := hid (by unfold Um.sbyR; rw [if_pos hz])
        have z1 : (decide (bl ≤ 0) && decide (0 ≤ bh)) = true := by simp [hz.1, hz.2]
        clear m1 m2 m3 m4 m5 m6 hz
        generalize Um.sbyR al ah bl bh = R at *
        go_enter Tryz.func60, Tryz.ntmps60
        go_wp2_with (first | (go_at_call 113; refine (HCA _ (by simp)).out.mono ?_; rintro e w1 ⟨rfl, rfl⟩) | (go_at_call 89; refine (has_any _ _ _ _).mono ?_; rintro e w1 ⟨rfl, rfl⟩) | go_in)
        go_returns
        rw [HM.out, HR.out]
        exact ⟨rfl, by go_grown⟩
      · have HR := hid (Um.sby_seq m1 m2 m4 m5 m6 hz)
        have z1 : (decide (bl ≤ 0) && decide (0 ≤ bh)) = false := by
          rcases (by omega : ¬ bl ≤ 0 ∨ ¬ 0 ≤ bh) with h | h <;> simp [h]
        clear m1 m2 m3 m4 m5 m6 hz
        generalize Um.sbyR al ah bl bh = R at *
        go_enter Tryz.func60, Tryz.ntmps60
        go_wp2_with (first | (go_at_call 113; refine (HCA _ (by simp)).out.mono ?_; rintro e w1 ⟨rfl, rfl⟩) | (go_at_call 89; refine (has_any _ _ _ _).mono ?_; rintro e w1 ⟨rfl, rfl⟩) | (go_at_call 86; refine (ends_by _ _ _ _ _).mono ?_; rintro e w1 ⟨rfl, q, x, y, rfl⟩) | go_in)
        go_returns
        rw [HM.out, ← HR.out]
        exact ⟨rfl, by go_grown; exact below_drewN (Below.refl _ _) _⟩
    · have HM := hid (Um.made_second (R := Um.sbyR al ah bl bh) h1 h2)
      have k1 : (Um.chk al ah != 0) = false := by simpa using h1
      have k2 : (Um.chk bl bh != 0) = true := by simpa using h2
      have HCA := fun w {b : Nat} (hb : b = w.heap.size) => hid (checkTwo_second al ah bl bh w hb h1 h2)
      clear h1 h2
      generalize Um.made (Um.sbyR al ah bl bh) al ah bl bh = M at *
      go_enter Tryz.func60, Tryz.ntmps60
      go_wp2_with (first | (go_at_call 113; refine (HCA _ (by simp)).out.mono ?_; rintro e w1 ⟨rfl, rfl⟩) | go_in)
      go_returns
      rw [HM.out]
      exact ⟨rfl, by go_grown⟩
  · have HM := hid (Um.made_first (R := Um.sbyR al ah bl bh) (bl := bl) (bh := bh) h1)
    have k1 : (Um.chk al ah != 0) = true := by simpa using h1
    have HCA := fun w {b : Nat} (hb : b = w.heap.size) => hid (checkTwo_first al ah bl bh w hb h1)
    clear h1
    generalize Um.made (Um.sbyR al ah bl bh) al ah bl bh = M at *
    go_enter Tryz.func60, Tryz.ntmps60
    go_wp2_with (first | (go_at_call 113; refine (HCA _ (by simp)).out.mono ?_; rintro e w1 ⟨rfl, rfl⟩) | go_in)
    go_returns
    rw [HM.out]
    exact ⟨rfl, by go_grown⟩
end Go.Proofs.YtkfalmdckmlneaaGreatDoor
