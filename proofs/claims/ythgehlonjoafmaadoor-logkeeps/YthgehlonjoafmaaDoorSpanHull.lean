/-
  What package span answers: Hull, Meet, at every argument.
-/
import Derived.Test.YthgehlonjoafmaaDoorSpan
namespace Go.Proofs.YthgehlonjoafmaaDoor
set_option linter.unusedSimpArgs false
open Go.RowKit

set_option maxHeartbeats 1000000 in
theorem hull_any (al ah bl bh : Int) (w : World) :
    Calls Tryd.prog 39 #[.agg #[.int .i64 al, .int .i64 ah], .agg #[.int .i64 bl, .int .i64 bh]] w fun e w' => e = .returned (.tuple #[.agg #[.int .i64 (Um.made (Um.hullR al ah bl bh) al ah bl bh).1, .int .i64 (Um.made (Um.hullR al ah bl bh) al ah bl bh).2.1], errV (Um.made (Um.hullR al ah bl bh) al ah bl bh).2.2]) ∧ Below w.heap.size w w' := by
  have q1 := errG
  have q2 := errGn
  have q3 := errE
  have q4 := errN
  have hmf : ∀ (fn : Fn) (first cap : Array Value) (w : World), (Instr.makeFunc fn first cap).run Tryd.prog w = .ok (.func fn first cap) w := fun _ _ _ _ => rfl
  by_cases h1 : Um.chk al ah = 0
  · by_cases h2 : Um.chk bl bh = 0
    · have HM := hid (Um.made_good (R := Um.hullR al ah bl bh) h1 h2)
      have k1 : (Um.chk al ah != 0) = false := by simpa using h1
      have k2 : (Um.chk bl bh != 0) = false := by simpa using h2
      obtain ⟨m1, m2, m3⟩ := Um.chk_ok.1 h1
      obtain ⟨m4, m5, m6⟩ := Um.chk_ok.1 h2
      have HCA := fun w {b : Nat} (hb : b = w.heap.size) => hid (checkTwo_good al ah bl bh w hb h1 h2)
      clear h1 h2
      generalize Um.made (Um.hullR al ah bl bh) al ah bl bh = M at *
      clear m1 m2 m3 m4 m5 m6
      have HR : Hid (Um.hullR al ah bl bh = (min al bl, max ah bh, 0)) := rfl
      generalize Um.hullR al ah bl bh = R at *
      go_enter Tryd.func39, Tryd.ntmps39
      go_wp2_with (first | (go_at_call 28; refine (HCA _ (by simp)).out.mono ?_; rintro e w1 ⟨rfl, rfl⟩) | go_in)
      go_returns
      rw [HM.out, HR.out]
      exact ⟨rfl, by go_grown⟩
    · have HM := hid (Um.made_second (R := Um.hullR al ah bl bh) h1 h2)
      have k1 : (Um.chk al ah != 0) = false := by simpa using h1
      have k2 : (Um.chk bl bh != 0) = true := by simpa using h2
      have HCA := fun w {b : Nat} (hb : b = w.heap.size) => hid (checkTwo_second al ah bl bh w hb h1 h2)
      clear h1 h2
      generalize Um.made (Um.hullR al ah bl bh) al ah bl bh = M at *
      go_enter Tryd.func39, Tryd.ntmps39
      go_wp2_with (first | (go_at_call 28; refine (HCA _ (by simp)).out.mono ?_; rintro e w1 ⟨rfl, rfl⟩) | go_in)
      go_returns
      rw [HM.out]
      exact ⟨rfl, by go_grown⟩
  · have HM := hid (Um.made_first (R := Um.hullR al ah bl bh) (bl := bl) (bh := bh) h1)
    have k1 : (Um.chk al ah != 0) = true := by simpa using h1
    have HCA := fun w {b : Nat} (hb : b = w.heap.size) => hid (checkTwo_first al ah bl bh w hb h1)
    clear h1
    generalize Um.made (Um.hullR al ah bl bh) al ah bl bh = M at *
    go_enter Tryd.func39, Tryd.ntmps39
    go_wp2_with (first | (go_at_call 28; refine (HCA _ (by simp)).out.mono ?_; rintro e w1 ⟨rfl, rfl⟩) | go_in)
    go_returns
    rw [HM.out]
    exact ⟨rfl, by go_grown⟩

end Go.Proofs.YthgehlonjoafmaaDoor
