/-
  What package root answers: May, Sure, at every argument.
-/
import Derived.Test.YthebaldogelhlaaDoorMono
import Derived.Test.YthebaldogelhlaaDoorMaths
namespace Go.Proofs.YthebaldogelhlaaDoor
set_option linter.unusedSimpArgs false
open Go.RowKit

set_option maxHeartbeats 4000000 in
theorem may_any (p : List Int) (v : Value) (lo hi : Int) (w : World) (hl : Li w.heap.size w v p) :
    Calls Tryd.prog 65 #[v, .agg #[.int .i64 lo, .int .i64 hi]] w fun e w' => e = .returned (.tuple #[.bool (Um.mayB p lo hi), errV (Um.monoAll p lo hi).2.2]) ∧ Below w.heap.size w w' := by
  have v0 := errV_none
  have q1 := errG
  have q2 := errGn
  have q3 := errE
  have q4 := errN
  have HM := fun w hl => hid (mrange_any p v lo hi w hl)
  have hF := (Fr.start w).push lo hi rfl
  have x0l := (hF.at 0 rfl).lo
  have x0h := (hF.at 0 rfl).hi
  have HX : Hid (Um.mayB p lo hi = (decide ((Um.monoAll p lo hi).2.2 = 0) && (decide ((Um.monoAll p lo hi).1 ≤ 0) && decide (0 ≤ (Um.monoAll p lo hi).2.1)))) := hid rfl
  generalize Um.mayB p lo hi = B at *
  generalize Um.monoAll p lo hi = M at *
  by_cases h : M.2.2 = 0
  · have k : (M.2.2 != 0) = false := by simpa using h
    have HZ := hid h
    clear h
    obtain ⟨a0, cap0, rfl, -⟩ := (id hl)
    go_enter Tryd.func65, Tryd.ntmps65
    go_wp2_with (first | (go_at_call 17; refine (HM _ (hF.li hl)).out.mono ?_; rintro e wn ⟨rfl, hb⟩; replace hF := hF.step hb; clear hb; clear x0l x0h; replace hF := hF.push M.1 M.2.1 rfl; have x0l := (hF.at 0 rfl).lo; have x0h := (hF.at 0 rfl).hi) | (go_at_call 71; refine (has_any _ _ _ _).mono ?_; rintro e wa ⟨rfl, rfl⟩))
    go_returns
    rw [HX.out, HZ.out]
    exact ⟨rfl, (hF.alloc _).below⟩
  · have k : (M.2.2 != 0) = true := by simpa using h
    have HZ : Hid (decide (M.2.2 = 0) = false) := hid (by simpa using h)
    clear h
    obtain ⟨a0, cap0, rfl, -⟩ := (id hl)
    go_enter Tryd.func65, Tryd.ntmps65
    go_wp2_with (first | (go_at_call 17; refine (HM _ (hF.li hl)).out.mono ?_; rintro e wn ⟨rfl, hb⟩; replace hF := hF.step hb; clear hb; clear x0l x0h))
    go_returns
    rw [HX.out, HZ.out]
    exact ⟨rfl, (hF.alloc _).below⟩

end Go.Proofs.YthebaldogelhlaaDoor
