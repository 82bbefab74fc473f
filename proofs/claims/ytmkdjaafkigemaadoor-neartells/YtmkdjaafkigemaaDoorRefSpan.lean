/-
  What the document's answer (package spanref1) to spans is: Two, Add, Less; Times and By in the words of the arithmetic of spans.
-/
import Derived.Test.YtmkdjaafkigemaaDoorRefTimes
import Derived.Test.YtmkdjaafkigemaaDoorRefOne
namespace Go.Proofs.YtmkdjaafkigemaaDoor
set_option linter.unusedSimpArgs false
open Go.RowKit

theorem rAdd_any (al ah bl bh : Int) (w : World) (h1 : Um.may al = true) (h2 : Um.may ah = true) (h3 : Um.may bl = true) (h4 : Um.may bh = true) :
    Calls Tryd.prog 23 #[.agg #[.int .i64 al, .int .i64 ah], .agg #[.int .i64 bl, .int .i64 bh]] w fun e w' => e = .returned (.tuple #[.agg #[.int .i64 (Um.addR al ah bl bh).1, .int .i64 (Um.addR al ah bl bh).2.1], .int .i64 (Um.addR al ah bl bh).2.2]) ∧ Below w.heap.size w w' := by
  obtain ⟨a1, a2⟩ := (Um.may_iff al).1 h1
  obtain ⟨a3, a4⟩ := (Um.may_iff ah).1 h2
  obtain ⟨a5, a6⟩ := (Um.may_iff bl).1 h3
  obtain ⟨a7, a8⟩ := (Um.may_iff bh).1 h4
  clear h1 h2 h3 h4
  have HR : Hid (Um.addR al ah bl bh = fitR (al + bl) (ah + bh)) := rfl
  generalize Um.addR al ah bl bh = R at *
  go_enter Tryd.func23, Tryd.ntmps23
  go_wp2_with (go_at_call 36; refine (rFits_any _ _ _).mono ?_; rintro e w1 ⟨rfl, rfl⟩)
  go_returns
  rw [HR.out]
  exact ⟨rfl, by go_grown⟩
theorem stimes_is (al ah bl bh : Int) : spanTimesR al ah bl bh = Um.stimesR al ah bl bh := rfl
theorem rTimes_um (al ah bl bh : Int) (w : World) (h1 : Um.may al = true) (h2 : Um.may ah = true) (h3 : Um.may bl = true) (h4 : Um.may bh = true) :
    Calls Tryd.prog 31 #[.agg #[.int .i64 al, .int .i64 ah], .agg #[.int .i64 bl, .int .i64 bh]] w fun e w' => e = .returned (.tuple #[.agg #[.int .i64 (Um.stimesR al ah bl bh).1, .int .i64 (Um.stimesR al ah bl bh).2.1], .int .i64 (Um.stimesR al ah bl bh).2.2]) ∧ Below w.heap.size w w' := by
  rw [← stimes_is]; exact rTimes_any al ah bl bh w h1 h2 h3 h4
end Go.Proofs.YtmkdjaafkigemaaDoor
