/-
  What the document's answer (package spanref1) to spans is: Two, Add, Less; Times and By in the words of the arithmetic of spans.
-/
import Derived.Test.YtfmjndipanlcoaaDoorRefBy
import Derived.Test.YtfmjndipanlcoaaDoorRefTimes
import Derived.Test.YtfmjndipanlcoaaDoorRefOne
namespace Go.Proofs.YtfmjndipanlcoaaDoor
set_option linter.unusedSimpArgs false
open Go.RowKit

theorem rTwo_any (al ah bl bh : Int) (w : World) :
    Calls Tryd.prog 11 #[.agg #[.int .i64 al, .int .i64 ah], .agg #[.int .i64 bl, .int .i64 bh]] w fun e w' => e = .returned (.int .i64 (Um.two al ah bl bh)) ∧ Below w.heap.size w w' := by
  by_cases h : Um.chk al ah = 0
  · have HR : Hid (Um.two al ah bl bh = Um.chk bl bh) := hid (by unfold Um.two; rw [if_pos h])
    have h' : (Um.chk al ah == 0) = true := by simpa using h
    clear h
    go_enter Tryd.func11, Tryd.ntmps11
    go_wp2_with (go_at_call 8; refine (rSpan_any _ _ _).mono ?_; rintro e w1 ⟨rfl, rfl⟩)
    go_returns
    rw [HR.out]
    exact ⟨rfl, by go_grown⟩
  · have HR : Hid (Um.two al ah bl bh = Um.chk al ah) := hid (by unfold Um.two; rw [if_neg h])
    have h' : (Um.chk al ah == 0) = false := by simpa using h
    clear h
    go_enter Tryd.func11, Tryd.ntmps11
    go_wp2_with (go_at_call 8; refine (rSpan_any _ _ _).mono ?_; rintro e w1 ⟨rfl, rfl⟩)
    go_returns
    rw [HR.out]
    exact ⟨rfl, by go_grown⟩

theorem rAdd_any (al ah bl bh : Int) (w : World) (h1 : Um.may al = true) (h2 : Um.may ah = true) (h3 : Um.may bl = true) (h4 : Um.may bh = true) :
    Calls Tryd.prog 12 #[.agg #[.int .i64 al, .int .i64 ah], .agg #[.int .i64 bl, .int .i64 bh]] w fun e w' => e = .returned (.tuple #[.agg #[.int .i64 (Um.addR al ah bl bh).1, .int .i64 (Um.addR al ah bl bh).2.1], .int .i64 (Um.addR al ah bl bh).2.2]) ∧ Below w.heap.size w w' := by
  obtain ⟨a1, a2⟩ := (Um.may_iff al).1 h1
  obtain ⟨a3, a4⟩ := (Um.may_iff ah).1 h2
  obtain ⟨a5, a6⟩ := (Um.may_iff bl).1 h3
  obtain ⟨a7, a8⟩ := (Um.may_iff bh).1 h4
  clear h1 h2 h3 h4
  have HR : Hid (Um.addR al ah bl bh = fitR (al + bl) (ah + bh)) := rfl
  generalize Um.addR al ah bl bh = R at *
  go_enter Tryd.func12, Tryd.ntmps12
  go_wp2_with (go_at_call 47; refine (rFits_any _ _ _).mono ?_; rintro e w1 ⟨rfl, rfl⟩)
  go_returns
  rw [HR.out]
  exact ⟨rfl, by go_grown⟩
theorem rLess_any (al ah bl bh : Int) (w : World) (h1 : Um.may al = true) (h2 : Um.may ah = true) (h3 : Um.may bl = true) (h4 : Um.may bh = true) :
    Calls Tryd.prog 13 #[.agg #[.int .i64 al, .int .i64 ah], .agg #[.int .i64 bl, .int .i64 bh]] w fun e w' => e = .returned (.tuple #[.agg #[.int .i64 (Um.lessR al ah bl bh).1, .int .i64 (Um.lessR al ah bl bh).2.1], .int .i64 (Um.lessR al ah bl bh).2.2]) ∧ Below w.heap.size w w' := by
  obtain ⟨a1, a2⟩ := (Um.may_iff al).1 h1
  obtain ⟨a3, a4⟩ := (Um.may_iff ah).1 h2
  obtain ⟨a5, a6⟩ := (Um.may_iff bl).1 h3
  obtain ⟨a7, a8⟩ := (Um.may_iff bh).1 h4
  clear h1 h2 h3 h4
  have HR : Hid (Um.lessR al ah bl bh = fitR (al - bh) (ah - bl)) := rfl
  generalize Um.lessR al ah bl bh = R at *
  go_enter Tryd.func13, Tryd.ntmps13
  go_wp2_with (go_at_call 47; refine (rFits_any _ _ _).mono ?_; rintro e w1 ⟨rfl, rfl⟩)
  go_returns
  rw [HR.out]
  exact ⟨rfl, by go_grown⟩
theorem stimes_is (al ah bl bh : Int) : spanTimesR al ah bl bh = Um.stimesR al ah bl bh := rfl
theorem sby_is (al ah bl bh : Int) : spanByAll al ah bl bh = Um.sbyR al ah bl bh := rfl

theorem rTimes_um (al ah bl bh : Int) (w : World) (h1 : Um.may al = true) (h2 : Um.may ah = true) (h3 : Um.may bl = true) (h4 : Um.may bh = true) :
    Calls Tryd.prog 14 #[.agg #[.int .i64 al, .int .i64 ah], .agg #[.int .i64 bl, .int .i64 bh]] w fun e w' => e = .returned (.tuple #[.agg #[.int .i64 (Um.stimesR al ah bl bh).1, .int .i64 (Um.stimesR al ah bl bh).2.1], .int .i64 (Um.stimesR al ah bl bh).2.2]) ∧ Below w.heap.size w w' := by
  rw [← stimes_is]; exact rTimes_any al ah bl bh w h1 h2 h3 h4
theorem rBy_um (al ah bl bh : Int) (w : World) (h1 : Um.may al = true) (h2 : Um.may ah = true) (h5 : Um.may bl = true) (hb : bl ≤ bh) :
    Calls Tryd.prog 15 #[.agg #[.int .i64 al, .int .i64 ah], .agg #[.int .i64 bl, .int .i64 bh]] w fun e w' => e = .returned (.tuple #[.agg #[.int .i64 (Um.sbyR al ah bl bh).1, .int .i64 (Um.sbyR al ah bl bh).2.1], .int .i64 (Um.sbyR al ah bl bh).2.2]) ∧ Below w.heap.size w w' := by
  rw [← sby_is]; exact rBy_any al ah bl bh w h1 h2 h5 hb

end Go.Proofs.YtfmjndipanlcoaaDoor
