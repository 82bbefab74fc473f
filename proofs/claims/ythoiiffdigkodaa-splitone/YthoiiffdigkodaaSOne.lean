/-
  The walk over 'spanlaw4.SplitOne': for all p, x it returns true.
-/
import Derived.Test.YthoiiffdigkodaaSplit
namespace Go.Proofs.Ythoiiffdigkodaa.SOne
set_option linter.unusedSimpArgs false
open Go.RowKit

set_option maxRecDepth 100000 in
set_option maxHeartbeats 8000000 in
theorem walk_wrong (p : List Int) (v : Value) (lo hi : Int) (w : World) (hl : Li w.heap.size w v p) (h : ¬ Um.chk lo hi = 0) :
    Calls Try.prog 4 #[v, .agg #[.int .i64 lo, .int .i64 hi]] w fun e w' => e = .returned (.bool true) ∧ Below w.heap.size w w' := by
  have v0 := errV_none
  have q1 := errG
  have q2 := errGn
  have q3 := errE
  have q4 := errN
  have HI := fun w => hid (pieces_any lo hi 1 w)
  have HC := fun w => hid (check_any lo hi w)
  rw [Um.pie_not h] at HI
  have k : (Um.chk lo hi != 0) = true := by simpa using h
  clear h
  generalize Um.chk lo hi = G at *
  generalize Um.pieR lo hi 1 = l at *
  have hF := (Fr.start w).push lo hi rfl
  have x0l := (hF.at 0 rfl).lo
  have x0h := (hF.at 0 rfl).hi
  obtain ⟨a0, cap0, rfl, -⟩ := (id hl)
  go_enter Try.func4, Try.ntmps4
  go_wp2_with (first | (go_at_call 7; refine (HI _).out.mono ?_; rintro e wn ⟨u, rfl, hs, hb⟩; replace hF := hF.step hb; clear hb; clear x0l x0h; obtain ⟨a1, cap1, rfl, -⟩ := (id hs); have x0l := (hF.at 0 rfl).lo; have x0h := (hF.at 0 rfl).hi) | (go_at_call 11; refine (HC _).out.mono ?_; rintro e wn ⟨rfl, rfl⟩; ))
  go_returns
  exact ⟨rfl, (hF.alloc _).below⟩

set_option maxRecDepth 100000 in
set_option maxHeartbeats 8000000 in
theorem walk_right (p : List Int) (v : Value) (lo hi : Int) (w : World) (hl : Li w.heap.size w v p) (h : Um.chk lo hi = 0) :
    Calls Try.prog 4 #[v, .agg #[.int .i64 lo, .int .i64 hi]] w fun e w' => e = .returned (.bool true) ∧ Below w.heap.size w w' := by
  have v0 := errV_none
  have q1 := errG
  have q2 := errGn
  have q3 := errE
  have q4 := errN
  have HI := fun w => hid (pieces_any lo hi 1 w)
  rw [(Um.pie_one h).1, (Um.pie_one h).2] at HI
  have HS := fun w hl => hid (srange_any p v lo hi 1 w hl)
  rw [Um.split_one] at HS
  have HM := fun w hl => hid (mrange_any p v lo hi w hl)
  clear h
  generalize Um.monoAll p lo hi = M at *
  have hF := (Fr.start w).push lo hi rfl
  have x0l := (hF.at 0 rfl).lo
  have x0h := (hF.at 0 rfl).hi
  obtain ⟨a0, cap0, rfl, -⟩ := (id hl)
  go_enter Try.func4, Try.ntmps4
  go_wp2_with (first | (go_at_call 7; refine (HI _).out.mono ?_; rintro e wn ⟨u, rfl, hs, hb⟩; replace hF := hF.step hb; clear hb; clear x0l x0h; obtain ⟨b, off, cap, rfl, hcap, hA⟩ := hs.open (by simp); have x0l := (hF.at 0 rfl).lo; have x0h := (hF.at 0 rfl).hi) | (go_at_call 10; refine (HS _ (hF.li hl)).out.mono ?_; rintro e wn ⟨rfl, hb⟩; replace hF := hF.step hb; replace hA := hA.step hb; clear hb; clear x0l x0h; replace hF := hF.push M.1 M.2.1 rfl; replace hA := hA.alloc (.cells #[.int .i64 M.1, .int .i64 M.2.1] 24); have x1l := (hF.at 1 rfl).lo; have x1h := (hF.at 1 rfl).hi) | (go_at_call 12; refine (HM _ (hF.li hl)).out.mono ?_; rintro e wn ⟨rfl, hb⟩; replace hF := hF.step hb; replace hA := hA.step hb; clear hb; clear x1l x1h; replace hF := hF.push M.1 M.2.1 rfl; replace hA := hA.alloc (.cells #[.int .i64 M.1, .int .i64 M.2.1] 24); have x0l := (hF.at 0 rfl).lo; have x0h := (hF.at 0 rfl).hi; have x1l := (hF.at 1 rfl).lo; have x1h := (hF.at 1 rfl).hi; have x2l := (hF.at 2 rfl).lo; have x2h := (hF.at 2 rfl).hi; have z0 := hA.lo 0 rfl (o := off) rfl; have z1 := hA.hi 0 rfl (o := off + 1) rfl))
  go_quiet (fail)
  go_wp2
  go_returns
  exact ⟨rfl, below_drewN hF.below _⟩

theorem walk (p : List Int) (v : Value) (lo hi : Int) (w : World) (hl : Li w.heap.size w v p) :
    Calls Try.prog 4 #[v, .agg #[.int .i64 lo, .int .i64 hi]] w fun e w' => e = .returned (.bool true) ∧ Below w.heap.size w w' := by
  by_cases h : Um.chk lo hi = 0
  · exact walk_right p v lo hi w hl h
  · exact walk_wrong p v lo hi w hl h
end Go.Proofs.Ythoiiffdigkodaa.SOne
