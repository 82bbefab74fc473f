/-
  The walk over 'spanlaw1.CenterHas': for all p, x, n it returns true.
-/
import Derived.Test.YtfmjndipanlcoaaCenter
import Derived.Test.YtfmjndipanlcoaaRefVal
namespace Go.Proofs.Ytfmjndipanlcoaa.CHas
set_option linter.unusedSimpArgs false
open Go.RowKit

theorem fact : Um.slopeAll [0, 0, 1000] 1000 2000 = (2000, 4000, 0) := by decide +kernel
/-- What the best of three is, where it is told. -/
theorem right {p : List Int} {lo hi : Int} (h : (Um.bestAll p lo hi).2.2 = 0) : (Um.centAll p lo hi).2.2 = 0 ∧ (Um.hornAll p lo hi).2.2 = 0 ∧ (Um.powsAll p lo hi).2.2 = 0 ∧
    (Um.centAll p lo hi).1 ≤ (Um.bestAll p lo hi).1 ∧ (Um.bestAll p lo hi).2.1 ≤ (Um.centAll p lo hi).2.1 ∧ (Um.hornAll p lo hi).1 ≤ (Um.bestAll p lo hi).1 ∧ (Um.bestAll p lo hi).2.1 ≤ (Um.hornAll p lo hi).2.1 ∧
    (Um.powsAll p lo hi).1 ≤ (Um.bestAll p lo hi).1 ∧ (Um.bestAll p lo hi).2.1 ≤ (Um.powsAll p lo hi).2.1 ∧ (Um.bestAll p lo hi).1 ≤ (Um.bestAll p lo hi).2.1 := by
  unfold Um.bestAll Um.hornAll Um.centAll Um.powsAll at *
  by_cases ho : Um.over p lo hi = 0
  · rw [if_pos ho] at h
    rw [if_pos ho, if_pos ho, if_pos ho, if_pos ho]
    obtain ⟨h1, h2, h3, e⟩ := Um.best_ok h
    have m := (Um.best_meets ho h1 h2).2 h3
    refine ⟨h3, h1, h2, ?_⟩
    rw [e]
    simp only []
    omega
  · rw [if_neg ho] at h; exact absurd h ho
/-- What it is is in the best of three, and in the range from the middle. -/
theorem value {p : List Int} {lo hi n : Int} (h : (Um.bestAll p lo hi).2.2 = 0) (h1 : lo ≤ n) (h2 : n ≤ hi) :
    (Um.bestAll p lo hi).1 ≤ Um.fl (Um.exN n p p.length) 1000000000000 ∧ Um.ce (Um.exN n p p.length) 1000000000000 ≤ (Um.bestAll p lo hi).2.1 ∧
    (Um.centAll p lo hi).1 ≤ Um.fl (Um.exN n p p.length) 1000000000000 ∧ Um.ce (Um.exN n p p.length) 1000000000000 ≤ (Um.centAll p lo hi).2.1 := by
  unfold Um.bestAll Um.centAll at *
  by_cases ho : Um.over p lo hi = 0
  · rw [if_pos ho] at h ⊢
    rw [if_pos ho]
    obtain ⟨hp, hc⟩ := Um.over_ok.1 ho
    have hp' := Um.pchk_ok.1 hp
    obtain ⟨k1, k2, k3, e⟩ := Um.best_ok h
    have a := Um.horn_value hp'.1 hp'.2.1 h1 h2 k1
    have b := Um.pows_value hc hp'.2.1 h1 h2 k2
    have c := Um.cent_value ho h1 h2 k3
    rw [e]
    simp only []
    omega
  · rw [if_neg ho] at h; exact absurd h ho

set_option maxRecDepth 100000 in
set_option maxHeartbeats 8000000 in
theorem walk_wrong (p : List Int) (v : Value) (lo hi n : Int) (w : World) (hl : Li w.heap.size w v p) (h : ¬ (Um.bestAll p lo hi).2.2 = 0) :
    Calls Try.prog 6 #[v, .agg #[.int .i64 lo, .int .i64 hi], .int .i64 n] w fun e w' => e = .returned (.bool true) ∧ Below w.heap.size w w' := by
  have v0 := errV_none
  have q1 := errG
  have q2 := errGn
  have q3 := errE
  have q4 := errN
  have HF := fun v w hl => hid (slope_any [0, 0, 1000] v 1000 2000 w hl)
  rw [fact] at HF
  have HB := fun w hl => hid (best_any p v lo hi w hl)
  have k : ((Um.bestAll p lo hi).2.2 != 0) = true := by simpa using h
  clear h
  generalize Um.bestAll p lo hi = A at *
  have hF := (Fr.start w).push lo hi rfl
  obtain ⟨a0, cap0, rfl, -⟩ := (id hl)
  go_enter Try.func6, Try.ntmps6
  go_wp2_with (first | (go_at_call 20; refine (HF _ _ (Li.lit (p := [0, 0, 1000]) (by simp) three_cells)).out.mono ?_; rintro e wn ⟨rfl, hb⟩; replace hF := (hF.alloc _).step hb; clear hb; clear HF; replace hF := hF.push 2000 4000 rfl; have x1l := (hF.at 1 rfl).lo; have x1h := (hF.at 1 rfl).hi) | (go_at_call 21; refine (HB _ (hF.li hl)).out.mono ?_; rintro e wn ⟨rfl, hb⟩; replace hF := hF.step hb; clear hb; clear x1l x1h; replace hF := hF.push A.1 A.2.1 rfl; have x2l := (hF.at 2 rfl).lo; have x2h := (hF.at 2 rfl).hi))
  go_returns
  exact ⟨rfl, hF.below⟩

set_option maxRecDepth 100000 in
set_option maxHeartbeats 8000000 in
theorem walk_big (p : List Int) (v : Value) (lo hi n : Int) (w : World) (hl : Li w.heap.size w v p) (h : (Um.bestAll p lo hi).2.2 = 0) (hs : Um.small p n = false) :
    Calls Try.prog 6 #[v, .agg #[.int .i64 lo, .int .i64 hi], .int .i64 n] w fun e w' => e = .returned (.bool true) ∧ Below w.heap.size w w' := by
  have v0 := errV_none
  have q1 := errG
  have q2 := errGn
  have q3 := errE
  have q4 := errN
  have HF := fun v w hl => hid (slope_any [0, 0, 1000] v 1000 2000 w hl)
  rw [fact] at HF
  have HB := fun w hl => hid (best_any p v lo hi w hl)
  have HC := fun w hl => hid (range_any p v lo hi w hl)
  have HH := fun w hl => hid (horner_any p v lo hi w hl)
  have HP := fun w hl => hid (powers_any p v lo hi w hl)
  have HS := fun w hl => hid (rSmall_any p v n w hl)
  rw [hs] at HS
  obtain ⟨g1, g2, g3, g4, g5, g6, g7, g8, g9, g10⟩ := right h
  have k : ((Um.bestAll p lo hi).2.2 != 0) = false := by simpa using h
  have k1 : ((Um.centAll p lo hi).2.2 != 0) = false := by simpa using g1
  have k2 : ((Um.hornAll p lo hi).2.2 != 0) = false := by simpa using g2
  have k3 : ((Um.powsAll p lo hi).2.2 != 0) = false := by simpa using g3
  have k4 : decide ((Um.bestAll p lo hi).1 < (Um.centAll p lo hi).1) = false := by simpa using g4
  have k5 : decide ((Um.centAll p lo hi).2.1 < (Um.bestAll p lo hi).2.1) = false := by simpa using g5
  have k6 : decide ((Um.bestAll p lo hi).1 < (Um.hornAll p lo hi).1) = false := by simpa using g6
  have k7 : decide ((Um.hornAll p lo hi).2.1 < (Um.bestAll p lo hi).2.1) = false := by simpa using g7
  have k8 : decide ((Um.bestAll p lo hi).1 < (Um.powsAll p lo hi).1) = false := by simpa using g8
  have k9 : decide ((Um.powsAll p lo hi).2.1 < (Um.bestAll p lo hi).2.1) = false := by simpa using g9
  have k10 : decide ((Um.bestAll p lo hi).2.1 < (Um.bestAll p lo hi).1) = false := by simpa using g10
  clear hs
  clear h g1 g2 g3 g4 g5 g6 g7 g8 g9 g10
  generalize Um.bestAll p lo hi = A at *
  generalize Um.hornAll p lo hi = H at *
  generalize Um.centAll p lo hi = C at *
  generalize Um.powsAll p lo hi = P at *
  have hF := (Fr.start w).push lo hi rfl
  obtain ⟨a0, cap0, rfl, -⟩ := (id hl)
  go_enter Try.func6, Try.ntmps6
  go_wp2_with (first | (go_at_call 20; refine (HF _ _ (Li.lit (p := [0, 0, 1000]) (by simp) three_cells)).out.mono ?_; rintro e wn ⟨rfl, hb⟩; replace hF := (hF.alloc _).step hb; clear hb; clear HF; replace hF := hF.push 2000 4000 rfl; have x1l := (hF.at 1 rfl).lo; have x1h := (hF.at 1 rfl).hi) | (go_at_call 21; refine (HB _ (hF.li hl)).out.mono ?_; rintro e wn ⟨rfl, hb⟩; replace hF := hF.step hb; clear hb; clear x1l x1h; replace hF := hF.push A.1 A.2.1 rfl; have x2l := (hF.at 2 rfl).lo; have x2h := (hF.at 2 rfl).hi) | (go_at_call 22; refine (HC _ (hF.li hl)).out.mono ?_; rintro e wn ⟨rfl, hb⟩; replace hF := hF.step hb; clear hb; clear x2l x2h; replace hF := hF.push C.1 C.2.1 rfl; have x3l := (hF.at 3 rfl).lo; have x3h := (hF.at 3 rfl).hi) | (go_at_call 15; refine (HH _ (hF.li hl)).out.mono ?_; rintro e wn ⟨rfl, hb⟩; replace hF := hF.step hb; clear hb; clear x3l x3h; replace hF := hF.push H.1 H.2.1 rfl; have x4l := (hF.at 4 rfl).lo; have x4h := (hF.at 4 rfl).hi) | (go_at_call 18; refine (HP _ (hF.li hl)).out.mono ?_; rintro e wn ⟨rfl, hb⟩; replace hF := hF.step hb; clear hb; clear x4l x4h; replace hF := hF.push P.1 P.2.1 rfl; have x0l := (hF.at 0 rfl).lo; have x0h := (hF.at 0 rfl).hi; have x1l := (hF.at 1 rfl).lo; have x1h := (hF.at 1 rfl).hi; have x2l := (hF.at 2 rfl).lo; have x2h := (hF.at 2 rfl).hi; have x3l := (hF.at 3 rfl).lo; have x3h := (hF.at 3 rfl).hi; have x5l := (hF.at 5 rfl).lo; have x5h := (hF.at 5 rfl).hi) | (go_at_call 16; refine (HS _ (hF.li hl)).out.mono ?_; rintro e wn ⟨rfl, rfl⟩))
  go_returns
  exact ⟨rfl, hF.below⟩

set_option maxRecDepth 100000 in
set_option maxHeartbeats 8000000 in
theorem walk_low (p : List Int) (v : Value) (lo hi n : Int) (w : World) (hl : Li w.heap.size w v p) (h : (Um.bestAll p lo hi).2.2 = 0) (hs : Um.small p n = true) (h1 : n < lo) :
    Calls Try.prog 6 #[v, .agg #[.int .i64 lo, .int .i64 hi], .int .i64 n] w fun e w' => e = .returned (.bool true) ∧ Below w.heap.size w w' := by
  have v0 := errV_none
  have q1 := errG
  have q2 := errGn
  have q3 := errE
  have q4 := errN
  have HF := fun v w hl => hid (slope_any [0, 0, 1000] v 1000 2000 w hl)
  rw [fact] at HF
  have HB := fun w hl => hid (best_any p v lo hi w hl)
  have HC := fun w hl => hid (range_any p v lo hi w hl)
  have HH := fun w hl => hid (horner_any p v lo hi w hl)
  have HP := fun w hl => hid (powers_any p v lo hi w hl)
  have HS := fun w hl => hid (rSmall_any p v n w hl)
  rw [hs] at HS
  obtain ⟨g1, g2, g3, g4, g5, g6, g7, g8, g9, g10⟩ := right h
  have k : ((Um.bestAll p lo hi).2.2 != 0) = false := by simpa using h
  have k1 : ((Um.centAll p lo hi).2.2 != 0) = false := by simpa using g1
  have k2 : ((Um.hornAll p lo hi).2.2 != 0) = false := by simpa using g2
  have k3 : ((Um.powsAll p lo hi).2.2 != 0) = false := by simpa using g3
  have k4 : decide ((Um.bestAll p lo hi).1 < (Um.centAll p lo hi).1) = false := by simpa using g4
  have k5 : decide ((Um.centAll p lo hi).2.1 < (Um.bestAll p lo hi).2.1) = false := by simpa using g5
  have k6 : decide ((Um.bestAll p lo hi).1 < (Um.hornAll p lo hi).1) = false := by simpa using g6
  have k7 : decide ((Um.hornAll p lo hi).2.1 < (Um.bestAll p lo hi).2.1) = false := by simpa using g7
  have k8 : decide ((Um.bestAll p lo hi).1 < (Um.powsAll p lo hi).1) = false := by simpa using g8
  have k9 : decide ((Um.powsAll p lo hi).2.1 < (Um.bestAll p lo hi).2.1) = false := by simpa using g9
  have k10 : decide ((Um.bestAll p lo hi).2.1 < (Um.bestAll p lo hi).1) = false := by simpa using g10
  have t1 : decide (n < lo) = true := by simpa using h1
  clear hs h1
  clear h g1 g2 g3 g4 g5 g6 g7 g8 g9 g10
  generalize Um.bestAll p lo hi = A at *
  generalize Um.hornAll p lo hi = H at *
  generalize Um.centAll p lo hi = C at *
  generalize Um.powsAll p lo hi = P at *
  have hF := (Fr.start w).push lo hi rfl
  obtain ⟨a0, cap0, rfl, -⟩ := (id hl)
  go_enter Try.func6, Try.ntmps6
  go_wp2_with (first | (go_at_call 20; refine (HF _ _ (Li.lit (p := [0, 0, 1000]) (by simp) three_cells)).out.mono ?_; rintro e wn ⟨rfl, hb⟩; replace hF := (hF.alloc _).step hb; clear hb; clear HF; replace hF := hF.push 2000 4000 rfl; have x1l := (hF.at 1 rfl).lo; have x1h := (hF.at 1 rfl).hi) | (go_at_call 21; refine (HB _ (hF.li hl)).out.mono ?_; rintro e wn ⟨rfl, hb⟩; replace hF := hF.step hb; clear hb; clear x1l x1h; replace hF := hF.push A.1 A.2.1 rfl; have x2l := (hF.at 2 rfl).lo; have x2h := (hF.at 2 rfl).hi) | (go_at_call 22; refine (HC _ (hF.li hl)).out.mono ?_; rintro e wn ⟨rfl, hb⟩; replace hF := hF.step hb; clear hb; clear x2l x2h; replace hF := hF.push C.1 C.2.1 rfl; have x3l := (hF.at 3 rfl).lo; have x3h := (hF.at 3 rfl).hi) | (go_at_call 15; refine (HH _ (hF.li hl)).out.mono ?_; rintro e wn ⟨rfl, hb⟩; replace hF := hF.step hb; clear hb; clear x3l x3h; replace hF := hF.push H.1 H.2.1 rfl; have x4l := (hF.at 4 rfl).lo; have x4h := (hF.at 4 rfl).hi) | (go_at_call 18; refine (HP _ (hF.li hl)).out.mono ?_; rintro e wn ⟨rfl, hb⟩; replace hF := hF.step hb; clear hb; clear x4l x4h; replace hF := hF.push P.1 P.2.1 rfl; have x0l := (hF.at 0 rfl).lo; have x0h := (hF.at 0 rfl).hi; have x1l := (hF.at 1 rfl).lo; have x1h := (hF.at 1 rfl).hi; have x2l := (hF.at 2 rfl).lo; have x2h := (hF.at 2 rfl).hi; have x3l := (hF.at 3 rfl).lo; have x3h := (hF.at 3 rfl).hi; have x5l := (hF.at 5 rfl).lo; have x5h := (hF.at 5 rfl).hi) | (go_at_call 16; refine (HS _ (hF.li hl)).out.mono ?_; rintro e wn ⟨rfl, rfl⟩))
  go_returns
  exact ⟨rfl, hF.below⟩

set_option maxRecDepth 100000 in
set_option maxHeartbeats 8000000 in
theorem walk_high (p : List Int) (v : Value) (lo hi n : Int) (w : World) (hl : Li w.heap.size w v p) (h : (Um.bestAll p lo hi).2.2 = 0) (hs : Um.small p n = true) (h1 : ¬ n < lo) (h2 : hi < n) :
    Calls Try.prog 6 #[v, .agg #[.int .i64 lo, .int .i64 hi], .int .i64 n] w fun e w' => e = .returned (.bool true) ∧ Below w.heap.size w w' := by
  have v0 := errV_none
  have q1 := errG
  have q2 := errGn
  have q3 := errE
  have q4 := errN
  have HF := fun v w hl => hid (slope_any [0, 0, 1000] v 1000 2000 w hl)
  rw [fact] at HF
  have HB := fun w hl => hid (best_any p v lo hi w hl)
  have HC := fun w hl => hid (range_any p v lo hi w hl)
  have HH := fun w hl => hid (horner_any p v lo hi w hl)
  have HP := fun w hl => hid (powers_any p v lo hi w hl)
  have HS := fun w hl => hid (rSmall_any p v n w hl)
  rw [hs] at HS
  obtain ⟨g1, g2, g3, g4, g5, g6, g7, g8, g9, g10⟩ := right h
  have k : ((Um.bestAll p lo hi).2.2 != 0) = false := by simpa using h
  have k1 : ((Um.centAll p lo hi).2.2 != 0) = false := by simpa using g1
  have k2 : ((Um.hornAll p lo hi).2.2 != 0) = false := by simpa using g2
  have k3 : ((Um.powsAll p lo hi).2.2 != 0) = false := by simpa using g3
  have k4 : decide ((Um.bestAll p lo hi).1 < (Um.centAll p lo hi).1) = false := by simpa using g4
  have k5 : decide ((Um.centAll p lo hi).2.1 < (Um.bestAll p lo hi).2.1) = false := by simpa using g5
  have k6 : decide ((Um.bestAll p lo hi).1 < (Um.hornAll p lo hi).1) = false := by simpa using g6
  have k7 : decide ((Um.hornAll p lo hi).2.1 < (Um.bestAll p lo hi).2.1) = false := by simpa using g7
  have k8 : decide ((Um.bestAll p lo hi).1 < (Um.powsAll p lo hi).1) = false := by simpa using g8
  have k9 : decide ((Um.powsAll p lo hi).2.1 < (Um.bestAll p lo hi).2.1) = false := by simpa using g9
  have k10 : decide ((Um.bestAll p lo hi).2.1 < (Um.bestAll p lo hi).1) = false := by simpa using g10
  have t1 : decide (n < lo) = false := by simpa using h1
  have t2 : decide (hi < n) = true := by simpa using h2
  clear hs h1 h2
  clear h g1 g2 g3 g4 g5 g6 g7 g8 g9 g10
  generalize Um.bestAll p lo hi = A at *
  generalize Um.hornAll p lo hi = H at *
  generalize Um.centAll p lo hi = C at *
  generalize Um.powsAll p lo hi = P at *
  have hF := (Fr.start w).push lo hi rfl
  obtain ⟨a0, cap0, rfl, -⟩ := (id hl)
  go_enter Try.func6, Try.ntmps6
  go_wp2_with (first | (go_at_call 20; refine (HF _ _ (Li.lit (p := [0, 0, 1000]) (by simp) three_cells)).out.mono ?_; rintro e wn ⟨rfl, hb⟩; replace hF := (hF.alloc _).step hb; clear hb; clear HF; replace hF := hF.push 2000 4000 rfl; have x1l := (hF.at 1 rfl).lo; have x1h := (hF.at 1 rfl).hi) | (go_at_call 21; refine (HB _ (hF.li hl)).out.mono ?_; rintro e wn ⟨rfl, hb⟩; replace hF := hF.step hb; clear hb; clear x1l x1h; replace hF := hF.push A.1 A.2.1 rfl; have x2l := (hF.at 2 rfl).lo; have x2h := (hF.at 2 rfl).hi) | (go_at_call 22; refine (HC _ (hF.li hl)).out.mono ?_; rintro e wn ⟨rfl, hb⟩; replace hF := hF.step hb; clear hb; clear x2l x2h; replace hF := hF.push C.1 C.2.1 rfl; have x3l := (hF.at 3 rfl).lo; have x3h := (hF.at 3 rfl).hi) | (go_at_call 15; refine (HH _ (hF.li hl)).out.mono ?_; rintro e wn ⟨rfl, hb⟩; replace hF := hF.step hb; clear hb; clear x3l x3h; replace hF := hF.push H.1 H.2.1 rfl; have x4l := (hF.at 4 rfl).lo; have x4h := (hF.at 4 rfl).hi) | (go_at_call 18; refine (HP _ (hF.li hl)).out.mono ?_; rintro e wn ⟨rfl, hb⟩; replace hF := hF.step hb; clear hb; clear x4l x4h; replace hF := hF.push P.1 P.2.1 rfl; have x0l := (hF.at 0 rfl).lo; have x0h := (hF.at 0 rfl).hi; have x1l := (hF.at 1 rfl).lo; have x1h := (hF.at 1 rfl).hi; have x2l := (hF.at 2 rfl).lo; have x2h := (hF.at 2 rfl).hi; have x3l := (hF.at 3 rfl).lo; have x3h := (hF.at 3 rfl).hi; have x5l := (hF.at 5 rfl).lo; have x5h := (hF.at 5 rfl).hi) | (go_at_call 16; refine (HS _ (hF.li hl)).out.mono ?_; rintro e wn ⟨rfl, rfl⟩))
  go_returns
  exact ⟨rfl, hF.below⟩

set_option maxRecDepth 100000 in
set_option maxHeartbeats 8000000 in
theorem walk_in (p : List Int) (v : Value) (lo hi n : Int) (w : World) (hl : Li w.heap.size w v p) (h : (Um.bestAll p lo hi).2.2 = 0) (hs : Um.small p n = true) (h1 : ¬ n < lo) (h2 : ¬ hi < n) :
    Calls Try.prog 6 #[v, .agg #[.int .i64 lo, .int .i64 hi], .int .i64 n] w fun e w' => e = .returned (.bool true) ∧ Below w.heap.size w w' := by
  have v0 := errV_none
  have q1 := errG
  have q2 := errGn
  have q3 := errE
  have q4 := errN
  have HF := fun v w hl => hid (slope_any [0, 0, 1000] v 1000 2000 w hl)
  rw [fact] at HF
  have HB := fun w hl => hid (best_any p v lo hi w hl)
  have HC := fun w hl => hid (range_any p v lo hi w hl)
  have HH := fun w hl => hid (horner_any p v lo hi w hl)
  have HP := fun w hl => hid (powers_any p v lo hi w hl)
  have HS := fun w hl => hid (rSmall_any p v n w hl)
  rw [hs] at HS
  obtain ⟨g1, g2, g3, g4, g5, g6, g7, g8, g9, g10⟩ := right h
  have k : ((Um.bestAll p lo hi).2.2 != 0) = false := by simpa using h
  have k1 : ((Um.centAll p lo hi).2.2 != 0) = false := by simpa using g1
  have k2 : ((Um.hornAll p lo hi).2.2 != 0) = false := by simpa using g2
  have k3 : ((Um.powsAll p lo hi).2.2 != 0) = false := by simpa using g3
  have k4 : decide ((Um.bestAll p lo hi).1 < (Um.centAll p lo hi).1) = false := by simpa using g4
  have k5 : decide ((Um.centAll p lo hi).2.1 < (Um.bestAll p lo hi).2.1) = false := by simpa using g5
  have k6 : decide ((Um.bestAll p lo hi).1 < (Um.hornAll p lo hi).1) = false := by simpa using g6
  have k7 : decide ((Um.hornAll p lo hi).2.1 < (Um.bestAll p lo hi).2.1) = false := by simpa using g7
  have k8 : decide ((Um.bestAll p lo hi).1 < (Um.powsAll p lo hi).1) = false := by simpa using g8
  have k9 : decide ((Um.powsAll p lo hi).2.1 < (Um.bestAll p lo hi).2.1) = false := by simpa using g9
  have k10 : decide ((Um.bestAll p lo hi).2.1 < (Um.bestAll p lo hi).1) = false := by simpa using g10
  have HV := fun w hl => hid (rValue_any p v n w hl hs)
  obtain ⟨u1, u2, u3, u4⟩ := value h (by omega : lo ≤ n) (by omega : n ≤ hi)
  have t1 : decide (n < lo) = false := by simpa using h1
  have t2 : decide (hi < n) = false := by simpa using h2
  have s1 : decide ((Um.bestAll p lo hi).1 ≤ Um.fl (Um.exN n p p.length) 1000000000000) = true := by simpa using u1
  have s2 : decide (Um.ce (Um.exN n p p.length) 1000000000000 ≤ (Um.bestAll p lo hi).2.1) = true := by simpa using u2
  have s3 : decide ((Um.centAll p lo hi).1 ≤ Um.fl (Um.exN n p p.length) 1000000000000) = true := by simpa using u3
  have s4 : decide (Um.ce (Um.exN n p p.length) 1000000000000 ≤ (Um.centAll p lo hi).2.1) = true := by simpa using u4
  clear hs h1 h2 u1 u2 u3 u4
  clear h g1 g2 g3 g4 g5 g6 g7 g8 g9 g10
  generalize Um.bestAll p lo hi = A at *
  generalize Um.hornAll p lo hi = H at *
  generalize Um.centAll p lo hi = C at *
  generalize Um.powsAll p lo hi = P at *
  generalize Um.fl (Um.exN n p p.length) 1000000000000 = U at *
  generalize Um.ce (Um.exN n p p.length) 1000000000000 = V at *
  have hF := (Fr.start w).push lo hi rfl
  obtain ⟨a0, cap0, rfl, -⟩ := (id hl)
  go_enter Try.func6, Try.ntmps6
  go_wp2_with (first | (go_at_call 20; refine (HF _ _ (Li.lit (p := [0, 0, 1000]) (by simp) three_cells)).out.mono ?_; rintro e wn ⟨rfl, hb⟩; replace hF := (hF.alloc _).step hb; clear hb; clear HF; replace hF := hF.push 2000 4000 rfl; have x1l := (hF.at 1 rfl).lo; have x1h := (hF.at 1 rfl).hi) | (go_at_call 21; refine (HB _ (hF.li hl)).out.mono ?_; rintro e wn ⟨rfl, hb⟩; replace hF := hF.step hb; clear hb; clear x1l x1h; replace hF := hF.push A.1 A.2.1 rfl; have x2l := (hF.at 2 rfl).lo; have x2h := (hF.at 2 rfl).hi) | (go_at_call 22; refine (HC _ (hF.li hl)).out.mono ?_; rintro e wn ⟨rfl, hb⟩; replace hF := hF.step hb; clear hb; clear x2l x2h; replace hF := hF.push C.1 C.2.1 rfl; have x3l := (hF.at 3 rfl).lo; have x3h := (hF.at 3 rfl).hi) | (go_at_call 15; refine (HH _ (hF.li hl)).out.mono ?_; rintro e wn ⟨rfl, hb⟩; replace hF := hF.step hb; clear hb; clear x3l x3h; replace hF := hF.push H.1 H.2.1 rfl; have x4l := (hF.at 4 rfl).lo; have x4h := (hF.at 4 rfl).hi) | (go_at_call 18; refine (HP _ (hF.li hl)).out.mono ?_; rintro e wn ⟨rfl, hb⟩; replace hF := hF.step hb; clear hb; clear x4l x4h; replace hF := hF.push P.1 P.2.1 rfl; have x0l := (hF.at 0 rfl).lo; have x0h := (hF.at 0 rfl).hi; have x1l := (hF.at 1 rfl).lo; have x1h := (hF.at 1 rfl).hi; have x2l := (hF.at 2 rfl).lo; have x2h := (hF.at 2 rfl).hi; have x3l := (hF.at 3 rfl).lo; have x3h := (hF.at 3 rfl).hi; have x5l := (hF.at 5 rfl).lo; have x5h := (hF.at 5 rfl).hi) | (go_at_call 16; refine (HS _ (hF.li hl)).out.mono ?_; rintro e wn ⟨rfl, rfl⟩) | (go_at_call 17; refine (HV _ (hF.li hl)).out.mono ?_; rintro e wn ⟨rfl, rfl⟩))
  go_returns
  exact ⟨rfl, hF.below⟩

theorem walk (p : List Int) (v : Value) (lo hi n : Int) (w : World) (hl : Li w.heap.size w v p) :
    Calls Try.prog 6 #[v, .agg #[.int .i64 lo, .int .i64 hi], .int .i64 n] w fun e w' => e = .returned (.bool true) ∧ Below w.heap.size w w' := by
  by_cases h : (Um.bestAll p lo hi).2.2 = 0
  · cases hs : Um.small p n
    · exact walk_big p v lo hi n w hl h hs
    · by_cases h1 : n < lo
      · exact walk_low p v lo hi n w hl h hs h1
      · by_cases h2 : hi < n
        · exact walk_high p v lo hi n w hl h hs h1 h2
        · exact walk_in p v lo hi n w hl h hs h1 h2
  · exact walk_wrong p v lo hi n w hl h
end Go.Proofs.Ytfmjndipanlcoaa.CHas
