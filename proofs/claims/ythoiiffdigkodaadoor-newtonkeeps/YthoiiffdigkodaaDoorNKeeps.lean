/-
  The walk over 'spanlaw1.NewtonKeeps': for all p, x, n, steps it returns true.
-/
import Derived.Test.YthoiiffdigkodaaDoorNewton
import Derived.Test.YthoiiffdigkodaaDoorRefVal
import Derived.Test.YthoiiffdigkodaaDoorSame
import Derived.Deep.CutRange
namespace Go.Proofs.YthoiiffdigkodaaDoor.NKeeps
set_option linter.unusedSimpArgs false
open Go.RowKit

theorem vb {a b : Bool} (h : a = b) : Value.bool a = .bool b := by rw [h]
/-- A step that tells something is within. -/
theorem within {p : List Int} {lo hi : Int} (h : (Um.newtAll p lo hi).2.2 = 0) : Um.over p lo hi = 0 ∧ lo ≤ (Um.newtAll p lo hi).1 ∧ (Um.newtAll p lo hi).1 ≤ (Um.newtAll p lo hi).2.1 ∧ (Um.newtAll p lo hi).2.1 ≤ hi := by
  unfold Um.newtAll at *
  by_cases ho : Um.over p lo hi = 0
  · rw [if_pos ho] at h ⊢
    exact ⟨ho, Um.newt_in h⟩
  · rw [if_neg ho] at h; exact absurd h ho
theorem kept {p : List Int} {lo hi n : Int} (h1 : lo ≤ n) (h2 : n ≤ hi) (he : Um.exN n p p.length = 0) (h : (Um.newtAll p lo hi).2.2 = 0) : (Um.newtAll p lo hi).1 ≤ n ∧ n ≤ (Um.newtAll p lo hi).2.1 := by
  have ho := (within h).1
  unfold Um.newtAll at *
  rw [if_pos ho] at h ⊢
  exact (Um.newt_keeps ho h1 h2 he).1 h
theorem nowhere {p : List Int} {lo hi n : Int} (h1 : lo ≤ n) (h2 : n ≤ hi) (he : Um.exN n p p.length = 0) (hp : Um.pchk p = 0) : ¬ (Um.newtAll p lo hi).2.2 = 5 := by
  unfold Um.newtAll
  by_cases ho : Um.over p lo hi = 0
  · rw [if_pos ho]; exact (Um.newt_keeps ho h1 h2 he).2
  · rw [if_neg ho]
    show ¬ Um.over p lo hi = 5
    unfold Um.over
    rw [if_pos hp]
    unfold Um.chk
    split
    · split <;> decide
    · decide
theorem run_within {p : List Int} {lo hi steps : Int} (h : (Um.runAll p lo hi steps).2.2 = 0) : Um.over p lo hi = 0 ∧ lo ≤ (Um.runAll p lo hi steps).1 ∧ (Um.runAll p lo hi steps).2.1 ≤ hi := by
  unfold Um.runAll at *
  by_cases hr : Um.runF p lo hi steps = 0
  · rw [if_pos hr] at h ⊢
    have ho := (Um.run_ok.1 hr).2
    have a := Um.st_in (Um.chk_ok.1 (Um.over_ok.1 ho).2).2.2 _ h
    exact ⟨ho, a.1, a.2.2⟩
  · rw [if_neg hr] at h; exact absurd h hr
theorem run_kept {p : List Int} {lo hi n steps : Int} (h1 : lo ≤ n) (h2 : n ≤ hi) (he : Um.exN n p p.length = 0) (h : (Um.runAll p lo hi steps).2.2 = 0) : (Um.runAll p lo hi steps).1 ≤ n ∧ n ≤ (Um.runAll p lo hi steps).2.1 := by
  have ho := (run_within h).1
  unfold Um.runAll at *
  by_cases hr : Um.runF p lo hi steps = 0
  · rw [if_pos hr] at h ⊢
    exact (Um.st_keeps ho h1 h2 he _).1 h
  · rw [if_neg hr] at h; exact absurd h hr

set_option maxRecDepth 100000 in
set_option maxHeartbeats 8000000 in
theorem walk_false_sr (p : List Int) (v : Value) (lo hi n steps : Int) (w : World) (hl : Li w.heap.size w v p) (hg : HasErr w) (hs : (Um.newtAll p lo hi).2.2 = 0) (hr : (Um.runAll p lo hi steps).2.2 = 0) (hnb : false = (Um.small p n && (decide (lo ≤ n) && (decide (n ≤ hi) && (Um.exN n p p.length == 0))))) :
    Calls Tryd.prog 5 #[v, .agg #[.int .i64 lo, .int .i64 hi], .int .i64 n, .int .i64 steps] w fun e w' => e = .returned (.bool true) ∧ Below w.heap.size w w' := by
  have v0 := errV_none
  have q1 := errG
  have q2 := errGn
  have q3 := errE
  have q4 := errN
  have HF0 := fun v w hl => hid (step_any [-2000, 1000] v 0 8000 w hl)
  rw [Um.newt_fact] at HF0
  have HS := fun w hl => hid (rSmall_any p v n w hl)
  have HE := fun s w hl => hid (rExact_any p v n w hl s)
  have HT := fun w hl => hid (step_any p v lo hi w hl)
  have HR := fun w hl => hid (run_any p v lo hi steps w hl)
  have HP := fun B w hl => hid (pcheck_any B p v w hl)
  have HNB := hid hnb
  obtain ⟨-, g1, g2, g3⟩ := within hs
  have kS : ((Um.newtAll p lo hi).2.2 == 0) = true := by simpa using hs
  have jS : ((Um.newtAll p lo hi).2.2 == 5) = false := by rw [hs]; rfl
  have r1 : decide ((Um.newtAll p lo hi).1 < lo) = false := by simpa using g1
  have r2 : decide (hi < (Um.newtAll p lo hi).2.1) = false := by simpa using g3
  have r3 : decide ((Um.newtAll p lo hi).2.1 < (Um.newtAll p lo hi).1) = false := by simpa using g2
  clear g1 g2 g3 hs
  obtain ⟨-, g1, g2⟩ := run_within hr
  have kR : ((Um.runAll p lo hi steps).2.2 != 0) = false := by simpa using hr
  have u1 : decide (lo ≤ (Um.runAll p lo hi steps).1) = true := by simpa using g1
  have u2 : decide ((Um.runAll p lo hi steps).2.1 ≤ hi) = true := by simpa using g2
  clear g1 g2 hr
  clear hnb
  generalize Um.newtAll p lo hi = S at *
  generalize Um.runAll p lo hi steps = R at *
  generalize Um.small p n = Sm at *
  have hF := (Fr.start w).push lo hi rfl
  obtain ⟨a0, cap0, rfl, -⟩ := (id hl)
  go_enter Tryd.func5, Tryd.ntmps5
  go_upto_region 5 with (first | (go_at_call 12; refine (HF0 _ _ (Li.lit (p := [-2000, 1000]) (by simp) two_cells)).out.mono ?_; rintro e wn ⟨rfl, hb⟩; replace hF := (hF.alloc _).step hb; clear hb; clear HF0; replace hF := hF.push 2000 2000 rfl; have x0l := (hF.at 0 rfl).lo; have x0h := (hF.at 0 rfl).hi) | (go_at_call 14; refine (HS _ (hF.li hl)).out.mono ?_; rintro e wn ⟨rfl, rfl⟩; clear x0l x0h; have x1l := (hF.at 1 rfl).lo; have x1h := (hF.at 1 rfl).hi))
  go_cut [12] from 37 to 55 (fun v wr => v = .bool false ∧ Fr w wr [(w.heap.size, lo, hi)])
  case first =>
    clear HT HR HP
    try clear HNO
    cases Sm
    · go_wp2
      go_meet
      case rel => exact ⟨rfl, hF.drop⟩
    · replace HE := fun w hl => HE rfl w hl
      by_cases n1 : lo ≤ n
      · have t1 : decide (lo ≤ n) = true := by simpa using n1
        rw [t1] at HNB
        by_cases n2 : n ≤ hi
        · have t2 : decide (n ≤ hi) = true := by simpa using n2
          rw [t2] at HNB
          clear n1 n2
          generalize Um.exN n p p.length = E at *
          have HNE2 : Hid ((E == 0) = false) := HNB.out.symm
          go_wp2_with (go_at_call 15; refine (HE _ (hF.li hl)).out.mono ?_; rintro e wn ⟨rfl, rfl⟩)
          go_meet
          case rel => exact ⟨vb HNE2.out, hF.drop⟩
        · have t2 : decide (n ≤ hi) = false := by simpa using n2
          rw [t2] at HNB
          clear n1 n2 HE
          go_wp2
          go_meet
          case rel => exact ⟨rfl, hF.drop⟩
      · have t1 : decide (lo ≤ n) = false := by simpa using n1
        rw [t1] at HNB
        clear n1 HE
        go_wp2
        go_meet
        case rel => exact ⟨rfl, hF.drop⟩
  case rest =>
    clear hF HE HNB x1l x1h
    obtain ⟨rfl, hF⟩ := hcut
    have x0l := (hF.at 0 rfl).lo
    have x0h := (hF.at 0 rfl).hi
    go_wp2_with (first | (go_at_call 12; refine (HT _ (hF.li hl)).out.mono ?_; rintro e wn ⟨rfl, hb⟩; replace hF := hF.step hb; clear hb; clear x0l x0h; replace hF := hF.push S.1 S.2.1 rfl) | (go_at_call 8; refine (hid (same_any _ _ _ (hg.below (B := w.heap.size) hF.below hg.size))).out.mono ?_; rintro e wn ⟨rfl, hb⟩; replace hF := hF.step hb; clear hb; have x0l := (hF.at 0 rfl).lo; have x0h := (hF.at 0 rfl).hi; have x1l := (hF.at 1 rfl).lo; have x1h := (hF.at 1 rfl).hi) | (go_at_call 16; refine (HP _ _ (hF.li hl)).out.mono ?_; rintro e wn ⟨rfl, rfl⟩) | (go_at_call 13; refine (HR _ (hF.li hl)).out.mono ?_; rintro e wn ⟨rfl, hb⟩; replace hF := hF.step hb; clear hb; clear x0l x0h x1l x1h; replace hF := hF.push R.1 R.2.1 rfl; have x0l := (hF.at 0 rfl).lo; have x0h := (hF.at 0 rfl).hi; have x2l := (hF.at 2 rfl).lo; have x2h := (hF.at 2 rfl).hi))
    go_returns
    exact ⟨rfl, hF.below⟩

set_option maxRecDepth 100000 in
set_option maxHeartbeats 8000000 in
theorem walk_false_se (p : List Int) (v : Value) (lo hi n steps : Int) (w : World) (hl : Li w.heap.size w v p) (hg : HasErr w) (hs : (Um.newtAll p lo hi).2.2 = 0) (hr : ¬ (Um.runAll p lo hi steps).2.2 = 0) (hnb : false = (Um.small p n && (decide (lo ≤ n) && (decide (n ≤ hi) && (Um.exN n p p.length == 0))))) :
    Calls Tryd.prog 5 #[v, .agg #[.int .i64 lo, .int .i64 hi], .int .i64 n, .int .i64 steps] w fun e w' => e = .returned (.bool true) ∧ Below w.heap.size w w' := by
  have v0 := errV_none
  have q1 := errG
  have q2 := errGn
  have q3 := errE
  have q4 := errN
  have HF0 := fun v w hl => hid (step_any [-2000, 1000] v 0 8000 w hl)
  rw [Um.newt_fact] at HF0
  have HS := fun w hl => hid (rSmall_any p v n w hl)
  have HE := fun s w hl => hid (rExact_any p v n w hl s)
  have HT := fun w hl => hid (step_any p v lo hi w hl)
  have HR := fun w hl => hid (run_any p v lo hi steps w hl)
  have HP := fun B w hl => hid (pcheck_any B p v w hl)
  have HNB := hid hnb
  obtain ⟨-, g1, g2, g3⟩ := within hs
  have kS : ((Um.newtAll p lo hi).2.2 == 0) = true := by simpa using hs
  have jS : ((Um.newtAll p lo hi).2.2 == 5) = false := by rw [hs]; rfl
  have r1 : decide ((Um.newtAll p lo hi).1 < lo) = false := by simpa using g1
  have r2 : decide (hi < (Um.newtAll p lo hi).2.1) = false := by simpa using g3
  have r3 : decide ((Um.newtAll p lo hi).2.1 < (Um.newtAll p lo hi).1) = false := by simpa using g2
  clear g1 g2 g3 hs
  have kR : ((Um.runAll p lo hi steps).2.2 != 0) = true := by simpa using hr
  clear hr
  clear hnb
  generalize Um.newtAll p lo hi = S at *
  generalize Um.runAll p lo hi steps = R at *
  generalize Um.small p n = Sm at *
  have hF := (Fr.start w).push lo hi rfl
  obtain ⟨a0, cap0, rfl, -⟩ := (id hl)
  go_enter Tryd.func5, Tryd.ntmps5
  go_upto_region 5 with (first | (go_at_call 12; refine (HF0 _ _ (Li.lit (p := [-2000, 1000]) (by simp) two_cells)).out.mono ?_; rintro e wn ⟨rfl, hb⟩; replace hF := (hF.alloc _).step hb; clear hb; clear HF0; replace hF := hF.push 2000 2000 rfl; have x0l := (hF.at 0 rfl).lo; have x0h := (hF.at 0 rfl).hi) | (go_at_call 14; refine (HS _ (hF.li hl)).out.mono ?_; rintro e wn ⟨rfl, rfl⟩; clear x0l x0h; have x1l := (hF.at 1 rfl).lo; have x1h := (hF.at 1 rfl).hi))
  go_cut [12] from 37 to 55 (fun v wr => v = .bool false ∧ Fr w wr [(w.heap.size, lo, hi)])
  case first =>
    clear HT HR HP
    try clear HNO
    cases Sm
    · go_wp2
      go_meet
      case rel => exact ⟨rfl, hF.drop⟩
    · replace HE := fun w hl => HE rfl w hl
      by_cases n1 : lo ≤ n
      · have t1 : decide (lo ≤ n) = true := by simpa using n1
        rw [t1] at HNB
        by_cases n2 : n ≤ hi
        · have t2 : decide (n ≤ hi) = true := by simpa using n2
          rw [t2] at HNB
          clear n1 n2
          generalize Um.exN n p p.length = E at *
          have HNE2 : Hid ((E == 0) = false) := HNB.out.symm
          go_wp2_with (go_at_call 15; refine (HE _ (hF.li hl)).out.mono ?_; rintro e wn ⟨rfl, rfl⟩)
          go_meet
          case rel => exact ⟨vb HNE2.out, hF.drop⟩
        · have t2 : decide (n ≤ hi) = false := by simpa using n2
          rw [t2] at HNB
          clear n1 n2 HE
          go_wp2
          go_meet
          case rel => exact ⟨rfl, hF.drop⟩
      · have t1 : decide (lo ≤ n) = false := by simpa using n1
        rw [t1] at HNB
        clear n1 HE
        go_wp2
        go_meet
        case rel => exact ⟨rfl, hF.drop⟩
  case rest =>
    clear hF HE HNB x1l x1h
    obtain ⟨rfl, hF⟩ := hcut
    have x0l := (hF.at 0 rfl).lo
    have x0h := (hF.at 0 rfl).hi
    go_wp2_with (first | (go_at_call 12; refine (HT _ (hF.li hl)).out.mono ?_; rintro e wn ⟨rfl, hb⟩; replace hF := hF.step hb; clear hb; clear x0l x0h; replace hF := hF.push S.1 S.2.1 rfl) | (go_at_call 8; refine (hid (same_any _ _ _ (hg.below (B := w.heap.size) hF.below hg.size))).out.mono ?_; rintro e wn ⟨rfl, hb⟩; replace hF := hF.step hb; clear hb; have x0l := (hF.at 0 rfl).lo; have x0h := (hF.at 0 rfl).hi; have x1l := (hF.at 1 rfl).lo; have x1h := (hF.at 1 rfl).hi) | (go_at_call 16; refine (HP _ _ (hF.li hl)).out.mono ?_; rintro e wn ⟨rfl, rfl⟩) | (go_at_call 13; refine (HR _ (hF.li hl)).out.mono ?_; rintro e wn ⟨rfl, hb⟩; replace hF := hF.step hb; clear hb; clear x0l x0h x1l x1h; replace hF := hF.push R.1 R.2.1 rfl; have x0l := (hF.at 0 rfl).lo; have x0h := (hF.at 0 rfl).hi; have x2l := (hF.at 2 rfl).lo; have x2h := (hF.at 2 rfl).hi))
    go_returns
    exact ⟨rfl, hF.below⟩

set_option maxRecDepth 100000 in
set_option maxHeartbeats 8000000 in
theorem walk_false_er (p : List Int) (v : Value) (lo hi n steps : Int) (w : World) (hl : Li w.heap.size w v p) (hg : HasErr w) (hs : ¬ (Um.newtAll p lo hi).2.2 = 0) (hr : (Um.runAll p lo hi steps).2.2 = 0) (hnb : false = (Um.small p n && (decide (lo ≤ n) && (decide (n ≤ hi) && (Um.exN n p p.length == 0))))) :
    Calls Tryd.prog 5 #[v, .agg #[.int .i64 lo, .int .i64 hi], .int .i64 n, .int .i64 steps] w fun e w' => e = .returned (.bool true) ∧ Below w.heap.size w w' := by
  have v0 := errV_none
  have q1 := errG
  have q2 := errGn
  have q3 := errE
  have q4 := errN
  have HF0 := fun v w hl => hid (step_any [-2000, 1000] v 0 8000 w hl)
  rw [Um.newt_fact] at HF0
  have HS := fun w hl => hid (rSmall_any p v n w hl)
  have HE := fun s w hl => hid (rExact_any p v n w hl s)
  have HT := fun w hl => hid (step_any p v lo hi w hl)
  have HR := fun w hl => hid (run_any p v lo hi steps w hl)
  have HP := fun B w hl => hid (pcheck_any B p v w hl)
  have HNB := hid hnb
  have kS : ((Um.newtAll p lo hi).2.2 == 0) = false := by simpa using hs
  clear hs
  obtain ⟨-, g1, g2⟩ := run_within hr
  have kR : ((Um.runAll p lo hi steps).2.2 != 0) = false := by simpa using hr
  have u1 : decide (lo ≤ (Um.runAll p lo hi steps).1) = true := by simpa using g1
  have u2 : decide ((Um.runAll p lo hi steps).2.1 ≤ hi) = true := by simpa using g2
  clear g1 g2 hr
  clear hnb
  generalize Um.newtAll p lo hi = S at *
  generalize Um.runAll p lo hi steps = R at *
  generalize Um.small p n = Sm at *
  have hF := (Fr.start w).push lo hi rfl
  obtain ⟨a0, cap0, rfl, -⟩ := (id hl)
  go_enter Tryd.func5, Tryd.ntmps5
  go_upto_region 5 with (first | (go_at_call 12; refine (HF0 _ _ (Li.lit (p := [-2000, 1000]) (by simp) two_cells)).out.mono ?_; rintro e wn ⟨rfl, hb⟩; replace hF := (hF.alloc _).step hb; clear hb; clear HF0; replace hF := hF.push 2000 2000 rfl; have x0l := (hF.at 0 rfl).lo; have x0h := (hF.at 0 rfl).hi) | (go_at_call 14; refine (HS _ (hF.li hl)).out.mono ?_; rintro e wn ⟨rfl, rfl⟩; clear x0l x0h; have x1l := (hF.at 1 rfl).lo; have x1h := (hF.at 1 rfl).hi))
  go_cut [12] from 37 to 55 (fun v wr => v = .bool false ∧ Fr w wr [(w.heap.size, lo, hi)])
  case first =>
    clear HT HR HP
    try clear HNO
    cases Sm
    · go_wp2
      go_meet
      case rel => exact ⟨rfl, hF.drop⟩
    · replace HE := fun w hl => HE rfl w hl
      by_cases n1 : lo ≤ n
      · have t1 : decide (lo ≤ n) = true := by simpa using n1
        rw [t1] at HNB
        by_cases n2 : n ≤ hi
        · have t2 : decide (n ≤ hi) = true := by simpa using n2
          rw [t2] at HNB
          clear n1 n2
          generalize Um.exN n p p.length = E at *
          have HNE2 : Hid ((E == 0) = false) := HNB.out.symm
          go_wp2_with (go_at_call 15; refine (HE _ (hF.li hl)).out.mono ?_; rintro e wn ⟨rfl, rfl⟩)
          go_meet
          case rel => exact ⟨vb HNE2.out, hF.drop⟩
        · have t2 : decide (n ≤ hi) = false := by simpa using n2
          rw [t2] at HNB
          clear n1 n2 HE
          go_wp2
          go_meet
          case rel => exact ⟨rfl, hF.drop⟩
      · have t1 : decide (lo ≤ n) = false := by simpa using n1
        rw [t1] at HNB
        clear n1 HE
        go_wp2
        go_meet
        case rel => exact ⟨rfl, hF.drop⟩
  case rest =>
    clear hF HE HNB x1l x1h
    obtain ⟨rfl, hF⟩ := hcut
    have x0l := (hF.at 0 rfl).lo
    have x0h := (hF.at 0 rfl).hi
    by_cases h5 : S.2.2 = 5
    · have k5 : (S.2.2 == 5) = true := by simpa using h5
      by_cases hpc : Um.pchk p = 0
      · skip
        have kp : (Um.pchk p == 0) = true := by simpa using hpc
        have kp' : (Um.pchk p != 0) = false := by simpa using hpc
        clear h5 hpc
        generalize Um.pchk p = K at *
        go_wp2_with (first | (go_at_call 12; refine (HT _ (hF.li hl)).out.mono ?_; rintro e wn ⟨rfl, hb⟩; replace hF := hF.step hb; clear hb; clear x0l x0h; replace hF := hF.push S.1 S.2.1 rfl) | (go_at_call 8; refine (hid (same_any _ _ _ (hg.below (B := w.heap.size) hF.below hg.size))).out.mono ?_; rintro e wn ⟨rfl, hb⟩; replace hF := hF.step hb; clear hb; have x0l := (hF.at 0 rfl).lo; have x0h := (hF.at 0 rfl).hi; have x1l := (hF.at 1 rfl).lo; have x1h := (hF.at 1 rfl).hi) | (go_at_call 16; refine (HP _ _ (hF.li hl)).out.mono ?_; rintro e wn ⟨rfl, rfl⟩) | (go_at_call 13; refine (HR _ (hF.li hl)).out.mono ?_; rintro e wn ⟨rfl, hb⟩; replace hF := hF.step hb; clear hb; clear x0l x0h x1l x1h; replace hF := hF.push R.1 R.2.1 rfl; have x0l := (hF.at 0 rfl).lo; have x0h := (hF.at 0 rfl).hi; have x2l := (hF.at 2 rfl).lo; have x2h := (hF.at 2 rfl).hi))
        go_returns
        exact ⟨rfl, hF.below⟩
      · have kp : (Um.pchk p == 0) = false := by simpa using hpc
        have kp' : (Um.pchk p != 0) = true := by simpa using hpc
        clear h5 hpc 
        generalize Um.pchk p = K at *
        go_wp2_with (first | (go_at_call 12; refine (HT _ (hF.li hl)).out.mono ?_; rintro e wn ⟨rfl, hb⟩; replace hF := hF.step hb; clear hb; clear x0l x0h; replace hF := hF.push S.1 S.2.1 rfl) | (go_at_call 8; refine (hid (same_any _ _ _ (hg.below (B := w.heap.size) hF.below hg.size))).out.mono ?_; rintro e wn ⟨rfl, hb⟩; replace hF := hF.step hb; clear hb; have x0l := (hF.at 0 rfl).lo; have x0h := (hF.at 0 rfl).hi; have x1l := (hF.at 1 rfl).lo; have x1h := (hF.at 1 rfl).hi) | (go_at_call 16; refine (HP _ _ (hF.li hl)).out.mono ?_; rintro e wn ⟨rfl, rfl⟩) | (go_at_call 13; refine (HR _ (hF.li hl)).out.mono ?_; rintro e wn ⟨rfl, hb⟩; replace hF := hF.step hb; clear hb; clear x0l x0h x1l x1h; replace hF := hF.push R.1 R.2.1 rfl; have x0l := (hF.at 0 rfl).lo; have x0h := (hF.at 0 rfl).hi; have x2l := (hF.at 2 rfl).lo; have x2h := (hF.at 2 rfl).hi))
        go_returns
        exact ⟨rfl, hF.below⟩
    · have k5 : (S.2.2 == 5) = false := by simpa using h5
      clear h5 
      go_wp2_with (first | (go_at_call 12; refine (HT _ (hF.li hl)).out.mono ?_; rintro e wn ⟨rfl, hb⟩; replace hF := hF.step hb; clear hb; clear x0l x0h; replace hF := hF.push S.1 S.2.1 rfl) | (go_at_call 8; refine (hid (same_any _ _ _ (hg.below (B := w.heap.size) hF.below hg.size))).out.mono ?_; rintro e wn ⟨rfl, hb⟩; replace hF := hF.step hb; clear hb; have x0l := (hF.at 0 rfl).lo; have x0h := (hF.at 0 rfl).hi; have x1l := (hF.at 1 rfl).lo; have x1h := (hF.at 1 rfl).hi) | (go_at_call 16; refine (HP _ _ (hF.li hl)).out.mono ?_; rintro e wn ⟨rfl, rfl⟩) | (go_at_call 13; refine (HR _ (hF.li hl)).out.mono ?_; rintro e wn ⟨rfl, hb⟩; replace hF := hF.step hb; clear hb; clear x0l x0h x1l x1h; replace hF := hF.push R.1 R.2.1 rfl; have x0l := (hF.at 0 rfl).lo; have x0h := (hF.at 0 rfl).hi; have x2l := (hF.at 2 rfl).lo; have x2h := (hF.at 2 rfl).hi))
      go_returns
      exact ⟨rfl, hF.below⟩

set_option maxRecDepth 100000 in
set_option maxHeartbeats 8000000 in
theorem walk_false_ee (p : List Int) (v : Value) (lo hi n steps : Int) (w : World) (hl : Li w.heap.size w v p) (hg : HasErr w) (hs : ¬ (Um.newtAll p lo hi).2.2 = 0) (hr : ¬ (Um.runAll p lo hi steps).2.2 = 0) (hnb : false = (Um.small p n && (decide (lo ≤ n) && (decide (n ≤ hi) && (Um.exN n p p.length == 0))))) :
    Calls Tryd.prog 5 #[v, .agg #[.int .i64 lo, .int .i64 hi], .int .i64 n, .int .i64 steps] w fun e w' => e = .returned (.bool true) ∧ Below w.heap.size w w' := by
  have v0 := errV_none
  have q1 := errG
  have q2 := errGn
  have q3 := errE
  have q4 := errN
  have HF0 := fun v w hl => hid (step_any [-2000, 1000] v 0 8000 w hl)
  rw [Um.newt_fact] at HF0
  have HS := fun w hl => hid (rSmall_any p v n w hl)
  have HE := fun s w hl => hid (rExact_any p v n w hl s)
  have HT := fun w hl => hid (step_any p v lo hi w hl)
  have HR := fun w hl => hid (run_any p v lo hi steps w hl)
  have HP := fun B w hl => hid (pcheck_any B p v w hl)
  have HNB := hid hnb
  have kS : ((Um.newtAll p lo hi).2.2 == 0) = false := by simpa using hs
  clear hs
  have kR : ((Um.runAll p lo hi steps).2.2 != 0) = true := by simpa using hr
  clear hr
  clear hnb
  generalize Um.newtAll p lo hi = S at *
  generalize Um.runAll p lo hi steps = R at *
  generalize Um.small p n = Sm at *
  have hF := (Fr.start w).push lo hi rfl
  obtain ⟨a0, cap0, rfl, -⟩ := (id hl)
  go_enter Tryd.func5, Tryd.ntmps5
  go_upto_region 5 with (first | (go_at_call 12; refine (HF0 _ _ (Li.lit (p := [-2000, 1000]) (by simp) two_cells)).out.mono ?_; rintro e wn ⟨rfl, hb⟩; replace hF := (hF.alloc _).step hb; clear hb; clear HF0; replace hF := hF.push 2000 2000 rfl; have x0l := (hF.at 0 rfl).lo; have x0h := (hF.at 0 rfl).hi) | (go_at_call 14; refine (HS _ (hF.li hl)).out.mono ?_; rintro e wn ⟨rfl, rfl⟩; clear x0l x0h; have x1l := (hF.at 1 rfl).lo; have x1h := (hF.at 1 rfl).hi))
  go_cut [12] from 37 to 55 (fun v wr => v = .bool false ∧ Fr w wr [(w.heap.size, lo, hi)])
  case first =>
    clear HT HR HP
    try clear HNO
    cases Sm
    · go_wp2
      go_meet
      case rel => exact ⟨rfl, hF.drop⟩
    · replace HE := fun w hl => HE rfl w hl
      by_cases n1 : lo ≤ n
      · have t1 : decide (lo ≤ n) = true := by simpa using n1
        rw [t1] at HNB
        by_cases n2 : n ≤ hi
        · have t2 : decide (n ≤ hi) = true := by simpa using n2
          rw [t2] at HNB
          clear n1 n2
          generalize Um.exN n p p.length = E at *
          have HNE2 : Hid ((E == 0) = false) := HNB.out.symm
          go_wp2_with (go_at_call 15; refine (HE _ (hF.li hl)).out.mono ?_; rintro e wn ⟨rfl, rfl⟩)
          go_meet
          case rel => exact ⟨vb HNE2.out, hF.drop⟩
        · have t2 : decide (n ≤ hi) = false := by simpa using n2
          rw [t2] at HNB
          clear n1 n2 HE
          go_wp2
          go_meet
          case rel => exact ⟨rfl, hF.drop⟩
      · have t1 : decide (lo ≤ n) = false := by simpa using n1
        rw [t1] at HNB
        clear n1 HE
        go_wp2
        go_meet
        case rel => exact ⟨rfl, hF.drop⟩
  case rest =>
    clear hF HE HNB x1l x1h
    obtain ⟨rfl, hF⟩ := hcut
    have x0l := (hF.at 0 rfl).lo
    have x0h := (hF.at 0 rfl).hi
    by_cases h5 : S.2.2 = 5
    · have k5 : (S.2.2 == 5) = true := by simpa using h5
      by_cases hpc : Um.pchk p = 0
      · skip
        have kp : (Um.pchk p == 0) = true := by simpa using hpc
        have kp' : (Um.pchk p != 0) = false := by simpa using hpc
        clear h5 hpc
        generalize Um.pchk p = K at *
        go_wp2_with (first | (go_at_call 12; refine (HT _ (hF.li hl)).out.mono ?_; rintro e wn ⟨rfl, hb⟩; replace hF := hF.step hb; clear hb; clear x0l x0h; replace hF := hF.push S.1 S.2.1 rfl) | (go_at_call 8; refine (hid (same_any _ _ _ (hg.below (B := w.heap.size) hF.below hg.size))).out.mono ?_; rintro e wn ⟨rfl, hb⟩; replace hF := hF.step hb; clear hb; have x0l := (hF.at 0 rfl).lo; have x0h := (hF.at 0 rfl).hi; have x1l := (hF.at 1 rfl).lo; have x1h := (hF.at 1 rfl).hi) | (go_at_call 16; refine (HP _ _ (hF.li hl)).out.mono ?_; rintro e wn ⟨rfl, rfl⟩) | (go_at_call 13; refine (HR _ (hF.li hl)).out.mono ?_; rintro e wn ⟨rfl, hb⟩; replace hF := hF.step hb; clear hb; clear x0l x0h x1l x1h; replace hF := hF.push R.1 R.2.1 rfl; have x0l := (hF.at 0 rfl).lo; have x0h := (hF.at 0 rfl).hi; have x2l := (hF.at 2 rfl).lo; have x2h := (hF.at 2 rfl).hi))
        go_returns
        exact ⟨rfl, hF.below⟩
      · have kp : (Um.pchk p == 0) = false := by simpa using hpc
        have kp' : (Um.pchk p != 0) = true := by simpa using hpc
        clear h5 hpc 
        generalize Um.pchk p = K at *
        go_wp2_with (first | (go_at_call 12; refine (HT _ (hF.li hl)).out.mono ?_; rintro e wn ⟨rfl, hb⟩; replace hF := hF.step hb; clear hb; clear x0l x0h; replace hF := hF.push S.1 S.2.1 rfl) | (go_at_call 8; refine (hid (same_any _ _ _ (hg.below (B := w.heap.size) hF.below hg.size))).out.mono ?_; rintro e wn ⟨rfl, hb⟩; replace hF := hF.step hb; clear hb; have x0l := (hF.at 0 rfl).lo; have x0h := (hF.at 0 rfl).hi; have x1l := (hF.at 1 rfl).lo; have x1h := (hF.at 1 rfl).hi) | (go_at_call 16; refine (HP _ _ (hF.li hl)).out.mono ?_; rintro e wn ⟨rfl, rfl⟩) | (go_at_call 13; refine (HR _ (hF.li hl)).out.mono ?_; rintro e wn ⟨rfl, hb⟩; replace hF := hF.step hb; clear hb; clear x0l x0h x1l x1h; replace hF := hF.push R.1 R.2.1 rfl; have x0l := (hF.at 0 rfl).lo; have x0h := (hF.at 0 rfl).hi; have x2l := (hF.at 2 rfl).lo; have x2h := (hF.at 2 rfl).hi))
        go_returns
        exact ⟨rfl, hF.below⟩
    · have k5 : (S.2.2 == 5) = false := by simpa using h5
      clear h5 
      go_wp2_with (first | (go_at_call 12; refine (HT _ (hF.li hl)).out.mono ?_; rintro e wn ⟨rfl, hb⟩; replace hF := hF.step hb; clear hb; clear x0l x0h; replace hF := hF.push S.1 S.2.1 rfl) | (go_at_call 8; refine (hid (same_any _ _ _ (hg.below (B := w.heap.size) hF.below hg.size))).out.mono ?_; rintro e wn ⟨rfl, hb⟩; replace hF := hF.step hb; clear hb; have x0l := (hF.at 0 rfl).lo; have x0h := (hF.at 0 rfl).hi; have x1l := (hF.at 1 rfl).lo; have x1h := (hF.at 1 rfl).hi) | (go_at_call 16; refine (HP _ _ (hF.li hl)).out.mono ?_; rintro e wn ⟨rfl, rfl⟩) | (go_at_call 13; refine (HR _ (hF.li hl)).out.mono ?_; rintro e wn ⟨rfl, hb⟩; replace hF := hF.step hb; clear hb; clear x0l x0h x1l x1h; replace hF := hF.push R.1 R.2.1 rfl; have x0l := (hF.at 0 rfl).lo; have x0h := (hF.at 0 rfl).hi; have x2l := (hF.at 2 rfl).lo; have x2h := (hF.at 2 rfl).hi))
      go_returns
      exact ⟨rfl, hF.below⟩

set_option maxRecDepth 100000 in
set_option maxHeartbeats 8000000 in
theorem walk_true_sr (p : List Int) (v : Value) (lo hi n steps : Int) (w : World) (hl : Li w.heap.size w v p) (hg : HasErr w) (hs : (Um.newtAll p lo hi).2.2 = 0) (hr : (Um.runAll p lo hi steps).2.2 = 0) (hnb : true = (Um.small p n && (decide (lo ≤ n) && (decide (n ≤ hi) && (Um.exN n p p.length == 0))))) :
    Calls Tryd.prog 5 #[v, .agg #[.int .i64 lo, .int .i64 hi], .int .i64 n, .int .i64 steps] w fun e w' => e = .returned (.bool true) ∧ Below w.heap.size w w' := by
  have v0 := errV_none
  have q1 := errG
  have q2 := errGn
  have q3 := errE
  have q4 := errN
  have HF0 := fun v w hl => hid (step_any [-2000, 1000] v 0 8000 w hl)
  rw [Um.newt_fact] at HF0
  have HS := fun w hl => hid (rSmall_any p v n w hl)
  have HE := fun s w hl => hid (rExact_any p v n w hl s)
  have HT := fun w hl => hid (step_any p v lo hi w hl)
  have HR := fun w hl => hid (run_any p v lo hi steps w hl)
  have HP := fun B w hl => hid (pcheck_any B p v w hl)
  have HNB := hid hnb
  obtain ⟨b1, b2, b3⟩ : lo ≤ n ∧ n ≤ hi ∧ Um.exN n p p.length = 0 := by
    have e := hnb
    simp at e
    exact e.2
  obtain ⟨-, g1, g2, g3⟩ := within hs
  have kS : ((Um.newtAll p lo hi).2.2 == 0) = true := by simpa using hs
  have jS : ((Um.newtAll p lo hi).2.2 == 5) = false := by rw [hs]; rfl
  have r1 : decide ((Um.newtAll p lo hi).1 < lo) = false := by simpa using g1
  have r2 : decide (hi < (Um.newtAll p lo hi).2.1) = false := by simpa using g3
  have r3 : decide ((Um.newtAll p lo hi).2.1 < (Um.newtAll p lo hi).1) = false := by simpa using g2
  obtain ⟨g4, g5⟩ := kept b1 b2 b3 hs
  have r4 : decide (n < (Um.newtAll p lo hi).1) = false := by simpa using g4
  have r5 : decide ((Um.newtAll p lo hi).2.1 < n) = false := by simpa using g5
  clear g4 g5
  clear g1 g2 g3 hs
  obtain ⟨-, g1, g2⟩ := run_within hr
  have kR : ((Um.runAll p lo hi steps).2.2 != 0) = false := by simpa using hr
  have u1 : decide (lo ≤ (Um.runAll p lo hi steps).1) = true := by simpa using g1
  have u2 : decide ((Um.runAll p lo hi steps).2.1 ≤ hi) = true := by simpa using g2
  obtain ⟨g4, g5⟩ := run_kept b1 b2 b3 hr
  have u3 : decide ((Um.runAll p lo hi steps).1 ≤ n) = true := by simpa using g4
  have u4 : decide (n ≤ (Um.runAll p lo hi steps).2.1) = true := by simpa using g5
  clear g4 g5
  clear g1 g2 hr
  clear hnb b1 b2 b3
  generalize Um.newtAll p lo hi = S at *
  generalize Um.runAll p lo hi steps = R at *
  generalize Um.small p n = Sm at *
  have hF := (Fr.start w).push lo hi rfl
  obtain ⟨a0, cap0, rfl, -⟩ := (id hl)
  go_enter Tryd.func5, Tryd.ntmps5
  go_upto_region 5 with (first | (go_at_call 12; refine (HF0 _ _ (Li.lit (p := [-2000, 1000]) (by simp) two_cells)).out.mono ?_; rintro e wn ⟨rfl, hb⟩; replace hF := (hF.alloc _).step hb; clear hb; clear HF0; replace hF := hF.push 2000 2000 rfl; have x0l := (hF.at 0 rfl).lo; have x0h := (hF.at 0 rfl).hi) | (go_at_call 14; refine (HS _ (hF.li hl)).out.mono ?_; rintro e wn ⟨rfl, rfl⟩; clear x0l x0h; have x1l := (hF.at 1 rfl).lo; have x1h := (hF.at 1 rfl).hi))
  go_cut [12] from 37 to 55 (fun v wr => v = .bool true ∧ Fr w wr [(w.heap.size, lo, hi)])
  case first =>
    clear HT HR HP
    try clear HNO
    cases Sm
    · cases HNB.out
    · replace HE := fun w hl => HE rfl w hl
      by_cases n1 : lo ≤ n
      · have t1 : decide (lo ≤ n) = true := by simpa using n1
        rw [t1] at HNB
        by_cases n2 : n ≤ hi
        · have t2 : decide (n ≤ hi) = true := by simpa using n2
          rw [t2] at HNB
          clear n1 n2
          generalize Um.exN n p p.length = E at *
          have HNE2 : Hid ((E == 0) = true) := HNB.out.symm
          go_wp2_with (go_at_call 15; refine (HE _ (hF.li hl)).out.mono ?_; rintro e wn ⟨rfl, rfl⟩)
          go_meet
          case rel => exact ⟨vb HNE2.out, hF.drop⟩
        · have t2 : decide (n ≤ hi) = false := by simpa using n2
          rw [t2] at HNB
          clear n1 n2 HE
          cases HNB.out
      · have t1 : decide (lo ≤ n) = false := by simpa using n1
        rw [t1] at HNB
        clear n1 HE
        cases HNB.out
  case rest =>
    clear hF HE HNB x1l x1h
    obtain ⟨rfl, hF⟩ := hcut
    have x0l := (hF.at 0 rfl).lo
    have x0h := (hF.at 0 rfl).hi
    go_wp2_with (first | (go_at_call 12; refine (HT _ (hF.li hl)).out.mono ?_; rintro e wn ⟨rfl, hb⟩; replace hF := hF.step hb; clear hb; clear x0l x0h; replace hF := hF.push S.1 S.2.1 rfl) | (go_at_call 8; refine (hid (same_any _ _ _ (hg.below (B := w.heap.size) hF.below hg.size))).out.mono ?_; rintro e wn ⟨rfl, hb⟩; replace hF := hF.step hb; clear hb; have x0l := (hF.at 0 rfl).lo; have x0h := (hF.at 0 rfl).hi; have x1l := (hF.at 1 rfl).lo; have x1h := (hF.at 1 rfl).hi) | (go_at_call 16; refine (HP _ _ (hF.li hl)).out.mono ?_; rintro e wn ⟨rfl, rfl⟩) | (go_at_call 13; refine (HR _ (hF.li hl)).out.mono ?_; rintro e wn ⟨rfl, hb⟩; replace hF := hF.step hb; clear hb; clear x0l x0h x1l x1h; replace hF := hF.push R.1 R.2.1 rfl; have x0l := (hF.at 0 rfl).lo; have x0h := (hF.at 0 rfl).hi; have x2l := (hF.at 2 rfl).lo; have x2h := (hF.at 2 rfl).hi))
    go_returns
    exact ⟨rfl, hF.below⟩

set_option maxRecDepth 100000 in
set_option maxHeartbeats 8000000 in
theorem walk_true_se (p : List Int) (v : Value) (lo hi n steps : Int) (w : World) (hl : Li w.heap.size w v p) (hg : HasErr w) (hs : (Um.newtAll p lo hi).2.2 = 0) (hr : ¬ (Um.runAll p lo hi steps).2.2 = 0) (hnb : true = (Um.small p n && (decide (lo ≤ n) && (decide (n ≤ hi) && (Um.exN n p p.length == 0))))) :
    Calls Tryd.prog 5 #[v, .agg #[.int .i64 lo, .int .i64 hi], .int .i64 n, .int .i64 steps] w fun e w' => e = .returned (.bool true) ∧ Below w.heap.size w w' := by
  have v0 := errV_none
  have q1 := errG
  have q2 := errGn
  have q3 := errE
  have q4 := errN
  have HF0 := fun v w hl => hid (step_any [-2000, 1000] v 0 8000 w hl)
  rw [Um.newt_fact] at HF0
  have HS := fun w hl => hid (rSmall_any p v n w hl)
  have HE := fun s w hl => hid (rExact_any p v n w hl s)
  have HT := fun w hl => hid (step_any p v lo hi w hl)
  have HR := fun w hl => hid (run_any p v lo hi steps w hl)
  have HP := fun B w hl => hid (pcheck_any B p v w hl)
  have HNB := hid hnb
  obtain ⟨b1, b2, b3⟩ : lo ≤ n ∧ n ≤ hi ∧ Um.exN n p p.length = 0 := by
    have e := hnb
    simp at e
    exact e.2
  obtain ⟨-, g1, g2, g3⟩ := within hs
  have kS : ((Um.newtAll p lo hi).2.2 == 0) = true := by simpa using hs
  have jS : ((Um.newtAll p lo hi).2.2 == 5) = false := by rw [hs]; rfl
  have r1 : decide ((Um.newtAll p lo hi).1 < lo) = false := by simpa using g1
  have r2 : decide (hi < (Um.newtAll p lo hi).2.1) = false := by simpa using g3
  have r3 : decide ((Um.newtAll p lo hi).2.1 < (Um.newtAll p lo hi).1) = false := by simpa using g2
  obtain ⟨g4, g5⟩ := kept b1 b2 b3 hs
  have r4 : decide (n < (Um.newtAll p lo hi).1) = false := by simpa using g4
  have r5 : decide ((Um.newtAll p lo hi).2.1 < n) = false := by simpa using g5
  clear g4 g5
  clear g1 g2 g3 hs
  have kR : ((Um.runAll p lo hi steps).2.2 != 0) = true := by simpa using hr
  clear hr
  clear hnb b1 b2 b3
  generalize Um.newtAll p lo hi = S at *
  generalize Um.runAll p lo hi steps = R at *
  generalize Um.small p n = Sm at *
  have hF := (Fr.start w).push lo hi rfl
  obtain ⟨a0, cap0, rfl, -⟩ := (id hl)
  go_enter Tryd.func5, Tryd.ntmps5
  go_upto_region 5 with (first | (go_at_call 12; refine (HF0 _ _ (Li.lit (p := [-2000, 1000]) (by simp) two_cells)).out.mono ?_; rintro e wn ⟨rfl, hb⟩; replace hF := (hF.alloc _).step hb; clear hb; clear HF0; replace hF := hF.push 2000 2000 rfl; have x0l := (hF.at 0 rfl).lo; have x0h := (hF.at 0 rfl).hi) | (go_at_call 14; refine (HS _ (hF.li hl)).out.mono ?_; rintro e wn ⟨rfl, rfl⟩; clear x0l x0h; have x1l := (hF.at 1 rfl).lo; have x1h := (hF.at 1 rfl).hi))
  go_cut [12] from 37 to 55 (fun v wr => v = .bool true ∧ Fr w wr [(w.heap.size, lo, hi)])
  case first =>
    clear HT HR HP
    try clear HNO
    cases Sm
    · cases HNB.out
    · replace HE := fun w hl => HE rfl w hl
      by_cases n1 : lo ≤ n
      · have t1 : decide (lo ≤ n) = true := by simpa using n1
        rw [t1] at HNB
        by_cases n2 : n ≤ hi
        · have t2 : decide (n ≤ hi) = true := by simpa using n2
          rw [t2] at HNB
          clear n1 n2
          generalize Um.exN n p p.length = E at *
          have HNE2 : Hid ((E == 0) = true) := HNB.out.symm
          go_wp2_with (go_at_call 15; refine (HE _ (hF.li hl)).out.mono ?_; rintro e wn ⟨rfl, rfl⟩)
          go_meet
          case rel => exact ⟨vb HNE2.out, hF.drop⟩
        · have t2 : decide (n ≤ hi) = false := by simpa using n2
          rw [t2] at HNB
          clear n1 n2 HE
          cases HNB.out
      · have t1 : decide (lo ≤ n) = false := by simpa using n1
        rw [t1] at HNB
        clear n1 HE
        cases HNB.out
  case rest =>
    clear hF HE HNB x1l x1h
    obtain ⟨rfl, hF⟩ := hcut
    have x0l := (hF.at 0 rfl).lo
    have x0h := (hF.at 0 rfl).hi
    go_wp2_with (first | (go_at_call 12; refine (HT _ (hF.li hl)).out.mono ?_; rintro e wn ⟨rfl, hb⟩; replace hF := hF.step hb; clear hb; clear x0l x0h; replace hF := hF.push S.1 S.2.1 rfl) | (go_at_call 8; refine (hid (same_any _ _ _ (hg.below (B := w.heap.size) hF.below hg.size))).out.mono ?_; rintro e wn ⟨rfl, hb⟩; replace hF := hF.step hb; clear hb; have x0l := (hF.at 0 rfl).lo; have x0h := (hF.at 0 rfl).hi; have x1l := (hF.at 1 rfl).lo; have x1h := (hF.at 1 rfl).hi) | (go_at_call 16; refine (HP _ _ (hF.li hl)).out.mono ?_; rintro e wn ⟨rfl, rfl⟩) | (go_at_call 13; refine (HR _ (hF.li hl)).out.mono ?_; rintro e wn ⟨rfl, hb⟩; replace hF := hF.step hb; clear hb; clear x0l x0h x1l x1h; replace hF := hF.push R.1 R.2.1 rfl; have x0l := (hF.at 0 rfl).lo; have x0h := (hF.at 0 rfl).hi; have x2l := (hF.at 2 rfl).lo; have x2h := (hF.at 2 rfl).hi))
    go_returns
    exact ⟨rfl, hF.below⟩

set_option maxRecDepth 100000 in
set_option maxHeartbeats 8000000 in
theorem walk_true_er (p : List Int) (v : Value) (lo hi n steps : Int) (w : World) (hl : Li w.heap.size w v p) (hg : HasErr w) (hs : ¬ (Um.newtAll p lo hi).2.2 = 0) (hr : (Um.runAll p lo hi steps).2.2 = 0) (hnb : true = (Um.small p n && (decide (lo ≤ n) && (decide (n ≤ hi) && (Um.exN n p p.length == 0))))) :
    Calls Tryd.prog 5 #[v, .agg #[.int .i64 lo, .int .i64 hi], .int .i64 n, .int .i64 steps] w fun e w' => e = .returned (.bool true) ∧ Below w.heap.size w w' := by
  have v0 := errV_none
  have q1 := errG
  have q2 := errGn
  have q3 := errE
  have q4 := errN
  have HF0 := fun v w hl => hid (step_any [-2000, 1000] v 0 8000 w hl)
  rw [Um.newt_fact] at HF0
  have HS := fun w hl => hid (rSmall_any p v n w hl)
  have HE := fun s w hl => hid (rExact_any p v n w hl s)
  have HT := fun w hl => hid (step_any p v lo hi w hl)
  have HR := fun w hl => hid (run_any p v lo hi steps w hl)
  have HP := fun B w hl => hid (pcheck_any B p v w hl)
  have HNB := hid hnb
  obtain ⟨b1, b2, b3⟩ : lo ≤ n ∧ n ≤ hi ∧ Um.exN n p p.length = 0 := by
    have e := hnb
    simp at e
    exact e.2
  have HNO := hid (fun hp => nowhere (lo := lo) (hi := hi) b1 b2 b3 hp)
  have kS : ((Um.newtAll p lo hi).2.2 == 0) = false := by simpa using hs
  clear hs
  obtain ⟨-, g1, g2⟩ := run_within hr
  have kR : ((Um.runAll p lo hi steps).2.2 != 0) = false := by simpa using hr
  have u1 : decide (lo ≤ (Um.runAll p lo hi steps).1) = true := by simpa using g1
  have u2 : decide ((Um.runAll p lo hi steps).2.1 ≤ hi) = true := by simpa using g2
  obtain ⟨g4, g5⟩ := run_kept b1 b2 b3 hr
  have u3 : decide ((Um.runAll p lo hi steps).1 ≤ n) = true := by simpa using g4
  have u4 : decide (n ≤ (Um.runAll p lo hi steps).2.1) = true := by simpa using g5
  clear g4 g5
  clear g1 g2 hr
  clear hnb b1 b2 b3
  generalize Um.newtAll p lo hi = S at *
  generalize Um.runAll p lo hi steps = R at *
  generalize Um.small p n = Sm at *
  have hF := (Fr.start w).push lo hi rfl
  obtain ⟨a0, cap0, rfl, -⟩ := (id hl)
  go_enter Tryd.func5, Tryd.ntmps5
  go_upto_region 5 with (first | (go_at_call 12; refine (HF0 _ _ (Li.lit (p := [-2000, 1000]) (by simp) two_cells)).out.mono ?_; rintro e wn ⟨rfl, hb⟩; replace hF := (hF.alloc _).step hb; clear hb; clear HF0; replace hF := hF.push 2000 2000 rfl; have x0l := (hF.at 0 rfl).lo; have x0h := (hF.at 0 rfl).hi) | (go_at_call 14; refine (HS _ (hF.li hl)).out.mono ?_; rintro e wn ⟨rfl, rfl⟩; clear x0l x0h; have x1l := (hF.at 1 rfl).lo; have x1h := (hF.at 1 rfl).hi))
  go_cut [12] from 37 to 55 (fun v wr => v = .bool true ∧ Fr w wr [(w.heap.size, lo, hi)])
  case first =>
    clear HT HR HP
    try clear HNO
    cases Sm
    · cases HNB.out
    · replace HE := fun w hl => HE rfl w hl
      by_cases n1 : lo ≤ n
      · have t1 : decide (lo ≤ n) = true := by simpa using n1
        rw [t1] at HNB
        by_cases n2 : n ≤ hi
        · have t2 : decide (n ≤ hi) = true := by simpa using n2
          rw [t2] at HNB
          clear n1 n2
          generalize Um.exN n p p.length = E at *
          have HNE2 : Hid ((E == 0) = true) := HNB.out.symm
          go_wp2_with (go_at_call 15; refine (HE _ (hF.li hl)).out.mono ?_; rintro e wn ⟨rfl, rfl⟩)
          go_meet
          case rel => exact ⟨vb HNE2.out, hF.drop⟩
        · have t2 : decide (n ≤ hi) = false := by simpa using n2
          rw [t2] at HNB
          clear n1 n2 HE
          cases HNB.out
      · have t1 : decide (lo ≤ n) = false := by simpa using n1
        rw [t1] at HNB
        clear n1 HE
        cases HNB.out
  case rest =>
    clear hF HE HNB x1l x1h
    obtain ⟨rfl, hF⟩ := hcut
    have x0l := (hF.at 0 rfl).lo
    have x0h := (hF.at 0 rfl).hi
    by_cases h5 : S.2.2 = 5
    · have k5 : (S.2.2 == 5) = true := by simpa using h5
      by_cases hpc : Um.pchk p = 0
      · skip
        exact absurd h5 (HNO.out hpc)
      · have kp : (Um.pchk p == 0) = false := by simpa using hpc
        have kp' : (Um.pchk p != 0) = true := by simpa using hpc
        clear h5 hpc HNO
        generalize Um.pchk p = K at *
        go_wp2_with (first | (go_at_call 12; refine (HT _ (hF.li hl)).out.mono ?_; rintro e wn ⟨rfl, hb⟩; replace hF := hF.step hb; clear hb; clear x0l x0h; replace hF := hF.push S.1 S.2.1 rfl) | (go_at_call 8; refine (hid (same_any _ _ _ (hg.below (B := w.heap.size) hF.below hg.size))).out.mono ?_; rintro e wn ⟨rfl, hb⟩; replace hF := hF.step hb; clear hb; have x0l := (hF.at 0 rfl).lo; have x0h := (hF.at 0 rfl).hi; have x1l := (hF.at 1 rfl).lo; have x1h := (hF.at 1 rfl).hi) | (go_at_call 16; refine (HP _ _ (hF.li hl)).out.mono ?_; rintro e wn ⟨rfl, rfl⟩) | (go_at_call 13; refine (HR _ (hF.li hl)).out.mono ?_; rintro e wn ⟨rfl, hb⟩; replace hF := hF.step hb; clear hb; clear x0l x0h x1l x1h; replace hF := hF.push R.1 R.2.1 rfl; have x0l := (hF.at 0 rfl).lo; have x0h := (hF.at 0 rfl).hi; have x2l := (hF.at 2 rfl).lo; have x2h := (hF.at 2 rfl).hi))
        go_returns
        exact ⟨rfl, hF.below⟩
    · have k5 : (S.2.2 == 5) = false := by simpa using h5
      clear h5 HNO
      go_wp2_with (first | (go_at_call 12; refine (HT _ (hF.li hl)).out.mono ?_; rintro e wn ⟨rfl, hb⟩; replace hF := hF.step hb; clear hb; clear x0l x0h; replace hF := hF.push S.1 S.2.1 rfl) | (go_at_call 8; refine (hid (same_any _ _ _ (hg.below (B := w.heap.size) hF.below hg.size))).out.mono ?_; rintro e wn ⟨rfl, hb⟩; replace hF := hF.step hb; clear hb; have x0l := (hF.at 0 rfl).lo; have x0h := (hF.at 0 rfl).hi; have x1l := (hF.at 1 rfl).lo; have x1h := (hF.at 1 rfl).hi) | (go_at_call 16; refine (HP _ _ (hF.li hl)).out.mono ?_; rintro e wn ⟨rfl, rfl⟩) | (go_at_call 13; refine (HR _ (hF.li hl)).out.mono ?_; rintro e wn ⟨rfl, hb⟩; replace hF := hF.step hb; clear hb; clear x0l x0h x1l x1h; replace hF := hF.push R.1 R.2.1 rfl; have x0l := (hF.at 0 rfl).lo; have x0h := (hF.at 0 rfl).hi; have x2l := (hF.at 2 rfl).lo; have x2h := (hF.at 2 rfl).hi))
      go_returns
      exact ⟨rfl, hF.below⟩

set_option maxRecDepth 100000 in
set_option maxHeartbeats 8000000 in
theorem walk_true_ee (p : List Int) (v : Value) (lo hi n steps : Int) (w : World) (hl : Li w.heap.size w v p) (hg : HasErr w) (hs : ¬ (Um.newtAll p lo hi).2.2 = 0) (hr : ¬ (Um.runAll p lo hi steps).2.2 = 0) (hnb : true = (Um.small p n && (decide (lo ≤ n) && (decide (n ≤ hi) && (Um.exN n p p.length == 0))))) :
    Calls Tryd.prog 5 #[v, .agg #[.int .i64 lo, .int .i64 hi], .int .i64 n, .int .i64 steps] w fun e w' => e = .returned (.bool true) ∧ Below w.heap.size w w' := by
  have v0 := errV_none
  have q1 := errG
  have q2 := errGn
  have q3 := errE
  have q4 := errN
  have HF0 := fun v w hl => hid (step_any [-2000, 1000] v 0 8000 w hl)
  rw [Um.newt_fact] at HF0
  have HS := fun w hl => hid (rSmall_any p v n w hl)
  have HE := fun s w hl => hid (rExact_any p v n w hl s)
  have HT := fun w hl => hid (step_any p v lo hi w hl)
  have HR := fun w hl => hid (run_any p v lo hi steps w hl)
  have HP := fun B w hl => hid (pcheck_any B p v w hl)
  have HNB := hid hnb
  obtain ⟨b1, b2, b3⟩ : lo ≤ n ∧ n ≤ hi ∧ Um.exN n p p.length = 0 := by
    have e := hnb
    simp at e
    exact e.2
  have HNO := hid (fun hp => nowhere (lo := lo) (hi := hi) b1 b2 b3 hp)
  have kS : ((Um.newtAll p lo hi).2.2 == 0) = false := by simpa using hs
  clear hs
  have kR : ((Um.runAll p lo hi steps).2.2 != 0) = true := by simpa using hr
  clear hr
  clear hnb b1 b2 b3
  generalize Um.newtAll p lo hi = S at *
  generalize Um.runAll p lo hi steps = R at *
  generalize Um.small p n = Sm at *
  have hF := (Fr.start w).push lo hi rfl
  obtain ⟨a0, cap0, rfl, -⟩ := (id hl)
  go_enter Tryd.func5, Tryd.ntmps5
  go_upto_region 5 with (first | (go_at_call 12; refine (HF0 _ _ (Li.lit (p := [-2000, 1000]) (by simp) two_cells)).out.mono ?_; rintro e wn ⟨rfl, hb⟩; replace hF := (hF.alloc _).step hb; clear hb; clear HF0; replace hF := hF.push 2000 2000 rfl; have x0l := (hF.at 0 rfl).lo; have x0h := (hF.at 0 rfl).hi) | (go_at_call 14; refine (HS _ (hF.li hl)).out.mono ?_; rintro e wn ⟨rfl, rfl⟩; clear x0l x0h; have x1l := (hF.at 1 rfl).lo; have x1h := (hF.at 1 rfl).hi))
  go_cut [12] from 37 to 55 (fun v wr => v = .bool true ∧ Fr w wr [(w.heap.size, lo, hi)])
  case first =>
    clear HT HR HP
    try clear HNO
    cases Sm
    · cases HNB.out
    · replace HE := fun w hl => HE rfl w hl
      by_cases n1 : lo ≤ n
      · have t1 : decide (lo ≤ n) = true := by simpa using n1
        rw [t1] at HNB
        by_cases n2 : n ≤ hi
        · have t2 : decide (n ≤ hi) = true := by simpa using n2
          rw [t2] at HNB
          clear n1 n2
          generalize Um.exN n p p.length = E at *
          have HNE2 : Hid ((E == 0) = true) := HNB.out.symm
          go_wp2_with (go_at_call 15; refine (HE _ (hF.li hl)).out.mono ?_; rintro e wn ⟨rfl, rfl⟩)
          go_meet
          case rel => exact ⟨vb HNE2.out, hF.drop⟩
        · have t2 : decide (n ≤ hi) = false := by simpa using n2
          rw [t2] at HNB
          clear n1 n2 HE
          cases HNB.out
      · have t1 : decide (lo ≤ n) = false := by simpa using n1
        rw [t1] at HNB
        clear n1 HE
        cases HNB.out
  case rest =>
    clear hF HE HNB x1l x1h
    obtain ⟨rfl, hF⟩ := hcut
    have x0l := (hF.at 0 rfl).lo
    have x0h := (hF.at 0 rfl).hi
    by_cases h5 : S.2.2 = 5
    · have k5 : (S.2.2 == 5) = true := by simpa using h5
      by_cases hpc : Um.pchk p = 0
      · skip
        exact absurd h5 (HNO.out hpc)
      · have kp : (Um.pchk p == 0) = false := by simpa using hpc
        have kp' : (Um.pchk p != 0) = true := by simpa using hpc
        clear h5 hpc HNO
        generalize Um.pchk p = K at *
        go_wp2_with (first | (go_at_call 12; refine (HT _ (hF.li hl)).out.mono ?_; rintro e wn ⟨rfl, hb⟩; replace hF := hF.step hb; clear hb; clear x0l x0h; replace hF := hF.push S.1 S.2.1 rfl) | (go_at_call 8; refine (hid (same_any _ _ _ (hg.below (B := w.heap.size) hF.below hg.size))).out.mono ?_; rintro e wn ⟨rfl, hb⟩; replace hF := hF.step hb; clear hb; have x0l := (hF.at 0 rfl).lo; have x0h := (hF.at 0 rfl).hi; have x1l := (hF.at 1 rfl).lo; have x1h := (hF.at 1 rfl).hi) | (go_at_call 16; refine (HP _ _ (hF.li hl)).out.mono ?_; rintro e wn ⟨rfl, rfl⟩) | (go_at_call 13; refine (HR _ (hF.li hl)).out.mono ?_; rintro e wn ⟨rfl, hb⟩; replace hF := hF.step hb; clear hb; clear x0l x0h x1l x1h; replace hF := hF.push R.1 R.2.1 rfl; have x0l := (hF.at 0 rfl).lo; have x0h := (hF.at 0 rfl).hi; have x2l := (hF.at 2 rfl).lo; have x2h := (hF.at 2 rfl).hi))
        go_returns
        exact ⟨rfl, hF.below⟩
    · have k5 : (S.2.2 == 5) = false := by simpa using h5
      clear h5 HNO
      go_wp2_with (first | (go_at_call 12; refine (HT _ (hF.li hl)).out.mono ?_; rintro e wn ⟨rfl, hb⟩; replace hF := hF.step hb; clear hb; clear x0l x0h; replace hF := hF.push S.1 S.2.1 rfl) | (go_at_call 8; refine (hid (same_any _ _ _ (hg.below (B := w.heap.size) hF.below hg.size))).out.mono ?_; rintro e wn ⟨rfl, hb⟩; replace hF := hF.step hb; clear hb; have x0l := (hF.at 0 rfl).lo; have x0h := (hF.at 0 rfl).hi; have x1l := (hF.at 1 rfl).lo; have x1h := (hF.at 1 rfl).hi) | (go_at_call 16; refine (HP _ _ (hF.li hl)).out.mono ?_; rintro e wn ⟨rfl, rfl⟩) | (go_at_call 13; refine (HR _ (hF.li hl)).out.mono ?_; rintro e wn ⟨rfl, hb⟩; replace hF := hF.step hb; clear hb; clear x0l x0h x1l x1h; replace hF := hF.push R.1 R.2.1 rfl; have x0l := (hF.at 0 rfl).lo; have x0h := (hF.at 0 rfl).hi; have x2l := (hF.at 2 rfl).lo; have x2h := (hF.at 2 rfl).hi))
      go_returns
      exact ⟨rfl, hF.below⟩

theorem walk (p : List Int) (v : Value) (lo hi n steps : Int) (w : World) (hg : HasErr w) (hl : Li w.heap.size w v p) :
    Calls Tryd.prog 5 #[v, .agg #[.int .i64 lo, .int .i64 hi], .int .i64 n, .int .i64 steps] w fun e w' => e = .returned (.bool true) ∧ Below w.heap.size w w' := by
  cases hnb : (Um.small p n && (decide (lo ≤ n) && (decide (n ≤ hi) && (Um.exN n p p.length == 0))))
  · by_cases hs : (Um.newtAll p lo hi).2.2 = 0
    · by_cases hr : (Um.runAll p lo hi steps).2.2 = 0
      · exact walk_false_sr p v lo hi n steps w hl hg hs hr hnb.symm
      · exact walk_false_se p v lo hi n steps w hl hg hs hr hnb.symm
    · by_cases hr : (Um.runAll p lo hi steps).2.2 = 0
      · exact walk_false_er p v lo hi n steps w hl hg hs hr hnb.symm
      · exact walk_false_ee p v lo hi n steps w hl hg hs hr hnb.symm
  · by_cases hs : (Um.newtAll p lo hi).2.2 = 0
    · by_cases hr : (Um.runAll p lo hi steps).2.2 = 0
      · exact walk_true_sr p v lo hi n steps w hl hg hs hr hnb.symm
      · exact walk_true_se p v lo hi n steps w hl hg hs hr hnb.symm
    · by_cases hr : (Um.runAll p lo hi steps).2.2 = 0
      · exact walk_true_er p v lo hi n steps w hl hg hs hr hnb.symm
      · exact walk_true_ee p v lo hi n steps w hl hg hs hr hnb.symm
end Go.Proofs.YthoiiffdigkodaaDoor.NKeeps
