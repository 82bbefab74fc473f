/-
  The walk over 'spanlaw1.MonoHas': for all p, x, n, m it returns true.
-/
import Derived.Test.YtfmjndipanlcoaaMono
import Derived.Test.YtfmjndipanlcoaaRefVal
namespace Go.Proofs.Ytfmjndipanlcoaa.MHas
set_option linter.unusedSimpArgs false
open Go.RowKit

theorem fact1 : Um.monoAll [0, 0, 1000] 1000 2000 = (1000, 4000, 0) := by decide +kernel
theorem fact2 : Um.wayAll [0, 0, 1000] (-1000) 2000 = (0, 0) := by decide +kernel
/-- What it is is in its range. -/
theorem value {p : List Int} {lo hi n : Int} (h : (Um.monoAll p lo hi).2.2 = 0) (h1 : lo ≤ n) (h2 : n ≤ hi) :
    (Um.monoAll p lo hi).1 ≤ Um.fl (Um.exN n p p.length) 1000000000000 ∧ Um.ce (Um.exN n p p.length) 1000000000000 ≤ (Um.monoAll p lo hi).2.1 := by
  unfold Um.monoAll at *
  by_cases ho : Um.over p lo hi = 0
  · rw [if_pos ho] at h ⊢
    exact Um.mono_value ho h1 h2 h
  · rw [if_neg ho] at h; exact absurd h ho
/-- Where it goes one way alone. -/
theorem ways {p : List Int} {lo hi : Int} (h : (Um.wayAll p lo hi).2 = 0) :
    (Um.wayAll p lo hi).1 = 0 ∨ ((Um.wayAll p lo hi).1 = 1 ∧ ∀ n m, lo ≤ n → n ≤ hi → lo ≤ m → m ≤ hi → n ≤ m → Um.exN n p p.length ≤ Um.exN m p p.length) ∨
      ((Um.wayAll p lo hi).1 = -1 ∧ ∀ n m, lo ≤ n → n ≤ hi → lo ≤ m → m ≤ hi → n ≤ m → Um.exN m p p.length ≤ Um.exN n p p.length) := by
  unfold Um.wayAll Um.slopeAll at *
  by_cases ho : Um.over p lo hi = 0
  · rw [if_pos ho] at h ⊢
    obtain ⟨hp, hc⟩ := Um.over_ok.1 ho
    have hp' := Um.pchk_ok.1 hp
    by_cases hs : (Um.slopeR lo hi p).2.2 = 0
    · rw [if_pos hs]
      have hd : (Um.derR p).2 = 0 := by
        by_cases hd : (Um.derR p).2 = 0
        · exact hd
        · unfold Um.slopeR at hs; rw [if_neg hd] at hs; exact absurd hs (by decide)
      have e : Um.slopeR lo hi p = Um.hornR lo hi (Um.ders p) := by unfold Um.slopeR; rw [if_pos hd]
      rw [e] at hs ⊢
      rcases Um.way_cases (Um.hornR lo hi (Um.ders p)).1 (Um.hornR lo hi (Um.ders p)).2.1 with ⟨u1, e⟩ | ⟨_, u2, e⟩ | ⟨_, _, e⟩
      · exact .inr (.inl ⟨e, fun n m a b c d hnm => Um.rises hp'.1 hp'.2.1 a b c d hs u1 hnm⟩)
      · exact .inr (.inr ⟨e, fun n m a b c d hnm => Um.falls hp'.1 hp'.2.1 a b c d hs u2 hnm⟩)
      · exact .inl e
    · rw [if_neg hs] at h; exact absurd h hs
  · rw [if_neg ho] at h
    rw [if_neg ho] at h
    exact absurd h ho

set_option maxRecDepth 100000 in
set_option maxHeartbeats 8000000 in
theorem walk_big (p : List Int) (v : Value) (lo hi n m : Int) (w : World) (hl : Li w.heap.size w v p) (s1 : Um.small p n = false) :
    Calls Try.prog 8 #[v, .agg #[.int .i64 lo, .int .i64 hi], .int .i64 n, .int .i64 m] w fun e w' => e = .returned (.bool true) ∧ Below w.heap.size w w' := by
  have v0 := errV_none
  have q1 := errG
  have q2 := errGn
  have q3 := errE
  have q4 := errN
  have HF := fun v w hl => hid (mrange_any [0, 0, 1000] v 1000 2000 w hl)
  rw [fact1] at HF
  have HG := fun v w hl => hid (way_any [0, 0, 1000] v (-1000) 2000 w hl)
  rw [fact2] at HG
  have HS := fun k w hl => hid (rSmall_any p v k w hl)
  have hF := (Fr.start w).push lo hi rfl
  obtain ⟨a0, cap0, rfl, -⟩ := (id hl)
  go_enter Try.func8, Try.ntmps8
  go_wp2_with (first | (go_at_call 23; refine (HF _ _ (Li.lit (p := [0, 0, 1000]) (by simp) three_cells)).out.mono ?_; rintro e wn ⟨rfl, hb⟩; replace hF := (hF.alloc _).step hb; clear hb; clear HF; replace hF := hF.push 1000 4000 rfl) | (go_at_call 24; refine (HG _ _ (Li.lit (p := [0, 0, 1000]) (by simp) three_cells)).out.mono ?_; rintro e wn ⟨rfl, hb⟩; replace hF := (hF.alloc _).step hb; clear hb; clear HG; have x0l := (hF.at 0 rfl).lo; have x0h := (hF.at 0 rfl).hi; have x1l := (hF.at 1 rfl).lo; have x1h := (hF.at 1 rfl).hi) | (go_at_call 16; refine (HS _ _ (hF.li hl)).out.mono ?_; rintro e wn ⟨rfl, rfl⟩))
  go_returns
  exact ⟨rfl, hF.below⟩

set_option maxRecDepth 100000 in
set_option maxHeartbeats 8000000 in
theorem walk_big2 (p : List Int) (v : Value) (lo hi n m : Int) (w : World) (hl : Li w.heap.size w v p) (s1 : Um.small p n = true) (s2 : Um.small p m = false) :
    Calls Try.prog 8 #[v, .agg #[.int .i64 lo, .int .i64 hi], .int .i64 n, .int .i64 m] w fun e w' => e = .returned (.bool true) ∧ Below w.heap.size w w' := by
  have v0 := errV_none
  have q1 := errG
  have q2 := errGn
  have q3 := errE
  have q4 := errN
  have HF := fun v w hl => hid (mrange_any [0, 0, 1000] v 1000 2000 w hl)
  rw [fact1] at HF
  have HG := fun v w hl => hid (way_any [0, 0, 1000] v (-1000) 2000 w hl)
  rw [fact2] at HG
  have HS := fun k w hl => hid (rSmall_any p v k w hl)
  have hF := (Fr.start w).push lo hi rfl
  obtain ⟨a0, cap0, rfl, -⟩ := (id hl)
  go_enter Try.func8, Try.ntmps8
  go_wp2_with (first | (go_at_call 23; refine (HF _ _ (Li.lit (p := [0, 0, 1000]) (by simp) three_cells)).out.mono ?_; rintro e wn ⟨rfl, hb⟩; replace hF := (hF.alloc _).step hb; clear hb; clear HF; replace hF := hF.push 1000 4000 rfl) | (go_at_call 24; refine (HG _ _ (Li.lit (p := [0, 0, 1000]) (by simp) three_cells)).out.mono ?_; rintro e wn ⟨rfl, hb⟩; replace hF := (hF.alloc _).step hb; clear hb; clear HG; have x0l := (hF.at 0 rfl).lo; have x0h := (hF.at 0 rfl).hi; have x1l := (hF.at 1 rfl).lo; have x1h := (hF.at 1 rfl).hi) | (go_at_call 16; refine (HS _ _ (hF.li hl)).out.mono ?_; rintro e wn ⟨rfl, rfl⟩))
  go_returns
  exact ⟨rfl, hF.below⟩

set_option maxRecDepth 100000 in
set_option maxHeartbeats 8000000 in
theorem walk_out0 (p : List Int) (v : Value) (lo hi n m : Int) (w : World) (hl : Li w.heap.size w v p) (s1 : Um.small p n = true) (s2 : Um.small p m = true) (n1 : n < lo) :
    Calls Try.prog 8 #[v, .agg #[.int .i64 lo, .int .i64 hi], .int .i64 n, .int .i64 m] w fun e w' => e = .returned (.bool true) ∧ Below w.heap.size w w' := by
  have v0 := errV_none
  have q1 := errG
  have q2 := errGn
  have q3 := errE
  have q4 := errN
  have HF := fun v w hl => hid (mrange_any [0, 0, 1000] v 1000 2000 w hl)
  rw [fact1] at HF
  have HG := fun v w hl => hid (way_any [0, 0, 1000] v (-1000) 2000 w hl)
  rw [fact2] at HG
  have HS := fun k w hl => hid (rSmall_any p v k w hl)
  have tn1 : decide (n < lo) = true := by simpa using n1
  clear n1
  have hF := (Fr.start w).push lo hi rfl
  obtain ⟨a0, cap0, rfl, -⟩ := (id hl)
  go_enter Try.func8, Try.ntmps8
  go_wp2_with (first | (go_at_call 23; refine (HF _ _ (Li.lit (p := [0, 0, 1000]) (by simp) three_cells)).out.mono ?_; rintro e wn ⟨rfl, hb⟩; replace hF := (hF.alloc _).step hb; clear hb; clear HF; replace hF := hF.push 1000 4000 rfl) | (go_at_call 24; refine (HG _ _ (Li.lit (p := [0, 0, 1000]) (by simp) three_cells)).out.mono ?_; rintro e wn ⟨rfl, hb⟩; replace hF := (hF.alloc _).step hb; clear hb; clear HG; have x0l := (hF.at 0 rfl).lo; have x0h := (hF.at 0 rfl).hi; have x1l := (hF.at 1 rfl).lo; have x1h := (hF.at 1 rfl).hi) | (go_at_call 16; refine (HS _ _ (hF.li hl)).out.mono ?_; rintro e wn ⟨rfl, rfl⟩))
  go_returns
  exact ⟨rfl, hF.below⟩

set_option maxRecDepth 100000 in
set_option maxHeartbeats 8000000 in
theorem walk_out1 (p : List Int) (v : Value) (lo hi n m : Int) (w : World) (hl : Li w.heap.size w v p) (s1 : Um.small p n = true) (s2 : Um.small p m = true) (n1 : ¬ n < lo) (n2 : hi < n) :
    Calls Try.prog 8 #[v, .agg #[.int .i64 lo, .int .i64 hi], .int .i64 n, .int .i64 m] w fun e w' => e = .returned (.bool true) ∧ Below w.heap.size w w' := by
  have v0 := errV_none
  have q1 := errG
  have q2 := errGn
  have q3 := errE
  have q4 := errN
  have HF := fun v w hl => hid (mrange_any [0, 0, 1000] v 1000 2000 w hl)
  rw [fact1] at HF
  have HG := fun v w hl => hid (way_any [0, 0, 1000] v (-1000) 2000 w hl)
  rw [fact2] at HG
  have HS := fun k w hl => hid (rSmall_any p v k w hl)
  have tn1 : decide (n < lo) = false := by simpa using n1
  have tn2 : decide (hi < n) = true := by simpa using n2
  clear n1 n2
  have hF := (Fr.start w).push lo hi rfl
  obtain ⟨a0, cap0, rfl, -⟩ := (id hl)
  go_enter Try.func8, Try.ntmps8
  go_wp2_with (first | (go_at_call 23; refine (HF _ _ (Li.lit (p := [0, 0, 1000]) (by simp) three_cells)).out.mono ?_; rintro e wn ⟨rfl, hb⟩; replace hF := (hF.alloc _).step hb; clear hb; clear HF; replace hF := hF.push 1000 4000 rfl) | (go_at_call 24; refine (HG _ _ (Li.lit (p := [0, 0, 1000]) (by simp) three_cells)).out.mono ?_; rintro e wn ⟨rfl, hb⟩; replace hF := (hF.alloc _).step hb; clear hb; clear HG; have x0l := (hF.at 0 rfl).lo; have x0h := (hF.at 0 rfl).hi; have x1l := (hF.at 1 rfl).lo; have x1h := (hF.at 1 rfl).hi) | (go_at_call 16; refine (HS _ _ (hF.li hl)).out.mono ?_; rintro e wn ⟨rfl, rfl⟩))
  go_returns
  exact ⟨rfl, hF.below⟩

set_option maxRecDepth 100000 in
set_option maxHeartbeats 8000000 in
theorem walk_out2 (p : List Int) (v : Value) (lo hi n m : Int) (w : World) (hl : Li w.heap.size w v p) (s1 : Um.small p n = true) (s2 : Um.small p m = true) (n1 : ¬ n < lo) (n2 : ¬ hi < n) (m1 : m < lo) :
    Calls Try.prog 8 #[v, .agg #[.int .i64 lo, .int .i64 hi], .int .i64 n, .int .i64 m] w fun e w' => e = .returned (.bool true) ∧ Below w.heap.size w w' := by
  have v0 := errV_none
  have q1 := errG
  have q2 := errGn
  have q3 := errE
  have q4 := errN
  have HF := fun v w hl => hid (mrange_any [0, 0, 1000] v 1000 2000 w hl)
  rw [fact1] at HF
  have HG := fun v w hl => hid (way_any [0, 0, 1000] v (-1000) 2000 w hl)
  rw [fact2] at HG
  have HS := fun k w hl => hid (rSmall_any p v k w hl)
  have tn1 : decide (n < lo) = false := by simpa using n1
  have tn2 : decide (hi < n) = false := by simpa using n2
  have tm1 : decide (m < lo) = true := by simpa using m1
  clear n1 n2 m1
  have hF := (Fr.start w).push lo hi rfl
  obtain ⟨a0, cap0, rfl, -⟩ := (id hl)
  go_enter Try.func8, Try.ntmps8
  go_wp2_with (first | (go_at_call 23; refine (HF _ _ (Li.lit (p := [0, 0, 1000]) (by simp) three_cells)).out.mono ?_; rintro e wn ⟨rfl, hb⟩; replace hF := (hF.alloc _).step hb; clear hb; clear HF; replace hF := hF.push 1000 4000 rfl) | (go_at_call 24; refine (HG _ _ (Li.lit (p := [0, 0, 1000]) (by simp) three_cells)).out.mono ?_; rintro e wn ⟨rfl, hb⟩; replace hF := (hF.alloc _).step hb; clear hb; clear HG; have x0l := (hF.at 0 rfl).lo; have x0h := (hF.at 0 rfl).hi; have x1l := (hF.at 1 rfl).lo; have x1h := (hF.at 1 rfl).hi) | (go_at_call 16; refine (HS _ _ (hF.li hl)).out.mono ?_; rintro e wn ⟨rfl, rfl⟩))
  go_returns
  exact ⟨rfl, hF.below⟩

set_option maxRecDepth 100000 in
set_option maxHeartbeats 8000000 in
theorem walk_out3 (p : List Int) (v : Value) (lo hi n m : Int) (w : World) (hl : Li w.heap.size w v p) (s1 : Um.small p n = true) (s2 : Um.small p m = true) (n1 : ¬ n < lo) (n2 : ¬ hi < n) (m1 : ¬ m < lo) (m2 : hi < m) :
    Calls Try.prog 8 #[v, .agg #[.int .i64 lo, .int .i64 hi], .int .i64 n, .int .i64 m] w fun e w' => e = .returned (.bool true) ∧ Below w.heap.size w w' := by
  have v0 := errV_none
  have q1 := errG
  have q2 := errGn
  have q3 := errE
  have q4 := errN
  have HF := fun v w hl => hid (mrange_any [0, 0, 1000] v 1000 2000 w hl)
  rw [fact1] at HF
  have HG := fun v w hl => hid (way_any [0, 0, 1000] v (-1000) 2000 w hl)
  rw [fact2] at HG
  have HS := fun k w hl => hid (rSmall_any p v k w hl)
  have tn1 : decide (n < lo) = false := by simpa using n1
  have tn2 : decide (hi < n) = false := by simpa using n2
  have tm1 : decide (m < lo) = false := by simpa using m1
  have tm2 : decide (hi < m) = true := by simpa using m2
  clear n1 n2 m1 m2
  have hF := (Fr.start w).push lo hi rfl
  obtain ⟨a0, cap0, rfl, -⟩ := (id hl)
  go_enter Try.func8, Try.ntmps8
  go_wp2_with (first | (go_at_call 23; refine (HF _ _ (Li.lit (p := [0, 0, 1000]) (by simp) three_cells)).out.mono ?_; rintro e wn ⟨rfl, hb⟩; replace hF := (hF.alloc _).step hb; clear hb; clear HF; replace hF := hF.push 1000 4000 rfl) | (go_at_call 24; refine (HG _ _ (Li.lit (p := [0, 0, 1000]) (by simp) three_cells)).out.mono ?_; rintro e wn ⟨rfl, hb⟩; replace hF := (hF.alloc _).step hb; clear hb; clear HG; have x0l := (hF.at 0 rfl).lo; have x0h := (hF.at 0 rfl).hi; have x1l := (hF.at 1 rfl).lo; have x1h := (hF.at 1 rfl).hi) | (go_at_call 16; refine (HS _ _ (hF.li hl)).out.mono ?_; rintro e wn ⟨rfl, rfl⟩))
  go_returns
  exact ⟨rfl, hF.below⟩

set_option maxRecDepth 100000 in
set_option maxHeartbeats 8000000 in
theorem walk_ok_bad (p : List Int) (v : Value) (lo hi n m : Int) (w : World) (hl : Li w.heap.size w v p) (s1 : Um.small p n = true) (s2 : Um.small p m = true) (n1 : ¬ n < lo) (n2 : ¬ hi < n) (m1 : ¬ m < lo) (m2 : ¬ hi < m) (hM : (Um.monoAll p lo hi).2.2 = 0) (hW : ¬ (Um.wayAll p lo hi).2 = 0) :
    Calls Try.prog 8 #[v, .agg #[.int .i64 lo, .int .i64 hi], .int .i64 n, .int .i64 m] w fun e w' => e = .returned (.bool true) ∧ Below w.heap.size w w' := by
  have v0 := errV_none
  have q1 := errG
  have q2 := errGn
  have q3 := errE
  have q4 := errN
  have HF := fun v w hl => hid (mrange_any [0, 0, 1000] v 1000 2000 w hl)
  rw [fact1] at HF
  have HG := fun v w hl => hid (way_any [0, 0, 1000] v (-1000) 2000 w hl)
  rw [fact2] at HG
  have HS := fun k w hl => hid (rSmall_any p v k w hl)
  have HV := fun w hl => hid (rValue_any p v n w hl s1)
  have HM := fun w hl => hid (mrange_any p v lo hi w hl)
  have HW := fun w hl => hid (way_any p v lo hi w hl)
  obtain ⟨g1, g2⟩ := value hM (by omega : lo ≤ n) (by omega : n ≤ hi)
  have k1 : ((Um.monoAll p lo hi).2.2 != 0) = false := by simpa using hM
  have k1' : ((Um.monoAll p lo hi).2.2 == 0) = true := by simpa using hM
  have k2 : decide (Um.fl (Um.exN n p p.length) 1000000000000 < (Um.monoAll p lo hi).1) = false := by simpa using g1
  have k3 : decide ((Um.monoAll p lo hi).2.1 < Um.ce (Um.exN n p p.length) 1000000000000) = false := by simpa using g2
  clear hM g1 g2
  have tn1 : decide (n < lo) = false := by simpa using n1
  have tn2 : decide (hi < n) = false := by simpa using n2
  have tm1 : decide (m < lo) = false := by simpa using m1
  have tm2 : decide (hi < m) = false := by simpa using m2
  have k4 : ((Um.wayAll p lo hi).2 != 0) = true := by simpa using hW
  clear hW n1 n2 m1 m2
  generalize Um.monoAll p lo hi = M at *
  generalize Um.fl (Um.exN n p p.length) 1000000000000 = U at *
  generalize Um.ce (Um.exN n p p.length) 1000000000000 = V at *
  generalize Um.wayAll p lo hi = W at *
  have hF := (Fr.start w).push lo hi rfl
  obtain ⟨a0, cap0, rfl, -⟩ := (id hl)
  go_enter Try.func8, Try.ntmps8
  go_wp2_with (first | (go_at_call 23; refine (HF _ _ (Li.lit (p := [0, 0, 1000]) (by simp) three_cells)).out.mono ?_; rintro e wn ⟨rfl, hb⟩; replace hF := (hF.alloc _).step hb; clear hb; clear HF; replace hF := hF.push 1000 4000 rfl) | (go_at_call 24; refine (HG _ _ (Li.lit (p := [0, 0, 1000]) (by simp) three_cells)).out.mono ?_; rintro e wn ⟨rfl, hb⟩; replace hF := (hF.alloc _).step hb; clear hb; clear HG; have x0l := (hF.at 0 rfl).lo; have x0h := (hF.at 0 rfl).hi; have x1l := (hF.at 1 rfl).lo; have x1h := (hF.at 1 rfl).hi) | (go_at_call 16; refine (HS _ _ (hF.li hl)).out.mono ?_; rintro e wn ⟨rfl, rfl⟩) | (go_at_call 17; refine (HV _ (hF.li hl)).out.mono ?_; rintro e wn ⟨rfl, rfl⟩) | (go_at_call 23; refine (HM _ (hF.li hl)).out.mono ?_; rintro e wn ⟨rfl, hb⟩; replace hF := hF.step hb; clear hb; clear x0l x0h x1l x1h; replace hF := hF.push M.1 M.2.1 rfl; have x0l := (hF.at 0 rfl).lo; have x0h := (hF.at 0 rfl).hi; have x2l := (hF.at 2 rfl).lo; have x2h := (hF.at 2 rfl).hi) | (go_at_call 24; refine (HW _ (hF.li hl)).out.mono ?_; rintro e wn ⟨rfl, hb⟩; replace hF := hF.step hb; clear hb; clear x0l x0h x2l x2h))
  go_returns
  exact ⟨rfl, hF.below⟩

set_option maxRecDepth 100000 in
set_option maxHeartbeats 8000000 in
theorem walk_ok_both_le (p : List Int) (v : Value) (lo hi n m : Int) (w : World) (hl : Li w.heap.size w v p) (s1 : Um.small p n = true) (s2 : Um.small p m = true) (n1 : ¬ n < lo) (n2 : ¬ hi < n) (m1 : ¬ m < lo) (m2 : ¬ hi < m) (hM : (Um.monoAll p lo hi).2.2 = 0) (eW : Um.wayAll p lo hi = (0, 0)) (o : n ≤ m) :
    Calls Try.prog 8 #[v, .agg #[.int .i64 lo, .int .i64 hi], .int .i64 n, .int .i64 m] w fun e w' => e = .returned (.bool true) ∧ Below w.heap.size w w' := by
  have v0 := errV_none
  have q1 := errG
  have q2 := errGn
  have q3 := errE
  have q4 := errN
  have HF := fun v w hl => hid (mrange_any [0, 0, 1000] v 1000 2000 w hl)
  rw [fact1] at HF
  have HG := fun v w hl => hid (way_any [0, 0, 1000] v (-1000) 2000 w hl)
  rw [fact2] at HG
  have HS := fun k w hl => hid (rSmall_any p v k w hl)
  have HV := fun w hl => hid (rValue_any p v n w hl s1)
  have HM := fun w hl => hid (mrange_any p v lo hi w hl)
  have HW := fun w hl => hid (way_any p v lo hi w hl)
  have HE := fun k h w hl => hid (rExact_any p v k w hl h)
  obtain ⟨g1, g2⟩ := value hM (by omega : lo ≤ n) (by omega : n ≤ hi)
  have k1 : ((Um.monoAll p lo hi).2.2 != 0) = false := by simpa using hM
  have k1' : ((Um.monoAll p lo hi).2.2 == 0) = true := by simpa using hM
  have k2 : decide (Um.fl (Um.exN n p p.length) 1000000000000 < (Um.monoAll p lo hi).1) = false := by simpa using g1
  have k3 : decide ((Um.monoAll p lo hi).2.1 < Um.ce (Um.exN n p p.length) 1000000000000) = false := by simpa using g2
  clear hM g1 g2
  have tn1 : decide (n < lo) = false := by simpa using n1
  have tn2 : decide (hi < n) = false := by simpa using n2
  have tm1 : decide (m < lo) = false := by simpa using m1
  have tm2 : decide (hi < m) = false := by simpa using m2
  have to : decide (n ≤ m) = true := by simpa using o
  rw [eW] at HW
  clear eW o n1 n2 m1 m2
  generalize Um.monoAll p lo hi = M at *
  generalize Um.fl (Um.exN n p p.length) 1000000000000 = U at *
  generalize Um.ce (Um.exN n p p.length) 1000000000000 = V at *
  have hF := (Fr.start w).push lo hi rfl
  obtain ⟨a0, cap0, rfl, -⟩ := (id hl)
  go_enter Try.func8, Try.ntmps8
  go_wp2_with (first | (go_at_call 23; refine (HF _ _ (Li.lit (p := [0, 0, 1000]) (by simp) three_cells)).out.mono ?_; rintro e wn ⟨rfl, hb⟩; replace hF := (hF.alloc _).step hb; clear hb; clear HF; replace hF := hF.push 1000 4000 rfl) | (go_at_call 24; refine (HG _ _ (Li.lit (p := [0, 0, 1000]) (by simp) three_cells)).out.mono ?_; rintro e wn ⟨rfl, hb⟩; replace hF := (hF.alloc _).step hb; clear hb; clear HG; have x0l := (hF.at 0 rfl).lo; have x0h := (hF.at 0 rfl).hi; have x1l := (hF.at 1 rfl).lo; have x1h := (hF.at 1 rfl).hi) | (go_at_call 16; refine (HS _ _ (hF.li hl)).out.mono ?_; rintro e wn ⟨rfl, rfl⟩) | (go_at_call 17; refine (HV _ (hF.li hl)).out.mono ?_; rintro e wn ⟨rfl, rfl⟩) | (go_at_call 23; refine (HM _ (hF.li hl)).out.mono ?_; rintro e wn ⟨rfl, hb⟩; replace hF := hF.step hb; clear hb; clear x0l x0h x1l x1h; replace hF := hF.push M.1 M.2.1 rfl; have x0l := (hF.at 0 rfl).lo; have x0h := (hF.at 0 rfl).hi; have x2l := (hF.at 2 rfl).lo; have x2h := (hF.at 2 rfl).hi) | (go_at_call 24; refine (HW _ (hF.li hl)).out.mono ?_; rintro e wn ⟨rfl, hb⟩; replace hF := hF.step hb; clear hb; clear x0l x0h x2l x2h) | (go_at_call 25; refine (HE _ (by assumption) _ (hF.li hl)).out.mono ?_; rintro e wn ⟨rfl, rfl⟩))
  go_returns
  exact ⟨rfl, hF.below⟩

set_option maxRecDepth 100000 in
set_option maxHeartbeats 8000000 in
theorem walk_ok_both_gt (p : List Int) (v : Value) (lo hi n m : Int) (w : World) (hl : Li w.heap.size w v p) (s1 : Um.small p n = true) (s2 : Um.small p m = true) (n1 : ¬ n < lo) (n2 : ¬ hi < n) (m1 : ¬ m < lo) (m2 : ¬ hi < m) (hM : (Um.monoAll p lo hi).2.2 = 0) (eW : Um.wayAll p lo hi = (0, 0)) (o : ¬ n ≤ m) :
    Calls Try.prog 8 #[v, .agg #[.int .i64 lo, .int .i64 hi], .int .i64 n, .int .i64 m] w fun e w' => e = .returned (.bool true) ∧ Below w.heap.size w w' := by
  have v0 := errV_none
  have q1 := errG
  have q2 := errGn
  have q3 := errE
  have q4 := errN
  have HF := fun v w hl => hid (mrange_any [0, 0, 1000] v 1000 2000 w hl)
  rw [fact1] at HF
  have HG := fun v w hl => hid (way_any [0, 0, 1000] v (-1000) 2000 w hl)
  rw [fact2] at HG
  have HS := fun k w hl => hid (rSmall_any p v k w hl)
  have HV := fun w hl => hid (rValue_any p v n w hl s1)
  have HM := fun w hl => hid (mrange_any p v lo hi w hl)
  have HW := fun w hl => hid (way_any p v lo hi w hl)
  have HE := fun k h w hl => hid (rExact_any p v k w hl h)
  obtain ⟨g1, g2⟩ := value hM (by omega : lo ≤ n) (by omega : n ≤ hi)
  have k1 : ((Um.monoAll p lo hi).2.2 != 0) = false := by simpa using hM
  have k1' : ((Um.monoAll p lo hi).2.2 == 0) = true := by simpa using hM
  have k2 : decide (Um.fl (Um.exN n p p.length) 1000000000000 < (Um.monoAll p lo hi).1) = false := by simpa using g1
  have k3 : decide ((Um.monoAll p lo hi).2.1 < Um.ce (Um.exN n p p.length) 1000000000000) = false := by simpa using g2
  clear hM g1 g2
  have tn1 : decide (n < lo) = false := by simpa using n1
  have tn2 : decide (hi < n) = false := by simpa using n2
  have tm1 : decide (m < lo) = false := by simpa using m1
  have tm2 : decide (hi < m) = false := by simpa using m2
  have to : decide (n ≤ m) = false := by simpa using o
  rw [eW] at HW
  clear eW o n1 n2 m1 m2
  generalize Um.monoAll p lo hi = M at *
  generalize Um.fl (Um.exN n p p.length) 1000000000000 = U at *
  generalize Um.ce (Um.exN n p p.length) 1000000000000 = V at *
  have hF := (Fr.start w).push lo hi rfl
  obtain ⟨a0, cap0, rfl, -⟩ := (id hl)
  go_enter Try.func8, Try.ntmps8
  go_wp2_with (first | (go_at_call 23; refine (HF _ _ (Li.lit (p := [0, 0, 1000]) (by simp) three_cells)).out.mono ?_; rintro e wn ⟨rfl, hb⟩; replace hF := (hF.alloc _).step hb; clear hb; clear HF; replace hF := hF.push 1000 4000 rfl) | (go_at_call 24; refine (HG _ _ (Li.lit (p := [0, 0, 1000]) (by simp) three_cells)).out.mono ?_; rintro e wn ⟨rfl, hb⟩; replace hF := (hF.alloc _).step hb; clear hb; clear HG; have x0l := (hF.at 0 rfl).lo; have x0h := (hF.at 0 rfl).hi; have x1l := (hF.at 1 rfl).lo; have x1h := (hF.at 1 rfl).hi) | (go_at_call 16; refine (HS _ _ (hF.li hl)).out.mono ?_; rintro e wn ⟨rfl, rfl⟩) | (go_at_call 17; refine (HV _ (hF.li hl)).out.mono ?_; rintro e wn ⟨rfl, rfl⟩) | (go_at_call 23; refine (HM _ (hF.li hl)).out.mono ?_; rintro e wn ⟨rfl, hb⟩; replace hF := hF.step hb; clear hb; clear x0l x0h x1l x1h; replace hF := hF.push M.1 M.2.1 rfl; have x0l := (hF.at 0 rfl).lo; have x0h := (hF.at 0 rfl).hi; have x2l := (hF.at 2 rfl).lo; have x2h := (hF.at 2 rfl).hi) | (go_at_call 24; refine (HW _ (hF.li hl)).out.mono ?_; rintro e wn ⟨rfl, hb⟩; replace hF := hF.step hb; clear hb; clear x0l x0h x2l x2h) | (go_at_call 25; refine (HE _ (by assumption) _ (hF.li hl)).out.mono ?_; rintro e wn ⟨rfl, rfl⟩))
  go_returns
  exact ⟨rfl, hF.below⟩

set_option maxRecDepth 100000 in
set_option maxHeartbeats 8000000 in
theorem walk_ok_up_le (p : List Int) (v : Value) (lo hi n m : Int) (w : World) (hl : Li w.heap.size w v p) (s1 : Um.small p n = true) (s2 : Um.small p m = true) (n1 : ¬ n < lo) (n2 : ¬ hi < n) (m1 : ¬ m < lo) (m2 : ¬ hi < m) (hM : (Um.monoAll p lo hi).2.2 = 0) (eW : Um.wayAll p lo hi = (1, 0)) (hu : ∀ n m, lo ≤ n → n ≤ hi → lo ≤ m → m ≤ hi → n ≤ m → Um.exN n p p.length ≤ Um.exN m p p.length) (o : n ≤ m) :
    Calls Try.prog 8 #[v, .agg #[.int .i64 lo, .int .i64 hi], .int .i64 n, .int .i64 m] w fun e w' => e = .returned (.bool true) ∧ Below w.heap.size w w' := by
  have v0 := errV_none
  have q1 := errG
  have q2 := errGn
  have q3 := errE
  have q4 := errN
  have HF := fun v w hl => hid (mrange_any [0, 0, 1000] v 1000 2000 w hl)
  rw [fact1] at HF
  have HG := fun v w hl => hid (way_any [0, 0, 1000] v (-1000) 2000 w hl)
  rw [fact2] at HG
  have HS := fun k w hl => hid (rSmall_any p v k w hl)
  have HV := fun w hl => hid (rValue_any p v n w hl s1)
  have HM := fun w hl => hid (mrange_any p v lo hi w hl)
  have HW := fun w hl => hid (way_any p v lo hi w hl)
  have HE := fun k h w hl => hid (rExact_any p v k w hl h)
  obtain ⟨g1, g2⟩ := value hM (by omega : lo ≤ n) (by omega : n ≤ hi)
  have k1 : ((Um.monoAll p lo hi).2.2 != 0) = false := by simpa using hM
  have k1' : ((Um.monoAll p lo hi).2.2 == 0) = true := by simpa using hM
  have k2 : decide (Um.fl (Um.exN n p p.length) 1000000000000 < (Um.monoAll p lo hi).1) = false := by simpa using g1
  have k3 : decide ((Um.monoAll p lo hi).2.1 < Um.ce (Um.exN n p p.length) 1000000000000) = false := by simpa using g2
  clear hM g1 g2
  have tn1 : decide (n < lo) = false := by simpa using n1
  have tn2 : decide (hi < n) = false := by simpa using n2
  have tm1 : decide (m < lo) = false := by simpa using m1
  have tm2 : decide (hi < m) = false := by simpa using m2
  have to : decide (n ≤ m) = true := by simpa using o
  have g3 := hu n m (by omega) (by omega) (by omega) (by omega) o
  have k5 : decide (Um.exN n p p.length ≤ Um.exN m p p.length) = true := by simpa using g3
  clear g3
  rw [eW] at HW
  clear eW o n1 n2 m1 m2 hu
  generalize Um.monoAll p lo hi = M at *
  generalize Um.fl (Um.exN n p p.length) 1000000000000 = U at *
  generalize Um.ce (Um.exN n p p.length) 1000000000000 = V at *
  have hF := (Fr.start w).push lo hi rfl
  obtain ⟨a0, cap0, rfl, -⟩ := (id hl)
  go_enter Try.func8, Try.ntmps8
  go_wp2_with (first | (go_at_call 23; refine (HF _ _ (Li.lit (p := [0, 0, 1000]) (by simp) three_cells)).out.mono ?_; rintro e wn ⟨rfl, hb⟩; replace hF := (hF.alloc _).step hb; clear hb; clear HF; replace hF := hF.push 1000 4000 rfl) | (go_at_call 24; refine (HG _ _ (Li.lit (p := [0, 0, 1000]) (by simp) three_cells)).out.mono ?_; rintro e wn ⟨rfl, hb⟩; replace hF := (hF.alloc _).step hb; clear hb; clear HG; have x0l := (hF.at 0 rfl).lo; have x0h := (hF.at 0 rfl).hi; have x1l := (hF.at 1 rfl).lo; have x1h := (hF.at 1 rfl).hi) | (go_at_call 16; refine (HS _ _ (hF.li hl)).out.mono ?_; rintro e wn ⟨rfl, rfl⟩) | (go_at_call 17; refine (HV _ (hF.li hl)).out.mono ?_; rintro e wn ⟨rfl, rfl⟩) | (go_at_call 23; refine (HM _ (hF.li hl)).out.mono ?_; rintro e wn ⟨rfl, hb⟩; replace hF := hF.step hb; clear hb; clear x0l x0h x1l x1h; replace hF := hF.push M.1 M.2.1 rfl; have x0l := (hF.at 0 rfl).lo; have x0h := (hF.at 0 rfl).hi; have x2l := (hF.at 2 rfl).lo; have x2h := (hF.at 2 rfl).hi) | (go_at_call 24; refine (HW _ (hF.li hl)).out.mono ?_; rintro e wn ⟨rfl, hb⟩; replace hF := hF.step hb; clear hb; clear x0l x0h x2l x2h) | (go_at_call 25; refine (HE _ (by assumption) _ (hF.li hl)).out.mono ?_; rintro e wn ⟨rfl, rfl⟩))
  go_returns
  exact ⟨rfl, hF.below⟩

set_option maxRecDepth 100000 in
set_option maxHeartbeats 8000000 in
theorem walk_ok_up_gt (p : List Int) (v : Value) (lo hi n m : Int) (w : World) (hl : Li w.heap.size w v p) (s1 : Um.small p n = true) (s2 : Um.small p m = true) (n1 : ¬ n < lo) (n2 : ¬ hi < n) (m1 : ¬ m < lo) (m2 : ¬ hi < m) (hM : (Um.monoAll p lo hi).2.2 = 0) (eW : Um.wayAll p lo hi = (1, 0)) (hu : ∀ n m, lo ≤ n → n ≤ hi → lo ≤ m → m ≤ hi → n ≤ m → Um.exN n p p.length ≤ Um.exN m p p.length) (o : ¬ n ≤ m) :
    Calls Try.prog 8 #[v, .agg #[.int .i64 lo, .int .i64 hi], .int .i64 n, .int .i64 m] w fun e w' => e = .returned (.bool true) ∧ Below w.heap.size w w' := by
  have v0 := errV_none
  have q1 := errG
  have q2 := errGn
  have q3 := errE
  have q4 := errN
  have HF := fun v w hl => hid (mrange_any [0, 0, 1000] v 1000 2000 w hl)
  rw [fact1] at HF
  have HG := fun v w hl => hid (way_any [0, 0, 1000] v (-1000) 2000 w hl)
  rw [fact2] at HG
  have HS := fun k w hl => hid (rSmall_any p v k w hl)
  have HV := fun w hl => hid (rValue_any p v n w hl s1)
  have HM := fun w hl => hid (mrange_any p v lo hi w hl)
  have HW := fun w hl => hid (way_any p v lo hi w hl)
  have HE := fun k h w hl => hid (rExact_any p v k w hl h)
  obtain ⟨g1, g2⟩ := value hM (by omega : lo ≤ n) (by omega : n ≤ hi)
  have k1 : ((Um.monoAll p lo hi).2.2 != 0) = false := by simpa using hM
  have k1' : ((Um.monoAll p lo hi).2.2 == 0) = true := by simpa using hM
  have k2 : decide (Um.fl (Um.exN n p p.length) 1000000000000 < (Um.monoAll p lo hi).1) = false := by simpa using g1
  have k3 : decide ((Um.monoAll p lo hi).2.1 < Um.ce (Um.exN n p p.length) 1000000000000) = false := by simpa using g2
  clear hM g1 g2
  have tn1 : decide (n < lo) = false := by simpa using n1
  have tn2 : decide (hi < n) = false := by simpa using n2
  have tm1 : decide (m < lo) = false := by simpa using m1
  have tm2 : decide (hi < m) = false := by simpa using m2
  have to : decide (n ≤ m) = false := by simpa using o
  have g3 := hu m n (by omega) (by omega) (by omega) (by omega) (by omega)
  have k5 : decide (Um.exN m p p.length ≤ Um.exN n p p.length) = true := by simpa using g3
  clear g3
  rw [eW] at HW
  clear eW o n1 n2 m1 m2 hu
  generalize Um.monoAll p lo hi = M at *
  generalize Um.fl (Um.exN n p p.length) 1000000000000 = U at *
  generalize Um.ce (Um.exN n p p.length) 1000000000000 = V at *
  have hF := (Fr.start w).push lo hi rfl
  obtain ⟨a0, cap0, rfl, -⟩ := (id hl)
  go_enter Try.func8, Try.ntmps8
  go_wp2_with (first | (go_at_call 23; refine (HF _ _ (Li.lit (p := [0, 0, 1000]) (by simp) three_cells)).out.mono ?_; rintro e wn ⟨rfl, hb⟩; replace hF := (hF.alloc _).step hb; clear hb; clear HF; replace hF := hF.push 1000 4000 rfl) | (go_at_call 24; refine (HG _ _ (Li.lit (p := [0, 0, 1000]) (by simp) three_cells)).out.mono ?_; rintro e wn ⟨rfl, hb⟩; replace hF := (hF.alloc _).step hb; clear hb; clear HG; have x0l := (hF.at 0 rfl).lo; have x0h := (hF.at 0 rfl).hi; have x1l := (hF.at 1 rfl).lo; have x1h := (hF.at 1 rfl).hi) | (go_at_call 16; refine (HS _ _ (hF.li hl)).out.mono ?_; rintro e wn ⟨rfl, rfl⟩) | (go_at_call 17; refine (HV _ (hF.li hl)).out.mono ?_; rintro e wn ⟨rfl, rfl⟩) | (go_at_call 23; refine (HM _ (hF.li hl)).out.mono ?_; rintro e wn ⟨rfl, hb⟩; replace hF := hF.step hb; clear hb; clear x0l x0h x1l x1h; replace hF := hF.push M.1 M.2.1 rfl; have x0l := (hF.at 0 rfl).lo; have x0h := (hF.at 0 rfl).hi; have x2l := (hF.at 2 rfl).lo; have x2h := (hF.at 2 rfl).hi) | (go_at_call 24; refine (HW _ (hF.li hl)).out.mono ?_; rintro e wn ⟨rfl, hb⟩; replace hF := hF.step hb; clear hb; clear x0l x0h x2l x2h) | (go_at_call 25; refine (HE _ (by assumption) _ (hF.li hl)).out.mono ?_; rintro e wn ⟨rfl, rfl⟩))
  go_returns
  exact ⟨rfl, hF.below⟩

set_option maxRecDepth 100000 in
set_option maxHeartbeats 8000000 in
theorem walk_ok_down_le (p : List Int) (v : Value) (lo hi n m : Int) (w : World) (hl : Li w.heap.size w v p) (s1 : Um.small p n = true) (s2 : Um.small p m = true) (n1 : ¬ n < lo) (n2 : ¬ hi < n) (m1 : ¬ m < lo) (m2 : ¬ hi < m) (hM : (Um.monoAll p lo hi).2.2 = 0) (eW : Um.wayAll p lo hi = (-1, 0)) (hu : ∀ n m, lo ≤ n → n ≤ hi → lo ≤ m → m ≤ hi → n ≤ m → Um.exN m p p.length ≤ Um.exN n p p.length) (o : n ≤ m) :
    Calls Try.prog 8 #[v, .agg #[.int .i64 lo, .int .i64 hi], .int .i64 n, .int .i64 m] w fun e w' => e = .returned (.bool true) ∧ Below w.heap.size w w' := by
  have v0 := errV_none
  have q1 := errG
  have q2 := errGn
  have q3 := errE
  have q4 := errN
  have HF := fun v w hl => hid (mrange_any [0, 0, 1000] v 1000 2000 w hl)
  rw [fact1] at HF
  have HG := fun v w hl => hid (way_any [0, 0, 1000] v (-1000) 2000 w hl)
  rw [fact2] at HG
  have HS := fun k w hl => hid (rSmall_any p v k w hl)
  have HV := fun w hl => hid (rValue_any p v n w hl s1)
  have HM := fun w hl => hid (mrange_any p v lo hi w hl)
  have HW := fun w hl => hid (way_any p v lo hi w hl)
  have HE := fun k h w hl => hid (rExact_any p v k w hl h)
  obtain ⟨g1, g2⟩ := value hM (by omega : lo ≤ n) (by omega : n ≤ hi)
  have k1 : ((Um.monoAll p lo hi).2.2 != 0) = false := by simpa using hM
  have k1' : ((Um.monoAll p lo hi).2.2 == 0) = true := by simpa using hM
  have k2 : decide (Um.fl (Um.exN n p p.length) 1000000000000 < (Um.monoAll p lo hi).1) = false := by simpa using g1
  have k3 : decide ((Um.monoAll p lo hi).2.1 < Um.ce (Um.exN n p p.length) 1000000000000) = false := by simpa using g2
  clear hM g1 g2
  have tn1 : decide (n < lo) = false := by simpa using n1
  have tn2 : decide (hi < n) = false := by simpa using n2
  have tm1 : decide (m < lo) = false := by simpa using m1
  have tm2 : decide (hi < m) = false := by simpa using m2
  have to : decide (n ≤ m) = true := by simpa using o
  have g3 := hu n m (by omega) (by omega) (by omega) (by omega) o
  have k5 : decide (Um.exN m p p.length ≤ Um.exN n p p.length) = true := by simpa using g3
  clear g3
  rw [eW] at HW
  clear eW o n1 n2 m1 m2 hu
  generalize Um.monoAll p lo hi = M at *
  generalize Um.fl (Um.exN n p p.length) 1000000000000 = U at *
  generalize Um.ce (Um.exN n p p.length) 1000000000000 = V at *
  have hF := (Fr.start w).push lo hi rfl
  obtain ⟨a0, cap0, rfl, -⟩ := (id hl)
  go_enter Try.func8, Try.ntmps8
  go_wp2_with (first | (go_at_call 23; refine (HF _ _ (Li.lit (p := [0, 0, 1000]) (by simp) three_cells)).out.mono ?_; rintro e wn ⟨rfl, hb⟩; replace hF := (hF.alloc _).step hb; clear hb; clear HF; replace hF := hF.push 1000 4000 rfl) | (go_at_call 24; refine (HG _ _ (Li.lit (p := [0, 0, 1000]) (by simp) three_cells)).out.mono ?_; rintro e wn ⟨rfl, hb⟩; replace hF := (hF.alloc _).step hb; clear hb; clear HG; have x0l := (hF.at 0 rfl).lo; have x0h := (hF.at 0 rfl).hi; have x1l := (hF.at 1 rfl).lo; have x1h := (hF.at 1 rfl).hi) | (go_at_call 16; refine (HS _ _ (hF.li hl)).out.mono ?_; rintro e wn ⟨rfl, rfl⟩) | (go_at_call 17; refine (HV _ (hF.li hl)).out.mono ?_; rintro e wn ⟨rfl, rfl⟩) | (go_at_call 23; refine (HM _ (hF.li hl)).out.mono ?_; rintro e wn ⟨rfl, hb⟩; replace hF := hF.step hb; clear hb; clear x0l x0h x1l x1h; replace hF := hF.push M.1 M.2.1 rfl; have x0l := (hF.at 0 rfl).lo; have x0h := (hF.at 0 rfl).hi; have x2l := (hF.at 2 rfl).lo; have x2h := (hF.at 2 rfl).hi) | (go_at_call 24; refine (HW _ (hF.li hl)).out.mono ?_; rintro e wn ⟨rfl, hb⟩; replace hF := hF.step hb; clear hb; clear x0l x0h x2l x2h) | (go_at_call 25; refine (HE _ (by assumption) _ (hF.li hl)).out.mono ?_; rintro e wn ⟨rfl, rfl⟩))
  go_returns
  exact ⟨rfl, hF.below⟩

set_option maxRecDepth 100000 in
set_option maxHeartbeats 8000000 in
theorem walk_ok_down_gt (p : List Int) (v : Value) (lo hi n m : Int) (w : World) (hl : Li w.heap.size w v p) (s1 : Um.small p n = true) (s2 : Um.small p m = true) (n1 : ¬ n < lo) (n2 : ¬ hi < n) (m1 : ¬ m < lo) (m2 : ¬ hi < m) (hM : (Um.monoAll p lo hi).2.2 = 0) (eW : Um.wayAll p lo hi = (-1, 0)) (hu : ∀ n m, lo ≤ n → n ≤ hi → lo ≤ m → m ≤ hi → n ≤ m → Um.exN m p p.length ≤ Um.exN n p p.length) (o : ¬ n ≤ m) :
    Calls Try.prog 8 #[v, .agg #[.int .i64 lo, .int .i64 hi], .int .i64 n, .int .i64 m] w fun e w' => e = .returned (.bool true) ∧ Below w.heap.size w w' := by
  have v0 := errV_none
  have q1 := errG
  have q2 := errGn
  have q3 := errE
  have q4 := errN
  have HF := fun v w hl => hid (mrange_any [0, 0, 1000] v 1000 2000 w hl)
  rw [fact1] at HF
  have HG := fun v w hl => hid (way_any [0, 0, 1000] v (-1000) 2000 w hl)
  rw [fact2] at HG
  have HS := fun k w hl => hid (rSmall_any p v k w hl)
  have HV := fun w hl => hid (rValue_any p v n w hl s1)
  have HM := fun w hl => hid (mrange_any p v lo hi w hl)
  have HW := fun w hl => hid (way_any p v lo hi w hl)
  have HE := fun k h w hl => hid (rExact_any p v k w hl h)
  obtain ⟨g1, g2⟩ := value hM (by omega : lo ≤ n) (by omega : n ≤ hi)
  have k1 : ((Um.monoAll p lo hi).2.2 != 0) = false := by simpa using hM
  have k1' : ((Um.monoAll p lo hi).2.2 == 0) = true := by simpa using hM
  have k2 : decide (Um.fl (Um.exN n p p.length) 1000000000000 < (Um.monoAll p lo hi).1) = false := by simpa using g1
  have k3 : decide ((Um.monoAll p lo hi).2.1 < Um.ce (Um.exN n p p.length) 1000000000000) = false := by simpa using g2
  clear hM g1 g2
  have tn1 : decide (n < lo) = false := by simpa using n1
  have tn2 : decide (hi < n) = false := by simpa using n2
  have tm1 : decide (m < lo) = false := by simpa using m1
  have tm2 : decide (hi < m) = false := by simpa using m2
  have to : decide (n ≤ m) = false := by simpa using o
  have g3 := hu m n (by omega) (by omega) (by omega) (by omega) (by omega)
  have k5 : decide (Um.exN n p p.length ≤ Um.exN m p p.length) = true := by simpa using g3
  clear g3
  rw [eW] at HW
  clear eW o n1 n2 m1 m2 hu
  generalize Um.monoAll p lo hi = M at *
  generalize Um.fl (Um.exN n p p.length) 1000000000000 = U at *
  generalize Um.ce (Um.exN n p p.length) 1000000000000 = V at *
  have hF := (Fr.start w).push lo hi rfl
  obtain ⟨a0, cap0, rfl, -⟩ := (id hl)
  go_enter Try.func8, Try.ntmps8
  go_wp2_with (first | (go_at_call 23; refine (HF _ _ (Li.lit (p := [0, 0, 1000]) (by simp) three_cells)).out.mono ?_; rintro e wn ⟨rfl, hb⟩; replace hF := (hF.alloc _).step hb; clear hb; clear HF; replace hF := hF.push 1000 4000 rfl) | (go_at_call 24; refine (HG _ _ (Li.lit (p := [0, 0, 1000]) (by simp) three_cells)).out.mono ?_; rintro e wn ⟨rfl, hb⟩; replace hF := (hF.alloc _).step hb; clear hb; clear HG; have x0l := (hF.at 0 rfl).lo; have x0h := (hF.at 0 rfl).hi; have x1l := (hF.at 1 rfl).lo; have x1h := (hF.at 1 rfl).hi) | (go_at_call 16; refine (HS _ _ (hF.li hl)).out.mono ?_; rintro e wn ⟨rfl, rfl⟩) | (go_at_call 17; refine (HV _ (hF.li hl)).out.mono ?_; rintro e wn ⟨rfl, rfl⟩) | (go_at_call 23; refine (HM _ (hF.li hl)).out.mono ?_; rintro e wn ⟨rfl, hb⟩; replace hF := hF.step hb; clear hb; clear x0l x0h x1l x1h; replace hF := hF.push M.1 M.2.1 rfl; have x0l := (hF.at 0 rfl).lo; have x0h := (hF.at 0 rfl).hi; have x2l := (hF.at 2 rfl).lo; have x2h := (hF.at 2 rfl).hi) | (go_at_call 24; refine (HW _ (hF.li hl)).out.mono ?_; rintro e wn ⟨rfl, hb⟩; replace hF := hF.step hb; clear hb; clear x0l x0h x2l x2h) | (go_at_call 25; refine (HE _ (by assumption) _ (hF.li hl)).out.mono ?_; rintro e wn ⟨rfl, rfl⟩))
  go_returns
  exact ⟨rfl, hF.below⟩

set_option maxRecDepth 100000 in
set_option maxHeartbeats 8000000 in
theorem walk_no_bad (p : List Int) (v : Value) (lo hi n m : Int) (w : World) (hl : Li w.heap.size w v p) (s1 : Um.small p n = true) (s2 : Um.small p m = true) (n1 : ¬ n < lo) (n2 : ¬ hi < n) (m1 : ¬ m < lo) (m2 : ¬ hi < m) (hM : ¬ (Um.monoAll p lo hi).2.2 = 0) (hW : ¬ (Um.wayAll p lo hi).2 = 0) :
    Calls Try.prog 8 #[v, .agg #[.int .i64 lo, .int .i64 hi], .int .i64 n, .int .i64 m] w fun e w' => e = .returned (.bool true) ∧ Below w.heap.size w w' := by
  have v0 := errV_none
  have q1 := errG
  have q2 := errGn
  have q3 := errE
  have q4 := errN
  have HF := fun v w hl => hid (mrange_any [0, 0, 1000] v 1000 2000 w hl)
  rw [fact1] at HF
  have HG := fun v w hl => hid (way_any [0, 0, 1000] v (-1000) 2000 w hl)
  rw [fact2] at HG
  have HS := fun k w hl => hid (rSmall_any p v k w hl)
  have HV := fun w hl => hid (rValue_any p v n w hl s1)
  have HM := fun w hl => hid (mrange_any p v lo hi w hl)
  have HW := fun w hl => hid (way_any p v lo hi w hl)
  have k1 : ((Um.monoAll p lo hi).2.2 != 0) = true := by simpa using hM
  have k1' : ((Um.monoAll p lo hi).2.2 == 0) = false := by simpa using hM
  clear hM
  have tn1 : decide (n < lo) = false := by simpa using n1
  have tn2 : decide (hi < n) = false := by simpa using n2
  have tm1 : decide (m < lo) = false := by simpa using m1
  have tm2 : decide (hi < m) = false := by simpa using m2
  have k4 : ((Um.wayAll p lo hi).2 != 0) = true := by simpa using hW
  clear hW n1 n2 m1 m2
  generalize Um.monoAll p lo hi = M at *
  generalize Um.fl (Um.exN n p p.length) 1000000000000 = U at *
  generalize Um.ce (Um.exN n p p.length) 1000000000000 = V at *
  generalize Um.wayAll p lo hi = W at *
  have hF := (Fr.start w).push lo hi rfl
  obtain ⟨a0, cap0, rfl, -⟩ := (id hl)
  go_enter Try.func8, Try.ntmps8
  go_wp2_with (first | (go_at_call 23; refine (HF _ _ (Li.lit (p := [0, 0, 1000]) (by simp) three_cells)).out.mono ?_; rintro e wn ⟨rfl, hb⟩; replace hF := (hF.alloc _).step hb; clear hb; clear HF; replace hF := hF.push 1000 4000 rfl) | (go_at_call 24; refine (HG _ _ (Li.lit (p := [0, 0, 1000]) (by simp) three_cells)).out.mono ?_; rintro e wn ⟨rfl, hb⟩; replace hF := (hF.alloc _).step hb; clear hb; clear HG; have x0l := (hF.at 0 rfl).lo; have x0h := (hF.at 0 rfl).hi; have x1l := (hF.at 1 rfl).lo; have x1h := (hF.at 1 rfl).hi) | (go_at_call 16; refine (HS _ _ (hF.li hl)).out.mono ?_; rintro e wn ⟨rfl, rfl⟩) | (go_at_call 17; refine (HV _ (hF.li hl)).out.mono ?_; rintro e wn ⟨rfl, rfl⟩) | (go_at_call 23; refine (HM _ (hF.li hl)).out.mono ?_; rintro e wn ⟨rfl, hb⟩; replace hF := hF.step hb; clear hb; clear x0l x0h x1l x1h; replace hF := hF.push M.1 M.2.1 rfl; have x0l := (hF.at 0 rfl).lo; have x0h := (hF.at 0 rfl).hi; have x2l := (hF.at 2 rfl).lo; have x2h := (hF.at 2 rfl).hi) | (go_at_call 24; refine (HW _ (hF.li hl)).out.mono ?_; rintro e wn ⟨rfl, hb⟩; replace hF := hF.step hb; clear hb; clear x0l x0h x2l x2h))
  go_returns
  exact ⟨rfl, hF.below⟩

set_option maxRecDepth 100000 in
set_option maxHeartbeats 8000000 in
theorem walk_no_both_le (p : List Int) (v : Value) (lo hi n m : Int) (w : World) (hl : Li w.heap.size w v p) (s1 : Um.small p n = true) (s2 : Um.small p m = true) (n1 : ¬ n < lo) (n2 : ¬ hi < n) (m1 : ¬ m < lo) (m2 : ¬ hi < m) (hM : ¬ (Um.monoAll p lo hi).2.2 = 0) (eW : Um.wayAll p lo hi = (0, 0)) (o : n ≤ m) :
    Calls Try.prog 8 #[v, .agg #[.int .i64 lo, .int .i64 hi], .int .i64 n, .int .i64 m] w fun e w' => e = .returned (.bool true) ∧ Below w.heap.size w w' := by
  have v0 := errV_none
  have q1 := errG
  have q2 := errGn
  have q3 := errE
  have q4 := errN
  have HF := fun v w hl => hid (mrange_any [0, 0, 1000] v 1000 2000 w hl)
  rw [fact1] at HF
  have HG := fun v w hl => hid (way_any [0, 0, 1000] v (-1000) 2000 w hl)
  rw [fact2] at HG
  have HS := fun k w hl => hid (rSmall_any p v k w hl)
  have HV := fun w hl => hid (rValue_any p v n w hl s1)
  have HM := fun w hl => hid (mrange_any p v lo hi w hl)
  have HW := fun w hl => hid (way_any p v lo hi w hl)
  have HE := fun k h w hl => hid (rExact_any p v k w hl h)
  have k1 : ((Um.monoAll p lo hi).2.2 != 0) = true := by simpa using hM
  have k1' : ((Um.monoAll p lo hi).2.2 == 0) = false := by simpa using hM
  clear hM
  have tn1 : decide (n < lo) = false := by simpa using n1
  have tn2 : decide (hi < n) = false := by simpa using n2
  have tm1 : decide (m < lo) = false := by simpa using m1
  have tm2 : decide (hi < m) = false := by simpa using m2
  have to : decide (n ≤ m) = true := by simpa using o
  rw [eW] at HW
  clear eW o n1 n2 m1 m2
  generalize Um.monoAll p lo hi = M at *
  generalize Um.fl (Um.exN n p p.length) 1000000000000 = U at *
  generalize Um.ce (Um.exN n p p.length) 1000000000000 = V at *
  have hF := (Fr.start w).push lo hi rfl
  obtain ⟨a0, cap0, rfl, -⟩ := (id hl)
  go_enter Try.func8, Try.ntmps8
  go_wp2_with (first | (go_at_call 23; refine (HF _ _ (Li.lit (p := [0, 0, 1000]) (by simp) three_cells)).out.mono ?_; rintro e wn ⟨rfl, hb⟩; replace hF := (hF.alloc _).step hb; clear hb; clear HF; replace hF := hF.push 1000 4000 rfl) | (go_at_call 24; refine (HG _ _ (Li.lit (p := [0, 0, 1000]) (by simp) three_cells)).out.mono ?_; rintro e wn ⟨rfl, hb⟩; replace hF := (hF.alloc _).step hb; clear hb; clear HG; have x0l := (hF.at 0 rfl).lo; have x0h := (hF.at 0 rfl).hi; have x1l := (hF.at 1 rfl).lo; have x1h := (hF.at 1 rfl).hi) | (go_at_call 16; refine (HS _ _ (hF.li hl)).out.mono ?_; rintro e wn ⟨rfl, rfl⟩) | (go_at_call 17; refine (HV _ (hF.li hl)).out.mono ?_; rintro e wn ⟨rfl, rfl⟩) | (go_at_call 23; refine (HM _ (hF.li hl)).out.mono ?_; rintro e wn ⟨rfl, hb⟩; replace hF := hF.step hb; clear hb; clear x0l x0h x1l x1h; replace hF := hF.push M.1 M.2.1 rfl; have x0l := (hF.at 0 rfl).lo; have x0h := (hF.at 0 rfl).hi; have x2l := (hF.at 2 rfl).lo; have x2h := (hF.at 2 rfl).hi) | (go_at_call 24; refine (HW _ (hF.li hl)).out.mono ?_; rintro e wn ⟨rfl, hb⟩; replace hF := hF.step hb; clear hb; clear x0l x0h x2l x2h) | (go_at_call 25; refine (HE _ (by assumption) _ (hF.li hl)).out.mono ?_; rintro e wn ⟨rfl, rfl⟩))
  go_returns
  exact ⟨rfl, hF.below⟩

set_option maxRecDepth 100000 in
set_option maxHeartbeats 8000000 in
theorem walk_no_both_gt (p : List Int) (v : Value) (lo hi n m : Int) (w : World) (hl : Li w.heap.size w v p) (s1 : Um.small p n = true) (s2 : Um.small p m = true) (n1 : ¬ n < lo) (n2 : ¬ hi < n) (m1 : ¬ m < lo) (m2 : ¬ hi < m) (hM : ¬ (Um.monoAll p lo hi).2.2 = 0) (eW : Um.wayAll p lo hi = (0, 0)) (o : ¬ n ≤ m) :
    Calls Try.prog 8 #[v, .agg #[.int .i64 lo, .int .i64 hi], .int .i64 n, .int .i64 m] w fun e w' => e = .returned (.bool true) ∧ Below w.heap.size w w' := by
  have v0 := errV_none
  have q1 := errG
  have q2 := errGn
  have q3 := errE
  have q4 := errN
  have HF := fun v w hl => hid (mrange_any [0, 0, 1000] v 1000 2000 w hl)
  rw [fact1] at HF
  have HG := fun v w hl => hid (way_any [0, 0, 1000] v (-1000) 2000 w hl)
  rw [fact2] at HG
  have HS := fun k w hl => hid (rSmall_any p v k w hl)
  have HV := fun w hl => hid (rValue_any p v n w hl s1)
  have HM := fun w hl => hid (mrange_any p v lo hi w hl)
  have HW := fun w hl => hid (way_any p v lo hi w hl)
  have HE := fun k h w hl => hid (rExact_any p v k w hl h)
  have k1 : ((Um.monoAll p lo hi).2.2 != 0) = true := by simpa using hM
  have k1' : ((Um.monoAll p lo hi).2.2 == 0) = false := by simpa using hM
  clear hM
  have tn1 : decide (n < lo) = false := by simpa using n1
  have tn2 : decide (hi < n) = false := by simpa using n2
  have tm1 : decide (m < lo) = false := by simpa using m1
  have tm2 : decide (hi < m) = false := by simpa using m2
  have to : decide (n ≤ m) = false := by simpa using o
  rw [eW] at HW
  clear eW o n1 n2 m1 m2
  generalize Um.monoAll p lo hi = M at *
  generalize Um.fl (Um.exN n p p.length) 1000000000000 = U at *
  generalize Um.ce (Um.exN n p p.length) 1000000000000 = V at *
  have hF := (Fr.start w).push lo hi rfl
  obtain ⟨a0, cap0, rfl, -⟩ := (id hl)
  go_enter Try.func8, Try.ntmps8
  go_wp2_with (first | (go_at_call 23; refine (HF _ _ (Li.lit (p := [0, 0, 1000]) (by simp) three_cells)).out.mono ?_; rintro e wn ⟨rfl, hb⟩; replace hF := (hF.alloc _).step hb; clear hb; clear HF; replace hF := hF.push 1000 4000 rfl) | (go_at_call 24; refine (HG _ _ (Li.lit (p := [0, 0, 1000]) (by simp) three_cells)).out.mono ?_; rintro e wn ⟨rfl, hb⟩; replace hF := (hF.alloc _).step hb; clear hb; clear HG; have x0l := (hF.at 0 rfl).lo; have x0h := (hF.at 0 rfl).hi; have x1l := (hF.at 1 rfl).lo; have x1h := (hF.at 1 rfl).hi) | (go_at_call 16; refine (HS _ _ (hF.li hl)).out.mono ?_; rintro e wn ⟨rfl, rfl⟩) | (go_at_call 17; refine (HV _ (hF.li hl)).out.mono ?_; rintro e wn ⟨rfl, rfl⟩) | (go_at_call 23; refine (HM _ (hF.li hl)).out.mono ?_; rintro e wn ⟨rfl, hb⟩; replace hF := hF.step hb; clear hb; clear x0l x0h x1l x1h; replace hF := hF.push M.1 M.2.1 rfl; have x0l := (hF.at 0 rfl).lo; have x0h := (hF.at 0 rfl).hi; have x2l := (hF.at 2 rfl).lo; have x2h := (hF.at 2 rfl).hi) | (go_at_call 24; refine (HW _ (hF.li hl)).out.mono ?_; rintro e wn ⟨rfl, hb⟩; replace hF := hF.step hb; clear hb; clear x0l x0h x2l x2h) | (go_at_call 25; refine (HE _ (by assumption) _ (hF.li hl)).out.mono ?_; rintro e wn ⟨rfl, rfl⟩))
  go_returns
  exact ⟨rfl, hF.below⟩

set_option maxRecDepth 100000 in
set_option maxHeartbeats 8000000 in
theorem walk_no_up_le (p : List Int) (v : Value) (lo hi n m : Int) (w : World) (hl : Li w.heap.size w v p) (s1 : Um.small p n = true) (s2 : Um.small p m = true) (n1 : ¬ n < lo) (n2 : ¬ hi < n) (m1 : ¬ m < lo) (m2 : ¬ hi < m) (hM : ¬ (Um.monoAll p lo hi).2.2 = 0) (eW : Um.wayAll p lo hi = (1, 0)) (hu : ∀ n m, lo ≤ n → n ≤ hi → lo ≤ m → m ≤ hi → n ≤ m → Um.exN n p p.length ≤ Um.exN m p p.length) (o : n ≤ m) :
    Calls Try.prog 8 #[v, .agg #[.int .i64 lo, .int .i64 hi], .int .i64 n, .int .i64 m] w fun e w' => e = .returned (.bool true) ∧ Below w.heap.size w w' := by
  have v0 := errV_none
  have q1 := errG
  have q2 := errGn
  have q3 := errE
  have q4 := errN
  have HF := fun v w hl => hid (mrange_any [0, 0, 1000] v 1000 2000 w hl)
  rw [fact1] at HF
  have HG := fun v w hl => hid (way_any [0, 0, 1000] v (-1000) 2000 w hl)
  rw [fact2] at HG
  have HS := fun k w hl => hid (rSmall_any p v k w hl)
  have HV := fun w hl => hid (rValue_any p v n w hl s1)
  have HM := fun w hl => hid (mrange_any p v lo hi w hl)
  have HW := fun w hl => hid (way_any p v lo hi w hl)
  have HE := fun k h w hl => hid (rExact_any p v k w hl h)
  have k1 : ((Um.monoAll p lo hi).2.2 != 0) = true := by simpa using hM
  have k1' : ((Um.monoAll p lo hi).2.2 == 0) = false := by simpa using hM
  clear hM
  have tn1 : decide (n < lo) = false := by simpa using n1
  have tn2 : decide (hi < n) = false := by simpa using n2
  have tm1 : decide (m < lo) = false := by simpa using m1
  have tm2 : decide (hi < m) = false := by simpa using m2
  have to : decide (n ≤ m) = true := by simpa using o
  have g3 := hu n m (by omega) (by omega) (by omega) (by omega) o
  have k5 : decide (Um.exN n p p.length ≤ Um.exN m p p.length) = true := by simpa using g3
  clear g3
  rw [eW] at HW
  clear eW o n1 n2 m1 m2 hu
  generalize Um.monoAll p lo hi = M at *
  generalize Um.fl (Um.exN n p p.length) 1000000000000 = U at *
  generalize Um.ce (Um.exN n p p.length) 1000000000000 = V at *
  have hF := (Fr.start w).push lo hi rfl
  obtain ⟨a0, cap0, rfl, -⟩ := (id hl)
  go_enter Try.func8, Try.ntmps8
  go_wp2_with (first | (go_at_call 23; refine (HF _ _ (Li.lit (p := [0, 0, 1000]) (by simp) three_cells)).out.mono ?_; rintro e wn ⟨rfl, hb⟩; replace hF := (hF.alloc _).step hb; clear hb; clear HF; replace hF := hF.push 1000 4000 rfl) | (go_at_call 24; refine (HG _ _ (Li.lit (p := [0, 0, 1000]) (by simp) three_cells)).out.mono ?_; rintro e wn ⟨rfl, hb⟩; replace hF := (hF.alloc _).step hb; clear hb; clear HG; have x0l := (hF.at 0 rfl).lo; have x0h := (hF.at 0 rfl).hi; have x1l := (hF.at 1 rfl).lo; have x1h := (hF.at 1 rfl).hi) | (go_at_call 16; refine (HS _ _ (hF.li hl)).out.mono ?_; rintro e wn ⟨rfl, rfl⟩) | (go_at_call 17; refine (HV _ (hF.li hl)).out.mono ?_; rintro e wn ⟨rfl, rfl⟩) | (go_at_call 23; refine (HM _ (hF.li hl)).out.mono ?_; rintro e wn ⟨rfl, hb⟩; replace hF := hF.step hb; clear hb; clear x0l x0h x1l x1h; replace hF := hF.push M.1 M.2.1 rfl; have x0l := (hF.at 0 rfl).lo; have x0h := (hF.at 0 rfl).hi; have x2l := (hF.at 2 rfl).lo; have x2h := (hF.at 2 rfl).hi) | (go_at_call 24; refine (HW _ (hF.li hl)).out.mono ?_; rintro e wn ⟨rfl, hb⟩; replace hF := hF.step hb; clear hb; clear x0l x0h x2l x2h) | (go_at_call 25; refine (HE _ (by assumption) _ (hF.li hl)).out.mono ?_; rintro e wn ⟨rfl, rfl⟩))
  go_returns
  exact ⟨rfl, hF.below⟩

set_option maxRecDepth 100000 in
set_option maxHeartbeats 8000000 in
theorem walk_no_up_gt (p : List Int) (v : Value) (lo hi n m : Int) (w : World) (hl : Li w.heap.size w v p) (s1 : Um.small p n = true) (s2 : Um.small p m = true) (n1 : ¬ n < lo) (n2 : ¬ hi < n) (m1 : ¬ m < lo) (m2 : ¬ hi < m) (hM : ¬ (Um.monoAll p lo hi).2.2 = 0) (eW : Um.wayAll p lo hi = (1, 0)) (hu : ∀ n m, lo ≤ n → n ≤ hi → lo ≤ m → m ≤ hi → n ≤ m → Um.exN n p p.length ≤ Um.exN m p p.length) (o : ¬ n ≤ m) :
    Calls Try.prog 8 #[v, .agg #[.int .i64 lo, .int .i64 hi], .int .i64 n, .int .i64 m] w fun e w' => e = .returned (.bool true) ∧ Below w.heap.size w w' := by
  have v0 := errV_none
  have q1 := errG
  have q2 := errGn
  have q3 := errE
  have q4 := errN
  have HF := fun v w hl => hid (mrange_any [0, 0, 1000] v 1000 2000 w hl)
  rw [fact1] at HF
  have HG := fun v w hl => hid (way_any [0, 0, 1000] v (-1000) 2000 w hl)
  rw [fact2] at HG
  have HS := fun k w hl => hid (rSmall_any p v k w hl)
  have HV := fun w hl => hid (rValue_any p v n w hl s1)
  have HM := fun w hl => hid (mrange_any p v lo hi w hl)
  have HW := fun w hl => hid (way_any p v lo hi w hl)
  have HE := fun k h w hl => hid (rExact_any p v k w hl h)
  have k1 : ((Um.monoAll p lo hi).2.2 != 0) = true := by simpa using hM
  have k1' : ((Um.monoAll p lo hi).2.2 == 0) = false := by simpa using hM
  clear hM
  have tn1 : decide (n < lo) = false := by simpa using n1
  have tn2 : decide (hi < n) = false := by simpa using n2
  have tm1 : decide (m < lo) = false := by simpa using m1
  have tm2 : decide (hi < m) = false := by simpa using m2
  have to : decide (n ≤ m) = false := by simpa using o
  have g3 := hu m n (by omega) (by omega) (by omega) (by omega) (by omega)
  have k5 : decide (Um.exN m p p.length ≤ Um.exN n p p.length) = true := by simpa using g3
  clear g3
  rw [eW] at HW
  clear eW o n1 n2 m1 m2 hu
  generalize Um.monoAll p lo hi = M at *
  generalize Um.fl (Um.exN n p p.length) 1000000000000 = U at *
  generalize Um.ce (Um.exN n p p.length) 1000000000000 = V at *
  have hF := (Fr.start w).push lo hi rfl
  obtain ⟨a0, cap0, rfl, -⟩ := (id hl)
  go_enter Try.func8, Try.ntmps8
  go_wp2_with (first | (go_at_call 23; refine (HF _ _ (Li.lit (p := [0, 0, 1000]) (by simp) three_cells)).out.mono ?_; rintro e wn ⟨rfl, hb⟩; replace hF := (hF.alloc _).step hb; clear hb; clear HF; replace hF := hF.push 1000 4000 rfl) | (go_at_call 24; refine (HG _ _ (Li.lit (p := [0, 0, 1000]) (by simp) three_cells)).out.mono ?_; rintro e wn ⟨rfl, hb⟩; replace hF := (hF.alloc _).step hb; clear hb; clear HG; have x0l := (hF.at 0 rfl).lo; have x0h := (hF.at 0 rfl).hi; have x1l := (hF.at 1 rfl).lo; have x1h := (hF.at 1 rfl).hi) | (go_at_call 16; refine (HS _ _ (hF.li hl)).out.mono ?_; rintro e wn ⟨rfl, rfl⟩) | (go_at_call 17; refine (HV _ (hF.li hl)).out.mono ?_; rintro e wn ⟨rfl, rfl⟩) | (go_at_call 23; refine (HM _ (hF.li hl)).out.mono ?_; rintro e wn ⟨rfl, hb⟩; replace hF := hF.step hb; clear hb; clear x0l x0h x1l x1h; replace hF := hF.push M.1 M.2.1 rfl; have x0l := (hF.at 0 rfl).lo; have x0h := (hF.at 0 rfl).hi; have x2l := (hF.at 2 rfl).lo; have x2h := (hF.at 2 rfl).hi) | (go_at_call 24; refine (HW _ (hF.li hl)).out.mono ?_; rintro e wn ⟨rfl, hb⟩; replace hF := hF.step hb; clear hb; clear x0l x0h x2l x2h) | (go_at_call 25; refine (HE _ (by assumption) _ (hF.li hl)).out.mono ?_; rintro e wn ⟨rfl, rfl⟩))
  go_returns
  exact ⟨rfl, hF.below⟩

set_option maxRecDepth 100000 in
set_option maxHeartbeats 8000000 in
theorem walk_no_down_le (p : List Int) (v : Value) (lo hi n m : Int) (w : World) (hl : Li w.heap.size w v p) (s1 : Um.small p n = true) (s2 : Um.small p m = true) (n1 : ¬ n < lo) (n2 : ¬ hi < n) (m1 : ¬ m < lo) (m2 : ¬ hi < m) (hM : ¬ (Um.monoAll p lo hi).2.2 = 0) (eW : Um.wayAll p lo hi = (-1, 0)) (hu : ∀ n m, lo ≤ n → n ≤ hi → lo ≤ m → m ≤ hi → n ≤ m → Um.exN m p p.length ≤ Um.exN n p p.length) (o : n ≤ m) :
    Calls Try.prog 8 #[v, .agg #[.int .i64 lo, .int .i64 hi], .int .i64 n, .int .i64 m] w fun e w' => e = .returned (.bool true) ∧ Below w.heap.size w w' := by
  have v0 := errV_none
  have q1 := errG
  have q2 := errGn
  have q3 := errE
  have q4 := errN
  have HF := fun v w hl => hid (mrange_any [0, 0, 1000] v 1000 2000 w hl)
  rw [fact1] at HF
  have HG := fun v w hl => hid (way_any [0, 0, 1000] v (-1000) 2000 w hl)
  rw [fact2] at HG
  have HS := fun k w hl => hid (rSmall_any p v k w hl)
  have HV := fun w hl => hid (rValue_any p v n w hl s1)
  have HM := fun w hl => hid (mrange_any p v lo hi w hl)
  have HW := fun w hl => hid (way_any p v lo hi w hl)
  have HE := fun k h w hl => hid (rExact_any p v k w hl h)
  have k1 : ((Um.monoAll p lo hi).2.2 != 0) = true := by simpa using hM
  have k1' : ((Um.monoAll p lo hi).2.2 == 0) = false := by simpa using hM
  clear hM
  have tn1 : decide (n < lo) = false := by simpa using n1
  have tn2 : decide (hi < n) = false := by simpa using n2
  have tm1 : decide (m < lo) = false := by simpa using m1
  have tm2 : decide (hi < m) = false := by simpa using m2
  have to : decide (n ≤ m) = true := by simpa using o
  have g3 := hu n m (by omega) (by omega) (by omega) (by omega) o
  have k5 : decide (Um.exN m p p.length ≤ Um.exN n p p.length) = true := by simpa using g3
  clear g3
  rw [eW] at HW
  clear eW o n1 n2 m1 m2 hu
  generalize Um.monoAll p lo hi = M at *
  generalize Um.fl (Um.exN n p p.length) 1000000000000 = U at *
  generalize Um.ce (Um.exN n p p.length) 1000000000000 = V at *
  have hF := (Fr.start w).push lo hi rfl
  obtain ⟨a0, cap0, rfl, -⟩ := (id hl)
  go_enter Try.func8, Try.ntmps8
  go_wp2_with (first | (go_at_call 23; refine (HF _ _ (Li.lit (p := [0, 0, 1000]) (by simp) three_cells)).out.mono ?_; rintro e wn ⟨rfl, hb⟩; replace hF := (hF.alloc _).step hb; clear hb; clear HF; replace hF := hF.push 1000 4000 rfl) | (go_at_call 24; refine (HG _ _ (Li.lit (p := [0, 0, 1000]) (by simp) three_cells)).out.mono ?_; rintro e wn ⟨rfl, hb⟩; replace hF := (hF.alloc _).step hb; clear hb; clear HG; have x0l := (hF.at 0 rfl).lo; have x0h := (hF.at 0 rfl).hi; have x1l := (hF.at 1 rfl).lo; have x1h := (hF.at 1 rfl).hi) | (go_at_call 16; refine (HS _ _ (hF.li hl)).out.mono ?_; rintro e wn ⟨rfl, rfl⟩) | (go_at_call 17; refine (HV _ (hF.li hl)).out.mono ?_; rintro e wn ⟨rfl, rfl⟩) | (go_at_call 23; refine (HM _ (hF.li hl)).out.mono ?_; rintro e wn ⟨rfl, hb⟩; replace hF := hF.step hb; clear hb; clear x0l x0h x1l x1h; replace hF := hF.push M.1 M.2.1 rfl; have x0l := (hF.at 0 rfl).lo; have x0h := (hF.at 0 rfl).hi; have x2l := (hF.at 2 rfl).lo; have x2h := (hF.at 2 rfl).hi) | (go_at_call 24; refine (HW _ (hF.li hl)).out.mono ?_; rintro e wn ⟨rfl, hb⟩; replace hF := hF.step hb; clear hb; clear x0l x0h x2l x2h) | (go_at_call 25; refine (HE _ (by assumption) _ (hF.li hl)).out.mono ?_; rintro e wn ⟨rfl, rfl⟩))
  go_returns
  exact ⟨rfl, hF.below⟩

set_option maxRecDepth 100000 in
set_option maxHeartbeats 8000000 in
theorem walk_no_down_gt (p : List Int) (v : Value) (lo hi n m : Int) (w : World) (hl : Li w.heap.size w v p) (s1 : Um.small p n = true) (s2 : Um.small p m = true) (n1 : ¬ n < lo) (n2 : ¬ hi < n) (m1 : ¬ m < lo) (m2 : ¬ hi < m) (hM : ¬ (Um.monoAll p lo hi).2.2 = 0) (eW : Um.wayAll p lo hi = (-1, 0)) (hu : ∀ n m, lo ≤ n → n ≤ hi → lo ≤ m → m ≤ hi → n ≤ m → Um.exN m p p.length ≤ Um.exN n p p.length) (o : ¬ n ≤ m) :
    Calls Try.prog 8 #[v, .agg #[.int .i64 lo, .int .i64 hi], .int .i64 n, .int .i64 m] w fun e w' => e = .returned (.bool true) ∧ Below w.heap.size w w' := by
  have v0 := errV_none
  have q1 := errG
  have q2 := errGn
  have q3 := errE
  have q4 := errN
  have HF := fun v w hl => hid (mrange_any [0, 0, 1000] v 1000 2000 w hl)
  rw [fact1] at HF
  have HG := fun v w hl => hid (way_any [0, 0, 1000] v (-1000) 2000 w hl)
  rw [fact2] at HG
  have HS := fun k w hl => hid (rSmall_any p v k w hl)
  have HV := fun w hl => hid (rValue_any p v n w hl s1)
  have HM := fun w hl => hid (mrange_any p v lo hi w hl)
  have HW := fun w hl => hid (way_any p v lo hi w hl)
  have HE := fun k h w hl => hid (rExact_any p v k w hl h)
  have k1 : ((Um.monoAll p lo hi).2.2 != 0) = true := by simpa using hM
  have k1' : ((Um.monoAll p lo hi).2.2 == 0) = false := by simpa using hM
  clear hM
  have tn1 : decide (n < lo) = false := by simpa using n1
  have tn2 : decide (hi < n) = false := by simpa using n2
  have tm1 : decide (m < lo) = false := by simpa using m1
  have tm2 : decide (hi < m) = false := by simpa using m2
  have to : decide (n ≤ m) = false := by simpa using o
  have g3 := hu m n (by omega) (by omega) (by omega) (by omega) (by omega)
  have k5 : decide (Um.exN n p p.length ≤ Um.exN m p p.length) = true := by simpa using g3
  clear g3
  rw [eW] at HW
  clear eW o n1 n2 m1 m2 hu
  generalize Um.monoAll p lo hi = M at *
  generalize Um.fl (Um.exN n p p.length) 1000000000000 = U at *
  generalize Um.ce (Um.exN n p p.length) 1000000000000 = V at *
  have hF := (Fr.start w).push lo hi rfl
  obtain ⟨a0, cap0, rfl, -⟩ := (id hl)
  go_enter Try.func8, Try.ntmps8
  go_wp2_with (first | (go_at_call 23; refine (HF _ _ (Li.lit (p := [0, 0, 1000]) (by simp) three_cells)).out.mono ?_; rintro e wn ⟨rfl, hb⟩; replace hF := (hF.alloc _).step hb; clear hb; clear HF; replace hF := hF.push 1000 4000 rfl) | (go_at_call 24; refine (HG _ _ (Li.lit (p := [0, 0, 1000]) (by simp) three_cells)).out.mono ?_; rintro e wn ⟨rfl, hb⟩; replace hF := (hF.alloc _).step hb; clear hb; clear HG; have x0l := (hF.at 0 rfl).lo; have x0h := (hF.at 0 rfl).hi; have x1l := (hF.at 1 rfl).lo; have x1h := (hF.at 1 rfl).hi) | (go_at_call 16; refine (HS _ _ (hF.li hl)).out.mono ?_; rintro e wn ⟨rfl, rfl⟩) | (go_at_call 17; refine (HV _ (hF.li hl)).out.mono ?_; rintro e wn ⟨rfl, rfl⟩) | (go_at_call 23; refine (HM _ (hF.li hl)).out.mono ?_; rintro e wn ⟨rfl, hb⟩; replace hF := hF.step hb; clear hb; clear x0l x0h x1l x1h; replace hF := hF.push M.1 M.2.1 rfl; have x0l := (hF.at 0 rfl).lo; have x0h := (hF.at 0 rfl).hi; have x2l := (hF.at 2 rfl).lo; have x2h := (hF.at 2 rfl).hi) | (go_at_call 24; refine (HW _ (hF.li hl)).out.mono ?_; rintro e wn ⟨rfl, hb⟩; replace hF := hF.step hb; clear hb; clear x0l x0h x2l x2h) | (go_at_call 25; refine (HE _ (by assumption) _ (hF.li hl)).out.mono ?_; rintro e wn ⟨rfl, rfl⟩))
  go_returns
  exact ⟨rfl, hF.below⟩

theorem walk (p : List Int) (v : Value) (lo hi n m : Int) (w : World) (hl : Li w.heap.size w v p) :
    Calls Try.prog 8 #[v, .agg #[.int .i64 lo, .int .i64 hi], .int .i64 n, .int .i64 m] w fun e w' => e = .returned (.bool true) ∧ Below w.heap.size w w' := by
  cases s1 : Um.small p n
  · exact walk_big p v lo hi n m w hl s1
  · cases s2 : Um.small p m
    · exact walk_big2 p v lo hi n m w hl s1 s2
    · by_cases n1 : n < lo
      · exact walk_out0 p v lo hi n m w hl s1 s2 n1
      by_cases n2 : hi < n
      · exact walk_out1 p v lo hi n m w hl s1 s2 n1 n2
      by_cases m1 : m < lo
      · exact walk_out2 p v lo hi n m w hl s1 s2 n1 n2 m1
      by_cases m2 : hi < m
      · exact walk_out3 p v lo hi n m w hl s1 s2 n1 n2 m1 m2
      by_cases hM : (Um.monoAll p lo hi).2.2 = 0
      · by_cases hW : (Um.wayAll p lo hi).2 = 0
        · have eP : Um.wayAll p lo hi = ((Um.wayAll p lo hi).1, 0) := by rw [← hW]
          rcases ways hW with e | ⟨e, hu⟩ | ⟨e, hu⟩
          · rw [e] at eP
            by_cases o : n ≤ m
            · exact walk_ok_both_le p v lo hi n m w hl s1 s2 n1 n2 m1 m2 hM eP o
            · exact walk_ok_both_gt p v lo hi n m w hl s1 s2 n1 n2 m1 m2 hM eP o
          · rw [e] at eP
            by_cases o : n ≤ m
            · exact walk_ok_up_le p v lo hi n m w hl s1 s2 n1 n2 m1 m2 hM eP hu o
            · exact walk_ok_up_gt p v lo hi n m w hl s1 s2 n1 n2 m1 m2 hM eP hu o
          · rw [e] at eP
            by_cases o : n ≤ m
            · exact walk_ok_down_le p v lo hi n m w hl s1 s2 n1 n2 m1 m2 hM eP hu o
            · exact walk_ok_down_gt p v lo hi n m w hl s1 s2 n1 n2 m1 m2 hM eP hu o
        · exact walk_ok_bad p v lo hi n m w hl s1 s2 n1 n2 m1 m2 hM hW
      · by_cases hW : (Um.wayAll p lo hi).2 = 0
        · have eP : Um.wayAll p lo hi = ((Um.wayAll p lo hi).1, 0) := by rw [← hW]
          rcases ways hW with e | ⟨e, hu⟩ | ⟨e, hu⟩
          · rw [e] at eP
            by_cases o : n ≤ m
            · exact walk_no_both_le p v lo hi n m w hl s1 s2 n1 n2 m1 m2 hM eP o
            · exact walk_no_both_gt p v lo hi n m w hl s1 s2 n1 n2 m1 m2 hM eP o
          · rw [e] at eP
            by_cases o : n ≤ m
            · exact walk_no_up_le p v lo hi n m w hl s1 s2 n1 n2 m1 m2 hM eP hu o
            · exact walk_no_up_gt p v lo hi n m w hl s1 s2 n1 n2 m1 m2 hM eP hu o
          · rw [e] at eP
            by_cases o : n ≤ m
            · exact walk_no_down_le p v lo hi n m w hl s1 s2 n1 n2 m1 m2 hM eP hu o
            · exact walk_no_down_gt p v lo hi n m w hl s1 s2 n1 n2 m1 m2 hM eP hu o
        · exact walk_no_bad p v lo hi n m w hl s1 s2 n1 n2 m1 m2 hM hW
end Go.Proofs.Ytfmjndipanlcoaa.MHas
