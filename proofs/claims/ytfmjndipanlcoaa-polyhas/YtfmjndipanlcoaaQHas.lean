/-
  The walk over 'spanlaw1.PolyHas': for all p, x, n it returns true.
-/
import Derived.Test.YtfmjndipanlcoaaPolyH
import Derived.Test.YtfmjndipanlcoaaPolyP
import Derived.Test.YtfmjndipanlcoaaRefVal
namespace Go.Proofs.Ytfmjndipanlcoaa.QHas
set_option linter.unusedSimpArgs false
open Go.RowKit

theorem fact : Um.hornAll [0, -1000, 1000] 0 1000 = (-1000, 0, 0) := by decide +kernel
theorem horn_in {p : List Int} {lo hi n : Int} (h1 : lo ≤ n) (h2 : n ≤ hi) (h : (Um.hornAll p lo hi).2.2 = 0) :
    (Um.hornAll p lo hi).1 ≤ Um.fl (Um.exN n p p.length) 1000000000000 ∧ Um.ce (Um.exN n p p.length) 1000000000000 ≤ (Um.hornAll p lo hi).2.1 := by
  unfold Um.hornAll at h ⊢
  by_cases ho : Um.over p lo hi = 0
  · rw [if_pos ho] at h ⊢
    have hp := Um.pchk_ok.1 (Um.over_ok.1 ho).1
    exact Um.horn_value hp.1 hp.2.1 h1 h2 h
  · rw [if_neg ho] at h; exact absurd h ho
theorem pows_in {p : List Int} {lo hi n : Int} (h1 : lo ≤ n) (h2 : n ≤ hi) (h : (Um.powsAll p lo hi).2.2 = 0) :
    (Um.powsAll p lo hi).1 ≤ Um.fl (Um.exN n p p.length) 1000000000000 ∧ Um.ce (Um.exN n p p.length) 1000000000000 ≤ (Um.powsAll p lo hi).2.1 := by
  unfold Um.powsAll at h ⊢
  by_cases ho : Um.over p lo hi = 0
  · rw [if_pos ho] at h ⊢
    have hp := Um.pchk_ok.1 (Um.over_ok.1 ho).1
    exact Um.pows_value (Um.over_ok.1 ho).2 hp.2.1 h1 h2 h
  · rw [if_neg ho] at h; exact absurd h ho

set_option maxRecDepth 100000 in
set_option maxHeartbeats 4000000 in
theorem walk_big (p : List Int) (v : Value) (lo hi n : Int) (w : World) (hl : Li w.heap.size w v p) (h : Um.small p n = false) :
    Calls Try.prog 4 #[v, .agg #[.int .i64 lo, .int .i64 hi], .int .i64 n] w fun e w' => e = .returned (.bool true) ∧ Below w.heap.size w w' := by
  have v0 := errV_none
  have HF := fun v w hl => hid (horner_any [0, -1000, 1000] v 0 1000 w hl)
  rw [fact] at HF
  have HS := fun w hl => hid (rSmall_any p v n w hl)
  rw [h] at HS
  clear h
  have hX := Sp.new w lo hi
  have hB : Below w.heap.size w (w.alloc (.cells #[.int .i64 lo, .int .i64 hi] 23)) := by go_grown
  obtain ⟨a0, cap0, rfl, -⟩ := (id hl)
  go_enter Try.func4, Try.ntmps4
  go_wp2_with (first | (go_at_call 15; refine (HF _ _ (Li.lit (p := [0, -1000, 1000]) (by simp) three_cells)).out.mono ?_; rintro e w1 ⟨rfl, hb⟩; clear HF; replace hX := (hX.alloc _).step hb; replace hB := (hB.alloc hB.size _).trans (hb.mono (by simp; omega)); clear hb; have hA := Sp.new w1 (-1000) 0; replace hX := hX.alloc (.cells #[.int .i64 (-1000), .int .i64 0] 23); replace hB := hB.alloc hB.size (.cells #[.int .i64 (-1000), .int .i64 0] 23); have a1 := hA.lo; have a2 := hA.hi; have x1 := hX.lo; have x2 := hX.hi; have hsz := hB.size) | (go_at_call 16; refine (HS _ ((hl.keep hB).wide hB.size)).out.mono ?_; rintro e w2 ⟨rfl, rfl⟩))
  go_returns
  exact ⟨rfl, hB⟩

set_option maxRecDepth 100000 in
set_option maxHeartbeats 4000000 in
theorem walk_low (p : List Int) (v : Value) (lo hi n : Int) (w : World) (hl : Li w.heap.size w v p) (h : Um.small p n = true) (h1 : n < lo) :
    Calls Try.prog 4 #[v, .agg #[.int .i64 lo, .int .i64 hi], .int .i64 n] w fun e w' => e = .returned (.bool true) ∧ Below w.heap.size w w' := by
  have v0 := errV_none
  have HF := fun v w hl => hid (horner_any [0, -1000, 1000] v 0 1000 w hl)
  rw [fact] at HF
  have HS := fun w hl => hid (rSmall_any p v n w hl)
  rw [h] at HS
  have t1 : decide (n < lo) = true := by simpa using h1
  clear h h1
  have hX := Sp.new w lo hi
  have hB : Below w.heap.size w (w.alloc (.cells #[.int .i64 lo, .int .i64 hi] 23)) := by go_grown
  obtain ⟨a0, cap0, rfl, -⟩ := (id hl)
  go_enter Try.func4, Try.ntmps4
  go_wp2_with (first | (go_at_call 15; refine (HF _ _ (Li.lit (p := [0, -1000, 1000]) (by simp) three_cells)).out.mono ?_; rintro e w1 ⟨rfl, hb⟩; clear HF; replace hX := (hX.alloc _).step hb; replace hB := (hB.alloc hB.size _).trans (hb.mono (by simp; omega)); clear hb; have hA := Sp.new w1 (-1000) 0; replace hX := hX.alloc (.cells #[.int .i64 (-1000), .int .i64 0] 23); replace hB := hB.alloc hB.size (.cells #[.int .i64 (-1000), .int .i64 0] 23); have a1 := hA.lo; have a2 := hA.hi; have x1 := hX.lo; have x2 := hX.hi; have hsz := hB.size) | (go_at_call 16; refine (HS _ ((hl.keep hB).wide hB.size)).out.mono ?_; rintro e w2 ⟨rfl, rfl⟩))
  go_returns
  exact ⟨rfl, hB⟩

set_option maxRecDepth 100000 in
set_option maxHeartbeats 4000000 in
theorem walk_high (p : List Int) (v : Value) (lo hi n : Int) (w : World) (hl : Li w.heap.size w v p) (h : Um.small p n = true) (h1 : ¬ n < lo) (h2 : hi < n) :
    Calls Try.prog 4 #[v, .agg #[.int .i64 lo, .int .i64 hi], .int .i64 n] w fun e w' => e = .returned (.bool true) ∧ Below w.heap.size w w' := by
  have v0 := errV_none
  have HF := fun v w hl => hid (horner_any [0, -1000, 1000] v 0 1000 w hl)
  rw [fact] at HF
  have HS := fun w hl => hid (rSmall_any p v n w hl)
  rw [h] at HS
  have t1 : decide (n < lo) = false := by simpa using h1
  have t2 : decide (hi < n) = true := by simpa using h2
  clear h h1 h2
  have hX := Sp.new w lo hi
  have hB : Below w.heap.size w (w.alloc (.cells #[.int .i64 lo, .int .i64 hi] 23)) := by go_grown
  obtain ⟨a0, cap0, rfl, -⟩ := (id hl)
  go_enter Try.func4, Try.ntmps4
  go_wp2_with (first | (go_at_call 15; refine (HF _ _ (Li.lit (p := [0, -1000, 1000]) (by simp) three_cells)).out.mono ?_; rintro e w1 ⟨rfl, hb⟩; clear HF; replace hX := (hX.alloc _).step hb; replace hB := (hB.alloc hB.size _).trans (hb.mono (by simp; omega)); clear hb; have hA := Sp.new w1 (-1000) 0; replace hX := hX.alloc (.cells #[.int .i64 (-1000), .int .i64 0] 23); replace hB := hB.alloc hB.size (.cells #[.int .i64 (-1000), .int .i64 0] 23); have a1 := hA.lo; have a2 := hA.hi; have x1 := hX.lo; have x2 := hX.hi; have hsz := hB.size) | (go_at_call 16; refine (HS _ ((hl.keep hB).wide hB.size)).out.mono ?_; rintro e w2 ⟨rfl, rfl⟩))
  go_returns
  exact ⟨rfl, hB⟩

set_option maxRecDepth 100000 in
set_option maxHeartbeats 4000000 in
theorem walk_ok_ok (p : List Int) (v : Value) (lo hi n : Int) (w : World) (hl : Li w.heap.size w v p) (h : Um.small p n = true) (h1 : ¬ n < lo) (h2 : ¬ hi < n) (hR : (Um.hornAll p lo hi).2.2 = 0) (hS0 : (Um.powsAll p lo hi).2.2 = 0) :
    Calls Try.prog 4 #[v, .agg #[.int .i64 lo, .int .i64 hi], .int .i64 n] w fun e w' => e = .returned (.bool true) ∧ Below w.heap.size w w' := by
  have v0 := errV_none
  have HF := fun v w hl => hid (horner_any [0, -1000, 1000] v 0 1000 w hl)
  rw [fact] at HF
  have HS := fun w hl => hid (rSmall_any p v n w hl)
  have q1 := errG
  have q2 := errGn
  have q3 := errE
  have q4 := errN
  rw [h] at HS
  have t1 : decide (n < lo) = false := by simpa using h1
  have t2 : decide (hi < n) = false := by simpa using h2
  have HV := fun w hl => hid (rValue_any p v n w hl h)
  have HH := fun w hl => hid (horner_any p v lo hi w hl)
  have HP := fun w hl => hid (powers_any p v lo hi w hl)
  have I1 := horn_in (p := p) (by omega : lo ≤ n) (by omega : n ≤ hi)
  have I2 := pows_in (p := p) (by omega : lo ≤ n) (by omega : n ≤ hi)
  clear h h1 h2
  generalize Um.hornAll p lo hi = R at *
  generalize Um.powsAll p lo hi = S at *
  generalize Um.fl (Um.exN n p p.length) 1000000000000 = L at *
  generalize Um.ce (Um.exN n p p.length) 1000000000000 = H at *
  have k1 : (R.2.2 == 0) = true := by simpa using hR
  have r1 : decide (L < R.1) = false := by simp; exact (I1 hR).1
  have r2 : decide (R.2.1 < H) = false := by simp; exact (I1 hR).2
  have k2 : (S.2.2 != 0) = false := by simpa using hS0
  have s1 : decide (S.1 ≤ L) = true := by simp; exact (I2 hS0).1
  have s2 : decide (H ≤ S.2.1) = true := by simp; exact (I2 hS0).2
  clear I1 I2 hR hS0
  have hX := Sp.new w lo hi
  have hB : Below w.heap.size w (w.alloc (.cells #[.int .i64 lo, .int .i64 hi] 23)) := by go_grown
  obtain ⟨a0, cap0, rfl, -⟩ := (id hl)
  go_enter Try.func4, Try.ntmps4
  go_wp2_with (first | (go_at_call 15; refine (HF _ _ (Li.lit (p := [0, -1000, 1000]) (by simp) three_cells)).out.mono ?_; rintro e w1 ⟨rfl, hb⟩; clear HF; replace hX := (hX.alloc _).step hb; replace hB := (hB.alloc hB.size _).trans (hb.mono (by simp; omega)); clear hb; have hA := Sp.new w1 (-1000) 0; replace hX := hX.alloc (.cells #[.int .i64 (-1000), .int .i64 0] 23); replace hB := hB.alloc hB.size (.cells #[.int .i64 (-1000), .int .i64 0] 23); have a1 := hA.lo; have a2 := hA.hi; have x1 := hX.lo; have x2 := hX.hi; have hsz := hB.size) | (go_at_call 16; refine (HS _ ((hl.keep hB).wide hB.size)).out.mono ?_; rintro e w2 ⟨rfl, rfl⟩) | (go_at_call 17; refine (HV _ ((hl.keep hB).wide hB.size)).out.mono ?_; rintro e w3 ⟨rfl, rfl⟩) | (go_at_call 15; refine (HH _ ((hl.keep hB).wide hB.size)).out.mono ?_; rintro e w4 ⟨rfl, hb⟩; clear HH; replace hX := hX.step hb; replace hB := hB.trans (hb.mono hB.size); clear hb hA a1 a2 x1 x2 hsz; have hs4 := hB.size; have hS := Sp.new w4 R.1 R.2.1; replace hX := hX.alloc (.cells #[.int .i64 R.1, .int .i64 R.2.1] 23); replace hB := hB.alloc hB.size (.cells #[.int .i64 R.1, .int .i64 R.2.1] 23); have a1 := hS.lo; have a2 := hS.hi; have x1 := hX.lo; have x2 := hX.hi; have hsz := hB.size) | (go_at_call 18; refine (HP _ ((hl.keep hB).wide hB.size)).out.mono ?_; rintro e w5 ⟨rfl, hb⟩; clear HP; replace hS := hS.step hb; have hlt := hX.lt; replace hB := hB.trans (hb.mono hB.size); clear hb hX a1 a2 x1 x2; have y1 := hS.fl; have y2 := hS.fh; have y3 := hS.lo; have y4 := hS.hi; have z1 := (hS.set S.1 S.2.1).lo; have z2 := (hS.set S.1 S.2.1).hi; have z3 := hS.r0; have hsz2 := hsz))
  go_returns
  exact ⟨rfl, (hB.setCell (by simp only []; omega) _).setCell (by simp only []; omega) _⟩

set_option maxRecDepth 100000 in
set_option maxHeartbeats 4000000 in
theorem walk_ok_no (p : List Int) (v : Value) (lo hi n : Int) (w : World) (hl : Li w.heap.size w v p) (h : Um.small p n = true) (h1 : ¬ n < lo) (h2 : ¬ hi < n) (hR : (Um.hornAll p lo hi).2.2 = 0) (hS0 : ¬ (Um.powsAll p lo hi).2.2 = 0) :
    Calls Try.prog 4 #[v, .agg #[.int .i64 lo, .int .i64 hi], .int .i64 n] w fun e w' => e = .returned (.bool true) ∧ Below w.heap.size w w' := by
  have v0 := errV_none
  have HF := fun v w hl => hid (horner_any [0, -1000, 1000] v 0 1000 w hl)
  rw [fact] at HF
  have HS := fun w hl => hid (rSmall_any p v n w hl)
  have q1 := errG
  have q2 := errGn
  have q3 := errE
  have q4 := errN
  rw [h] at HS
  have t1 : decide (n < lo) = false := by simpa using h1
  have t2 : decide (hi < n) = false := by simpa using h2
  have HV := fun w hl => hid (rValue_any p v n w hl h)
  have HH := fun w hl => hid (horner_any p v lo hi w hl)
  have HP := fun w hl => hid (powers_any p v lo hi w hl)
  have I1 := horn_in (p := p) (by omega : lo ≤ n) (by omega : n ≤ hi)
  have I2 := pows_in (p := p) (by omega : lo ≤ n) (by omega : n ≤ hi)
  clear h h1 h2
  generalize Um.hornAll p lo hi = R at *
  generalize Um.powsAll p lo hi = S at *
  generalize Um.fl (Um.exN n p p.length) 1000000000000 = L at *
  generalize Um.ce (Um.exN n p p.length) 1000000000000 = H at *
  have k1 : (R.2.2 == 0) = true := by simpa using hR
  have r1 : decide (L < R.1) = false := by simp; exact (I1 hR).1
  have r2 : decide (R.2.1 < H) = false := by simp; exact (I1 hR).2
  have k2 : (S.2.2 != 0) = true := by simpa using hS0
  clear I1 I2 hR hS0
  have hX := Sp.new w lo hi
  have hB : Below w.heap.size w (w.alloc (.cells #[.int .i64 lo, .int .i64 hi] 23)) := by go_grown
  obtain ⟨a0, cap0, rfl, -⟩ := (id hl)
  go_enter Try.func4, Try.ntmps4
  go_wp2_with (first | (go_at_call 15; refine (HF _ _ (Li.lit (p := [0, -1000, 1000]) (by simp) three_cells)).out.mono ?_; rintro e w1 ⟨rfl, hb⟩; clear HF; replace hX := (hX.alloc _).step hb; replace hB := (hB.alloc hB.size _).trans (hb.mono (by simp; omega)); clear hb; have hA := Sp.new w1 (-1000) 0; replace hX := hX.alloc (.cells #[.int .i64 (-1000), .int .i64 0] 23); replace hB := hB.alloc hB.size (.cells #[.int .i64 (-1000), .int .i64 0] 23); have a1 := hA.lo; have a2 := hA.hi; have x1 := hX.lo; have x2 := hX.hi; have hsz := hB.size) | (go_at_call 16; refine (HS _ ((hl.keep hB).wide hB.size)).out.mono ?_; rintro e w2 ⟨rfl, rfl⟩) | (go_at_call 17; refine (HV _ ((hl.keep hB).wide hB.size)).out.mono ?_; rintro e w3 ⟨rfl, rfl⟩) | (go_at_call 15; refine (HH _ ((hl.keep hB).wide hB.size)).out.mono ?_; rintro e w4 ⟨rfl, hb⟩; clear HH; replace hX := hX.step hb; replace hB := hB.trans (hb.mono hB.size); clear hb hA a1 a2 x1 x2 hsz; have hs4 := hB.size; have hS := Sp.new w4 R.1 R.2.1; replace hX := hX.alloc (.cells #[.int .i64 R.1, .int .i64 R.2.1] 23); replace hB := hB.alloc hB.size (.cells #[.int .i64 R.1, .int .i64 R.2.1] 23); have a1 := hS.lo; have a2 := hS.hi; have x1 := hX.lo; have x2 := hX.hi; have hsz := hB.size) | (go_at_call 18; refine (HP _ ((hl.keep hB).wide hB.size)).out.mono ?_; rintro e w5 ⟨rfl, hb⟩; clear HP; replace hS := hS.step hb; have hlt := hX.lt; replace hB := hB.trans (hb.mono hB.size); clear hb hX a1 a2 x1 x2; have y1 := hS.fl; have y2 := hS.fh; have y3 := hS.lo; have y4 := hS.hi; have z1 := (hS.set S.1 S.2.1).lo; have z2 := (hS.set S.1 S.2.1).hi; have z3 := hS.r0; have hsz2 := hsz))
  go_returns
  exact ⟨rfl, (hB.setCell (by simp only []; omega) _).setCell (by simp only []; omega) _⟩

set_option maxRecDepth 100000 in
set_option maxHeartbeats 4000000 in
theorem walk_no_ok (p : List Int) (v : Value) (lo hi n : Int) (w : World) (hl : Li w.heap.size w v p) (h : Um.small p n = true) (h1 : ¬ n < lo) (h2 : ¬ hi < n) (hR : ¬ (Um.hornAll p lo hi).2.2 = 0) (hS0 : (Um.powsAll p lo hi).2.2 = 0) :
    Calls Try.prog 4 #[v, .agg #[.int .i64 lo, .int .i64 hi], .int .i64 n] w fun e w' => e = .returned (.bool true) ∧ Below w.heap.size w w' := by
  have v0 := errV_none
  have HF := fun v w hl => hid (horner_any [0, -1000, 1000] v 0 1000 w hl)
  rw [fact] at HF
  have HS := fun w hl => hid (rSmall_any p v n w hl)
  have q1 := errG
  have q2 := errGn
  have q3 := errE
  have q4 := errN
  rw [h] at HS
  have t1 : decide (n < lo) = false := by simpa using h1
  have t2 : decide (hi < n) = false := by simpa using h2
  have HV := fun w hl => hid (rValue_any p v n w hl h)
  have HH := fun w hl => hid (horner_any p v lo hi w hl)
  have HP := fun w hl => hid (powers_any p v lo hi w hl)
  have I1 := horn_in (p := p) (by omega : lo ≤ n) (by omega : n ≤ hi)
  have I2 := pows_in (p := p) (by omega : lo ≤ n) (by omega : n ≤ hi)
  clear h h1 h2
  generalize Um.hornAll p lo hi = R at *
  generalize Um.powsAll p lo hi = S at *
  generalize Um.fl (Um.exN n p p.length) 1000000000000 = L at *
  generalize Um.ce (Um.exN n p p.length) 1000000000000 = H at *
  have k1 : (R.2.2 == 0) = false := by simpa using hR
  have k2 : (S.2.2 != 0) = false := by simpa using hS0
  have s1 : decide (S.1 ≤ L) = true := by simp; exact (I2 hS0).1
  have s2 : decide (H ≤ S.2.1) = true := by simp; exact (I2 hS0).2
  clear I1 I2 hR hS0
  have hX := Sp.new w lo hi
  have hB : Below w.heap.size w (w.alloc (.cells #[.int .i64 lo, .int .i64 hi] 23)) := by go_grown
  obtain ⟨a0, cap0, rfl, -⟩ := (id hl)
  go_enter Try.func4, Try.ntmps4
  go_wp2_with (first | (go_at_call 15; refine (HF _ _ (Li.lit (p := [0, -1000, 1000]) (by simp) three_cells)).out.mono ?_; rintro e w1 ⟨rfl, hb⟩; clear HF; replace hX := (hX.alloc _).step hb; replace hB := (hB.alloc hB.size _).trans (hb.mono (by simp; omega)); clear hb; have hA := Sp.new w1 (-1000) 0; replace hX := hX.alloc (.cells #[.int .i64 (-1000), .int .i64 0] 23); replace hB := hB.alloc hB.size (.cells #[.int .i64 (-1000), .int .i64 0] 23); have a1 := hA.lo; have a2 := hA.hi; have x1 := hX.lo; have x2 := hX.hi; have hsz := hB.size) | (go_at_call 16; refine (HS _ ((hl.keep hB).wide hB.size)).out.mono ?_; rintro e w2 ⟨rfl, rfl⟩) | (go_at_call 17; refine (HV _ ((hl.keep hB).wide hB.size)).out.mono ?_; rintro e w3 ⟨rfl, rfl⟩) | (go_at_call 15; refine (HH _ ((hl.keep hB).wide hB.size)).out.mono ?_; rintro e w4 ⟨rfl, hb⟩; clear HH; replace hX := hX.step hb; replace hB := hB.trans (hb.mono hB.size); clear hb hA a1 a2 x1 x2 hsz; have hs4 := hB.size; have hS := Sp.new w4 R.1 R.2.1; replace hX := hX.alloc (.cells #[.int .i64 R.1, .int .i64 R.2.1] 23); replace hB := hB.alloc hB.size (.cells #[.int .i64 R.1, .int .i64 R.2.1] 23); have a1 := hS.lo; have a2 := hS.hi; have x1 := hX.lo; have x2 := hX.hi; have hsz := hB.size) | (go_at_call 18; refine (HP _ ((hl.keep hB).wide hB.size)).out.mono ?_; rintro e w5 ⟨rfl, hb⟩; clear HP; replace hS := hS.step hb; have hlt := hX.lt; replace hB := hB.trans (hb.mono hB.size); clear hb hX a1 a2 x1 x2; have y1 := hS.fl; have y2 := hS.fh; have y3 := hS.lo; have y4 := hS.hi; have z1 := (hS.set S.1 S.2.1).lo; have z2 := (hS.set S.1 S.2.1).hi; have z3 := hS.r0; have hsz2 := hsz))
  go_returns
  exact ⟨rfl, (hB.setCell (by simp only []; omega) _).setCell (by simp only []; omega) _⟩

set_option maxRecDepth 100000 in
set_option maxHeartbeats 4000000 in
theorem walk_no_no (p : List Int) (v : Value) (lo hi n : Int) (w : World) (hl : Li w.heap.size w v p) (h : Um.small p n = true) (h1 : ¬ n < lo) (h2 : ¬ hi < n) (hR : ¬ (Um.hornAll p lo hi).2.2 = 0) (hS0 : ¬ (Um.powsAll p lo hi).2.2 = 0) :
    Calls Try.prog 4 #[v, .agg #[.int .i64 lo, .int .i64 hi], .int .i64 n] w fun e w' => e = .returned (.bool true) ∧ Below w.heap.size w w' := by
  have v0 := errV_none
  have HF := fun v w hl => hid (horner_any [0, -1000, 1000] v 0 1000 w hl)
  rw [fact] at HF
  have HS := fun w hl => hid (rSmall_any p v n w hl)
  have q1 := errG
  have q2 := errGn
  have q3 := errE
  have q4 := errN
  rw [h] at HS
  have t1 : decide (n < lo) = false := by simpa using h1
  have t2 : decide (hi < n) = false := by simpa using h2
  have HV := fun w hl => hid (rValue_any p v n w hl h)
  have HH := fun w hl => hid (horner_any p v lo hi w hl)
  have HP := fun w hl => hid (powers_any p v lo hi w hl)
  have I1 := horn_in (p := p) (by omega : lo ≤ n) (by omega : n ≤ hi)
  have I2 := pows_in (p := p) (by omega : lo ≤ n) (by omega : n ≤ hi)
  clear h h1 h2
  generalize Um.hornAll p lo hi = R at *
  generalize Um.powsAll p lo hi = S at *
  generalize Um.fl (Um.exN n p p.length) 1000000000000 = L at *
  generalize Um.ce (Um.exN n p p.length) 1000000000000 = H at *
  have k1 : (R.2.2 == 0) = false := by simpa using hR
  have k2 : (S.2.2 != 0) = true := by simpa using hS0
  clear I1 I2 hR hS0
  have hX := Sp.new w lo hi
  have hB : Below w.heap.size w (w.alloc (.cells #[.int .i64 lo, .int .i64 hi] 23)) := by go_grown
  obtain ⟨a0, cap0, rfl, -⟩ := (id hl)
  go_enter Try.func4, Try.ntmps4
  go_wp2_with (first | (go_at_call 15; refine (HF _ _ (Li.lit (p := [0, -1000, 1000]) (by simp) three_cells)).out.mono ?_; rintro e w1 ⟨rfl, hb⟩; clear HF; replace hX := (hX.alloc _).step hb; replace hB := (hB.alloc hB.size _).trans (hb.mono (by simp; omega)); clear hb; have hA := Sp.new w1 (-1000) 0; replace hX := hX.alloc (.cells #[.int .i64 (-1000), .int .i64 0] 23); replace hB := hB.alloc hB.size (.cells #[.int .i64 (-1000), .int .i64 0] 23); have a1 := hA.lo; have a2 := hA.hi; have x1 := hX.lo; have x2 := hX.hi; have hsz := hB.size) | (go_at_call 16; refine (HS _ ((hl.keep hB).wide hB.size)).out.mono ?_; rintro e w2 ⟨rfl, rfl⟩) | (go_at_call 17; refine (HV _ ((hl.keep hB).wide hB.size)).out.mono ?_; rintro e w3 ⟨rfl, rfl⟩) | (go_at_call 15; refine (HH _ ((hl.keep hB).wide hB.size)).out.mono ?_; rintro e w4 ⟨rfl, hb⟩; clear HH; replace hX := hX.step hb; replace hB := hB.trans (hb.mono hB.size); clear hb hA a1 a2 x1 x2 hsz; have hs4 := hB.size; have hS := Sp.new w4 R.1 R.2.1; replace hX := hX.alloc (.cells #[.int .i64 R.1, .int .i64 R.2.1] 23); replace hB := hB.alloc hB.size (.cells #[.int .i64 R.1, .int .i64 R.2.1] 23); have a1 := hS.lo; have a2 := hS.hi; have x1 := hX.lo; have x2 := hX.hi; have hsz := hB.size) | (go_at_call 18; refine (HP _ ((hl.keep hB).wide hB.size)).out.mono ?_; rintro e w5 ⟨rfl, hb⟩; clear HP; replace hS := hS.step hb; have hlt := hX.lt; replace hB := hB.trans (hb.mono hB.size); clear hb hX a1 a2 x1 x2; have y1 := hS.fl; have y2 := hS.fh; have y3 := hS.lo; have y4 := hS.hi; have z1 := (hS.set S.1 S.2.1).lo; have z2 := (hS.set S.1 S.2.1).hi; have z3 := hS.r0; have hsz2 := hsz))
  go_returns
  exact ⟨rfl, (hB.setCell (by simp only []; omega) _).setCell (by simp only []; omega) _⟩

theorem walk (p : List Int) (v : Value) (lo hi n : Int) (w : World) (hl : Li w.heap.size w v p) :
    Calls Try.prog 4 #[v, .agg #[.int .i64 lo, .int .i64 hi], .int .i64 n] w fun e w' => e = .returned (.bool true) ∧ Below w.heap.size w w' := by
  cases h : Um.small p n
  · exact walk_big p v lo hi n w hl h
  · by_cases h1 : n < lo
    · exact walk_low p v lo hi n w hl h h1
    · by_cases h2 : hi < n
      · exact walk_high p v lo hi n w hl h h1 h2
      · by_cases h3 : (Um.hornAll p lo hi).2.2 = 0
        · by_cases h4 : (Um.powsAll p lo hi).2.2 = 0
          · exact walk_ok_ok p v lo hi n w hl h h1 h2 h3 h4
          · exact walk_ok_no p v lo hi n w hl h h1 h2 h3 h4
        · by_cases h4 : (Um.powsAll p lo hi).2.2 = 0
          · exact walk_no_ok p v lo hi n w hl h h1 h2 h3 h4
          · exact walk_no_no p v lo hi n w hl h h1 h2 h3 h4
end Go.Proofs.Ytfmjndipanlcoaa.QHas
