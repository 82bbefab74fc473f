/-
  The walk over 'spanlaw1.SplitTells': for all p, x, many it returns true.
-/
import Derived.Test.YthoiiffdigkodaaGreatDoorRefMono
import Derived.Test.YthoiiffdigkodaaGreatDoorRefPoly
import Derived.Test.YthoiiffdigkodaaGreatDoorRefSplit
import Derived.Test.YthoiiffdigkodaaGreatDoorSplit
import Derived.Test.YthoiiffdigkodaaGreatDoorMaths
import Derived.Test.YthoiiffdigkodaaGreatDoorSame
namespace Go.Proofs.YthoiiffdigkodaaGreatDoor.PsTells
set_option linter.unusedSimpArgs false
open Go.RowKit

theorem span_below (lo hi : Int) (w : World) : Calls Tryz.prog 5 #[.agg #[.int .i64 lo, .int .i64 hi]] w fun e w' => e = .returned (.int .i64 (Um.chk lo hi)) ∧ Below w.heap.size w w' := by
  refine (rSpan_any lo hi w).mono ?_
  rintro e w' ⟨rfl, rfl⟩
  exact ⟨rfl, by go_grown⟩
theorem empty {B : Nat} {w : World} {v : Value} (h : Ls B w v []) : ∃ a cap, v = .slice a 0 cap := by
  obtain ⟨a, cap, e, _⟩ := h
  exact ⟨a, cap, e⟩
theorem over_not {p : List Int} {lo hi : Int} (h : ¬ Um.chk lo hi = 0) : ¬ Um.over p lo hi = 0 := fun e => h (Um.over_ok.1 e).2
theorem split_not {p : List Int} {lo hi many : Int} (h : ¬ Um.over p lo hi = 0) : Um.splitAll p lo hi many = (0, 0, Um.over p lo hi) := by
  have e : Um.splitF p lo hi many = Um.over p lo hi := by rw [Um.split_over, if_neg h]
  unfold Um.splitAll
  rw [e, if_neg h]
theorem split_many {p : List Int} {lo hi many : Int} (h : Um.over p lo hi = 0) (hm : ¬ (1 ≤ many ∧ many ≤ 32)) : Um.splitAll p lo hi many = (0, 0, 1) := by
  have e : Um.splitF p lo hi many = 1 := by rw [Um.split_over, if_pos h]; exact Um.many_no fun a => hm (Um.many_ok.1 a)
  unfold Um.splitAll
  rw [e, if_neg (by decide)]
theorem split_good {p : List Int} {lo hi : Int} {n : Nat} (h : Um.over p lo hi = 0) (h1 : 1 ≤ n) (h2 : n ≤ 32) : Um.splitAll p lo hi n = Um.spR lo hi n p n := by
  have e : Um.splitF p lo hi n = 0 := Um.split_ok.2 ⟨h, by omega, by omega⟩
  unfold Um.splitAll
  rw [if_pos e]
  rfl

set_option maxRecDepth 100000 in
set_option maxHeartbeats 8000000 in
theorem walk_span (p : List Int) (v : Value) (lo hi many : Int) (w : World) (hl : Li w.heap.size w v p) (hg : HasErr w) (h : ¬ Um.chk lo hi = 0) :
    Calls Tryz.prog 3 #[v, .agg #[.int .i64 lo, .int .i64 hi], .int .i64 many] w fun e w' => e = .returned (.bool true) ∧ Below w.heap.size w w' := by
  have v0 := errV_none
  have q1 := errG
  have q2 := errGn
  have q3 := errE
  have q4 := errN
  have HC := fun w => hid (span_below lo hi w)
  have HO := fun w hl => hid (rOver_any p v lo hi w hl)
  have HI := fun w => hid (pieces_any lo hi many w)
  have HS := fun w hl => hid (srange_any p v lo hi many w hl)
  have ho := over_not (p := p) h
  have e1 : Um.pieF lo hi many = Um.chk lo hi := Um.pie_not h many
  have e2 : Um.pieR lo hi many = [] := by unfold Um.pieR; rw [e1, if_neg h]
  rw [e1, e2] at HI
  rw [split_not ho] at HS
  have k : (Um.chk lo hi == 0) = false := by simpa using h
  have k2 : (Um.over p lo hi == 0) = false := by simpa using ho
  clear h ho e1 e2
  generalize Um.chk lo hi = C at *
  generalize Um.over p lo hi = G at *
  have hF := (Fr.start w).push lo hi rfl
  have x0l := (hF.at 0 rfl).lo
  have x0h := (hF.at 0 rfl).hi
  obtain ⟨a0, cap0, rfl, -⟩ := (id hl)
  go_enter Tryz.func3, Tryz.ntmps3
  go_wp2_with (first | (go_at_call 5; refine (HC _).out.mono ?_; rintro e wn ⟨rfl, hb⟩; replace hF := hF.step hb; clear hb; clear x0l x0h; have x0l := (hF.at 0 rfl).lo; have x0h := (hF.at 0 rfl).hi) | (go_at_call 7; refine (HI _).out.mono ?_; rintro e wn ⟨u, rfl, hs, hb⟩; replace hF := hF.step hb; clear hb; clear x0l x0h; obtain ⟨a1, cap1, rfl⟩ := empty hs; have x0l := (hF.at 0 rfl).lo; have x0h := (hF.at 0 rfl).hi) | (go_at_call 8; refine (same_any _ _ _ (hg.below (B := w.heap.size) hF.below hg.size)).mono ?_; rintro e wn ⟨rfl, hb⟩; replace hF := hF.step hb; replace hs := hs.step hb; clear hb; first | (clear x2l x2h; clear x0l x0h; clear x1l x1h; have x0l := (hF.at 0 rfl).lo; have x0h := (hF.at 0 rfl).hi; have x1l := (hF.at 1 rfl).lo; have x1h := (hF.at 1 rfl).hi) | (clear x0l x0h; have x0l := (hF.at 0 rfl).lo; have x0h := (hF.at 0 rfl).hi)) | (go_at_call 9; refine (hid (box_same [] _ _ _ hs (Ls.nil _ _) (by simp))).out.mono ?_; rintro e wn ⟨rfl, hb⟩; replace hF := hF.step hb; replace hs := hs.step hb; clear hb; clear x0l x0h; have x0l := (hF.at 0 rfl).lo; have x0h := (hF.at 0 rfl).hi) | (go_at_call 10; refine (HO _ (hF.li hl)).out.mono ?_; rintro e wn ⟨rfl, hb⟩; replace hF := hF.step hb; replace hs := hs.step hb; clear hb; clear x0l x0h; replace hF := hF.push 0 0 rfl; replace hs := hs.step ((Below.refl _ _).alloc (Nat.le_refl _) (.cells #[.int .i64 0, .int .i64 0] 24)); have x1l := (hF.at 1 rfl).lo; have x1h := (hF.at 1 rfl).hi))
  refine wp_loop_rounds 1 ?_
  rw [rounds_succ]
  go_wp2_with (first | (go_at_call 13; refine (HS _ (hF.li hl)).out.mono ?_; rintro e wn ⟨rfl, hb⟩; replace hF := hF.step hb; replace hs := hs.step hb; clear hb; clear x1l x1h; replace hF := hF.push 0 0 rfl; replace hs := hs.step ((Below.refl _ _).alloc (Nat.le_refl _) (.cells #[.int .i64 0, .int .i64 0] 24)); have x0l := (hF.at 0 rfl).lo; have x0h := (hF.at 0 rfl).hi; have x1l := (hF.at 1 rfl).lo; have x1h := (hF.at 1 rfl).hi; have x2l := (hF.at 2 rfl).lo; have x2h := (hF.at 2 rfl).hi) | (go_at_call 8; refine (same_any _ _ _ (hg.below (B := w.heap.size) hF.below hg.size)).mono ?_; rintro e wn ⟨rfl, hb⟩; replace hF := hF.step hb; replace hs := hs.step hb; clear hb; first | (clear x2l x2h; clear x0l x0h; clear x1l x1h; have x0l := (hF.at 0 rfl).lo; have x0h := (hF.at 0 rfl).hi; have x1l := (hF.at 1 rfl).lo; have x1h := (hF.at 1 rfl).hi) | (clear x0l x0h; have x0l := (hF.at 0 rfl).lo; have x0h := (hF.at 0 rfl).hi)))
  go_returns
  exact ⟨rfl, hF.below⟩

set_option maxRecDepth 100000 in
set_option maxHeartbeats 8000000 in
theorem walk_low_poly (p : List Int) (v : Value) (lo hi many : Int) (w : World) (hl : Li w.heap.size w v p) (hg : HasErr w) (h : Um.chk lo hi = 0) (hm : ¬ (1 ≤ many ∧ many ≤ 32)) (hm1 : many < 1) (ho : ¬ Um.over p lo hi = 0) :
    Calls Tryz.prog 3 #[v, .agg #[.int .i64 lo, .int .i64 hi], .int .i64 many] w fun e w' => e = .returned (.bool true) ∧ Below w.heap.size w w' := by
  have v0 := errV_none
  have q1 := errG
  have q2 := errGn
  have q3 := errE
  have q4 := errN
  have HC := fun w => hid (span_below lo hi w)
  have HO := fun w hl => hid (rOver_any p v lo hi w hl)
  have HI := fun w => hid (pieces_any lo hi many w)
  have HS := fun w hl => hid (srange_any p v lo hi many w hl)
  have e1 : Um.pieF lo hi many = 1 := by
    unfold Um.pieF
    rw [if_pos h]
    exact Um.many_no fun a => hm (Um.many_ok.1 a)
  have e2 : Um.pieR lo hi many = [] := by unfold Um.pieR; rw [e1, if_neg (by decide)]
  rw [e1, e2] at HI
  have k : (Um.chk lo hi == 0) = true := by simpa using h
  have t1 : decide (many < 1) = true := by simpa using hm1
  rw [split_not ho] at HS
  have k2 : (Um.over p lo hi == 0) = false := by simpa using ho
  clear h ho e1 e2 hm hm1
  generalize Um.chk lo hi = C at *
  generalize Um.over p lo hi = G at *
  have hF := (Fr.start w).push lo hi rfl
  have x0l := (hF.at 0 rfl).lo
  have x0h := (hF.at 0 rfl).hi
  obtain ⟨a0, cap0, rfl, -⟩ := (id hl)
  go_enter Tryz.func3, Tryz.ntmps3
  go_wp2_with (first | (go_at_call 5; refine (HC _).out.mono ?_; rintro e wn ⟨rfl, hb⟩; replace hF := hF.step hb; clear hb; clear x0l x0h; have x0l := (hF.at 0 rfl).lo; have x0h := (hF.at 0 rfl).hi) | (go_at_call 7; refine (HI _).out.mono ?_; rintro e wn ⟨u, rfl, hs, hb⟩; replace hF := hF.step hb; clear hb; clear x0l x0h; obtain ⟨a1, cap1, rfl⟩ := empty hs; have x0l := (hF.at 0 rfl).lo; have x0h := (hF.at 0 rfl).hi) | (go_at_call 8; refine (same_any _ _ _ (hg.below (B := w.heap.size) hF.below hg.size)).mono ?_; rintro e wn ⟨rfl, hb⟩; replace hF := hF.step hb; replace hs := hs.step hb; clear hb; first | (clear x2l x2h; clear x0l x0h; clear x1l x1h; have x0l := (hF.at 0 rfl).lo; have x0h := (hF.at 0 rfl).hi; have x1l := (hF.at 1 rfl).lo; have x1h := (hF.at 1 rfl).hi) | (clear x0l x0h; have x0l := (hF.at 0 rfl).lo; have x0h := (hF.at 0 rfl).hi)) | (go_at_call 9; refine (hid (box_same [] _ _ _ hs (Ls.nil _ _) (by simp))).out.mono ?_; rintro e wn ⟨rfl, hb⟩; replace hF := hF.step hb; replace hs := hs.step hb; clear hb; clear x0l x0h; have x0l := (hF.at 0 rfl).lo; have x0h := (hF.at 0 rfl).hi) | (go_at_call 10; refine (HO _ (hF.li hl)).out.mono ?_; rintro e wn ⟨rfl, hb⟩; replace hF := hF.step hb; replace hs := hs.step hb; clear hb; clear x0l x0h; replace hF := hF.push 0 0 rfl; replace hs := hs.step ((Below.refl _ _).alloc (Nat.le_refl _) (.cells #[.int .i64 0, .int .i64 0] 24)); have x1l := (hF.at 1 rfl).lo; have x1h := (hF.at 1 rfl).hi))
  refine wp_loop_rounds 1 ?_
  rw [rounds_succ]
  go_wp2_with (first | (go_at_call 13; refine (HS _ (hF.li hl)).out.mono ?_; rintro e wn ⟨rfl, hb⟩; replace hF := hF.step hb; replace hs := hs.step hb; clear hb; clear x1l x1h; replace hF := hF.push 0 0 rfl; replace hs := hs.step ((Below.refl _ _).alloc (Nat.le_refl _) (.cells #[.int .i64 0, .int .i64 0] 24)); have x0l := (hF.at 0 rfl).lo; have x0h := (hF.at 0 rfl).hi; have x1l := (hF.at 1 rfl).lo; have x1h := (hF.at 1 rfl).hi; have x2l := (hF.at 2 rfl).lo; have x2h := (hF.at 2 rfl).hi) | (go_at_call 8; refine (same_any _ _ _ (hg.below (B := w.heap.size) hF.below hg.size)).mono ?_; rintro e wn ⟨rfl, hb⟩; replace hF := hF.step hb; replace hs := hs.step hb; clear hb; first | (clear x2l x2h; clear x0l x0h; clear x1l x1h; have x0l := (hF.at 0 rfl).lo; have x0h := (hF.at 0 rfl).hi; have x1l := (hF.at 1 rfl).lo; have x1h := (hF.at 1 rfl).hi) | (clear x0l x0h; have x0l := (hF.at 0 rfl).lo; have x0h := (hF.at 0 rfl).hi)))
  go_returns
  exact ⟨rfl, hF.below⟩

set_option maxRecDepth 100000 in
set_option maxHeartbeats 8000000 in
theorem walk_low (p : List Int) (v : Value) (lo hi many : Int) (w : World) (hl : Li w.heap.size w v p) (hg : HasErr w) (h : Um.chk lo hi = 0) (hm : ¬ (1 ≤ many ∧ many ≤ 32)) (hm1 : many < 1) (ho : Um.over p lo hi = 0) :
    Calls Tryz.prog 3 #[v, .agg #[.int .i64 lo, .int .i64 hi], .int .i64 many] w fun e w' => e = .returned (.bool true) ∧ Below w.heap.size w w' := by
  have v0 := errV_none
  have q1 := errG
  have q2 := errGn
  have q3 := errE
  have q4 := errN
  have HC := fun w => hid (span_below lo hi w)
  have HO := fun w hl => hid (rOver_any p v lo hi w hl)
  have HI := fun w => hid (pieces_any lo hi many w)
  have HS := fun w hl => hid (srange_any p v lo hi many w hl)
  have e1 : Um.pieF lo hi many = 1 := by
    unfold Um.pieF
    rw [if_pos h]
    exact Um.many_no fun a => hm (Um.many_ok.1 a)
  have e2 : Um.pieR lo hi many = [] := by unfold Um.pieR; rw [e1, if_neg (by decide)]
  rw [e1, e2] at HI
  have k : (Um.chk lo hi == 0) = true := by simpa using h
  have t1 : decide (many < 1) = true := by simpa using hm1
  rw [split_many ho hm] at HS
  have k2 : (Um.over p lo hi == 0) = true := by simpa using ho
  clear h ho e1 e2 hm hm1
  generalize Um.chk lo hi = C at *
  generalize Um.over p lo hi = G at *
  have hF := (Fr.start w).push lo hi rfl
  have x0l := (hF.at 0 rfl).lo
  have x0h := (hF.at 0 rfl).hi
  obtain ⟨a0, cap0, rfl, -⟩ := (id hl)
  go_enter Tryz.func3, Tryz.ntmps3
  go_wp2_with (first | (go_at_call 5; refine (HC _).out.mono ?_; rintro e wn ⟨rfl, hb⟩; replace hF := hF.step hb; clear hb; clear x0l x0h; have x0l := (hF.at 0 rfl).lo; have x0h := (hF.at 0 rfl).hi) | (go_at_call 7; refine (HI _).out.mono ?_; rintro e wn ⟨u, rfl, hs, hb⟩; replace hF := hF.step hb; clear hb; clear x0l x0h; obtain ⟨a1, cap1, rfl⟩ := empty hs; have x0l := (hF.at 0 rfl).lo; have x0h := (hF.at 0 rfl).hi) | (go_at_call 8; refine (same_any _ _ _ (hg.below (B := w.heap.size) hF.below hg.size)).mono ?_; rintro e wn ⟨rfl, hb⟩; replace hF := hF.step hb; replace hs := hs.step hb; clear hb; first | (clear x2l x2h; clear x0l x0h; clear x1l x1h; have x0l := (hF.at 0 rfl).lo; have x0h := (hF.at 0 rfl).hi; have x1l := (hF.at 1 rfl).lo; have x1h := (hF.at 1 rfl).hi) | (clear x0l x0h; have x0l := (hF.at 0 rfl).lo; have x0h := (hF.at 0 rfl).hi)) | (go_at_call 9; refine (hid (box_same [] _ _ _ hs (Ls.nil _ _) (by simp))).out.mono ?_; rintro e wn ⟨rfl, hb⟩; replace hF := hF.step hb; replace hs := hs.step hb; clear hb; clear x0l x0h; have x0l := (hF.at 0 rfl).lo; have x0h := (hF.at 0 rfl).hi) | (go_at_call 10; refine (HO _ (hF.li hl)).out.mono ?_; rintro e wn ⟨rfl, hb⟩; replace hF := hF.step hb; replace hs := hs.step hb; clear hb; clear x0l x0h; replace hF := hF.push 0 0 rfl; replace hs := hs.step ((Below.refl _ _).alloc (Nat.le_refl _) (.cells #[.int .i64 0, .int .i64 0] 24)); have x1l := (hF.at 1 rfl).lo; have x1h := (hF.at 1 rfl).hi))
  refine wp_loop_rounds 1 ?_
  rw [rounds_succ]
  go_wp2_with (first | (go_at_call 13; refine (HS _ (hF.li hl)).out.mono ?_; rintro e wn ⟨rfl, hb⟩; replace hF := hF.step hb; replace hs := hs.step hb; clear hb; clear x1l x1h; replace hF := hF.push 0 0 rfl; replace hs := hs.step ((Below.refl _ _).alloc (Nat.le_refl _) (.cells #[.int .i64 0, .int .i64 0] 24)); have x0l := (hF.at 0 rfl).lo; have x0h := (hF.at 0 rfl).hi; have x1l := (hF.at 1 rfl).lo; have x1h := (hF.at 1 rfl).hi; have x2l := (hF.at 2 rfl).lo; have x2h := (hF.at 2 rfl).hi) | (go_at_call 8; refine (same_any _ _ _ (hg.below (B := w.heap.size) hF.below hg.size)).mono ?_; rintro e wn ⟨rfl, hb⟩; replace hF := hF.step hb; replace hs := hs.step hb; clear hb; first | (clear x2l x2h; clear x0l x0h; clear x1l x1h; have x0l := (hF.at 0 rfl).lo; have x0h := (hF.at 0 rfl).hi; have x1l := (hF.at 1 rfl).lo; have x1h := (hF.at 1 rfl).hi) | (clear x0l x0h; have x0l := (hF.at 0 rfl).lo; have x0h := (hF.at 0 rfl).hi)))
  go_returns
  exact ⟨rfl, hF.below⟩

set_option maxRecDepth 100000 in
set_option maxHeartbeats 8000000 in
theorem walk_high_poly (p : List Int) (v : Value) (lo hi many : Int) (w : World) (hl : Li w.heap.size w v p) (hg : HasErr w) (h : Um.chk lo hi = 0) (hm : ¬ (1 ≤ many ∧ many ≤ 32)) (hm1 : ¬ many < 1) (hm2 : 32 < many) (ho : ¬ Um.over p lo hi = 0) :
    Calls Tryz.prog 3 #[v, .agg #[.int .i64 lo, .int .i64 hi], .int .i64 many] w fun e w' => e = .returned (.bool true) ∧ Below w.heap.size w w' := by
  have v0 := errV_none
  have q1 := errG
  have q2 := errGn
  have q3 := errE
  have q4 := errN
  have HC := fun w => hid (span_below lo hi w)
  have HO := fun w hl => hid (rOver_any p v lo hi w hl)
  have HI := fun w => hid (pieces_any lo hi many w)
  have HS := fun w hl => hid (srange_any p v lo hi many w hl)
  have e1 : Um.pieF lo hi many = 1 := by
    unfold Um.pieF
    rw [if_pos h]
    exact Um.many_no fun a => hm (Um.many_ok.1 a)
  have e2 : Um.pieR lo hi many = [] := by unfold Um.pieR; rw [e1, if_neg (by decide)]
  rw [e1, e2] at HI
  have k : (Um.chk lo hi == 0) = true := by simpa using h
  have t1 : decide (many < 1) = false := by simpa using hm1
  have t2 : decide (32 < many) = true := by simpa using hm2
  rw [split_not ho] at HS
  have k2 : (Um.over p lo hi == 0) = false := by simpa using ho
  clear h ho e1 e2 hm hm1
  generalize Um.chk lo hi = C at *
  generalize Um.over p lo hi = G at *
  have hF := (Fr.start w).push lo hi rfl
  have x0l := (hF.at 0 rfl).lo
  have x0h := (hF.at 0 rfl).hi
  obtain ⟨a0, cap0, rfl, -⟩ := (id hl)
  go_enter Tryz.func3, Tryz.ntmps3
  go_wp2_with (first | (go_at_call 5; refine (HC _).out.mono ?_; rintro e wn ⟨rfl, hb⟩; replace hF := hF.step hb; clear hb; clear x0l x0h; have x0l := (hF.at 0 rfl).lo; have x0h := (hF.at 0 rfl).hi) | (go_at_call 7; refine (HI _).out.mono ?_; rintro e wn ⟨u, rfl, hs, hb⟩; replace hF := hF.step hb; clear hb; clear x0l x0h; obtain ⟨a1, cap1, rfl⟩ := empty hs; have x0l := (hF.at 0 rfl).lo; have x0h := (hF.at 0 rfl).hi) | (go_at_call 8; refine (same_any _ _ _ (hg.below (B := w.heap.size) hF.below hg.size)).mono ?_; rintro e wn ⟨rfl, hb⟩; replace hF := hF.step hb; replace hs := hs.step hb; clear hb; first | (clear x2l x2h; clear x0l x0h; clear x1l x1h; have x0l := (hF.at 0 rfl).lo; have x0h := (hF.at 0 rfl).hi; have x1l := (hF.at 1 rfl).lo; have x1h := (hF.at 1 rfl).hi) | (clear x0l x0h; have x0l := (hF.at 0 rfl).lo; have x0h := (hF.at 0 rfl).hi)) | (go_at_call 9; refine (hid (box_same [] _ _ _ hs (Ls.nil _ _) (by simp))).out.mono ?_; rintro e wn ⟨rfl, hb⟩; replace hF := hF.step hb; replace hs := hs.step hb; clear hb; clear x0l x0h; have x0l := (hF.at 0 rfl).lo; have x0h := (hF.at 0 rfl).hi) | (go_at_call 10; refine (HO _ (hF.li hl)).out.mono ?_; rintro e wn ⟨rfl, hb⟩; replace hF := hF.step hb; replace hs := hs.step hb; clear hb; clear x0l x0h; replace hF := hF.push 0 0 rfl; replace hs := hs.step ((Below.refl _ _).alloc (Nat.le_refl _) (.cells #[.int .i64 0, .int .i64 0] 24)); have x1l := (hF.at 1 rfl).lo; have x1h := (hF.at 1 rfl).hi))
  refine wp_loop_rounds 1 ?_
  rw [rounds_succ]
  go_wp2_with (first | (go_at_call 13; refine (HS _ (hF.li hl)).out.mono ?_; rintro e wn ⟨rfl, hb⟩; replace hF := hF.step hb; replace hs := hs.step hb; clear hb; clear x1l x1h; replace hF := hF.push 0 0 rfl; replace hs := hs.step ((Below.refl _ _).alloc (Nat.le_refl _) (.cells #[.int .i64 0, .int .i64 0] 24)); have x0l := (hF.at 0 rfl).lo; have x0h := (hF.at 0 rfl).hi; have x1l := (hF.at 1 rfl).lo; have x1h := (hF.at 1 rfl).hi; have x2l := (hF.at 2 rfl).lo; have x2h := (hF.at 2 rfl).hi) | (go_at_call 8; refine (same_any _ _ _ (hg.below (B := w.heap.size) hF.below hg.size)).mono ?_; rintro e wn ⟨rfl, hb⟩; replace hF := hF.step hb; replace hs := hs.step hb; clear hb; first | (clear x2l x2h; clear x0l x0h; clear x1l x1h; have x0l := (hF.at 0 rfl).lo; have x0h := (hF.at 0 rfl).hi; have x1l := (hF.at 1 rfl).lo; have x1h := (hF.at 1 rfl).hi) | (clear x0l x0h; have x0l := (hF.at 0 rfl).lo; have x0h := (hF.at 0 rfl).hi)))
  go_returns
  exact ⟨rfl, hF.below⟩

set_option maxRecDepth 100000 in
set_option maxHeartbeats 8000000 in
theorem walk_high (p : List Int) (v : Value) (lo hi many : Int) (w : World) (hl : Li w.heap.size w v p) (hg : HasErr w) (h : Um.chk lo hi = 0) (hm : ¬ (1 ≤ many ∧ many ≤ 32)) (hm1 : ¬ many < 1) (hm2 : 32 < many) (ho : Um.over p lo hi = 0) :
    Calls Tryz.prog 3 #[v, .agg #[.int .i64 lo, .int .i64 hi], .int .i64 many] w fun e w' => e = .returned (.bool true) ∧ Below w.heap.size w w' := by
  have v0 := errV_none
  have q1 := errG
  have q2 := errGn
  have q3 := errE
  have q4 := errN
  have HC := fun w => hid (span_below lo hi w)
  have HO := fun w hl => hid (rOver_any p v lo hi w hl)
  have HI := fun w => hid (pieces_any lo hi many w)
  have HS := fun w hl => hid (srange_any p v lo hi many w hl)
  have e1 : Um.pieF lo hi many = 1 := by
    unfold Um.pieF
    rw [if_pos h]
    exact Um.many_no fun a => hm (Um.many_ok.1 a)
  have e2 : Um.pieR lo hi many = [] := by unfold Um.pieR; rw [e1, if_neg (by decide)]
  rw [e1, e2] at HI
  have k : (Um.chk lo hi == 0) = true := by simpa using h
  have t1 : decide (many < 1) = false := by simpa using hm1
  have t2 : decide (32 < many) = true := by simpa using hm2
  rw [split_many ho hm] at HS
  have k2 : (Um.over p lo hi == 0) = true := by simpa using ho
  clear h ho e1 e2 hm hm1
  generalize Um.chk lo hi = C at *
  generalize Um.over p lo hi = G at *
  have hF := (Fr.start w).push lo hi rfl
  have x0l := (hF.at 0 rfl).lo
  have x0h := (hF.at 0 rfl).hi
  obtain ⟨a0, cap0, rfl, -⟩ := (id hl)
  go_enter Tryz.func3, Tryz.ntmps3
  go_wp2_with (first | (go_at_call 5; refine (HC _).out.mono ?_; rintro e wn ⟨rfl, hb⟩; replace hF := hF.step hb; clear hb; clear x0l x0h; have x0l := (hF.at 0 rfl).lo; have x0h := (hF.at 0 rfl).hi) | (go_at_call 7; refine (HI _).out.mono ?_; rintro e wn ⟨u, rfl, hs, hb⟩; replace hF := hF.step hb; clear hb; clear x0l x0h; obtain ⟨a1, cap1, rfl⟩ := empty hs; have x0l := (hF.at 0 rfl).lo; have x0h := (hF.at 0 rfl).hi) | (go_at_call 8; refine (same_any _ _ _ (hg.below (B := w.heap.size) hF.below hg.size)).mono ?_; rintro e wn ⟨rfl, hb⟩; replace hF := hF.step hb; replace hs := hs.step hb; clear hb; first | (clear x2l x2h; clear x0l x0h; clear x1l x1h; have x0l := (hF.at 0 rfl).lo; have x0h := (hF.at 0 rfl).hi; have x1l := (hF.at 1 rfl).lo; have x1h := (hF.at 1 rfl).hi) | (clear x0l x0h; have x0l := (hF.at 0 rfl).lo; have x0h := (hF.at 0 rfl).hi)) | (go_at_call 9; refine (hid (box_same [] _ _ _ hs (Ls.nil _ _) (by simp))).out.mono ?_; rintro e wn ⟨rfl, hb⟩; replace hF := hF.step hb; replace hs := hs.step hb; clear hb; clear x0l x0h; have x0l := (hF.at 0 rfl).lo; have x0h := (hF.at 0 rfl).hi) | (go_at_call 10; refine (HO _ (hF.li hl)).out.mono ?_; rintro e wn ⟨rfl, hb⟩; replace hF := hF.step hb; replace hs := hs.step hb; clear hb; clear x0l x0h; replace hF := hF.push 0 0 rfl; replace hs := hs.step ((Below.refl _ _).alloc (Nat.le_refl _) (.cells #[.int .i64 0, .int .i64 0] 24)); have x1l := (hF.at 1 rfl).lo; have x1h := (hF.at 1 rfl).hi))
  refine wp_loop_rounds 1 ?_
  rw [rounds_succ]
  go_wp2_with (first | (go_at_call 13; refine (HS _ (hF.li hl)).out.mono ?_; rintro e wn ⟨rfl, hb⟩; replace hF := hF.step hb; replace hs := hs.step hb; clear hb; clear x1l x1h; replace hF := hF.push 0 0 rfl; replace hs := hs.step ((Below.refl _ _).alloc (Nat.le_refl _) (.cells #[.int .i64 0, .int .i64 0] 24)); have x0l := (hF.at 0 rfl).lo; have x0h := (hF.at 0 rfl).hi; have x1l := (hF.at 1 rfl).lo; have x1h := (hF.at 1 rfl).hi; have x2l := (hF.at 2 rfl).lo; have x2h := (hF.at 2 rfl).hi) | (go_at_call 8; refine (same_any _ _ _ (hg.below (B := w.heap.size) hF.below hg.size)).mono ?_; rintro e wn ⟨rfl, hb⟩; replace hF := hF.step hb; replace hs := hs.step hb; clear hb; first | (clear x2l x2h; clear x0l x0h; clear x1l x1h; have x0l := (hF.at 0 rfl).lo; have x0h := (hF.at 0 rfl).hi; have x1l := (hF.at 1 rfl).lo; have x1h := (hF.at 1 rfl).hi) | (clear x0l x0h; have x0l := (hF.at 0 rfl).lo; have x0h := (hF.at 0 rfl).hi)))
  go_returns
  exact ⟨rfl, hF.below⟩

set_option maxRecDepth 100000 in
set_option maxHeartbeats 8000000 in
theorem walk_poly (p : List Int) (v : Value) (lo hi : Int) (n : Nat) (w : World) (hl : Li w.heap.size w v p) (hg : HasErr w) (h : Um.chk lo hi = 0) (h1 : 1 ≤ n) (h2 : n ≤ 32) (ho : ¬ Um.over p lo hi = 0) :
    Calls Tryz.prog 3 #[v, .agg #[.int .i64 lo, .int .i64 hi], .int .i64 (n : Int)] w fun e w' => e = .returned (.bool true) ∧ Below w.heap.size w w' := by
  have v0 := errV_none
  have q1 := errG
  have q2 := errGn
  have q3 := errE
  have q4 := errN
  have HC := fun w => hid (span_below lo hi w)
  have HO := fun w hl => hid (rOver_any p v lo hi w hl)
  have HI := fun w => hid (pieces_any lo hi n w)
  have HS := fun w hl => hid (srange_any p v lo hi n w hl)
  have HP := fun w => hid (rPieces_any lo hi n w h h1 h2)
  have e0 : Um.pieF lo hi n = 0 := Um.pie_ok.2 ⟨h, by omega, by omega⟩
  have e1 : Um.pieF lo hi n = Um.chk lo hi := by rw [e0, h]
  have e2 : Um.pieR lo hi n = Um.cuts lo hi n n := by unfold Um.pieR; rw [if_pos e0]; rfl
  rw [e1, e2] at HI
  have HN : Hid (Um.cuts lo hi n n ≠ []) := by
    intro e
    have := congrArg List.length e
    rw [Um.cuts_length] at this
    simp at this
    omega
  have k : (Um.chk lo hi == 0) = true := by simpa using h
  have t1 : decide ((n : Int) < 1) = false := decide_eq_false (by omega)
  have t2 : decide (32 < (n : Int)) = false := decide_eq_false (by omega)
  have t3 : decide ((0 : Int) < (n : Int)) = true := decide_eq_true (by omega)
  clear e0 e1 e2
  rw [split_not ho] at HS
  have k2 : (Um.over p lo hi == 0) = false := by simpa using ho
  clear h ho
  generalize Um.chk lo hi = C at *
  generalize Um.over p lo hi = G at *
  have hF := (Fr.start w).push lo hi rfl
  have x0l := (hF.at 0 rfl).lo
  have x0h := (hF.at 0 rfl).hi
  obtain ⟨a0, cap0, rfl, -⟩ := (id hl)
  go_enter Tryz.func3, Tryz.ntmps3
  go_wp2_with (first | (go_at_call 5; refine (HC _).out.mono ?_; rintro e wn ⟨rfl, hb⟩; replace hF := hF.step hb; clear hb; clear x0l x0h; have x0l := (hF.at 0 rfl).lo; have x0h := (hF.at 0 rfl).hi) | (go_at_call 6; refine (HP _).out.mono ?_; rintro e wn ⟨u, rfl, hs, hb⟩; replace hF := hF.step hb; clear hb; clear x0l x0h; obtain ⟨b1, off1, cap1, rfl, hcap1, hA⟩ := hs.open HN.out; clear hs; rw [Um.cuts_length] at *; have x0l := (hF.at 0 rfl).lo; have x0h := (hF.at 0 rfl).hi) | (go_at_call 7; refine (HI _).out.mono ?_; rintro e wn ⟨u2, rfl, hs2, hb⟩; replace hF := hF.step hb; replace hA := hA.step hb; clear hb; clear x0l x0h; obtain ⟨a2, cap2, rfl, -⟩ := (id hs2); rw [Um.cuts_length] at *; have x0l := (hF.at 0 rfl).lo; have x0h := (hF.at 0 rfl).hi) | (go_at_call 8; refine (hid (same_any _ _ _ (hg.below (B := w.heap.size) hF.below hg.size))).out.mono ?_; rintro e wn ⟨rfl, hb⟩; replace hF := hF.step hb; replace hA := hA.step hb; replace hs2 := hs2.step hb; clear hb; clear x0l x0h; have x0l := (hF.at 0 rfl).lo; have x0h := (hF.at 0 rfl).hi) | (go_at_call 9; refine (hid (box_same (Um.cuts lo hi n n) _ _ _ hs2 (hA.ls (by rw [Um.cuts_length]) hcap1) (by rw [Um.cuts_length]; omega))).out.mono ?_; rintro e wn ⟨rfl, hb⟩; replace hF := hF.step hb; replace hA := hA.step hb; replace hs2 := hs2.step hb; clear hb; clear hs2; clear x0l x0h; have x0l := (hF.at 0 rfl).lo; have x0h := (hF.at 0 rfl).hi) | (go_at_call 10; refine (HO _ (hF.li hl)).out.mono ?_; rintro e wn ⟨rfl, hb⟩; replace hF := hF.step hb; replace hA := hA.step hb; clear hb; clear x0l x0h; replace hF := hF.push 0 0 rfl; have x1l := (hF.at 1 rfl).lo; have x1h := (hF.at 1 rfl).hi))
  refine wp_loop_rounds 1 ?_
  rw [rounds_succ]
  go_wp2_with (first | (go_at_call 13; refine (HS _ (hF.li hl)).out.mono ?_; rintro e wn ⟨rfl, hb⟩; replace hF := hF.step hb; clear hb; clear x1l x1h; replace hF := hF.push 0 0 rfl; have x0l := (hF.at 0 rfl).lo; have x0h := (hF.at 0 rfl).hi; have x1l := (hF.at 1 rfl).lo; have x1h := (hF.at 1 rfl).hi; have x2l := (hF.at 2 rfl).lo; have x2h := (hF.at 2 rfl).hi) | (go_at_call 8; refine (hid (same_any _ _ _ (hg.below (B := w.heap.size) hF.below hg.size))).out.mono ?_; rintro e wn ⟨rfl, hb⟩; replace hF := hF.step hb; clear hb; clear x0l x0h x1l x1h x2l x2h; have x0l := (hF.at 0 rfl).lo; have x0h := (hF.at 0 rfl).hi; have x1l := (hF.at 1 rfl).lo; have x1h := (hF.at 1 rfl).hi))
  go_returns
  exact ⟨rfl, hF.below⟩

set_option maxRecDepth 100000 in
set_option maxHeartbeats 8000000 in
theorem walk_right (p : List Int) (v : Value) (lo hi : Int) (n : Nat) (w : World) (hl : Li w.heap.size w v p) (hg : HasErr w) (h : Um.chk lo hi = 0) (h1 : 1 ≤ n) (h2 : n ≤ 32) (ho : Um.over p lo hi = 0) :
    Calls Tryz.prog 3 #[v, .agg #[.int .i64 lo, .int .i64 hi], .int .i64 (n : Int)] w fun e w' => e = .returned (.bool true) ∧ Below w.heap.size w w' := by
  have v0 := errV_none
  have q1 := errG
  have q2 := errGn
  have q3 := errE
  have q4 := errN
  have HC := fun w => hid (span_below lo hi w)
  have HO := fun w hl => hid (rOver_any p v lo hi w hl)
  have HI := fun w => hid (pieces_any lo hi n w)
  have HS := fun w hl => hid (srange_any p v lo hi n w hl)
  have HP := fun w => hid (rPieces_any lo hi n w h h1 h2)
  have e0 : Um.pieF lo hi n = 0 := Um.pie_ok.2 ⟨h, by omega, by omega⟩
  have e1 : Um.pieF lo hi n = Um.chk lo hi := by rw [e0, h]
  have e2 : Um.pieR lo hi n = Um.cuts lo hi n n := by unfold Um.pieR; rw [if_pos e0]; rfl
  rw [e1, e2] at HI
  have HN : Hid (Um.cuts lo hi n n ≠ []) := by
    intro e
    have := congrArg List.length e
    rw [Um.cuts_length] at this
    simp at this
    omega
  have k : (Um.chk lo hi == 0) = true := by simpa using h
  have t1 : decide ((n : Int) < 1) = false := decide_eq_false (by omega)
  have t2 : decide (32 < (n : Int)) = false := decide_eq_false (by omega)
  have t3 : decide ((0 : Int) < (n : Int)) = true := decide_eq_true (by omega)
  clear e0 e1 e2
  rw [split_good ho h1 h2] at HS
  have HM := fun k (hk : k < n) w hl => hid (rRange_any p v (Um.cutR lo hi n k) (Um.cutR lo hi n (k + 1)) w hl (Um.piece_over ho rfl (by omega) hk))
  have k2 : (Um.over p lo hi == 0) = true := by simpa using ho
  have HZ := hid ho
  clear h ho
  generalize Um.chk lo hi = C at *
  generalize Um.over p lo hi = G at *
  have hF := (Fr.start w).push lo hi rfl
  have x0l := (hF.at 0 rfl).lo
  have x0h := (hF.at 0 rfl).hi
  obtain ⟨a0, cap0, rfl, -⟩ := (id hl)
  go_enter Tryz.func3, Tryz.ntmps3
  go_wp2_with (first | (go_at_call 5; refine (HC _).out.mono ?_; rintro e wn ⟨rfl, hb⟩; replace hF := hF.step hb; clear hb; clear x0l x0h; have x0l := (hF.at 0 rfl).lo; have x0h := (hF.at 0 rfl).hi) | (go_at_call 6; refine (HP _).out.mono ?_; rintro e wn ⟨u, rfl, hs, hb⟩; replace hF := hF.step hb; clear hb; clear x0l x0h; obtain ⟨b1, off1, cap1, rfl, hcap1, hA⟩ := hs.open HN.out; clear hs; rw [Um.cuts_length] at *; have x0l := (hF.at 0 rfl).lo; have x0h := (hF.at 0 rfl).hi) | (go_at_call 7; refine (HI _).out.mono ?_; rintro e wn ⟨u2, rfl, hs2, hb⟩; replace hF := hF.step hb; replace hA := hA.step hb; clear hb; clear x0l x0h; obtain ⟨a2, cap2, rfl, -⟩ := (id hs2); rw [Um.cuts_length] at *; have x0l := (hF.at 0 rfl).lo; have x0h := (hF.at 0 rfl).hi) | (go_at_call 8; refine (hid (same_any _ _ _ (hg.below (B := w.heap.size) hF.below hg.size))).out.mono ?_; rintro e wn ⟨rfl, hb⟩; replace hF := hF.step hb; replace hA := hA.step hb; replace hs2 := hs2.step hb; clear hb; clear x0l x0h; have x0l := (hF.at 0 rfl).lo; have x0h := (hF.at 0 rfl).hi) | (go_at_call 9; refine (hid (box_same (Um.cuts lo hi n n) _ _ _ hs2 (hA.ls (by rw [Um.cuts_length]) hcap1) (by rw [Um.cuts_length]; omega))).out.mono ?_; rintro e wn ⟨rfl, hb⟩; replace hF := hF.step hb; replace hA := hA.step hb; replace hs2 := hs2.step hb; clear hb; clear hs2; clear x0l x0h; have x0l := (hF.at 0 rfl).lo; have x0h := (hF.at 0 rfl).hi) | (go_at_call 10; refine (HO _ (hF.li hl)).out.mono ?_; rintro e wn ⟨rfl, hb⟩; replace hF := hF.step hb; replace hA := hA.step hb; clear hb; clear x0l x0h; have hX := hF; have hA0 := hA; clear hF hA; have hG := (Fr.start wn).push 0 0 rfl))
  go_loopw [7, 13] (fun u i wr => ∃ k : Nat, k ≤ n ∧ i = .int .i64 k ∧ u = .int .i64 (Um.spR lo hi n p k).2.2 ∧ Fr wn wr [(wn.heap.size, (Um.spR lo hi n p k).1, (Um.spR lo hi n p k).2.1)]) (fun _ i _ => n - (intOf i).toNat)
  case atStart => exact ⟨0, Nat.zero_le _, rfl, by rw [HZ.out]; rfl, hG⟩
  case round =>
    clear hG
    obtain ⟨k, hk, rfl, rfl, hG⟩ := hrel
    have hF := hX.step hG.below
    have hA := hA0.step hG.below
    clear hX hA0
    by_cases hkl : k < n
    · have hkk : decide ((k : Int) < (n : Int)) = true := decide_eq_true (by omega)
      by_cases hz : (Um.spR lo hi n p k).2.2 = 0
      · have k0 : ((Um.spR lo hi n p k).2.2 == 0) = true := by simpa using hz
        have H1 := HM k hkl
        have z0 := hA.lo k (Um.cuts_get hkl) rfl
        have z1 := hA.hi k (Um.cuts_get hkl) rfl
        clear hA HS HM HC HO
        by_cases hN : (Um.monoR (Um.cutR lo hi n k) (Um.cutR lo hi n (k + 1)) p).2.2 = 0
        · by_cases hk0 : k = 0
          · subst hk0
            have E : Hid (Um.spR lo hi n p (0 + 1) = Um.monoR (Um.cutR lo hi n 0) (Um.cutR lo hi n (0 + 1)) p) := Um.sp_first hN
            have HZ2 := hid hN
            have kN : ((Um.monoR (Um.cutR lo hi n 0) (Um.cutR lo hi n (0 + 1)) p).2.2 != 0) = false := by simpa using hN
            have z0' : wr.cell? ⟨b1, off1, none⟩ = some (.int .i64 (Um.cutR lo hi n 0)) := z0
            have z1' : wr.cell? ⟨b1, off1 + 1, none⟩ = some (.int .i64 (Um.cutR lo hi n (0 + 1))) := z1
            clear z0 z1 hN
            have HA2 := hid hz
            clear hz
            generalize Um.spR lo hi n p 0 = A at *
            generalize Um.cutR lo hi n 0 = C0 at *
            generalize Um.cutR lo hi n (0 + 1) = C1 at *
            generalize Um.monoR C0 C1 p = N at *
            have z0 := z0'
            have z1 := z1'
            clear z0' z1'
            go_wp2_with (go_at_call 11; refine (H1 _ (hF.li hl)).out.mono ?_; rintro e wn ⟨rfl, hb⟩; replace hG := hG.step hb; clear hb; clear z0 z1 H1 hF; have y1 := (hG.at 0 rfl).fl; have y2 := (hG.at 0 rfl).fh; have y3 := (hG.at 0 rfl).lo; have y4 := (hG.at 0 rfl).hi; have y5 := (hG.at 0 rfl).lt)
            exact ⟨⟨0 + 1, by omega, by simp, by rw [E.out, HA2.out, HZ2.out], by rw [E.out]; exact (hG.put 0 rfl _ _ rfl).alloc _⟩, by simp [intOf] <;> omega⟩
          · obtain ⟨j, rfl⟩ : ∃ j, k = j + 1 := ⟨k - 1, by omega⟩
            have E := hid (Um.sp_next hz hN)
            have kN : ((Um.monoR (Um.cutR lo hi n (j + 1)) (Um.cutR lo hi n (j + 1 + 1)) p).2.2 != 0) = false := by simpa using hN
            have HA2 := hid hz
            clear hz hN
            generalize Um.spR lo hi n p (j + 1) = A at *
            generalize Um.cutR lo hi n (j + 1) = C0 at *
            generalize Um.cutR lo hi n (j + 1 + 1) = C1 at *
            generalize Um.monoR C0 C1 p = N at *
            have HH := fun w => hid (rHull_any A.1 A.2.1 N.1 N.2.1 w)
            have HZ2 : Hid ((Um.hullR A.1 A.2.1 N.1 N.2.1).2.2 = 0) := hid rfl
            generalize Um.hullR A.1 A.2.1 N.1 N.2.1 = R at *
            go_wp2_with (first | (go_at_call 11; refine (H1 _ (hF.li hl)).out.mono ?_; rintro e wn ⟨rfl, hb⟩; replace hG := hG.step hb; clear hb; clear z0 z1 H1 hF; replace hG := hG.push N.1 N.2.1 rfl; have x0l := (hG.at 0 rfl).lo; have x0h := (hG.at 0 rfl).hi; have x1l := (hG.at 1 rfl).lo; have x1h := (hG.at 1 rfl).hi) | (go_at_call 12; refine (HH _).out.mono ?_; rintro e wn ⟨rfl, hb⟩; replace hG := hG.step hb; clear hb; clear x0l x0h x1l x1h; clear HH; have y1 := (hG.at 1 rfl).fl; have y2 := (hG.at 1 rfl).fh; have y3 := (hG.at 1 rfl).lo; have y4 := (hG.at 1 rfl).hi; have y6 := (hG.at 1 rfl).r0; have y7 := (hG.at 1 rfl).r1))
            exact ⟨⟨j + 1 + 1, by omega, by simp, by rw [E.out, HA2.out, HZ2.out], by rw [E.out]; exact (hG.put 1 rfl _ _ rfl).drop⟩, by simp [intOf] <;> omega⟩
        · have E := hid (Um.sp_bad (n := k + 1) (Nat.lt_succ_self k) hN)
          have kN : ((Um.monoR (Um.cutR lo hi n k) (Um.cutR lo hi n (k + 1)) p).2.2 != 0) = true := by simpa using hN
          clear hz hN
          generalize Um.spR lo hi n p k = A at *
          generalize Um.cutR lo hi n k = C0 at *
          generalize Um.cutR lo hi n (k + 1) = C1 at *
          generalize Um.monoR C0 C1 p = N at *
          go_wp2_with (go_at_call 11; refine (H1 _ (hF.li hl)).out.mono ?_; rintro e wn ⟨rfl, hb⟩; replace hG := hG.step hb; clear hb; clear z0 z1 H1 hF; have y1 := (hG.at 0 rfl).fl; have y2 := (hG.at 0 rfl).fh; have y3 := (hG.at 0 rfl).lo; have y4 := (hG.at 0 rfl).hi; have y5 := (hG.at 0 rfl).lt)
          exact ⟨⟨k + 1, by omega, by simp, by rw [E.out], by rw [E.out]; exact (hG.put 0 rfl _ _ rfl).alloc _⟩, by simp [intOf] <;> omega⟩
      · have k0 : ((Um.spR lo hi n p k).2.2 == 0) = false := by simpa using hz
        have HX : Hid (Um.spR lo hi n p n = Um.spR lo hi n p k) := by
          have e := Um.sp_stay hz (n - k)
          rw [show k + (n - k) = n by omega] at e
          rw [e, (Um.sp_fault lo hi n p k).resolve_left hz]
          exact hid rfl
        clear hz hA HM HC HO
        have x0l := (hF.at 0 rfl).lo
        have x0h := (hF.at 0 rfl).hi
        rw [HX.out] at HS
        clear HX
        generalize Um.spR lo hi n p k = A at *
        go_wp2_with (first | (go_at_call 13; refine (HS _ (hF.li hl)).out.mono ?_; rintro e wn ⟨rfl, hb⟩; replace hF := hF.step hb; replace hG := hG.step hb; clear hb; clear x0l x0h; replace hF := hF.push A.1 A.2.1 rfl; replace hG := hG.push A.1 A.2.1 rfl) | (go_at_call 8; refine (hid (same_any _ _ _ (hg.below (B := w.heap.size) hF.below hg.size))).out.mono ?_; rintro e wn ⟨rfl, hb⟩; replace hF := hF.step hb; replace hG := hG.step hb; clear hb; have x0l := (hG.at 0 rfl).lo; have x0h := (hG.at 0 rfl).hi; have x1l := (hG.at 1 rfl).lo; have x1h := (hG.at 1 rfl).hi))
        go_returns
        exact ⟨rfl, hF.below⟩
    · obtain rfl : k = n := by omega
      have hkk : decide ((k : Int) < (k : Int)) = false := decide_eq_false (by omega)
      have HX : Hid (Um.spR lo hi k p k = Um.spR lo hi k p k) := hid rfl
      clear hA HM HC HO
      have x0l := (hF.at 0 rfl).lo
      have x0h := (hF.at 0 rfl).hi
      clear HX
      generalize Um.spR lo hi k p k = A at *
      go_wp2_with (first | (go_at_call 13; refine (HS _ (hF.li hl)).out.mono ?_; rintro e wn ⟨rfl, hb⟩; replace hF := hF.step hb; replace hG := hG.step hb; clear hb; clear x0l x0h; replace hF := hF.push A.1 A.2.1 rfl; replace hG := hG.push A.1 A.2.1 rfl) | (go_at_call 8; refine (hid (same_any _ _ _ (hg.below (B := w.heap.size) hF.below hg.size))).out.mono ?_; rintro e wn ⟨rfl, hb⟩; replace hF := hF.step hb; replace hG := hG.step hb; clear hb; have x0l := (hG.at 0 rfl).lo; have x0h := (hG.at 0 rfl).hi; have x1l := (hG.at 1 rfl).lo; have x1h := (hG.at 1 rfl).hi))
      go_returns
      exact ⟨rfl, hF.below⟩

theorem walk (p : List Int) (v : Value) (lo hi many : Int) (w : World) (hg : HasErr w) (hl : Li w.heap.size w v p) :
    Calls Tryz.prog 3 #[v, .agg #[.int .i64 lo, .int .i64 hi], .int .i64 many] w fun e w' => e = .returned (.bool true) ∧ Below w.heap.size w w' := by
  by_cases h : Um.chk lo hi = 0
  · by_cases hm : 1 ≤ many ∧ many ≤ 32
    · obtain ⟨n, rfl⟩ : ∃ n : Nat, many = n := ⟨many.toNat, by omega⟩
      by_cases ho : Um.over p lo hi = 0
      · exact walk_right p v lo hi n w hl hg h (by omega) (by omega) ho
      · exact walk_poly p v lo hi n w hl hg h (by omega) (by omega) ho
    · by_cases hm1 : many < 1
      · by_cases ho : Um.over p lo hi = 0
        · exact walk_low p v lo hi many w hl hg h hm hm1 ho
        · exact walk_low_poly p v lo hi many w hl hg h hm hm1 ho
      · by_cases ho : Um.over p lo hi = 0
        · exact walk_high p v lo hi many w hl hg h hm hm1 (by omega) ho
        · exact walk_high_poly p v lo hi many w hl hg h hm hm1 (by omega) ho
  · exact walk_span p v lo hi many w hl hg h
end Go.Proofs.YthoiiffdigkodaaGreatDoor.PsTells
