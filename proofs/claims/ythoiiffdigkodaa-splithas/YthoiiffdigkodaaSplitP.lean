/-
  What package split's Pieces answers, at every argument.
-/
import Derived.Test.YthoiiffdigkodaaSpan
import Derived.Test.YthoiiffdigkodaaMems
import Derived.Test.YthoiiffdigkodaaMaths
namespace Go.Proofs.Ythoiiffdigkodaa
set_option linter.unusedSimpArgs false
open Go.RowKit

theorem info_span : (Try.prog.info? 24).map (fun i => (i.zero, i.size, i.bytes)) = some (some (.agg #[.int .i64 0, .int .i64 0]), 2, 16) := by kernel_rfl

/-- While the pieces are made: the span, and the row with the first k of n. -/
structure PieAt (w : World) (lo hi : Int) (n B : Nat) (wr : World) (k : Nat) : Prop where
  below : Below w.heap.size w wr
  span : Sp wr w.heap.size lo hi
  row : wr.ownsRow (w.heap.size + 1) 24 2 (.slice (some ⟨B, 0, none⟩) n n) n (cellsOf (Um.cuts lo hi n k ++ List.replicate (n - k) (0, 0)))
theorem PieAt.start {w w0 : World} {o : Obj} {lo hi : Int} {n B : Nat} (hg : ((w.alloc (.cells #[.int .i64 lo, .int .i64 hi] 24)).alloc o).grownBy w0 none)
    (hr : w0.ownsRow (w.heap.size + 1) 24 2 (.slice (some ⟨B, 0, none⟩) n n) n (madeCells (Value.agg #[.int .i64 0, .int .i64 0]).cells (n * 2)).toList) : PieAt w lo hi n B w0 0 := by
  have hb := (Below.refl ((w.alloc (.cells #[.int .i64 lo, .int .i64 hi] 24)).alloc o).heap.size ((w.alloc (.cells #[.int .i64 lo, .int .i64 hi] 24)).alloc o)).grown hg (Nat.le_refl _) (fun j e => by cases e)
  refine ⟨?_, ((Sp.new w lo hi).alloc o).step hb, ?_⟩
  · exact (((Below.refl _ _).alloc (Nat.le_refl _) _).alloc (by simp) _).trans (hb.mono (by simp; omega))
  · have e : (Value.agg #[.int .i64 0, .int .i64 0]).cells = #[.int .i64 0, .int .i64 0] := rfl
    rw [e, cellsOf_zeros] at hr
    exact hr
theorem PieAt.lo0 {w wr : World} {lo hi : Int} {n B k : Nat} (h : PieAt w lo hi n B wr k) (hk : k < n) : wr.cell? ⟨B, k * 2, none⟩ = some (.int .i64 0) := by
  rw [h.row.cellAt (k * 2) (by omega), cellsOf_lo _ k (by rw [List.length_append, Um.cuts_length, List.length_replicate]; omega), List.getElem?_append_right (by rw [Um.cuts_length]; exact Nat.le_refl _), Um.cuts_length, Nat.sub_self]
  simp [show 0 < n - k by omega]
theorem PieAt.hi0 {w wr : World} {lo hi : Int} {n B k : Nat} (h : PieAt w lo hi n B wr k) (hk : k < n) : wr.cell? ⟨B, k * 2 + 1, none⟩ = some (.int .i64 0) := by
  rw [h.row.cellAt (k * 2 + 1) (by omega), cellsOf_hi _ k (by rw [List.length_append, Um.cuts_length, List.length_replicate]; omega), List.getElem?_append_right (by rw [Um.cuts_length]; exact Nat.le_refl _), Um.cuts_length, Nat.sub_self]
  simp [show 0 < n - k by omega]
theorem PieAt.ge {w wr : World} {lo hi : Int} {n B k : Nat} (h : PieAt w lo hi n B wr k) : w.heap.size + 1 ≤ B := owns_from h.row B rfl
theorem PieAt.put {w wr : World} {lo hi : Int} {n B k : Nat} (h : PieAt w lo hi n B wr k) (hk : k < n) :
    PieAt w lo hi n B ((wr.setCell ⟨B, k * 2, none⟩ (.int .i64 (Um.cutR lo hi n k))).setCell ⟨B, k * 2 + 1, none⟩ (.int .i64 (Um.cutR lo hi n (k + 1)))) (k + 1) := by
  have g := h.ge
  have s1 := (h.row.stored (k * 2) (.int .i64 (Um.cutR lo hi n k))).1
  have s2 := (s1.stored (k * 2 + 1) (.int .i64 (Um.cutR lo hi n (k + 1)))).1
  refine ⟨(h.below.setCell (by show w.heap.size ≤ B; omega) _).setCell (by show w.heap.size ≤ B; omega) _, (h.span.other _ _ (by show w.heap.size ≠ B; omega)).other _ _ (by show w.heap.size ≠ B; omega), ?_⟩
  rw [cellsOf_set, show n - k = (n - (k + 1)) + 1 by omega, Um.cuts_set] at s2
  exact s2
theorem PieAt.drew {w wr : World} {lo hi : Int} {n B k : Nat} (h : PieAt w lo hi n B wr k) (q : Nat) : PieAt w lo hi n B (wr.drewN q) k :=
  ⟨below_drewN h.below _, h.span, by
    obtain ⟨a, b⟩ := h.row
    exact ⟨a, b⟩⟩

set_option maxRecDepth 100000 in
set_option maxHeartbeats 2000000 in
theorem pieces_wrong (lo hi many : Int) (w : World) (h : ¬ Um.chk lo hi = 0) :
    Calls Try.prog 7 #[.agg #[.int .i64 lo, .int .i64 hi], .int .i64 many] w fun e w' => e = .returned (.tuple #[.slice none 0 0, errV (Um.chk lo hi)]) ∧ Below w.heap.size w w' := by
  have v0 := errV_none
  have q1 := errG
  have q2 := errGn
  have q3 := errE
  have q4 := errN
  have hF := (Fr.start w).push lo hi rfl
  have x0l := (hF.at 0 rfl).lo
  have x0h := (hF.at 0 rfl).hi
  have k : (Um.chk lo hi != 0) = true := by simpa using h
  have HC := fun w => hid (check_any lo hi w)
  clear h
  generalize Um.chk lo hi = G at *
  go_enter Try.func7, Try.ntmps7
  go_wp2_with (go_at_call 11; refine (HC _).out.mono ?_; rintro e wn ⟨rfl, rfl⟩)
  go_returns
  exact ⟨rfl, by go_grown⟩

set_option maxRecDepth 100000 in
set_option maxHeartbeats 2000000 in
theorem pieces_many (lo hi many : Int) (w : World) (h : Um.chk lo hi = 0) (hm : ¬ (1 ≤ many ∧ many ≤ 32)) :
    Calls Try.prog 7 #[.agg #[.int .i64 lo, .int .i64 hi], .int .i64 many] w fun e w' => e = .returned (.tuple #[.slice none 0 0, errV 1]) ∧ Below w.heap.size w w' := by
  have v0 := errV_none
  have q1 := errG
  have q2 := errGn
  have q3 := errE
  have q4 := errN
  have hF := (Fr.start w).push lo hi rfl
  have x0l := (hF.at 0 rfl).lo
  have x0h := (hF.at 0 rfl).hi
  have HC := fun w => hid (check_any lo hi w)
  rw [h] at HC
  clear h
  rcases (by omega : many < 1 ∨ (¬ many < 1 ∧ 32 < many)) with h1 | ⟨h1, h2⟩
  all_goals
    go_enter Try.func7, Try.ntmps7
    go_wp2_with (go_at_call 11; refine (HC _).out.mono ?_; rintro e wn ⟨rfl, rfl⟩)
    go_returns
    exact ⟨rfl, by go_grown⟩

set_option maxRecDepth 100000 in
set_option maxHeartbeats 4000000 in
theorem pieces_right (lo hi : Int) (n : Nat) (w : World) (h : Um.chk lo hi = 0) (h1 : 1 ≤ n) (h2 : n ≤ 32) :
    Calls Try.prog 7 #[.agg #[.int .i64 lo, .int .i64 hi], .int .i64 (n : Int)] w fun e w' => ∃ v, e = .returned (.tuple #[v, .nilIface]) ∧ Ls w'.heap.size w' v (Um.cuts lo hi n n) ∧ Below w.heap.size w w' := by
  have v0 := errV_none
  have q1 := errG
  have q2 := errGn
  have q3 := errE
  have q4 := errN
  obtain ⟨m1, m2, hl⟩ := Um.chk_ok.1 h
  obtain ⟨m1, m3⟩ := (Um.may_iff _).1 m1
  obtain ⟨m4, m2⟩ := (Um.may_iff _).1 m2
  have hF := (Fr.start w).push lo hi rfl
  have x0l := (hF.at 0 rfl).lo
  have x0h := (hF.at 0 rfl).hi
  have HC := fun w => hid (check_any lo hi w)
  rw [h] at HC
  clear h
  obtain ⟨i0, hi0, hz0, hz1, hz2⟩ := info_parts info_span
  go_enter Try.func7, Try.ntmps7
  go_wp2_with (first | (go_at_call 11; refine (HC _).out.mono ?_; rintro e wn ⟨rfl, rfl⟩) | (at_make; refine wpList_make_full _ rfl _ _ 25 rfl (w.heap.size + 1) 24 i0 (.agg #[.int .i64 0, .int .i64 0]) 2 Try.underlying25 hi0 hz0 hz1 .i64 .i64 _ _ n rfl rfl (by first | rfl | omega) (by first | rfl | omega) (by rw [hz2]; omega) (by unfold maxLen; omega) (by simp) ?_; intro w0 hown hgrow; have hP := PieAt.start hgrow hown; clear hown hgrow x0l x0h; have x0l := hP.span.lo; have x0h := hP.span.hi))
  go_quiet (fail)
  go_wp2
  have hP0 := hid (hP.drew nq)
  clear hP x0l x0h hF HC
  go_loopw [8, 34] (fun u i wr => ∃ k : Nat, k ≤ n ∧ i = .int .i64 k ∧ u = .int .i64 (Um.cutR lo hi n k) ∧ PieAt w lo hi n (w.heap.size + 1 + 1) wr k) (fun _ i _ => n - (intOf i).toNat)
  case atStart => exact ⟨0, Nat.zero_le _, rfl, by rw [Um.cut_zero], by simpa using hP0.out⟩
  case round =>
    obtain ⟨k, hk, rfl, rfl, hP⟩ := hrel
    by_cases hkl : k < n
    · have x0l := hP.span.lo
      have y1 := hP.row.frozenAt (k * 2)
      have y2 := hP.row.frozenAt (k * 2 + 1)
      have y3 := hP.lo0 hkl
      have y4 := hP.hi0 hkl
      have hkk : (k : Int) < (n : Int) := by omega
      have HQ := fun q => (hP.drew q).put hkl
      rw [← Um.cut_code hl k] at HQ
      replace HQ := hid HQ
      have bb := Um.mul_by (A := 33) (B := 2000000000) (show (-33 : Int) ≤ (k : Int) + 1 by omega) (show (k : Int) + 1 ≤ 33 by omega) (show (-2000000000 : Int) ≤ hi - lo by omega) (show hi - lo ≤ 2000000000 by omega) (by decide)
      obtain ⟨b1, b2⟩ := bb
      have cc := Um.cut_in (lo := lo) (hi := hi) (many := n) (k := n) rfl (by omega) hl (show k + 1 ≤ n by omega)
      rw [← Um.cut_code hl k] at cc
      obtain ⟨c1, c2⟩ := cc
      have nz : ((n : Int) == 0) = false := by simp; omega
      clear hP
      go_wp2
      go_quiet (fail)
      go_wp2
      refine ⟨⟨k + 1, by omega, by simp, by rw [← Um.cut_code hl k], HQ.out _⟩, by simp [intOf]; omega⟩
    · obtain rfl : k = n := by omega
      have HQ := hid (ls_owns (l := Um.cuts lo hi k k) (by have := hP.row; rw [Nat.sub_self, List.replicate_zero, List.append_nil] at this; rw [Um.cuts_length]; exact this))
      have HB := hid hP.below
      clear hP
      go_wp2
      go_returns
      exact ⟨_, rfl, HQ.out, HB.out⟩

theorem pieces_any (lo hi many : Int) (w : World) :
    Calls Try.prog 7 #[.agg #[.int .i64 lo, .int .i64 hi], .int .i64 many] w fun e w' => ∃ v, e = .returned (.tuple #[v, errV (Um.pieF lo hi many)]) ∧ Ls w'.heap.size w' v (Um.pieR lo hi many) ∧ Below w.heap.size w w' := by
  unfold Um.pieR
  by_cases h : Um.chk lo hi = 0
  · by_cases hm : 1 ≤ many ∧ many ≤ 32
    · have e : Um.pieF lo hi many = 0 := Um.pie_ok.2 ⟨h, hm⟩
      obtain ⟨n, rfl⟩ : ∃ n : Nat, many = n := ⟨many.toNat, by omega⟩
      rw [if_pos e, e, errV_none]
      exact pieces_right lo hi n w h (by omega) (by omega)
    · have e : Um.pieF lo hi many = 1 := by
        unfold Um.pieF
        rw [if_pos h]
        exact Um.many_no (fun a => hm (Um.many_ok.1 a))
      rw [e, if_neg (by decide)]
      refine (pieces_many lo hi many w h hm).mono ?_
      rintro e w' ⟨rfl, hb⟩
      exact ⟨_, rfl, Ls.nil _ _, hb⟩
  · have e : Um.pieF lo hi many = Um.chk lo hi := by unfold Um.pieF; rw [if_neg h]
    rw [e, if_neg h]
    refine (pieces_wrong lo hi many w h).mono ?_
    rintro e w' ⟨rfl, hb⟩
    exact ⟨_, rfl, Ls.nil _ _, hb⟩
end Go.Proofs.Ythoiiffdigkodaa
