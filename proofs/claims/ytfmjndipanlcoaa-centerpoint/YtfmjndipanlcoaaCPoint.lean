/-
  The walk over 'spanlaw4.CenterPoint': for all p, n it returns true.
-/
import Derived.Test.YtfmjndipanlcoaaCenter
namespace Go.Proofs.Ytfmjndipanlcoaa.CPoint
set_option linter.unusedSimpArgs false
open Go.RowKit

theorem fact : Um.bestAll [7] 0 0 = (7, 7, 0) := by decide +kernel
theorem right {p : List Int} {n : Int} (h : (Um.bestAll p n n).2.2 = 0) :
    (Um.hornAll p n n).2.2 = 0 ∧ Um.centAll p n n = Um.hornAll p n n ∧ (Um.hornAll p n n).1 ≤ (Um.bestAll p n n).1 ∧ (Um.bestAll p n n).2.1 ≤ (Um.hornAll p n n).2.1 := by
  unfold Um.bestAll Um.hornAll Um.centAll at *
  by_cases ho : Um.over p n n = 0
  · rw [if_pos ho] at h ⊢
    rw [if_pos ho, if_pos ho]
    obtain ⟨h1, h2, h3, e⟩ := Um.best_ok h
    refine ⟨h1, Um.cent_point ho h3, ?_⟩
    rw [e]
    simp only []
    omega
  · rw [if_neg ho] at h; exact absurd h ho

set_option maxRecDepth 100000 in
set_option maxHeartbeats 8000000 in
theorem walk_wrong (p : List Int) (v : Value) (n : Int) (w : World) (hl : Li w.heap.size w v p) (h : ¬ (Um.bestAll p n n).2.2 = 0) :
    Calls Try.prog 7 #[v, .int .i64 n] w fun e w' => e = .returned (.bool true) ∧ Below w.heap.size w w' := by
  have v0 := errV_none
  have q1 := errG
  have q2 := errGn
  have q3 := errE
  have q4 := errN
  have HF := fun v w hl => hid (best_any [7] v 0 0 w hl)
  rw [fact] at HF
  have HB := fun w hl => hid (best_any p v n n w hl)
  have k : ((Um.bestAll p n n).2.2 != 0) = true := by simpa using h
  clear h
  generalize Um.bestAll p n n = A at *
  have hF := Fr.start w
  obtain ⟨a0, cap0, rfl, -⟩ := (id hl)
  go_enter Try.func7, Try.ntmps7
  go_wp2_with (first | (go_at_call 21; refine (HF _ _ (Li.one' 7 _ (by simp))).out.mono ?_; rintro e wn ⟨rfl, hb⟩; replace hF := (hF.alloc _).step hb; clear hb; clear HF; replace hF := (hF.push 7 7 rfl).push n n (b := wn.heap.size + 1) (by simp)) | (go_at_call 21; refine (HB _ (hF.li hl)).out.mono ?_; rintro e wn ⟨rfl, hb⟩; replace hF := hF.step hb; clear hb; clear HB; replace hF := hF.push A.1 A.2.1 rfl))
  go_returns
  exact ⟨rfl, hF.below⟩

set_option maxRecDepth 100000 in
set_option maxHeartbeats 8000000 in
theorem walk_right (p : List Int) (v : Value) (n : Int) (w : World) (hl : Li w.heap.size w v p) (h : (Um.bestAll p n n).2.2 = 0) :
    Calls Try.prog 7 #[v, .int .i64 n] w fun e w' => e = .returned (.bool true) ∧ Below w.heap.size w w' := by
  have v0 := errV_none
  have q1 := errG
  have q2 := errGn
  have q3 := errE
  have q4 := errN
  have HF := fun v w hl => hid (best_any [7] v 0 0 w hl)
  rw [fact] at HF
  have HB := fun w hl => hid (best_any p v n n w hl)
  have HH := fun w hl => hid (horner_any p v n n w hl)
  have HC := fun w hl => hid (range_any p v n n w hl)
  obtain ⟨h1, e, h2, h3⟩ := right h
  rw [e] at HC
  have k : ((Um.bestAll p n n).2.2 != 0) = false := by simpa using h
  have k1 : ((Um.hornAll p n n).2.2 == 0) = true := by simpa using h1
  have r1 : decide ((Um.hornAll p n n).1 ≤ (Um.bestAll p n n).1) = true := by simpa using h2
  have r2 : decide ((Um.bestAll p n n).2.1 ≤ (Um.hornAll p n n).2.1) = true := by simpa using h3
  clear h h1 h2 h3 e
  generalize Um.bestAll p n n = A at *
  generalize Um.hornAll p n n = H at *
  have hF := Fr.start w
  obtain ⟨a0, cap0, rfl, -⟩ := (id hl)
  go_enter Try.func7, Try.ntmps7
  go_wp2_with (first | (go_at_call 21; refine (HF _ _ (Li.one' 7 _ (by simp))).out.mono ?_; rintro e wn ⟨rfl, hb⟩; replace hF := (hF.alloc _).step hb; clear hb; clear HF; replace hF := (hF.push 7 7 rfl).push n n (b := wn.heap.size + 1) (by simp)) | (go_at_call 21; refine (HB _ (hF.li hl)).out.mono ?_; rintro e wn ⟨rfl, hb⟩; replace hF := hF.step hb; clear hb; clear HB; replace hF := hF.push A.1 A.2.1 rfl; have x1l := (hF.at 1 rfl).lo; have x1h := (hF.at 1 rfl).hi) | (go_at_call 15; refine (HH _ (hF.li hl)).out.mono ?_; rintro e wn ⟨rfl, hb⟩; replace hF := hF.step hb; clear hb; clear x1l x1h; replace hF := hF.push H.1 H.2.1 rfl; have x2l := (hF.at 2 rfl).lo; have x2h := (hF.at 2 rfl).hi) | (go_at_call 22; refine (HC _ (hF.li hl)).out.mono ?_; rintro e wn ⟨rfl, hb⟩; replace hF := hF.step hb; clear hb; clear x2l x2h; replace hF := hF.push H.1 H.2.1 rfl; have x0l := (hF.at 0 rfl).lo; have x0h := (hF.at 0 rfl).hi; have x1l := (hF.at 1 rfl).lo; have x1h := (hF.at 1 rfl).hi; have x2l := (hF.at 2 rfl).lo; have x2h := (hF.at 2 rfl).hi))
  go_returns
  exact ⟨rfl, hF.below⟩

theorem walk (p : List Int) (v : Value) (n : Int) (w : World) (hl : Li w.heap.size w v p) :
    Calls Try.prog 7 #[v, .int .i64 n] w fun e w' => e = .returned (.bool true) ∧ Below w.heap.size w w' := by
  by_cases h : (Um.bestAll p n n).2.2 = 0
  · exact walk_right p v n w hl h
  · exact walk_wrong p v n w hl h
end Go.Proofs.Ytfmjndipanlcoaa.CPoint
