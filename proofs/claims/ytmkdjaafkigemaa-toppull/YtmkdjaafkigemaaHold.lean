/-
  What package hold answers: Is, Grow at every argument.
-/
import Derived.Test.YtmkdjaafkigemaaStep
import Derived.Test.YtmkdjaafkigemaaBoxV
import Derived.Test.YtmkdjaafkigemaaBoxM
import Derived.Test.YtmkdjaafkigemaaBoxH
import Derived.Test.YtmkdjaafkigemaaSpanAdd
import Derived.Test.YtmkdjaafkigemaaMaths3
namespace Um
theorem grown_four {h : List (Int × Int)} {y : Int} (e : ¬ (grownR h y).2 = 0) : (grownR h y).2 = 4 := by
  unfold grownR at e ⊢
  by_cases c : bigL (widerL h y) = true
  · rw [if_pos c]
  · rw [if_neg c] at e; exact absurd rfl e
theorem ofAll_nil {s : List (List Tm)} {p c : List (Int × Int)} (h : ¬ (ofAll s p c).2 = 0) : (ofAll s p c).1 = [] := by
  by_cases hr : readyF s p c = 0
  · rw [ofAll_yes hr] at h ⊢; rw [beh_four h]
  · rw [ofAll_not hr]
theorem growAll_nil {s : List (List Tm)} {p b : List (Int × Int)} {y n : Int} (h : ¬ (growAll s p b y n).2 = 0) : (growAll s p b y n).1 = [] := by
  unfold growAll at h ⊢
  by_cases c : growF s p b y n = 0
  · rw [if_pos c] at h ⊢; exact growR_none h
  · rw [if_neg c]
theorem growAll_len {s : List (List Tm)} {p b : List (Int × Int)} {y n : Int} (h : (growAll s p b y n).2 = 0) : 0 < (growAll s p b y n).1.length ∧ (growAll s p b y n).1.length ≤ 3 := by
  obtain ⟨h1, h2, h3⟩ := growAll_good h
  obtain ⟨⟨g0, _⟩, gr⟩ := growF_ok.1 h1
  rw [h2]
  have := (ready_ok.1 (grow_good g0 gr h3).1).2.1
  exact ⟨(box_len this).1, (box_len this).2⟩
end Um
namespace Go.Proofs.Ytmkdjaafkigemaa
set_option linter.unusedSimpArgs false
open Go.RowKit

theorem Own.put {w : World} {base g cap : Nat} {q : List (Int × Int)} (h : Own w base g cap q) (j : Nat) (a b : Int) : Own ((w.setCell ⟨g, j * 2, none⟩ (.int .i64 a)).setCell ⟨g, j * 2 + 1, none⟩ (.int .i64 b)) base g cap (q.set j (a, b)) := by
  have h1 := (World.ownsRow.stored h (j * 2) (.int .i64 a)).1
  have h2 := (World.ownsRow.stored h1 (j * 2 + 1) (.int .i64 b)).1
  rw [cellsOf_set] at h2
  unfold Own
  rw [List.length_set]
  exact h2
theorem hold_within {s : List (List Um.Tm)} {p b : List (Int × Int)} (h : (Um.ofAll s p b).2 = 0) (u v : Value) (w : World) (hs1 : Ls w.heap.size w u (Um.ofAll s p b).1) (hs2 : Ls w.heap.size w v b) :
    Calls Try.prog 51 #[u, v] w fun e w' => e = .returned (.tuple #[.bool (Um.isB s p b), errV (Um.ofAll s p b).2]) ∧ Below w.heap.size w w' := by
  have := bwithin_any (Um.ofAll s p b).1 u b v w hs1 hs2
  obtain ⟨h0, e, h2⟩ := Um.ofAll_good h
  have hb : Um.boxesF (Um.ofAll s p b).1 b = 0 := by rw [e]; exact (Um.beh_boxes h0 h2).1
  have hi : withinA (Um.ofAll s p b).1 b = Um.isB s p b := by
    unfold withinA Um.isB
    rw [decide_eq_true hb, decide_eq_true h]
  rw [hb, hi] at this
  rw [h]
  exact this
set_option maxRecDepth 100000 in
set_option maxHeartbeats 8000000 in
theorem hlNext_bad (s : List (List Um.Tm)) (v0 : Value) (p : List (Int × Int)) (v1 : Value) (b : List (Int × Int)) (v : Value) (w : World) (hf : Lf w.heap.size w v0 s) (hp : Ls w.heap.size w v1 p) (hs : Ls w.heap.size w v b) (h : ¬ (Um.ofAll s p b).2 = 0) :
    Calls Try.prog 30 #[.agg #[v0, v1], v] w fun e w' => ∃ r, e = .returned (.tuple #[r, .bool (Um.isB s p b), errV (Um.ofAll s p b).2]) ∧ Ls w'.heap.size w' r (Um.ofAll s p b).1 ∧ Below w.heap.size w w' := by
  have ve := errV_none
  have q1 := errG
  have q2 := errGn
  have q3 := errE
  have q4 := errN
  obtain ⟨a0, cap0, rfl, -⟩ := (id hf)
  obtain ⟨a1, cap1, rfl, -⟩ := (id hp)
  obtain ⟨a2, cap2, rfl, -⟩ := (id hs)
  have hY := SyAt.new w (.slice a0 s.length cap0) (.slice a1 p.length cap1) 25 rfl
  have hBW : Below w.heap.size w (w.alloc (.cells #[.slice a0 s.length cap0, .slice a1 p.length cap1] 25)) := by go_grown
  have y0 := hY.c0
  have y1 := hY.c1
  replace hf := hf.step hBW
  replace hp := hp.step hBW
  replace hs := hs.step hBW
  have HO := fun w hf hp hs => hid (sof_any s (.slice a0 s.length cap0) p (.slice a1 p.length cap1) b (.slice a2 b.length cap2) w hf hp hs)
  have HZ := hid (Um.ofAll_nil h)
  have HI := hid (Um.isB_not h)
  have kO : ((Um.ofAll s p b).2 != 0) = true := by simpa using h
  clear h
  generalize Um.ofAll s p b = O at *
  generalize Um.isB s p b = I at *
  go_enter Try.func30, Try.ntmps30
  go_wp2_with (go_at_call 50; refine (HO _ hf hp hs).out.mono ?_; rintro e wn ⟨r, rfl, hr, hb⟩; replace hf := hf.step hb; replace hp := hp.step hb; replace hs := hs.step hb; replace hY := hY.step hb; have hB := hBW.trans (hb.mono hBW.size); obtain ⟨a8, c8, rfl, -⟩ := (id hr); clear hb HO hBW y0 y1)
  go_returns
  rw [HI.out, HZ.out]
  exact ⟨_, rfl, Ls.nil _ _, hB⟩

set_option maxRecDepth 100000 in
set_option maxHeartbeats 8000000 in
theorem hlNext_yes (s : List (List Um.Tm)) (v0 : Value) (p : List (Int × Int)) (v1 : Value) (b : List (Int × Int)) (v : Value) (w : World) (hf : Lf w.heap.size w v0 s) (hp : Ls w.heap.size w v1 p) (hs : Ls w.heap.size w v b) (h : (Um.ofAll s p b).2 = 0) :
    Calls Try.prog 30 #[.agg #[v0, v1], v] w fun e w' => ∃ r, e = .returned (.tuple #[r, .bool (Um.isB s p b), errV (Um.ofAll s p b).2]) ∧ Ls w'.heap.size w' r (Um.ofAll s p b).1 ∧ Below w.heap.size w w' := by
  have ve := errV_none
  have q1 := errG
  have q2 := errGn
  have q3 := errE
  have q4 := errN
  obtain ⟨a0, cap0, rfl, -⟩ := (id hf)
  obtain ⟨a1, cap1, rfl, -⟩ := (id hp)
  obtain ⟨a2, cap2, rfl, -⟩ := (id hs)
  have hY := SyAt.new w (.slice a0 s.length cap0) (.slice a1 p.length cap1) 25 rfl
  have hBW : Below w.heap.size w (w.alloc (.cells #[.slice a0 s.length cap0, .slice a1 p.length cap1] 25)) := by go_grown
  have y0 := hY.c0
  have y1 := hY.c1
  replace hf := hf.step hBW
  replace hp := hp.step hBW
  replace hs := hs.step hBW
  have HO := fun w hf hp hs => hid (sof_any s (.slice a0 s.length cap0) p (.slice a1 p.length cap1) b (.slice a2 b.length cap2) w hf hp hs)
  have HW := fun (y : Value) w h1 h2 => hid (hold_within h y (.slice a2 b.length cap2) w h1 h2)
  have kO : ((Um.ofAll s p b).2 != 0) = false := by simpa using h
  clear h
  generalize Um.ofAll s p b = O at *
  generalize Um.isB s p b = I at *
  go_enter Try.func30, Try.ntmps30
  go_wp2_with (first | (go_at_call 50; refine (HO _ hf hp hs).out.mono ?_; rintro e wn ⟨r, rfl, hr, hb⟩; replace hf := hf.step hb; replace hp := hp.step hb; replace hs := hs.step hb; replace hY := hY.step hb; have hB := hBW.trans (hb.mono hBW.size); obtain ⟨a8, c8, rfl, -⟩ := (id hr); clear hb HO hBW y0 y1) | (go_at_call 51; refine (HW _ _ hr hs).out.mono ?_; rintro e wk ⟨rfl, hb⟩; replace hB := hB.trans (hb.mono hB.size); replace hr := hr.step hb; clear hb HW))
  go_returns
  exact ⟨_, rfl, hr, hB⟩

theorem hlNext_any (s : List (List Um.Tm)) (v0 : Value) (p : List (Int × Int)) (v1 : Value) (b : List (Int × Int)) (v : Value) (w : World) (hf : Lf w.heap.size w v0 s) (hp : Ls w.heap.size w v1 p) (hs : Ls w.heap.size w v b) :
    Calls Try.prog 30 #[.agg #[v0, v1], v] w fun e w' => ∃ r, e = .returned (.tuple #[r, .bool (Um.isB s p b), errV (Um.ofAll s p b).2]) ∧ Ls w'.heap.size w' r (Um.ofAll s p b).1 ∧ Below w.heap.size w w' := by
  by_cases h : (Um.ofAll s p b).2 = 0
  · exact hlNext_yes s v0 p v1 b v w hf hp hs h
  · exact hlNext_bad s v0 p v1 b v w hf hp hs h

set_option maxRecDepth 100000 in
set_option maxHeartbeats 8000000 in
theorem hlIs_any (s : List (List Um.Tm)) (v0 : Value) (p : List (Int × Int)) (v1 : Value) (b : List (Int × Int)) (v : Value) (w : World) (hf : Lf w.heap.size w v0 s) (hp : Ls w.heap.size w v1 p) (hs : Ls w.heap.size w v b) :
    Calls Try.prog 15 #[.agg #[v0, v1], v] w fun e w' => e = .returned (.tuple #[.bool (Um.isB s p b), errV (Um.ofAll s p b).2]) ∧ Below w.heap.size w w' := by
  have ve := errV_none
  have q1 := errG
  have q2 := errGn
  have q3 := errE
  have q4 := errN
  obtain ⟨a0, cap0, rfl, -⟩ := (id hf)
  obtain ⟨a1, cap1, rfl, -⟩ := (id hp)
  obtain ⟨a2, cap2, rfl, -⟩ := (id hs)
  have hY := SyAt.new w (.slice a0 s.length cap0) (.slice a1 p.length cap1) 25 rfl
  have hBW : Below w.heap.size w (w.alloc (.cells #[.slice a0 s.length cap0, .slice a1 p.length cap1] 25)) := by go_grown
  have y0 := hY.c0
  have y1 := hY.c1
  replace hf := hf.step hBW
  replace hp := hp.step hBW
  replace hs := hs.step hBW
  have HN := fun w hf hp hs => hid (hlNext_any s (.slice a0 s.length cap0) p (.slice a1 p.length cap1) b (.slice a2 b.length cap2) w hf hp hs)
  generalize Um.ofAll s p b = O at *
  generalize Um.isB s p b = I at *
  go_enter Try.func15, Try.ntmps15
  go_wp2_with (go_at_call 30; refine (HN _ hf hp hs).out.mono ?_; rintro e wn ⟨r, rfl, hr, hb⟩; have hB := hBW.trans (hb.mono hBW.size); obtain ⟨a8, c8, rfl, -⟩ := (id hr); clear hb HN)
  go_returns
  exact ⟨rfl, hB⟩

end Go.Proofs.Ytmkdjaafkigemaa
