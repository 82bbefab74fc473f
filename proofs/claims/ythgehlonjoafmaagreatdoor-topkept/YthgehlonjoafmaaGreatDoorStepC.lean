/-
  What package step answers: Check, CheckOver, checkAt at every argument.
-/
import Derived.Test.YthgehlonjoafmaaGreatDoorFormC
import Derived.Test.YthgehlonjoafmaaGreatDoorBoxC
import Derived.Test.YthgehlonjoafmaaGreatDoorSpanC
import Derived.Test.YthgehlonjoafmaaGreatDoorMems2
import Derived.Test.YthgehlonjoafmaaGreatDoorMaths3
namespace Go.Proofs.YthgehlonjoafmaaGreatDoor
set_option linter.unusedSimpArgs false
open Go.RowKit

set_option maxRecDepth 100000 in
set_option maxHeartbeats 8000000 in
theorem scheck_none (s : List (List Um.Tm)) (v0 : Value) (p : List (Int × Int)) (v1 : Value) (w : World) (hf : Lf w.heap.size w v0 s) (hp : Ls w.heap.size w v1 p) (h : s.length = 0) :
    Calls Tryz.prog 44 #[.agg #[v0, v1]] w fun e w' => e = .returned (errV (5)) ∧ Below w.heap.size w w' := by
  have v0 := errV_none
  have q1 := errG
  have q2 := errGn
  have q3 := errE
  have q4 := errN
  obtain ⟨a0, cap0, rfl, -⟩ := (id hf)
  obtain ⟨a1, cap1, rfl, -⟩ := (id hp)
  have h1 : w.heap.size < (w.alloc (.cells #[.slice a0 s.length cap0, .slice a1 p.length cap1] 25)).heap.size := by simp
  have hBW : Below w.heap.size w (w.alloc (.cells #[.slice a0 s.length cap0, .slice a1 p.length cap1] 25)) := by go_grown
  obtain ⟨c0, c1⟩ := sys_cells w (.slice a0 s.length cap0) (.slice a1 p.length cap1) 25
  have hF := Fr.start (w.alloc (.cells #[.slice a0 s.length cap0, .slice a1 p.length cap1] 25))
  have y0 := c0
  have y1 := c1
  have t1 : ((s.length : Int) == 0) = true := by simp [h]
  clear h
  go_enter Tryz.func44, Tryz.ntmps44
  go_wp2
  go_returns
  exact ⟨rfl, hBW⟩

set_option maxRecDepth 100000 in
set_option maxHeartbeats 8000000 in
theorem scheck_full (s : List (List Um.Tm)) (v0 : Value) (p : List (Int × Int)) (v1 : Value) (w : World) (hf : Lf w.heap.size w v0 s) (hp : Ls w.heap.size w v1 p) (h : 3 < s.length) :
    Calls Tryz.prog 44 #[.agg #[v0, v1]] w fun e w' => e = .returned (errV (4)) ∧ Below w.heap.size w w' := by
  have v0 := errV_none
  have q1 := errG
  have q2 := errGn
  have q3 := errE
  have q4 := errN
  obtain ⟨a0, cap0, rfl, -⟩ := (id hf)
  obtain ⟨a1, cap1, rfl, -⟩ := (id hp)
  have h1 : w.heap.size < (w.alloc (.cells #[.slice a0 s.length cap0, .slice a1 p.length cap1] 25)).heap.size := by simp
  have hBW : Below w.heap.size w (w.alloc (.cells #[.slice a0 s.length cap0, .slice a1 p.length cap1] 25)) := by go_grown
  obtain ⟨c0, c1⟩ := sys_cells w (.slice a0 s.length cap0) (.slice a1 p.length cap1) 25
  have hF := Fr.start (w.alloc (.cells #[.slice a0 s.length cap0, .slice a1 p.length cap1] 25))
  have y0 := c0
  have y1 := c1
  have t1 : ((s.length : Int) == 0) = false := beq_false_of_ne (by omega)
  have t2 : decide (3 < (s.length : Int)) = true := decide_eq_true (by omega)
  clear h
  go_enter Tryz.func44, Tryz.ntmps44
  go_wp2
  go_returns
  exact ⟨rfl, hBW⟩

set_option maxRecDepth 100000 in
set_option maxHeartbeats 8000000 in
theorem scheck_shape (s : List (List Um.Tm)) (v0 : Value) (p : List (Int × Int)) (v1 : Value) (w : World) (hf : Lf w.heap.size w v0 s) (hp : Ls w.heap.size w v1 p) (h0 : 0 < s.length) (h3 : s.length ≤ 3) (h : ¬ p.length = s.length) :
    Calls Tryz.prog 44 #[.agg #[v0, v1]] w fun e w' => e = .returned (errV (3)) ∧ Below w.heap.size w w' := by
  have v0 := errV_none
  have q1 := errG
  have q2 := errGn
  have q3 := errE
  have q4 := errN
  obtain ⟨a0, cap0, rfl, -⟩ := (id hf)
  obtain ⟨a1, cap1, rfl, -⟩ := (id hp)
  have h1 : w.heap.size < (w.alloc (.cells #[.slice a0 s.length cap0, .slice a1 p.length cap1] 25)).heap.size := by simp
  have hBW : Below w.heap.size w (w.alloc (.cells #[.slice a0 s.length cap0, .slice a1 p.length cap1] 25)) := by go_grown
  obtain ⟨c0, c1⟩ := sys_cells w (.slice a0 s.length cap0) (.slice a1 p.length cap1) 25
  have hF := Fr.start (w.alloc (.cells #[.slice a0 s.length cap0, .slice a1 p.length cap1] 25))
  have y0 := c0
  have y1 := c1
  have t1 : ((s.length : Int) == 0) = false := beq_false_of_ne (by omega)
  have t2 : decide (3 < (s.length : Int)) = false := decide_eq_false (by omega)
  have t3 : ((p.length : Int) != (s.length : Int)) = true := by simp; omega
  clear h
  go_enter Tryz.func44, Tryz.ntmps44
  go_wp2
  go_returns
  exact ⟨rfl, hBW⟩

set_option maxRecDepth 100000 in
set_option maxHeartbeats 8000000 in
theorem scheck_right (s : List (List Um.Tm)) (v0 : Value) (p : List (Int × Int)) (v1 : Value) (w : World) (hf : Lf w.heap.size w v0 s) (hp : Ls w.heap.size w v1 p) (h0 : s ≠ []) (h3 : s.length ≤ 3) (h : p.length = s.length) :
    Calls Tryz.prog 44 #[.agg #[v0, v1]] w fun e w' => e = .returned (errV (Um.sysF s p)) ∧ Below w.heap.size w w' := by
  have v0 := errV_none
  have q1 := errG
  have q2 := errGn
  have q3 := errE
  have q4 := errN
  have EQ := hid (sysF_forms h0 (show ¬ 3 < s.length by omega) h)
  have hs0 : 0 < s.length := List.length_pos_iff.2 h0
  obtain ⟨b1, off1, cap, rfl, hcap, hlt1, hall1⟩ := hf.open h0
  obtain ⟨b2, off2, cap2, rfl, hcap2, hA⟩ := hp.open (by intro e; rw [e] at h; simp at h; omega)
  have h1 : w.heap.size < (w.alloc (.cells #[.slice (some ⟨b1, off1, none⟩) s.length cap, .slice (some ⟨b2, off2, none⟩) p.length cap2] 25)).heap.size := by simp
  have hBW : Below w.heap.size w (w.alloc (.cells #[.slice (some ⟨b1, off1, none⟩) s.length cap, .slice (some ⟨b2, off2, none⟩) p.length cap2] 25)) := by go_grown
  obtain ⟨c0, c1⟩ := sys_cells w (.slice (some ⟨b1, off1, none⟩) s.length cap) (.slice (some ⟨b2, off2, none⟩) p.length cap2) 25
  have hF := Fr.start (w.alloc (.cells #[.slice (some ⟨b1, off1, none⟩) s.length cap, .slice (some ⟨b2, off2, none⟩) p.length cap2] 25))
  have y0 := c0
  have y1 := c1
  have hA2 := hA.step hBW
  have HU : Hid (∀ j, j < s.length → ∃ u, (w.alloc (.cells #[.slice (some ⟨b1, off1, none⟩) s.length cap, .slice (some ⟨b2, off2, none⟩) p.length cap2] 25)).cell? ⟨b1, off1 + j, none⟩ = some u ∧ Lt (w.alloc (.cells #[.slice (some ⟨b1, off1, none⟩) s.length cap, .slice (some ⟨b2, off2, none⟩) p.length cap2] 25)).heap.size (w.alloc (.cells #[.slice (some ⟨b1, off1, none⟩) s.length cap, .slice (some ⟨b2, off2, none⟩) p.length cap2] 25)) u (Um.nx s j)) := by
    intro j hj
    obtain ⟨u, hu, hl⟩ := hall1 j hj
    exact ⟨u, (hBW.cell (p := ⟨b1, off1 + j, none⟩) hlt1).trans hu, (hl.keep hBW).wide hBW.size⟩
  have hl1 : b1 < (w.alloc (.cells #[.slice (some ⟨b1, off1, none⟩) s.length cap, .slice (some ⟨b2, off2, none⟩) p.length cap2] 25)).heap.size := Nat.lt_of_lt_of_le hlt1 hBW.size
  have t1 : ((s.length : Int) == 0) = false := beq_false_of_ne (by omega)
  have t2 : decide (3 < (s.length : Int)) = false := decide_eq_false (by omega)
  have t3 : ((p.length : Int) != (s.length : Int)) = false := by simp [h]
  have p3 : p.length ≤ 3 := by omega
  have HCA := fun w hs => hid (checkAll_some p (.slice (some ⟨b2, off2, none⟩) p.length cap2) w hs (by intro e; rw [e] at h; simp at h; omega) p3)
  clear h h0 hf hp hall1 hA
  go_enter Tryz.func44, Tryz.ntmps44
  go_wp2
  clear y0 y1
  go_loopw [25] (fun i wr => ∃ k : Nat, k ≤ s.length ∧ i = .int .i64 k ∧ Fr (w.alloc (.cells #[.slice (some ⟨b1, off1, none⟩) s.length cap, .slice (some ⟨b2, off2, none⟩) p.length cap2] 25)) wr [] ∧ Hid (∀ j, j < k → Um.formF (Um.nx s j) s.length = 0)) (fun i _ => s.length - (intOf i).toNat)
  case atStart => exact ⟨0, Nat.zero_le _, rfl, hF, fun j hj => absurd hj (Nat.not_lt_zero _)⟩
  case round =>
    clear hF
    obtain ⟨k, hk, rfl, hF, hall⟩ := hrel
    by_cases hkl : k < s.length
    · have hkk : (k : Int) < (s.length : Int) := by omega
      obtain ⟨u, hu0, hu1⟩ := HU.out k hkl
      have yu := (hF.below.cell (p := ⟨b1, off1 + k, none⟩) hl1).trans hu0
      have hu := hF.lt hu1
      have HFo := fun w h => hid (fcheck_any (Um.nx s k) s.length u w h)
      have HX := fun h => hid (Um.forms_first hkl hall.out h)
      have HN : Hid (Um.formF (Um.nx s k) s.length = 0 → ∀ j, j < k + 1 → Um.formF (Um.nx s j) s.length = 0) := by
        intro h j hj
        rcases (by omega : j < k ∨ j = k) with h2 | rfl
        · exact hall.out j h2
        · exact h
      clear hall HU hA2 hu0 hu1
      generalize Um.formF (Um.nx s k) s.length = G at *
      by_cases hc : G = 0
      · have kc : (G != 0) = false := by simpa using hc
        have HM := hid (HN.out hc)
        clear HX HN hc
        go_wp2_with (go_at_call 54; refine (HFo _ hu).out.mono ?_; rintro e wn ⟨rfl, hb⟩; replace hF := hF.step hb; clear hb)
        exact ⟨⟨k + 1, by omega, by simp, hF, HM.out⟩, by simp [intOf]; omega⟩
      · have kc : (G != 0) = true := by simpa using hc
        have HM0 := HX hc
        have HM : Hid (Um.sysF s p = G) := by rw [EQ.out, HM0.out, if_neg hc]; exact hid rfl
        clear HX HN hc HM0
        go_wp2_with (go_at_call 54; refine (HFo _ hu).out.mono ?_; rintro e wn ⟨rfl, hb⟩; replace hF := hF.step hb; clear hb)
        go_returns
        rw [HM.out]
        exact ⟨rfl, hBW.trans (hF.below.mono hBW.size)⟩
    · obtain rfl : k = s.length := by omega
      have HZ : Hid (Um.sysF s p = Um.sidesF p) := by
        rw [EQ.out, if_pos (Um.forms_ok.2 fun f hf => by
          obtain ⟨i, hi, rfl⟩ := List.getElem_of_mem hf
          have := hall.out i hi
          unfold Um.nx at this
          rw [List.getElem?_eq_getElem hi] at this
          exact this)]
        exact hid rfl
      have y0 := (hF.below.cell (p := ⟨w.heap.size, 0, none⟩) h1).trans c0
      have y1 := (hF.below.cell (p := ⟨w.heap.size, 1, none⟩) h1).trans c1
      clear hall HU
      go_wp2_with (go_at_call 66; refine (HCA _ ((hA2.step hF.below).ls rfl hcap2)).out.mono ?_; rintro e wn ⟨rfl, hb⟩; replace hF := hF.step hb; clear hb)
      go_returns
      rw [HZ.out]
      exact ⟨rfl, hBW.trans (hF.below.mono hBW.size)⟩

theorem scheck_any (s : List (List Um.Tm)) (v0 : Value) (p : List (Int × Int)) (v1 : Value) (w : World) (hf : Lf w.heap.size w v0 s) (hp : Ls w.heap.size w v1 p) :
    Calls Tryz.prog 44 #[.agg #[v0, v1]] w fun e w' => e = .returned (errV (Um.sysF s p)) ∧ Below w.heap.size w w' := by
  by_cases h0 : s = []
  · subst h0
    rw [sysF_none]
    exact scheck_none [] v0 p v1 w hf hp rfl
  · have hs0 : 0 < s.length := List.length_pos_iff.2 h0
    by_cases h3 : 3 < s.length
    · rw [sysF_full h3]
      exact scheck_full s v0 p v1 w hf hp h3
    · by_cases h : p.length = s.length
      · exact scheck_right s v0 p v1 w hf hp h0 (by omega) h
      · rw [sysF_shape h0 h3 h]
        exact scheck_shape s v0 p v1 w hf hp hs0 (by omega) h

set_option maxRecDepth 100000 in
set_option maxHeartbeats 8000000 in
theorem sover_sys (s : List (List Um.Tm)) (v0 : Value) (p : List (Int × Int)) (v1 : Value) (b : List (Int × Int)) (v : Value) (w : World) (hf : Lf w.heap.size w v0 s) (hp : Ls w.heap.size w v1 p) (hs : Ls w.heap.size w v b) (h : ¬ Um.sysF s p = 0) :
    Calls Tryz.prog 19 #[.agg #[v0, v1], v] w fun e w' => e = .returned (errV (Um.sysF s p)) ∧ Below w.heap.size w w' := by
  have v0 := errV_none
  have q1 := errG
  have q2 := errGn
  have q3 := errE
  have q4 := errN
  obtain ⟨a0, cap0, rfl, -⟩ := (id hf)
  obtain ⟨a1, cap1, rfl, -⟩ := (id hp)
  obtain ⟨a2, cap2, rfl, -⟩ := (id hs)
  have hBW : Below w.heap.size w (w.alloc (.cells #[.slice a0 s.length cap0, .slice a1 p.length cap1] 25)) := by go_grown
  have hy := SyAt.new w (.slice a0 s.length cap0) (.slice a1 p.length cap1) 25 rfl
  have y0 := hy.c0
  have y1 := hy.c1
  have hF := Fr.start (w.alloc (.cells #[.slice a0 s.length cap0, .slice a1 p.length cap1] 25))
  replace hf := hf.step hBW
  replace hp := hp.step hBW
  replace hs := hs.step hBW
  have HS := fun w hf hp => hid (scheck_any s (.slice a0 s.length cap0) p (.slice a1 p.length cap1) w hf hp)
  have HB := fun w hs => hid (bcheck_any b (.slice a2 b.length cap2) w hs)
  have kS : (Um.sysF s p != 0) = true := by simpa using h
  clear h HB
  generalize Um.sysF s p = G at *
  go_enter Tryz.func19, Tryz.ntmps19
  go_wp2_with (go_at_call 44; refine (HS _ hf hp).out.mono ?_; rintro e wn ⟨rfl, hb⟩; replace hF := hF.step hb; replace hy := hy.step hb; have y0 := hy.c0; clear hb hs hf hp HS)
  go_returns
  exact ⟨rfl, hBW.trans (hF.below.mono hBW.size)⟩

set_option maxRecDepth 100000 in
set_option maxHeartbeats 8000000 in
theorem sover_box (s : List (List Um.Tm)) (v0 : Value) (p : List (Int × Int)) (v1 : Value) (b : List (Int × Int)) (v : Value) (w : World) (hf : Lf w.heap.size w v0 s) (hp : Ls w.heap.size w v1 p) (hs : Ls w.heap.size w v b) (h : Um.sysF s p = 0) (h2 : ¬ Um.boxF b = 0) :
    Calls Tryz.prog 19 #[.agg #[v0, v1], v] w fun e w' => e = .returned (errV (Um.boxF b)) ∧ Below w.heap.size w w' := by
  have v0 := errV_none
  have q1 := errG
  have q2 := errGn
  have q3 := errE
  have q4 := errN
  obtain ⟨a0, cap0, rfl, -⟩ := (id hf)
  obtain ⟨a1, cap1, rfl, -⟩ := (id hp)
  obtain ⟨a2, cap2, rfl, -⟩ := (id hs)
  have hBW : Below w.heap.size w (w.alloc (.cells #[.slice a0 s.length cap0, .slice a1 p.length cap1] 25)) := by go_grown
  have hy := SyAt.new w (.slice a0 s.length cap0) (.slice a1 p.length cap1) 25 rfl
  have y0 := hy.c0
  have y1 := hy.c1
  have hF := Fr.start (w.alloc (.cells #[.slice a0 s.length cap0, .slice a1 p.length cap1] 25))
  replace hf := hf.step hBW
  replace hp := hp.step hBW
  replace hs := hs.step hBW
  have HS := fun w hf hp => hid (scheck_any s (.slice a0 s.length cap0) p (.slice a1 p.length cap1) w hf hp)
  have HB := fun w hs => hid (bcheck_any b (.slice a2 b.length cap2) w hs)
  have kS : (Um.sysF s p != 0) = false := by simpa using h
  have kB : (Um.boxF b != 0) = true := by simpa using h2
  clear h h2
  generalize Um.sysF s p = G at *
  generalize Um.boxF b = G2 at *
  go_enter Tryz.func19, Tryz.ntmps19
  go_wp2_with (first | (go_at_call 44; refine (HS _ hf hp).out.mono ?_; rintro e wn ⟨rfl, hb⟩; replace hF := hF.step hb; replace hs := hs.step hb; replace hy := hy.step hb; have y0 := hy.c0; clear hb hf hp HS) | (go_at_call 45; refine (HB _ hs).out.mono ?_; rintro e wn ⟨rfl, hb⟩; replace hF := hF.step hb; clear y0; replace hy := hy.step hb; have y0 := hy.c0; clear hb hs HB))
  go_returns
  exact ⟨rfl, hBW.trans (hF.below.mono hBW.size)⟩

set_option maxRecDepth 100000 in
set_option maxHeartbeats 8000000 in
theorem sover_shape (s : List (List Um.Tm)) (v0 : Value) (p : List (Int × Int)) (v1 : Value) (b : List (Int × Int)) (v : Value) (w : World) (hf : Lf w.heap.size w v0 s) (hp : Ls w.heap.size w v1 p) (hs : Ls w.heap.size w v b) (h : Um.sysF s p = 0) (h2 : Um.boxF b = 0) (h3 : ¬ b.length = s.length) :
    Calls Tryz.prog 19 #[.agg #[v0, v1], v] w fun e w' => e = .returned (errV (3)) ∧ Below w.heap.size w w' := by
  have v0 := errV_none
  have q1 := errG
  have q2 := errGn
  have q3 := errE
  have q4 := errN
  obtain ⟨a0, cap0, rfl, -⟩ := (id hf)
  obtain ⟨a1, cap1, rfl, -⟩ := (id hp)
  obtain ⟨a2, cap2, rfl, -⟩ := (id hs)
  have hBW : Below w.heap.size w (w.alloc (.cells #[.slice a0 s.length cap0, .slice a1 p.length cap1] 25)) := by go_grown
  have hy := SyAt.new w (.slice a0 s.length cap0) (.slice a1 p.length cap1) 25 rfl
  have y0 := hy.c0
  have y1 := hy.c1
  have hF := Fr.start (w.alloc (.cells #[.slice a0 s.length cap0, .slice a1 p.length cap1] 25))
  replace hf := hf.step hBW
  replace hp := hp.step hBW
  replace hs := hs.step hBW
  have HS := fun w hf hp => hid (scheck_any s (.slice a0 s.length cap0) p (.slice a1 p.length cap1) w hf hp)
  have HB := fun w hs => hid (bcheck_any b (.slice a2 b.length cap2) w hs)
  have kS : (Um.sysF s p != 0) = false := by simpa using h
  have kB : (Um.boxF b != 0) = false := by simpa using h2
  have kL : ((b.length : Int) != (s.length : Int)) = true := by simp; omega
  clear h h2 h3
  generalize Um.sysF s p = G at *
  generalize Um.boxF b = G2 at *
  go_enter Tryz.func19, Tryz.ntmps19
  go_wp2_with (first | (go_at_call 44; refine (HS _ hf hp).out.mono ?_; rintro e wn ⟨rfl, hb⟩; replace hF := hF.step hb; replace hs := hs.step hb; replace hy := hy.step hb; have y0 := hy.c0; clear hb hf hp HS) | (go_at_call 45; refine (HB _ hs).out.mono ?_; rintro e wn ⟨rfl, hb⟩; replace hF := hF.step hb; clear y0; replace hy := hy.step hb; have y0 := hy.c0; clear hb hs HB))
  go_returns
  exact ⟨rfl, hBW.trans (hF.below.mono hBW.size)⟩

set_option maxRecDepth 100000 in
set_option maxHeartbeats 8000000 in
theorem sover_right (s : List (List Um.Tm)) (v0 : Value) (p : List (Int × Int)) (v1 : Value) (b : List (Int × Int)) (v : Value) (w : World) (hf : Lf w.heap.size w v0 s) (hp : Ls w.heap.size w v1 p) (hs : Ls w.heap.size w v b) (h : Um.sysF s p = 0) (h2 : Um.boxF b = 0) (h3 : b.length = s.length) :
    Calls Tryz.prog 19 #[.agg #[v0, v1], v] w fun e w' => e = .returned (errV (0)) ∧ Below w.heap.size w w' := by
  have v0 := errV_none
  have q1 := errG
  have q2 := errGn
  have q3 := errE
  have q4 := errN
  obtain ⟨a0, cap0, rfl, -⟩ := (id hf)
  obtain ⟨a1, cap1, rfl, -⟩ := (id hp)
  obtain ⟨a2, cap2, rfl, -⟩ := (id hs)
  have hBW : Below w.heap.size w (w.alloc (.cells #[.slice a0 s.length cap0, .slice a1 p.length cap1] 25)) := by go_grown
  have hy := SyAt.new w (.slice a0 s.length cap0) (.slice a1 p.length cap1) 25 rfl
  have y0 := hy.c0
  have y1 := hy.c1
  have hF := Fr.start (w.alloc (.cells #[.slice a0 s.length cap0, .slice a1 p.length cap1] 25))
  replace hf := hf.step hBW
  replace hp := hp.step hBW
  replace hs := hs.step hBW
  have HS := fun w hf hp => hid (scheck_any s (.slice a0 s.length cap0) p (.slice a1 p.length cap1) w hf hp)
  have HB := fun w hs => hid (bcheck_any b (.slice a2 b.length cap2) w hs)
  have kS : (Um.sysF s p != 0) = false := by simpa using h
  have kB : (Um.boxF b != 0) = false := by simpa using h2
  have kL : ((b.length : Int) != (s.length : Int)) = false := by simp [h3]
  clear h h2 h3
  generalize Um.sysF s p = G at *
  generalize Um.boxF b = G2 at *
  go_enter Tryz.func19, Tryz.ntmps19
  go_wp2_with (first | (go_at_call 44; refine (HS _ hf hp).out.mono ?_; rintro e wn ⟨rfl, hb⟩; replace hF := hF.step hb; replace hs := hs.step hb; replace hy := hy.step hb; have y0 := hy.c0; clear hb hf hp HS) | (go_at_call 45; refine (HB _ hs).out.mono ?_; rintro e wn ⟨rfl, hb⟩; replace hF := hF.step hb; clear y0; replace hy := hy.step hb; have y0 := hy.c0; clear hb hs HB))
  go_returns
  exact ⟨rfl, hBW.trans (hF.below.mono hBW.size)⟩

theorem sover_any (s : List (List Um.Tm)) (v0 : Value) (p : List (Int × Int)) (v1 : Value) (b : List (Int × Int)) (v : Value) (w : World) (hf : Lf w.heap.size w v0 s) (hp : Ls w.heap.size w v1 p) (hs : Ls w.heap.size w v b) :
    Calls Tryz.prog 19 #[.agg #[v0, v1], v] w fun e w' => e = .returned (errV (Um.readyF s p b)) ∧ Below w.heap.size w w' := by
  unfold Um.readyF
  by_cases h : Um.sysF s p = 0
  · rw [if_pos h]
    by_cases h2 : Um.boxF b = 0
    · rw [if_pos h2]
      by_cases h3 : b.length = s.length
      · rw [if_pos h3]; exact sover_right s v0 p v1 b v w hf hp hs h h2 h3
      · rw [if_neg h3]; exact sover_shape s v0 p v1 b v w hf hp hs h h2 h3
    · rw [if_neg h2]; exact sover_box s v0 p v1 b v w hf hp hs h h2
  · rw [if_neg h]; exact sover_sys s v0 p v1 b v w hf hp hs h

/-- Is the push in its span? -/
def inB (d : Int × Int) (n : Int) : Bool := decide (d.1 ≤ n) && decide (n ≤ d.2)
theorem inB_iff {d : Int × Int} {n : Int} : inB d n = true ↔ d.1 ≤ n ∧ n ≤ d.2 := by unfold inB; simp
/-- Is each push in its span; the fault. -/
def pushF (p : List (Int × Int)) (q : List Int) : Int := if Um.pushP p q then 0 else 1

/-- What is wrong ahead of the numbers themselves. -/
def movC (s : List (List Um.Tm)) (p : List (Int × Int)) (x q : List Int) : Int := if Um.sysF s p = 0 then (if x.length = s.length ∧ q.length = s.length then pushF p q else 3) else Um.sysF s p
end Go.Proofs.YthgehlonjoafmaaGreatDoor
