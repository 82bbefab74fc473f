/-
  What package step answers: Check, CheckOver, checkAt at every argument.
-/
import Derived.Test.YtmkdjaafkigemaaFormC
import Derived.Test.YtmkdjaafkigemaaBoxC
import Derived.Test.YtmkdjaafkigemaaSpanC
import Derived.Test.YtmkdjaafkigemaaMems2
import Derived.Test.YtmkdjaafkigemaaMaths3
namespace Go.Proofs.Ytmkdjaafkigemaa
set_option linter.unusedSimpArgs false
open Go.RowKit

set_option maxRecDepth 100000 in
set_option maxHeartbeats 8000000 in
theorem scheck_none (s : List (List Um.Tm)) (v0 : Value) (p : List (Int × Int)) (v1 : Value) (w : World) (hf : Lf w.heap.size w v0 s) (hp : Ls w.heap.size w v1 p) (h : s.length = 0) :
    Calls Try.prog 31 #[.agg #[v0, v1]] w fun e w' => e = .returned (errV (5)) ∧ Below w.heap.size w w' := by
  have v0 := errV_none
  have q1 := errG
  have q2 := errGn
  have q3 := errE
  have q4 := errN
  obtain ⟨a0, cap0, rfl, -⟩ := (id hf)
  obtain ⟨a1, cap1, rfl, -⟩ := (id hp)
  have h1 : w.heap.size < (w.alloc (.cells #[.slice a0 s.length cap0, .slice a1 p.length cap1] 25)).heap.size := by simp
  have hBW : Below w.heap.size w (w.alloc (.cells #[.slice a0 s.length cap0, .slice a1 p.length cap1] 25)) := by go_grown
  obtain ⟨c0, c1⟩ := sys_cells w (.slice a0 s.length cap0) (.slice a1 p.length cap1) 25
  have hF := Fr.start (w.alloc (.cells #[.slice a0 s.length cap0, .slice a1 p.length cap1] 25))
  have y0 := c0
  have y1 := c1
  have t1 : ((s.length : Int) == 0) = true := by simp [h]
  clear h
  go_enter Try.func31, Try.ntmps31
  go_wp2
  go_returns
  exact ⟨rfl, hBW⟩

set_option maxRecDepth 100000 in
set_option maxHeartbeats 8000000 in
theorem scheck_full (s : List (List Um.Tm)) (v0 : Value) (p : List (Int × Int)) (v1 : Value) (w : World) (hf : Lf w.heap.size w v0 s) (hp : Ls w.heap.size w v1 p) (h : 3 < s.length) :
    Calls Try.prog 31 #[.agg #[v0, v1]] w fun e w' => e = .returned (errV (4)) ∧ Below w.heap.size w w' := by
  have v0 := errV_none
  have q1 := errG
  have q2 := errGn
  have q3 := errE
  have q4 := errN
  obtain ⟨a0, cap0, rfl, -⟩ := (id hf)
  obtain ⟨a1, cap1, rfl, -⟩ := (id hp)
  have h1 : w.heap.size < (w.alloc (.cells #[.slice a0 s.length cap0, .slice a1 p.length cap1] 25)).heap.size := by simp
  have hBW : Below w.heap.size w (w.alloc (.cells #[.slice a0 s.length cap0, .slice a1 p.length cap1] 25)) := by go_grown
  obtain ⟨c0, c1⟩ := sys_cells w (.slice a0 s.length cap0) (.slice a1 p.length cap1) 25
  have hF := Fr.start (w.alloc (.cells #[.slice a0 s.length cap0, .slice a1 p.length cap1] 25))
  have y0 := c0
  have y1 := c1
  have t1 : ((s.length : Int) == 0) = false := beq_false_of_ne (by omega)
  have t2 : decide (3 < (s.length : Int)) = true := decide_eq_true (by omega)
  clear h
  go_enter Try.func31, Try.ntmps31
  go_wp2
  go_returns
  exact ⟨rfl, hBW⟩

set_option maxRecDepth 100000 in
set_option maxHeartbeats 8000000 in
theorem scheck_shape (s : List (List Um.Tm)) (v0 : Value) (p : List (Int × Int)) (v1 : Value) (w : World) (hf : Lf w.heap.size w v0 s) (hp : Ls w.heap.size w v1 p) (h0 : 0 < s.length) (h3 : s.length ≤ 3) (h : ¬ p.length = s.length) :
    Calls Try.prog 31 #[.agg #[v0, v1]] w fun e w' => e = .returned (errV (3)) ∧ Below w.heap.size w w' := by
  have v0 := errV_none
  have q1 := errG
  have q2 := errGn
  have q3 := errE
  have q4 := errN
  obtain ⟨a0, cap0, rfl, -⟩ := (id hf)
  obtain ⟨a1, cap1, rfl, -⟩ := (id hp)
  have h1 : w.heap.size < (w.alloc (.cells #[.slice a0 s.length cap0, .slice a1 p.length cap1] 25)).heap.size := by simp
  have hBW : Below w.heap.size w (w.alloc (.cells #[.slice a0 s.length cap0, .slice a1 p.length cap1] 25)) := by go_grown
  obtain ⟨c0, c1⟩ := sys_cells w (.slice a0 s.length cap0) (.slice a1 p.length cap1) 25
  have hF := Fr.start (w.alloc (.cells #[.slice a0 s.length cap0, .slice a1 p.length cap1] 25))
  have y0 := c0
  have y1 := c1
  have t1 : ((s.length : Int) == 0) = false := beq_false_of_ne (by omega)
  have t2 : decide (3 < (s.length : Int)) = false := decide_eq_false (by omega)
  have t3 : ((p.length : Int) != (s.length : Int)) = true := by simp; omega
  clear h
  go_enter Try.func31, Try.ntmps31
  go_wp2
  go_returns
  exact ⟨rfl, hBW⟩

set_option maxRecDepth 100000 in
set_option maxHeartbeats 8000000 in
theorem scheck_right (s : List (List Um.Tm)) (v0 : Value) (p : List (Int × Int)) (v1 : Value) (w : World) (hf : Lf w.heap.size w v0 s) (hp : Ls w.heap.size w v1 p) (h0 : s ≠ []) (h3 : s.length ≤ 3) (h : p.length = s.length) :
    Calls Try.prog 31 #[.agg #[v0, v1]] w fun e w' => e = .returned (errV (Um.sysF s p)) ∧ Below w.heap.size w w' := by
  have v0 := errV_none
  have q1 := errG
  have q2 := errGn
  have q3 := errE
  have q4 := errN
  have EQ := hid (sysF_forms h0 (show ¬ 3 < s.length by omega) h)
  have hs0 : 0 < s.length := List.length_pos_iff.2 h0
  obtain ⟨b1, off1, cap, rfl, hcap, hlt1, hall1⟩ := hf.open h0
  obtain ⟨b2, off2, cap2, rfl, hcap2, hA⟩ := hp.open (by intro e; rw [e] at h; simp at h; omega)
  have h1 : w.heap.size < (w.alloc (.cells #[.slice (some ⟨b1, off1, none⟩) s.length cap, .slice (some ⟨b2, off2, none⟩) p.length cap2] 25)).heap.size := by simp
  have hBW : Below w.heap.size w (w.alloc (.cells #[.slice (some ⟨b1, off1, none⟩) s.length cap, .slice (some ⟨b2, off2, none⟩) p.length cap2] 25)) := by go_grown
  obtain ⟨c0, c1⟩ := sys_cells w (.slice (some ⟨b1, off1, none⟩) s.length cap) (.slice (some ⟨b2, off2, none⟩) p.length cap2) 25
  have hF := Fr.start (w.alloc (.cells #[.slice (some ⟨b1, off1, none⟩) s.length cap, .slice (some ⟨b2, off2, none⟩) p.length cap2] 25))
  have y0 := c0
  have y1 := c1
  have hA2 := hA.step hBW
  have HU : Hid (∀ j, j < s.length → ∃ u, (w.alloc (.cells #[.slice (some ⟨b1, off1, none⟩) s.length cap, .slice (some ⟨b2, off2, none⟩) p.length cap2] 25)).cell? ⟨b1, off1 + j, none⟩ = some u ∧ Lt (w.alloc (.cells #[.slice (some ⟨b1, off1, none⟩) s.length cap, .slice (some ⟨b2, off2, none⟩) p.length cap2] 25)).heap.size (w.alloc (.cells #[.slice (some ⟨b1, off1, none⟩) s.length cap, .slice (some ⟨b2, off2, none⟩) p.length cap2] 25)) u (Um.nx s j)) := by
    intro j hj
    obtain ⟨u, hu, hl⟩ := hall1 j hj
    exact ⟨u, (hBW.cell (p := ⟨b1, off1 + j, none⟩) hlt1).trans hu, (hl.keep hBW).wide hBW.size⟩
  have hl1 : b1 < (w.alloc (.cells #[.slice (some ⟨b1, off1, none⟩) s.length cap, .slice (some ⟨b2, off2, none⟩) p.length cap2] 25)).heap.size := Nat.lt_of_lt_of_le hlt1 hBW.size
  have t1 : ((s.length : Int) == 0) = false := beq_false_of_ne (by omega)
  have t2 : decide (3 < (s.length : Int)) = false := decide_eq_false (by omega)
  have t3 : ((p.length : Int) != (s.length : Int)) = false := by simp [h]
  have p3 : p.length ≤ 3 := by omega
  have HCA := fun w hs => hid (checkAll_some p (.slice (some ⟨b2, off2, none⟩) p.length cap2) w hs (by intro e; rw [e] at h; simp at h; omega) p3)
  clear h h0 hf hp hall1 hA
  go_enter Try.func31, Try.ntmps31
  go_wp2
  clear y0 y1
  go_loopw [25] (fun i wr => ∃ k : Nat, k ≤ s.length ∧ i = .int .i64 k ∧ Fr (w.alloc (.cells #[.slice (some ⟨b1, off1, none⟩) s.length cap, .slice (some ⟨b2, off2, none⟩) p.length cap2] 25)) wr [] ∧ Hid (∀ j, j < k → Um.formF (Um.nx s j) s.length = 0)) (fun i _ => s.length - (intOf i).toNat)
  case atStart => exact ⟨0, Nat.zero_le _, rfl, hF, fun j hj => absurd hj (Nat.not_lt_zero _)⟩
  case round =>
    clear hF
    obtain ⟨k, hk, rfl, hF, hall⟩ := hrel
    by_cases hkl : k < s.length
    · have hkk : (k : Int) < (s.length : Int) := by omega
      obtain ⟨u, hu0, hu1⟩ := HU.out k hkl
      have yu := (hF.below.cell (p := ⟨b1, off1 + k, none⟩) hl1).trans hu0
      have hu := hF.lt hu1
      have HFo := fun w h => hid (fcheck_any (Um.nx s k) s.length u w h)
      have HX := fun h => hid (Um.forms_first hkl hall.out h)
      have HN : Hid (Um.formF (Um.nx s k) s.length = 0 → ∀ j, j < k + 1 → Um.formF (Um.nx s j) s.length = 0) := by
        intro h j hj
        rcases (by omega : j < k ∨ j = k) with h2 | rfl
        · exact hall.out j h2
        · exact h
      clear hall HU hA2 hu0 hu1
      generalize Um.formF (Um.nx s k) s.length = G at *
      by_cases hc : G = 0
      · have kc : (G != 0) = false := by simpa using hc
        have HM := hid (HN.out hc)
        clear HX HN hc
        go_wp2_with (go_at_call 28; refine (HFo _ hu).out.mono ?_; rintro e wn ⟨rfl, hb⟩; replace hF := hF.step hb; clear hb)
        exact ⟨⟨k + 1, by omega, by simp, hF, HM.out⟩, by simp [intOf]; omega⟩
      · have kc : (G != 0) = true := by simpa using hc
        have HM0 := HX hc
        have HM : Hid (Um.sysF s p = G) := by rw [EQ.out, HM0.out, if_neg hc]; exact hid rfl
        clear HX HN hc HM0
        go_wp2_with (go_at_call 28; refine (HFo _ hu).out.mono ?_; rintro e wn ⟨rfl, hb⟩; replace hF := hF.step hb; clear hb)
        go_returns
        rw [HM.out]
        exact ⟨rfl, hBW.trans (hF.below.mono hBW.size)⟩
    · obtain rfl : k = s.length := by omega
      have HZ : Hid (Um.sysF s p = Um.sidesF p) := by
        rw [EQ.out, if_pos (Um.forms_ok.2 fun f hf => by
          obtain ⟨i, hi, rfl⟩ := List.getElem_of_mem hf
          have := hall.out i hi
          unfold Um.nx at this
          rw [List.getElem?_eq_getElem hi] at this
          exact this)]
        exact hid rfl
      have y0 := (hF.below.cell (p := ⟨w.heap.size, 0, none⟩) h1).trans c0
      have y1 := (hF.below.cell (p := ⟨w.heap.size, 1, none⟩) h1).trans c1
      clear hall HU
      go_wp2_with (go_at_call 35; refine (HCA _ ((hA2.step hF.below).ls rfl hcap2)).out.mono ?_; rintro e wn ⟨rfl, hb⟩; replace hF := hF.step hb; clear hb)
      go_returns
      rw [HZ.out]
      exact ⟨rfl, hBW.trans (hF.below.mono hBW.size)⟩

theorem scheck_any (s : List (List Um.Tm)) (v0 : Value) (p : List (Int × Int)) (v1 : Value) (w : World) (hf : Lf w.heap.size w v0 s) (hp : Ls w.heap.size w v1 p) :
    Calls Try.prog 31 #[.agg #[v0, v1]] w fun e w' => e = .returned (errV (Um.sysF s p)) ∧ Below w.heap.size w w' := by
  by_cases h0 : s = []
  · subst h0
    rw [sysF_none]
    exact scheck_none [] v0 p v1 w hf hp rfl
  · have hs0 : 0 < s.length := List.length_pos_iff.2 h0
    by_cases h3 : 3 < s.length
    · rw [sysF_full h3]
      exact scheck_full s v0 p v1 w hf hp h3
    · by_cases h : p.length = s.length
      · exact scheck_right s v0 p v1 w hf hp h0 (by omega) h
      · rw [sysF_shape h0 h3 h]
        exact scheck_shape s v0 p v1 w hf hp hs0 (by omega) h

set_option maxRecDepth 100000 in
set_option maxHeartbeats 8000000 in
theorem sover_sys (s : List (List Um.Tm)) (v0 : Value) (p : List (Int × Int)) (v1 : Value) (b : List (Int × Int)) (v : Value) (w : World) (hf : Lf w.heap.size w v0 s) (hp : Ls w.heap.size w v1 p) (hs : Ls w.heap.size w v b) (h : ¬ Um.sysF s p = 0) :
    Calls Try.prog 17 #[.agg #[v0, v1], v] w fun e w' => e = .returned (errV (Um.sysF s p)) ∧ Below w.heap.size w w' := by
  have v0 := errV_none
  have q1 := errG
  have q2 := errGn
  have q3 := errE
  have q4 := errN
  obtain ⟨a0, cap0, rfl, -⟩ := (id hf)
  obtain ⟨a1, cap1, rfl, -⟩ := (id hp)
  obtain ⟨a2, cap2, rfl, -⟩ := (id hs)
  have hBW : Below w.heap.size w (w.alloc (.cells #[.slice a0 s.length cap0, .slice a1 p.length cap1] 25)) := by go_grown
  have hy := SyAt.new w (.slice a0 s.length cap0) (.slice a1 p.length cap1) 25 rfl
  have y0 := hy.c0
  have y1 := hy.c1
  have hF := Fr.start (w.alloc (.cells #[.slice a0 s.length cap0, .slice a1 p.length cap1] 25))
  replace hf := hf.step hBW
  replace hp := hp.step hBW
  replace hs := hs.step hBW
  have HS := fun w hf hp => hid (scheck_any s (.slice a0 s.length cap0) p (.slice a1 p.length cap1) w hf hp)
  have HB := fun w hs => hid (bcheck_any b (.slice a2 b.length cap2) w hs)
  have kS : (Um.sysF s p != 0) = true := by simpa using h
  clear h HB
  generalize Um.sysF s p = G at *
  go_enter Try.func17, Try.ntmps17
  go_wp2_with (go_at_call 31; refine (HS _ hf hp).out.mono ?_; rintro e wn ⟨rfl, hb⟩; replace hF := hF.step hb; replace hy := hy.step hb; have y0 := hy.c0; clear hb hs hf hp HS)
  go_returns
  exact ⟨rfl, hBW.trans (hF.below.mono hBW.size)⟩

set_option maxRecDepth 100000 in
set_option maxHeartbeats 8000000 in
theorem sover_box (s : List (List Um.Tm)) (v0 : Value) (p : List (Int × Int)) (v1 : Value) (b : List (Int × Int)) (v : Value) (w : World) (hf : Lf w.heap.size w v0 s) (hp : Ls w.heap.size w v1 p) (hs : Ls w.heap.size w v b) (h : Um.sysF s p = 0) (h2 : ¬ Um.boxF b = 0) :
    Calls Try.prog 17 #[.agg #[v0, v1], v] w fun e w' => e = .returned (errV (Um.boxF b)) ∧ Below w.heap.size w w' := by
  have v0 := errV_none
  have q1 := errG
  have q2 := errGn
  have q3 := errE
  have q4 := errN
  obtain ⟨a0, cap0, rfl, -⟩ := (id hf)
  obtain ⟨a1, cap1, rfl, -⟩ := (id hp)
  obtain ⟨a2, cap2, rfl, -⟩ := (id hs)
  have hBW : Below w.heap.size w (w.alloc (.cells #[.slice a0 s.length cap0, .slice a1 p.length cap1] 25)) := by go_grown
  have hy := SyAt.new w (.slice a0 s.length cap0) (.slice a1 p.length cap1) 25 rfl
  have y0 := hy.c0
  have y1 := hy.c1
  have hF := Fr.start (w.alloc (.cells #[.slice a0 s.length cap0, .slice a1 p.length cap1] 25))
  replace hf := hf.step hBW
  replace hp := hp.step hBW
  replace hs := hs.step hBW
  have HS := fun w hf hp => hid (scheck_any s (.slice a0 s.length cap0) p (.slice a1 p.length cap1) w hf hp)
  have HB := fun w hs => hid (bcheck_any b (.slice a2 b.length cap2) w hs)
  have kS : (Um.sysF s p != 0) = false := by simpa using h
  have kB : (Um.boxF b != 0) = true := by simpa using h2
  clear h h2
  generalize Um.sysF s p = G at *
  generalize Um.boxF b = G2 at *
  go_enter Try.func17, Try.ntmps17
  go_wp2_with (first | (go_at_call 31; refine (HS _ hf hp).out.mono ?_; rintro e wn ⟨rfl, hb⟩; replace hF := hF.step hb; replace hs := hs.step hb; replace hy := hy.step hb; have y0 := hy.c0; clear hb hf hp HS) | (go_at_call 19; refine (HB _ hs).out.mono ?_; rintro e wn ⟨rfl, hb⟩; replace hF := hF.step hb; clear y0; replace hy := hy.step hb; have y0 := hy.c0; clear hb hs HB))
  go_returns
  exact ⟨rfl, hBW.trans (hF.below.mono hBW.size)⟩

set_option maxRecDepth 100000 in
set_option maxHeartbeats 8000000 in
theorem sover_shape (s : List (List Um.Tm)) (v0 : Value) (p : List (Int × Int)) (v1 : Value) (b : List (Int × Int)) (v : Value) (w : World) (hf : Lf w.heap.size w v0 s) (hp : Ls w.heap.size w v1 p) (hs : Ls w.heap.size w v b) (h : Um.sysF s p = 0) (h2 : Um.boxF b = 0) (h3 : ¬ b.length = s.length) :
    Calls Try.prog 17 #[.agg #[v0, v1], v] w fun e w' => e = .returned (errV (3)) ∧ Below w.heap.size w w' := by
  have v0 := errV_none
  have q1 := errG
  have q2 := errGn
  have q3 := errE
  have q4 := errN
  obtain ⟨a0, cap0, rfl, -⟩ := (id hf)
  obtain ⟨a1, cap1, rfl, -⟩ := (id hp)
  obtain ⟨a2, cap2, rfl, -⟩ := (id hs)
  have hBW : Below w.heap.size w (w.alloc (.cells #[.slice a0 s.length cap0, .slice a1 p.length cap1] 25)) := by go_grown
  have hy := SyAt.new w (.slice a0 s.length cap0) (.slice a1 p.length cap1) 25 rfl
  have y0 := hy.c0
  have y1 := hy.c1
  have hF := Fr.start (w.alloc (.cells #[.slice a0 s.length cap0, .slice a1 p.length cap1] 25))
  replace hf := hf.step hBW
  replace hp := hp.step hBW
  replace hs := hs.step hBW
  have HS := fun w hf hp => hid (scheck_any s (.slice a0 s.length cap0) p (.slice a1 p.length cap1) w hf hp)
  have HB := fun w hs => hid (bcheck_any b (.slice a2 b.length cap2) w hs)
  have kS : (Um.sysF s p != 0) = false := by simpa using h
  have kB : (Um.boxF b != 0) = false := by simpa using h2
  have kL : ((b.length : Int) != (s.length : Int)) = true := by simp; omega
  clear h h2 h3
  generalize Um.sysF s p = G at *
  generalize Um.boxF b = G2 at *
  go_enter Try.func17, Try.ntmps17
  go_wp2_with (first | (go_at_call 31; refine (HS _ hf hp).out.mono ?_; rintro e wn ⟨rfl, hb⟩; replace hF := hF.step hb; replace hs := hs.step hb; replace hy := hy.step hb; have y0 := hy.c0; clear hb hf hp HS) | (go_at_call 19; refine (HB _ hs).out.mono ?_; rintro e wn ⟨rfl, hb⟩; replace hF := hF.step hb; clear y0; replace hy := hy.step hb; have y0 := hy.c0; clear hb hs HB))
  go_returns
  exact ⟨rfl, hBW.trans (hF.below.mono hBW.size)⟩

set_option maxRecDepth 100000 in
set_option maxHeartbeats 8000000 in
theorem sover_right (s : List (List Um.Tm)) (v0 : Value) (p : List (Int × Int)) (v1 : Value) (b : List (Int × Int)) (v : Value) (w : World) (hf : Lf w.heap.size w v0 s) (hp : Ls w.heap.size w v1 p) (hs : Ls w.heap.size w v b) (h : Um.sysF s p = 0) (h2 : Um.boxF b = 0) (h3 : b.length = s.length) :
    Calls Try.prog 17 #[.agg #[v0, v1], v] w fun e w' => e = .returned (errV (0)) ∧ Below w.heap.size w w' := by
  have v0 := errV_none
  have q1 := errG
  have q2 := errGn
  have q3 := errE
  have q4 := errN
  obtain ⟨a0, cap0, rfl, -⟩ := (id hf)
  obtain ⟨a1, cap1, rfl, -⟩ := (id hp)
  obtain ⟨a2, cap2, rfl, -⟩ := (id hs)
  have hBW : Below w.heap.size w (w.alloc (.cells #[.slice a0 s.length cap0, .slice a1 p.length cap1] 25)) := by go_grown
  have hy := SyAt.new w (.slice a0 s.length cap0) (.slice a1 p.length cap1) 25 rfl
  have y0 := hy.c0
  have y1 := hy.c1
  have hF := Fr.start (w.alloc (.cells #[.slice a0 s.length cap0, .slice a1 p.length cap1] 25))
  replace hf := hf.step hBW
  replace hp := hp.step hBW
  replace hs := hs.step hBW
  have HS := fun w hf hp => hid (scheck_any s (.slice a0 s.length cap0) p (.slice a1 p.length cap1) w hf hp)
  have HB := fun w hs => hid (bcheck_any b (.slice a2 b.length cap2) w hs)
  have kS : (Um.sysF s p != 0) = false := by simpa using h
  have kB : (Um.boxF b != 0) = false := by simpa using h2
  have kL : ((b.length : Int) != (s.length : Int)) = false := by simp [h3]
  clear h h2 h3
  generalize Um.sysF s p = G at *
  generalize Um.boxF b = G2 at *
  go_enter Try.func17, Try.ntmps17
  go_wp2_with (first | (go_at_call 31; refine (HS _ hf hp).out.mono ?_; rintro e wn ⟨rfl, hb⟩; replace hF := hF.step hb; replace hs := hs.step hb; replace hy := hy.step hb; have y0 := hy.c0; clear hb hf hp HS) | (go_at_call 19; refine (HB _ hs).out.mono ?_; rintro e wn ⟨rfl, hb⟩; replace hF := hF.step hb; clear y0; replace hy := hy.step hb; have y0 := hy.c0; clear hb hs HB))
  go_returns
  exact ⟨rfl, hBW.trans (hF.below.mono hBW.size)⟩

theorem sover_any (s : List (List Um.Tm)) (v0 : Value) (p : List (Int × Int)) (v1 : Value) (b : List (Int × Int)) (v : Value) (w : World) (hf : Lf w.heap.size w v0 s) (hp : Ls w.heap.size w v1 p) (hs : Ls w.heap.size w v b) :
    Calls Try.prog 17 #[.agg #[v0, v1], v] w fun e w' => e = .returned (errV (Um.readyF s p b)) ∧ Below w.heap.size w w' := by
  unfold Um.readyF
  by_cases h : Um.sysF s p = 0
  · rw [if_pos h]
    by_cases h2 : Um.boxF b = 0
    · rw [if_pos h2]
      by_cases h3 : b.length = s.length
      · rw [if_pos h3]; exact sover_right s v0 p v1 b v w hf hp hs h h2 h3
      · rw [if_neg h3]; exact sover_shape s v0 p v1 b v w hf hp hs h h2 h3
    · rw [if_neg h2]; exact sover_box s v0 p v1 b v w hf hp hs h h2
  · rw [if_neg h]; exact sover_sys s v0 p v1 b v w hf hp hs h

set_option maxRecDepth 100000 in
set_option maxHeartbeats 8000000 in
theorem sat_sys (s : List (List Um.Tm)) (v0 : Value) (p : List (Int × Int)) (v1 : Value) (x : List Int) (v : Value) (q : List Int) (t : Value) (w : World) (hf : Lf w.heap.size w v0 s) (hp : Ls w.heap.size w v1 p) (hx : Li w.heap.size w v x) (hq : Li w.heap.size w t q) (h : ¬ Um.sysF s p = 0) :
    Calls Try.prog 23 #[.agg #[v0, v1], v, t] w fun e w' => e = .returned (errV (Um.sysF s p)) ∧ Below w.heap.size w w' := by
  have v0 := errV_none
  have q1 := errG
  have q2 := errGn
  have q3 := errE
  have q4 := errN
  obtain ⟨a0, cap0, rfl, -⟩ := (id hf)
  obtain ⟨a1, cap1, rfl, -⟩ := (id hp)
  obtain ⟨a2, cap2, rfl, -⟩ := (id hx)
  obtain ⟨a3, cap3, rfl, HOR⟩ := (id hq)
  have hBW : Below w.heap.size w (w.alloc (.cells #[.slice a0 s.length cap0, .slice a1 p.length cap1] 25)) := by go_grown
  have hy := SyAt.new w (.slice a0 s.length cap0) (.slice a1 p.length cap1) 25 rfl
  have y0 := hy.c0
  have y1 := hy.c1
  have hF := Fr.start (w.alloc (.cells #[.slice a0 s.length cap0, .slice a1 p.length cap1] 25))
  replace hf := hf.step hBW
  replace hp := hp.step hBW
  have HS := fun w hf hp => hid (scheck_any s (.slice a0 s.length cap0) p (.slice a1 p.length cap1) w hf hp)
  have kS : (Um.sysF s p != 0) = true := by simpa using h
  clear h HOR hx hq
  generalize Um.sysF s p = G at *
  go_enter Try.func23, Try.ntmps23
  go_wp2_with (go_at_call 31; refine (HS _ hf hp).out.mono ?_; rintro e wn ⟨rfl, hb⟩; replace hF := hF.step hb; replace hy := hy.step hb; have y0 := hy.c0; clear hb hf HS)
  go_returns
  exact ⟨rfl, hBW.trans (hF.below.mono hBW.size)⟩

set_option maxRecDepth 100000 in
set_option maxHeartbeats 8000000 in
theorem sat_shape (s : List (List Um.Tm)) (v0 : Value) (p : List (Int × Int)) (v1 : Value) (x : List Int) (v : Value) (q : List Int) (t : Value) (w : World) (hf : Lf w.heap.size w v0 s) (hp : Ls w.heap.size w v1 p) (hx : Li w.heap.size w v x) (hq : Li w.heap.size w t q) (h : Um.sysF s p = 0) (h2 : ¬ (x.length = s.length ∧ q.length = s.length)) :
    Calls Try.prog 23 #[.agg #[v0, v1], v, t] w fun e w' => e = .returned (errV (3)) ∧ Below w.heap.size w w' := by
  have v0 := errV_none
  have q1 := errG
  have q2 := errGn
  have q3 := errE
  have q4 := errN
  obtain ⟨a0, cap0, rfl, -⟩ := (id hf)
  obtain ⟨a1, cap1, rfl, -⟩ := (id hp)
  obtain ⟨a2, cap2, rfl, -⟩ := (id hx)
  obtain ⟨a3, cap3, rfl, HOR⟩ := (id hq)
  have hBW : Below w.heap.size w (w.alloc (.cells #[.slice a0 s.length cap0, .slice a1 p.length cap1] 25)) := by go_grown
  have hy := SyAt.new w (.slice a0 s.length cap0) (.slice a1 p.length cap1) 25 rfl
  have y0 := hy.c0
  have y1 := hy.c1
  have hF := Fr.start (w.alloc (.cells #[.slice a0 s.length cap0, .slice a1 p.length cap1] 25))
  replace hf := hf.step hBW
  replace hp := hp.step hBW
  have HS := fun w hf hp => hid (scheck_any s (.slice a0 s.length cap0) p (.slice a1 p.length cap1) w hf hp)
  have kS : (Um.sysF s p != 0) = false := by simpa using h
  clear h HOR hx hq
  generalize Um.sysF s p = G at *
  go_enter Try.func23, Try.ntmps23
  by_cases c : x.length = s.length
  · have k1 : ((x.length : Int) != (s.length : Int)) = false := by simp [c]
    have k2 : ((q.length : Int) != (s.length : Int)) = true := by simp; omega
    clear h2 c
    go_wp2_with (go_at_call 31; refine (HS _ hf hp).out.mono ?_; rintro e wn ⟨rfl, hb⟩; replace hF := hF.step hb; replace hy := hy.step hb; have y0 := hy.c0; clear hb hf HS)
    go_returns
    exact ⟨rfl, hBW.trans (hF.below.mono hBW.size)⟩
  · have k1 : ((x.length : Int) != (s.length : Int)) = true := by simp; omega
    clear h2 c
    go_wp2_with (go_at_call 31; refine (HS _ hf hp).out.mono ?_; rintro e wn ⟨rfl, hb⟩; replace hF := hF.step hb; replace hy := hy.step hb; have y0 := hy.c0; clear hb hf HS)
    go_returns
    exact ⟨rfl, hBW.trans (hF.below.mono hBW.size)⟩

/-- Is the push in its span? -/
def inB (d : Int × Int) (n : Int) : Bool := decide (d.1 ≤ n) && decide (n ≤ d.2)
theorem inB_iff {d : Int × Int} {n : Int} : inB d n = true ↔ d.1 ≤ n ∧ n ≤ d.2 := by unfold inB; simp
/-- Is each push in its span; the fault. -/
def pushF (p : List (Int × Int)) (q : List Int) : Int := if Um.pushP p q then 0 else 1

set_option maxRecDepth 100000 in
set_option maxHeartbeats 8000000 in
theorem sat_right (s : List (List Um.Tm)) (v0 : Value) (p : List (Int × Int)) (v1 : Value) (x : List Int) (v : Value) (q : List Int) (t : Value) (w : World) (hf : Lf w.heap.size w v0 s) (hp : Ls w.heap.size w v1 p) (hx : Li w.heap.size w v x) (hq : Li w.heap.size w t q) (h : Um.sysF s p = 0) (h2 : x.length = s.length ∧ q.length = s.length) :
    Calls Try.prog 23 #[.agg #[v0, v1], v, t] w fun e w' => e = .returned (errV (pushF p q)) ∧ Below w.heap.size w w' := by
  have v0 := errV_none
  have q1 := errG
  have q2 := errGn
  have q3 := errE
  have q4 := errN
  obtain ⟨a0, cap0, rfl, -⟩ := (id hf)
  obtain ⟨a1, cap1, rfl, -⟩ := (id hp)
  obtain ⟨a2, cap2, rfl, -⟩ := (id hx)
  obtain ⟨a3, cap3, rfl, HOR⟩ := (id hq)
  have hBW : Below w.heap.size w (w.alloc (.cells #[.slice a0 s.length cap0, .slice a1 p.length cap1] 25)) := by go_grown
  have hy := SyAt.new w (.slice a0 s.length cap0) (.slice a1 p.length cap1) 25 rfl
  have y0 := hy.c0
  have y1 := hy.c1
  have hF := Fr.start (w.alloc (.cells #[.slice a0 s.length cap0, .slice a1 p.length cap1] 25))
  replace hf := hf.step hBW
  replace hp := hp.step hBW
  have HS := fun w hf hp => hid (scheck_any s (.slice a0 s.length cap0) p (.slice a1 p.length cap1) w hf hp)
  have kS : (Um.sysF s p != 0) = false := by simpa using h
  have k1 : ((x.length : Int) != (s.length : Int)) = false := by simp [h2.1]
  have k2 : ((q.length : Int) != (s.length : Int)) = false := by simp [h2.2]
  obtain ⟨h0, h3, hpl, -, -⟩ := Um.sys_ok.1 h
  have hql : q.length = p.length := by omega
  have hq3 : q.length ≤ 3 := by omega
  have HQL := hid hql
  have HO := hid HOR
  clear h h2 hql h0 h3 hpl HOR hx
  generalize Um.sysF s p = G at *
  go_enter Try.func23, Try.ntmps23
  go_wp2_with (go_at_call 31; refine (HS _ hf hp).out.mono ?_; rintro e wn ⟨rfl, hb⟩; replace hF := hF.step hb; replace hy := hy.step hb; have y0 := hy.c0; clear hb hf HS)
  have HP := hid (hF.ls hp)
  have HY := hid hy
  have HBN := hid (hBW.trans (hF.below.mono hBW.size))
  have HQ := hid ((hq.keep HBN.out).wide HBN.out.size)
  clear hF hp hBW y0 y1 kS k1 k2 hy hq
  have hF := Fr.start wn
  go_loopw [32] (fun i wr => ∃ k : Nat, k ≤ q.length ∧ i = .int .i64 k ∧ Fr wn wr [] ∧ Hid (∀ j, j < k → inB (Um.sd p j) (Um.nm q j) = true)) (fun i _ => q.length - (intOf i).toNat)
  case atStart => exact ⟨0, Nat.zero_le _, rfl, hF, fun j hj => absurd hj (Nat.not_lt_zero _)⟩
  case round =>
    clear hF
    obtain ⟨k, hk, rfl, hF, hall⟩ := hrel
    by_cases hkl : k < q.length
    · have hkk : (k : Int) < (q.length : Int) := by omega
      have hkp : (k : Int) < (p.length : Int) := by have := HQL.out; omega
      have y1 := (HY.out.step hF.below).c1
      obtain ⟨b2, off2, cap4, e2, -, hA⟩ := HP.out.open (by rintro rfl; have := HQL.out; simp at this; rw [this] at hkl; simp at hkl)
      cases e2
      have z0 := (hA.step hF.below).lo k (Um.sd_some (show k < p.length by have := HQL.out; omega)) rfl
      have z1 := (hA.step hF.below).hi k (Um.sd_some (show k < p.length by have := HQL.out; omega)) rfl
      obtain ⟨b3, off3, cap5, e3, hlt3, hC⟩ := HQ.out.out (by rintro rfl; simp at hkl)
      cases e3
      have z2 : wr.cell? ⟨b3, off3 + k, none⟩ = some (.int .i64 (Um.nm q k)) := (hF.below.cell (p := ⟨b3, off3 + k, none⟩) hlt3).trans (hC k hkl)
      have HX : Hid (inB (Um.sd p k) (Um.nm q k) = false → ¬ Um.pushP p q) := by
        intro h g
        rw [inB_iff.2 (g k hkl)] at h; cases h
      have HN : Hid (inB (Um.sd p k) (Um.nm q k) = true → ∀ j, j < k + 1 → inB (Um.sd p j) (Um.nm q j) = true) := by
        intro h j hj
        rcases (by omega : j < k ∨ j = k) with h2 | rfl
        · exact hall.out j h2
        · exact h
      clear hall hA hC HO HQ HP HY
      generalize Um.sd p k = d at *
      generalize Um.nm q k = n at *
      obtain ⟨D0, D1⟩ := d
      simp only at z0 z1
      have HH := fun w => hid (show Calls Try.prog 22 #[.agg #[.int .i64 D0, .int .i64 D1], .int .i64 n] w fun e w' => e = .returned (.bool (inB (D0, D1) n)) ∧ w' = w.alloc (.cells #[.int .i64 D0, .int .i64 D1] 32) from has_any D0 D1 n w)
      cases hc : inB (D0, D1) n
      · rw [hc] at HH
        have HM : Hid (pushF p q = 1) := by unfold pushF; rw [if_neg (HX.out hc)]; exact hid rfl
        clear HX HN hc
        go_wp2_with (go_at_call 22; refine (HH _).out.mono ?_; rintro e wn ⟨rfl, rfl⟩; replace hF := hF.alloc (.cells #[.int .i64 D0, .int .i64 D1] 32))
        go_returns
        rw [HM.out]
        exact ⟨rfl, HBN.out.trans (hF.below.mono HBN.out.size)⟩
      · rw [hc] at HH
        have HM := hid (HN.out hc)
        clear HX HN hc
        go_wp2_with (go_at_call 22; refine (HH _).out.mono ?_; rintro e wn ⟨rfl, rfl⟩; replace hF := hF.alloc (.cells #[.int .i64 D0, .int .i64 D1] 32))
        exact ⟨⟨k + 1, by omega, by simp, hF, HM.out⟩, by simp [intOf]; omega⟩
    · obtain rfl : k = q.length := by omega
      have HM : Hid (pushF p q = 0) := by
        unfold pushF
        rw [if_pos (fun i hi => inB_iff.1 (hall.out i hi))]
        exact hid rfl
      clear hall HO HQ HP HY
      go_wp2
      go_returns
      rw [HM.out, errV_none]
      exact ⟨rfl, HBN.out.trans (hF.below.mono HBN.out.size)⟩

/-- What is wrong ahead of the numbers themselves. -/
def movC (s : List (List Um.Tm)) (p : List (Int × Int)) (x q : List Int) : Int := if Um.sysF s p = 0 then (if x.length = s.length ∧ q.length = s.length then pushF p q else 3) else Um.sysF s p
theorem sat_any (s : List (List Um.Tm)) (v0 : Value) (p : List (Int × Int)) (v1 : Value) (x : List Int) (v : Value) (q : List Int) (t : Value) (w : World) (hf : Lf w.heap.size w v0 s) (hp : Ls w.heap.size w v1 p) (hx : Li w.heap.size w v x) (hq : Li w.heap.size w t q) :
    Calls Try.prog 23 #[.agg #[v0, v1], v, t] w fun e w' => e = .returned (errV (movC s p x q)) ∧ Below w.heap.size w w' := by
  unfold movC
  by_cases h : Um.sysF s p = 0
  · rw [if_pos h]
    by_cases h2 : x.length = s.length ∧ q.length = s.length
    · rw [if_pos h2]; exact sat_right s v0 p v1 x v q t w hf hp hx hq h h2
    · rw [if_neg h2]; exact sat_shape s v0 p v1 x v q t w hf hp hx hq h h2
  · rw [if_neg h]; exact sat_sys s v0 p v1 x v q t w hf hp hx hq h
end Go.Proofs.Ytmkdjaafkigemaa
