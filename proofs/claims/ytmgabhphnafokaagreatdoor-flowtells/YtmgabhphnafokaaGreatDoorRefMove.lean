/-
  What the document's answer (package spanref2) to a point's move is: Move at every argument.
-/
import Derived.Test.YtmgabhphnafokaaGreatDoorRefStep
import Derived.Test.YtmgabhphnafokaaGreatDoorRefAt
import Derived.Test.YtmgabhphnafokaaGreatDoorInts
import Derived.Test.YtmgabhphnafokaaGreatDoorMaths3
namespace Go.Proofs.YtmgabhphnafokaaGreatDoor
set_option linter.unusedSimpArgs false
open Go.RowKit

theorem pt_may {f : List Um.Tm} {x : List Int} (h : (Um.ptR f x).2 = 0) : Um.may (Um.ptR f x).1 = true := by
  unfold Um.ptR at h ⊢
  split at h
  · rename_i c
    rw [if_pos c]
    split at h
    · rename_i m; rw [if_pos m]; exact m
    · cases h
  · cases h
theorem sys_len {s : List (List Um.Tm)} {p : List (Int × Int)} (h : Um.sysF s p = 0) : 0 < s.length ∧ s.length ≤ 3 ∧ p.length = s.length := ⟨List.length_pos_iff.2 (Um.sys_ok.1 h).1, (Um.sys_ok.1 h).2.1, (Um.sys_ok.1 h).2.2.1⟩

set_option maxRecDepth 100000 in
set_option maxHeartbeats 16000000 in
theorem rMove_sys (s : List (List Um.Tm)) (v0 : Value) (p : List (Int × Int)) (v1 : Value) (x : List Int) (v : Value) (q : List Int) (t : Value) (w : World) (hf : Lf w.heap.size w v0 s) (hp : Ls w.heap.size w v1 p) (hx : Li w.heap.size w v x) (hq : Li w.heap.size w t q) (h : ¬ Um.sysF s p = 0) :
    Calls Tryz.prog 12 #[.agg #[v0, v1], v, t] w fun e w' => ∃ r, e = .returned (.tuple #[r, .int .i64 (Um.movAll s p x q).2]) ∧ Li w'.heap.size w' r (Um.movAll s p x q).1 ∧ Below w.heap.size w w' ∧ ∀ g, r.ownBlock = some g → w.heap.size ≤ g := by
  obtain ⟨a0, cap0, rfl, -⟩ := (id hf)
  obtain ⟨a1, cap1, rfl, -⟩ := (id hp)
  obtain ⟨a2, cap2, rfl, -⟩ := (id hx)
  obtain ⟨a3, cap3, rfl, -⟩ := (id hq)
  have h1 : w.heap.size < (w.alloc (.cells #[.slice a0 s.length cap0, .slice a1 p.length cap1] 25)).heap.size := by simp
  have hBW : Below w.heap.size w (w.alloc (.cells #[.slice a0 s.length cap0, .slice a1 p.length cap1] 25)) := by go_grown
  obtain ⟨c0, c1⟩ := sys_cells w (.slice a0 s.length cap0) (.slice a1 p.length cap1) 25
  have hF := Fr.start (w.alloc (.cells #[.slice a0 s.length cap0, .slice a1 p.length cap1] 25))
  have hf2 := hf.step hBW
  have hp2 := hp.step hBW
  have hx2 := (hx.keep hBW).wide hBW.size
  have hq2 := (hq.keep hBW).wide hBW.size
  have HSY := fun w h1 h2 => hid (rSystem_any s (.slice a0 s.length cap0) p (.slice a1 p.length cap1) w h1 h2)
  have y0 := c0
  have y1 := c1
  have L : Hid (Um.movAll s p x q = ([], Um.sysF s p)) := by rw [Um.movAll_not (by rw [Um.mov_sys h]; exact h), Um.mov_sys h]; exact hid rfl
  have k : (Um.sysF s p == 0) = false := by simpa using h
  clear h
  generalize Um.sysF s p = G at *
  clear hf hp hx hq
  go_enter Tryz.func12, Tryz.ntmps12
  go_wp2_with (go_at_call 11; refine (HSY _ (hF.lf hf2) (hF.ls hp2)).out.mono ?_; rintro e wn ⟨rfl, hb⟩; replace hF := hF.step hb; clear hb; clear HSY y0 y1; have y0 := (hF.below.cell (p := ⟨w.heap.size, 0, none⟩) h1).trans c0; have y1 := (hF.below.cell (p := ⟨w.heap.size, 1, none⟩) h1).trans c1)
  refine wp_loop_rounds 1 ?_
  rw [rounds_succ]
  go_wp2
  all_goals
    refine wp_loop_rounds 1 ?_
    rw [rounds_succ]
    go_wp2
  all_goals
    go_returns
    rw [L.out]
    exact ⟨_, rfl, Li.nil _ _, hBW.trans (hF.below.mono hBW.size), fun g e => by cases e⟩

set_option maxRecDepth 100000 in
set_option maxHeartbeats 16000000 in
theorem rMove_x (s : List (List Um.Tm)) (v0 : Value) (p : List (Int × Int)) (v1 : Value) (x : List Int) (v : Value) (q : List Int) (t : Value) (w : World) (hf : Lf w.heap.size w v0 s) (hp : Ls w.heap.size w v1 p) (hx : Li w.heap.size w v x) (hq : Li w.heap.size w t q) (h : Um.sysF s p = 0) (h2 : ¬ x.length = s.length) :
    Calls Tryz.prog 12 #[.agg #[v0, v1], v, t] w fun e w' => ∃ r, e = .returned (.tuple #[r, .int .i64 (Um.movAll s p x q).2]) ∧ Li w'.heap.size w' r (Um.movAll s p x q).1 ∧ Below w.heap.size w w' ∧ ∀ g, r.ownBlock = some g → w.heap.size ≤ g := by
  obtain ⟨a0, cap0, rfl, -⟩ := (id hf)
  obtain ⟨a1, cap1, rfl, -⟩ := (id hp)
  obtain ⟨a2, cap2, rfl, -⟩ := (id hx)
  obtain ⟨a3, cap3, rfl, -⟩ := (id hq)
  have h1 : w.heap.size < (w.alloc (.cells #[.slice a0 s.length cap0, .slice a1 p.length cap1] 25)).heap.size := by simp
  have hBW : Below w.heap.size w (w.alloc (.cells #[.slice a0 s.length cap0, .slice a1 p.length cap1] 25)) := by go_grown
  obtain ⟨c0, c1⟩ := sys_cells w (.slice a0 s.length cap0) (.slice a1 p.length cap1) 25
  have hF := Fr.start (w.alloc (.cells #[.slice a0 s.length cap0, .slice a1 p.length cap1] 25))
  have hf2 := hf.step hBW
  have hp2 := hp.step hBW
  have hx2 := (hx.keep hBW).wide hBW.size
  have hq2 := (hq.keep hBW).wide hBW.size
  have HSY := fun w h1 h2 => hid (rSystem_any s (.slice a0 s.length cap0) p (.slice a1 p.length cap1) w h1 h2)
  have y0 := c0
  have y1 := c1
  have e0 := Um.mov_shape (x := x) (q := q) h (by omega)
  have L : Hid (Um.movAll s p x q = ([], 3)) := by rw [Um.movAll_not (by rw [e0]; decide), e0]; exact hid rfl
  rw [h] at HSY
  have k1 : ((x.length : Int) != (s.length : Int)) = true := by simp; omega
  clear h e0 h2
  clear hf hp hx hq
  go_enter Tryz.func12, Tryz.ntmps12
  go_wp2_with (go_at_call 11; refine (HSY _ (hF.lf hf2) (hF.ls hp2)).out.mono ?_; rintro e wn ⟨rfl, hb⟩; replace hF := hF.step hb; clear hb; clear HSY y0 y1; have y0 := (hF.below.cell (p := ⟨w.heap.size, 0, none⟩) h1).trans c0; have y1 := (hF.below.cell (p := ⟨w.heap.size, 1, none⟩) h1).trans c1)
  refine wp_loop_rounds 1 ?_
  rw [rounds_succ]
  go_wp2
  all_goals
    refine wp_loop_rounds 1 ?_
    rw [rounds_succ]
    go_wp2
  all_goals
    go_returns
    rw [L.out]
    exact ⟨_, rfl, Li.nil _ _, hBW.trans (hF.below.mono hBW.size), fun g e => by cases e⟩

set_option maxRecDepth 100000 in
set_option maxHeartbeats 16000000 in
theorem rMove_q (s : List (List Um.Tm)) (v0 : Value) (p : List (Int × Int)) (v1 : Value) (x : List Int) (v : Value) (q : List Int) (t : Value) (w : World) (hf : Lf w.heap.size w v0 s) (hp : Ls w.heap.size w v1 p) (hx : Li w.heap.size w v x) (hq : Li w.heap.size w t q) (h : Um.sysF s p = 0) (h2 : x.length = s.length) (h3 : ¬ q.length = s.length) :
    Calls Tryz.prog 12 #[.agg #[v0, v1], v, t] w fun e w' => ∃ r, e = .returned (.tuple #[r, .int .i64 (Um.movAll s p x q).2]) ∧ Li w'.heap.size w' r (Um.movAll s p x q).1 ∧ Below w.heap.size w w' ∧ ∀ g, r.ownBlock = some g → w.heap.size ≤ g := by
  obtain ⟨a0, cap0, rfl, -⟩ := (id hf)
  obtain ⟨a1, cap1, rfl, -⟩ := (id hp)
  obtain ⟨a2, cap2, rfl, -⟩ := (id hx)
  obtain ⟨a3, cap3, rfl, -⟩ := (id hq)
  have h1 : w.heap.size < (w.alloc (.cells #[.slice a0 s.length cap0, .slice a1 p.length cap1] 25)).heap.size := by simp
  have hBW : Below w.heap.size w (w.alloc (.cells #[.slice a0 s.length cap0, .slice a1 p.length cap1] 25)) := by go_grown
  obtain ⟨c0, c1⟩ := sys_cells w (.slice a0 s.length cap0) (.slice a1 p.length cap1) 25
  have hF := Fr.start (w.alloc (.cells #[.slice a0 s.length cap0, .slice a1 p.length cap1] 25))
  have hf2 := hf.step hBW
  have hp2 := hp.step hBW
  have hx2 := (hx.keep hBW).wide hBW.size
  have hq2 := (hq.keep hBW).wide hBW.size
  have HSY := fun w h1 h2 => hid (rSystem_any s (.slice a0 s.length cap0) p (.slice a1 p.length cap1) w h1 h2)
  have y0 := c0
  have y1 := c1
  have e0 := Um.mov_shape (x := x) (q := q) h (by omega)
  have L : Hid (Um.movAll s p x q = ([], 3)) := by rw [Um.movAll_not (by rw [e0]; decide), e0]; exact hid rfl
  rw [h] at HSY
  have k1 : ((x.length : Int) != (s.length : Int)) = false := by simp [h2]
  have k2 : ((q.length : Int) != (s.length : Int)) = true := by simp; omega
  clear h e0 h2 h3
  clear hf hp hx hq
  go_enter Tryz.func12, Tryz.ntmps12
  go_wp2_with (go_at_call 11; refine (HSY _ (hF.lf hf2) (hF.ls hp2)).out.mono ?_; rintro e wn ⟨rfl, hb⟩; replace hF := hF.step hb; clear hb; clear HSY y0 y1; have y0 := (hF.below.cell (p := ⟨w.heap.size, 0, none⟩) h1).trans c0; have y1 := (hF.below.cell (p := ⟨w.heap.size, 1, none⟩) h1).trans c1)
  refine wp_loop_rounds 1 ?_
  rw [rounds_succ]
  go_wp2
  all_goals
    refine wp_loop_rounds 1 ?_
    rw [rounds_succ]
    go_wp2
  all_goals
    go_returns
    rw [L.out]
    exact ⟨_, rfl, Li.nil _ _, hBW.trans (hF.below.mono hBW.size), fun g e => by cases e⟩

set_option maxRecDepth 100000 in
set_option maxHeartbeats 16000000 in
theorem rMove_right (s : List (List Um.Tm)) (v0 : Value) (p : List (Int × Int)) (v1 : Value) (x : List Int) (v : Value) (q : List Int) (t : Value) (w : World) (hf : Lf w.heap.size w v0 s) (hp : Ls w.heap.size w v1 p) (hx : Li w.heap.size w v x) (hq : Li w.heap.size w t q) (h : Um.sysF s p = 0) (h2 : x.length = s.length) (h3 : q.length = s.length) :
    Calls Tryz.prog 12 #[.agg #[v0, v1], v, t] w fun e w' => ∃ r, e = .returned (.tuple #[r, .int .i64 (Um.movAll s p x q).2]) ∧ Li w'.heap.size w' r (Um.movAll s p x q).1 ∧ Below w.heap.size w w' ∧ ∀ g, r.ownBlock = some g → w.heap.size ≤ g := by
  obtain ⟨hs0, hs3, hpl⟩ := sys_len h
  obtain ⟨b1, off1, cap0, rfl, -, hlt1, hall1⟩ := hf.open (Um.sys_ok.1 h).1
  obtain ⟨b2, off2, cap1, rfl, -, hA⟩ := hp.open (by intro e; rw [e] at hpl; simp at hpl; omega)
  obtain ⟨b4, off4, cap3, rfl, hlt4, hc4⟩ := hq.out (by intro e; rw [e] at h3; simp at h3; omega)
  obtain ⟨a2, cap2, rfl, -⟩ := (id hx)
  have h1 : w.heap.size < (w.alloc (.cells #[.slice (some ⟨b1, off1, none⟩) s.length cap0, .slice (some ⟨b2, off2, none⟩) p.length cap1] 25)).heap.size := by simp
  have hBW : Below w.heap.size w (w.alloc (.cells #[.slice (some ⟨b1, off1, none⟩) s.length cap0, .slice (some ⟨b2, off2, none⟩) p.length cap1] 25)) := by go_grown
  obtain ⟨c0, c1⟩ := sys_cells w (.slice (some ⟨b1, off1, none⟩) s.length cap0) (.slice (some ⟨b2, off2, none⟩) p.length cap1) 25
  have hF := Fr.start (w.alloc (.cells #[.slice (some ⟨b1, off1, none⟩) s.length cap0, .slice (some ⟨b2, off2, none⟩) p.length cap1] 25))
  have hf2 := hf.step hBW
  have hp2 := hp.step hBW
  have hx2 := (hx.keep hBW).wide hBW.size
  have hA2 := hA.step hBW
  have hl1 : b1 < (w.alloc (.cells #[.slice (some ⟨b1, off1, none⟩) s.length cap0, .slice (some ⟨b2, off2, none⟩) p.length cap1] 25)).heap.size := Nat.lt_of_lt_of_le hlt1 hBW.size
  have hl4 : b4 < (w.alloc (.cells #[.slice (some ⟨b1, off1, none⟩) s.length cap0, .slice (some ⟨b2, off2, none⟩) p.length cap1] 25)).heap.size := Nat.lt_of_lt_of_le hlt4 hBW.size
  have HU : Hid (∀ j, j < s.length → ∃ u, (w.alloc (.cells #[.slice (some ⟨b1, off1, none⟩) s.length cap0, .slice (some ⟨b2, off2, none⟩) p.length cap1] 25)).cell? ⟨b1, off1 + j, none⟩ = some u ∧ Lt (w.alloc (.cells #[.slice (some ⟨b1, off1, none⟩) s.length cap0, .slice (some ⟨b2, off2, none⟩) p.length cap1] 25)).heap.size (w.alloc (.cells #[.slice (some ⟨b1, off1, none⟩) s.length cap0, .slice (some ⟨b2, off2, none⟩) p.length cap1] 25)) u (Um.nx s j)) := by
    intro j hj
    obtain ⟨u, hu, hl⟩ := hall1 j hj
    exact ⟨u, (hBW.cell (p := ⟨b1, off1 + j, none⟩) hlt1).trans hu, (hl.keep hBW).wide hBW.size⟩
  have HQ4 : Hid (∀ j, j < q.length → (w.alloc (.cells #[.slice (some ⟨b1, off1, none⟩) s.length cap0, .slice (some ⟨b2, off2, none⟩) p.length cap1] 25)).cell? ⟨b4, off4 + j, none⟩ = some (.int .i64 (Um.nm q j))) := fun j hj => (hBW.cell (p := ⟨b4, off4 + j, none⟩) hlt4).trans (hc4 j hj)
  have HSY := fun w h1 h2 => hid (rSystem_any s (.slice (some ⟨b1, off1, none⟩) s.length cap0) p (.slice (some ⟨b2, off2, none⟩) p.length cap1) w h1 h2)
  rw [h] at HSY
  have HNU := fun w h h3 => hid (rNumbers_any x (.slice a2 x.length cap2) w h h3)
  have HME := hid (fun h3' => Um.mov_push (x := x) h ⟨h2, h3⟩ h3')
  have HMN := hid (fun h3' => Um.mov_nums (x := x) h ⟨h2, h3⟩ h3')
  have HPC := hid (fun k (hk : k < s.length) => Um.chk_ok.1 (Um.sys_push h hk))
  have HFO := hid (fun k (hk : k < s.length) (hn : Um.numsF x = 0) => Um.at_ok.2 ⟨(show Um.formF (Um.nx s k) x.length = 0 by rw [h2]; exact (Um.sys_ok.1 h).2.2.2.1 _ (Um.nx_mem hk)), hn⟩)
  have HL2 := hid h2
  have HL3 := hid h3
  have HPL := hid hpl
  have k1 : ((x.length : Int) != (s.length : Int)) = false := by simp [h2]
  have k2 : ((q.length : Int) != (s.length : Int)) = false := by simp [h3]
  have hx3 : x.length ≤ 3 := by omega
  have hq3 : q.length ≤ 3 := by omega
  obtain ⟨i0, hi0, hz0, hz1, hz2⟩ := info_parts info_int
  clear hf hp hx hq h h2 h3 hall1 hA hc4 hpl
  have y0 := c0
  have y1 := c1
  go_enter Tryz.func12, Tryz.ntmps12
  go_wp2_with (go_at_call 11; refine (HSY _ (hF.lf hf2) (hF.ls hp2)).out.mono ?_; rintro e wn ⟨rfl, hb⟩; replace hF := hF.step hb; clear hb; clear HSY y0 y1; have y0 := (hF.below.cell (p := ⟨w.heap.size, 0, none⟩) h1).trans c0; have y1 := (hF.below.cell (p := ⟨w.heap.size, 1, none⟩) h1).trans c1)
  clear y0 y1
  go_loopw [8, 9] (fun e i wr => ∃ k : Nat, k ≤ q.length ∧ i = .int .i64 k ∧ Fr (w.alloc (.cells #[.slice (some ⟨b1, off1, none⟩) s.length cap0, .slice (some ⟨b2, off2, none⟩) p.length cap1] 25)) wr [] ∧ ((e = .int .i64 0 ∧ Hid (∀ j, j < k → (Um.sd p j).1 ≤ Um.nm q j ∧ Um.nm q j ≤ (Um.sd p j).2)) ∨ (e = .int .i64 1 ∧ Hid (¬ Um.pushP p q)))) (fun _ i _ => q.length - (intOf i).toNat)
  case atStart => exact ⟨0, Nat.zero_le _, rfl, hF, .inl ⟨rfl, fun j hj => absurd hj (Nat.not_lt_zero _)⟩⟩
  case round =>
    clear hF
    obtain ⟨k, hk, rfl, hF, ho⟩ := hrel
    have y0 := (hF.below.cell (p := ⟨w.heap.size, 0, none⟩) h1).trans c0
    have y1 := (hF.below.cell (p := ⟨w.heap.size, 1, none⟩) h1).trans c1
    rcases ho with ⟨rfl, hall⟩ | ⟨rfl, hno⟩
    · by_cases hkl : k < q.length
      · have hkk : decide ((k : Int) < (q.length : Int)) = true := decide_eq_true (by omega)
        have hkp : (k : Int) < (p.length : Int) := by have := HPL.out; have := HL3.out; omega
        have z0 := (hA2.step hF.below).lo k (Um.sd_some (show k < p.length by omega)) rfl
        have z1 := (hA2.step hF.below).hi k (Um.sd_some (show k < p.length by omega)) rfl
        have z2 := (hF.below.cell (p := ⟨b4, off4 + k, none⟩) hl4).trans (HQ4.out k hkl)
        have HY : Hid (((Um.sd p k).1 ≤ Um.nm q k ∧ Um.nm q k ≤ (Um.sd p k).2) → ∀ j, j < k + 1 → (Um.sd p j).1 ≤ Um.nm q j ∧ Um.nm q j ≤ (Um.sd p j).2) := by
          intro h j hj
          rcases (by omega : j < k ∨ j = k) with g | rfl
          · exact hall.out j g
          · exact h
        have HX : Hid (¬ ((Um.sd p k).1 ≤ Um.nm q k ∧ Um.nm q k ≤ (Um.sd p k).2) → ¬ Um.pushP p q) := fun h g => h (g k hkl)
        have hkq : (k : Int) < (q.length : Int) := by omega
        clear hall HU HQ4 HME HMN HPC HFO HNU hA2
        generalize Um.sd p k = d at *
        generalize Um.nm q k = N at *
        obtain ⟨D0, D1⟩ := d
        simp only at z0 z1
        by_cases g1 : N < D0
        · have d1 : decide (N < D0) = true := decide_eq_true g1
          have HM := hid (HX.out (by simp only; omega))
          clear HX HY g1
          go_wp2
          go_quiet (fail)
          go_wp2
          exact ⟨⟨k + 1, by omega, by simp, hF.drewN _, .inr ⟨rfl, HM.out⟩⟩, by simp [intOf]; omega⟩
        · have d1 : decide (N < D0) = false := decide_eq_false g1
          by_cases g2 : D1 < N
          · have d2 : decide (D1 < N) = true := decide_eq_true g2
            have HM := hid (HX.out (by simp only; omega))
            clear HX HY g1 g2
            go_wp2
            go_quiet (fail)
            go_wp2
            exact ⟨⟨k + 1, by omega, by simp, hF.drewN _, .inr ⟨rfl, HM.out⟩⟩, by simp [intOf]; omega⟩
          · have d2 : decide (D1 < N) = false := decide_eq_false g2
            have HM := hid (HY.out (by simp only; omega))
            clear HX HY g1 g2
            go_wp2
            go_quiet (fail)
            go_wp2
            exact ⟨⟨k + 1, by omega, by simp, hF.drewN _, .inl ⟨rfl, HM.out⟩⟩, by simp [intOf]; omega⟩
      · obtain rfl : k = q.length := by omega
        have hkk : decide ((q.length : Int) < (q.length : Int)) = false := decide_eq_false (by omega)
        have eN := HMN.out hall.out
        by_cases hn : Um.numsF x = 0
        · have HMA : Hid (Um.movAll s p x q = Um.movN s x q s.length) := Um.movAll_yes (by rw [eN]; exact hn)
          have HPB := hid (fun k (hk : k < s.length) => hall.out k (by have := HL3.out; omega))
          have HNM := fun w h => HNU w h hx3
          have HF2 := hid (fun k hk => HFO.out k hk hn)
          rw [hn] at HNM
          clear HMN HME hall eN hn HNU HFO hA2
          go_wp2_with (go_at_call 26; refine (HNM _ (hF.li hx2)).out.mono ?_; rintro e wn ⟨rfl, hq⟩; subst wn)
          clear y0 y1 HNM
          have HF0 := hid hF
          clear hF
          go_loopw [8, 10, 11] (fun e u i wq => ∃ k : Nat, k ≤ s.length ∧ i = .int .i64 k ∧ e = .int .i64 0 ∧ wq.ownsRow (w.alloc (.cells #[.slice (some ⟨b1, off1, none⟩) s.length cap0, .slice (some ⟨b2, off2, none⟩) p.length cap1] 25)).heap.size 3 1 u k ((Um.movN s x q k).1.map (Value.int .i64)) ∧ Fr (w.alloc (.cells #[.slice (some ⟨b1, off1, none⟩) s.length cap0, .slice (some ⟨b2, off2, none⟩) p.length cap1] 25)) wq [] ∧ Hid ((Um.movN s x q k).2 = 0)) (fun _ _ i _ => s.length - (intOf i).toNat)
          case atStart => exact ⟨0, Nat.zero_le _, rfl, rfl, World.ownsRow_nil _ _ _ _, HF0.out, rfl⟩
          case round =>
            clear HF0
            obtain ⟨k, hk', rfl, rfl, hown, hF, hZ⟩ := hrel
            have y0 := (hF.below.cell (p := ⟨w.heap.size, 0, none⟩) h1).trans c0
            have y1 := (hF.below.cell (p := ⟨w.heap.size, 1, none⟩) h1).trans c1
            have hsz := hF.size
            by_cases hkl : k < s.length
            · have hkk' : decide ((k : Int) < (s.length : Int)) = true := decide_eq_true (by omega)
              have hks : (k : Int) < (s.length : Int) := by omega
              have hkq : (k : Int) < (q.length : Int) := by have := HL3.out; omega
              obtain ⟨u, hu0, hu1⟩ := HU.out k hkl
              have yu := (hF.below.cell (p := ⟨b1, off1 + k, none⟩) hl1).trans hu0
              have hu := hF.lt hu1
              have z2 := (hF.below.cell (p := ⟨b4, off4 + k, none⟩) hl4).trans (HQ4.out k (by have := HL3.out; omega))
              have HPO := fun w h1 h2 => hid (rPoint_any (Um.nx s k) u x (.slice a2 x.length cap2) w h1 h2 (HF2.out k hkl))
              have HG := hid (fun a b => Um.movN_more (s := s) (x := x) (q := q) hZ.out a b)
              have HB := hid (fun a => Um.movN_bad (s := s) (x := x) (q := q) hkl hZ.out a)
              have HFu := hid (fun a b => Um.movN_full (s := s) (x := x) (q := q) hkl hZ.out a b)
              have HPM := hid (fun a => pt_may (f := Um.nx s k) (x := x) a)
              obtain ⟨g1, g2⟩ := HPB.out k hkl
              obtain ⟨m1, m2, -⟩ := HPC.out k hkl
              rw [Um.may_iff] at m1 m2
              have n1 : -1000000000 ≤ Um.nm q k := by omega
              have n2 : Um.nm q k ≤ 1000000000 := by omega
              obtain ⟨a9, c9, rfl, -⟩ := (id hu)
              clear HU HQ4 HPC HF2 HPB g1 g2 m1 m2 hu0 hu1
              generalize Um.nm q k = N at *
              generalize Um.ptR (Um.nx s k) x = P at *
              by_cases hP : P.2 = 0
              · obtain ⟨r1, r2⟩ := (Um.may_iff _).1 (HPM.out hP)
                have kP : (P.2 != 0) = false := by simpa using hP
                have HM := fun w => hid (rMay_any (P.1 + N) w)
                have EP := hid hP
                cases hm : Um.may (P.1 + N)
                · have HL := hid (HFu.out hP (by rw [hm]; decide))
                  rw [hm] at HM
                  clear HG HB HFu HPM hP hm
                  go_wp2_with (first | (go_at_call 27; refine (HPO _ hu (hF.li hx2)).out.mono ?_; rintro e wn ⟨rfl, hq⟩; subst wn) | (go_at_call 28; refine (HM _).out.mono ?_; rintro e wn ⟨rfl, hq⟩; subst wn))
                  go_returns
                  rw [HMA.out, HL.out]
                  exact ⟨_, rfl, Li.nil _ _, hBW.trans (hF.below.mono hBW.size), fun g e => by cases e⟩
                · have HL := hid (HG.out hP hm)
                  rw [hm] at HM
                  clear HG HB HFu HPM hP hm
                  go_wp2_with (first | (go_at_call 27; refine (HPO _ hu (hF.li hx2)).out.mono ?_; rintro e wn ⟨rfl, hq⟩; subst wn) | (go_at_call 28; refine (HM _).out.mono ?_; rintro e wn ⟨rfl, hq⟩; subst wn) | (at_builtin; refine wpList_append_own _ rfl _ _ 26 rfl (w.alloc (.cells #[.slice (some ⟨b1, off1, none⟩) s.length cap0, .slice (some ⟨b2, off2, none⟩) p.length cap1] 25)).heap.size 3 i0 (.int .i64 0) 1 8 Tryz.underlying26 hi0 hz0 hz1 hz2 rfl (by decide) _ _ _ rfl (hown.alloc _) _ 1 1 [.int .i64 (P.1 + N)] rfl rfl (cell_one_new _ _ _) (by simp [Value.oneCell']) (by unfold maxLen; omega) (by omega) (by simp at hsz ⊢; omega) ?_; intro v' w1 hown' hgrow _))
                  have HN := hid hown'
                  have hb2 := (((Below.refl (w.alloc (.cells #[.slice (some ⟨b1, off1, none⟩) s.length cap0, .slice (some ⟨b2, off2, none⟩) p.length cap1] 25)).heap.size _).alloc hsz (.cells #[.int .i64 (P.1 + N)] 3))).grown hgrow (by simp at hsz ⊢; omega) (fun j e => own_from hown j e)
                  have hF3 : Fr (w.alloc (.cells #[.slice (some ⟨b1, off1, none⟩) s.length cap0, .slice (some ⟨b2, off2, none⟩) p.length cap1] 25)) w1 [] := ⟨hF.below.trans hb2, by simp, List.Pairwise.nil⟩
                  refine ⟨⟨k + 1, by omega, by simp, by rw [EP.out], ?_, hF3, by rw [HL.out]; exact rfl⟩, by simp [intOf]; omega⟩
                  rw [HL.out, List.map_append]
                  exact HN.out
              · have HL := hid (HB.out hP)
                have kP : (P.2 != 0) = true := by simpa using hP
                clear HG HB HFu HPM hP
                go_wp2_with (go_at_call 27; refine (HPO _ hu (hF.li hx2)).out.mono ?_; rintro e wn ⟨rfl, hq⟩; subst wn)
                go_returns
                rw [HMA.out, HL.out]
                exact ⟨_, rfl, Li.nil _ _, hBW.trans (hF.below.mono hBW.size), fun g e => by cases e⟩
            · obtain rfl : k = s.length := by omega
              have hkk' : decide ((s.length : Int) < (s.length : Int)) = false := decide_eq_false (by omega)
              have HLI := hid (li_owns (q := (Um.movN s x q s.length).1) (by rw [(Um.movN_ok hZ.out).1]; exact hown))
              have HE := hid hZ.out
              have HOW := hid (own_from hown)
              clear HU HQ4 HPC HF2 HPB hown hZ
              go_wp2
              go_returns
              rw [HMA.out]
              exact ⟨_, by rw [HE.out]; rfl, HLI.out, hBW.trans (hF.below.mono hBW.size), fun g e => Nat.le_trans hBW.size (HOW.out g e)⟩
        · have e1 : Um.numsF x = 1 := (Um.nums_fault x).resolve_left hn
          have L : Hid (Um.movAll s p x q = ([], 1)) := by rw [Um.movAll_not (by rw [eN]; exact hn), eN, e1]; exact hid rfl
          have HNM := fun w h => HNU w h hx3
          rw [e1] at HNM
          have hz9 : decide ((0 : Int) < (s.length : Int)) = true := decide_eq_true (by omega)
          clear HMN HME hall eN hn e1 HNU HFO HU HQ4 HPC hA2
          go_wp2_with (go_at_call 26; refine (HNM _ (hF.li hx2)).out.mono ?_; rintro e wn ⟨rfl, hq⟩; subst wn)
          refine wp_loop_rounds 1 ?_
          rw [rounds_succ]
          go_wp2
          go_returns
          rw [L.out]
          exact ⟨_, rfl, Li.nil _ _, hBW.trans (hF.below.mono hBW.size), fun g e => by cases e⟩
    · have eN := HME.out hno.out
      have L : Hid (Um.movAll s p x q = ([], 1)) := by rw [Um.movAll_not (by rw [eN]; decide), eN]; exact hid rfl
      have hz9 : decide ((0 : Int) < (s.length : Int)) = true := decide_eq_true (by omega)
      clear HMN HME hno eN HNU HFO HU HQ4 HPC hA2
      go_wp2
      all_goals
        refine wp_loop_rounds 1 ?_
        rw [rounds_succ]
        go_wp2
      all_goals
        go_returns
        rw [L.out]
        exact ⟨_, rfl, Li.nil _ _, hBW.trans (hF.below.mono hBW.size), fun g e => by cases e⟩

theorem rMove_new (s : List (List Um.Tm)) (v0 : Value) (p : List (Int × Int)) (v1 : Value) (x : List Int) (v : Value) (q : List Int) (t : Value) (w : World) (hf : Lf w.heap.size w v0 s) (hp : Ls w.heap.size w v1 p) (hx : Li w.heap.size w v x) (hq : Li w.heap.size w t q) :
    Calls Tryz.prog 12 #[.agg #[v0, v1], v, t] w fun e w' => ∃ r, e = .returned (.tuple #[r, .int .i64 (Um.movAll s p x q).2]) ∧ Li w'.heap.size w' r (Um.movAll s p x q).1 ∧ Below w.heap.size w w' ∧ ∀ g, r.ownBlock = some g → w.heap.size ≤ g := by
  by_cases h : Um.sysF s p = 0
  case neg => exact rMove_sys s v0 p v1 x v q t w hf hp hx hq h
  by_cases h2 : x.length = s.length
  · by_cases h3 : q.length = s.length
    · exact rMove_right s v0 p v1 x v q t w hf hp hx hq h h2 h3
    · exact rMove_q s v0 p v1 x v q t w hf hp hx hq h h2 h3
  · exact rMove_x s v0 p v1 x v q t w hf hp hx hq h h2
theorem rMove_any (s : List (List Um.Tm)) (v0 : Value) (p : List (Int × Int)) (v1 : Value) (x : List Int) (v : Value) (q : List Int) (t : Value) (w : World) (hf : Lf w.heap.size w v0 s) (hp : Ls w.heap.size w v1 p) (hx : Li w.heap.size w v x) (hq : Li w.heap.size w t q) :
    Calls Tryz.prog 12 #[.agg #[v0, v1], v, t] w fun e w' => ∃ r, e = .returned (.tuple #[r, .int .i64 (Um.movAll s p x q).2]) ∧ Li w'.heap.size w' r (Um.movAll s p x q).1 ∧ Below w.heap.size w w' := by
  refine (rMove_new s v0 p v1 x v q t w hf hp hx hq).mono ?_
  rintro e w' ⟨r, h1, h2, h3, -⟩
  exact ⟨r, h1, h2, h3⟩
end Go.Proofs.YtmgabhphnafokaaGreatDoor
