/-
  What package flow answers: Run, Path, Wide at every argument.
-/
import Derived.Test.YthgehlonjoafmaaGreatDoorFlowM
import Derived.Test.YthgehlonjoafmaaGreatDoorStep
import Derived.Test.YthgehlonjoafmaaGreatDoorMaths3
import Derived.Test.YthgehlonjoafmaaGreatDoorMems2
import Derived.Lib.MinMax
namespace Go.Proofs.YthgehlonjoafmaaGreatDoor
set_option linter.unusedSimpArgs false
open Go.RowKit

set_option maxRecDepth 100000 in
set_option maxHeartbeats 8000000 in
theorem runOne_any (s : List (List Um.Tm)) (v0 : Value) (p : List (Int × Int)) (v1 : Value) (b : List (Int × Int)) (v : Value) (i : Int) (B0 : Nat) (w : World) (hf : Lf w.heap.size w v0 s) (hp : Ls w.heap.size w v1 p) (hs : Ls w.heap.size w v b) (hY : SyAt w B0 v0 v1) :
    Calls Tryz.prog 21 #[.int .i64 i, v, .pointer (some ⟨B0, 0, none⟩)] w fun e w' => ∃ r, e = .returned (.tuple #[r, errV (Um.ofAll s p b).2]) ∧ Ls w'.heap.size w' r (Um.ofAll s p b).1 ∧ Below w.heap.size w w' := by
  have ve := errV_none
  have q1 := errG
  have q2 := errGn
  have q3 := errE
  have q4 := errN
  obtain ⟨a0, cap0, rfl, -⟩ := (id hf)
  obtain ⟨a1, cap1, rfl, -⟩ := (id hp)
  obtain ⟨a2, cap2, rfl, -⟩ := (id hs)
  have HO := fun w h1 h2 h3 => hid (sof_any s (.slice a0 s.length cap0) p (.slice a1 p.length cap1) b (.slice a2 b.length cap2) w h1 h2 h3)
  have y0 := hY.c0
  have y1 := hY.c1
  clear hY
  go_enter Tryz.func21, Tryz.ntmps21
  go_wp2_with (go_at_call 16; refine (HO _ hf hp hs).out.mono ?_; rintro e wn ⟨r, rfl, hr, hb⟩; obtain ⟨a9, c9, rfl, -⟩ := (id hr))
  go_returns
  exact ⟨_, rfl, hr, hb⟩

theorem one_is {s : List (List Um.Tm)} {p b : List (Int × Int)} {Z : List (Int × Int) × Int} (e : Um.ofAll s p b = Z) (v0 v1 v : Value) (i : Int) (B0 : Nat) (w : World) (hf : Lf w.heap.size w v0 s) (hp : Ls w.heap.size w v1 p) (hs : Ls w.heap.size w v b) (hY : SyAt w B0 v0 v1) :
    Calls Tryz.prog 21 #[.int .i64 i, v, .pointer (some ⟨B0, 0, none⟩)] w fun e w' => ∃ r, e = .returned (.tuple #[r, errV Z.2]) ∧ Ls w'.heap.size w' r Z.1 ∧ Below w.heap.size w w' := by
  subst e
  exact runOne_any s v0 p v1 b v i B0 w hf hp hs hY
theorem tube_next {s : List (List Um.Tm)} {p b : List (Int × Int)} (h : Um.readyF s p b = 0) {k : Nat} (hz : (Um.tubeN s p b k).2 = 0) : Um.ofAll s p (Um.tubeN s p b k).1 = Um.tubeN s p b (k + 1) := by
  rw [Um.ofAll_yes (Um.tube_ready h hz), Um.tube_succ, if_pos hz]
theorem tube_stop {s : List (List Um.Tm)} {p b : List (Int × Int)} (h : Um.readyF s p b = 0) {k n : Nat} (hk : k ≤ n) (hn : n ≤ 20) (hz : ¬ (Um.tubeN s p b k).2 = 0) : Um.tubeAll s p b n = ([], (Um.tubeN s p b k).2) := by
  rw [Um.tubeAll_full hn h (Um.tube_bad hk hz), (Um.tube_four s p b k).resolve_left hz]
theorem path_next {s : List (List Um.Tm)} {p : List (Int × Int)} {x : List Int} {u : List (List Int)} {k : Nat} (hz : (Um.pathN s p x u k).2 = 0) : Um.movAll s p (Um.pathN s p x u k).1 (u[k]?.getD []) = Um.pathN s p x u (k + 1) := by
  rw [Um.path_succ, if_pos hz]
theorem path_stop {s : List (List Um.Tm)} {p : List (Int × Int)} {x : List Int} {u : List (List Int)} (h : Um.pathF s p x u = 0) {k : Nat} (hk : k ≤ u.length) (hz : ¬ (Um.pathN s p x u k).2 = 0) : Um.pathAll s p x u = ([], (Um.pathN s p x u k).2) := by
  have e := Um.path_stay hz hk
  unfold Um.pathAll
  rw [if_pos h, e, if_neg hz]
theorem path_all {s : List (List Um.Tm)} {p : List (Int × Int)} {x : List Int} {u : List (List Int)} (h : Um.pathF s p x u = 0) (hz : (Um.pathN s p x u u.length).2 = 0) : Um.pathAll s p x u = (Um.paths s p x u (u.length + 1), 0) := by
  unfold Um.pathAll
  rw [if_pos h, if_pos hz]

set_option maxRecDepth 100000 in
set_option maxHeartbeats 16000000 in
theorem walkS_any (s : List (List Um.Tm)) (v0 : Value) (p : List (Int × Int)) (v1 : Value) (b : List (Int × Int)) (v : Value) (n B0 : Nat) (w : World) (hf : Lf w.heap.size w v0 s) (hp : Ls w.heap.size w v1 p) (hs : Ls w.heap.size w v b) (hY : SyAt w B0 v0 v1) (h : Um.readyF s p b = 0) (hn : n ≤ 20) :
    Calls Tryz.prog 20 #[v, .int .i64 (n : Int), .func (.func 21) #[] #[.pointer (some ⟨B0, 0, none⟩)]] w fun e w' => ∃ r, e = .returned (.tuple #[r, errV (Um.tubeAll s p b n).2]) ∧ Lb w'.heap.size w' r (Um.tubeAll s p b n).1 ∧ Below w.heap.size w w' := by
  have ve := errV_none
  have q1 := errG
  have q2 := errGn
  have q3 := errE
  have q4 := errN
  have hb3 := Um.box_len (Um.ready_ok.1 h).2.1
  obtain ⟨a2, cap2, rfl, -⟩ := (id hs)
  have HC := fun w h => hid (clone_any b (.slice a2 b.length cap2) w h hb3.1 hb3.2)
  have HO0 := fun (k : Nat) (hz : (Um.tubeN s p b k).2 = 0) vq w h1 h2 h3 h4 => hid (one_is (tube_next h hz) v0 v1 vq (k : Int) B0 w h1 h2 h3 h4)
  obtain ⟨i0, hi0, hz0, hz1, hz2⟩ := info_parts info_boxes
  go_enter Tryz.func20, Tryz.ntmps20
  go_wp2_with (first | (at_make; refine wpList_make_full _ rfl _ _ 27 rfl w.heap.size 23 i0 (.slice none 0 0) 1 Tryz.underlying27 hi0 hz0 hz1 .i64 .i64 _ _ (n + 1) rfl rfl (by first | rfl | omega) (by first | rfl | omega) (by rw [hz2]; omega) (by unfold maxLen; omega) (by simp) ?_; intro w0 hown hgrow; have hR := RowLs.start hgrow hown; clear hown hgrow) | (go_at_call 46; refine (HC _ (hs.step hR.below)).out.mono ?_; rintro e wn ⟨⟨g, cg, rfl, hO⟩, hb⟩; replace hR := hR.step hb; replace hO := hO.ls; have y1 := hR.free 0; obtain ⟨e1, e2, e3, y3⟩ := hR.old (k := 0) (by omega); clear hb HC))
  replace hR := hR.put (k := 0) rfl (by omega) hO
  clear hO y1 y3
  go_loopw [20] (fun i wr => ∃ k : Nat, k ≤ n ∧ i = .int .i64 k ∧ RowLs w (n + 1) w.heap.size wr (Um.tubes s p b (k + 1)) ∧ Hid ((Um.tubeN s p b k).2 = 0)) (fun i _ => n - (intOf i).toNat)
  case atStart => exact ⟨0, Nat.zero_le _, rfl, hR, rfl⟩
  case round =>
    clear hR
    obtain ⟨k, hk, rfl, hR, hZ⟩ := hrel
    by_cases hkl : k < n
    · have hkk : (k : Int) < (n : Int) := by omega
      obtain ⟨vk, yk, hvk⟩ := hR.at (k := k) (by rw [Um.tubes_length]; omega)
      rw [Um.tubes_get (by omega)] at hvk
      obtain ⟨a5, c5, rfl, -⟩ := (id hvk)
      have HO := HO0 k hZ.out (.slice a5 (Um.tubeN s p b k).1.length c5)
      have HLN : Hid (k + 1 = (Um.tubes s p b (k + 1)).length) := hid (by rw [Um.tubes_length])
      have HB := fun hz9 => hid (tube_stop h (show k + 1 ≤ n by omega) hn hz9)
      have HS2 := hid (Um.tubes_succ s p b (k + 1))
      clear HO0 hZ
      generalize e9 : Um.tubeN s p b (k + 1) = A at HO HB HS2
      replace e9 := hid e9
      generalize (Um.tubeN s p b k).1 = Q at *
      by_cases hc : A.2 = 0
      · have kc : (A.2 != 0) = false := by simpa using hc
        have HZ2 := hid hc
        clear HB hc
        go_wp2_with (go_at_call 21; refine (HO _ (hf.step hR.below) (hp.step hR.below) hvk (hY.step hR.below)).out.mono ?_; rintro e wn ⟨r, rfl, hr, hb⟩; replace hR := hR.step hb; obtain ⟨a9, c9, rfl, -⟩ := (id hr); clear hb HO hvk yk; have y1 := hR.free (k + 1); obtain ⟨e1, e2, e3, y3⟩ := hR.old (k := k + 1) (by omega))
        exact ⟨⟨k + 1, by omega, by simp, by rw [HS2.out]; exact hR.put HLN.out (by omega) hr, by rw [e9.out]; exact HZ2.out⟩, by simp [intOf]; omega⟩
      · have kc : (A.2 != 0) = true := by simpa using hc
        have HM := HB hc
        clear HB hc HS2
        go_wp2_with (go_at_call 21; refine (HO _ (hf.step hR.below) (hp.step hR.below) hvk (hY.step hR.below)).out.mono ?_; rintro e wn ⟨r, rfl, hr, hb⟩; replace hR := hR.step hb; obtain ⟨a9, c9, rfl, -⟩ := (id hr); clear hb HO hvk yk)
        go_returns
        rw [HM.out]
        exact ⟨_, rfl, Lb.nil _ _, hR.below⟩
    · obtain rfl : k = n := by omega
      have HA := hid (hR.all (by rw [Um.tubes_length]))
      have HB := hid hR.below
      have HZ := hid (Um.tubeAll_yes hn h hZ.out)
      clear hR hZ HO0
      go_wp2
      go_returns
      rw [HZ.out]
      refine ⟨_, ?_, HA.out, HB.out⟩
      show _ = Ending.returned (Value.tuple #[_, errV 0])
      rw [errV_none]
      rfl

set_option maxRecDepth 100000 in
set_option maxHeartbeats 8000000 in
theorem frun_low (s : List (List Um.Tm)) (v0 : Value) (p : List (Int × Int)) (v1 : Value) (b : List (Int × Int)) (v : Value) (n : Int) (w : World) (hf : Lf w.heap.size w v0 s) (hp : Ls w.heap.size w v1 p) (hs : Ls w.heap.size w v b) (h : n < 0) :
    Calls Tryz.prog 5 #[.agg #[v0, v1], v, .int .i64 n] w fun e w' => ∃ r, e = .returned (.tuple #[r, errV (Um.tubeAll s p b n).2]) ∧ Lb w'.heap.size w' r (Um.tubeAll s p b n).1 ∧ Below w.heap.size w w' := by
  have ve := errV_none
  have q1 := errG
  have q2 := errGn
  have q3 := errE
  have q4 := errN
  obtain ⟨a0, cap0, rfl, -⟩ := (id hf)
  obtain ⟨a1, cap1, rfl, -⟩ := (id hp)
  obtain ⟨a2, cap2, rfl, -⟩ := (id hs)
  have hY := SyAt.new w (.slice a0 s.length cap0) (.slice a1 p.length cap1) 25 rfl
  have hBW : Below w.heap.size w (w.alloc (.cells #[.slice a0 s.length cap0, .slice a1 p.length cap1] 25)) := by go_grown
  have y0 := hY.c0
  have y1 := hY.c1
  replace hf := hf.step hBW
  replace hp := hp.step hBW
  replace hs := hs.step hBW
  have HV := fun w hf hp hs => hid (sover_any s (.slice a0 s.length cap0) p (.slice a1 p.length cap1) b (.slice a2 b.length cap2) w hf hp hs)
  have kR : decide (n < 0) = true := by simpa using h
  have HM : Hid (Um.tubeAll s p b n = ([], 1)) := hid (Um.tubeAll_range (by omega))
  clear h hY HV
  go_enter Tryz.func5, Tryz.ntmps5
  go_wp2
  go_returns
  rw [HM.out]
  exact ⟨_, rfl, Lb.nil _ _, hBW⟩

set_option maxRecDepth 100000 in
set_option maxHeartbeats 8000000 in
theorem frun_high (s : List (List Um.Tm)) (v0 : Value) (p : List (Int × Int)) (v1 : Value) (b : List (Int × Int)) (v : Value) (n : Int) (w : World) (hf : Lf w.heap.size w v0 s) (hp : Ls w.heap.size w v1 p) (hs : Ls w.heap.size w v b) (h : ¬ n < 0) (h2 : 20 < n) :
    Calls Tryz.prog 5 #[.agg #[v0, v1], v, .int .i64 n] w fun e w' => ∃ r, e = .returned (.tuple #[r, errV (Um.tubeAll s p b n).2]) ∧ Lb w'.heap.size w' r (Um.tubeAll s p b n).1 ∧ Below w.heap.size w w' := by
  have ve := errV_none
  have q1 := errG
  have q2 := errGn
  have q3 := errE
  have q4 := errN
  obtain ⟨a0, cap0, rfl, -⟩ := (id hf)
  obtain ⟨a1, cap1, rfl, -⟩ := (id hp)
  obtain ⟨a2, cap2, rfl, -⟩ := (id hs)
  have hY := SyAt.new w (.slice a0 s.length cap0) (.slice a1 p.length cap1) 25 rfl
  have hBW : Below w.heap.size w (w.alloc (.cells #[.slice a0 s.length cap0, .slice a1 p.length cap1] 25)) := by go_grown
  have y0 := hY.c0
  have y1 := hY.c1
  replace hf := hf.step hBW
  replace hp := hp.step hBW
  replace hs := hs.step hBW
  have HV := fun w hf hp hs => hid (sover_any s (.slice a0 s.length cap0) p (.slice a1 p.length cap1) b (.slice a2 b.length cap2) w hf hp hs)
  have kR : decide (n < 0) = false := by simpa using h
  have kS : decide (20 < n) = true := by simpa using h2
  have HM : Hid (Um.tubeAll s p b n = ([], 1)) := hid (Um.tubeAll_range (by omega))
  clear h h2 hY HV
  go_enter Tryz.func5, Tryz.ntmps5
  go_wp2
  go_returns
  rw [HM.out]
  exact ⟨_, rfl, Lb.nil _ _, hBW⟩

set_option maxRecDepth 100000 in
set_option maxHeartbeats 8000000 in
theorem frun_not (s : List (List Um.Tm)) (v0 : Value) (p : List (Int × Int)) (v1 : Value) (b : List (Int × Int)) (v : Value) (n : Int) (w : World) (hf : Lf w.heap.size w v0 s) (hp : Ls w.heap.size w v1 p) (hs : Ls w.heap.size w v b) (hn : 0 ≤ n ∧ n ≤ 20) (h : ¬ Um.readyF s p b = 0) :
    Calls Tryz.prog 5 #[.agg #[v0, v1], v, .int .i64 n] w fun e w' => ∃ r, e = .returned (.tuple #[r, errV (Um.tubeAll s p b n).2]) ∧ Lb w'.heap.size w' r (Um.tubeAll s p b n).1 ∧ Below w.heap.size w w' := by
  have ve := errV_none
  have q1 := errG
  have q2 := errGn
  have q3 := errE
  have q4 := errN
  obtain ⟨a0, cap0, rfl, -⟩ := (id hf)
  obtain ⟨a1, cap1, rfl, -⟩ := (id hp)
  obtain ⟨a2, cap2, rfl, -⟩ := (id hs)
  have hY := SyAt.new w (.slice a0 s.length cap0) (.slice a1 p.length cap1) 25 rfl
  have hBW : Below w.heap.size w (w.alloc (.cells #[.slice a0 s.length cap0, .slice a1 p.length cap1] 25)) := by go_grown
  have y0 := hY.c0
  have y1 := hY.c1
  replace hf := hf.step hBW
  replace hp := hp.step hBW
  replace hs := hs.step hBW
  have HV := fun w hf hp hs => hid (sover_any s (.slice a0 s.length cap0) p (.slice a1 p.length cap1) b (.slice a2 b.length cap2) w hf hp hs)
  have kR : decide (n < 0) = false := decide_eq_false (by omega)
  have kS : decide (20 < n) = false := decide_eq_false (by omega)
  have HM := hid (Um.tubeAll_not hn h)
  have kG : (Um.readyF s p b != 0) = true := by simpa using h
  clear h hn
  generalize Um.readyF s p b = G at *
  go_enter Tryz.func5, Tryz.ntmps5
  go_wp2_with (go_at_call 19; refine (HV _ hf hp hs).out.mono ?_; rintro e wn ⟨rfl, hb⟩; replace hf := hf.step hb; replace hp := hp.step hb; replace hs := hs.step hb; replace hY := hY.step hb; have hB := hBW.trans (hb.mono hBW.size); clear hb HV hBW y0 y1)
  go_returns
  rw [HM.out]
  exact ⟨_, rfl, Lb.nil _ _, hB⟩

set_option maxRecDepth 100000 in
set_option maxHeartbeats 8000000 in
theorem frun_yes (s : List (List Um.Tm)) (v0 : Value) (p : List (Int × Int)) (v1 : Value) (b : List (Int × Int)) (v : Value) (n : Nat) (w : World) (hf : Lf w.heap.size w v0 s) (hp : Ls w.heap.size w v1 p) (hs : Ls w.heap.size w v b) (hn : n ≤ 20) (h : Um.readyF s p b = 0) :
    Calls Tryz.prog 5 #[.agg #[v0, v1], v, .int .i64 (n : Int)] w fun e w' => ∃ r, e = .returned (.tuple #[r, errV (Um.tubeAll s p b n).2]) ∧ Lb w'.heap.size w' r (Um.tubeAll s p b n).1 ∧ Below w.heap.size w w' := by
  have ve := errV_none
  have q1 := errG
  have q2 := errGn
  have q3 := errE
  have q4 := errN
  obtain ⟨a0, cap0, rfl, -⟩ := (id hf)
  obtain ⟨a1, cap1, rfl, -⟩ := (id hp)
  obtain ⟨a2, cap2, rfl, -⟩ := (id hs)
  have hY := SyAt.new w (.slice a0 s.length cap0) (.slice a1 p.length cap1) 25 rfl
  have hBW : Below w.heap.size w (w.alloc (.cells #[.slice a0 s.length cap0, .slice a1 p.length cap1] 25)) := by go_grown
  have y0 := hY.c0
  have y1 := hY.c1
  replace hf := hf.step hBW
  replace hp := hp.step hBW
  replace hs := hs.step hBW
  have HV := fun w hf hp hs => hid (sover_any s (.slice a0 s.length cap0) p (.slice a1 p.length cap1) b (.slice a2 b.length cap2) w hf hp hs)
  have kR : decide ((n : Int) < 0) = false := decide_eq_false (by omega)
  have kS : decide (20 < (n : Int)) = false := decide_eq_false (by omega)
  have HE := fun wz hf hp hs hY => hid (walkS_any s (.slice a0 s.length cap0) p (.slice a1 p.length cap1) b (.slice a2 b.length cap2) n w.heap.size wz hf hp hs hY h hn)
  have kG : (Um.readyF s p b != 0) = false := by simpa using h
  clear h hn
  generalize Um.readyF s p b = G at *
  generalize Um.tubeAll s p b n = O at *
  go_enter Tryz.func5, Tryz.ntmps5
  go_wp2_with (first | (go_at_call 19; refine (HV _ hf hp hs).out.mono ?_; rintro e wn ⟨rfl, hb⟩; replace hf := hf.step hb; replace hp := hp.step hb; replace hs := hs.step hb; replace hY := hY.step hb; have hB := hBW.trans (hb.mono hBW.size); clear hb HV hBW y0 y1) | (go_at_call 20; refine (HE _ hf hp hs hY).out.mono ?_; rintro e wm ⟨r, rfl, hr, hb⟩; replace hB := hB.trans (hb.mono hB.size); obtain ⟨a9, c9, rfl, -⟩ := (id hr); clear hb hf hp hs hY))
  go_returns
  exact ⟨_, rfl, hr, hB⟩

theorem flRun_any (s : List (List Um.Tm)) (v0 : Value) (p : List (Int × Int)) (v1 : Value) (b : List (Int × Int)) (v : Value) (n : Int) (w : World) (hf : Lf w.heap.size w v0 s) (hp : Ls w.heap.size w v1 p) (hs : Ls w.heap.size w v b) :
    Calls Tryz.prog 5 #[.agg #[v0, v1], v, .int .i64 n] w fun e w' => ∃ r, e = .returned (.tuple #[r, errV (Um.tubeAll s p b n).2]) ∧ Lb w'.heap.size w' r (Um.tubeAll s p b n).1 ∧ Below w.heap.size w w' := by
  by_cases h : n < 0
  · exact frun_low s v0 p v1 b v n w hf hp hs h
  · by_cases h2 : 20 < n
    · exact frun_high s v0 p v1 b v n w hf hp hs h h2
    · by_cases h3 : Um.readyF s p b = 0
      · obtain ⟨k, rfl⟩ : ∃ k : Nat, n = k := ⟨n.toNat, by omega⟩
        exact frun_yes s v0 p v1 b v k w hf hp hs (by omega) h3
      · exact frun_not s v0 p v1 b v n w hf hp hs (by omega) h3

/-- How wide the widest of the first k sides is. -/
def wmax (q : List (Int × Int)) : Nat → Int
  | 0 => 0
  | k + 1 => max (wmax q k) ((Um.sd q k).2 - (Um.sd q k).1)
theorem wmax_is {q : List (Int × Int)} (h : Um.boxF q = 0) : ∀ k, k + 1 ≤ q.length → wmax q (k + 1) = (Um.sd q (wideK q (k + 1))).2 - (Um.sd q (wideK q (k + 1))).1
  | 0, hk => by
    have := side_b h (show 0 < q.length by omega)
    show max 0 ((Um.sd q 0).2 - (Um.sd q 0).1) = (Um.sd q 0).2 - (Um.sd q 0).1
    omega
  | k + 1, hk => by
    have i := wmax_is h k (by omega)
    show max (wmax q (k + 1)) ((Um.sd q (k + 1)).2 - (Um.sd q (k + 1)).1) = _
    rw [i, wideK_next q (k + 1)]
    by_cases c : (Um.sd q (wideK q (k + 1))).2 - (Um.sd q (wideK q (k + 1))).1 < (Um.sd q (k + 1)).2 - (Um.sd q (k + 1)).1
    · rw [if_pos c]; omega
    · rw [if_neg c]; omega
theorem wmax_all {q : List (Int × Int)} (h : Um.boxF q = 0) : wmax q q.length = Um.widthOf q := by
  obtain ⟨k, e⟩ : ∃ k, q.length = k + 1 := ⟨q.length - 1, by have := (Um.box_len h).1; omega⟩
  have := wmax_is h k (by omega)
  rw [← e] at this
  exact this
theorem wmax_b {q : List (Int × Int)} (h : Um.boxF q = 0) : ∀ k, k ≤ q.length → 0 ≤ wmax q k ∧ wmax q k ≤ 2000000000
  | 0, _ => ⟨Int.le_refl _, by show (0 : Int) ≤ 2000000000; omega⟩
  | k + 1, hk => by
    have i := wmax_b h k (by omega)
    have j := side_b h (show k < q.length by omega)
    show 0 ≤ max (wmax q k) ((Um.sd q k).2 - (Um.sd q k).1) ∧ max (wmax q k) ((Um.sd q k).2 - (Um.sd q k).1) ≤ 2000000000
    omega

end Go.Proofs.YthgehlonjoafmaaGreatDoor
