/-
  What the document's answer (package spanref2) to boxes step by step is: Run at every argument.
-/
import Derived.Test.YtmgabhphnafokaaGreatDoorRefNext
import Derived.Test.YtmgabhphnafokaaGreatDoorMems2
import Derived.Test.YtmgabhphnafokaaGreatDoorMaths3
import Derived.Maps.AppendAt
namespace Go.Proofs.YtmgabhphnafokaaGreatDoor
set_option linter.unusedSimpArgs false
open Go.RowKit


set_option maxRecDepth 100000 in
set_option maxHeartbeats 16000000 in
theorem rRun_low (s : List (List Um.Tm)) (v0 : Value) (p : List (Int × Int)) (v1 : Value) (b : List (Int × Int)) (v : Value) (n : Int) (w : World) (hf : Lf w.heap.size w v0 s) (hp : Ls w.heap.size w v1 p) (hs : Ls w.heap.size w v b) (h : n < 0) :
    Calls Tryz.prog 4 #[.agg #[v0, v1], v, .int .i64 n] w fun e w' => ∃ r, e = .returned (.tuple #[r, .int .i64 (Um.tubeAll s p b n).2]) ∧ Lb w'.heap.size w' r (Um.tubeAll s p b n).1 ∧ Below w.heap.size w w' := by
  obtain ⟨a0, cap0, rfl, -⟩ := (id hf)
  obtain ⟨a1, cap1, rfl, -⟩ := (id hp)
  obtain ⟨a2, cap2, rfl, -⟩ := (id hs)
  have h1 : w.heap.size < (w.alloc (.cells #[.slice a0 s.length cap0, .slice a1 p.length cap1] 25)).heap.size := by simp
  have hBW : Below w.heap.size w (w.alloc (.cells #[.slice a0 s.length cap0, .slice a1 p.length cap1] 25)) := by go_grown
  obtain ⟨c0, c1⟩ := sys_cells w (.slice a0 s.length cap0) (.slice a1 p.length cap1) 25
  have hF := Fr.start (w.alloc (.cells #[.slice a0 s.length cap0, .slice a1 p.length cap1] 25))
  have hf2 := hf.step hBW
  have hp2 := hp.step hBW
  have hb2 := hs.step hBW
  have HRD := fun w h1 h2 h3 => hid (rReady_any s (.slice a0 s.length cap0) p (.slice a1 p.length cap1) b (.slice a2 b.length cap2) w h1 h2 h3)
  have y0 := c0
  have y1 := c1
  have L := hid (Um.tubeAll_range (s := s) (p := p) (b := b) (n := n) (by omega))
  have t1 : decide (n < 0) = true := decide_eq_true h
  clear h hf hp hs HRD
  go_enter Tryz.func4, Tryz.ntmps4
  go_wp2
  go_returns
  rw [L.out]
  exact ⟨_, rfl, Lb.nil _ _, hBW⟩

set_option maxRecDepth 100000 in
set_option maxHeartbeats 16000000 in
theorem rRun_high (s : List (List Um.Tm)) (v0 : Value) (p : List (Int × Int)) (v1 : Value) (b : List (Int × Int)) (v : Value) (n : Int) (w : World) (hf : Lf w.heap.size w v0 s) (hp : Ls w.heap.size w v1 p) (hs : Ls w.heap.size w v b) (h0 : ¬ n < 0) (h : 20 < n) :
    Calls Tryz.prog 4 #[.agg #[v0, v1], v, .int .i64 n] w fun e w' => ∃ r, e = .returned (.tuple #[r, .int .i64 (Um.tubeAll s p b n).2]) ∧ Lb w'.heap.size w' r (Um.tubeAll s p b n).1 ∧ Below w.heap.size w w' := by
  obtain ⟨a0, cap0, rfl, -⟩ := (id hf)
  obtain ⟨a1, cap1, rfl, -⟩ := (id hp)
  obtain ⟨a2, cap2, rfl, -⟩ := (id hs)
  have h1 : w.heap.size < (w.alloc (.cells #[.slice a0 s.length cap0, .slice a1 p.length cap1] 25)).heap.size := by simp
  have hBW : Below w.heap.size w (w.alloc (.cells #[.slice a0 s.length cap0, .slice a1 p.length cap1] 25)) := by go_grown
  obtain ⟨c0, c1⟩ := sys_cells w (.slice a0 s.length cap0) (.slice a1 p.length cap1) 25
  have hF := Fr.start (w.alloc (.cells #[.slice a0 s.length cap0, .slice a1 p.length cap1] 25))
  have hf2 := hf.step hBW
  have hp2 := hp.step hBW
  have hb2 := hs.step hBW
  have HRD := fun w h1 h2 h3 => hid (rReady_any s (.slice a0 s.length cap0) p (.slice a1 p.length cap1) b (.slice a2 b.length cap2) w h1 h2 h3)
  have y0 := c0
  have y1 := c1
  have L := hid (Um.tubeAll_range (s := s) (p := p) (b := b) (n := n) (by omega))
  have t1 : decide (n < 0) = false := decide_eq_false h0
  have t2 : decide (20 < n) = true := decide_eq_true h
  clear h h0 hf hp hs HRD
  go_enter Tryz.func4, Tryz.ntmps4
  go_wp2
  go_returns
  rw [L.out]
  exact ⟨_, rfl, Lb.nil _ _, hBW⟩

set_option maxRecDepth 100000 in
set_option maxHeartbeats 16000000 in
theorem rRun_not (s : List (List Um.Tm)) (v0 : Value) (p : List (Int × Int)) (v1 : Value) (b : List (Int × Int)) (v : Value) (n : Int) (w : World) (hf : Lf w.heap.size w v0 s) (hp : Ls w.heap.size w v1 p) (hs : Ls w.heap.size w v b) (h0 : ¬ n < 0) (h2 : ¬ 20 < n) (h : ¬ Um.readyF s p b = 0) :
    Calls Tryz.prog 4 #[.agg #[v0, v1], v, .int .i64 n] w fun e w' => ∃ r, e = .returned (.tuple #[r, .int .i64 (Um.tubeAll s p b n).2]) ∧ Lb w'.heap.size w' r (Um.tubeAll s p b n).1 ∧ Below w.heap.size w w' := by
  obtain ⟨a0, cap0, rfl, -⟩ := (id hf)
  obtain ⟨a1, cap1, rfl, -⟩ := (id hp)
  obtain ⟨a2, cap2, rfl, -⟩ := (id hs)
  have h1 : w.heap.size < (w.alloc (.cells #[.slice a0 s.length cap0, .slice a1 p.length cap1] 25)).heap.size := by simp
  have hBW : Below w.heap.size w (w.alloc (.cells #[.slice a0 s.length cap0, .slice a1 p.length cap1] 25)) := by go_grown
  obtain ⟨c0, c1⟩ := sys_cells w (.slice a0 s.length cap0) (.slice a1 p.length cap1) 25
  have hF := Fr.start (w.alloc (.cells #[.slice a0 s.length cap0, .slice a1 p.length cap1] 25))
  have hf2 := hf.step hBW
  have hp2 := hp.step hBW
  have hb2 := hs.step hBW
  have HRD := fun w h1 h2 h3 => hid (rReady_any s (.slice a0 s.length cap0) p (.slice a1 p.length cap1) b (.slice a2 b.length cap2) w h1 h2 h3)
  have y0 := c0
  have y1 := c1
  have L := hid (Um.tubeAll_not (n := n) (by omega) h)
  have t1 : decide (n < 0) = false := decide_eq_false h0
  have t2 : decide (20 < n) = false := decide_eq_false h2
  have k : (Um.readyF s p b != 0) = true := by simpa using h
  clear h h0 h2 hf hp hs
  generalize Um.readyF s p b = G at *
  go_enter Tryz.func4, Tryz.ntmps4
  go_wp2_with (go_at_call 15; refine (HRD _ (hF.lf hf2) (hF.ls hp2) (hF.ls hb2)).out.mono ?_; rintro e wn ⟨rfl, hb⟩; replace hF := hF.step hb; clear hb; clear HRD y0 y1; have y0 := (hF.below.cell (p := ⟨w.heap.size, 0, none⟩) h1).trans c0; have y1 := (hF.below.cell (p := ⟨w.heap.size, 1, none⟩) h1).trans c1)
  go_returns
  rw [L.out]
  exact ⟨_, rfl, Lb.nil _ _, hBW.trans (hF.below.mono hBW.size)⟩

set_option maxRecDepth 100000 in
set_option maxHeartbeats 16000000 in
theorem rRun_yes (s : List (List Um.Tm)) (v0 : Value) (p : List (Int × Int)) (v1 : Value) (b : List (Int × Int)) (v : Value) (n : Nat) (w : World) (hf : Lf w.heap.size w v0 s) (hp : Ls w.heap.size w v1 p) (hs : Ls w.heap.size w v b) (h2 : n ≤ 20) (h : Um.readyF s p b = 0) :
    Calls Tryz.prog 4 #[.agg #[v0, v1], v, .int .i64 n] w fun e w' => ∃ r, e = .returned (.tuple #[r, .int .i64 (Um.tubeAll s p b n).2]) ∧ Lb w'.heap.size w' r (Um.tubeAll s p b n).1 ∧ Below w.heap.size w w' := by
  obtain ⟨a0, cap0, rfl, -⟩ := (id hf)
  obtain ⟨a1, cap1, rfl, -⟩ := (id hp)
  obtain ⟨a2, cap2, rfl, -⟩ := (id hs)
  have h1 : w.heap.size < (w.alloc (.cells #[.slice a0 s.length cap0, .slice a1 p.length cap1] 25)).heap.size := by simp
  have hBW : Below w.heap.size w (w.alloc (.cells #[.slice a0 s.length cap0, .slice a1 p.length cap1] 25)) := by go_grown
  obtain ⟨c0, c1⟩ := sys_cells w (.slice a0 s.length cap0) (.slice a1 p.length cap1) 25
  have hF := Fr.start (w.alloc (.cells #[.slice a0 s.length cap0, .slice a1 p.length cap1] 25))
  have hf2 := hf.step hBW
  have hp2 := hp.step hBW
  have hb2 := hs.step hBW
  have HRD := fun w h1 h2 h3 => hid (rReady_any s (.slice a0 s.length cap0) p (.slice a1 p.length cap1) b (.slice a2 b.length cap2) w h1 h2 h3)
  have y0 := c0
  have y1 := c1
  have t1 : decide ((n : Int) < 0) = false := decide_eq_false (by omega)
  have t2 : decide (20 < (n : Int)) = false := decide_eq_false (by omega)
  rw [h] at HRD
  have HTR := hid (fun k hz => Um.tube_ready (k := k) h hz)
  have HTS := hid (fun k hz => Um.tubes_some (k := k) h hz)
  have HAY := hid (fun h3 => Um.tubeAll_yes (n := n) h2 h h3)
  have HAF := hid (fun h3 => Um.tubeAll_full (n := n) h2 h h3)
  have hbn := (Um.tubes_some (k := 0) h rfl).1
  have HBN : Hid (b ≠ []) := hbn
  clear h hbn hf hp hs
  obtain ⟨i0, hi0, hz0, hz1, hz2⟩ := info_parts info_boxes
  go_enter Tryz.func4, Tryz.ntmps4
  go_wp2_with (go_at_call 15; refine (HRD _ (hF.lf hf2) (hF.ls hp2) (hF.ls hb2)).out.mono ?_; rintro e wn ⟨rfl, hb⟩; replace hF := hF.step hb; clear hb; clear HRD y0 y1; have y0 := (hF.below.cell (p := ⟨w.heap.size, 0, none⟩) h1).trans c0; have y1 := (hF.below.cell (p := ⟨w.heap.size, 1, none⟩) h1).trans c1)
  clear y0 y1
  have hvb0 := hF.ls hb2
  have HR0 := hid (row_first (w := wn) (base := (w.alloc (.cells #[.slice a0 s.length cap0, .slice a1 p.length cap1] 25)).heap.size) rfl hF.size hvb0 HBN.out)
  have HV0 := hid (hvb0.step ((Below.refl _ _).alloc (Nat.le_refl _) (.cells #[.slice a2 b.length cap2] 23)))
  have HF0 := hid (hF.alloc (.cells #[.slice a2 b.length cap2] 23))
  clear hF hvb0 hb2
  go_loopw [1, 9, 10] (fun vb u i wr => ∃ k : Nat, k ≤ n ∧ i = .int .i64 k ∧ Ls wr.heap.size wr vb (Um.tubeN s p b k).1 ∧ RowB (w.alloc (.cells #[.slice a0 s.length cap0, .slice a1 p.length cap1] 25)).heap.size 23 wr u (Um.tubes s p b (k + 1)) ∧ Fr (w.alloc (.cells #[.slice a0 s.length cap0, .slice a1 p.length cap1] 25)) wr [] ∧ Hid ((Um.tubeN s p b k).2 = 0)) (fun _ _ i _ => n - (intOf i).toNat)
  case atStart => exact ⟨0, Nat.zero_le _, rfl, HV0.out, HR0.out, HF0.out, rfl⟩
  case round =>
    clear HR0 HV0 HF0
    obtain ⟨k, hk, rfl, hvb, hR, hF, hZ⟩ := hrel
    have y0 := (hF.below.cell (p := ⟨w.heap.size, 0, none⟩) h1).trans c0
    have y1 := (hF.below.cell (p := ⟨w.heap.size, 1, none⟩) h1).trans c1
    by_cases hkl : k < n
    · have hkk : (k : Int) < (n : Int) := by omega
      have HNX := fun w h1 h2 h3 => hid (rNext_new s (.slice a0 s.length cap0) p (.slice a1 p.length cap1) (Um.tubeN s p b k).1 u1 w h1 h2 h3 (HTR.out k hZ.out))
      have hltR0 : ∀ g, u9.ownBlock = some g → g < wr.heap.size := fun g e => by
        obtain ⟨xs, ho, _⟩ := hR.row
        exact (ho.lt g e).2
      have HT : Hid (Um.tubeN s p b (k + 1) = Um.behR s p (Um.tubeN s p b k).1) := by rw [Um.tube_succ, if_pos hZ.out]; exact hid rfl
      obtain ⟨a9, c9, rfl, -⟩ := (id hvb)
      by_cases hc : (Um.behR s p (Um.tubeN s p b k).1).2 = 0
      · have kc : ((Um.behR s p (Um.tubeN s p b k).1).2 != 0) = false := by simpa using hc
        have hz1' : (Um.tubeN s p b (k + 1)).2 = 0 := by rw [HT.out]; exact hc
        have HZ1 := hid hz1'
        have HNE := hid (HTS.out (k + 1) hz1')
        have HNA := hid (fun j (hj : j < k + 1) => (HTS.out j (Um.tube_down hz1' (by omega))).1)
        clear HTR HTS HAY HAF hc hz1'
        go_wp2_with (first | (go_at_call 16; refine (HNX _ (hF.lf hf2) (hF.ls hp2) hvb).out.mono ?_; rintro e wn ⟨r1, rfl, hw, hb, hnew⟩; replace hR := hR.step hb; replace hF := hF.step hb; clear hb; obtain ⟨s1, d1, rfl, -⟩ := (id hw); clear HNX y0 y1; have hR2 := hR.step ((Below.refl _ _).alloc (Nat.le_refl _) (.cells #[.slice s1 (Um.behR s p (Um.tubeN s p b k).1).1.length d1] 23)); clear hR; obtain ⟨xs, hown, hh⟩ := hR2.row; rw [Um.tubes_length] at hown; have hsz := (hF.alloc (.cells #[.slice s1 (Um.behR s p (Um.tubeN s p b k).1).1.length d1] 23)).size; have HHh := hid hh; have hv := hw.step ((Below.refl _ _).alloc (Nat.le_refl _) (.cells #[.slice s1 (Um.behR s p (Um.tubeN s p b k).1).1.length d1] 23)); have HVv := hid hv; clear hh hv hw hR2) | (at_builtin; refine wpList_append_own_at _ rfl _ _ 28 rfl (w.alloc (.cells #[.slice a0 s.length cap0, .slice a1 p.length cap1] 25)).heap.size 23 i0 (.slice none 0 0) 1 24 Tryz.underlying28 hi0 hz0 hz1 hz2 rfl (by decide) _ _ _ rfl hown _ 1 1 [.slice s1 (Um.behR s p (Um.tubeN s p b k).1).1.length d1] rfl rfl (cell_one_new _ _ _) (by simp [Value.oneCell']) (by unfold maxLen; omega) (by omega) (by simp at hsz ⊢; omega) ?_; intro v' w1 hown' hgrow _ hat))
        have hvn : ∀ g, (Value.slice s1 (Um.behR s p (Um.tubeN s p b k).1).1.length d1).ownBlock = some g → u9.ownBlock ≠ some g := fun g e c => by
          have := hnew g e
          have := hltR0 g c
          omega
        have hR3 := RowB.more (base := (w.alloc (.cells #[.slice a0 s.length cap0, .slice a1 p.length cap1] 25)).heap.size) (T := 23) HHh.out (by rw [Um.tubes_length]; simpa using hown.1) HVv.out hvn (fun z q hz g hg hq => ls_block hz hq g hg) (by rw [← HT.out]; exact HNE.out.1)
          (fun j hj => by rw [Um.tubes_length] at hj; rw [Um.tubes_get hj]; exact HNA.out j hj) (by rw [Um.tubes_length]; exact hown') hgrow hat
        have hv3 := (HVv.out.grown (Nat.le_refl _) hgrow hvn).wide hgrow.size
        have hF3 : Fr (w.alloc (.cells #[.slice a0 s.length cap0, .slice a1 p.length cap1] 25)) w1 [] := ⟨((hF.alloc (.cells #[.slice s1 (Um.behR s p (Um.tubeN s p b k).1).1.length d1] 23)).below).grown hgrow hsz (fun j e => owns_from hown j e), by simp, List.Pairwise.nil⟩
        refine ⟨⟨k + 1, by omega, by simp, by rw [HT.out]; exact hv3, ?_, hF3, HZ1.out⟩, by simp [intOf]; omega⟩
        rw [Um.tubes_succ, HT.out]
        exact hR3
      · have e4 : (Um.behR s p (Um.tubeN s p b k).1).2 = 4 := by
          have := (Um.nextN_fault s p (Um.tubeN s p b k).1 s.length).resolve_left hc
          unfold Um.behR
          rw [this]
        have HM : Hid (Um.tubeAll s p b n = ([], (Um.behR s p (Um.tubeN s p b k).1).2)) := by rw [HAF.out (Um.tube_bad (k := k + 1) (by omega) (by rw [HT.out]; exact hc)), e4]; exact hid rfl
        have kc : ((Um.behR s p (Um.tubeN s p b k).1).2 != 0) = true := by simpa using hc
        clear HTR HTS HAY HAF hc e4 HT
        go_wp2_with (go_at_call 16; refine (HNX _ (hF.lf hf2) (hF.ls hp2) hvb).out.mono ?_; rintro e wn ⟨r1, rfl, hw, hb, hnew⟩; replace hR := hR.step hb; replace hF := hF.step hb; clear hb; obtain ⟨s1, d1, rfl, -⟩ := (id hw); clear HNX y0 y1)
        go_returns
        rw [HM.out]
        exact ⟨_, rfl, Lb.nil _ _, hBW.trans (hF.below.mono hBW.size)⟩
    · obtain rfl : k = n := by omega
      have HM := hid (HAY.out hZ.out)
      have HL := hid hR.lb
      clear HTR HTS HAY HAF hR
      go_wp2
      go_returns
      rw [HM.out]
      exact ⟨_, rfl, HL.out, hBW.trans (hF.below.mono hBW.size)⟩
theorem rRun_any (s : List (List Um.Tm)) (v0 : Value) (p : List (Int × Int)) (v1 : Value) (b : List (Int × Int)) (v : Value) (n : Int) (w : World) (hf : Lf w.heap.size w v0 s) (hp : Ls w.heap.size w v1 p) (hs : Ls w.heap.size w v b) :
    Calls Tryz.prog 4 #[.agg #[v0, v1], v, .int .i64 n] w fun e w' => ∃ r, e = .returned (.tuple #[r, .int .i64 (Um.tubeAll s p b n).2]) ∧ Lb w'.heap.size w' r (Um.tubeAll s p b n).1 ∧ Below w.heap.size w w' := by
  by_cases h0 : n < 0
  · exact rRun_low s v0 p v1 b v n w hf hp hs h0
  by_cases h2 : 20 < n
  · exact rRun_high s v0 p v1 b v n w hf hp hs h0 h2
  by_cases h : Um.readyF s p b = 0
  · obtain ⟨m, rfl⟩ : ∃ m : Nat, n = m := ⟨n.toNat, by omega⟩
    exact rRun_yes s v0 p v1 b v m w hf hp hs (by omega) h
  · exact rRun_not s v0 p v1 b v n w hf hp hs h0 h2 h
end Go.Proofs.YtmgabhphnafokaaGreatDoor
