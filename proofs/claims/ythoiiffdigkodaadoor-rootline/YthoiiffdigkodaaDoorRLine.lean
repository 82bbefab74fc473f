/-
  The walk over 'spanlaw4.RootLine': for all n, least it returns true.
-/
import Derived.Test.YthoiiffdigkodaaDoorRootF
import Derived.Test.YthoiiffdigkodaaDoorSame
namespace Go.Proofs.YthoiiffdigkodaaDoor.RLine
set_option linter.unusedSimpArgs false
open Go.RowKit

theorem fact : Um.findAll [] 0 0 1 = ([], 5) := by decide +kernel

set_option maxRecDepth 100000 in
set_option maxHeartbeats 8000000 in
theorem walk_a (n least : Int) (w : World) (hg : HasErr w) (h1 : n < -100000) :
    Calls Tryd.prog 3 #[.int .i64 n, .int .i64 least] w fun e w' => e = .returned (.bool true) ∧ Below w.heap.size w w' := by
  have v0 := errV_none
  have q1 := errG
  have q2 := errGn
  have q3 := errE
  have q4 := errN
  have HF := fun w => hid (find_any [] (.slice none 0 0) 0 0 1 w (Li.nil _ _))
  rw [fact] at HF
  have t0 : decide (n < -100000) = true := by simpa using h1
  clear h1
  have hF := Fr.start w
  go_enter Tryd.func3, Tryd.ntmps3
  go_wp2_with (first | (go_at_call 7; refine (HF _).out.mono ?_; rintro e wn ⟨u, rfl, hs, hb⟩; replace hF := hF.step hb; clear hb; obtain ⟨a1, cap1, rfl, -⟩ := (id hs)) | (go_at_call 8; refine (hid (same_any _ _ _ (hg.below (B := w.heap.size) hF.below hg.size))).out.mono ?_; rintro e wn ⟨rfl, hb⟩; replace hF := hF.step hb; clear hb))
  go_returns
  exact ⟨rfl, hF.below⟩

set_option maxRecDepth 100000 in
set_option maxHeartbeats 8000000 in
theorem walk_b (n least : Int) (w : World) (hg : HasErr w) (h1 : ¬ n < -100000) (h2 : 100000 < n) :
    Calls Tryd.prog 3 #[.int .i64 n, .int .i64 least] w fun e w' => e = .returned (.bool true) ∧ Below w.heap.size w w' := by
  have v0 := errV_none
  have q1 := errG
  have q2 := errGn
  have q3 := errE
  have q4 := errN
  have HF := fun w => hid (find_any [] (.slice none 0 0) 0 0 1 w (Li.nil _ _))
  rw [fact] at HF
  have t0 : decide (n < -100000) = false := by simpa using h1
  have t1 : decide (100000 < n) = true := by simpa using h2
  clear h1 h2
  have hF := Fr.start w
  go_enter Tryd.func3, Tryd.ntmps3
  go_wp2_with (first | (go_at_call 7; refine (HF _).out.mono ?_; rintro e wn ⟨u, rfl, hs, hb⟩; replace hF := hF.step hb; clear hb; obtain ⟨a1, cap1, rfl, -⟩ := (id hs)) | (go_at_call 8; refine (hid (same_any _ _ _ (hg.below (B := w.heap.size) hF.below hg.size))).out.mono ?_; rintro e wn ⟨rfl, hb⟩; replace hF := hF.step hb; clear hb))
  go_returns
  exact ⟨rfl, hF.below⟩

set_option maxRecDepth 100000 in
set_option maxHeartbeats 8000000 in
theorem walk_c (n least : Int) (w : World) (hg : HasErr w) (h1 : ¬ n < -100000) (h2 : ¬ 100000 < n) (h3 : least < 1) :
    Calls Tryd.prog 3 #[.int .i64 n, .int .i64 least] w fun e w' => e = .returned (.bool true) ∧ Below w.heap.size w w' := by
  have v0 := errV_none
  have q1 := errG
  have q2 := errGn
  have q3 := errE
  have q4 := errN
  have HF := fun w => hid (find_any [] (.slice none 0 0) 0 0 1 w (Li.nil _ _))
  rw [fact] at HF
  have t0 : decide (n < -100000) = false := by simpa using h1
  have t1 : decide (100000 < n) = false := by simpa using h2
  have t2 : decide (least < 1) = true := by simpa using h3
  clear h1 h2 h3
  have hF := Fr.start w
  go_enter Tryd.func3, Tryd.ntmps3
  go_wp2_with (first | (go_at_call 7; refine (HF _).out.mono ?_; rintro e wn ⟨u, rfl, hs, hb⟩; replace hF := hF.step hb; clear hb; obtain ⟨a1, cap1, rfl, -⟩ := (id hs)) | (go_at_call 8; refine (hid (same_any _ _ _ (hg.below (B := w.heap.size) hF.below hg.size))).out.mono ?_; rintro e wn ⟨rfl, hb⟩; replace hF := hF.step hb; clear hb))
  go_returns
  exact ⟨rfl, hF.below⟩

set_option maxRecDepth 100000 in
set_option maxHeartbeats 8000000 in
theorem walk_d (n least : Int) (w : World) (hg : HasErr w) (h1 : ¬ n < -100000) (h2 : ¬ 100000 < n) (h3 : ¬ least < 1) (h4 : 1000 < least) :
    Calls Tryd.prog 3 #[.int .i64 n, .int .i64 least] w fun e w' => e = .returned (.bool true) ∧ Below w.heap.size w w' := by
  have v0 := errV_none
  have q1 := errG
  have q2 := errGn
  have q3 := errE
  have q4 := errN
  have HF := fun w => hid (find_any [] (.slice none 0 0) 0 0 1 w (Li.nil _ _))
  rw [fact] at HF
  have t0 : decide (n < -100000) = false := by simpa using h1
  have t1 : decide (100000 < n) = false := by simpa using h2
  have t2 : decide (least < 1) = false := by simpa using h3
  have t3 : decide (1000 < least) = true := by simpa using h4
  clear h1 h2 h3 h4
  have hF := Fr.start w
  go_enter Tryd.func3, Tryd.ntmps3
  go_wp2_with (first | (go_at_call 7; refine (HF _).out.mono ?_; rintro e wn ⟨u, rfl, hs, hb⟩; replace hF := hF.step hb; clear hb; obtain ⟨a1, cap1, rfl, -⟩ := (id hs)) | (go_at_call 8; refine (hid (same_any _ _ _ (hg.below (B := w.heap.size) hF.below hg.size))).out.mono ?_; rintro e wn ⟨rfl, hb⟩; replace hF := hF.step hb; clear hb))
  go_returns
  exact ⟨rfl, hF.below⟩

set_option maxRecDepth 100000 in
set_option maxHeartbeats 8000000 in
theorem walk_line (n least : Int) (w : World) (h1 : ¬ n < -100000) (h2 : ¬ 100000 < n) (h3 : ¬ least < 1) (h4 : ¬ 1000 < least) :
    Calls Tryd.prog 3 #[.int .i64 n, .int .i64 least] w fun e w' => e = .returned (.bool true) ∧ Below w.heap.size w w' := by
  have v0 := errV_none
  have q1 := errG
  have q2 := errGn
  have q3 := errE
  have q4 := errN
  have t0 : decide (n < -100000) = false := by simpa using h1
  have t1 : decide (100000 < n) = false := by simpa using h2
  have t2 : decide (least < 1) = false := by simpa using h3
  have t3 : decide (1000 < least) = false := by simpa using h4
  have wn' : IntKind.i64.wrap (-n) = -n := by rw [IntKind.wrap_i64]; omega
  have hl : Li (w.alloc (.cells #[.int .i64 (-n), .int .i64 1000] 3)).heap.size (w.alloc (.cells #[.int .i64 (-n), .int .i64 1000] 3)) (.slice (some ⟨w.heap.size, 0, none⟩) 2 2) [-n, 1000] := Li.lit (p := [-n, 1000]) rfl two_cells
  have HF := fun W hl => hid (find_any [-n, 1000] (.slice (some ⟨w.heap.size, 0, none⟩) 2 2) (-200000) 200001 least W hl)
  have HU := fun W hl => hid (sure_any [-n, 1000] (.slice (some ⟨w.heap.size, 0, none⟩) 2 2) (-200000) 200001 W hl)
  obtain ⟨r1, r2⟩ := Um.line_find (n := n) (least := least) (by omega) (by omega) (by omega) (by omega)
  obtain ⟨s1, s2⟩ := Um.line_sure (n := n) (by omega) (by omega)
  have HI := hid (Um.nought_in r1 (n := n) (by omega) (by omega) (Um.line_nought n))
  rw [s2] at HU
  have HNE : Hid ((Um.findAll [-n, 1000] (-200000) 200001 least).1 ≠ []) := fun e => by
    have := HI.out
    rw [e] at this
    cases this
  have h0 : 0 < (Um.findAll [-n, 1000] (-200000) 200001 least).1.length := List.length_pos_iff.2 HNE.out
  have kR : ((Um.findAll [-n, 1000] (-200000) 200001 least).2 != 0) = false := by simpa using r1
  have kM : ((Um.monoAll [-n, 1000] (-200000) 200001).2.2 != 0) = false := by simpa using s1
  clear h1 h2 h3 h4 r1 s1 s2
  generalize Um.findAll [-n, 1000] (-200000) 200001 least = R at *
  generalize Um.monoAll [-n, 1000] (-200000) 200001 = M at *
  have t4 : decide ((R.1.length : Int) < 1) = false := decide_eq_false (by omega)
  have t5 : decide ((4 : Int) < (R.1.length : Int)) = false := decide_eq_false (by omega)
  have hF := (Fr.start (w.alloc (.cells #[.int .i64 (-n), .int .i64 1000] 3))).push (b := w.heap.size + 1) (-200000) 200001 (by simp)
  have x0l := (hF.at 0 rfl).lo
  have x0h := (hF.at 0 rfl).hi
  go_enter Tryd.func3, Tryd.ntmps3
  go_wp2_with (first | (go_at_call 7; refine (HF _ (hF.li hl)).out.mono ?_; rintro e wn ⟨u, rfl, hs, hb⟩; replace hF := hF.step hb; clear hb; obtain ⟨b1, off1, cap1, rfl, hcap1, hA⟩ := hs.open HNE.out; clear hs; clear x0l x0h; have x0l := (hF.at 0 rfl).lo; have x0h := (hF.at 0 rfl).hi) | (go_at_call 9; refine (HU _ (hF.li hl)).out.mono ?_; rintro e wn ⟨rfl, hb⟩; replace hF := hF.step hb; replace hA := hA.step hb; clear hb; clear x0l x0h))
  go_loopw [13] (fun i wr => ∃ k : Nat, k ≤ R.1.length ∧ i = .int .i64 k ∧ Hid (Um.inL R.1 n k = false) ∧ Fr (w.alloc (.cells #[.int .i64 (-n), .int .i64 1000] 3)) wr [(w.heap.size + 1, -200000, 200001)] ∧ LsAt wr b1 off1 R.1) (fun i _ => R.1.length - (intOf i).toNat)
  case atStart => exact ⟨0, Nat.zero_le _, rfl, hid rfl, hF, hA⟩
  case round =>
    clear hF hA
    obtain ⟨k, hk, rfl, hz, hF, hA⟩ := hrel
    by_cases hkl : k < R.1.length
    · have HB := hid (Um.inL_succ R.1 n k)
      rw [hz.out] at HB
      have hkk : (k : Int) < (R.1.length : Int) := by omega
      obtain ⟨⟨C0, C1⟩, hs⟩ : ∃ s, R.1[k]? = some s := ⟨_, List.getElem?_eq_getElem hkl⟩
      have e : R.1[k]?.getD (0, 0) = (C0, C1) := by rw [hs]; rfl
      rw [e] at HB
      simp only at HB
      have z0 := hA.lo k hs rfl
      have z1 := hA.hi k hs rfl
      simp only at z0 z1
      clear e hs hz
      by_cases u1 : C0 ≤ n
      · have t6 : decide (C0 ≤ n) = true := by simpa using u1
        by_cases u2 : n ≤ C1
        · have t7 : decide (n ≤ C1) = true := by simpa using u2
          clear u1 u2 HB
          go_wp2
          go_returns
          exact ⟨rfl, (Below.alloc (Below.refl _ _) (Nat.le_refl _) _).trans (hF.below.mono (by simp))⟩
        · have t7 : decide (n ≤ C1) = false := by simpa using u2
          rw [t6, t7] at HB
          clear u1 u2
          go_wp2
          exact ⟨⟨k + 1, by omega, by simp, HB, hF, hA⟩, by simp [intOf] <;> omega⟩
      · have t6 : decide (C0 ≤ n) = false := by simpa using u1
        rw [t6] at HB
        clear u1
        go_wp2
        exact ⟨⟨k + 1, by omega, by simp, HB, hF, hA⟩, by simp [intOf] <;> omega⟩
    · obtain rfl : k = R.1.length := by omega
      have a := HI.out
      rw [hz.out] at a
      cases a
theorem walk (n least : Int) (w : World) (hg : HasErr w) :
    Calls Tryd.prog 3 #[.int .i64 n, .int .i64 least] w fun e w' => e = .returned (.bool true) ∧ Below w.heap.size w w' := by
  by_cases h1 : n < -100000
  · exact walk_a n least w hg h1
  · by_cases h2 : 100000 < n
    · exact walk_b n least w hg h1 h2
    · by_cases h3 : least < 1
      · exact walk_c n least w hg h1 h2 h3
      · by_cases h4 : 1000 < least
        · exact walk_d n least w hg h1 h2 h3 h4
        · exact walk_line n least w h1 h2 h3 h4
end Go.Proofs.YthoiiffdigkodaaDoor.RLine
