/-
  What package span's ofEnds answers with unit.Times.
-/
import Derived.Test.YthgehlonjoafmaaGreatDoorSpanEnds
namespace Go.Proofs.YthgehlonjoafmaaGreatDoor
set_option linter.unusedSimpArgs false
open Go.RowKit

set_option maxRecDepth 100000 in
set_option maxHeartbeats 4000000 in
theorem ends_times (al ah bl bh : Int) (w : World) :
    Calls Tryz.prog 81 #[.agg #[.int .i64 al, .int .i64 ah], .agg #[.int .i64 bl, .int .i64 bh], .func (.func 93) #[] #[]] w fun e w' => e = .returned (.tuple #[.agg #[.int .i64 (Um.seq4 (Um.timesR al bl) (Um.timesR al bh) (Um.timesR ah bl) (Um.timesR ah bh)).1, .int .i64 (Um.seq4 (Um.timesR al bl) (Um.timesR al bh) (Um.timesR ah bl) (Um.timesR ah bh)).2.1], errV (Um.seq4 (Um.timesR al bl) (Um.timesR al bh) (Um.timesR ah bl) (Um.timesR ah bh)).2.2]) ∧
      ∃ (q : Nat) (x y : Int), w' = ((((w.drewN q).alloc (.cells #[.int .i64 al, .int .i64 ah] 49)).alloc (.cells #[.int .i64 bl, .int .i64 bh] 49)).alloc (.cells #[.int .i64 (Um.seq4 (Um.timesR al bl) (Um.timesR al bh) (Um.timesR ah bl) (Um.timesR ah bh)).1, .int .i64 (Um.seq4 (Um.timesR al bl) (Um.timesR al bh) (Um.timesR ah bl) (Um.timesR ah bh)).2.1] 49)).alloc (.cells #[.int .i64 x, .int .i64 y] 49) := by
  have q1 := errG
  have q2 := errGn
  have q3 := errE
  have q4 := errN
  have hdr := drewN_alloc
  have v0 := errV_none
  have ia := ix0
  have ib := ix1
  rcases times_res al bl with ⟨k, hk, e0⟩ | ⟨l0, h0, e0, m0, n0⟩
  · have HR : Hid (Um.seq4 (Um.timesR al bl) (Um.timesR al bh) (Um.timesR ah bl) (Um.timesR ah bh) = (0, 0, k)) := hid (by simp [Um.seq4, e0, hk])
    have kk : (k != 0) = true := by simpa using hk
    clear hk 
    generalize Um.seq4 (Um.timesR al bl) (Um.timesR al bh) (Um.timesR ah bl) (Um.timesR ah bh) = R at *
    go_enter Tryz.func81, Tryz.ntmps81
    go_wp2_with (go_at_call 93; refine (times_drew _ _ _).mono ?_; rintro e w1 ⟨rfl, q, rfl⟩)
    repeat (first | (refine wp_loop_rounds 3 ?_) | (rw [rounds_succ]; go_wp2_with (go_at_call 93; refine (times_drew _ _ _).mono ?_; rintro e w1 ⟨rfl, q, rfl⟩)))
    go_returns
    rw [HR.out]
    exact ⟨rfl, _, _, _, rfl⟩
  · skip
    rcases times_res al bh with ⟨k, hk, e1⟩ | ⟨l1, h1, e1, m1, n1⟩
    · have HR : Hid (Um.seq4 (Um.timesR al bl) (Um.timesR al bh) (Um.timesR ah bl) (Um.timesR ah bh) = (0, 0, k)) := hid (by simp [Um.seq4, e1, e0, hk])
      have kk : (k != 0) = true := by simpa using hk
      clear hk m0 n0
      generalize Um.seq4 (Um.timesR al bl) (Um.timesR al bh) (Um.timesR ah bl) (Um.timesR ah bh) = R at *
      go_enter Tryz.func81, Tryz.ntmps81
      go_wp2_with (go_at_call 93; refine (times_drew _ _ _).mono ?_; rintro e w1 ⟨rfl, q, rfl⟩)
      repeat (first | (refine wp_loop_rounds 3 ?_) | (rw [rounds_succ]; go_wp2_with (go_at_call 93; refine (times_drew _ _ _).mono ?_; rintro e w1 ⟨rfl, q, rfl⟩)))
      go_returns
      rw [HR.out]
      exact ⟨rfl, _, _, _, rfl⟩
    · skip
      rcases times_res ah bl with ⟨k, hk, e2⟩ | ⟨l2, h2, e2, m2, n2⟩
      · have HR : Hid (Um.seq4 (Um.timesR al bl) (Um.timesR al bh) (Um.timesR ah bl) (Um.timesR ah bh) = (0, 0, k)) := hid (by simp [Um.seq4, e2, e0, e1, hk])
        have kk : (k != 0) = true := by simpa using hk
        clear hk m0 n0 m1 n1
        generalize Um.seq4 (Um.timesR al bl) (Um.timesR al bh) (Um.timesR ah bl) (Um.timesR ah bh) = R at *
        go_enter Tryz.func81, Tryz.ntmps81
        go_wp2_with (go_at_call 93; refine (times_drew _ _ _).mono ?_; rintro e w1 ⟨rfl, q, rfl⟩)
        repeat (first | (refine wp_loop_rounds 3 ?_) | (rw [rounds_succ]; go_wp2_with (go_at_call 93; refine (times_drew _ _ _).mono ?_; rintro e w1 ⟨rfl, q, rfl⟩)))
        go_returns
        rw [HR.out]
        exact ⟨rfl, _, _, _, rfl⟩
      · skip
        rcases times_res ah bh with ⟨k, hk, e3⟩ | ⟨l3, h3, e3, m3, n3⟩
        · have HR : Hid (Um.seq4 (Um.timesR al bl) (Um.timesR al bh) (Um.timesR ah bl) (Um.timesR ah bh) = (0, 0, k)) := hid (by simp [Um.seq4, e3, e0, e1, e2, hk])
          have kk : (k != 0) = true := by simpa using hk
          clear hk m0 n0 m1 n1 m2 n2
          generalize Um.seq4 (Um.timesR al bl) (Um.timesR al bh) (Um.timesR ah bl) (Um.timesR ah bh) = R at *
          go_enter Tryz.func81, Tryz.ntmps81
          go_wp2_with (go_at_call 93; refine (times_drew _ _ _).mono ?_; rintro e w1 ⟨rfl, q, rfl⟩)
          repeat (first | (refine wp_loop_rounds 3 ?_) | (rw [rounds_succ]; go_wp2_with (go_at_call 93; refine (times_drew _ _ _).mono ?_; rintro e w1 ⟨rfl, q, rfl⟩)))
          go_returns
          rw [HR.out]
          exact ⟨rfl, _, _, _, rfl⟩
        · skip
          have HR : Hid (Um.seq4 (Um.timesR al bl) (Um.timesR al bh) (Um.timesR ah bl) (Um.timesR ah bh) = (Um.mn4 l0 l1 l2 l3, Um.mx4 h0 h1 h2 h3, 0)) := hid (by simp [Um.seq4, e0, e1, e2, e3])
          have b0 := hid ((Um.may_iff l0).1 m0)
          have c0 := hid ((Um.may_iff h0).1 n0)
          have b1 := hid ((Um.may_iff l1).1 m1)
          have c1 := hid ((Um.may_iff h1).1 n1)
          have b2 := hid ((Um.may_iff l2).1 m2)
          have c2 := hid ((Um.may_iff h2).1 n2)
          have b3 := hid ((Um.may_iff l3).1 m3)
          have c3 := hid ((Um.may_iff h3).1 n3)
          clear m0 n0 m1 n1 m2 n2 m3 n3
          generalize Um.seq4 (Um.timesR al bl) (Um.timesR al bh) (Um.timesR ah bl) (Um.timesR ah bh) = R at *
          go_enter Tryz.func81, Tryz.ntmps81
          go_wp2_with (go_at_call 93; refine (times_drew _ _ _).mono ?_; rintro e w1 ⟨rfl, q, rfl⟩)
          repeat (first | (refine wp_loop_rounds 3 ?_) | (rw [rounds_succ]; go_wp2_with (go_at_call 93; refine (times_drew _ _ _).mono ?_; rintro e w1 ⟨rfl, q, rfl⟩)))
          go_returns
          rw [HR.out]
          have b0 := b0.out
          have c0 := c0.out
          have b1 := b1.out
          have c1 := c1.out
          have b2 := b2.out
          have c2 := c2.out
          have b3 := b3.out
          have c3 := c3.out
          have E1 : min 1000000000 (min l0 (min l1 (min l2 l3))) = Um.mn4 l0 l1 l2 l3 := by unfold Um.mn4; omega
          have E2 : max (-1000000000) (max h0 (max h1 (max h2 h3))) = Um.mx4 h0 h1 h2 h3 := by unfold Um.mx4; omega
          rw [E1, E2]
          exact ⟨rfl, _, _, _, rfl⟩
end Go.Proofs.YthgehlonjoafmaaGreatDoor
