/-
  What package poly answers: anyBeyond, Check, CheckOver, timesAdd, at every argument.
-/
import Derived.Test.YthgehlonjoafmaaGreatDoorSpanAdd
import Derived.Test.YthgehlonjoafmaaGreatDoorSpanTimes
import Derived.Test.YthgehlonjoafmaaGreatDoorMaths
import Derived.Test.YthgehlonjoafmaaGreatDoorMems
import Derived.LoopTactic
namespace Go.Proofs.YthgehlonjoafmaaGreatDoor
set_option linter.unusedSimpArgs false
open Go.RowKit

theorem closure_any (n : Int) (w : World) :
    Calls Tryz.prog 94 #[.int .i64 n] w fun e w' => e = .returned (.bool (!Um.may n)) ∧ w' = w := by
  go_enter Tryz.func94, Tryz.ntmps94
  go_wp2_with (go_at_call 75; refine (mayBe_any _ _).mono ?_; rintro e w1 ⟨rfl, rfl⟩)
  go_returns
  exact ⟨rfl, rfl⟩

set_option maxHeartbeats 1000000 in
theorem indexFunc_any (B : Nat) (p : List Int) (v : Value) (w : World) (hl : Li B w v p) (h0 : p ≠ []) (h5 : p.length ≤ 5) :
    Calls Tryz.prog 97 #[v, .func (.func 94) #[] #[]] w fun e w' => (∃ k : Int, e = .returned (.int .i64 k) ∧ decide (0 ≤ k) = !p.all Um.may) ∧ w' = w := by
  obtain ⟨b, off, cap, rfl, hlt, hc⟩ := hl.out h0
  clear hl h0
  go_enter Tryz.func97, Tryz.ntmps97
  go_wp2
  go_loop [8] (fun i => ∃ k : Nat, k ≤ p.length ∧ i = .int .i64 k ∧ Hid (∀ j, j < k → Um.may (p[j]?.getD 0) = true)) (fun i => p.length - (intOf i).toNat)
  case atStart => exact ⟨0, Nat.zero_le _, rfl, fun j hj => absurd hj (Nat.not_lt_zero _)⟩
  case round =>
    obtain ⟨k, hk, rfl, hall⟩ := hrel
    by_cases hlt : k < p.length
    · have hcx := hc k hlt
      have hin := hid (Um.at_mem hlt)
      have hkk : (k : Int) < (p.length : Int) := by omega
      have HX : Hid (∀ x, p[k]?.getD 0 = x → Um.may x = true → ∀ j, j < k + 1 → Um.may (p[j]?.getD 0) = true) := by
        rintro x rfl hx j hj
        rcases (by omega : j < k ∨ j = k) with h | rfl
        · exact hall.out j h
        · exact hx
      have HE : Hid (p[k]?.getD 0 = p[k]?.getD 0) := rfl
      generalize hg : p[k]?.getD 0 = x at hcx hin HE
      have HG := hid hg
      clear hg hc hall HE
      cases hm : Um.may x
      · go_wp2_with (go_at_call 94; refine (closure_any _ _).mono ?_; rintro e w1 ⟨rfl, rfl⟩)
        go_returns
        refine ⟨⟨_, rfl, ?_⟩, rfl⟩
        have : p.all Um.may = false := by
          rw [← Bool.not_eq_true, List.all_eq_true]
          intro h
          rw [h x hin.out] at hm; cases hm
        rw [this]; simp
      · go_wp2_with (go_at_call 94; refine (closure_any _ _).mono ?_; rintro e w1 ⟨rfl, rfl⟩)
        exact ⟨⟨k + 1, by omega, rfl, HX.out x HG.out hm⟩, by simp [intOf]; omega⟩
    · obtain rfl : k = p.length := by omega
      clear hc
      go_wp2
      go_returns
      refine ⟨⟨_, rfl, ?_⟩, rfl⟩
      have : p.all Um.may = true := by
        rw [List.all_eq_true]
        intro c hcm
        obtain ⟨j, hj, rfl⟩ := List.getElem_of_mem hcm
        have := hall.out j hj
        rwa [List.getElem?_eq_getElem hj] at this
      rw [this]; simp

theorem anyBeyond_any (B : Nat) (p : List Int) (v : Value) (w : World) (hl : Li B w v p) (h0 : p ≠ []) (h5 : p.length ≤ 5) :
    Calls Tryz.prog 76 #[v] w fun e w' => e = .returned (.bool (!p.all Um.may)) ∧ w' = w := by
  have HI := fun w hl => hid (indexFunc_any B p v w hl h0 h5)
  obtain ⟨b, off, cap, rfl, hlt, hc⟩ := hl.out h0
  go_enter Tryz.func76, Tryz.ntmps76
  go_wp2_with (first | (go_at_call 97; refine (HI _ hl).out.mono ?_; rintro e w1 ⟨⟨k, rfl, hk⟩, rfl⟩) | go_in)
  go_returns
  rw [← hk]
  exact ⟨rfl, rfl⟩

theorem pchk_none : Um.pchk [] = 5 := rfl
theorem pchk_full {p : List Int} (h : 5 < p.length) : Um.pchk p = 4 := by
  unfold Um.pchk
  rw [if_neg (by rintro rfl; simp at h), if_pos h]
theorem pchk_may {p : List Int} (h0 : p ≠ []) (h5 : ¬ 5 < p.length) : Um.pchk p = if p.all Um.may = true then 0 else 1 := by
  unfold Um.pchk
  rw [if_neg h0, if_neg h5]

set_option maxHeartbeats 1000000 in
theorem pcheck_any (B : Nat) (p : List Int) (v : Value) (w : World) (hl : Li B w v p) :
    Calls Tryz.prog 59 #[v] w fun e w' => e = .returned (errV (Um.pchk p)) ∧ w' = w := by
  by_cases h0 : p = []
  · subst h0
    obtain ⟨a, cap, rfl, -⟩ := hl
    have z : (([] : List Int).length) = 0 := rfl
    rw [pchk_none, z]
    go_enter Tryz.func59, Tryz.ntmps59
    go_wp2
    go_returns
    exact ⟨rfl, rfl⟩
  · have hp : 0 < p.length := List.length_pos_iff.2 h0
    by_cases h5 : 5 < p.length
    · obtain ⟨a, cap, rfl, -⟩ := hl
      have z : ((p.length : Int) == 0) = false := by simpa using h0
      have z2 : decide (5 < (p.length : Int)) = true := by simp; omega
      rw [pchk_full h5]
      clear h0 h5
      go_enter Tryz.func59, Tryz.ntmps59
      go_wp2
      go_returns
      exact ⟨rfl, rfl⟩
    · have HA := fun w hl => hid (anyBeyond_any B p v w hl h0 (by omega))
      obtain ⟨a, cap, rfl, -⟩ := (id hl)
      have z : ((p.length : Int) == 0) = false := by simpa using h0
      have z2 : decide (5 < (p.length : Int)) = false := by simp; omega
      rw [pchk_may h0 h5]
      clear h0 h5
      cases hm : p.all Um.may
      all_goals
        rw [hm] at HA
        clear hm
        go_enter Tryz.func59, Tryz.ntmps59
        go_wp2_with (go_at_call 76; refine (HA _ hl).out.mono ?_; rintro e w1 ⟨rfl, rfl⟩)
        go_returns
        exact ⟨rfl, rfl⟩

theorem over_poly {p : List Int} {lo hi : Int} (h : ¬ Um.pchk p = 0) : Um.over p lo hi = Um.pchk p := by unfold Um.over; rw [if_neg h]
theorem over_span {p : List Int} {lo hi : Int} (h : Um.pchk p = 0) : Um.over p lo hi = Um.chk lo hi := by unfold Um.over; rw [if_pos h]

set_option maxHeartbeats 1000000 in
theorem checkOver_any (p : List Int) (v : Value) (lo hi : Int) (w : World) (hl : Li w.heap.size w v p) :
    Calls Tryz.prog 38 #[v, .agg #[.int .i64 lo, .int .i64 hi]] w fun e w' => e = .returned (errV (Um.over p lo hi)) ∧ Below w.heap.size w w' := by
  have q1 := errG
  have q2 := errGn
  have q3 := errE
  have q4 := errN
  have HP := fun w1 hl => hid (pcheck_any w.heap.size p v w1 hl)
  have hl2 := hl.keep ((Below.refl _ _).alloc (Nat.le_refl _) (.cells #[.int .i64 lo, .int .i64 hi] 49))
  obtain ⟨a, cap, rfl, -⟩ := hl
  by_cases h : Um.pchk p = 0
  · have k : (Um.pchk p != 0) = false := by simpa using h
    rw [over_span h]
    clear h
    go_enter Tryz.func38, Tryz.ntmps38
    go_wp2_with (first | (go_at_call 59; refine (HP _ hl2).out.mono ?_; rintro e w1 ⟨rfl, rfl⟩) | (go_at_call 60; refine (check_any _ _ _).mono ?_; rintro e w1 ⟨rfl, rfl⟩))
    go_returns
    exact ⟨rfl, by go_grown⟩
  · have k : (Um.pchk p != 0) = true := by simpa using h
    rw [over_poly h]
    clear h
    go_enter Tryz.func38, Tryz.ntmps38
    go_wp2_with (first | (go_at_call 59; refine (HP _ hl2).out.mono ?_; rintro e w1 ⟨rfl, rfl⟩) | (go_at_call 60; refine (check_any _ _ _).mono ?_; rintro e w1 ⟨rfl, rfl⟩))
    go_returns
    exact ⟨rfl, by go_grown⟩

theorem alone_any (n : Int) (w : World) :
    Calls Tryz.prog 42 #[.int .i64 n] w fun e w' => e = .returned (.agg #[.int .i64 n, .int .i64 n]) ∧ w' = w.alloc (.cells #[.int .i64 n, .int .i64 n] 49) := by
  go_enter Tryz.func42, Tryz.ntmps42
  go_wp2
  go_returns
  exact ⟨rfl, rfl⟩

set_option maxHeartbeats 1000000 in
theorem timesAdd_any (al ah bl bh cl ch : Int) (w : World) :
    Calls Tryz.prog 78 #[.agg #[.int .i64 al, .int .i64 ah], .agg #[.int .i64 bl, .int .i64 bh], .agg #[.int .i64 cl, .int .i64 ch]] w fun e w' => e = .returned (.tuple #[.agg #[.int .i64 (Um.taR al ah bl bh cl ch).1, .int .i64 (Um.taR al ah bl bh cl ch).2.1], errV (Um.taR al ah bl bh cl ch).2.2]) ∧ Below w.heap.size w w' := by
  have q1 := errG
  have q2 := errGn
  have q3 := errE
  have q4 := errN
  have HT := fun w => hid (stimes_any al ah bl bh w)
  have HR : Hid (Um.taR al ah bl bh cl ch = if (Um.made (Um.stimesR al ah bl bh) al ah bl bh).2.2 = 0 then Um.made (Um.addR (Um.made (Um.stimesR al ah bl bh) al ah bl bh).1 (Um.made (Um.stimesR al ah bl bh) al ah bl bh).2.1 cl ch) (Um.made (Um.stimesR al ah bl bh) al ah bl bh).1 (Um.made (Um.stimesR al ah bl bh) al ah bl bh).2.1 cl ch
  else (0, 0, (Um.made (Um.stimesR al ah bl bh) al ah bl bh).2.2)) := rfl
  generalize Um.made (Um.stimesR al ah bl bh) al ah bl bh = T at *
  generalize Um.taR al ah bl bh cl ch = R at *
  have hC0 : Sp (((w.alloc (.cells #[.int .i64 al, .int .i64 ah] 49)).alloc (.cells #[.int .i64 bl, .int .i64 bh] 49)).alloc (.cells #[.int .i64 cl, .int .i64 ch] 49)) (w.heap.size + 1 + 1) cl ch := by simpa using Sp.new ((w.alloc (.cells #[.int .i64 al, .int .i64 ah] 49)).alloc (.cells #[.int .i64 bl, .int .i64 bh] 49)) cl ch
  have hR0 : Sp ((((w.alloc (.cells #[.int .i64 al, .int .i64 ah] 49)).alloc (.cells #[.int .i64 bl, .int .i64 bh] 49)).alloc (.cells #[.int .i64 cl, .int .i64 ch] 49)).alloc (.cells #[.int .i64 0, .int .i64 0] 49)) (w.heap.size + 1 + 1 + 1) 0 0 := by simpa using Sp.new (((w.alloc (.cells #[.int .i64 al, .int .i64 ah] 49)).alloc (.cells #[.int .i64 bl, .int .i64 bh] 49)).alloc (.cells #[.int .i64 cl, .int .i64 ch] 49)) 0 0
  replace hC0 := hC0.alloc (.cells #[.int .i64 0, .int .i64 0] 49)
  have hB0 : Below w.heap.size w ((((w.alloc (.cells #[.int .i64 al, .int .i64 ah] 49)).alloc (.cells #[.int .i64 bl, .int .i64 bh] 49)).alloc (.cells #[.int .i64 cl, .int .i64 ch] 49)).alloc (.cells #[.int .i64 0, .int .i64 0] 49)) := by go_grown
  by_cases h : T.2.2 = 0
  · have HH : Hid (R = Um.made (Um.addR T.1 T.2.1 cl ch) T.1 T.2.1 cl ch) := by rw [HR.out, if_pos h]; rfl
    have k : (T.2.2 != 0) = false := by simpa using h
    clear HR h
    go_enter Tryz.func78, Tryz.ntmps78
    go_wp2_with (first | (go_at_call 74; refine (HT _).out.mono ?_; rintro e w1 ⟨rfl, hb⟩; replace hB0 := hB0.trans (hb.mono hB0.size); replace hC0 := hC0.step hb; replace hR0 := hR0.step hb; clear hb; have c1 := hC0.lo; have c2 := hC0.hi; have c3 := hC0.lt; have hz := hB0.size) | (go_at_call 37; refine (add_any _ _ _ _ _).mono ?_; rintro e w2 ⟨rfl, hb⟩; replace hB0 := (hB0.alloc hz _).trans (hb.mono (by simp; omega)); replace hR0 := (hR0.alloc _).step hb; clear hb c1 c2 c3 hC0 hz; have y1 := hR0.fl; have y2 := hR0.fh; have y3 := hR0.lo; have y4 := hR0.hi; have y6 := hR0.r0; have y7 := hR0.r1))
    refine bodyPost_ret (by simp [results, Tryz.results78, go_sem, y6, y7]; try rfl) rfl ?_
    rw [HH.out]
    exact ⟨rfl, (hB0.setCell (by simp only []; omega) _).setCell (by simp only []; omega) _⟩
  · have HH : Hid (R = (0, 0, T.2.2)) := by rw [HR.out, if_neg h]; rfl
    have k : (T.2.2 != 0) = true := by simpa using h
    clear HR h
    go_enter Tryz.func78, Tryz.ntmps78
    go_wp2_with (go_at_call 74; refine (HT _).out.mono ?_; rintro e w1 ⟨rfl, hb⟩; replace hB0 := hB0.trans (hb.mono hB0.size); replace hR0 := hR0.step hb; clear hb hC0; have y1 := hR0.fl; have y2 := hR0.fh; have y3 := hR0.lo; have y4 := hR0.hi; have y5 := hR0.lt; have hz := hB0.size; have y6 := ((hR0.set 0 0).alloc (.cells #[.int .i64 T.1, .int .i64 T.2.1] 49)).lo; have y7 := ((hR0.set 0 0).alloc (.cells #[.int .i64 T.1, .int .i64 T.2.1] 49)).hi)
    refine bodyPost_ret (by simp [results, Tryz.results78, go_sem, y6, y7]; try rfl) rfl ?_
    rw [HH.out]
    exact ⟨rfl, ((hB0.setCell (by simp only []; omega) _).setCell (by simp only []; omega) _).alloc (by simp; omega) _⟩
end Go.Proofs.YthgehlonjoafmaaGreatDoor
