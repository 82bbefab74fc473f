/-
  The walk over 'spanlaw4.PolyFlat': for all n, x it returns true.
-/
import Derived.Test.YtfmjndipanlcoaaPolyH
import Derived.Test.YtfmjndipanlcoaaPolyP
import Derived.Test.YtfmjndipanlcoaaPolyD
namespace Go.Proofs.Ytfmjndipanlcoaa.Flat
set_option linter.unusedSimpArgs false
open Go.RowKit

theorem horn_right {n lo hi : Int} (h : Um.over [n] lo hi = 0) : Um.hornAll [n] lo hi = (n, n, 0) := by unfold Um.hornAll; rw [if_pos h]; rfl
theorem pows_right {n lo hi : Int} (h : Um.over [n] lo hi = 0) : Um.powsAll [n] lo hi = (n, n, 0) := by
  unfold Um.powsAll
  rw [if_pos h]
  exact Um.flat ((Um.pchk_ok.1 (Um.over_ok.1 h).1).2.2 n (by simp))
theorem horn_wrong {n lo hi : Int} (h : ¬ Um.over [n] lo hi = 0) : Um.hornAll [n] lo hi = (0, 0, Um.over [n] lo hi) := by unfold Um.hornAll; rw [if_neg h]
theorem pows_wrong {n lo hi : Int} (h : ¬ Um.over [n] lo hi = 0) : Um.powsAll [n] lo hi = (0, 0, Um.over [n] lo hi) := by unfold Um.powsAll; rw [if_neg h]
theorem der_right {n lo hi : Int} (h : Um.over [n] lo hi = 0) : derAll [n] = ([0], 0) := by unfold derAll; rw [if_pos (Um.over_ok.1 h).1]; rfl

set_option maxHeartbeats 2000000 in
theorem walk_right (n lo hi : Int) (w : World) (h : Um.over [n] lo hi = 0) :
    Calls Try.prog 5 #[.int .i64 n, .agg #[.int .i64 lo, .int .i64 hi]] w fun e w' => e = .returned (.bool true) ∧ Below w.heap.size w w' := by
  have v0 := errV_none
  have HH := fun v w hl => hid (horner_any [n] v lo hi w hl)
  have HP := fun v w hl => hid (powers_any [n] v lo hi w hl)
  have HD := fun v w hl => hid (derive_any [n] v w hl)
  rw [horn_right h] at HH
  rw [pows_right h] at HP
  rw [der_right h] at HD
  clear h
  have hX := Sp.new w lo hi
  have hB : Below w.heap.size w (w.alloc (.cells #[.int .i64 lo, .int .i64 hi] 23)) := by go_grown
  have x1 := hX.lo
  have x2 := hX.hi
  have x3 := hX.lt
  go_enter Try.func5, Try.ntmps5
  go_wp2_with (first | (go_at_call 15; refine (HH _ _ (Li.one' n _ (by simp))).out.mono ?_; rintro e w1 ⟨rfl, hb⟩; replace hX := (hX.alloc _).step hb; replace hB := (hB.alloc hB.size _).trans (hb.mono (by simp; omega)); clear hb x1 x2 x3; have hA := Sp.new w1 n n; have x1 := hX.lo; have x2 := hX.hi; have x3 := hX.lt) | (go_at_call 18; refine (HP _ _ (Li.one' n _ (by simp))).out.mono ?_; rintro e w2 ⟨rfl, hb⟩; replace hA := (hA.alloc _).step hb; replace hB := ((hB.alloc hB.size _).alloc (by have := hB.size; simp; omega) _).trans (hb.mono (by have := hB.size; simp; omega)); clear hb x1 x2 x3 hX; have hC := Sp.new w2 n n) | (go_at_call 19; refine (HD _ _ (Li.one' n _ (by simp))).out.mono ?_; rintro e w3 ⟨v', rfl, hl, hb⟩; replace hA := ((hA.alloc _).alloc _).step hb; replace hC := (hC.alloc _).step hb; replace hB := ((hB.alloc hB.size _).alloc (by have := hB.size; simp; omega) _).trans (hb.mono (by have := hB.size; simp; omega)); clear hb; obtain ⟨bd, od, cd, rfl, -, hd⟩ := hl.out (by simp); have d0 : w3.cell? ⟨bd, od, none⟩ = some (.int .i64 0) := hd 0 (by simp); clear hd hl; have a1 := hA.lo; have a2 := hA.hi; have c1 := hC.lo; have c2 := hC.hi))
  go_returns
  exact ⟨rfl, hB⟩

set_option maxHeartbeats 2000000 in
theorem walk_wrong (n lo hi : Int) (w : World) (h : ¬ Um.over [n] lo hi = 0) :
    Calls Try.prog 5 #[.int .i64 n, .agg #[.int .i64 lo, .int .i64 hi]] w fun e w' => e = .returned (.bool true) ∧ Below w.heap.size w w' := by
  have q1 := errG
  have q2 := errGn
  have q3 := errE
  have q4 := errN
  have HH := fun v w hl => hid (horner_any [n] v lo hi w hl)
  have HP := fun v w hl => hid (powers_any [n] v lo hi w hl)
  have HD := fun v w hl => hid (derive_any [n] v w hl)
  rw [horn_wrong h] at HH
  rw [pows_wrong h] at HP
  have k : (Um.over [n] lo hi != 0) = true := by simpa using h
  clear h
  generalize Um.over [n] lo hi = T at *
  have hX := Sp.new w lo hi
  have hB : Below w.heap.size w (w.alloc (.cells #[.int .i64 lo, .int .i64 hi] 23)) := by go_grown
  have x1 := hX.lo
  have x2 := hX.hi
  have x3 := hX.lt
  go_enter Try.func5, Try.ntmps5
  go_wp2_with (first | (go_at_call 15; refine (HH _ _ (Li.one' n _ (by simp))).out.mono ?_; rintro e w1 ⟨rfl, hb⟩; replace hX := (hX.alloc _).step hb; replace hB := (hB.alloc hB.size _).trans (hb.mono (by simp; omega)); clear hb x1 x2 x3; have x1 := hX.lo; have x2 := hX.hi; have x3 := hX.lt) | (go_at_call 18; refine (HP _ _ (Li.one' n _ (by simp))).out.mono ?_; rintro e w2 ⟨rfl, hb⟩; replace hB := ((hB.alloc hB.size _).alloc (by have := hB.size; simp; omega) _).trans (hb.mono (by have := hB.size; simp; omega)); clear hb x1 x2 x3 hX) | (go_at_call 19; refine (HD _ _ (Li.one' n _ (by simp))).out.mono ?_; rintro e w3 ⟨v', rfl, hl, hb⟩; replace hB := ((hB.alloc hB.size _).alloc (by have := hB.size; simp; omega) _).trans (hb.mono (by have := hB.size; simp; omega)); clear hb hl))
  go_returns
  exact ⟨rfl, hB⟩

theorem walk (n lo hi : Int) (w : World) :
    Calls Try.prog 5 #[.int .i64 n, .agg #[.int .i64 lo, .int .i64 hi]] w fun e w' => e = .returned (.bool true) ∧ Below w.heap.size w w' := by
  by_cases h : Um.over [n] lo hi = 0
  · exact walk_right n lo hi w h
  · exact walk_wrong n lo hi w h
end Go.Proofs.Ytfmjndipanlcoaa.Flat
