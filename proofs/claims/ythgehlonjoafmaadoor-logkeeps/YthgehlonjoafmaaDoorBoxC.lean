/-
  What package box answers: Check, checkTwo at every argument, widest of a right box.
-/
import Derived.Test.YthgehlonjoafmaaDoorSpan
import Derived.Test.YthgehlonjoafmaaDoorSpanC
import Derived.Test.YthgehlonjoafmaaDoorMems
import Derived.Test.YthgehlonjoafmaaDoorMaths2
namespace Go.Proofs.YthgehlonjoafmaaDoor
set_option linter.unusedSimpArgs false
open Go.RowKit

set_option maxHeartbeats 4000000 in
theorem bcheck_some (q : List (Int × Int)) (v : Value) (w : World) (hs : Ls w.heap.size w v q) (h0 : q ≠ []) (h3 : q.length ≤ 3) :
    Calls Tryd.prog 13 #[v] w fun e w' => e = .returned (errV (Um.sidesF q)) ∧ Below w.heap.size w w' := by
  have v0 := errV_none
  have q1 := errG
  have q2 := errGn
  have q3 := errE
  have q4 := errN
  have HC := fun w hs => hid (checkAll_some q v w hs h0 h3)
  obtain ⟨a, cap, rfl, -⟩ := (id hs)
  have z : ((q.length : Int) == 0) = false := by simpa using h0
  have z2 : decide (3 < (q.length : Int)) = false := by simp; omega
  clear h0 h3
  go_enter Tryd.func13, Tryd.ntmps13
  go_wp2_with (go_at_call 28; refine (HC _ hs).out.mono ?_; rintro e wn ⟨rfl, hb⟩)
  go_returns
  exact ⟨rfl, hb⟩

set_option maxHeartbeats 1000000 in
theorem bcheck_any (q : List (Int × Int)) (v : Value) (w : World) (hs : Ls w.heap.size w v q) :
    Calls Tryd.prog 13 #[v] w fun e w' => e = .returned (errV (Um.boxF q)) ∧ Below w.heap.size w w' := by
  by_cases h0 : q = []
  · subst h0
    obtain ⟨a, cap, rfl, -⟩ := hs
    have z : (([] : List (Int × Int)).length) = 0 := rfl
    rw [z, show Um.boxF [] = 5 from rfl]
    go_enter Tryd.func13, Tryd.ntmps13
    go_wp2
    go_returns
    exact ⟨rfl, Below.refl _ _⟩
  · by_cases h3 : 3 < q.length
    · obtain ⟨a, cap, rfl, -⟩ := hs
      have z : ((q.length : Int) == 0) = false := by simpa using h0
      have z2 : decide (3 < (q.length : Int)) = true := by simp; omega
      have e : Um.boxF q = 4 := by unfold Um.boxF; rw [if_neg h0, if_pos h3]
      rw [e]
      clear h0 h3 e
      go_enter Tryd.func13, Tryd.ntmps13
      go_wp2
      go_returns
      exact ⟨rfl, Below.refl _ _⟩
    · have e : Um.boxF q = Um.sidesF q := by unfold Um.boxF; rw [if_neg h0, if_neg h3]
      rw [e]
      exact bcheck_some q v w hs h0 (by omega)

/-- Of two, one behind the other. -/
theorem bothF_a {a b : List (Int × Int)} (h : ¬ Um.boxF a = 0) : Um.boxesF a b = Um.boxF a := by unfold Um.boxesF; rw [if_neg h]
theorem bothF_b {a b : List (Int × Int)} (h : Um.boxF a = 0) (h2 : ¬ Um.boxF b = 0) : Um.boxesF a b = Um.boxF b := by unfold Um.boxesF; rw [if_pos h, if_neg h2]
theorem bothF_n {a b : List (Int × Int)} (h : Um.boxF a = 0) (h2 : Um.boxF b = 0) (h3 : ¬ a.length = b.length) : Um.boxesF a b = 3 := by unfold Um.boxesF; rw [if_pos h, if_pos h2, if_neg h3]
theorem bothF_y {a b : List (Int × Int)} (h : Um.boxF a = 0) (h2 : Um.boxF b = 0) (h3 : a.length = b.length) : Um.boxesF a b = 0 := by unfold Um.boxesF; rw [if_pos h, if_pos h2, if_pos h3]
set_option maxHeartbeats 2000000 in
theorem checkTwo_any (a b : List (Int × Int)) (u v : Value) (w : World) (hs1 : Ls w.heap.size w u a) (hs2 : Ls w.heap.size w v b) :
    Calls Tryd.prog 46 #[u, v] w fun e w' => e = .returned (errV (Um.boxesF a b)) ∧ Below w.heap.size w w' := by
  have v0 := errV_none
  have q1 := errG
  have q2 := errGn
  have q3 := errE
  have q4 := errN
  have HA := fun w hs => hid (bcheck_any a u w hs)
  have HB := fun w hs => hid (bcheck_any b v w hs)
  have hF := Fr.start w
  by_cases h1 : Um.boxF a = 0
  · rw [h1] at HA
    by_cases h2 : Um.boxF b = 0
    · rw [h2] at HB
      have L : Hid (Um.boxesF a b = if a.length = b.length then 0 else 3) := by unfold Um.boxesF; rw [if_pos h1, if_pos h2]; exact rfl
      clear h1 h2
      by_cases h3 : a.length = b.length
      · rw [if_pos h3] at L
        have t : ((a.length : Int) != (b.length : Int)) = false := by simp [h3]
        obtain ⟨a1, c1, rfl, -⟩ := (id hs1)
        obtain ⟨a2, c2, rfl, -⟩ := (id hs2)
        clear h3
        generalize a.length = n1 at *
        generalize b.length = n2 at *
        go_enter Tryd.func46, Tryd.ntmps46
        go_wp2_with (first | (go_at_call 13; refine (HA _ hs1).out.mono ?_; rintro e wn ⟨rfl, hb⟩; replace hF := hF.step hb; replace hs2 := hs2.step hb; clear hb HA hs1) | (go_at_call 13; refine (HB _ hs2).out.mono ?_; rintro e wn ⟨rfl, hb⟩; replace hF := hF.step hb; clear hb))
        go_returns
        rw [L.out, errV_none]
        exact ⟨rfl, hF.below⟩
      · rw [if_neg h3] at L
        have t : ((a.length : Int) != (b.length : Int)) = true := by simp; omega
        obtain ⟨a1, c1, rfl, -⟩ := (id hs1)
        obtain ⟨a2, c2, rfl, -⟩ := (id hs2)
        clear h3
        generalize a.length = n1 at *
        generalize b.length = n2 at *
        go_enter Tryd.func46, Tryd.ntmps46
        go_wp2_with (first | (go_at_call 13; refine (HA _ hs1).out.mono ?_; rintro e wn ⟨rfl, hb⟩; replace hF := hF.step hb; replace hs2 := hs2.step hb; clear hb HA hs1) | (go_at_call 13; refine (HB _ hs2).out.mono ?_; rintro e wn ⟨rfl, hb⟩; replace hF := hF.step hb; clear hb))
        go_returns
        rw [L.out]
        exact ⟨rfl, hF.below⟩
    · have L := hid (bothF_b h1 h2)
      have kb : (Um.boxF b != 0) = true := by simpa using h2
      clear h1 h2
      generalize Um.boxF b = G at *
      obtain ⟨a1, c1, rfl, -⟩ := (id hs1)
      obtain ⟨a2, c2, rfl, -⟩ := (id hs2)
      go_enter Tryd.func46, Tryd.ntmps46
      go_wp2_with (first | (go_at_call 13; refine (HA _ hs1).out.mono ?_; rintro e wn ⟨rfl, hb⟩; replace hF := hF.step hb; replace hs2 := hs2.step hb; clear hb HA hs1) | (go_at_call 13; refine (HB _ hs2).out.mono ?_; rintro e wn ⟨rfl, hb⟩; replace hF := hF.step hb; clear hb))
      go_returns
      rw [L.out]
      exact ⟨rfl, hF.below⟩
  · have L := hid (bothF_a (b := b) h1)
    have kb : (Um.boxF a != 0) = true := by simpa using h1
    clear h1 HB
    generalize Um.boxF a = G at *
    obtain ⟨a1, c1, rfl, -⟩ := (id hs1)
    obtain ⟨a2, c2, rfl, -⟩ := (id hs2)
    go_enter Tryd.func46, Tryd.ntmps46
    go_wp2_with (go_at_call 13; refine (HA _ hs1).out.mono ?_; rintro e wn ⟨rfl, hb⟩; replace hF := hF.step hb; clear hb HA hs1)
    go_returns
    rw [L.out]
    exact ⟨rfl, hF.below⟩

theorem side_b {q : List (Int × Int)} (h : Um.boxF q = 0) {i : Nat} (hi : i < q.length) : -1000000000 ≤ (Um.sd q i).1 ∧ (Um.sd q i).1 ≤ 1000000000 ∧ -1000000000 ≤ (Um.sd q i).2 ∧ (Um.sd q i).2 ≤ 1000000000 ∧ (Um.sd q i).1 ≤ (Um.sd q i).2 := by
  obtain ⟨m1, m2, m3⟩ := Um.chk_ok.1 (Um.box_side h hi)
  rw [Um.may_iff] at m1 m2
  exact ⟨m1.1, m1.2, m2.1, m2.2, m3⟩
/-- Where the widest stands among the first k. -/
def wideK (q : List (Int × Int)) (k : Nat) : Nat := Um.wideN q (k - 1)
theorem wideK_next (q : List (Int × Int)) (k : Nat) : wideK q (k + 1) = if (Um.sd q (wideK q k)).2 - (Um.sd q (wideK q k)).1 < (Um.sd q k).2 - (Um.sd q k).1 then k else wideK q k := by
  cases k with
  | zero =>
    show 0 = if (Um.sd q 0).2 - (Um.sd q 0).1 < (Um.sd q 0).2 - (Um.sd q 0).1 then 0 else 0
    rw [if_neg (by omega)]
  | succ k => exact Um.wide_succ q k
theorem wideK_le {q : List (Int × Int)} {k n : Nat} (h0 : 0 < n) (h : k ≤ n) : wideK q k < n := by
  have := Um.wide_le q (k - 1)
  unfold wideK
  omega
end Go.Proofs.YthgehlonjoafmaaDoor
