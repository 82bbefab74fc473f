/-
  What package form answers: isInReach, timesMayBe, checkTerm, Check at every argument; slices.ContainsFunc with the closures of package form.
-/
import Derived.Test.YthgehlonjoafmaaGreatDoorBase
import Derived.Test.YthgehlonjoafmaaGreatDoorMems
import Derived.Test.YthgehlonjoafmaaGreatDoorMems2
import Derived.Test.YthgehlonjoafmaaGreatDoorMaths3
import Derived.LoopTactic
namespace Go.Proofs.YthgehlonjoafmaaGreatDoor
set_option linter.unusedSimpArgs false
open Go.RowKit

theorem notZero_any (n : Int) (w : World) :
    Calls Tryz.prog 88 #[.int .i64 n] w fun e w' => e = .returned (.bool (!(n == 0))) ∧ w' = w := by
  go_enter Tryz.func88, Tryz.ntmps88
  go_wp2
  go_returns
  exact ⟨rfl, rfl⟩

/-- Is it none? -/
def isNone (n : Int) : Bool := n == 0
theorem notNone_any (n : Int) (w : World) :
    Calls Tryz.prog 88 #[.int .i64 n] w fun e w' => e = .returned (.bool (!isNone n)) ∧ w' = w := notZero_any n w

set_option maxHeartbeats 2000000 in
theorem index_none (p : List Int) (v : Value) (w : World) (hl : Li w.heap.size w v p) (h3 : p.length ≤ 3) :
    Calls Tryz.prog 97 #[v, .func (.func 88) #[] #[]] w fun e w' => (∃ k : Int, e = .returned (.int .i64 k) ∧ decide (0 ≤ k) = !p.all isNone) ∧ w' = w := by
  obtain ⟨a0, cap0, rfl, hor⟩ := hl
  have HOR := hid hor
  clear hor
  go_enter Tryz.func97, Tryz.ntmps97
  go_wp2
  go_loop [8] (fun i => ∃ k : Nat, k ≤ p.length ∧ i = .int .i64 k ∧ Hid (∀ j, j < k → isNone (p[j]?.getD 0) = true)) (fun i => p.length - (intOf i).toNat)
  case atStart => exact ⟨0, Nat.zero_le _, rfl, fun j hj => absurd hj (Nat.not_lt_zero _)⟩
  case round =>
    obtain ⟨k, hk, rfl, hall⟩ := hrel
    by_cases hlt : k < p.length
    · rcases HOR.out with e | ⟨b, off, rfl, hltb, hc⟩
      · rw [e] at hlt; simp at hlt
      have hcx := hc k hlt
      have hin : Hid (p[k]?.getD 0 ∈ p) := hid (Um.at_mem hlt)
      have hkk : (k : Int) < (p.length : Int) := by omega
      have HX : Hid (∀ x, p[k]?.getD 0 = x → isNone x = true → ∀ j, j < k + 1 → isNone (p[j]?.getD 0) = true) := by
        rintro x rfl hx j hj
        rcases (by omega : j < k ∨ j = k) with h | rfl
        · exact hall.out j h
        · exact hx
      have HE : Hid (p[k]?.getD 0 = p[k]?.getD 0) := rfl
      generalize hg : p[k]?.getD 0 = x at hcx hin HE
      have HG := hid hg
      have HQ := fun w => hid (notNone_any x w)
      clear hg hc hall HE HOR
      cases hm : isNone x
      · have HF : Hid (p.all isNone = false) := by
          refine hid ?_
          rw [← Bool.not_eq_true, List.all_eq_true]
          intro h
          rw [h x hin.out] at hm; cases hm
        rw [hm] at HQ
        clear hm hin HX HG
        go_wp2_with (go_at_call 88; refine (HQ _).out.mono ?_; rintro e w1 ⟨rfl, rfl⟩)
        go_returns
        refine ⟨⟨_, rfl, ?_⟩, rfl⟩
        rw [HF.out]; simp
      · have HY := hid (HX.out x HG.out hm)
        rw [hm] at HQ
        clear hm hin HX HG
        go_wp2_with (go_at_call 88; refine (HQ _).out.mono ?_; rintro e w1 ⟨rfl, rfl⟩)
        exact ⟨⟨k + 1, by omega, rfl, HY.out⟩, by simp [intOf]; omega⟩
    · obtain rfl : k = p.length := by omega
      have HF : Hid (p.all isNone = true) := by
        refine hid ?_
        rw [List.all_eq_true]
        intro c hcm
        obtain ⟨j, hj, rfl⟩ := List.getElem_of_mem hcm
        have := hall.out j hj
        rwa [List.getElem?_eq_getElem hj] at this
      clear HOR hall
      go_wp2
      go_returns
      refine ⟨⟨_, rfl, ?_⟩, rfl⟩
      rw [HF.out]; simp
theorem contains_none (p : List Int) (v : Value) (w : World) (hl : Li w.heap.size w v p) (h3 : p.length ≤ 3) :
    Calls Tryz.prog 87 #[v, .func (.func 88) #[] #[]] w fun e w' => e = .returned (.bool (!p.all isNone)) ∧ w' = w := by
  have HI := fun w hl => hid (index_none p v w hl h3)
  obtain ⟨a0, cap0, rfl, -⟩ := (id hl)
  go_enter Tryz.func87, Tryz.ntmps87
  go_wp2_with (go_at_call 97; refine (HI _ hl).out.mono ?_; rintro e w1 ⟨⟨k, rfl, hk⟩, rfl⟩)
  go_returns
  rw [← hk]
  exact ⟨rfl, rfl⟩

/-- May each time, and all of them together, be? -/
def timB (a b c : Int) : Bool := decide (Um.inr a ∧ Um.inr b ∧ Um.inr c ∧ a + b + c ≤ 3)
theorem ix30 (a b c : Int) (w : World) : (Instr.index 90 (.agg #[.int .i64 a, .int .i64 b, .int .i64 c]) (.int .i64 0)).run Tryz.prog w = .ok (.int .i64 a) w := by kernel_rfl
theorem ix31 (a b c : Int) (w : World) : (Instr.index 90 (.agg #[.int .i64 a, .int .i64 b, .int .i64 c]) (.int .i64 1)).run Tryz.prog w = .ok (.int .i64 b) w := by kernel_rfl
theorem ix32 (a b c : Int) (w : World) : (Instr.index 90 (.agg #[.int .i64 a, .int .i64 b, .int .i64 c]) (.int .i64 2)).run Tryz.prog w = .ok (.int .i64 c) w := by kernel_rfl
set_option maxHeartbeats 4000000 in
theorem timesMayBe_any (a b c : Int) (w : World) :
    Calls Tryz.prog 86 #[.agg #[.int .i64 a, .int .i64 b, .int .i64 c]] w fun e w' => e = .returned (.bool (timB a b c)) ∧ Below w.heap.size w w' := by
  have i0 := ix30
  have i1 := ix31
  have i2 := ix32
  by_cases l0 : a < 0
  · have HR : Hid (timB a b c = false) := hid (decide_eq_false (by rintro ⟨⟨_, _⟩, ⟨_, _⟩, ⟨_, _⟩, _⟩; omega))
    have d0 : decide (a < 0) = true := decide_eq_true l0
    clear l0
    go_enter Tryz.func86, Tryz.ntmps86
    go_wp2
    repeat (first | (refine wp_loop_rounds 4 ?_) | (rw [rounds_succ]; go_wp2))
    go_returns
    rw [HR.out]
    exact ⟨rfl, by go_grown⟩
  have d0 : decide (a < 0) = false := decide_eq_false l0
  by_cases g0 : 3 < a
  · have HR : Hid (timB a b c = false) := hid (decide_eq_false (by rintro ⟨⟨_, _⟩, ⟨_, _⟩, ⟨_, _⟩, _⟩; omega))
    have f0 : decide (3 < a) = true := decide_eq_true g0
    clear g0
    go_enter Tryz.func86, Tryz.ntmps86
    go_wp2
    repeat (first | (refine wp_loop_rounds 4 ?_) | (rw [rounds_succ]; go_wp2))
    go_returns
    rw [HR.out]
    exact ⟨rfl, by go_grown⟩
  have f0 : decide (3 < a) = false := decide_eq_false g0
  by_cases l1 : b < 0
  · have HR : Hid (timB a b c = false) := hid (decide_eq_false (by rintro ⟨⟨_, _⟩, ⟨_, _⟩, ⟨_, _⟩, _⟩; omega))
    have d1 : decide (b < 0) = true := decide_eq_true l1
    clear l1
    go_enter Tryz.func86, Tryz.ntmps86
    go_wp2
    repeat (first | (refine wp_loop_rounds 4 ?_) | (rw [rounds_succ]; go_wp2))
    go_returns
    rw [HR.out]
    exact ⟨rfl, by go_grown⟩
  have d1 : decide (b < 0) = false := decide_eq_false l1
  by_cases g1 : 3 < b
  · have HR : Hid (timB a b c = false) := hid (decide_eq_false (by rintro ⟨⟨_, _⟩, ⟨_, _⟩, ⟨_, _⟩, _⟩; omega))
    have f1 : decide (3 < b) = true := decide_eq_true g1
    clear g1
    go_enter Tryz.func86, Tryz.ntmps86
    go_wp2
    repeat (first | (refine wp_loop_rounds 4 ?_) | (rw [rounds_succ]; go_wp2))
    go_returns
    rw [HR.out]
    exact ⟨rfl, by go_grown⟩
  have f1 : decide (3 < b) = false := decide_eq_false g1
  by_cases l2 : c < 0
  · have HR : Hid (timB a b c = false) := hid (decide_eq_false (by rintro ⟨⟨_, _⟩, ⟨_, _⟩, ⟨_, _⟩, _⟩; omega))
    have d2 : decide (c < 0) = true := decide_eq_true l2
    clear l2
    go_enter Tryz.func86, Tryz.ntmps86
    go_wp2
    repeat (first | (refine wp_loop_rounds 4 ?_) | (rw [rounds_succ]; go_wp2))
    go_returns
    rw [HR.out]
    exact ⟨rfl, by go_grown⟩
  have d2 : decide (c < 0) = false := decide_eq_false l2
  by_cases g2 : 3 < c
  · have HR : Hid (timB a b c = false) := hid (decide_eq_false (by rintro ⟨⟨_, _⟩, ⟨_, _⟩, ⟨_, _⟩, _⟩; omega))
    have f2 : decide (3 < c) = true := decide_eq_true g2
    clear g2
    go_enter Tryz.func86, Tryz.ntmps86
    go_wp2
    repeat (first | (refine wp_loop_rounds 4 ?_) | (rw [rounds_succ]; go_wp2))
    go_returns
    rw [HR.out]
    exact ⟨rfl, by go_grown⟩
  have f2 : decide (3 < c) = false := decide_eq_false g2
  have HR : Hid (timB a b c = decide (a + b + c ≤ 3)) := hid (decide_eq_decide.2 ⟨fun h => h.2.2.2, fun h => ⟨⟨by omega, by omega⟩, ⟨by omega, by omega⟩, ⟨by omega, by omega⟩, h⟩⟩)
  go_enter Tryz.func86, Tryz.ntmps86
  go_wp2
  repeat (first | (refine wp_loop_rounds 4 ?_) | (rw [rounds_succ]; go_wp2))
  go_returns
  rw [HR.out]
  exact ⟨rfl, by go_grown⟩

theorem tail_0 (w : World) (a : Option Addr) (cap : Nat) : Li w.heap.size w (.slice a 0 cap) [] := ⟨_, cap, rfl, .inl rfl⟩
theorem tail_1 {w : World} {B : Nat} {y a b c : Int} (h : Blk w B 92 #[.int .i64 y, .int .i64 a, .int .i64 b, .int .i64 c]) (cap : Nat) : Li w.heap.size w (.slice (some ⟨B, 3, none⟩) 1 cap) [c] := by
  refine ⟨_, cap, rfl, .inr ⟨B, 3, rfl, h.lt, fun j hj => ?_⟩⟩
  obtain rfl : j = 0 := by simpa using hj
  exact h.cell 3 rfl
theorem tail_2 {w : World} {B : Nat} {y a b c : Int} (h : Blk w B 92 #[.int .i64 y, .int .i64 a, .int .i64 b, .int .i64 c]) (cap : Nat) : Li w.heap.size w (.slice (some ⟨B, 2, none⟩) 2 cap) [b, c] := by
  refine ⟨_, cap, rfl, .inr ⟨B, 2, rfl, h.lt, fun j hj => ?_⟩⟩
  rcases (by simp at hj; omega : j = 0 ∨ j = 1) with rfl | rfl
  · exact h.cell 2 rfl
  · exact h.cell 3 rfl

theorem term_times {y a b c sides : Int} (h : timB a b c = false) : Um.termF (y, a, b, c) sides = 1 := by
  unfold Um.termF
  rw [if_neg]
  rintro ⟨-, p1, p2, p3, p4⟩
  exact of_decide_eq_false h ⟨p1, p2, p3, p4⟩
theorem term_by {y a b c sides : Int} (h : Um.may y = false) : Um.termF (y, a, b, c) sides = 1 := by
  unfold Um.termF
  rw [if_neg]
  rintro ⟨p0, -⟩
  rw [h] at p0; cases p0
theorem term_is {y a b c sides : Int} (h : timB a b c = true) (hy : Um.may y = true) : Um.termF (y, a, b, c) sides = if (sides ≤ 1 ∧ 0 < b) ∨ (sides ≤ 2 ∧ 0 < c) then 3 else 0 := by
  have := of_decide_eq_true h
  unfold Um.termF
  rw [if_pos ⟨hy, this.1, this.2.1, this.2.2.1, this.2.2.2⟩]

set_option maxHeartbeats 2000000 in
theorem checkTerm_by (y a b c : Int) (w : World) (sides : Int) (hy : Um.may y = false) :
    Calls Tryz.prog 72 #[.agg #[.int .i64 y, .int .i64 a, .int .i64 b, .int .i64 c], .int .i64 sides] w fun e w' => e = .returned (errV 1) ∧ Below w.heap.size w w' := by
  have HM := fun w => by
    have := mayBe_any y w
    rw [hy] at this
    exact hid this
  go_enter Tryz.func72, Tryz.ntmps72
  go_wp2_with (go_at_call 75; refine (HM _).out.mono ?_; rintro e wn ⟨rfl, rfl⟩)
  go_returns
  exact ⟨rfl, by go_grown⟩
set_option maxHeartbeats 2000000 in
theorem checkTerm_times (y a b c : Int) (w : World) (sides : Int) (hy : Um.may y = true) (ht : timB a b c = false) :
    Calls Tryz.prog 72 #[.agg #[.int .i64 y, .int .i64 a, .int .i64 b, .int .i64 c], .int .i64 sides] w fun e w' => e = .returned (errV 1) ∧ Below w.heap.size w w' := by
  have HM := fun w => by
    have := mayBe_any y w
    rw [hy] at this
    exact hid this
  have HT := fun w => by
    have := timesMayBe_any a b c w
    rw [ht] at this
    exact hid this
  have hK := Blk.new w 92 #[.int .i64 y, .int .i64 a, .int .i64 b, .int .i64 c]
  have hF := (Fr.start w).alloc (.cells #[.int .i64 y, .int .i64 a, .int .i64 b, .int .i64 c] 92)
  go_enter Tryz.func72, Tryz.ntmps72
  go_wp2_with (first | (go_at_call 75; refine (HM _).out.mono ?_; rintro e wn ⟨rfl, rfl⟩) | (go_at_call 86; refine (HT _).out.mono ?_; rintro e wn ⟨rfl, hb⟩; replace hK := hK.step hb; replace hF := hF.step hb; clear hb))
  go_returns
  exact ⟨rfl, hF.below⟩
set_option maxHeartbeats 2000000 in
theorem checkTerm_1y (y a b c : Int) (w : World) (hy : Um.may y = true) (ht : timB a b c = true) (hn : ([b, c] : List Int).all isNone = true) :
    Calls Tryz.prog 72 #[.agg #[.int .i64 y, .int .i64 a, .int .i64 b, .int .i64 c], .int .i64 1] w fun e w' => e = .returned (errV 0) ∧ Below w.heap.size w w' := by
  have HM := fun w => by
    have := mayBe_any y w
    rw [hy] at this
    exact hid this
  have HT := fun w => by
    have := timesMayBe_any a b c w
    rw [ht] at this
    exact hid this
  have hK := Blk.new w 92 #[.int .i64 y, .int .i64 a, .int .i64 b, .int .i64 c]
  have hF := (Fr.start w).alloc (.cells #[.int .i64 y, .int .i64 a, .int .i64 b, .int .i64 c] 92)
  have HC := fun v w hl => by
    have := contains_none ([b, c] : List Int) v w hl (by simp)
    rw [hn] at this
    exact hid this
  clear hn ht hy
  go_enter Tryz.func72, Tryz.ntmps72
  go_wp2_with (first | (go_at_call 75; refine (HM _).out.mono ?_; rintro e wn ⟨rfl, rfl⟩) | (go_at_call 86; refine (HT _).out.mono ?_; rintro e wn ⟨rfl, hb⟩; replace hK := hK.step hb; replace hF := hF.step hb; clear hb) | (go_at_call 87; refine (HC _ _ (tail_2 hK _)).out.mono ?_; rintro e wn ⟨rfl, rfl⟩))
  go_returns
  exact ⟨rfl, hF.below⟩
set_option maxHeartbeats 2000000 in
theorem checkTerm_1n (y a b c : Int) (w : World) (hy : Um.may y = true) (ht : timB a b c = true) (hn : ([b, c] : List Int).all isNone = false) :
    Calls Tryz.prog 72 #[.agg #[.int .i64 y, .int .i64 a, .int .i64 b, .int .i64 c], .int .i64 1] w fun e w' => e = .returned (errV 3) ∧ Below w.heap.size w w' := by
  have HM := fun w => by
    have := mayBe_any y w
    rw [hy] at this
    exact hid this
  have HT := fun w => by
    have := timesMayBe_any a b c w
    rw [ht] at this
    exact hid this
  have hK := Blk.new w 92 #[.int .i64 y, .int .i64 a, .int .i64 b, .int .i64 c]
  have hF := (Fr.start w).alloc (.cells #[.int .i64 y, .int .i64 a, .int .i64 b, .int .i64 c] 92)
  have HC := fun v w hl => by
    have := contains_none ([b, c] : List Int) v w hl (by simp)
    rw [hn] at this
    exact hid this
  clear hn ht hy
  go_enter Tryz.func72, Tryz.ntmps72
  go_wp2_with (first | (go_at_call 75; refine (HM _).out.mono ?_; rintro e wn ⟨rfl, rfl⟩) | (go_at_call 86; refine (HT _).out.mono ?_; rintro e wn ⟨rfl, hb⟩; replace hK := hK.step hb; replace hF := hF.step hb; clear hb) | (go_at_call 87; refine (HC _ _ (tail_2 hK _)).out.mono ?_; rintro e wn ⟨rfl, rfl⟩))
  go_returns
  exact ⟨rfl, hF.below⟩
set_option maxHeartbeats 2000000 in
theorem checkTerm_2y (y a b c : Int) (w : World) (hy : Um.may y = true) (ht : timB a b c = true) (hn : ([c] : List Int).all isNone = true) :
    Calls Tryz.prog 72 #[.agg #[.int .i64 y, .int .i64 a, .int .i64 b, .int .i64 c], .int .i64 2] w fun e w' => e = .returned (errV 0) ∧ Below w.heap.size w w' := by
  have HM := fun w => by
    have := mayBe_any y w
    rw [hy] at this
    exact hid this
  have HT := fun w => by
    have := timesMayBe_any a b c w
    rw [ht] at this
    exact hid this
  have hK := Blk.new w 92 #[.int .i64 y, .int .i64 a, .int .i64 b, .int .i64 c]
  have hF := (Fr.start w).alloc (.cells #[.int .i64 y, .int .i64 a, .int .i64 b, .int .i64 c] 92)
  have HC := fun v w hl => by
    have := contains_none ([c] : List Int) v w hl (by simp)
    rw [hn] at this
    exact hid this
  clear hn ht hy
  go_enter Tryz.func72, Tryz.ntmps72
  go_wp2_with (first | (go_at_call 75; refine (HM _).out.mono ?_; rintro e wn ⟨rfl, rfl⟩) | (go_at_call 86; refine (HT _).out.mono ?_; rintro e wn ⟨rfl, hb⟩; replace hK := hK.step hb; replace hF := hF.step hb; clear hb) | (go_at_call 87; refine (HC _ _ (tail_1 hK _)).out.mono ?_; rintro e wn ⟨rfl, rfl⟩))
  go_returns
  exact ⟨rfl, hF.below⟩
set_option maxHeartbeats 2000000 in
theorem checkTerm_2n (y a b c : Int) (w : World) (hy : Um.may y = true) (ht : timB a b c = true) (hn : ([c] : List Int).all isNone = false) :
    Calls Tryz.prog 72 #[.agg #[.int .i64 y, .int .i64 a, .int .i64 b, .int .i64 c], .int .i64 2] w fun e w' => e = .returned (errV 3) ∧ Below w.heap.size w w' := by
  have HM := fun w => by
    have := mayBe_any y w
    rw [hy] at this
    exact hid this
  have HT := fun w => by
    have := timesMayBe_any a b c w
    rw [ht] at this
    exact hid this
  have hK := Blk.new w 92 #[.int .i64 y, .int .i64 a, .int .i64 b, .int .i64 c]
  have hF := (Fr.start w).alloc (.cells #[.int .i64 y, .int .i64 a, .int .i64 b, .int .i64 c] 92)
  have HC := fun v w hl => by
    have := contains_none ([c] : List Int) v w hl (by simp)
    rw [hn] at this
    exact hid this
  clear hn ht hy
  go_enter Tryz.func72, Tryz.ntmps72
  go_wp2_with (first | (go_at_call 75; refine (HM _).out.mono ?_; rintro e wn ⟨rfl, rfl⟩) | (go_at_call 86; refine (HT _).out.mono ?_; rintro e wn ⟨rfl, hb⟩; replace hK := hK.step hb; replace hF := hF.step hb; clear hb) | (go_at_call 87; refine (HC _ _ (tail_1 hK _)).out.mono ?_; rintro e wn ⟨rfl, rfl⟩))
  go_returns
  exact ⟨rfl, hF.below⟩
set_option maxHeartbeats 2000000 in
theorem checkTerm_3y (y a b c : Int) (w : World) (hy : Um.may y = true) (ht : timB a b c = true) (hn : ([] : List Int).all isNone = true) :
    Calls Tryz.prog 72 #[.agg #[.int .i64 y, .int .i64 a, .int .i64 b, .int .i64 c], .int .i64 3] w fun e w' => e = .returned (errV 0) ∧ Below w.heap.size w w' := by
  have HM := fun w => by
    have := mayBe_any y w
    rw [hy] at this
    exact hid this
  have HT := fun w => by
    have := timesMayBe_any a b c w
    rw [ht] at this
    exact hid this
  have hK := Blk.new w 92 #[.int .i64 y, .int .i64 a, .int .i64 b, .int .i64 c]
  have hF := (Fr.start w).alloc (.cells #[.int .i64 y, .int .i64 a, .int .i64 b, .int .i64 c] 92)
  have HC := fun v w hl => by
    have := contains_none ([] : List Int) v w hl (by simp)
    rw [hn] at this
    exact hid this
  clear hn ht hy
  go_enter Tryz.func72, Tryz.ntmps72
  go_wp2_with (first | (go_at_call 75; refine (HM _).out.mono ?_; rintro e wn ⟨rfl, rfl⟩) | (go_at_call 86; refine (HT _).out.mono ?_; rintro e wn ⟨rfl, hb⟩; replace hK := hK.step hb; replace hF := hF.step hb; clear hb) | (go_at_call 87; refine (HC _ _ (tail_0 _ _ _)).out.mono ?_; rintro e wn ⟨rfl, rfl⟩))
  go_returns
  exact ⟨rfl, hF.below⟩

theorem checkTerm_any (t : Um.Tm) (sides : Nat) (w : World) (h1 : 1 ≤ sides) (h3 : sides ≤ 3) :
    Calls Tryz.prog 72 #[.agg #[.int .i64 t.1, .int .i64 t.2.1, .int .i64 t.2.2.1, .int .i64 t.2.2.2], .int .i64 (sides : Int)] w fun e w' => e = .returned (errV (Um.termF t sides)) ∧ Below w.heap.size w w' := by
  obtain ⟨y, a, b, c⟩ := t
  cases hy : Um.may y
  · rw [term_by hy]; exact checkTerm_by y a b c w _ hy
  · cases ht : timB a b c
    · rw [term_times ht]; exact checkTerm_times y a b c w _ hy ht
    · have hh := of_decide_eq_true ht
      obtain ⟨⟨p1, p2⟩, ⟨p3, p4⟩, ⟨p5, p6⟩, p7⟩ := hh
      rw [term_is ht hy]
      rcases (by omega : sides = 1 ∨ sides = 2 ∨ sides = 3) with rfl | rfl | rfl
      · cases hn : ([b, c] : List Int).all isNone
        · rw [if_pos]
          · exact checkTerm_1n y a b c w hy ht hn
          · simp [isNone] at hn
            omega
        · rw [if_neg]
          · exact checkTerm_1y y a b c w hy ht hn
          · simp [isNone] at hn
            omega
      · cases hn : ([c] : List Int).all isNone
        · rw [if_pos]
          · exact checkTerm_2n y a b c w hy ht hn
          · simp [isNone] at hn
            omega
        · rw [if_neg]
          · exact checkTerm_2y y a b c w hy ht hn
          · simp [isNone] at hn
            omega
      · rw [if_neg]
        · exact checkTerm_3y y a b c w hy ht rfl
        · omega

set_option maxRecDepth 100000 in
set_option maxHeartbeats 8000000 in
theorem fcheck_some (f : List Um.Tm) (sides : Nat) (v : Value) (w : World) (hl : Lt w.heap.size w v f) (h1 : 1 ≤ sides) (h3 : sides ≤ 3) (h6 : f.length ≤ 6) :
    Calls Tryz.prog 54 #[v, .int .i64 (sides : Int)] w fun e w' => e = .returned (errV (Um.termsF sides f)) ∧ Below w.heap.size w w' := by
  have v0 := errV_none
  have q1 := errG
  have q2 := errGn
  have q3 := errE
  have q4 := errN
  have HCT := fun t w => hid (checkTerm_any t sides w h1 h3)
  obtain ⟨a0, cap0, rfl, hcap, hor⟩ := hl
  have HOR := hid hor
  clear hor
  have t1 : decide ((sides : Int) < 1) = false := decide_eq_false (by omega)
  have t2 : decide (3 < (sides : Int)) = false := decide_eq_false (by omega)
  have t3 : decide (6 < (f.length : Int)) = false := decide_eq_false (by omega)
  have hF := Fr.start w
  go_enter Tryz.func54, Tryz.ntmps54
  go_wp2
  go_loopw [21] (fun i wr => ∃ k : Nat, k ≤ f.length ∧ i = .int .i64 k ∧ Fr w wr [] ∧ Hid (∀ j, j < k → Um.termF (Um.tm f j) sides = 0)) (fun i _ => f.length - (intOf i).toNat)
  case atStart => exact ⟨0, Nat.zero_le _, rfl, hF, fun j hj => absurd hj (Nat.not_lt_zero _)⟩
  case round =>
    clear hF
    obtain ⟨n, hn, rfl, hF, hall⟩ := hrel
    by_cases hnl : n < f.length
    · have hnn : (n : Int) < (f.length : Int) := by omega
      rcases HOR.out with e | ⟨b, off, rfl, hlt, hc⟩
      · rw [e] at hnl; simp at hnl
      have hT := (hc n hnl).keep hF.below hlt
      have z0 := hT.1
      have z1 := hT.2.1
      have z2 : wr.cell? ⟨b, off + n * 4 + 2, none⟩ = _ := hT.2.2.1
      have z3 : wr.cell? ⟨b, off + n * 4 + 3, none⟩ = _ := hT.2.2.2
      have HX := fun h => hid (Um.terms_first hnl hall.out h)
      have HY : Hid (Um.termF (Um.tm f n) sides = 0 → ∀ j, j < n + 1 → Um.termF (Um.tm f j) sides = 0) := by
        intro h j hj
        rcases (by omega : j < n ∨ j = n) with h2 | rfl
        · exact hall.out j h2
        · exact h
      clear hc HOR hall hT
      generalize Um.tm f n = t at *
      have HC := fun w => HCT t w
      have hK := Blk.new wr 92 #[.int .i64 t.1, .int .i64 t.2.1, .int .i64 t.2.2.1, .int .i64 t.2.2.2]
      have c0 := hK.cell 0 rfl
      have c1 := hK.cell 1 rfl
      have c2 := hK.cell 2 rfl
      have c3 := hK.cell 3 rfl
      replace hF := hF.alloc (.cells #[.int .i64 t.1, .int .i64 t.2.1, .int .i64 t.2.2.1, .int .i64 t.2.2.2] 92)
      clear HCT hK
      by_cases hz : Um.termF t sides = 0
      · have kz : (Um.termF t sides != 0) = false := by simpa using hz
        have HN := hid (HY.out hz)
        clear HX HY hz
        generalize Um.termF t sides = G at *
        go_wp2_with (go_at_call 72; refine (HC _).out.mono ?_; rintro e wn ⟨rfl, hb⟩; replace hF := hF.step hb; clear hb)
        exact ⟨⟨n + 1, by omega, by simp, hF, HN.out⟩, by simp [intOf]; omega⟩
      · have kz : (Um.termF t sides != 0) = true := by simpa using hz
        have HN := HX hz
        clear HX HY hz
        generalize Um.termF t sides = G at *
        go_wp2_with (go_at_call 72; refine (HC _).out.mono ?_; rintro e wn ⟨rfl, hb⟩; replace hF := hF.step hb; clear hb)
        go_returns
        rw [HN.out]
        exact ⟨rfl, hF.below⟩
    · obtain rfl : n = f.length := by omega
      have HN : Hid (Um.termsF sides f = 0) := Um.terms_ok.2 fun t ht => by
        obtain ⟨i, hi, rfl⟩ := List.getElem_of_mem ht
        have := hall.out i hi
        unfold Um.tm at this
        rw [List.getElem?_eq_getElem hi] at this
        exact this
      clear HOR hall HCT
      go_wp2
      go_returns
      rw [HN.out, errV_none]
      exact ⟨rfl, hF.below⟩
set_option maxHeartbeats 2000000 in
theorem fcheck_any (f : List Um.Tm) (sides : Int) (v : Value) (w : World) (hl : Lt w.heap.size w v f) :
    Calls Tryz.prog 54 #[v, .int .i64 sides] w fun e w' => e = .returned (errV (Um.formF f sides)) ∧ Below w.heap.size w w' := by
  by_cases h : 1 ≤ sides ∧ sides ≤ 3
  · by_cases h6 : 6 < f.length
    · have e : Um.formF f sides = 4 := by unfold Um.formF; rw [if_pos h, if_pos h6]
      rw [e]
      obtain ⟨a0, cap0, rfl, -⟩ := hl
      have t1 : decide (sides < 1) = false := decide_eq_false (by omega)
      have t2 : decide (3 < sides) = false := decide_eq_false (by omega)
      have t3 : decide (6 < (f.length : Int)) = true := decide_eq_true (by omega)
      clear h h6 e
      go_enter Tryz.func54, Tryz.ntmps54
      go_wp2
      go_returns
      exact ⟨rfl, Below.refl _ _⟩
    · have e : Um.formF f sides = Um.termsF sides f := by unfold Um.formF; rw [if_pos h, if_neg h6]
      rw [e]
      obtain ⟨n, rfl⟩ : ∃ n : Nat, sides = n := ⟨sides.toNat, by omega⟩
      exact fcheck_some f n v w hl (by omega) (by omega) (by omega)
  · have e : Um.formF f sides = 1 := by unfold Um.formF; rw [if_neg h]
    rw [e]
    obtain ⟨a0, cap0, rfl, -⟩ := hl
    rcases (by omega : sides < 1 ∨ (¬ sides < 1 ∧ 3 < sides)) with c | ⟨c, d⟩
    · have t1 : decide (sides < 1) = true := decide_eq_true c
      clear h e c
      go_enter Tryz.func54, Tryz.ntmps54
      go_wp2
      go_returns
      exact ⟨rfl, Below.refl _ _⟩
    · have t1 : decide (sides < 1) = false := decide_eq_false c
      have t2 : decide (3 < sides) = true := decide_eq_true d
      clear h e c d
      go_enter Tryz.func54, Tryz.ntmps54
      go_wp2
      go_returns
      exact ⟨rfl, Below.refl _ _⟩
end Go.Proofs.YthgehlonjoafmaaGreatDoor
