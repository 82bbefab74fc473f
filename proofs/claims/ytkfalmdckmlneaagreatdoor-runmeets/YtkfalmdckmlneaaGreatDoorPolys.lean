/-
  What package poly answers: anyBeyond, Check, CheckOver, timesAdd, at every argument.
  What package poly's Horner answers, at every argument: a range over slices.Backward.
  What package poly's Powers answers, at every argument.
  What package poly's Derive answers, at every argument.
-/
import Derived.Test.YtkfalmdckmlneaaGreatDoorSpans
import Derived.Test.YtkfalmdckmlneaaGreatDoorMaths
import Derived.Test.YtkfalmdckmlneaaGreatDoorMems
import Derived.LoopTactic
import Derived.RangeFuncNested
import Derived.RangeFuncBound
import Derived.RangeFuncCalls
import Derived.RangeFuncLeaves
import Derived.RangeFuncBox
import Derived.Shelf.Abstract
import Derived.Shelf.RegionOpen
import Derived.OwnWalkIn
import Derived.TacticsInMore
import Derived.LoopNIn
import Derived.LoopIn
import Derived.Test.YtkfalmdckmlneaaGreatDoorPowerOf
namespace Go.Proofs.YtkfalmdckmlneaaGreatDoor
set_option linter.unusedSimpArgs false
open Go.RowKit

theorem closure_any (n : Int) (w : World) :
    Calls Tryz.prog 166 #[.int .i64 n] w fun e w' => e = .returned (.bool (!Um.may n)) ∧ w' = w := by
  go_enter Tryz.func166, Tryz.ntmps166
  go_wp2_with (go_at_call 114; refine (mayBe_any _ _).mono ?_; rintro e w1 ⟨rfl, rfl⟩)
  go_returns
  exact ⟨rfl, rfl⟩

set_option maxHeartbeats 1000000 in
theorem indexFunc_any (B : Nat) (p : List Int) (v : Value) (w : World) (hl : Li B w v p) (h0 : p ≠ []) (h5 : p.length ≤ 5) :
    Calls Tryz.prog 173 #[v, .func (.func 166) #[] #[]] w fun e w' => (∃ k : Int, e = .returned (.int .i64 k) ∧ decide (0 ≤ k) = !p.all Um.may) ∧ w' = w := by
  obtain ⟨b, off, cap, rfl, hlt, hc⟩ := hl.out h0
  clear hl h0
  go_enter Tryz.func173, Tryz.ntmps173
  go_wp2
  go_loop [8] (fun i => ∃ k : Nat, k ≤ p.length ∧ i = .int .i64 k ∧ Hid (∀ j, j < k → Um.may (p[j]?.getD 0) = true)) (fun i => p.length - (intOf i).toNat)
  case atStart => exact ⟨0, Nat.zero_le _, rfl, fun j hj => absurd hj (Nat.not_lt_zero _)⟩
  case round =>
    obtain ⟨k, hk, rfl, hall⟩ := hrel
    by_cases hlt : k < p.length
    · have hcx := hc k hlt
      have hin := hid (Um.at_mem hlt)
      have hkk : (k : Int) < (p.length : Int) := by omega
      have HX : Hid (∀ x, p[k]?.getD 0 = x → Um.may x = true → ∀ j, j < k + 1 → Um.may (p[j]?.getD 0) = true) := by
        rintro x rfl hx j hj
        rcases (by omega : j < k ∨ j = k) with h | rfl
        · exact hall.out j h
        · exact hx
      have HE : Hid (p[k]?.getD 0 = p[k]?.getD 0) := rfl
      generalize hg : p[k]?.getD 0 = x at hcx hin HE
      have HG := hid hg
      clear hg hc hall HE
      cases hm : Um.may x
      · go_wp2_with (go_at_call 166; refine (closure_any _ _).mono ?_; rintro e w1 ⟨rfl, rfl⟩)
        go_returns
        refine ⟨⟨_, rfl, ?_⟩, rfl⟩
        have : p.all Um.may = false := by
          rw [← Bool.not_eq_true, List.all_eq_true]
          intro h
          rw [h x hin.out] at hm; cases hm
        rw [this]; simp
      · go_wp2_with (go_at_call 166; refine (closure_any _ _).mono ?_; rintro e w1 ⟨rfl, rfl⟩)
        exact ⟨⟨k + 1, by omega, rfl, HX.out x HG.out hm⟩, by simp [intOf]; omega⟩
    · obtain rfl : k = p.length := by omega
      clear hc
      go_wp2
      go_returns
      refine ⟨⟨_, rfl, ?_⟩, rfl⟩
      have : p.all Um.may = true := by
        rw [List.all_eq_true]
        intro c hcm
        obtain ⟨j, hj, rfl⟩ := List.getElem_of_mem hcm
        have := hall.out j hj
        rwa [List.getElem?_eq_getElem hj] at this
      rw [this]; simp

theorem anyBeyond_any (B : Nat) (p : List Int) (v : Value) (w : World) (hl : Li B w v p) (h0 : p ≠ []) (h5 : p.length ≤ 5) :
    Calls Tryz.prog 159 #[v] w fun e w' => e = .returned (.bool (!p.all Um.may)) ∧ w' = w := by
  have HI := fun w hl => hid (indexFunc_any B p v w hl h0 h5)
  obtain ⟨b, off, cap, rfl, hlt, hc⟩ := hl.out h0
  go_enter Tryz.func159, Tryz.ntmps159
  go_wp2_with (first | (go_at_call 173; refine (HI _ hl).out.mono ?_; rintro e w1 ⟨⟨k, rfl, hk⟩, rfl⟩) | go_in)
  go_returns
  rw [← hk]
  exact ⟨rfl, rfl⟩

theorem pchk_none : Um.pchk [] = 5 := rfl
theorem pchk_full {p : List Int} (h : 5 < p.length) : Um.pchk p = 4 := by
  unfold Um.pchk
  rw [if_neg (by rintro rfl; simp at h), if_pos h]
theorem pchk_may {p : List Int} (h0 : p ≠ []) (h5 : ¬ 5 < p.length) : Um.pchk p = if p.all Um.may = true then 0 else 1 := by
  unfold Um.pchk
  rw [if_neg h0, if_neg h5]

set_option maxHeartbeats 1000000 in
theorem pcheck_any (B : Nat) (p : List Int) (v : Value) (w : World) (hl : Li B w v p) :
    Calls Tryz.prog 147 #[v] w fun e w' => e = .returned (errV (Um.pchk p)) ∧ w' = w := by
  by_cases h0 : p = []
  · subst h0
    obtain ⟨a, cap, rfl, -⟩ := hl
    have z : (([] : List Int).length) = 0 := rfl
    rw [pchk_none, z]
    go_enter Tryz.func147, Tryz.ntmps147
    go_wp2
    go_returns
    exact ⟨rfl, rfl⟩
  · have hp : 0 < p.length := List.length_pos_iff.2 h0
    by_cases h5 : 5 < p.length
    · obtain ⟨a, cap, rfl, -⟩ := hl
      have z : ((p.length : Int) == 0) = false := by simpa using h0
      have z2 : decide (5 < (p.length : Int)) = true := by simp; omega
      rw [pchk_full h5]
      clear h0 h5
      go_enter Tryz.func147, Tryz.ntmps147
      go_wp2
      go_returns
      exact ⟨rfl, rfl⟩
    · have HA := fun w hl => hid (anyBeyond_any B p v w hl h0 (by omega))
      obtain ⟨a, cap, rfl, -⟩ := (id hl)
      have z : ((p.length : Int) == 0) = false := by simpa using h0
      have z2 : decide (5 < (p.length : Int)) = false := by simp; omega
      rw [pchk_may h0 h5]
      clear h0 h5
      cases hm : p.all Um.may
      all_goals
        rw [hm] at HA
        clear hm
        go_enter Tryz.func147, Tryz.ntmps147
        go_wp2_with (go_at_call 159; refine (HA _ hl).out.mono ?_; rintro e w1 ⟨rfl, rfl⟩)
        go_returns
        exact ⟨rfl, rfl⟩

theorem over_poly {p : List Int} {lo hi : Int} (h : ¬ Um.pchk p = 0) : Um.over p lo hi = Um.pchk p := by unfold Um.over; rw [if_neg h]
theorem over_span {p : List Int} {lo hi : Int} (h : Um.pchk p = 0) : Um.over p lo hi = Um.chk lo hi := by unfold Um.over; rw [if_pos h]

set_option maxHeartbeats 1000000 in
theorem checkOver_any (p : List Int) (v : Value) (lo hi : Int) (w : World) (hl : Li w.heap.size w v p) :
    Calls Tryz.prog 125 #[v, .agg #[.int .i64 lo, .int .i64 hi]] w fun e w' => e = .returned (errV (Um.over p lo hi)) ∧ Below w.heap.size w w' := by
  have q1 := errG
  have q2 := errGn
  have q3 := errE
  have q4 := errN
  have HP := fun w1 hl => hid (pcheck_any w.heap.size p v w1 hl)
  have hl2 := hl.keep ((Below.refl _ _).alloc (Nat.le_refl _) (.cells #[.int .i64 lo, .int .i64 hi] 29))
  obtain ⟨a, cap, rfl, -⟩ := hl
  by_cases h : Um.pchk p = 0
  · have k : (Um.pchk p != 0) = false := by simpa using h
    rw [over_span h]
    clear h
    go_enter Tryz.func125, Tryz.ntmps125
    go_wp2_with (first | (go_at_call 147; refine (HP _ hl2).out.mono ?_; rintro e w1 ⟨rfl, rfl⟩) | (go_at_call 112; refine (check_any _ _ _).mono ?_; rintro e w1 ⟨rfl, rfl⟩))
    go_returns
    exact ⟨rfl, by go_grown⟩
  · have k : (Um.pchk p != 0) = true := by simpa using h
    rw [over_poly h]
    clear h
    go_enter Tryz.func125, Tryz.ntmps125
    go_wp2_with (first | (go_at_call 147; refine (HP _ hl2).out.mono ?_; rintro e w1 ⟨rfl, rfl⟩) | (go_at_call 112; refine (check_any _ _ _).mono ?_; rintro e w1 ⟨rfl, rfl⟩))
    go_returns
    exact ⟨rfl, by go_grown⟩

theorem alone_any (n : Int) (w : World) :
    Calls Tryz.prog 123 #[.int .i64 n] w fun e w' => e = .returned (.agg #[.int .i64 n, .int .i64 n]) ∧ w' = w.alloc (.cells #[.int .i64 n, .int .i64 n] 29) := by
  go_enter Tryz.func123, Tryz.ntmps123
  go_wp2
  go_returns
  exact ⟨rfl, rfl⟩

set_option maxHeartbeats 1000000 in
theorem timesAdd_any (al ah bl bh cl ch : Int) (w : World) :
    Calls Tryz.prog 142 #[.agg #[.int .i64 al, .int .i64 ah], .agg #[.int .i64 bl, .int .i64 bh], .agg #[.int .i64 cl, .int .i64 ch]] w fun e w' => e = .returned (.tuple #[.agg #[.int .i64 (Um.taR al ah bl bh cl ch).1, .int .i64 (Um.taR al ah bl bh cl ch).2.1], errV (Um.taR al ah bl bh cl ch).2.2]) ∧ Below w.heap.size w w' := by
  have q1 := errG
  have q2 := errGn
  have q3 := errE
  have q4 := errN
  have HT := fun w => hid (stimes_any al ah bl bh w)
  have HR : Hid (Um.taR al ah bl bh cl ch = if (Um.made (Um.stimesR al ah bl bh) al ah bl bh).2.2 = 0 then Um.made (Um.addR (Um.made (Um.stimesR al ah bl bh) al ah bl bh).1 (Um.made (Um.stimesR al ah bl bh) al ah bl bh).2.1 cl ch) (Um.made (Um.stimesR al ah bl bh) al ah bl bh).1 (Um.made (Um.stimesR al ah bl bh) al ah bl bh).2.1 cl ch
  else (0, 0, (Um.made (Um.stimesR al ah bl bh) al ah bl bh).2.2)) := rfl
  generalize Um.made (Um.stimesR al ah bl bh) al ah bl bh = T at *
  generalize Um.taR al ah bl bh cl ch = R at *
  have hC0 : Sp (((w.alloc (.cells #[.int .i64 al, .int .i64 ah] 29)).alloc (.cells #[.int .i64 bl, .int .i64 bh] 29)).alloc (.cells #[.int .i64 cl, .int .i64 ch] 29)) (w.heap.size + 1 + 1) cl ch := by simpa using Sp.new ((w.alloc (.cells #[.int .i64 al, .int .i64 ah] 29)).alloc (.cells #[.int .i64 bl, .int .i64 bh] 29)) cl ch
  have hR0 : Sp ((((w.alloc (.cells #[.int .i64 al, .int .i64 ah] 29)).alloc (.cells #[.int .i64 bl, .int .i64 bh] 29)).alloc (.cells #[.int .i64 cl, .int .i64 ch] 29)).alloc (.cells #[.int .i64 0, .int .i64 0] 29)) (w.heap.size + 1 + 1 + 1) 0 0 := by simpa using Sp.new (((w.alloc (.cells #[.int .i64 al, .int .i64 ah] 29)).alloc (.cells #[.int .i64 bl, .int .i64 bh] 29)).alloc (.cells #[.int .i64 cl, .int .i64 ch] 29)) 0 0
  replace hC0 := hC0.alloc (.cells #[.int .i64 0, .int .i64 0] 29)
  have hB0 : Below w.heap.size w ((((w.alloc (.cells #[.int .i64 al, .int .i64 ah] 29)).alloc (.cells #[.int .i64 bl, .int .i64 bh] 29)).alloc (.cells #[.int .i64 cl, .int .i64 ch] 29)).alloc (.cells #[.int .i64 0, .int .i64 0] 29)) := by go_grown
  by_cases h : T.2.2 = 0
  · have HH : Hid (R = Um.made (Um.addR T.1 T.2.1 cl ch) T.1 T.2.1 cl ch) := by rw [HR.out, if_pos h]; rfl
    have k : (T.2.2 != 0) = false := by simpa using h
    clear HR h
    go_enter Tryz.func142, Tryz.ntmps142
    go_wp2_with (first | (go_at_call 59; refine (HT _).out.mono ?_; rintro e w1 ⟨rfl, hb⟩; replace hB0 := hB0.trans (hb.mono hB0.size); replace hC0 := hC0.step hb; replace hR0 := hR0.step hb; clear hb; have c1 := hC0.lo; have c2 := hC0.hi; have c3 := hC0.lt; have hz := hB0.size) | (go_at_call 57; refine (add_any _ _ _ _ _).mono ?_; rintro e w2 ⟨rfl, hb⟩; replace hB0 := (hB0.alloc hz _).trans (hb.mono (by simp; omega)); replace hR0 := (hR0.alloc _).step hb; clear hb c1 c2 c3 hC0 hz; have y1 := hR0.fl; have y2 := hR0.fh; have y3 := hR0.lo; have y4 := hR0.hi; have y6 := hR0.r0; have y7 := hR0.r1))
    refine bodyPost_ret (by simp [results, Tryz.results142, go_sem, y6, y7]; try rfl) rfl ?_
    rw [HH.out]
    exact ⟨rfl, (hB0.setCell (by simp only []; omega) _).setCell (by simp only []; omega) _⟩
  · have HH : Hid (R = (0, 0, T.2.2)) := by rw [HR.out, if_neg h]; rfl
    have k : (T.2.2 != 0) = true := by simpa using h
    clear HR h
    go_enter Tryz.func142, Tryz.ntmps142
    go_wp2_with (go_at_call 59; refine (HT _).out.mono ?_; rintro e w1 ⟨rfl, hb⟩; replace hB0 := hB0.trans (hb.mono hB0.size); replace hR0 := hR0.step hb; clear hb hC0; have y1 := hR0.fl; have y2 := hR0.fh; have y3 := hR0.lo; have y4 := hR0.hi; have y5 := hR0.lt; have hz := hB0.size; have y6 := ((hR0.set 0 0).alloc (.cells #[.int .i64 T.1, .int .i64 T.2.1] 29)).lo; have y7 := ((hR0.set 0 0).alloc (.cells #[.int .i64 T.1, .int .i64 T.2.1] 29)).hi)
    refine bodyPost_ret (by simp [results, Tryz.results142, go_sem, y6, y7]; try rfl) rfl ?_
    rw [HH.out]
    exact ⟨rfl, ((hB0.setCell (by simp only []; omega) _).setCell (by simp only []; omega) _).alloc (by simp; omega) _⟩
end Go.Proofs.YtkfalmdckmlneaaGreatDoor
namespace Go.Proofs.YtkfalmdckmlneaaGreatDoor
set_option linter.unusedSimpArgs false
open Go.RowKit Go.Shelf
attribute [local go_sem] Oper.semAt_some

/-- What has come when k rounds are over: from the last one on. -/
def back (p : List Int) (k : Nat) : List (Int × Int) := (List.range k).map fun j => (((p.length - 1 - j : Nat) : Int), p[p.length - 1 - j]?.getD 0)
theorem back_length (p : List Int) (k : Nat) : (back p k).length = k := by simp [back]
theorem back_succ (p : List Int) (k : Nat) : back p (k + 1) = back p k ++ [(((p.length - 1 - k : Nat) : Int), p[p.length - 1 - k]?.getD 0)] := by simp [back, List.range_succ]
theorem back_step {p : List Int} {j : Nat} (h : j < p.length) : back p (p.length - j) = back p (p.length - (j + 1)) ++ [((j : Int), p[j]?.getD 0)] := by
  have e : p.length - j = p.length - (j + 1) + 1 := by omega
  rw [e, back_succ, show p.length - 1 - (p.length - (j + 1)) = j by omega]

/-- What a round keeps: all below n₀, and the block Bs. -/
def Kb (n₀ Bs : Nat) (W W' : World) : Prop := Below n₀ W W' ∧ W'.heap[Bs]? = W.heap[Bs]?
theorem Kb.refl (n₀ Bs : Nat) (W : World) : Kb n₀ Bs W W := ⟨Below.refl _ _, rfl⟩
theorem Kb.trans {n₀ Bs : Nat} {A B C : World} (h : Kb n₀ Bs A B) (k : Kb n₀ Bs B C) : Kb n₀ Bs A C := ⟨h.1.trans k.1, k.2.trans h.2⟩
theorem Kb.cell {n₀ Bs : Nat} {A B : World} (h : Kb n₀ Bs A B) : B.cell? ⟨Bs, 0, none⟩ = A.cell? ⟨Bs, 0, none⟩ := by
  simp [World.cell?, h.2]

set_option maxRecDepth 100000 in
set_option maxHeartbeats 2000000 in
theorem back1_in (F : Fence) (n : Nat) (hf : F.fn 158) (hro : F.round = none) (hn : 1 ≤ n) (l Bs n₀ b off cap : Nat) (p : List Int) (h5 : p.length ≤ 5) (hb : b < n₀) (J Jx : List (Int × Int) → World → Prop)
    (hY : ∀ pre x W, J pre W → pre.length < p.length → YieldAt F (n - 1) Tryz.prog l #[.int .i64 x.1, .int .i64 x.2] W fun e W' =>
      (e = .returned (.bool true) ∧ J (pre ++ [x]) W' ∧ Kb n₀ Bs W W') ∨ (e = .returned (.bool false) ∧ Jx (pre ++ [x]) W'))
    (W : World) (hBs : W.cell? ⟨Bs, 0, none⟩ = some (.slice (some ⟨b, off, none⟩) p.length cap)) (hc : ∀ j, j < p.length → W.cell? ⟨b, off + j, none⟩ = some (.int .i64 (p[j]?.getD 0))) (h0 : J [] W) :
    CallsIn F n Tryz.prog 158 #[.func (.yield l) #[] #[], .pointer (some ⟨Bs, 0, none⟩)] W fun e W' => (∃ v, e = .returned v) ∧
      ((∃ ys, ys = back p p.length ∧ J ys W') ∨ (∃ pre, (∃ k, k ≤ p.length ∧ pre = back p k) ∧ Jx pre W')) := by
  have HY := hid hY
  have HC := hid hc
  clear hY hc
  refine callsIn_of_wp Tryz.func158 rfl hf ?_ hro
  simp only [Tryz.ntmps158, List.size_toArray, List.length_cons, List.length_nil, Nat.reduceAdd, Nat.reduceSub, Array.replicate_succ, Array.replicate_zero, List.push_toArray, List.append_toArray, List.nil_append, List.cons_append]
  gi_wp2
  gi_loopw [3] (fun i wr => ∃ m : Nat, m ≤ p.length ∧ i = .int .i64 ((m : Int) - 1) ∧ J (back p (p.length - m)) wr ∧ Kb n₀ Bs W wr)
    (fun i _ => (intOf i + 1).toNat)
  case atStart => exact ⟨p.length, Nat.le_refl _, rfl, by rw [Nat.sub_self]; exact h0, Kb.refl _ _ _⟩
  case round =>
    obtain ⟨m, hm, rfl, hJs, hnx⟩ := hrel
    have hBx := hnx.cell.trans hBs
    cases m with
    | zero =>
      gi_wp2
      go_end0
      exact ⟨⟨_, rfl⟩, .inl ⟨_, rfl, hJs⟩⟩
    | succ j =>
      have hjl : j < p.length := by omega
      have ej : ((j + 1 : Nat) : Int) - 1 = (j : Int) := by omega
      rw [ej]
      have hcx : wr.cell? ⟨b, off + j, none⟩ = some (.int .i64 (p[j]?.getD 0)) := (hnx.1.cell (p := ⟨b, off + j, none⟩) hb).trans (HC.out j hjl)
      obtain ⟨fn, tmps, assign, body, hy, hR⟩ := HY.out _ ((j : Int), p[j]?.getD 0) wr hJs (by rw [back_length]; omega)
      rw [← back_step hjl] at hR
      dsimp only at hy
      have HE := hid ej
      have hjj : (j : Int) < (p.length : Int) := by omega
      clear ej
      generalize p[j]?.getD 0 = x at *
      gi_wp2
      refine hR.mono ?_
      rintro e W3 (⟨rfl, hJ3, hk3⟩ | ⟨rfl, hJx3⟩)
      · gi_wp2
        go_roundw
        case rel => exact ⟨j, by omega, rfl, hJ3, hnx.trans hk3⟩
        case measure => simp [intOf] <;> omega
      · gi_wp2
        refine bodyPost_ret (results_none rfl _ _ _) rfl ?_
        exact ⟨⟨_, rfl⟩, .inr ⟨_, ⟨p.length - j, by omega, rfl⟩, hJx3⟩⟩

set_option maxHeartbeats 1000000 in
theorem backward_any (a : Option Addr) (len cap : Nat) (w : World) :
    Calls Tryz.prog 141 #[.slice a len cap] w fun e w' => e = .returned (.func (.func 158) #[] #[.pointer (some ⟨w.heap.size, 0, none⟩)]) ∧ w' = w.alloc (.cells #[.slice a len cap] 52) := by
  go_enter Tryz.func141, Tryz.ntmps141
  go_wp2
  go_ret
  exact ⟨rfl, rfl⟩

theorem back_stops (n : Nat) (hn : 1 ≤ n) (Bs n₀ b off cap : Nat) (p : List Int) (h5 : p.length ≤ 5) (hb : b < n₀) (w : World) (hBs : Bs < w.heap.size) (hn₀ : n₀ ≤ w.heap.size)
    (hc : w.cell? ⟨Bs, 0, none⟩ = some (.slice (some ⟨b, off, none⟩) p.length cap)) (hl : ∀ j, j < p.length → w.cell? ⟨b, off + j, none⟩ = some (.int .i64 (p[j]?.getD 0))) :
    SeqStopsK Fence.wide n Tryz.prog 158 #[.pointer (some ⟨Bs, 0, none⟩)] (fun x : Int × Int => #[Value.int .i64 x.1, Value.int .i64 x.2]) (Kb n₀ Bs) (fun ys => ys = back p p.length)
      (fun pre => ∃ k, k ≤ p.length ∧ pre = back p k) p.length w := fun l J Jx W hW _ _ hY h0 =>
  back1_in Fence.wide n trivial rfl hn l Bs n₀ b off cap p h5 hb J Jx hY W ((hW.cell (p := ⟨Bs, 0, none⟩) hBs).trans hc)
    (fun j hj => (hW.cell (p := ⟨b, off + j, none⟩) (Nat.lt_of_lt_of_le hb hn₀)).trans (hl j hj)) h0

/-- The folding of the factors, as they come: an error stays. -/
def hfold (lo hi : Int) (xs : List (Int × Int)) : Int × Int × Int := xs.foldl (fun s x => if s.2.2 = 0 then Um.taR s.1 s.2.1 lo hi x.2 x.2 else s) (0, 0, 0)
theorem hfold_nil (lo hi : Int) : hfold lo hi [] = (0, 0, 0) := rfl
theorem hfold_snoc (lo hi : Int) (xs : List (Int × Int)) (x : Int × Int) (h : (hfold lo hi xs).2.2 = 0) : hfold lo hi (xs ++ [x]) = Um.taR (hfold lo hi xs).1 (hfold lo hi xs).2.1 lo hi x.2 x.2 := by
  unfold hfold at *
  rw [List.foldl_append]
  show (if (List.foldl _ (0, 0, 0) xs).2.2 = 0 then _ else _) = _
  rw [if_pos h]
theorem hfold_back {lo hi : Int} {p : List Int} (hc : Um.chk lo hi = 0) (hm : ∀ c ∈ p, Um.may c = true) : ∀ k, k ≤ p.length → hfold lo hi (back p k) = Um.hcR lo hi (Um.tl p k)
  | 0, _ => by rw [Um.tl_zero]; rfl
  | k + 1, hk => by
    have ih := hfold_back hc hm k (by omega)
    rw [Um.tl_succ (by omega), back_succ]
    have hs : hfold lo hi (back p k ++ [(((p.length - 1 - k : Nat) : Int), p[p.length - 1 - k]?.getD 0)]) = if (hfold lo hi (back p k)).2.2 = 0 then Um.taR (hfold lo hi (back p k)).1 (hfold lo hi (back p k)).2.1 lo hi (p[p.length - 1 - k]?.getD 0) (p[p.length - 1 - k]?.getD 0) else hfold lo hi (back p k) := by
      unfold hfold; rw [List.foldl_append]; rfl
    rw [hs, ih]
    show _ = Um.hstep lo hi (Um.hcR lo hi (Um.tl p k)) _
    by_cases h : (Um.hcR lo hi (Um.tl p k)).2.2 = 0
    · rw [if_pos h]
      exact Um.ta_horn hc (Um.hc_chk (Um.chk_ok.1 hc).2.2 _ (fun c hcm => hm c (Um.tl_mem hcm)) h) h (hm _ (Um.at_mem (by omega)))
    · rw [if_neg h]
      have e := (Um.hc_fault (lo := lo) (hi := hi) (Um.tl p k)).resolve_left h
      rw [e]; rfl
theorem hfold_all {lo hi : Int} {p : List Int} (hc : Um.chk lo hi = 0) (hm : ∀ c ∈ p, Um.may c = true) : hfold lo hi (back p p.length) = Um.hornR lo hi p := by
  rw [hfold_back hc hm _ (Nat.le_refl _), Um.tl_all, Um.hc_horn (Um.chk_ok.1 hc).2.2 p hm]
theorem hfold_stop {lo hi : Int} {p : List Int} {k : Nat} (hc : Um.chk lo hi = 0) (hm : ∀ c ∈ p, Um.may c = true) (hk : k ≤ p.length) (h : ¬ (hfold lo hi (back p k)).2.2 = 0) : (hfold lo hi (back p k)).2.2 = 4 ∧ Um.hornR lo hi p = (0, 0, 4) := by
  rw [hfold_back hc hm k hk] at h ⊢
  have e := (Um.hc_fault (lo := lo) (hi := hi) (Um.tl p k)).resolve_left h
  refine ⟨by rw [e], ?_⟩
  rw [← Um.hc_horn (Um.chk_ok.1 hc).2.2 p hm]
  have := Um.hc_stay hk (Nat.le_refl _) e
  rwa [Um.tl_all p] at this

-- THE WALK
/-- Between two rounds: what has been summed up, and what else lies there. -/
structure Hi (w W : World) (S : Nat) (lo hi : Int) (s : Int × Int × Int) : Prop where
  ok : s.2.2 = 0
  sum : Sp W S s.1 s.2.1
  x : Sp W w.heap.size lo hi
  res : Sp W (w.heap.size + 1) 0 0
  err : Blk W (w.heap.size + 1 + 1) 39 #[.nilIface]
  below : Below w.heap.size w W
  bs : S + 1 < W.heap.size
/-- A round has left: what is told. -/
structure Hx (w W : World) (s : Int × Int × Int) : Prop where
  no : ¬ s.2.2 = 0
  res : Sp W (w.heap.size + 1) 0 0
  err : Blk W (w.heap.size + 1 + 1) 39 #[errV s.2.2]
  below : Below w.heap.size w W
theorem Sp.kept {W W' : World} {row : Option Nat} {b : Nat} {lo hi : Int} (h : Sp W b lo hi) (hg : W.grownBy W' row) (hr : ∀ r, row = some r → ∃ o : Obj, W.heap[r]? = some o ∧ o.isCells = false) : Sp W' b lo hi :=
  (hg.block b h.lt (fun e => by obtain ⟨_, ho, hc⟩ := hr b e.symm; unfold Sp at h; rw [h] at ho; cases ho; cases hc)).trans h
theorem Blk.kept {W W' : World} {row : Option Nat} {b : Nat} {T : TypeId} {cs : Array Value} (h : Blk W b T cs) (hg : W.grownBy W' row) (hr : ∀ r, row = some r → ∃ o : Obj, W.heap[r]? = some o ∧ o.isCells = false) : Blk W' b T cs :=
  (hg.block b h.lt (fun e => by obtain ⟨_, ho, hc⟩ := hr b e.symm; unfold Blk at h; rw [h] at ho; cases ho; cases hc)).trans h
theorem Hi.step {w W W' : World} {S : Nat} {lo hi : Int} {s : Int × Int × Int} (h : Hi w W S lo hi s) (hb : Below W.heap.size W W') : Hi w W' S lo hi s :=
  ⟨h.ok, h.sum.step hb, h.x.step hb, h.res.step hb, h.err.step hb, h.below.trans (hb.mono h.below.size), Nat.lt_of_lt_of_le h.bs hb.size⟩
theorem Hi.own {w : World} {S B : Nat} {lo hi : Int} (f : List (Int × Int) → Int × Int × Int) (hB : w.heap.size ≤ B) : OwnFrom B (fun s W => Hi w W S lo hi (f s)) := fun _ A C row hs hg hr =>
  ⟨hs.ok, hs.sum.kept hg (fun r e => (hr r e).2), hs.x.kept hg (fun r e => (hr r e).2), hs.res.kept hg (fun r e => (hr r e).2), hs.err.kept hg (fun r e => (hr r e).2), ownFrom_below (β := Unit) (Nat.le_refl _) hB () A C row hs.below hg hr, Nat.lt_of_lt_of_le hs.bs hg.size⟩
theorem Hx.own {w : World} {B : Nat} (c : Code) (f : List (Int × Int) → Int × Int × Int) (hB : w.heap.size ≤ B) : OwnFrom B (fun s W => c = .ret ∧ Hx w W (f s)) := fun _ A C row hs hg hr =>
  ⟨hs.1, hs.2.no, hs.2.res.kept hg (fun r e => (hr r e).2), hs.2.err.kept hg (fun r e => (hr r e).2), ownFrom_below (β := Unit) (Nat.le_refl _) hB () A C row hs.2.below hg hr⟩
theorem keeps_of {B : Nat} {W W' : World} (hb : Below W.heap.size W W') : KeepsFrom B W W' := ⟨hb.size, fun k _ _ hk _ => (hb.block k (Array.getElem?_eq_some_iff.1 hk).1).trans hk⟩
theorem Kb.putObj {n₀ Bs : Nat} {w : World} (h1 : n₀ ≤ w.heap.size) (h2 : Bs < w.heap.size) (W : World) (l : Nat) (o o' : Obj) (hl : w.heap.size ≤ l) (h : W.heap[l]? = some o) (hc : o.isCells = false) (hw : o.isWalk = false) : Kb n₀ Bs W (W.putObj l o') :=
  ⟨belowK_b (w := w) h1 W l o o' hl h hc hw, World.putObj_heap_other (by omega)⟩

set_option maxRecDepth 100000 in
set_option maxHeartbeats 4000000 in
theorem horner_right (p : List Int) (v : Value) (lo hi : Int) (w : World) (hl : Li w.heap.size w v p) (h : Um.over p lo hi = 0) :
    Calls Tryz.prog 119 #[v, .agg #[.int .i64 lo, .int .i64 hi]] w fun e w' => e = .returned (.tuple #[.agg #[.int .i64 (Um.hornR lo hi p).1, .int .i64 (Um.hornR lo hi p).2.1], errV (Um.hornR lo hi p).2.2]) ∧ Below w.heap.size w w' := by
  have q1 := errG
  have q2 := errGn
  have q3 := errE
  have q4 := errN
  have HO := fun w hl => hid (checkOver_any p v lo hi w hl)
  rw [h] at HO
  obtain ⟨hp, hc⟩ := Um.over_ok.1 h
  obtain ⟨h0, h5, hm⟩ := Um.pchk_ok.1 hp
  obtain ⟨b, off, cap, rfl, hlt, hcs⟩ := hl.out h0
  have HA := hid (hfold_all hc hm)
  have HS := fun (k : Nat) (hk : k ≤ p.length) hn => hid (hfold_stop hc hm hk hn)
  have HC := hid hcs
  have hX : Sp (((w.alloc (.cells #[.int .i64 lo, .int .i64 hi] 29)).alloc (.cells #[.int .i64 0, .int .i64 0] 29)).alloc (.cells #[.nilIface] 39)) w.heap.size lo hi := ((Sp.new w lo hi).alloc _).alloc _
  have hR : Sp (((w.alloc (.cells #[.int .i64 lo, .int .i64 hi] 29)).alloc (.cells #[.int .i64 0, .int .i64 0] 29)).alloc (.cells #[.nilIface] 39)) (w.heap.size + 1) 0 0 := by
    simpa using (Sp.new (w.alloc (.cells #[.int .i64 lo, .int .i64 hi] 29)) 0 0).alloc (.cells #[.nilIface] 39)
  have hE : Blk (((w.alloc (.cells #[.int .i64 lo, .int .i64 hi] 29)).alloc (.cells #[.int .i64 0, .int .i64 0] 29)).alloc (.cells #[.nilIface] 39)) (w.heap.size + 1 + 1) 39 #[.nilIface] := by
    simpa using Blk.new ((w.alloc (.cells #[.int .i64 lo, .int .i64 hi] 29)).alloc (.cells #[.int .i64 0, .int .i64 0] 29)) 39 #[.nilIface]
  have hB : Below w.heap.size w (((w.alloc (.cells #[.int .i64 lo, .int .i64 hi] 29)).alloc (.cells #[.int .i64 0, .int .i64 0] 29)).alloc (.cells #[.nilIface] 39)) := by go_grown
  have hL := (hl.keep hB).wide hB.size
  clear hcs hm h0 hp hc h hl
  refine (callsIn_wide (n := 6)).1 ?_
  refine callsIn_of_wp_marks Tryz.func119 rfl trivial ?_ rfl
  simp only [Tryz.ntmps119, List.size_toArray, List.length_cons, List.length_nil, Nat.reduceAdd, Nat.reduceSub, Array.replicate_succ, Array.replicate_zero, List.push_toArray, List.append_toArray, List.nil_append, List.cons_append]
  gi_wp2_with (first | (refine ⟨trivial, ?_⟩; gi_at_call 125; refine (callsIn_wide.2 ((HO _ hL).out)).mono ?_; rintro e w1 ⟨rfl, hb⟩; replace hX := hX.step hb; replace hR := hR.step hb; replace hE := hE.step hb; replace hB := hB.trans (hb.mono hB.size); clear hb hL) | (refine ⟨trivial, ?_⟩; gi_at_call 123; refine (callsIn_wide.2 (alone_any _ _)).mono ?_; rintro e w2 ⟨rfl, rfl⟩) | (refine ⟨trivial, ?_⟩; gi_at_call 141; refine (callsIn_wide.2 (backward_any _ _ _ _)).mono ?_; rintro e w2 ⟨rfl, rfl⟩))
  have hs0 := hB.size
  have hB2 : Below w1.heap.size w1 (((w1.alloc (.cells #[.int .i64 0, .int .i64 0] 29)).alloc (.cells #[.int .i64 0, .int .i64 0] 29)).alloc (.cells #[.slice (some ⟨b, off, none⟩) p.length cap] 52)) := by go_grown
  have hB3 : Below w.heap.size w (((w1.alloc (.cells #[.int .i64 0, .int .i64 0] 29)).alloc (.cells #[.int .i64 0, .int .i64 0] 29)).alloc (.cells #[.slice (some ⟨b, off, none⟩) p.length cap] 52)) := hB.trans (hB2.mono hs0)
  have hS : Sp (((w1.alloc (.cells #[.int .i64 0, .int .i64 0] 29)).alloc (.cells #[.int .i64 0, .int .i64 0] 29)).alloc (.cells #[.slice (some ⟨b, off, none⟩) p.length cap] 52)) (w1.heap.size + 1) 0 0 := by
    simpa using (Sp.new (w1.alloc (.cells #[.int .i64 0, .int .i64 0] 29)) 0 0).alloc (.cells #[.slice (some ⟨b, off, none⟩) p.length cap] 52)
  have hN : Blk (((w1.alloc (.cells #[.int .i64 0, .int .i64 0] 29)).alloc (.cells #[.int .i64 0, .int .i64 0] 29)).alloc (.cells #[.slice (some ⟨b, off, none⟩) p.length cap] 52)) (w1.heap.size + 1 + 1) 52 #[.slice (some ⟨b, off, none⟩) p.length cap] := by
    simpa using Blk.new ((w1.alloc (.cells #[.int .i64 0, .int .i64 0] 29)).alloc (.cells #[.int .i64 0, .int .i64 0] 29)) 52 #[.slice (some ⟨b, off, none⟩) p.length cap]
  have hl3 := hX.lt
  have hl4 := hR.lt
  have hl5 := hE.lt
  refine wpIn_rangeFunc_ownG rfl (by omega) (gf := 158) (lb := #[.pointer (some ⟨w1.heap.size + 1 + 1, 0, none⟩)]) rfl trivial (enters_of Tryz.func158 (by kernel_rfl) rfl)
    (back_stops _ (by omega) (w1.heap.size + 1 + 1) w.heap.size b off cap p h5 hlt _ (by simp) (by simp; omega) (hN.cell 0 rfl) (fun j hj => (hB3.cell (p := ⟨b, off + j, none⟩) hlt).trans (HC.out j hj)))
    (fun h k => Kb.trans h k) (Kb.putObj (by simp; omega) (by simp)) (Below.refl _ _) (fun _ => rfl)
    (fun pre W => Hi w W (w1.heap.size + 1) lo hi (hfold lo hi pre)) (fun c pre W => c = .ret ∧ Hx w W (hfold lo hi pre))
    (Hi.own _ (by simp; omega)) (fun c => Hx.own c _ (by simp; omega))
    ⟨rfl, hS, hX.step hB2, hR.step hB2, hE.step hB2, hB3, by simp⟩
    (fun x => { tmps := #[.slice (some ⟨b, off, none⟩) p.length cap, .agg #[.int .i64 lo, .int .i64 hi], undef, .pointer (some ⟨w.heap.size, 0, none⟩), .pointer (some ⟨w.heap.size + 1, 0, none⟩), .pointer (some ⟨w.heap.size + 1 + 1, 0, none⟩), errV 0, .pointer (some ⟨w1.heap.size + 1, 0, none⟩), undef, .int .i64 x.2, undef, undef, .slice (some ⟨b, off, none⟩) p.length cap, .agg #[.int .i64 lo, .int .i64 hi], errV 0, errV 0, .bool false, undef, undef, .agg #[.int .i64 0, .int .i64 0], .slice (some ⟨b, off, none⟩) p.length cap, .func (.func 158) #[] #[.pointer (some ⟨w1.heap.size + 1 + 1, 0, none⟩)], .int .i64 x.1, .int .i64 x.2, undef, undef, undef, undef, undef, undef, undef, undef, undef, undef, undef, undef, undef, undef], defers := [] }) ?assign ?body ?done ?stop
  case assign =>
    intro l x W K hK
    gi_wp2
    exact hK
  case body =>
    rintro l pre x W hI _
    have hmx : Tryz.prog.follows .mixedOrders = true := by kernel_rfl
    have HF := hid (hfold_snoc lo hi pre x hI.ok)
    obtain ⟨R', hR'⟩ : ∃ R', hfold lo hi (pre ++ [x]) = R' := ⟨_, rfl⟩
    have HR := hid hR'
    clear hR'
    rw [HR.out] at HF
    generalize hfold lo hi pre = s at *
    have HT := fun w => hid (timesAdd_any s.1 s.2.1 lo hi x.2 x.2 w)
    rw [← HF.out] at HT
    clear HF
    gi_wp2
    obtain ⟨Inv, hInv⟩ : ∃ Inv : Array Bool → Act → World → Prop, ∀ listed a W', Inv listed a W' ↔ (∃ v25 v26 v27 v28 v29 v24 v30 v31 v10 v11 : Value, a = { tmps := #[.slice (some ⟨b, off, none⟩) p.length cap, .agg #[.int .i64 lo, .int .i64 hi], undef, .pointer (some ⟨w.heap.size, 0, none⟩), .pointer (some ⟨w.heap.size + 1, 0, none⟩), .pointer (some ⟨w.heap.size + 1 + 1, 0, none⟩), errV 0, .pointer (some ⟨w1.heap.size + 1, 0, none⟩), undef, .int .i64 x.2, v10, v11, .slice (some ⟨b, off, none⟩) p.length cap, .agg #[.int .i64 lo, .int .i64 hi], errV 0, errV 0, .bool false, undef, undef, .agg #[.int .i64 0, .int .i64 0], .slice (some ⟨b, off, none⟩) p.length cap, .func (.func 158) #[] #[.pointer (some ⟨w1.heap.size + 1 + 1, 0, none⟩)], .int .i64 x.1, .int .i64 x.2, v24, v25, v26, v27, v28, v29, v30, v31, undef, undef, undef, undef, undef, undef], defers := [] } ∧ Below W.heap.size W W' ∧
      (listed.getD 0 false = true → v25 = .agg #[.int .i64 s.1, .int .i64 s.2.1]) ∧ (listed.getD 1 false = true → v26 = .agg #[.int .i64 lo, .int .i64 hi]) ∧ (listed.getD 2 false = true → v27 = .int .i64 x.2) ∧ (listed.getD 3 false = true → v28 = .agg #[.int .i64 x.2, .int .i64 x.2]) ∧
      (listed.getD 4 false = true → v29 = .tuple #[.agg #[.int .i64 (R').1, .int .i64 (R').2.1], errV (R').2.2]) ∧ (listed.getD 5 false = true → v24 = .tuple #[.agg #[.int .i64 (R').1, .int .i64 (R').2.1], errV (R').2.2]) ∧ (listed.getD 6 false = true → v30 = .agg #[.int .i64 R'.1, .int .i64 R'.2.1]) ∧ (listed.getD 7 false = true → v31 = errV R'.2.2) ∧
      (listed.getD 8 false = true → ∃ c, v10 = .pointer (some ⟨c, 0, none⟩) ∧ W.heap.size ≤ c ∧ Sp W' c (if listed.getD 9 false then R'.1 else 0) (if listed.getD 9 false then R'.2.1 else 0)) ∧ (listed.getD 10 false = true → v11 = errV R'.2.2) ∧ (listed.getD 9 false = true → listed.getD 8 false = true)) := ⟨_, fun _ _ _ => Iff.rfl⟩
    have HI := hid hInv
    clear hInv
    refine Free.regionIn hmx (by kernel_rfl) Inv ?s1 ?s2 ?s3
    case s1 =>
      exact (HI.out _ _ _).2 ⟨undef, undef, undef, undef, undef, undef, undef, undef, undef, undef, rfl, by exact (Below.refl _ _).drew, Free.not_yet, Free.not_yet, Free.not_yet, Free.not_yet, Free.not_yet, Free.not_yet, Free.not_yet, Free.not_yet, Free.not_yet, Free.not_yet, Free.not_yet⟩
    case s2 =>
      intro i listed a W1 hi hne hnl hsz hv
      obtain ⟨v25, v26, v27, v28, v29, v24, v30, v31, v10, v11, rfl, hW, l0, l1, l2, l3, l4, l5, l6, l7, l8, l10, l9⟩ := (HI.out _ _ _).1 hv
      clear hv
      replace hi : i < 11 := hi
      replace hsz : listed.size = 11 := hsz
      have z1 := (hI.sum.step hW).lo
      have z2 := (hI.sum.step hW).hi
      have z3 := (hI.x.step hW).lo
      have z4 := (hI.x.step hW).hi
      rcases (by omega : i = 0 ∨ i = 1 ∨ i = 2 ∨ i = 3 ∨ i = 4 ∨ i = 5 ∨ i = 6 ∨ i = 7 ∨ i = 8 ∨ i = 9 ∨ i = 10) with rfl | rfl | rfl | rfl | rfl | rfl | rfl | rfl | rfl | rfl | rfl
      · refine Free.opIn rfl rfl (fun K hK => ?_)
        go_simp
        refine hK _ _ ((HI.out _ _ _).2 ⟨_, v26, v27, v28, v29, v24, v30, v31, v10, v11, rfl, hW, fun _ => rfl, Free.of_set (by decide) l1, Free.of_set (by decide) l2, Free.of_set (by decide) l3, Free.of_set (by decide) l4, Free.of_set (by decide) l5, Free.of_set (by decide) l6, Free.of_set (by decide) l7, by rw [Free.set_other (by decide) false, Free.set_other (by decide) false]; exact l8, Free.of_set (by decide) l10, by rw [Free.set_other (by decide) false]; exact fun e => Free.set_other (listed := listed) (by decide) false |>.trans (l9 e)⟩)
      · refine Free.opIn rfl rfl (fun K hK => ?_)
        go_simp
        refine hK _ _ ((HI.out _ _ _).2 ⟨v25, _, v27, v28, v29, v24, v30, v31, v10, v11, rfl, hW, Free.of_set (by decide) l0, fun _ => rfl, Free.of_set (by decide) l2, Free.of_set (by decide) l3, Free.of_set (by decide) l4, Free.of_set (by decide) l5, Free.of_set (by decide) l6, Free.of_set (by decide) l7, by rw [Free.set_other (by decide) false, Free.set_other (by decide) false]; exact l8, Free.of_set (by decide) l10, by rw [Free.set_other (by decide) false]; exact fun e => Free.set_other (listed := listed) (by decide) false |>.trans (l9 e)⟩)
      · refine Free.opIn rfl rfl (fun K hK => ?_)
        go_simp
        refine hK _ _ ((HI.out _ _ _).2 ⟨v25, v26, _, v28, v29, v24, v30, v31, v10, v11, rfl, hW, Free.of_set (by decide) l0, Free.of_set (by decide) l1, fun _ => rfl, Free.of_set (by decide) l3, Free.of_set (by decide) l4, Free.of_set (by decide) l5, Free.of_set (by decide) l6, Free.of_set (by decide) l7, by rw [Free.set_other (by decide) false, Free.set_other (by decide) false]; exact l8, Free.of_set (by decide) l10, by rw [Free.set_other (by decide) false]; exact fun e => Free.set_other (listed := listed) (by decide) false |>.trans (l9 e)⟩)
      · refine Free.opIn rfl rfl (fun K hK => ?_)
        obtain rfl := l2 (hne 2 (by kernel_rfl))
        gi_wp2_with (refine ⟨trivial, ?_⟩; gi_at_call 123; refine (CallsIn.inRound l (callsIn_wide.2 (alone_any _ _))).mono ?_; rintro e W2 ⟨rfl, rfl⟩)
        exact (HI.out _ _ _).2 ⟨v25, v26, _, _, v29, v24, v30, v31, v10, v11, rfl, hW.alloc hW.size _, Free.of_set (by decide) l0, Free.of_set (by decide) l1, fun _ => rfl, fun _ => rfl, Free.of_set (by decide) l4, Free.of_set (by decide) l5, Free.of_set (by decide) l6, Free.of_set (by decide) l7, by rw [Free.set_other (by decide) false, Free.set_other (by decide) false]; exact fun e => (l8 e).imp fun c h => ⟨h.1, h.2.1, h.2.2.alloc _⟩, Free.of_set (by decide) l10, by rw [Free.set_other (by decide) false]; exact fun e => Free.set_other (listed := listed) (by decide) false |>.trans (l9 e)⟩
      · refine Free.opIn rfl rfl (fun K hK => ?_)
        obtain rfl := l0 (hne 0 (by kernel_rfl))
        obtain rfl := l1 (hne 1 (by kernel_rfl))
        obtain rfl := l3 (hne 3 (by kernel_rfl))
        gi_wp2_with (refine ⟨trivial, ?_⟩; gi_at_call 142; refine (CallsIn.inRound l (callsIn_wide.2 ((HT _).out))).mono ?_; rintro e W2 ⟨rfl, hb⟩)
        exact (HI.out _ _ _).2 ⟨_, _, v27, _, _, v24, v30, v31, v10, v11, rfl, hW.trans (hb.mono hW.size), fun _ => rfl, fun _ => rfl, Free.of_set (by decide) l2, fun _ => rfl, fun _ => rfl, Free.of_set (by decide) l5, Free.of_set (by decide) l6, Free.of_set (by decide) l7, by rw [Free.set_other (by decide) false, Free.set_other (by decide) false]; exact fun e => (l8 e).imp fun c h => ⟨h.1, h.2.1, h.2.2.step hb⟩, Free.of_set (by decide) l10, by rw [Free.set_other (by decide) false]; exact fun e => Free.set_other (listed := listed) (by decide) false |>.trans (l9 e)⟩
      · refine Free.opIn rfl rfl (fun K hK => ?_)
        obtain rfl := l4 (hne 4 (by kernel_rfl))
        go_simp
        refine hK _ _ ((HI.out _ _ _).2 ⟨v25, v26, v27, v28, _, _, v30, v31, v10, v11, rfl, hW, Free.of_set (by decide) l0, Free.of_set (by decide) l1, Free.of_set (by decide) l2, Free.of_set (by decide) l3, fun _ => rfl, fun _ => rfl, Free.of_set (by decide) l6, Free.of_set (by decide) l7, by rw [Free.set_other (by decide) false, Free.set_other (by decide) false]; exact l8, Free.of_set (by decide) l10, by rw [Free.set_other (by decide) false]; exact fun e => Free.set_other (listed := listed) (by decide) false |>.trans (l9 e)⟩)
      · refine Free.opIn rfl rfl (fun K hK => ?_)
        obtain rfl := l5 (hne 5 (by kernel_rfl))
        go_simp
        refine hK _ _ ((HI.out _ _ _).2 ⟨v25, v26, v27, v28, v29, _, _, v31, v10, v11, rfl, hW, Free.of_set (by decide) l0, Free.of_set (by decide) l1, Free.of_set (by decide) l2, Free.of_set (by decide) l3, Free.of_set (by decide) l4, fun _ => rfl, fun _ => rfl, Free.of_set (by decide) l7, by rw [Free.set_other (by decide) false, Free.set_other (by decide) false]; exact l8, Free.of_set (by decide) l10, by rw [Free.set_other (by decide) false]; exact fun e => Free.set_other (listed := listed) (by decide) false |>.trans (l9 e)⟩)
      · refine Free.opIn rfl rfl (fun K hK => ?_)
        obtain rfl := l5 (hne 5 (by kernel_rfl))
        go_simp
        refine hK _ _ ((HI.out _ _ _).2 ⟨v25, v26, v27, v28, v29, _, v30, _, v10, v11, rfl, hW, Free.of_set (by decide) l0, Free.of_set (by decide) l1, Free.of_set (by decide) l2, Free.of_set (by decide) l3, Free.of_set (by decide) l4, fun _ => rfl, Free.of_set (by decide) l6, fun _ => rfl, by rw [Free.set_other (by decide) false, Free.set_other (by decide) false]; exact l8, Free.of_set (by decide) l10, by rw [Free.set_other (by decide) false]; exact fun e => Free.set_other (listed := listed) (by decide) false |>.trans (l9 e)⟩)
      · have h8 := Free.off hnl
        have h9 : listed.getD 9 false = false := by
          cases e : listed.getD 9 false
          · rfl
          · rw [l9 e] at h8; cases h8
        refine Free.opIn rfl rfl (fun K hK => ?_)
        go_simp
        refine hK _ _ ((HI.out _ _ _).2 ⟨v25, v26, v27, v28, v29, v24, v30, v31, _, v11, rfl, hW.alloc hW.size _, Free.of_set (by decide) l0, Free.of_set (by decide) l1, Free.of_set (by decide) l2, Free.of_set (by decide) l3, Free.of_set (by decide) l4, Free.of_set (by decide) l5, Free.of_set (by decide) l6, Free.of_set (by decide) l7, by rw [Free.set_other (i := 8) (j := 9) (by decide) false, h9]; exact fun _ => ⟨W1.heap.size, rfl, hW.size, Sp.new _ _ _⟩, Free.of_set (by decide) l10, fun _ => Free.set_same (by omega)⟩)
      · have h9 := Free.off hnl
        have h8 := hne 8 (by kernel_rfl)
        obtain ⟨c, rfl, hle, hsp⟩ := l8 h8
        rw [h9] at hsp
        replace hsp : Sp W1 c 0 0 := hsp
        have y1 := hsp.fl
        have y2 := hsp.fh
        have y3 := hsp.lo
        have y4 := hsp.hi
        refine Free.opIn rfl rfl (fun K hK => ?_)
        obtain rfl := l6 (hne 6 (by kernel_rfl))
        go_simp
        refine hK _ _ ((HI.out _ _ _).2 ⟨v25, v26, v27, v28, v29, v24, _, v31, _, v11, rfl, (hW.setCell (by simpa using hle) _).setCell (by simpa using hle) _, Free.of_set (by decide) l0, Free.of_set (by decide) l1, Free.of_set (by decide) l2, Free.of_set (by decide) l3, Free.of_set (by decide) l4, Free.of_set (by decide) l5, fun _ => rfl, Free.of_set (by decide) l7, by rw [Free.set_same (i := 9) (by omega)]; exact fun _ => ⟨c, rfl, hle, hsp.set _ _⟩, Free.of_set (by decide) l10, fun _ => Free.set_other (listed := listed) (by decide) false |>.trans h8⟩)
      · refine Free.opIn rfl rfl (fun K hK => ?_)
        obtain rfl := l7 (hne 7 (by kernel_rfl))
        go_simp
        refine hK _ _ ((HI.out _ _ _).2 ⟨v25, v26, v27, v28, v29, v24, v30, _, v10, _, rfl, hW, Free.of_set (by decide) l0, Free.of_set (by decide) l1, Free.of_set (by decide) l2, Free.of_set (by decide) l3, Free.of_set (by decide) l4, Free.of_set (by decide) l5, Free.of_set (by decide) l6, fun _ => rfl, by rw [Free.set_other (by decide) false, Free.set_other (by decide) false]; exact l8, fun _ => rfl, by rw [Free.set_other (by decide) false]; exact fun e => Free.set_other (listed := listed) (by decide) false |>.trans (l9 e)⟩)
    case s3 =>
      intro listed a W1 hall hsz hv
      obtain ⟨v25, v26, v27, v28, v29, v24, v30, v31, v10, v11, rfl, hW, l0, l1, l2, l3, l4, l5, l6, l7, l8, l10, l9⟩ := (HI.out _ _ _).1 hv
      clear hv HI
      have h9 := Free.listed_of hall hsz 9 (by decide)
      obtain ⟨c, rfl, hle, hsp⟩ := l8 (Free.listed_of hall hsz 8 (by decide))
      obtain rfl := l10 (Free.listed_of hall hsz 10 (by decide))
      rw [h9] at hsp
      replace hsp : Sp W1 c R'.1 R'.2.1 := hsp
      clear l0 l1 l2 l3 l4 l5 l6 l7 l8 l9 l10 hall hsz HT
      have hJ := hI.step hW
      have hk0 : KeepsFrom _ W W1 := keeps_of (B := (((w1.alloc (.cells #[.int .i64 0, .int .i64 0] 29)).alloc (.cells #[.int .i64 0, .int .i64 0] 29)).alloc (.cells #[.slice (some ⟨b, off, none⟩) p.length cap] 52)).heap.size) hW
      have hbs := hI.bs
      by_cases hr : R'.2.2 = 0
      · have kr : (R'.2.2 != 0) = false := by simpa using hr
        have c1 := hsp.lo
        have c2 := hsp.hi
        have y1 := hJ.sum.fl
        have y2 := hJ.sum.fh
        have y3 := hJ.sum.lo
        have y4 := hJ.sum.hi
        gi_wp2
        refine ⟨(hk0.trans ((KeepsOthers.setCell _ _ _).from _)).trans ((KeepsOthers.setCell _ _ _).from _), ⟨((hW.mono hI.below.size).setCell (by simp only []; omega) _).setCell (by simp only []; omega) _, ?_⟩, ?_⟩
        · rw [Below.heap_setCell _ _ _ _ (by simp only []; omega), Below.heap_setCell _ _ _ _ (by simp only []; omega)]
          exact hW.block _ (by omega)
        · show Hi w _ _ lo hi (hfold lo hi (pre ++ [x]))
          rw [HR.out]
          exact ⟨hr, hJ.sum.set _ _, (hJ.x.other _ _ (by simp only []; omega)).other _ _ (by simp only []; omega), (hJ.res.other _ _ (by simp only []; omega)).other _ _ (by simp only []; omega), (hJ.err.other _ _ (by simp only []; omega)).other _ _ (by simp only []; omega), (hJ.below.setCell (by simp only []; omega) _).setCell (by simp only []; omega) _, by simpa using hJ.bs⟩
      · have kr : (R'.2.2 != 0) = true := by simpa using hr
        have y1 := hJ.res.fl
        have y2 := hJ.res.fh
        have y3 := hJ.res.lo
        have y4 := hJ.res.hi
        have e1 := hJ.err.cell 0 rfl
        have e2 := hJ.err.free 0
        have ev := errV_some hr
        have HV := hid ev
        gi_wp2
        refine ⟨((hk0.trans ((KeepsOthers.setCell _ _ _).from _)).trans ((KeepsOthers.setCell _ _ _).from _)).trans ((KeepsOthers.setCell _ _ _).from _), rfl, ?_⟩
        show Hx w _ (hfold lo hi (pre ++ [x]))
        rw [HR.out]
        refine ⟨hr, ?_, ?_, ?_⟩
        · exact (hJ.res.set 0 0).other _ _ (by simp only []; omega)
        · rw [HV.out]
          exact Blk.set (cs := #[.nilIface]) ((hJ.err.other _ _ (by simp only []; omega)).other _ _ (by simp only []; omega)) 0 _ rfl
        · exact ((hJ.below.setCell (by simp only []; omega) _).setCell (by simp only []; omega) _).setCell (by simp only []; omega) _
  case done =>
    rintro D ys W hD rfl hI hK
    have HAo := HA.out
    rw [HAo] at hI
    clear HAo HA HS HC
    obtain ⟨R, hR'⟩ : ∃ R, Um.hornR lo hi p = R := ⟨_, rfl⟩
    rw [hR'] at hI
    have HR := hid hR'
    clear hR'
    have c1 := hI.sum.lo
    have c2 := hI.sum.hi
    have y1 := hI.res.fl
    have y2 := hI.res.fh
    have y3 := hI.res.lo
    have y4 := hI.res.hi
    have e1 := hI.err.cell 0 rfl
    have e2 := hI.err.free 0
    gi_wp2
    have hK' := (((KeepsOthers.setCell W ⟨w.heap.size + 1, 0, none⟩ (.int .i64 R.1)).trans (KeepsOthers.setCell _ ⟨w.heap.size + 1, 1, none⟩ (.int .i64 R.2.1))).trans (KeepsOthers.setCell _ ⟨w.heap.size + 1 + 1, 0, none⟩ .nilIface)).same D _ hK rfl
    refine ⟨by simp, .inl ⟨_, _, rfl, run_takeDeferred hK', ?_⟩⟩
    have s1 : Sp (((W.setCell ⟨w.heap.size + 1, 0, none⟩ (.int .i64 R.1)).setCell ⟨w.heap.size + 1, 1, none⟩ (.int .i64 R.2.1)).setCell ⟨w.heap.size + 1 + 1, 0, none⟩ .nilIface) (w.heap.size + 1) R.1 R.2.1 := (hI.res.set _ _).other _ _ (by simp only []; omega)
    have s2 : Blk (((W.setCell ⟨w.heap.size + 1, 0, none⟩ (.int .i64 R.1)).setCell ⟨w.heap.size + 1, 1, none⟩ (.int .i64 R.2.1)).setCell ⟨w.heap.size + 1 + 1, 0, none⟩ .nilIface) (w.heap.size + 1 + 1) 39 #[.nilIface] :=
      Blk.set (cs := #[.nilIface]) ((hI.err.other _ _ (by simp only []; omega)).other _ _ (by simp only []; omega)) 0 _ rfl
    have s3 := s1.kept (grownBy_putObj' _ D (.deferred none)) (fun r e => by cases e; exact ⟨_, hK', rfl⟩)
    have s4 := s2.kept (grownBy_putObj' _ D (.deferred none)) (fun r e => by cases e; exact ⟨_, hK', rfl⟩)
    have d1 := s3.lo
    have d2 := s3.hi
    have d3 := s4.cell 0 rfl
    rw [HR.out, hI.ok]
    refine ⟨.tuple #[.agg #[.int .i64 R.1, .int .i64 R.2.1], .nilIface], ?_, rfl, (((hI.below.setCell (by simp only []; omega) _).setCell (by simp only []; omega) _).setCell (by simp only []; omega) _).trans (belowK_b (w := w) (Nat.le_refl _) _ D _ _ (by simp at hD; omega) hK' rfl rfl)⟩
    simp [results, Tryz.f119, go_sem, d1, d2, d3]
  case stop =>
    rintro D c pre W hD ⟨k, hk, rfl⟩ ⟨rfl, hI⟩ hK
    obtain ⟨t1, t2⟩ := (HS k hk hI.no).out
    have HT1 := hid t1
    have HT2 := hid t2
    clear t1 t2 HS HA HC
    gi_wp2
    refine ⟨by simp, .inl ⟨_, _, rfl, run_takeDeferred hK, ?_⟩⟩
    have s3 := hI.res.kept (grownBy_putObj' _ D (.deferred none)) (fun r e => by cases e; exact ⟨_, hK, rfl⟩)
    have s4 := hI.err.kept (grownBy_putObj' _ D (.deferred none)) (fun r e => by cases e; exact ⟨_, hK, rfl⟩)
    rw [HT1.out] at s4
    have d1 := s3.lo
    have d2 := s3.hi
    have d3 := s4.cell 0 rfl
    rw [HT2.out]
    refine ⟨.tuple #[.agg #[.int .i64 0, .int .i64 0], errV 4], ?_, rfl, hI.below.trans (belowK_b (w := w) (Nat.le_refl _) _ D _ _ (by simp at hD; omega) hK rfl rfl)⟩
    simp [results, Tryz.f119, go_sem, d1, d2, d3]

set_option maxHeartbeats 1000000 in
theorem horner_wrong (p : List Int) (v : Value) (lo hi : Int) (w : World) (hl : Li w.heap.size w v p) (h : ¬ Um.over p lo hi = 0) :
    Calls Tryz.prog 119 #[v, .agg #[.int .i64 lo, .int .i64 hi]] w fun e w' => e = .returned (.tuple #[.agg #[.int .i64 0, .int .i64 0], errV (Um.over p lo hi)]) ∧ Below w.heap.size w w' := by
  have q1 := errG
  have q2 := errGn
  have q3 := errE
  have q4 := errN
  have HO := fun w hl => hid (checkOver_any p v lo hi w hl)
  have k : (Um.over p lo hi != 0) = true := by simpa using h
  have ev := errV_some h
  rw [ev]
  rw [ev] at HO
  clear h ev
  have hR : Sp (((w.alloc (.cells #[.int .i64 lo, .int .i64 hi] 29)).alloc (.cells #[.int .i64 0, .int .i64 0] 29)).alloc (.cells #[.nilIface] 39)) (w.heap.size + 1) 0 0 := by
    simpa using (Sp.new (w.alloc (.cells #[.int .i64 lo, .int .i64 hi] 29)) 0 0).alloc (.cells #[.nilIface] 39)
  have hE : Blk (((w.alloc (.cells #[.int .i64 lo, .int .i64 hi] 29)).alloc (.cells #[.int .i64 0, .int .i64 0] 29)).alloc (.cells #[.nilIface] 39)) (w.heap.size + 1 + 1) 39 #[.nilIface] := by
    simpa using Blk.new ((w.alloc (.cells #[.int .i64 lo, .int .i64 hi] 29)).alloc (.cells #[.int .i64 0, .int .i64 0] 29)) 39 #[.nilIface]
  have hB : Below w.heap.size w (((w.alloc (.cells #[.int .i64 lo, .int .i64 hi] 29)).alloc (.cells #[.int .i64 0, .int .i64 0] 29)).alloc (.cells #[.nilIface] 39)) := by go_grown
  have hL := (hl.keep hB).wide hB.size
  obtain ⟨a, cap, rfl, -⟩ := hl
  generalize Um.over p lo hi = T at *
  go_enter Tryz.func119, Tryz.ntmps119
  go_wp2_with (go_at_call 125; refine (HO _ hL).out.mono ?_; rintro e w1 ⟨rfl, hb⟩; replace hR := hR.step hb; replace hE := hE.step hb; replace hB := hB.trans (hb.mono hB.size); clear hb hL; have y1 := hR.fl; have y2 := hR.fh; have y3 := hR.lo; have y4 := hR.hi; have e1 := hE.cell 0 rfl; have e2 := hE.free 0)
  have s1 := (hR.set 0 0).other ⟨w.heap.size + 1 + 1, 0, none⟩ (.iface 85 (.int .i64 T)) (by simp only []; omega)
  have s2 : Blk (((w1.setCell ⟨w.heap.size + 1, 0, none⟩ (.int .i64 0)).setCell ⟨w.heap.size + 1, 1, none⟩ (.int .i64 0)).setCell ⟨w.heap.size + 1 + 1, 0, none⟩ (.iface 85 (.int .i64 T))) (w.heap.size + 1 + 1) 39 #[.iface 85 (.int .i64 T)] :=
    Blk.set (cs := #[.nilIface]) ((hE.other _ _ (by simp only []; omega)).other _ _ (by simp only []; omega)) 0 _ rfl
  have d1 := s1.lo
  have d2 := s1.hi
  have d3 := s2.cell 0 rfl
  refine bodyPost_ret (by simp [results, Tryz.results119, go_sem, d1, d2, d3]; try rfl) rfl ?_
  exact ⟨rfl, ((hB.setCell (by simp only []; omega) _).setCell (by simp only []; omega) _).setCell (by simp only []; omega) _⟩

/-- At every argument. -/
theorem horner_any (p : List Int) (v : Value) (lo hi : Int) (w : World) (hl : Li w.heap.size w v p) :
    Calls Tryz.prog 119 #[v, .agg #[.int .i64 lo, .int .i64 hi]] w fun e w' => e = .returned (.tuple #[.agg #[.int .i64 (Um.hornAll p lo hi).1, .int .i64 (Um.hornAll p lo hi).2.1], errV (Um.hornAll p lo hi).2.2]) ∧ Below w.heap.size w w' := by
  unfold Um.hornAll
  by_cases h : Um.over p lo hi = 0
  · rw [if_pos h]; exact horner_right p v lo hi w hl h
  · rw [if_neg h]; exact horner_wrong p v lo hi w hl h
end Go.Proofs.YtkfalmdckmlneaaGreatDoor
namespace Go.Proofs.YtkfalmdckmlneaaGreatDoor
set_option linter.unusedSimpArgs false
open Go.RowKit

/-- Between two rounds: what has been summed up, and what else lies there. -/
structure Pi (w W : World) (S : Nat) (lo hi : Int) (s : Int × Int × Int) : Prop where
  ok : s.2.2 = 0
  sum : Sp W S s.1 s.2.1
  x : Sp W w.heap.size lo hi
  res : Sp W (w.heap.size + 1) 0 0
  below : Below w.heap.size w W
theorem Pi.step {w W W' : World} {S : Nat} {lo hi : Int} {s : Int × Int × Int} (h : Pi w W S lo hi s) (hb : Below W.heap.size W W') : Pi w W' S lo hi s :=
  ⟨h.ok, h.sum.step hb, h.x.step hb, h.res.step hb, h.below.trans (hb.mono h.below.size)⟩
theorem of_pow {lo hi : Int} {k : Nat} (hc : Um.chk lo hi = 0) (hk : k ≤ 4) : Um.ofR lo hi k = Um.powR lo hi k := by
  unfold Um.ofR; rw [if_pos hc, if_neg (by omega)]; simp
theorem pows_next {lo hi : Int} {p : List Int} {k : Nat} (hc : Um.chk lo hi = 0) (hk : k < p.length) (h5 : p.length ≤ 5) (hm : ∀ c ∈ p, Um.may c = true) (h0 : (Um.powsN lo hi p k).2.2 = 0) (hp : (Um.powR lo hi k).2.2 = 0) :
    Um.taR (p[k]?.getD 0) (p[k]?.getD 0) (Um.powR lo hi k).1 (Um.powR lo hi k).2.1 (Um.powsN lo hi p k).1 (Um.powsN lo hi p k).2.1 = Um.powsN lo hi p (k + 1) := by
  rw [Um.ta_pows hc (by omega) (Um.pows_chk hc p k (by omega) h0) h0 (hm _ (Um.at_mem hk)) hp, Um.pows_succ, List.getD_eq_getElem?_getD]
theorem pows_out {lo hi : Int} {p : List Int} {k : Nat} (hk : k < p.length) (h : ¬ (Um.powsN lo hi p (k + 1)).2.2 = 0) : Um.powsN lo hi p p.length = (0, 0, 4) ∧ (Um.powsN lo hi p (k + 1)).2.2 = 4 := by
  have e := Um.pows_stay h (p.length - (k + 1))
  rw [show k + 1 + (p.length - (k + 1)) = p.length by omega] at e
  exact ⟨e, by rw [(Um.pows_fault lo hi p (k + 1)).resolve_left h]⟩
theorem pows_out' {lo hi : Int} {p : List Int} {k : Nat} (hk : k < p.length) (h : ¬ (Um.powR lo hi k).2.2 = 0) : Um.powsN lo hi p p.length = (0, 0, 4) ∧ (Um.powR lo hi k).2.2 = 4 := by
  refine ⟨(pows_out hk (by rw [Um.pows_dead h]; decide)).1, by rw [(Um.pow_fault (lo := lo) (hi := hi) k).resolve_left h]⟩

set_option maxRecDepth 100000 in
set_option maxHeartbeats 8000000 in
theorem powers_right (p : List Int) (v : Value) (lo hi : Int) (w : World) (hl : Li w.heap.size w v p) (h : Um.over p lo hi = 0) :
    Calls Tryz.prog 120 #[v, .agg #[.int .i64 lo, .int .i64 hi]] w fun e w' => e = .returned (.tuple #[.agg #[.int .i64 (Um.powsN lo hi p p.length).1, .int .i64 (Um.powsN lo hi p p.length).2.1], errV (Um.powsN lo hi p p.length).2.2]) ∧ Below w.heap.size w w' := by
  have q1 := errG
  have q2 := errGn
  have q3 := errE
  have q4 := errN
  have hmx : Tryz.prog.follows .mixedOrders = true := by kernel_rfl
  have HO := fun w hl => hid (checkOver_any p v lo hi w hl)
  rw [h] at HO
  obtain ⟨hp, hc⟩ := Um.over_ok.1 h
  obtain ⟨h0, h5, hm⟩ := Um.pchk_ok.1 hp
  obtain ⟨b, off, cap, rfl, hlt, hcs⟩ := hl.out h0
  have HC := hid hcs
  have HM := hid hm
  have HK := hid hc
  have hX : Sp ((w.alloc (.cells #[.int .i64 lo, .int .i64 hi] 29)).alloc (.cells #[.int .i64 0, .int .i64 0] 29)) w.heap.size lo hi := (Sp.new w lo hi).alloc _
  have hR : Sp ((w.alloc (.cells #[.int .i64 lo, .int .i64 hi] 29)).alloc (.cells #[.int .i64 0, .int .i64 0] 29)) (w.heap.size + 1) 0 0 := by
    simpa using Sp.new (w.alloc (.cells #[.int .i64 lo, .int .i64 hi] 29)) 0 0
  have hB : Below w.heap.size w ((w.alloc (.cells #[.int .i64 lo, .int .i64 hi] 29)).alloc (.cells #[.int .i64 0, .int .i64 0] 29)) := by go_grown
  have hL := (hl.keep hB).wide hB.size
  clear hcs hm h0 hp hc h hl
  go_enter Tryz.func120, Tryz.ntmps120
  go_wp2_with (first | (go_at_call 125; refine (HO _ hL).out.mono ?_; rintro e w1 ⟨rfl, hb⟩; replace hX := hX.step hb; replace hR := hR.step hb; replace hB := hB.trans (hb.mono hB.size); clear hb hL) | (go_at_call 123; refine (alone_any _ _).mono ?_; rintro e w2 ⟨rfl, rfl⟩))
  clear HO
  have hs0 := hB.size
  have hl3 := hX.lt
  have hl4 := hR.lt
  go_loopw [22] (fun i wr => ∃ k : Nat, k ≤ p.length ∧ i = .int .i64 k ∧ Pi w wr (w1.heap.size + 1) lo hi (Um.powsN lo hi p k)) (fun i _ => p.length - (intOf i).toNat)
  case atStart =>
    have hB2 : Below w1.heap.size w1 ((w1.alloc (.cells #[.int .i64 0, .int .i64 0] 29)).alloc (.cells #[.int .i64 0, .int .i64 0] 29)) := by go_grown
    refine ⟨0, by omega, rfl, rfl, ?_, hX.step hB2, hR.step hB2, hB.trans (hB2.mono hs0)⟩
    show Sp _ _ 0 0
    simpa using Sp.new (w1.alloc (.cells #[.int .i64 0, .int .i64 0] 29)) 0 0
  case round =>
    obtain ⟨k, hk, rfl, hI⟩ := hrel
    by_cases hkl : k < p.length
    · have hcx := (hI.below.cell (p := ⟨b, off + k, none⟩) hlt).trans (HC.out k hkl)
      have HO := fun w => hid (of_any lo hi k w)
      have hkk : (k : Int) < (p.length : Int) := by omega
      rw [of_pow HK.out (by omega)] at HO
      have HN := fun hp => hid (pows_next HK.out hkl h5 HM.out hI.ok hp)
      have H1 := fun h => hid (pows_out (lo := lo) (hi := hi) hkl h)
      have H2 := fun h => hid (pows_out' (lo := lo) (hi := hi) hkl h)
      clear HC HM HK
      generalize hcc : p[k]?.getD 0 = c at *
      clear hcc
      generalize Um.powsN lo hi p k = s at *
      generalize hR' : Um.powsN lo hi p (k + 1) = R at HN H1
      have HR := hid hR'
      clear hR'
      generalize Um.powR lo hi k = P at *
      have x1 := hI.x.lo
      have x2 := hI.x.hi
      by_cases hP : P.2.2 = 0
      · have kp : (P.2.2 != 0) = false := by simpa using hP
        have HT := fun w => hid (timesAdd_any c c P.1 P.2.1 s.1 s.2.1 w)
        rw [(HN hP).out] at HT
        clear HN H2
        go_wp2_with (go_at_call 94; refine (HO _).out.mono ?_; rintro e w2 ⟨rfl, hb⟩; replace hI := hI.step hb; clear hb x1 x2)
        clear HO
        obtain ⟨W, hWe⟩ : ∃ W, w2.alloc (.cells #[.int .i64 P.1, .int .i64 P.2.1] 29) = W := ⟨_, rfl⟩
        have hIW : Pi w W (w1.heap.size + 1) lo hi s := by rw [← hWe]; exact hI.step ((Below.refl _ _).alloc (Nat.le_refl _) _)
        have hsp : Sp W w2.heap.size P.1 P.2.1 := by rw [← hWe]; exact Sp.new _ _ _
        rw [hWe]
        clear hWe hI
        obtain ⟨Inv, hInv⟩ : ∃ Inv : Array Bool → Act → World → Prop, ∀ listed a W', Inv listed a W' ↔ (∃ v38 v39 v40 v41 v42 v37 v43 v44 v11 : Value, a = { tmps := #[.slice (some ⟨b, off, none⟩) p.length cap, .agg #[.int .i64 lo, .int .i64 hi], undef, .pointer (some ⟨w.heap.size, 0, none⟩), .pointer (some ⟨w.heap.size + 1, 0, none⟩), u5, errV 0, .pointer (some ⟨w1.heap.size + 1, 0, none⟩), .int .i64 k, .int .i64 c, .pointer (some ⟨w2.heap.size, 0, none⟩), v11, .slice (some ⟨b, off, none⟩) p.length cap, .agg #[.int .i64 lo, .int .i64 hi], errV 0, errV 0, .bool false, undef, undef, .agg #[.int .i64 0, .int .i64 0], .slice (some ⟨b, off, none⟩) p.length cap, .int .i64 p.length, .int .i64 k, .bool true, .int .i64 k, .pointer (some ⟨b, off + k, none⟩), .int .i64 c, .tuple #[.agg #[.int .i64 P.1, .int .i64 P.2.1], errV 0], .agg #[.int .i64 lo, .int .i64 hi], .int .i64 k, .tuple #[.agg #[.int .i64 P.1, .int .i64 P.2.1], errV 0], .agg #[.int .i64 P.1, .int .i64 P.2.1], errV 0, errV 0, .bool false, u35, u36, v37, v38, v39, v40, v41, v42, v43, v44, u45, u46, u47, u48, u49, undef], defers := [] } ∧ (∃ W2 : World, Below W.heap.size W W2 ∧ W' = if listed.getD 8 false = true then ((W2.setCell ⟨w1.heap.size + 1, 0, none⟩ (.int .i64 R.1)).setCell ⟨w1.heap.size + 1, 1, none⟩ (.int .i64 R.2.1)) else W2) ∧ (listed.getD 0 false = true → v38 = .int .i64 c) ∧ (listed.getD 1 false = true → v39 = .agg #[.int .i64 c, .int .i64 c]) ∧ (listed.getD 2 false = true → v40 = .agg #[.int .i64 P.1, .int .i64 P.2.1]) ∧ (listed.getD 3 false = true → v41 = .agg #[.int .i64 s.1, .int .i64 s.2.1]) ∧ (listed.getD 4 false = true → v42 = .tuple #[.agg #[.int .i64 R.1, .int .i64 R.2.1], errV R.2.2]) ∧ (listed.getD 5 false = true → v37 = .tuple #[.agg #[.int .i64 R.1, .int .i64 R.2.1], errV R.2.2]) ∧ (listed.getD 6 false = true → v43 = .agg #[.int .i64 R.1, .int .i64 R.2.1]) ∧ (listed.getD 7 false = true → v44 = errV R.2.2) ∧ (listed.getD 9 false = true → v11 = errV R.2.2) ∧ (listed.getD 8 false = true → listed.getD 1 false = true ∧ listed.getD 2 false = true ∧ listed.getD 3 false = true ∧ listed.getD 4 false = true)) := ⟨_, fun _ _ _ => Iff.rfl⟩
        have HI := hid hInv
        clear hInv
        refine Free.region hmx (by kernel_rfl) Inv ?s1 ?s2 ?s3
        case s1 =>
          exact (HI.out _ _ _).2 ⟨u38, u39, u40, u41, u42, u37, u43, u44, errV 0, rfl, ⟨_, (Below.refl _ _).drew, by rw [Free.none_yet]; rfl⟩, Free.not_yet, Free.not_yet, Free.not_yet, Free.not_yet, Free.not_yet, Free.not_yet, Free.not_yet, Free.not_yet, Free.not_yet, Free.not_yet⟩
        case s2 =>
          intro i listed a W1 hi hne hnl hsz hv
          obtain ⟨v38, v39, v40, v41, v42, v37, v43, v44, v11, rfl, ⟨W2, hW, hWW⟩, l0, l1, l2, l3, l4, l5, l6, l7, l9, l8⟩ := (HI.out _ _ _).1 hv
          have HWW := hid hWW
          clear hv hWW
          replace hi : i < 10 := hi
          replace hsz : listed.size = 10 := hsz
          rcases (by omega : i = 0 ∨ i = 1 ∨ i = 2 ∨ i = 3 ∨ i = 4 ∨ i = 5 ∨ i = 6 ∨ i = 7 ∨ i = 8 ∨ i = 9) with rfl | rfl | rfl | rfl | rfl | rfl | rfl | rfl | rfl | rfl
          · refine Free.op rfl rfl (fun K hK => ?_)
            go_simp
            exact hK _ _ ((HI.out _ _ _).2 ⟨_, v39, v40, v41, v42, v37, v43, v44, v11, rfl, ⟨W2, hW, by rw [Free.set_other (by decide)]; exact HWW.out⟩, fun _ => rfl, Free.of_set (by decide) l1, Free.of_set (by decide) l2, Free.of_set (by decide) l3, Free.of_set (by decide) l4, Free.of_set (by decide) l5, Free.of_set (by decide) l6, Free.of_set (by decide) l7, Free.of_set (by decide) l9, fun e => by rw [Free.set_other (by decide)] at e; rw [Free.set_other (by decide), Free.set_other (by decide), Free.set_other (by decide), Free.set_other (by decide)]; exact l8 e⟩)
          · have hf := Free.off hnl
            have h8 : listed.getD 8 false = false := by
              cases e : listed.getD 8 false
              · rfl
              · rw [(l8 e).1] at hf; cases hf
            have hWW := HWW.out
            rw [h8] at hWW
            obtain rfl : W1 = W2 := hWW
            clear HWW
            refine Free.op rfl rfl (fun K hK => ?_)
            obtain rfl := l0 (hne 0 (by kernel_rfl))
            go_wp2_with (go_at_call 123; refine (alone_any _ _).mono ?_; rintro e W3 ⟨rfl, rfl⟩)
            exact (HI.out _ _ _).2 ⟨_, _, v40, v41, v42, v37, v43, v44, v11, rfl, ⟨_, hW.alloc hW.size _, by rw [Free.set_other (by decide), h8]; rfl⟩, fun _ => rfl, fun _ => rfl, Free.of_set (by decide) l2, Free.of_set (by decide) l3, Free.of_set (by decide) l4, Free.of_set (by decide) l5, Free.of_set (by decide) l6, Free.of_set (by decide) l7, Free.of_set (by decide) l9, fun e => by rw [Free.set_other (by decide), h8] at e; cases e⟩
          · have hf := Free.off hnl
            have h8 : listed.getD 8 false = false := by
              cases e : listed.getD 8 false
              · rfl
              · rw [(l8 e).2.1] at hf; cases hf
            have hWW := HWW.out
            rw [h8] at hWW
            obtain rfl : W1 = W2 := hWW
            clear HWW
            have z1 := (hsp.step hW).lo
            have z2 := (hsp.step hW).hi
            refine Free.op rfl rfl (fun K hK => ?_)
            go_simp
            exact hK _ _ ((HI.out _ _ _).2 ⟨v38, v39, _, v41, v42, v37, v43, v44, v11, rfl, ⟨W1, hW, by rw [Free.set_other (by decide), h8]; rfl⟩, Free.of_set (by decide) l0, Free.of_set (by decide) l1, fun _ => rfl, Free.of_set (by decide) l3, Free.of_set (by decide) l4, Free.of_set (by decide) l5, Free.of_set (by decide) l6, Free.of_set (by decide) l7, Free.of_set (by decide) l9, fun e => by rw [Free.set_other (by decide), h8] at e; cases e⟩)
          · have hf := Free.off hnl
            have h8 : listed.getD 8 false = false := by
              cases e : listed.getD 8 false
              · rfl
              · rw [(l8 e).2.2.1] at hf; cases hf
            have hWW := HWW.out
            rw [h8] at hWW
            obtain rfl : W1 = W2 := hWW
            clear HWW
            have z1 := (hIW.sum.step hW).lo
            have z2 := (hIW.sum.step hW).hi
            refine Free.op rfl rfl (fun K hK => ?_)
            go_simp
            exact hK _ _ ((HI.out _ _ _).2 ⟨v38, v39, v40, _, v42, v37, v43, v44, v11, rfl, ⟨W1, hW, by rw [Free.set_other (by decide), h8]; rfl⟩, Free.of_set (by decide) l0, Free.of_set (by decide) l1, Free.of_set (by decide) l2, fun _ => rfl, Free.of_set (by decide) l4, Free.of_set (by decide) l5, Free.of_set (by decide) l6, Free.of_set (by decide) l7, Free.of_set (by decide) l9, fun e => by rw [Free.set_other (by decide), h8] at e; cases e⟩)
          · have hf := Free.off hnl
            have h8 : listed.getD 8 false = false := by
              cases e : listed.getD 8 false
              · rfl
              · rw [(l8 e).2.2.2] at hf; cases hf
            have hWW := HWW.out
            rw [h8] at hWW
            obtain rfl : W1 = W2 := hWW
            clear HWW
            refine Free.op rfl rfl (fun K hK => ?_)
            obtain rfl := l1 (hne 1 (by kernel_rfl))
            obtain rfl := l2 (hne 2 (by kernel_rfl))
            obtain rfl := l3 (hne 3 (by kernel_rfl))
            go_wp2_with (go_at_call 142; refine (HT _).out.mono ?_; rintro e W3 ⟨rfl, hb⟩)
            exact (HI.out _ _ _).2 ⟨v38, _, _, _, _, v37, v43, v44, v11, rfl, ⟨_, hW.trans (hb.mono hW.size), by rw [Free.set_other (by decide), h8]; rfl⟩, Free.of_set (by decide) l0, fun _ => rfl, fun _ => rfl, fun _ => rfl, fun _ => rfl, Free.of_set (by decide) l5, Free.of_set (by decide) l6, Free.of_set (by decide) l7, Free.of_set (by decide) l9, fun e => by rw [Free.set_other (by decide), h8] at e; cases e⟩
          · refine Free.op rfl rfl (fun K hK => ?_)
            obtain rfl := l4 (hne 4 (by kernel_rfl))
            go_simp
            exact hK _ _ ((HI.out _ _ _).2 ⟨v38, v39, v40, v41, _, _, v43, v44, v11, rfl, ⟨W2, hW, by rw [Free.set_other (by decide)]; exact HWW.out⟩, Free.of_set (by decide) l0, Free.of_set (by decide) l1, Free.of_set (by decide) l2, Free.of_set (by decide) l3, fun _ => rfl, fun _ => rfl, Free.of_set (by decide) l6, Free.of_set (by decide) l7, Free.of_set (by decide) l9, fun e => by rw [Free.set_other (by decide)] at e; rw [Free.set_other (by decide), Free.set_other (by decide), Free.set_other (by decide), Free.set_other (by decide)]; exact l8 e⟩)
          · refine Free.op rfl rfl (fun K hK => ?_)
            obtain rfl := l5 (hne 5 (by kernel_rfl))
            go_simp
            exact hK _ _ ((HI.out _ _ _).2 ⟨v38, v39, v40, v41, v42, _, _, v44, v11, rfl, ⟨W2, hW, by rw [Free.set_other (by decide)]; exact HWW.out⟩, Free.of_set (by decide) l0, Free.of_set (by decide) l1, Free.of_set (by decide) l2, Free.of_set (by decide) l3, Free.of_set (by decide) l4, fun _ => rfl, fun _ => rfl, Free.of_set (by decide) l7, Free.of_set (by decide) l9, fun e => by rw [Free.set_other (by decide)] at e; rw [Free.set_other (by decide), Free.set_other (by decide), Free.set_other (by decide), Free.set_other (by decide)]; exact l8 e⟩)
          · refine Free.op rfl rfl (fun K hK => ?_)
            obtain rfl := l5 (hne 5 (by kernel_rfl))
            go_simp
            exact hK _ _ ((HI.out _ _ _).2 ⟨v38, v39, v40, v41, v42, _, v43, _, v11, rfl, ⟨W2, hW, by rw [Free.set_other (by decide)]; exact HWW.out⟩, Free.of_set (by decide) l0, Free.of_set (by decide) l1, Free.of_set (by decide) l2, Free.of_set (by decide) l3, Free.of_set (by decide) l4, fun _ => rfl, Free.of_set (by decide) l6, fun _ => rfl, Free.of_set (by decide) l9, fun e => by rw [Free.set_other (by decide)] at e; rw [Free.set_other (by decide), Free.set_other (by decide), Free.set_other (by decide), Free.set_other (by decide)]; exact l8 e⟩)
          · have h8 := Free.off hnl
            have N := hid (And.intro (hne 1 (by kernel_rfl)) (And.intro (hne 2 (by kernel_rfl)) (And.intro (hne 3 (by kernel_rfl)) (hne 4 (by kernel_rfl)))))
            have hWW := HWW.out
            rw [h8] at hWW
            obtain rfl : W1 = W2 := hWW
            clear HWW
            have y1 := (hIW.sum.step hW).fl
            have y2 := (hIW.sum.step hW).fh
            have y3 := (hIW.sum.step hW).lo
            have y4 := (hIW.sum.step hW).hi
            refine Free.op rfl rfl (fun K hK => ?_)
            obtain rfl := l6 (hne 6 (by kernel_rfl))
            go_simp
            exact hK _ _ ((HI.out _ _ _).2 ⟨v38, v39, v40, v41, v42, v37, _, v44, v11, rfl, ⟨W1, hW, by rw [Free.set_same (by omega)]; rfl⟩, Free.of_set (by decide) l0, Free.of_set (by decide) l1, Free.of_set (by decide) l2, Free.of_set (by decide) l3, Free.of_set (by decide) l4, Free.of_set (by decide) l5, fun _ => rfl, Free.of_set (by decide) l7, Free.of_set (by decide) l9, fun _ => by rw [Free.set_other (by decide), Free.set_other (by decide), Free.set_other (by decide), Free.set_other (by decide)]; exact N.out⟩)
          · refine Free.op rfl rfl (fun K hK => ?_)
            obtain rfl := l7 (hne 7 (by kernel_rfl))
            go_simp
            exact hK _ _ ((HI.out _ _ _).2 ⟨v38, v39, v40, v41, v42, v37, v43, _, _, rfl, ⟨W2, hW, by rw [Free.set_other (by decide)]; exact HWW.out⟩, Free.of_set (by decide) l0, Free.of_set (by decide) l1, Free.of_set (by decide) l2, Free.of_set (by decide) l3, Free.of_set (by decide) l4, Free.of_set (by decide) l5, Free.of_set (by decide) l6, fun _ => rfl, fun _ => rfl, fun e => by rw [Free.set_other (by decide)] at e; rw [Free.set_other (by decide), Free.set_other (by decide), Free.set_other (by decide), Free.set_other (by decide)]; exact l8 e⟩)
        case s3 =>
          intro listed a W1 hall hsz hv
          obtain ⟨v38, v39, v40, v41, v42, v37, v43, v44, v11, rfl, ⟨W2, hW, hWW⟩, l0, l1, l2, l3, l4, l5, l6, l7, l9, l8⟩ := (HI.out _ _ _).1 hv
          clear hv HI
          rw [Free.listed_of hall hsz 8 (by decide)] at hWW
          obtain rfl : W1 = ((W2.setCell ⟨w1.heap.size + 1, 0, none⟩ (.int .i64 R.1)).setCell ⟨w1.heap.size + 1, 1, none⟩ (.int .i64 R.2.1)) := hWW
          obtain rfl := l9 (Free.listed_of hall hsz 9 (by decide))
          clear l0 l1 l2 l3 l4 l5 l6 l7 l8 l9 hall hsz HT
          have hJ := hIW.step hW
          have hres := (hJ.res.other ⟨w1.heap.size + 1, 0, none⟩ (.int .i64 R.1) (by simp only []; omega)).other ⟨w1.heap.size + 1, 1, none⟩ (.int .i64 R.2.1) (by simp only []; omega)
          by_cases hr : R.2.2 = 0
          · have kr : (R.2.2 != 0) = false := by simpa using hr
            go_wp2
            refine ⟨⟨k + 1, by omega, rfl, ?_⟩, by simp [intOf]; omega⟩
            rw [HR.out]
            exact ⟨hr, hJ.sum.set _ _, (hJ.x.other _ _ (by simp only []; omega)).other _ _ (by simp only []; omega), hres, (hJ.below.setCell (by simp only []; omega) _).setCell (by simp only []; omega) _⟩
          · have kr : (R.2.2 != 0) = true := by simpa using hr
            obtain ⟨t1, t2⟩ := (H1 hr).out
            have T1 := hid t1
            have T2 := hid t2
            clear t1 t2 H1
            have y1 := hres.fl
            have y2 := hres.fh
            have y3 := hres.lo
            have y4 := hres.hi
            have d1 := (hres.set 0 0).lo
            have d2 := (hres.set 0 0).hi
            go_wp2
            refine bodyPost_ret (by simp [results, Tryz.results120, go_sem, d1, d2]; try rfl) rfl ?_
            rw [T1.out, T2.out]
            exact ⟨rfl, (((hJ.below.setCell (by simp only []; omega) _).setCell (by simp only []; omega) _).setCell (by simp only []; omega) _).setCell (by simp only []; omega) _⟩
      · have kp : (P.2.2 != 0) = true := by simpa using hP
        obtain ⟨t1, t2⟩ := (H2 hP).out
        have T1 := hid t1
        have T2 := hid t2
        clear t1 t2 H2 HN H1
        go_wp2_with (go_at_call 94; refine (HO _).out.mono ?_; rintro e w2 ⟨rfl, hb⟩; replace hI := hI.step hb; clear hb x1 x2 HO; have y1 := hI.res.fl; have y2 := hI.res.fh; have y3 := hI.res.lo; have y4 := hI.res.hi; have y5 := hI.res.lt)
        have hz := hI.below.size
        have d1 := ((hI.res.set 0 0).alloc (.cells #[.int .i64 P.1, .int .i64 P.2.1] 29)).lo
        have d2 := ((hI.res.set 0 0).alloc (.cells #[.int .i64 P.1, .int .i64 P.2.1] 29)).hi
        refine bodyPost_ret (by simp [results, Tryz.results120, go_sem, d1, d2]; try rfl) rfl ?_
        rw [T1.out, T2.out]
        exact ⟨rfl, ((hI.below.setCell (by simp only []; omega) _).setCell (by simp only []; omega) _).alloc (by simp; omega) _⟩
    · obtain rfl : k = p.length := by omega
      clear HC HM HK
      generalize hR' : Um.powsN lo hi p p.length = R at hI
      have HR := hid hR'
      clear hR'
      have z1 := hI.sum.lo
      have z2 := hI.sum.hi
      have y1 := hI.res.fl
      have y2 := hI.res.fh
      have y3 := hI.res.lo
      have y4 := hI.res.hi
      go_wp2
      have d1 := (hI.res.set R.1 R.2.1).lo
      have d2 := (hI.res.set R.1 R.2.1).hi
      refine bodyPost_ret (by simp [results, Tryz.results120, go_sem, d1, d2]; try rfl) rfl ?_
      rw [HR.out, hI.ok]
      exact ⟨rfl, (hI.below.setCell (by simp only []; omega) _).setCell (by simp only []; omega) _⟩

set_option maxHeartbeats 1000000 in
theorem powers_wrong (p : List Int) (v : Value) (lo hi : Int) (w : World) (hl : Li w.heap.size w v p) (h : ¬ Um.over p lo hi = 0) :
    Calls Tryz.prog 120 #[v, .agg #[.int .i64 lo, .int .i64 hi]] w fun e w' => e = .returned (.tuple #[.agg #[.int .i64 0, .int .i64 0], errV (Um.over p lo hi)]) ∧ Below w.heap.size w w' := by
  have q1 := errG
  have q2 := errGn
  have q3 := errE
  have q4 := errN
  have HO := fun w hl => hid (checkOver_any p v lo hi w hl)
  have k : (Um.over p lo hi != 0) = true := by simpa using h
  clear h
  have hR : Sp ((w.alloc (.cells #[.int .i64 lo, .int .i64 hi] 29)).alloc (.cells #[.int .i64 0, .int .i64 0] 29)) (w.heap.size + 1) 0 0 := by
    simpa using Sp.new (w.alloc (.cells #[.int .i64 lo, .int .i64 hi] 29)) 0 0
  have hB : Below w.heap.size w ((w.alloc (.cells #[.int .i64 lo, .int .i64 hi] 29)).alloc (.cells #[.int .i64 0, .int .i64 0] 29)) := by go_grown
  have hL := (hl.keep hB).wide hB.size
  obtain ⟨a, cap, rfl, -⟩ := hl
  generalize Um.over p lo hi = T at *
  go_enter Tryz.func120, Tryz.ntmps120
  go_wp2_with (go_at_call 125; refine (HO _ hL).out.mono ?_; rintro e w1 ⟨rfl, hb⟩; replace hR := hR.step hb; replace hB := hB.trans (hb.mono hB.size); clear hb hL; have y1 := hR.fl; have y2 := hR.fh; have y3 := hR.lo; have y4 := hR.hi)
  have d1 := (hR.set 0 0).lo
  have d2 := (hR.set 0 0).hi
  refine bodyPost_ret (by simp [results, Tryz.results120, go_sem, d1, d2]; try rfl) rfl ?_
  exact ⟨rfl, (hB.setCell (by simp only []; omega) _).setCell (by simp only []; omega) _⟩

/-- At every argument. -/
theorem powers_any (p : List Int) (v : Value) (lo hi : Int) (w : World) (hl : Li w.heap.size w v p) :
    Calls Tryz.prog 120 #[v, .agg #[.int .i64 lo, .int .i64 hi]] w fun e w' => e = .returned (.tuple #[.agg #[.int .i64 (Um.powsAll p lo hi).1, .int .i64 (Um.powsAll p lo hi).2.1], errV (Um.powsAll p lo hi).2.2]) ∧ Below w.heap.size w w' := by
  unfold Um.powsAll
  by_cases h : Um.over p lo hi = 0
  · rw [if_pos h]; exact powers_right p v lo hi w hl h
  · rw [if_neg h]; exact powers_wrong p v lo hi w hl h
end Go.Proofs.YtkfalmdckmlneaaGreatDoor
namespace Go.Proofs.YtkfalmdckmlneaaGreatDoor
set_option linter.unusedSimpArgs false
open Go.RowKit

/-- What Derive answers to anything. -/
def derAll (p : List Int) : List Int × Int := if Um.pchk p = 0 then Um.derR p else ([], Um.pchk p)
theorem make1 (w : World) : (Instr.makeSlice 52 (.int .i64 1) (.int .i64 1)).run Tryz.prog w = .ok (.slice (some ⟨w.heap.size, 0, none⟩) 1 1) (w.alloc (.cells #[.int .i64 0] 3)) := by kernel_rfl
theorem make2 (w : World) : (Instr.makeSlice 52 (.int .i64 2) (.int .i64 2)).run Tryz.prog w = .ok (.slice (some ⟨w.heap.size, 0, none⟩) 2 2) (w.alloc (.cells #[.int .i64 0, .int .i64 0] 3)) := by kernel_rfl
theorem make3 (w : World) : (Instr.makeSlice 52 (.int .i64 3) (.int .i64 3)).run Tryz.prog w = .ok (.slice (some ⟨w.heap.size, 0, none⟩) 3 3) (w.alloc (.cells #[.int .i64 0, .int .i64 0, .int .i64 0] 3)) := by kernel_rfl
theorem make4 (w : World) : (Instr.makeSlice 52 (.int .i64 4) (.int .i64 4)).run Tryz.prog w = .ok (.slice (some ⟨w.heap.size, 0, none⟩) 4 4) (w.alloc (.cells #[.int .i64 0, .int .i64 0, .int .i64 0, .int .i64 0] 3)) := by kernel_rfl

set_option maxRecDepth 100000 in
set_option maxHeartbeats 4000000 in
theorem derive2 (x0 x1 : Int) (v : Value) (w : World) (hl : Li w.heap.size w v [x0, x1]) (h : Um.pchk [x0, x1] = 0) :
    Calls Tryz.prog 145 #[v] w fun e w' => ∃ v', e = .returned (.tuple #[v', errV (Um.derR [x0, x1]).2]) ∧ Li w'.heap.size w' v' (Um.derR [x0, x1]).1 ∧ Below w.heap.size w w' := by
  have q1 := errG
  have q2 := errGn
  have q3 := errE
  have q4 := errN
  have qm := make1
  have HP := fun w1 hl => hid (pcheck_any w.heap.size [x0, x1] v w1 hl)
  rw [h] at HP
  obtain ⟨-, -, hm⟩ := Um.pchk_ok.1 h
  obtain ⟨b, off, cap, rfl, hlt, hcs⟩ := hl.out (by simp)
  obtain ⟨a1, b1⟩ := (Um.may_iff x1).1 (hm x1 (by simp))
  have c1 : w.cell? ⟨b, off + 1, none⟩ = some (.int .i64 x1) := hcs 1 (by simp)
  have hd : Um.ders [x0, x1] = [x1 * 1] := by unfold Um.ders; simp [List.range_succ]
  have HR : Hid (Um.derR [x0, x1] = if ([x1 * 1] : List Int).all Um.may = true then ([x1 * 1], 0) else ([], 4)) := by unfold Um.derR; rw [hd]; rfl
  have HA := fun (B : Nat) (u : Value) (w : World) (hl : Li B w u [x1 * 1]) => hid (anyBeyond_any B [x1 * 1] u w hl (by simp) (by simp))
  clear hcs hd hm h
  have el : [x0, x1].length = 2 := rfl
  rw [el] at *
  clear el
  generalize Um.derR [x0, x1] = R at *
  generalize hw' : w.alloc (.cells #[.int .i64 x1] 3) = w'
  have hN : Li w'.heap.size w' (.slice (some ⟨w.heap.size, 0, none⟩) 1 1) [x1 * 1] := by
    rw [← hw']
    refine Li.new (p := [x1 * 1]) (Blk.new w _ _) ?_
    intro j hj
    rcases (by simp at hj; omega : j = 0) with rfl <;> simp
  have hz : w.heap.size < w'.heap.size := by rw [← hw']; simp
  have hB : Below w.heap.size w w' := by rw [← hw']; go_grown
  cases hall : ([x1 * 1] : List Int).all Um.may
  all_goals
    rw [hall] at HA HR
    clear hall
    go_enter Tryz.func145, Tryz.ntmps145
    go_wp2_with (go_at_call 147; refine (HP _ hl).out.mono ?_; rintro e w1 ⟨rfl, rfl⟩)
    repeat (first | (refine wp_loop_rounds 2 ?_) | (rw [rounds_succ]; go_wp2_with (go_at_call 159; refine (HA _ _ _ hN).out.mono ?_; rintro e w1 ⟨rfl, rfl⟩)))
    go_returns
    rw [HR.out]
  · exact ⟨_, rfl, Li.nil _ _, hB⟩
  · exact ⟨_, rfl, hN, hB⟩

set_option maxRecDepth 100000 in
set_option maxHeartbeats 4000000 in
theorem derive3 (x0 x1 x2 : Int) (v : Value) (w : World) (hl : Li w.heap.size w v [x0, x1, x2]) (h : Um.pchk [x0, x1, x2] = 0) :
    Calls Tryz.prog 145 #[v] w fun e w' => ∃ v', e = .returned (.tuple #[v', errV (Um.derR [x0, x1, x2]).2]) ∧ Li w'.heap.size w' v' (Um.derR [x0, x1, x2]).1 ∧ Below w.heap.size w w' := by
  have q1 := errG
  have q2 := errGn
  have q3 := errE
  have q4 := errN
  have qm := make2
  have HP := fun w1 hl => hid (pcheck_any w.heap.size [x0, x1, x2] v w1 hl)
  rw [h] at HP
  obtain ⟨-, -, hm⟩ := Um.pchk_ok.1 h
  obtain ⟨b, off, cap, rfl, hlt, hcs⟩ := hl.out (by simp)
  obtain ⟨a1, b1⟩ := (Um.may_iff x1).1 (hm x1 (by simp))
  obtain ⟨a2, b2⟩ := (Um.may_iff x2).1 (hm x2 (by simp))
  have c1 : w.cell? ⟨b, off + 1, none⟩ = some (.int .i64 x1) := hcs 1 (by simp)
  have c2 : w.cell? ⟨b, off + 2, none⟩ = some (.int .i64 x2) := hcs 2 (by simp)
  have hd : Um.ders [x0, x1, x2] = [x1 * 1, x2 * 2] := by unfold Um.ders; simp [List.range_succ]
  have HR : Hid (Um.derR [x0, x1, x2] = if ([x1 * 1, x2 * 2] : List Int).all Um.may = true then ([x1 * 1, x2 * 2], 0) else ([], 4)) := by unfold Um.derR; rw [hd]; rfl
  have HA := fun (B : Nat) (u : Value) (w : World) (hl : Li B w u [x1 * 1, x2 * 2]) => hid (anyBeyond_any B [x1 * 1, x2 * 2] u w hl (by simp) (by simp))
  clear hcs hd hm h
  have el : [x0, x1, x2].length = 3 := rfl
  rw [el] at *
  clear el
  generalize Um.derR [x0, x1, x2] = R at *
  generalize hw' : w.alloc (.cells #[.int .i64 x1, .int .i64 (x2 * 2)] 3) = w'
  have hN : Li w'.heap.size w' (.slice (some ⟨w.heap.size, 0, none⟩) 2 2) [x1 * 1, x2 * 2] := by
    rw [← hw']
    refine Li.new (p := [x1 * 1, x2 * 2]) (Blk.new w _ _) ?_
    intro j hj
    rcases (by simp at hj; omega : j = 0 ∨ j = 1) with rfl | rfl <;> simp
  have hz : w.heap.size < w'.heap.size := by rw [← hw']; simp
  have hB : Below w.heap.size w w' := by rw [← hw']; go_grown
  cases hall : ([x1 * 1, x2 * 2] : List Int).all Um.may
  all_goals
    rw [hall] at HA HR
    clear hall
    go_enter Tryz.func145, Tryz.ntmps145
    go_wp2_with (go_at_call 147; refine (HP _ hl).out.mono ?_; rintro e w1 ⟨rfl, rfl⟩)
    repeat (first | (refine wp_loop_rounds 3 ?_) | (rw [rounds_succ]; go_wp2_with (go_at_call 159; refine (HA _ _ _ hN).out.mono ?_; rintro e w1 ⟨rfl, rfl⟩)))
    go_returns
    rw [HR.out]
  · exact ⟨_, rfl, Li.nil _ _, hB⟩
  · exact ⟨_, rfl, hN, hB⟩

set_option maxRecDepth 100000 in
set_option maxHeartbeats 4000000 in
theorem derive4 (x0 x1 x2 x3 : Int) (v : Value) (w : World) (hl : Li w.heap.size w v [x0, x1, x2, x3]) (h : Um.pchk [x0, x1, x2, x3] = 0) :
    Calls Tryz.prog 145 #[v] w fun e w' => ∃ v', e = .returned (.tuple #[v', errV (Um.derR [x0, x1, x2, x3]).2]) ∧ Li w'.heap.size w' v' (Um.derR [x0, x1, x2, x3]).1 ∧ Below w.heap.size w w' := by
  have q1 := errG
  have q2 := errGn
  have q3 := errE
  have q4 := errN
  have qm := make3
  have HP := fun w1 hl => hid (pcheck_any w.heap.size [x0, x1, x2, x3] v w1 hl)
  rw [h] at HP
  obtain ⟨-, -, hm⟩ := Um.pchk_ok.1 h
  obtain ⟨b, off, cap, rfl, hlt, hcs⟩ := hl.out (by simp)
  obtain ⟨a1, b1⟩ := (Um.may_iff x1).1 (hm x1 (by simp))
  obtain ⟨a2, b2⟩ := (Um.may_iff x2).1 (hm x2 (by simp))
  obtain ⟨a3, b3⟩ := (Um.may_iff x3).1 (hm x3 (by simp))
  have c1 : w.cell? ⟨b, off + 1, none⟩ = some (.int .i64 x1) := hcs 1 (by simp)
  have c2 : w.cell? ⟨b, off + 2, none⟩ = some (.int .i64 x2) := hcs 2 (by simp)
  have c3 : w.cell? ⟨b, off + 3, none⟩ = some (.int .i64 x3) := hcs 3 (by simp)
  have hd : Um.ders [x0, x1, x2, x3] = [x1 * 1, x2 * 2, x3 * 3] := by unfold Um.ders; simp [List.range_succ]
  have HR : Hid (Um.derR [x0, x1, x2, x3] = if ([x1 * 1, x2 * 2, x3 * 3] : List Int).all Um.may = true then ([x1 * 1, x2 * 2, x3 * 3], 0) else ([], 4)) := by unfold Um.derR; rw [hd]; rfl
  have HA := fun (B : Nat) (u : Value) (w : World) (hl : Li B w u [x1 * 1, x2 * 2, x3 * 3]) => hid (anyBeyond_any B [x1 * 1, x2 * 2, x3 * 3] u w hl (by simp) (by simp))
  clear hcs hd hm h
  have el : [x0, x1, x2, x3].length = 4 := rfl
  rw [el] at *
  clear el
  generalize Um.derR [x0, x1, x2, x3] = R at *
  generalize hw' : w.alloc (.cells #[.int .i64 x1, .int .i64 (x2 * 2), .int .i64 (x3 * 3)] 3) = w'
  have hN : Li w'.heap.size w' (.slice (some ⟨w.heap.size, 0, none⟩) 3 3) [x1 * 1, x2 * 2, x3 * 3] := by
    rw [← hw']
    refine Li.new (p := [x1 * 1, x2 * 2, x3 * 3]) (Blk.new w _ _) ?_
    intro j hj
    rcases (by simp at hj; omega : j = 0 ∨ j = 1 ∨ j = 2) with rfl | rfl | rfl <;> simp
  have hz : w.heap.size < w'.heap.size := by rw [← hw']; simp
  have hB : Below w.heap.size w w' := by rw [← hw']; go_grown
  cases hall : ([x1 * 1, x2 * 2, x3 * 3] : List Int).all Um.may
  all_goals
    rw [hall] at HA HR
    clear hall
    go_enter Tryz.func145, Tryz.ntmps145
    go_wp2_with (go_at_call 147; refine (HP _ hl).out.mono ?_; rintro e w1 ⟨rfl, rfl⟩)
    repeat (first | (refine wp_loop_rounds 4 ?_) | (rw [rounds_succ]; go_wp2_with (go_at_call 159; refine (HA _ _ _ hN).out.mono ?_; rintro e w1 ⟨rfl, rfl⟩)))
    go_returns
    rw [HR.out]
  · exact ⟨_, rfl, Li.nil _ _, hB⟩
  · exact ⟨_, rfl, hN, hB⟩

set_option maxRecDepth 100000 in
set_option maxHeartbeats 4000000 in
theorem derive5 (x0 x1 x2 x3 x4 : Int) (v : Value) (w : World) (hl : Li w.heap.size w v [x0, x1, x2, x3, x4]) (h : Um.pchk [x0, x1, x2, x3, x4] = 0) :
    Calls Tryz.prog 145 #[v] w fun e w' => ∃ v', e = .returned (.tuple #[v', errV (Um.derR [x0, x1, x2, x3, x4]).2]) ∧ Li w'.heap.size w' v' (Um.derR [x0, x1, x2, x3, x4]).1 ∧ Below w.heap.size w w' := by
  have q1 := errG
  have q2 := errGn
  have q3 := errE
  have q4 := errN
  have qm := make4
  have HP := fun w1 hl => hid (pcheck_any w.heap.size [x0, x1, x2, x3, x4] v w1 hl)
  rw [h] at HP
  obtain ⟨-, -, hm⟩ := Um.pchk_ok.1 h
  obtain ⟨b, off, cap, rfl, hlt, hcs⟩ := hl.out (by simp)
  obtain ⟨a1, b1⟩ := (Um.may_iff x1).1 (hm x1 (by simp))
  obtain ⟨a2, b2⟩ := (Um.may_iff x2).1 (hm x2 (by simp))
  obtain ⟨a3, b3⟩ := (Um.may_iff x3).1 (hm x3 (by simp))
  obtain ⟨a4, b4⟩ := (Um.may_iff x4).1 (hm x4 (by simp))
  have c1 : w.cell? ⟨b, off + 1, none⟩ = some (.int .i64 x1) := hcs 1 (by simp)
  have c2 : w.cell? ⟨b, off + 2, none⟩ = some (.int .i64 x2) := hcs 2 (by simp)
  have c3 : w.cell? ⟨b, off + 3, none⟩ = some (.int .i64 x3) := hcs 3 (by simp)
  have c4 : w.cell? ⟨b, off + 4, none⟩ = some (.int .i64 x4) := hcs 4 (by simp)
  have hd : Um.ders [x0, x1, x2, x3, x4] = [x1 * 1, x2 * 2, x3 * 3, x4 * 4] := by unfold Um.ders; simp [List.range_succ]
  have HR : Hid (Um.derR [x0, x1, x2, x3, x4] = if ([x1 * 1, x2 * 2, x3 * 3, x4 * 4] : List Int).all Um.may = true then ([x1 * 1, x2 * 2, x3 * 3, x4 * 4], 0) else ([], 4)) := by unfold Um.derR; rw [hd]; rfl
  have HA := fun (B : Nat) (u : Value) (w : World) (hl : Li B w u [x1 * 1, x2 * 2, x3 * 3, x4 * 4]) => hid (anyBeyond_any B [x1 * 1, x2 * 2, x3 * 3, x4 * 4] u w hl (by simp) (by simp))
  clear hcs hd hm h
  have el : [x0, x1, x2, x3, x4].length = 5 := rfl
  rw [el] at *
  clear el
  generalize Um.derR [x0, x1, x2, x3, x4] = R at *
  generalize hw' : w.alloc (.cells #[.int .i64 x1, .int .i64 (x2 * 2), .int .i64 (x3 * 3), .int .i64 (x4 * 4)] 3) = w'
  have hN : Li w'.heap.size w' (.slice (some ⟨w.heap.size, 0, none⟩) 4 4) [x1 * 1, x2 * 2, x3 * 3, x4 * 4] := by
    rw [← hw']
    refine Li.new (p := [x1 * 1, x2 * 2, x3 * 3, x4 * 4]) (Blk.new w _ _) ?_
    intro j hj
    rcases (by simp at hj; omega : j = 0 ∨ j = 1 ∨ j = 2 ∨ j = 3) with rfl | rfl | rfl | rfl <;> simp
  have hz : w.heap.size < w'.heap.size := by rw [← hw']; simp
  have hB : Below w.heap.size w w' := by rw [← hw']; go_grown
  cases hall : ([x1 * 1, x2 * 2, x3 * 3, x4 * 4] : List Int).all Um.may
  all_goals
    rw [hall] at HA HR
    clear hall
    go_enter Tryz.func145, Tryz.ntmps145
    go_wp2_with (go_at_call 147; refine (HP _ hl).out.mono ?_; rintro e w1 ⟨rfl, rfl⟩)
    repeat (first | (refine wp_loop_rounds 5 ?_) | (rw [rounds_succ]; go_wp2_with (go_at_call 159; refine (HA _ _ _ hN).out.mono ?_; rintro e w1 ⟨rfl, rfl⟩)))
    go_returns
    rw [HR.out]
  · exact ⟨_, rfl, Li.nil _ _, hB⟩
  · exact ⟨_, rfl, hN, hB⟩

set_option maxHeartbeats 1000000 in
theorem derive1 (x0 : Int) (v : Value) (w : World) (hl : Li w.heap.size w v [x0]) (h : Um.pchk [x0] = 0) :
    Calls Tryz.prog 145 #[v] w fun e w' => ∃ v', e = .returned (.tuple #[v', errV (Um.derR [x0]).2]) ∧ Li w'.heap.size w' v' (Um.derR [x0]).1 ∧ Below w.heap.size w w' := by
  have q1 := errG
  have q2 := errGn
  have q3 := errE
  have q4 := errN
  have HP := fun w1 hl => hid (pcheck_any w.heap.size [x0] v w1 hl)
  rw [h] at HP
  have HR : Hid (Um.derR [x0] = ([0], 0)) := by unfold Um.derR; rfl
  obtain ⟨b, off, cap, rfl, hlt, hcs⟩ := hl.out (by simp)
  clear hcs h
  have el : [x0].length = 1 := rfl
  rw [el] at *
  clear el
  generalize Um.derR [x0] = R at *
  go_enter Tryz.func145, Tryz.ntmps145
  go_wp2_with (go_at_call 147; refine (HP _ hl).out.mono ?_; rintro e w1 ⟨rfl, rfl⟩)
  go_returns
  rw [HR.out]
  refine ⟨_, rfl, ?_, by go_grown⟩
  refine Li.new (p := [0]) (Blk.new w1 _ _) ?_
  intro j hj
  obtain rfl : j = 0 := by simpa using hj
  simp

set_option maxHeartbeats 1000000 in
theorem derive_wrong (p : List Int) (v : Value) (w : World) (hl : Li w.heap.size w v p) (h : ¬ Um.pchk p = 0) :
    Calls Tryz.prog 145 #[v] w fun e w' => e = .returned (.tuple #[.slice none 0 0, errV (Um.pchk p)]) ∧ w' = w := by
  have q1 := errG
  have q2 := errGn
  have q3 := errE
  have q4 := errN
  have HP := fun w1 hl => hid (pcheck_any w.heap.size p v w1 hl)
  have k : (Um.pchk p != 0) = true := by simpa using h
  clear h
  obtain ⟨a, cap, rfl, -⟩ := (id hl)
  generalize Um.pchk p = T at *
  go_enter Tryz.func145, Tryz.ntmps145
  go_wp2_with (go_at_call 147; refine (HP _ hl).out.mono ?_; rintro e w1 ⟨rfl, rfl⟩)
  go_returns
  exact ⟨rfl, rfl⟩

/-- At every argument. -/
theorem derive_any (p : List Int) (v : Value) (w : World) (hl : Li w.heap.size w v p) :
    Calls Tryz.prog 145 #[v] w fun e w' => ∃ v', e = .returned (.tuple #[v', errV (derAll p).2]) ∧ Li w'.heap.size w' v' (derAll p).1 ∧ Below w.heap.size w w' := by
  unfold derAll
  by_cases h : Um.pchk p = 0
  · rw [if_pos h]
    have hp := Um.pchk_ok.1 h
    match p, hp.2.1, hp.1 with
    | [], _, h0 => exact absurd rfl h0
    | [x0], _, _ => exact derive1 x0 v w hl h
    | [x0, x1], _, _ => exact derive2 x0 x1 v w hl h
    | [x0, x1, x2], _, _ => exact derive3 x0 x1 x2 v w hl h
    | [x0, x1, x2, x3], _, _ => exact derive4 x0 x1 x2 x3 v w hl h
    | [x0, x1, x2, x3, x4], _, _ => exact derive5 x0 x1 x2 x3 x4 v w hl h
    | _ :: _ :: _ :: _ :: _ :: _ :: _, h5, _ => simp at h5
  · rw [if_neg h]
    refine (derive_wrong p v w hl h).mono ?_
    rintro e w' ⟨rfl, rfl⟩
    exact ⟨_, rfl, Li.nil _ _, Below.refl _ _⟩
end Go.Proofs.YtkfalmdckmlneaaGreatDoor
