/-
  The walk over 'spanlaw4.HoldNone': for all a, by it returns true.
-/
import Derived.Test.YtkeoafbkbblnaaaHold
import Derived.Test.YtkeoafbkbblnaaaSnone
import Derived.Test.YtkeoafbkbblnaaaMems2
import Derived.Deep.CutRange
namespace Go.Proofs.Ytkeoafbkbblnaaa.HlNone
set_option linter.unusedSimpArgs false
open Go.RowKit

theorem none_beh {lo hi : Int} (h : Um.chk lo hi = 0) : Um.behR sNone [(0, 0)] [(lo, hi)] = ([(lo, hi)], 0) := by
  rw [← Um.ofAll_yes (by rw [none_ready]; exact h)]
  exact none_of h
theorem none_in (lo hi : Int) : Um.withinB [(lo, hi)] [(lo, hi)] = true := decide_eq_true (Um.within_refl _)
theorem none_is {lo hi : Int} (h : Um.chk lo hi = 0) : Um.isB sNone [(0, 0)] [(lo, hi)] = true := by
  unfold Um.isB
  rw [none_of h]
  show (decide ((0 : Int) = 0) && Um.withinB [(lo, hi)] [(lo, hi)]) = true
  rw [none_in]; rfl
theorem none_grow {lo hi y : Int} (h : Um.chk lo hi = 0) (hy : 0 ≤ y ∧ y ≤ 1000000000) : Um.growAll sNone [(0, 0)] [(lo, hi)] y 3 = ([(lo, hi)], 0) := by
  have e : Um.growF sNone [(0, 0)] [(lo, hi)] y 3 = 0 := Um.growF_ok.2 ⟨⟨hy.1, hy.2, by decide, by decide⟩, by rw [none_ready]; exact h⟩
  unfold Um.growAll
  rw [if_pos e]
  exact Um.grow_is (by rw [none_beh h]) (by rw [none_beh h]; exact none_in lo hi)
theorem none_grow_not {lo hi y : Int} (hy : ¬ (0 ≤ y ∧ y ≤ 1000000000)) : Um.growAll sNone [(0, 0)] [(lo, hi)] y 3 = ([], 1) := by
  have e : Um.growF sNone [(0, 0)] [(lo, hi)] y 3 = 1 := by unfold Um.growF; rw [if_neg (fun g => hy ⟨g.1, g.2.1⟩)]
  unfold Um.growAll
  rw [e, if_neg (by decide)]

set_option maxRecDepth 100000 in
set_option maxHeartbeats 16000000 in
theorem walk_wrong (lo hi y : Int) (w : World) (h : ¬ Um.chk lo hi = 0) :
    Calls Try.prog 6 #[.agg #[.int .i64 lo, .int .i64 hi], .int .i64 y] w fun e w' => e = .returned (.bool true) ∧ Below w.heap.size w w' := by
  have v0 := errV_none
  have q1 := errG
  have q2 := errGn
  have q3 := errE
  have q4 := errN
  have hmx : Try.prog.follows .mixedOrders = true := by kernel_rfl
  have hF := (Fr.start w).push lo hi rfl
  have hX := hF.at 0 rfl
  have HIS := fun v0 v1 v w h1 h2 h3 => hid (hlIs_any sNone v0 [(0, 0)] v1 [(lo, hi)] v w h1 h2 h3)
  have HGR := fun v0 v1 v w h1 h2 h3 => hid (hlGrow_any sNone v0 [(0, 0)] v1 [(lo, hi)] v y 3 w h1 h2 h3)
  have HCK := fun w => hid (check_any lo hi w)
  rw [none_of_not h] at HIS
  have k : (Um.chk lo hi != 0) = true := by simpa using h
  clear h HGR
  generalize Um.chk lo hi = EE at *
  generalize Um.isB sNone [(0, 0)] [(lo, hi)] = BB at *
  go_enter Try.func6, Try.ntmps6
  go_wp2
  generalize w.heap.size = Bx at *
  generalize w.alloc (.cells #[.int .i64 lo, .int .i64 hi] 32) = W at *
  obtain ⟨Inv, hInv⟩ : ∃ Inv : Array Bool → Act → World → Prop, ∀ listed aq W', Inv listed aq W' ↔ (∃ ra rb rc v10 v11 v12 v13 v9 v14 v15 v5 v6 : Value, aq = { tmps := #[Value.agg #[Value.int IntKind.i64 lo, Value.int IntKind.i64 hi], Value.int IntKind.i64 y, Value.pointer (some { block := Bx, off := 0 }), undef, Value.bool false, v5, v6, undef, undef, v9, v10, v11, v12, v13, v14, v15, undef, undef, undef, undef, undef, undef, undef, undef, undef, undef, undef, undef, undef, undef, undef, undef, undef, undef, undef, undef, undef, undef, undef, undef, undef, undef, undef, undef, undef, undef, undef, undef, undef, undef, undef, undef, undef], defers := [] } ∧ Below (W).heap.size (W) W' ∧ (listed.getD 0 false = true → v10 = (.agg #[ra, rb])) ∧ (listed.getD 1 false = true → v11 = .agg #[.int .i64 lo, .int .i64 hi]) ∧ (listed.getD 2 false = true → v12 = rc) ∧ (listed.getD 3 false = true → v13 = (.tuple #[.bool BB, errV EE])) ∧ (listed.getD 4 false = true → v9 = (.tuple #[.bool BB, errV EE])) ∧ (listed.getD 5 false = true → v14 = .bool BB) ∧ (listed.getD 6 false = true → v15 = errV EE) ∧ (listed.getD 7 false = true → v5 = .bool BB) ∧ (listed.getD 8 false = true → v6 = errV EE) ∧ (listed.getD 0 false = true → Lf W'.heap.size W' ra sNone ∧ Ls W'.heap.size W' rb [(0, 0)]) ∧ (listed.getD 2 false = true → Ls W'.heap.size W' rc [(lo, hi)]) ∧ (listed.getD 3 false = true → listed.getD 0 false = true) ∧ (listed.getD 4 false = true → listed.getD 0 false = true) ∧ (listed.getD 5 false = true → listed.getD 0 false = true) ∧ (listed.getD 6 false = true → listed.getD 0 false = true) ∧ (listed.getD 7 false = true → listed.getD 0 false = true) ∧ (listed.getD 8 false = true → listed.getD 0 false = true) ∧ (listed.getD 3 false = true → listed.getD 2 false = true) ∧ (listed.getD 4 false = true → listed.getD 2 false = true) ∧ (listed.getD 5 false = true → listed.getD 2 false = true) ∧ (listed.getD 6 false = true → listed.getD 2 false = true) ∧ (listed.getD 7 false = true → listed.getD 2 false = true) ∧ (listed.getD 8 false = true → listed.getD 2 false = true)) := ⟨_, fun _ _ _ => Iff.rfl⟩
  have HI := hid hInv
  clear hInv
  refine Free.region hmx (by kernel_rfl) Inv ?s1 ?s2 ?s3
  case s1 =>
    exact (HI.out _ _ _).2 ⟨undef, undef, undef, undef, undef, undef, undef, undef, undef, undef, undef, undef, rfl, (Below.refl _ _).drew, Free.not_yet, Free.not_yet, Free.not_yet, Free.not_yet, Free.not_yet, Free.not_yet, Free.not_yet, Free.not_yet, Free.not_yet, Free.not_yet, Free.not_yet, Free.not_yet, Free.not_yet, Free.not_yet, Free.not_yet, Free.not_yet, Free.not_yet, Free.not_yet, Free.not_yet, Free.not_yet, Free.not_yet, Free.not_yet, Free.not_yet⟩
  case s2 =>
    intro i listed aq W1 hix hne hnl hsz hv
    obtain ⟨ra, rb, rc, v10, v11, v12, v13, v9, v14, v15, v5, v6, rfl, hW, l0, l1, l2, l3, l4, l5, l6, l7, l8, lq0, lq2, ld0_3, ld0_4, ld0_5, ld0_6, ld0_7, ld0_8, ld2_3, ld2_4, ld2_5, ld2_6, ld2_7, ld2_8⟩ := (HI.out _ _ _).1 hv
    clear hv
    replace hix : i < 9 := hix
    replace hsz : listed.size = 9 := hsz
    rcases (by omega : i = 0 ∨ i = 1 ∨ i = 2 ∨ i = 3 ∨ i = 4 ∨ i = 5 ∨ i = 6 ∨ i = 7 ∨ i = 8) with rfl | rfl | rfl | rfl | rfl | rfl | rfl | rfl | rfl
    · refine Free.op rfl rfl (fun K hK => ?_)
      go_wp2_with (go_at_call 20; refine (none_any _).mono ?_; rintro e W3 ⟨r8, r9, rfl, g1, g2, hb⟩)
      exact (HI.out _ _ _).2 ⟨_, _, rc, _, v11, v12, v13, v9, v14, v15, v5, v6, rfl, hW.trans (hb.mono hW.size), fun _ => rfl, Free.of_set (by decide) l1, Free.of_set (by decide) l2, Free.never ld0_3 hnl (by decide), Free.never ld0_4 hnl (by decide), Free.never ld0_5 hnl (by decide), Free.never ld0_6 hnl (by decide), Free.never ld0_7 hnl (by decide), Free.never ld0_8 hnl (by decide), fun _ => ⟨g1, g2⟩, fun e => (lq2 (Free.back (by decide) e)).step hb, Free.never ld0_3 hnl (by decide), Free.never ld0_4 hnl (by decide), Free.never ld0_5 hnl (by decide), Free.never ld0_6 hnl (by decide), Free.never ld0_7 hnl (by decide), Free.never ld0_8 hnl (by decide), fun e => Free.fore (by decide) (ld2_3 (Free.back (by decide) e)), fun e => Free.fore (by decide) (ld2_4 (Free.back (by decide) e)), fun e => Free.fore (by decide) (ld2_5 (Free.back (by decide) e)), fun e => Free.fore (by decide) (ld2_6 (Free.back (by decide) e)), fun e => Free.fore (by decide) (ld2_7 (Free.back (by decide) e)), fun e => Free.fore (by decide) (ld2_8 (Free.back (by decide) e))⟩
    · have z1 := (hX.step hW).lo
      have z2 := (hX.step hW).hi
      refine Free.op rfl rfl (fun K hK => ?_)
      go_simp
      exact hK _ _ ((HI.out _ _ _).2 ⟨ra, rb, rc, v10, _, v12, v13, v9, v14, v15, v5, v6, rfl, hW, Free.of_set (by decide) l0, fun _ => rfl, Free.of_set (by decide) l2, Free.of_set (by decide) l3, Free.of_set (by decide) l4, Free.of_set (by decide) l5, Free.of_set (by decide) l6, Free.of_set (by decide) l7, Free.of_set (by decide) l8, Free.of_set (by decide) lq0, Free.of_set (by decide) lq2, fun e => Free.fore (by decide) (ld0_3 (Free.back (by decide) e)), fun e => Free.fore (by decide) (ld0_4 (Free.back (by decide) e)), fun e => Free.fore (by decide) (ld0_5 (Free.back (by decide) e)), fun e => Free.fore (by decide) (ld0_6 (Free.back (by decide) e)), fun e => Free.fore (by decide) (ld0_7 (Free.back (by decide) e)), fun e => Free.fore (by decide) (ld0_8 (Free.back (by decide) e)), fun e => Free.fore (by decide) (ld2_3 (Free.back (by decide) e)), fun e => Free.fore (by decide) (ld2_4 (Free.back (by decide) e)), fun e => Free.fore (by decide) (ld2_5 (Free.back (by decide) e)), fun e => Free.fore (by decide) (ld2_6 (Free.back (by decide) e)), fun e => Free.fore (by decide) (ld2_7 (Free.back (by decide) e)), fun e => Free.fore (by decide) (ld2_8 (Free.back (by decide) e))⟩)
    · refine Free.op rfl rfl (fun K hK => ?_)
      obtain rfl := l1 (hne 1 (by kernel_rfl))
      go_simp
      exact hK _ _ ((HI.out _ _ _).2 ⟨ra, rb, _, v10, _, _, v13, v9, v14, v15, v5, v6, rfl, hW.alloc hW.size _, Free.of_set (by decide) l0, fun _ => rfl, fun _ => rfl, Free.never ld2_3 hnl (by decide), Free.never ld2_4 hnl (by decide), Free.never ld2_5 hnl (by decide), Free.never ld2_6 hnl (by decide), Free.never ld2_7 hnl (by decide), Free.never ld2_8 hnl (by decide), fun e => ⟨(lq0 (Free.back (by decide) e)).1.step ((Below.refl _ _).alloc (Nat.le_refl _) _), (lq0 (Free.back (by decide) e)).2.step ((Below.refl _ _).alloc (Nat.le_refl _) _)⟩, fun _ => lit_ls lo hi rfl (by decide), fun e => Free.fore (by decide) (ld0_3 (Free.back (by decide) e)), fun e => Free.fore (by decide) (ld0_4 (Free.back (by decide) e)), fun e => Free.fore (by decide) (ld0_5 (Free.back (by decide) e)), fun e => Free.fore (by decide) (ld0_6 (Free.back (by decide) e)), fun e => Free.fore (by decide) (ld0_7 (Free.back (by decide) e)), fun e => Free.fore (by decide) (ld0_8 (Free.back (by decide) e)), Free.never ld2_3 hnl (by decide), Free.never ld2_4 hnl (by decide), Free.never ld2_5 hnl (by decide), Free.never ld2_6 hnl (by decide), Free.never ld2_7 hnl (by decide), Free.never ld2_8 hnl (by decide)⟩)
    · have q0 := lq0 (hne 0 (by kernel_rfl))
      have q2 := lq2 (hne 2 (by kernel_rfl))
      refine Free.op rfl rfl (fun K hK => ?_)
      obtain rfl := l0 (hne 0 (by kernel_rfl))
      obtain rfl := (l2 (hne 2 (by kernel_rfl))).symm
      go_wp2_with (go_at_call 16; refine (HIS _ _ _ _ q0.1 q0.2 q2).out.mono ?_; rintro e W3 ⟨rfl, hb⟩)
      exact (HI.out _ _ _).2 ⟨ra, rb, rc, _, v11, rc, _, v9, v14, v15, v5, v6, rfl, hW.trans (hb.mono hW.size), fun _ => rfl, Free.of_set (by decide) l1, fun _ => rfl, fun _ => rfl, Free.of_set (by decide) l4, Free.of_set (by decide) l5, Free.of_set (by decide) l6, Free.of_set (by decide) l7, Free.of_set (by decide) l8, fun e => ⟨(lq0 (Free.back (by decide) e)).1.step hb, (lq0 (Free.back (by decide) e)).2.step hb⟩, fun e => (lq2 (Free.back (by decide) e)).step hb, fun _ => Free.fore (by decide) (hne 0 (by kernel_rfl)), fun e => Free.fore (by decide) (ld0_4 (Free.back (by decide) e)), fun e => Free.fore (by decide) (ld0_5 (Free.back (by decide) e)), fun e => Free.fore (by decide) (ld0_6 (Free.back (by decide) e)), fun e => Free.fore (by decide) (ld0_7 (Free.back (by decide) e)), fun e => Free.fore (by decide) (ld0_8 (Free.back (by decide) e)), fun _ => Free.fore (by decide) (hne 2 (by kernel_rfl)), fun e => Free.fore (by decide) (ld2_4 (Free.back (by decide) e)), fun e => Free.fore (by decide) (ld2_5 (Free.back (by decide) e)), fun e => Free.fore (by decide) (ld2_6 (Free.back (by decide) e)), fun e => Free.fore (by decide) (ld2_7 (Free.back (by decide) e)), fun e => Free.fore (by decide) (ld2_8 (Free.back (by decide) e))⟩
    · refine Free.op rfl rfl (fun K hK => ?_)
      obtain rfl := l3 (hne 3 (by kernel_rfl))
      go_simp
      exact hK _ _ ((HI.out _ _ _).2 ⟨ra, rb, rc, v10, v11, v12, _, _, v14, v15, v5, v6, rfl, hW, Free.of_set (by decide) l0, Free.of_set (by decide) l1, Free.of_set (by decide) l2, fun _ => rfl, fun _ => rfl, Free.of_set (by decide) l5, Free.of_set (by decide) l6, Free.of_set (by decide) l7, Free.of_set (by decide) l8, Free.of_set (by decide) lq0, Free.of_set (by decide) lq2, fun e => Free.fore (by decide) (ld0_3 (Free.back (by decide) e)), fun _ => Free.fore (by decide) (ld0_3 (hne 3 (by kernel_rfl))), fun e => Free.fore (by decide) (ld0_5 (Free.back (by decide) e)), fun e => Free.fore (by decide) (ld0_6 (Free.back (by decide) e)), fun e => Free.fore (by decide) (ld0_7 (Free.back (by decide) e)), fun e => Free.fore (by decide) (ld0_8 (Free.back (by decide) e)), fun e => Free.fore (by decide) (ld2_3 (Free.back (by decide) e)), fun _ => Free.fore (by decide) (ld2_3 (hne 3 (by kernel_rfl))), fun e => Free.fore (by decide) (ld2_5 (Free.back (by decide) e)), fun e => Free.fore (by decide) (ld2_6 (Free.back (by decide) e)), fun e => Free.fore (by decide) (ld2_7 (Free.back (by decide) e)), fun e => Free.fore (by decide) (ld2_8 (Free.back (by decide) e))⟩)
    · refine Free.op rfl rfl (fun K hK => ?_)
      obtain rfl := l4 (hne 4 (by kernel_rfl))
      go_simp
      exact hK _ _ ((HI.out _ _ _).2 ⟨ra, rb, rc, v10, v11, v12, v13, _, _, v15, v5, v6, rfl, hW, Free.of_set (by decide) l0, Free.of_set (by decide) l1, Free.of_set (by decide) l2, Free.of_set (by decide) l3, fun _ => rfl, fun _ => rfl, Free.of_set (by decide) l6, Free.of_set (by decide) l7, Free.of_set (by decide) l8, Free.of_set (by decide) lq0, Free.of_set (by decide) lq2, fun e => Free.fore (by decide) (ld0_3 (Free.back (by decide) e)), fun e => Free.fore (by decide) (ld0_4 (Free.back (by decide) e)), fun _ => Free.fore (by decide) (ld0_4 (hne 4 (by kernel_rfl))), fun e => Free.fore (by decide) (ld0_6 (Free.back (by decide) e)), fun e => Free.fore (by decide) (ld0_7 (Free.back (by decide) e)), fun e => Free.fore (by decide) (ld0_8 (Free.back (by decide) e)), fun e => Free.fore (by decide) (ld2_3 (Free.back (by decide) e)), fun e => Free.fore (by decide) (ld2_4 (Free.back (by decide) e)), fun _ => Free.fore (by decide) (ld2_4 (hne 4 (by kernel_rfl))), fun e => Free.fore (by decide) (ld2_6 (Free.back (by decide) e)), fun e => Free.fore (by decide) (ld2_7 (Free.back (by decide) e)), fun e => Free.fore (by decide) (ld2_8 (Free.back (by decide) e))⟩)
    · refine Free.op rfl rfl (fun K hK => ?_)
      obtain rfl := l4 (hne 4 (by kernel_rfl))
      go_simp
      exact hK _ _ ((HI.out _ _ _).2 ⟨ra, rb, rc, v10, v11, v12, v13, _, v14, _, v5, v6, rfl, hW, Free.of_set (by decide) l0, Free.of_set (by decide) l1, Free.of_set (by decide) l2, Free.of_set (by decide) l3, fun _ => rfl, Free.of_set (by decide) l5, fun _ => rfl, Free.of_set (by decide) l7, Free.of_set (by decide) l8, Free.of_set (by decide) lq0, Free.of_set (by decide) lq2, fun e => Free.fore (by decide) (ld0_3 (Free.back (by decide) e)), fun e => Free.fore (by decide) (ld0_4 (Free.back (by decide) e)), fun e => Free.fore (by decide) (ld0_5 (Free.back (by decide) e)), fun _ => Free.fore (by decide) (ld0_4 (hne 4 (by kernel_rfl))), fun e => Free.fore (by decide) (ld0_7 (Free.back (by decide) e)), fun e => Free.fore (by decide) (ld0_8 (Free.back (by decide) e)), fun e => Free.fore (by decide) (ld2_3 (Free.back (by decide) e)), fun e => Free.fore (by decide) (ld2_4 (Free.back (by decide) e)), fun e => Free.fore (by decide) (ld2_5 (Free.back (by decide) e)), fun _ => Free.fore (by decide) (ld2_4 (hne 4 (by kernel_rfl))), fun e => Free.fore (by decide) (ld2_7 (Free.back (by decide) e)), fun e => Free.fore (by decide) (ld2_8 (Free.back (by decide) e))⟩)
    · refine Free.op rfl rfl (fun K hK => ?_)
      obtain rfl := l5 (hne 5 (by kernel_rfl))
      go_simp
      exact hK _ _ ((HI.out _ _ _).2 ⟨ra, rb, rc, v10, v11, v12, v13, v9, _, v15, _, v6, rfl, hW, Free.of_set (by decide) l0, Free.of_set (by decide) l1, Free.of_set (by decide) l2, Free.of_set (by decide) l3, Free.of_set (by decide) l4, fun _ => rfl, Free.of_set (by decide) l6, fun _ => rfl, Free.of_set (by decide) l8, Free.of_set (by decide) lq0, Free.of_set (by decide) lq2, fun e => Free.fore (by decide) (ld0_3 (Free.back (by decide) e)), fun e => Free.fore (by decide) (ld0_4 (Free.back (by decide) e)), fun e => Free.fore (by decide) (ld0_5 (Free.back (by decide) e)), fun e => Free.fore (by decide) (ld0_6 (Free.back (by decide) e)), fun _ => Free.fore (by decide) (ld0_5 (hne 5 (by kernel_rfl))), fun e => Free.fore (by decide) (ld0_8 (Free.back (by decide) e)), fun e => Free.fore (by decide) (ld2_3 (Free.back (by decide) e)), fun e => Free.fore (by decide) (ld2_4 (Free.back (by decide) e)), fun e => Free.fore (by decide) (ld2_5 (Free.back (by decide) e)), fun e => Free.fore (by decide) (ld2_6 (Free.back (by decide) e)), fun _ => Free.fore (by decide) (ld2_5 (hne 5 (by kernel_rfl))), fun e => Free.fore (by decide) (ld2_8 (Free.back (by decide) e))⟩)
    · refine Free.op rfl rfl (fun K hK => ?_)
      obtain rfl := l6 (hne 6 (by kernel_rfl))
      go_simp
      exact hK _ _ ((HI.out _ _ _).2 ⟨ra, rb, rc, v10, v11, v12, v13, v9, v14, _, v5, _, rfl, hW, Free.of_set (by decide) l0, Free.of_set (by decide) l1, Free.of_set (by decide) l2, Free.of_set (by decide) l3, Free.of_set (by decide) l4, Free.of_set (by decide) l5, fun _ => rfl, Free.of_set (by decide) l7, fun _ => rfl, Free.of_set (by decide) lq0, Free.of_set (by decide) lq2, fun e => Free.fore (by decide) (ld0_3 (Free.back (by decide) e)), fun e => Free.fore (by decide) (ld0_4 (Free.back (by decide) e)), fun e => Free.fore (by decide) (ld0_5 (Free.back (by decide) e)), fun e => Free.fore (by decide) (ld0_6 (Free.back (by decide) e)), fun e => Free.fore (by decide) (ld0_7 (Free.back (by decide) e)), fun _ => Free.fore (by decide) (ld0_6 (hne 6 (by kernel_rfl))), fun e => Free.fore (by decide) (ld2_3 (Free.back (by decide) e)), fun e => Free.fore (by decide) (ld2_4 (Free.back (by decide) e)), fun e => Free.fore (by decide) (ld2_5 (Free.back (by decide) e)), fun e => Free.fore (by decide) (ld2_6 (Free.back (by decide) e)), fun e => Free.fore (by decide) (ld2_7 (Free.back (by decide) e)), fun _ => Free.fore (by decide) (ld2_6 (hne 6 (by kernel_rfl)))⟩)
  case s3 =>
    intro listed aq W1 hall hsz hv
    obtain ⟨ra, rb, rc, v10, v11, v12, v13, v9, v14, v15, v5, v6, rfl, hW, l0, l1, l2, l3, l4, l5, l6, l7, l8, lq0, lq2, ld0_3, ld0_4, ld0_5, ld0_6, ld0_7, ld0_8, ld2_3, ld2_4, ld2_5, ld2_6, ld2_7, ld2_8⟩ := (HI.out _ _ _).1 hv
    clear hv HI
    have q0 := lq0 (Free.listed_of hall hsz 0 (by decide))
    have q2 := lq2 (Free.listed_of hall hsz 2 (by decide))
    obtain rfl := l0 (Free.listed_of hall hsz 0 (by decide))
    obtain rfl := l1 (Free.listed_of hall hsz 1 (by decide))
    obtain rfl := (l2 (Free.listed_of hall hsz 2 (by decide))).symm
    obtain rfl := l3 (Free.listed_of hall hsz 3 (by decide))
    obtain rfl := l4 (Free.listed_of hall hsz 4 (by decide))
    obtain rfl := l5 (Free.listed_of hall hsz 5 (by decide))
    obtain rfl := l6 (Free.listed_of hall hsz 6 (by decide))
    obtain rfl := l7 (Free.listed_of hall hsz 7 (by decide))
    obtain rfl := l8 (Free.listed_of hall hsz 8 (by decide))
    clear hall hsz lq0 lq2 ld0_3 ld0_4 ld0_5 ld0_6 ld0_7 ld0_8 ld2_3 ld2_4 ld2_5 ld2_6 ld2_7 ld2_8
    replace hF := hF.step hW
    clear hW hX q0 q2
    have x0l := (hF.at 0 rfl).lo
    have x0h := (hF.at 0 rfl).hi
    go_wp2_with (go_at_call 21; refine (HCK _).out.mono ?_; rintro e wn ⟨rfl, rfl⟩; )
    go_returns
    exact ⟨rfl, (hF.alloc _).below⟩

set_option maxRecDepth 100000 in
set_option maxHeartbeats 16000000 in
theorem walk_out (lo hi y : Int) (w : World) (h : Um.chk lo hi = 0) (hy : ¬ (0 ≤ y ∧ y ≤ 1000000000)) :
    Calls Try.prog 6 #[.agg #[.int .i64 lo, .int .i64 hi], .int .i64 y] w fun e w' => e = .returned (.bool true) ∧ Below w.heap.size w w' := by
  have v0 := errV_none
  have q1 := errG
  have q2 := errGn
  have q3 := errE
  have q4 := errN
  have hmx : Try.prog.follows .mixedOrders = true := by kernel_rfl
  have hF := (Fr.start w).push lo hi rfl
  have hX := hF.at 0 rfl
  have HIS := fun v0 v1 v w h1 h2 h3 => hid (hlIs_any sNone v0 [(0, 0)] v1 [(lo, hi)] v w h1 h2 h3)
  have HGR := fun v0 v1 v w h1 h2 h3 => hid (hlGrow_any sNone v0 [(0, 0)] v1 [(lo, hi)] v y 3 w h1 h2 h3)
  have HCK := fun w => hid (check_any lo hi w)
  generalize hG : Um.growAll sNone [(0, 0)] [(lo, hi)] y 3 = G at HGR
  rw [none_grow_not hy] at hG
  have kG : (G.2 != 0) = true := by rw [← hG]; rfl
  clear hG
  generalize hBB : Um.isB sNone [(0, 0)] [(lo, hi)] = BB at HIS
  generalize hEE : (Um.ofAll sNone [(0, 0)] [(lo, hi)]).2 = EE at HIS
  rw [none_is h] at hBB
  rw [none_of h] at hEE
  have k : (EE != 0) = false := by rw [← hEE]; rfl
  have HBB := hid hBB.symm
  clear hEE hBB h HCK
  go_enter Try.func6, Try.ntmps6
  go_wp2
  generalize w.heap.size = Bx at *
  generalize w.alloc (.cells #[.int .i64 lo, .int .i64 hi] 32) = W at *
  obtain ⟨Inv, hInv⟩ : ∃ Inv : Array Bool → Act → World → Prop, ∀ listed aq W', Inv listed aq W' ↔ (∃ ra rb rc v10 v11 v12 v13 v9 v14 v15 v5 v6 : Value, aq = { tmps := #[Value.agg #[Value.int IntKind.i64 lo, Value.int IntKind.i64 hi], Value.int IntKind.i64 y, Value.pointer (some { block := Bx, off := 0 }), undef, Value.bool false, v5, v6, undef, undef, v9, v10, v11, v12, v13, v14, v15, undef, undef, undef, undef, undef, undef, undef, undef, undef, undef, undef, undef, undef, undef, undef, undef, undef, undef, undef, undef, undef, undef, undef, undef, undef, undef, undef, undef, undef, undef, undef, undef, undef, undef, undef, undef, undef], defers := [] } ∧ Below (W).heap.size (W) W' ∧ (listed.getD 0 false = true → v10 = (.agg #[ra, rb])) ∧ (listed.getD 1 false = true → v11 = .agg #[.int .i64 lo, .int .i64 hi]) ∧ (listed.getD 2 false = true → v12 = rc) ∧ (listed.getD 3 false = true → v13 = (.tuple #[.bool BB, errV EE])) ∧ (listed.getD 4 false = true → v9 = (.tuple #[.bool BB, errV EE])) ∧ (listed.getD 5 false = true → v14 = .bool BB) ∧ (listed.getD 6 false = true → v15 = errV EE) ∧ (listed.getD 7 false = true → v5 = .bool BB) ∧ (listed.getD 8 false = true → v6 = errV EE) ∧ (listed.getD 0 false = true → Lf W'.heap.size W' ra sNone ∧ Ls W'.heap.size W' rb [(0, 0)]) ∧ (listed.getD 2 false = true → Ls W'.heap.size W' rc [(lo, hi)]) ∧ (listed.getD 3 false = true → listed.getD 0 false = true) ∧ (listed.getD 4 false = true → listed.getD 0 false = true) ∧ (listed.getD 5 false = true → listed.getD 0 false = true) ∧ (listed.getD 6 false = true → listed.getD 0 false = true) ∧ (listed.getD 7 false = true → listed.getD 0 false = true) ∧ (listed.getD 8 false = true → listed.getD 0 false = true) ∧ (listed.getD 3 false = true → listed.getD 2 false = true) ∧ (listed.getD 4 false = true → listed.getD 2 false = true) ∧ (listed.getD 5 false = true → listed.getD 2 false = true) ∧ (listed.getD 6 false = true → listed.getD 2 false = true) ∧ (listed.getD 7 false = true → listed.getD 2 false = true) ∧ (listed.getD 8 false = true → listed.getD 2 false = true)) := ⟨_, fun _ _ _ => Iff.rfl⟩
  have HI := hid hInv
  clear hInv
  refine Free.region hmx (by kernel_rfl) Inv ?s1 ?s2 ?s3
  case s1 =>
    exact (HI.out _ _ _).2 ⟨undef, undef, undef, undef, undef, undef, undef, undef, undef, undef, undef, undef, rfl, (Below.refl _ _).drew, Free.not_yet, Free.not_yet, Free.not_yet, Free.not_yet, Free.not_yet, Free.not_yet, Free.not_yet, Free.not_yet, Free.not_yet, Free.not_yet, Free.not_yet, Free.not_yet, Free.not_yet, Free.not_yet, Free.not_yet, Free.not_yet, Free.not_yet, Free.not_yet, Free.not_yet, Free.not_yet, Free.not_yet, Free.not_yet, Free.not_yet⟩
  case s2 =>
    intro i listed aq W1 hix hne hnl hsz hv
    obtain ⟨ra, rb, rc, v10, v11, v12, v13, v9, v14, v15, v5, v6, rfl, hW, l0, l1, l2, l3, l4, l5, l6, l7, l8, lq0, lq2, ld0_3, ld0_4, ld0_5, ld0_6, ld0_7, ld0_8, ld2_3, ld2_4, ld2_5, ld2_6, ld2_7, ld2_8⟩ := (HI.out _ _ _).1 hv
    clear hv
    replace hix : i < 9 := hix
    replace hsz : listed.size = 9 := hsz
    rcases (by omega : i = 0 ∨ i = 1 ∨ i = 2 ∨ i = 3 ∨ i = 4 ∨ i = 5 ∨ i = 6 ∨ i = 7 ∨ i = 8) with rfl | rfl | rfl | rfl | rfl | rfl | rfl | rfl | rfl
    · refine Free.op rfl rfl (fun K hK => ?_)
      go_wp2_with (go_at_call 20; refine (none_any _).mono ?_; rintro e W3 ⟨r8, r9, rfl, g1, g2, hb⟩)
      exact (HI.out _ _ _).2 ⟨_, _, rc, _, v11, v12, v13, v9, v14, v15, v5, v6, rfl, hW.trans (hb.mono hW.size), fun _ => rfl, Free.of_set (by decide) l1, Free.of_set (by decide) l2, Free.never ld0_3 hnl (by decide), Free.never ld0_4 hnl (by decide), Free.never ld0_5 hnl (by decide), Free.never ld0_6 hnl (by decide), Free.never ld0_7 hnl (by decide), Free.never ld0_8 hnl (by decide), fun _ => ⟨g1, g2⟩, fun e => (lq2 (Free.back (by decide) e)).step hb, Free.never ld0_3 hnl (by decide), Free.never ld0_4 hnl (by decide), Free.never ld0_5 hnl (by decide), Free.never ld0_6 hnl (by decide), Free.never ld0_7 hnl (by decide), Free.never ld0_8 hnl (by decide), fun e => Free.fore (by decide) (ld2_3 (Free.back (by decide) e)), fun e => Free.fore (by decide) (ld2_4 (Free.back (by decide) e)), fun e => Free.fore (by decide) (ld2_5 (Free.back (by decide) e)), fun e => Free.fore (by decide) (ld2_6 (Free.back (by decide) e)), fun e => Free.fore (by decide) (ld2_7 (Free.back (by decide) e)), fun e => Free.fore (by decide) (ld2_8 (Free.back (by decide) e))⟩
    · have z1 := (hX.step hW).lo
      have z2 := (hX.step hW).hi
      refine Free.op rfl rfl (fun K hK => ?_)
      go_simp
      exact hK _ _ ((HI.out _ _ _).2 ⟨ra, rb, rc, v10, _, v12, v13, v9, v14, v15, v5, v6, rfl, hW, Free.of_set (by decide) l0, fun _ => rfl, Free.of_set (by decide) l2, Free.of_set (by decide) l3, Free.of_set (by decide) l4, Free.of_set (by decide) l5, Free.of_set (by decide) l6, Free.of_set (by decide) l7, Free.of_set (by decide) l8, Free.of_set (by decide) lq0, Free.of_set (by decide) lq2, fun e => Free.fore (by decide) (ld0_3 (Free.back (by decide) e)), fun e => Free.fore (by decide) (ld0_4 (Free.back (by decide) e)), fun e => Free.fore (by decide) (ld0_5 (Free.back (by decide) e)), fun e => Free.fore (by decide) (ld0_6 (Free.back (by decide) e)), fun e => Free.fore (by decide) (ld0_7 (Free.back (by decide) e)), fun e => Free.fore (by decide) (ld0_8 (Free.back (by decide) e)), fun e => Free.fore (by decide) (ld2_3 (Free.back (by decide) e)), fun e => Free.fore (by decide) (ld2_4 (Free.back (by decide) e)), fun e => Free.fore (by decide) (ld2_5 (Free.back (by decide) e)), fun e => Free.fore (by decide) (ld2_6 (Free.back (by decide) e)), fun e => Free.fore (by decide) (ld2_7 (Free.back (by decide) e)), fun e => Free.fore (by decide) (ld2_8 (Free.back (by decide) e))⟩)
    · refine Free.op rfl rfl (fun K hK => ?_)
      obtain rfl := l1 (hne 1 (by kernel_rfl))
      go_simp
      exact hK _ _ ((HI.out _ _ _).2 ⟨ra, rb, _, v10, _, _, v13, v9, v14, v15, v5, v6, rfl, hW.alloc hW.size _, Free.of_set (by decide) l0, fun _ => rfl, fun _ => rfl, Free.never ld2_3 hnl (by decide), Free.never ld2_4 hnl (by decide), Free.never ld2_5 hnl (by decide), Free.never ld2_6 hnl (by decide), Free.never ld2_7 hnl (by decide), Free.never ld2_8 hnl (by decide), fun e => ⟨(lq0 (Free.back (by decide) e)).1.step ((Below.refl _ _).alloc (Nat.le_refl _) _), (lq0 (Free.back (by decide) e)).2.step ((Below.refl _ _).alloc (Nat.le_refl _) _)⟩, fun _ => lit_ls lo hi rfl (by decide), fun e => Free.fore (by decide) (ld0_3 (Free.back (by decide) e)), fun e => Free.fore (by decide) (ld0_4 (Free.back (by decide) e)), fun e => Free.fore (by decide) (ld0_5 (Free.back (by decide) e)), fun e => Free.fore (by decide) (ld0_6 (Free.back (by decide) e)), fun e => Free.fore (by decide) (ld0_7 (Free.back (by decide) e)), fun e => Free.fore (by decide) (ld0_8 (Free.back (by decide) e)), Free.never ld2_3 hnl (by decide), Free.never ld2_4 hnl (by decide), Free.never ld2_5 hnl (by decide), Free.never ld2_6 hnl (by decide), Free.never ld2_7 hnl (by decide), Free.never ld2_8 hnl (by decide)⟩)
    · have q0 := lq0 (hne 0 (by kernel_rfl))
      have q2 := lq2 (hne 2 (by kernel_rfl))
      refine Free.op rfl rfl (fun K hK => ?_)
      obtain rfl := l0 (hne 0 (by kernel_rfl))
      obtain rfl := (l2 (hne 2 (by kernel_rfl))).symm
      go_wp2_with (go_at_call 16; refine (HIS _ _ _ _ q0.1 q0.2 q2).out.mono ?_; rintro e W3 ⟨rfl, hb⟩)
      exact (HI.out _ _ _).2 ⟨ra, rb, rc, _, v11, rc, _, v9, v14, v15, v5, v6, rfl, hW.trans (hb.mono hW.size), fun _ => rfl, Free.of_set (by decide) l1, fun _ => rfl, fun _ => rfl, Free.of_set (by decide) l4, Free.of_set (by decide) l5, Free.of_set (by decide) l6, Free.of_set (by decide) l7, Free.of_set (by decide) l8, fun e => ⟨(lq0 (Free.back (by decide) e)).1.step hb, (lq0 (Free.back (by decide) e)).2.step hb⟩, fun e => (lq2 (Free.back (by decide) e)).step hb, fun _ => Free.fore (by decide) (hne 0 (by kernel_rfl)), fun e => Free.fore (by decide) (ld0_4 (Free.back (by decide) e)), fun e => Free.fore (by decide) (ld0_5 (Free.back (by decide) e)), fun e => Free.fore (by decide) (ld0_6 (Free.back (by decide) e)), fun e => Free.fore (by decide) (ld0_7 (Free.back (by decide) e)), fun e => Free.fore (by decide) (ld0_8 (Free.back (by decide) e)), fun _ => Free.fore (by decide) (hne 2 (by kernel_rfl)), fun e => Free.fore (by decide) (ld2_4 (Free.back (by decide) e)), fun e => Free.fore (by decide) (ld2_5 (Free.back (by decide) e)), fun e => Free.fore (by decide) (ld2_6 (Free.back (by decide) e)), fun e => Free.fore (by decide) (ld2_7 (Free.back (by decide) e)), fun e => Free.fore (by decide) (ld2_8 (Free.back (by decide) e))⟩
    · refine Free.op rfl rfl (fun K hK => ?_)
      obtain rfl := l3 (hne 3 (by kernel_rfl))
      go_simp
      exact hK _ _ ((HI.out _ _ _).2 ⟨ra, rb, rc, v10, v11, v12, _, _, v14, v15, v5, v6, rfl, hW, Free.of_set (by decide) l0, Free.of_set (by decide) l1, Free.of_set (by decide) l2, fun _ => rfl, fun _ => rfl, Free.of_set (by decide) l5, Free.of_set (by decide) l6, Free.of_set (by decide) l7, Free.of_set (by decide) l8, Free.of_set (by decide) lq0, Free.of_set (by decide) lq2, fun e => Free.fore (by decide) (ld0_3 (Free.back (by decide) e)), fun _ => Free.fore (by decide) (ld0_3 (hne 3 (by kernel_rfl))), fun e => Free.fore (by decide) (ld0_5 (Free.back (by decide) e)), fun e => Free.fore (by decide) (ld0_6 (Free.back (by decide) e)), fun e => Free.fore (by decide) (ld0_7 (Free.back (by decide) e)), fun e => Free.fore (by decide) (ld0_8 (Free.back (by decide) e)), fun e => Free.fore (by decide) (ld2_3 (Free.back (by decide) e)), fun _ => Free.fore (by decide) (ld2_3 (hne 3 (by kernel_rfl))), fun e => Free.fore (by decide) (ld2_5 (Free.back (by decide) e)), fun e => Free.fore (by decide) (ld2_6 (Free.back (by decide) e)), fun e => Free.fore (by decide) (ld2_7 (Free.back (by decide) e)), fun e => Free.fore (by decide) (ld2_8 (Free.back (by decide) e))⟩)
    · refine Free.op rfl rfl (fun K hK => ?_)
      obtain rfl := l4 (hne 4 (by kernel_rfl))
      go_simp
      exact hK _ _ ((HI.out _ _ _).2 ⟨ra, rb, rc, v10, v11, v12, v13, _, _, v15, v5, v6, rfl, hW, Free.of_set (by decide) l0, Free.of_set (by decide) l1, Free.of_set (by decide) l2, Free.of_set (by decide) l3, fun _ => rfl, fun _ => rfl, Free.of_set (by decide) l6, Free.of_set (by decide) l7, Free.of_set (by decide) l8, Free.of_set (by decide) lq0, Free.of_set (by decide) lq2, fun e => Free.fore (by decide) (ld0_3 (Free.back (by decide) e)), fun e => Free.fore (by decide) (ld0_4 (Free.back (by decide) e)), fun _ => Free.fore (by decide) (ld0_4 (hne 4 (by kernel_rfl))), fun e => Free.fore (by decide) (ld0_6 (Free.back (by decide) e)), fun e => Free.fore (by decide) (ld0_7 (Free.back (by decide) e)), fun e => Free.fore (by decide) (ld0_8 (Free.back (by decide) e)), fun e => Free.fore (by decide) (ld2_3 (Free.back (by decide) e)), fun e => Free.fore (by decide) (ld2_4 (Free.back (by decide) e)), fun _ => Free.fore (by decide) (ld2_4 (hne 4 (by kernel_rfl))), fun e => Free.fore (by decide) (ld2_6 (Free.back (by decide) e)), fun e => Free.fore (by decide) (ld2_7 (Free.back (by decide) e)), fun e => Free.fore (by decide) (ld2_8 (Free.back (by decide) e))⟩)
    · refine Free.op rfl rfl (fun K hK => ?_)
      obtain rfl := l4 (hne 4 (by kernel_rfl))
      go_simp
      exact hK _ _ ((HI.out _ _ _).2 ⟨ra, rb, rc, v10, v11, v12, v13, _, v14, _, v5, v6, rfl, hW, Free.of_set (by decide) l0, Free.of_set (by decide) l1, Free.of_set (by decide) l2, Free.of_set (by decide) l3, fun _ => rfl, Free.of_set (by decide) l5, fun _ => rfl, Free.of_set (by decide) l7, Free.of_set (by decide) l8, Free.of_set (by decide) lq0, Free.of_set (by decide) lq2, fun e => Free.fore (by decide) (ld0_3 (Free.back (by decide) e)), fun e => Free.fore (by decide) (ld0_4 (Free.back (by decide) e)), fun e => Free.fore (by decide) (ld0_5 (Free.back (by decide) e)), fun _ => Free.fore (by decide) (ld0_4 (hne 4 (by kernel_rfl))), fun e => Free.fore (by decide) (ld0_7 (Free.back (by decide) e)), fun e => Free.fore (by decide) (ld0_8 (Free.back (by decide) e)), fun e => Free.fore (by decide) (ld2_3 (Free.back (by decide) e)), fun e => Free.fore (by decide) (ld2_4 (Free.back (by decide) e)), fun e => Free.fore (by decide) (ld2_5 (Free.back (by decide) e)), fun _ => Free.fore (by decide) (ld2_4 (hne 4 (by kernel_rfl))), fun e => Free.fore (by decide) (ld2_7 (Free.back (by decide) e)), fun e => Free.fore (by decide) (ld2_8 (Free.back (by decide) e))⟩)
    · refine Free.op rfl rfl (fun K hK => ?_)
      obtain rfl := l5 (hne 5 (by kernel_rfl))
      go_simp
      exact hK _ _ ((HI.out _ _ _).2 ⟨ra, rb, rc, v10, v11, v12, v13, v9, _, v15, _, v6, rfl, hW, Free.of_set (by decide) l0, Free.of_set (by decide) l1, Free.of_set (by decide) l2, Free.of_set (by decide) l3, Free.of_set (by decide) l4, fun _ => rfl, Free.of_set (by decide) l6, fun _ => rfl, Free.of_set (by decide) l8, Free.of_set (by decide) lq0, Free.of_set (by decide) lq2, fun e => Free.fore (by decide) (ld0_3 (Free.back (by decide) e)), fun e => Free.fore (by decide) (ld0_4 (Free.back (by decide) e)), fun e => Free.fore (by decide) (ld0_5 (Free.back (by decide) e)), fun e => Free.fore (by decide) (ld0_6 (Free.back (by decide) e)), fun _ => Free.fore (by decide) (ld0_5 (hne 5 (by kernel_rfl))), fun e => Free.fore (by decide) (ld0_8 (Free.back (by decide) e)), fun e => Free.fore (by decide) (ld2_3 (Free.back (by decide) e)), fun e => Free.fore (by decide) (ld2_4 (Free.back (by decide) e)), fun e => Free.fore (by decide) (ld2_5 (Free.back (by decide) e)), fun e => Free.fore (by decide) (ld2_6 (Free.back (by decide) e)), fun _ => Free.fore (by decide) (ld2_5 (hne 5 (by kernel_rfl))), fun e => Free.fore (by decide) (ld2_8 (Free.back (by decide) e))⟩)
    · refine Free.op rfl rfl (fun K hK => ?_)
      obtain rfl := l6 (hne 6 (by kernel_rfl))
      go_simp
      exact hK _ _ ((HI.out _ _ _).2 ⟨ra, rb, rc, v10, v11, v12, v13, v9, v14, _, v5, _, rfl, hW, Free.of_set (by decide) l0, Free.of_set (by decide) l1, Free.of_set (by decide) l2, Free.of_set (by decide) l3, Free.of_set (by decide) l4, Free.of_set (by decide) l5, fun _ => rfl, Free.of_set (by decide) l7, fun _ => rfl, Free.of_set (by decide) lq0, Free.of_set (by decide) lq2, fun e => Free.fore (by decide) (ld0_3 (Free.back (by decide) e)), fun e => Free.fore (by decide) (ld0_4 (Free.back (by decide) e)), fun e => Free.fore (by decide) (ld0_5 (Free.back (by decide) e)), fun e => Free.fore (by decide) (ld0_6 (Free.back (by decide) e)), fun e => Free.fore (by decide) (ld0_7 (Free.back (by decide) e)), fun _ => Free.fore (by decide) (ld0_6 (hne 6 (by kernel_rfl))), fun e => Free.fore (by decide) (ld2_3 (Free.back (by decide) e)), fun e => Free.fore (by decide) (ld2_4 (Free.back (by decide) e)), fun e => Free.fore (by decide) (ld2_5 (Free.back (by decide) e)), fun e => Free.fore (by decide) (ld2_6 (Free.back (by decide) e)), fun e => Free.fore (by decide) (ld2_7 (Free.back (by decide) e)), fun _ => Free.fore (by decide) (ld2_6 (hne 6 (by kernel_rfl)))⟩)
  case s3 =>
    intro listed aq W1 hall hsz hv
    obtain ⟨ra, rb, rc, v10, v11, v12, v13, v9, v14, v15, v5, v6, rfl, hW, l0, l1, l2, l3, l4, l5, l6, l7, l8, lq0, lq2, ld0_3, ld0_4, ld0_5, ld0_6, ld0_7, ld0_8, ld2_3, ld2_4, ld2_5, ld2_6, ld2_7, ld2_8⟩ := (HI.out _ _ _).1 hv
    clear hv HI
    have q0 := lq0 (Free.listed_of hall hsz 0 (by decide))
    have q2 := lq2 (Free.listed_of hall hsz 2 (by decide))
    obtain rfl := l0 (Free.listed_of hall hsz 0 (by decide))
    obtain rfl := l1 (Free.listed_of hall hsz 1 (by decide))
    obtain rfl := (l2 (Free.listed_of hall hsz 2 (by decide))).symm
    obtain rfl := l3 (Free.listed_of hall hsz 3 (by decide))
    obtain rfl := l4 (Free.listed_of hall hsz 4 (by decide))
    obtain rfl := l5 (Free.listed_of hall hsz 5 (by decide))
    obtain rfl := l6 (Free.listed_of hall hsz 6 (by decide))
    obtain rfl := l7 (Free.listed_of hall hsz 7 (by decide))
    obtain rfl := l8 (Free.listed_of hall hsz 8 (by decide))
    clear hall hsz lq0 lq2 ld0_3 ld0_4 ld0_5 ld0_6 ld0_7 ld0_8 ld2_3 ld2_4 ld2_5 ld2_6 ld2_7 ld2_8
    replace hF := hF.step hW
    clear hW hX q0 q2
    have hX := hF.at 0 rfl
    go_wp2
    generalize W1 = W at *
    obtain ⟨Inv, hInv⟩ : ∃ Inv : Array Bool → Act → World → Prop, ∀ listed aq W', Inv listed aq W' ↔ (∃ sa sb sc rd v22 v23 v24 v25 v26 v21 v27 v28 v7 v8 : Value, aq = { tmps := #[Value.agg #[Value.int IntKind.i64 lo, Value.int IntKind.i64 hi], Value.int IntKind.i64 y, Value.pointer (some { block := Bx, off := 0 }), undef, Value.bool false, Value.bool BB, errV EE, v7, v8, Value.tuple #[Value.bool BB, errV EE], Value.agg #[ra, rb], Value.agg #[Value.int IntKind.i64 lo, Value.int IntKind.i64 hi], rc, Value.tuple #[Value.bool BB, errV EE], Value.bool BB, errV EE, errV EE, Value.bool false, undef, undef, undef, v21, v22, v23, v24, v25, v26, v27, v28, undef, undef, undef, undef, undef, undef, undef, undef, undef, undef, undef, undef, undef, undef, undef, undef, undef, undef, undef, undef, undef, undef, undef, undef], defers := [] } ∧ Below (W).heap.size (W) W' ∧ (listed.getD 0 false = true → v22 = (.agg #[sa, sb])) ∧ (listed.getD 1 false = true → v23 = .agg #[.int .i64 lo, .int .i64 hi]) ∧ (listed.getD 2 false = true → v24 = sc) ∧ (listed.getD 3 false = true → v25 = Value.int IntKind.i64 y) ∧ (listed.getD 4 false = true → v26 = (.tuple #[rd, errV G.2])) ∧ (listed.getD 5 false = true → v21 = (.tuple #[rd, errV G.2])) ∧ (listed.getD 6 false = true → v27 = rd) ∧ (listed.getD 7 false = true → v28 = errV G.2) ∧ (listed.getD 8 false = true → v7 = rd) ∧ (listed.getD 9 false = true → v8 = errV G.2) ∧ (listed.getD 0 false = true → Lf W'.heap.size W' sa sNone ∧ Ls W'.heap.size W' sb [(0, 0)]) ∧ (listed.getD 2 false = true → Ls W'.heap.size W' sc [(lo, hi)]) ∧ (listed.getD 4 false = true → Ls W'.heap.size W' rd G.1) ∧ (listed.getD 4 false = true → listed.getD 0 false = true) ∧ (listed.getD 5 false = true → listed.getD 0 false = true) ∧ (listed.getD 6 false = true → listed.getD 0 false = true) ∧ (listed.getD 7 false = true → listed.getD 0 false = true) ∧ (listed.getD 8 false = true → listed.getD 0 false = true) ∧ (listed.getD 9 false = true → listed.getD 0 false = true) ∧ (listed.getD 4 false = true → listed.getD 2 false = true) ∧ (listed.getD 5 false = true → listed.getD 2 false = true) ∧ (listed.getD 6 false = true → listed.getD 2 false = true) ∧ (listed.getD 7 false = true → listed.getD 2 false = true) ∧ (listed.getD 8 false = true → listed.getD 2 false = true) ∧ (listed.getD 9 false = true → listed.getD 2 false = true) ∧ (listed.getD 5 false = true → listed.getD 4 false = true) ∧ (listed.getD 6 false = true → listed.getD 4 false = true) ∧ (listed.getD 7 false = true → listed.getD 4 false = true) ∧ (listed.getD 8 false = true → listed.getD 4 false = true) ∧ (listed.getD 9 false = true → listed.getD 4 false = true)) := ⟨_, fun _ _ _ => Iff.rfl⟩
    have HI := hid hInv
    clear hInv
    refine Free.region hmx (by kernel_rfl) Inv ?s1 ?s2 ?s3
    case s1 =>
      exact (HI.out _ _ _).2 ⟨undef, undef, undef, undef, undef, undef, undef, undef, undef, undef, undef, undef, undef, undef, rfl, (Below.refl _ _).drew, Free.not_yet, Free.not_yet, Free.not_yet, Free.not_yet, Free.not_yet, Free.not_yet, Free.not_yet, Free.not_yet, Free.not_yet, Free.not_yet, Free.not_yet, Free.not_yet, Free.not_yet, Free.not_yet, Free.not_yet, Free.not_yet, Free.not_yet, Free.not_yet, Free.not_yet, Free.not_yet, Free.not_yet, Free.not_yet, Free.not_yet, Free.not_yet, Free.not_yet, Free.not_yet, Free.not_yet, Free.not_yet, Free.not_yet, Free.not_yet⟩
    case s2 =>
      intro i listed aq W1 hix hne hnl hsz hv
      obtain ⟨sa, sb, sc, rd, v22, v23, v24, v25, v26, v21, v27, v28, v7, v8, rfl, hW, l0, l1, l2, l3, l4, l5, l6, l7, l8, l9, lq0, lq2, lq4, ld0_4, ld0_5, ld0_6, ld0_7, ld0_8, ld0_9, ld2_4, ld2_5, ld2_6, ld2_7, ld2_8, ld2_9, ld4_5, ld4_6, ld4_7, ld4_8, ld4_9⟩ := (HI.out _ _ _).1 hv
      clear hv
      replace hix : i < 10 := hix
      replace hsz : listed.size = 10 := hsz
      rcases (by omega : i = 0 ∨ i = 1 ∨ i = 2 ∨ i = 3 ∨ i = 4 ∨ i = 5 ∨ i = 6 ∨ i = 7 ∨ i = 8 ∨ i = 9) with rfl | rfl | rfl | rfl | rfl | rfl | rfl | rfl | rfl | rfl
      · refine Free.op rfl rfl (fun K hK => ?_)
        go_wp2_with (go_at_call 20; refine (none_any _).mono ?_; rintro e W3 ⟨r8, r9, rfl, g1, g2, hb⟩)
        exact (HI.out _ _ _).2 ⟨_, _, sc, rd, _, v23, v24, v25, v26, v21, v27, v28, v7, v8, rfl, hW.trans (hb.mono hW.size), fun _ => rfl, Free.of_set (by decide) l1, Free.of_set (by decide) l2, Free.of_set (by decide) l3, Free.never ld0_4 hnl (by decide), Free.never ld0_5 hnl (by decide), Free.never ld0_6 hnl (by decide), Free.never ld0_7 hnl (by decide), Free.never ld0_8 hnl (by decide), Free.never ld0_9 hnl (by decide), fun _ => ⟨g1, g2⟩, fun e => (lq2 (Free.back (by decide) e)).step hb, fun e => (lq4 (Free.back (by decide) e)).step hb, Free.never ld0_4 hnl (by decide), Free.never ld0_5 hnl (by decide), Free.never ld0_6 hnl (by decide), Free.never ld0_7 hnl (by decide), Free.never ld0_8 hnl (by decide), Free.never ld0_9 hnl (by decide), fun e => Free.fore (by decide) (ld2_4 (Free.back (by decide) e)), fun e => Free.fore (by decide) (ld2_5 (Free.back (by decide) e)), fun e => Free.fore (by decide) (ld2_6 (Free.back (by decide) e)), fun e => Free.fore (by decide) (ld2_7 (Free.back (by decide) e)), fun e => Free.fore (by decide) (ld2_8 (Free.back (by decide) e)), fun e => Free.fore (by decide) (ld2_9 (Free.back (by decide) e)), fun e => Free.fore (by decide) (ld4_5 (Free.back (by decide) e)), fun e => Free.fore (by decide) (ld4_6 (Free.back (by decide) e)), fun e => Free.fore (by decide) (ld4_7 (Free.back (by decide) e)), fun e => Free.fore (by decide) (ld4_8 (Free.back (by decide) e)), fun e => Free.fore (by decide) (ld4_9 (Free.back (by decide) e))⟩
      · have z1 := (hX.step hW).lo
        have z2 := (hX.step hW).hi
        refine Free.op rfl rfl (fun K hK => ?_)
        go_simp
        exact hK _ _ ((HI.out _ _ _).2 ⟨sa, sb, sc, rd, v22, _, v24, v25, v26, v21, v27, v28, v7, v8, rfl, hW, Free.of_set (by decide) l0, fun _ => rfl, Free.of_set (by decide) l2, Free.of_set (by decide) l3, Free.of_set (by decide) l4, Free.of_set (by decide) l5, Free.of_set (by decide) l6, Free.of_set (by decide) l7, Free.of_set (by decide) l8, Free.of_set (by decide) l9, Free.of_set (by decide) lq0, Free.of_set (by decide) lq2, Free.of_set (by decide) lq4, fun e => Free.fore (by decide) (ld0_4 (Free.back (by decide) e)), fun e => Free.fore (by decide) (ld0_5 (Free.back (by decide) e)), fun e => Free.fore (by decide) (ld0_6 (Free.back (by decide) e)), fun e => Free.fore (by decide) (ld0_7 (Free.back (by decide) e)), fun e => Free.fore (by decide) (ld0_8 (Free.back (by decide) e)), fun e => Free.fore (by decide) (ld0_9 (Free.back (by decide) e)), fun e => Free.fore (by decide) (ld2_4 (Free.back (by decide) e)), fun e => Free.fore (by decide) (ld2_5 (Free.back (by decide) e)), fun e => Free.fore (by decide) (ld2_6 (Free.back (by decide) e)), fun e => Free.fore (by decide) (ld2_7 (Free.back (by decide) e)), fun e => Free.fore (by decide) (ld2_8 (Free.back (by decide) e)), fun e => Free.fore (by decide) (ld2_9 (Free.back (by decide) e)), fun e => Free.fore (by decide) (ld4_5 (Free.back (by decide) e)), fun e => Free.fore (by decide) (ld4_6 (Free.back (by decide) e)), fun e => Free.fore (by decide) (ld4_7 (Free.back (by decide) e)), fun e => Free.fore (by decide) (ld4_8 (Free.back (by decide) e)), fun e => Free.fore (by decide) (ld4_9 (Free.back (by decide) e))⟩)
      · refine Free.op rfl rfl (fun K hK => ?_)
        obtain rfl := l1 (hne 1 (by kernel_rfl))
        go_simp
        exact hK _ _ ((HI.out _ _ _).2 ⟨sa, sb, _, rd, v22, _, _, v25, v26, v21, v27, v28, v7, v8, rfl, hW.alloc hW.size _, Free.of_set (by decide) l0, fun _ => rfl, fun _ => rfl, Free.of_set (by decide) l3, Free.never ld2_4 hnl (by decide), Free.never ld2_5 hnl (by decide), Free.never ld2_6 hnl (by decide), Free.never ld2_7 hnl (by decide), Free.never ld2_8 hnl (by decide), Free.never ld2_9 hnl (by decide), fun e => ⟨(lq0 (Free.back (by decide) e)).1.step ((Below.refl _ _).alloc (Nat.le_refl _) _), (lq0 (Free.back (by decide) e)).2.step ((Below.refl _ _).alloc (Nat.le_refl _) _)⟩, fun _ => lit_ls lo hi rfl (by decide), fun e => (lq4 (Free.back (by decide) e)).step ((Below.refl _ _).alloc (Nat.le_refl _) _), fun e => Free.fore (by decide) (ld0_4 (Free.back (by decide) e)), fun e => Free.fore (by decide) (ld0_5 (Free.back (by decide) e)), fun e => Free.fore (by decide) (ld0_6 (Free.back (by decide) e)), fun e => Free.fore (by decide) (ld0_7 (Free.back (by decide) e)), fun e => Free.fore (by decide) (ld0_8 (Free.back (by decide) e)), fun e => Free.fore (by decide) (ld0_9 (Free.back (by decide) e)), Free.never ld2_4 hnl (by decide), Free.never ld2_5 hnl (by decide), Free.never ld2_6 hnl (by decide), Free.never ld2_7 hnl (by decide), Free.never ld2_8 hnl (by decide), Free.never ld2_9 hnl (by decide), fun e => Free.fore (by decide) (ld4_5 (Free.back (by decide) e)), fun e => Free.fore (by decide) (ld4_6 (Free.back (by decide) e)), fun e => Free.fore (by decide) (ld4_7 (Free.back (by decide) e)), fun e => Free.fore (by decide) (ld4_8 (Free.back (by decide) e)), fun e => Free.fore (by decide) (ld4_9 (Free.back (by decide) e))⟩)
      · refine Free.op rfl rfl (fun K hK => ?_)
        go_simp
        exact hK _ _ ((HI.out _ _ _).2 ⟨sa, sb, sc, rd, v22, v23, v24, _, v26, v21, v27, v28, v7, v8, rfl, hW, Free.of_set (by decide) l0, Free.of_set (by decide) l1, Free.of_set (by decide) l2, fun _ => rfl, Free.of_set (by decide) l4, Free.of_set (by decide) l5, Free.of_set (by decide) l6, Free.of_set (by decide) l7, Free.of_set (by decide) l8, Free.of_set (by decide) l9, Free.of_set (by decide) lq0, Free.of_set (by decide) lq2, Free.of_set (by decide) lq4, fun e => Free.fore (by decide) (ld0_4 (Free.back (by decide) e)), fun e => Free.fore (by decide) (ld0_5 (Free.back (by decide) e)), fun e => Free.fore (by decide) (ld0_6 (Free.back (by decide) e)), fun e => Free.fore (by decide) (ld0_7 (Free.back (by decide) e)), fun e => Free.fore (by decide) (ld0_8 (Free.back (by decide) e)), fun e => Free.fore (by decide) (ld0_9 (Free.back (by decide) e)), fun e => Free.fore (by decide) (ld2_4 (Free.back (by decide) e)), fun e => Free.fore (by decide) (ld2_5 (Free.back (by decide) e)), fun e => Free.fore (by decide) (ld2_6 (Free.back (by decide) e)), fun e => Free.fore (by decide) (ld2_7 (Free.back (by decide) e)), fun e => Free.fore (by decide) (ld2_8 (Free.back (by decide) e)), fun e => Free.fore (by decide) (ld2_9 (Free.back (by decide) e)), fun e => Free.fore (by decide) (ld4_5 (Free.back (by decide) e)), fun e => Free.fore (by decide) (ld4_6 (Free.back (by decide) e)), fun e => Free.fore (by decide) (ld4_7 (Free.back (by decide) e)), fun e => Free.fore (by decide) (ld4_8 (Free.back (by decide) e)), fun e => Free.fore (by decide) (ld4_9 (Free.back (by decide) e))⟩)
      · have q0 := lq0 (hne 0 (by kernel_rfl))
        have q2 := lq2 (hne 2 (by kernel_rfl))
        refine Free.op rfl rfl (fun K hK => ?_)
        obtain rfl := l0 (hne 0 (by kernel_rfl))
        obtain rfl := (l2 (hne 2 (by kernel_rfl))).symm
        obtain rfl := l3 (hne 3 (by kernel_rfl))
        go_wp2_with (go_at_call 17; refine (HGR _ _ _ _ q0.1 q0.2 q2).out.mono ?_; rintro e W3 ⟨r8, rfl, g1, hb⟩)
        exact (HI.out _ _ _).2 ⟨sa, sb, sc, _, _, v23, sc, _, _, v21, v27, v28, v7, v8, rfl, hW.trans (hb.mono hW.size), fun _ => rfl, Free.of_set (by decide) l1, fun _ => rfl, fun _ => rfl, fun _ => rfl, Free.never ld4_5 hnl (by decide), Free.never ld4_6 hnl (by decide), Free.never ld4_7 hnl (by decide), Free.never ld4_8 hnl (by decide), Free.never ld4_9 hnl (by decide), fun e => ⟨(lq0 (Free.back (by decide) e)).1.step hb, (lq0 (Free.back (by decide) e)).2.step hb⟩, fun e => (lq2 (Free.back (by decide) e)).step hb, fun _ => g1, fun _ => Free.fore (by decide) (hne 0 (by kernel_rfl)), fun e => Free.fore (by decide) (ld0_5 (Free.back (by decide) e)), fun e => Free.fore (by decide) (ld0_6 (Free.back (by decide) e)), fun e => Free.fore (by decide) (ld0_7 (Free.back (by decide) e)), fun e => Free.fore (by decide) (ld0_8 (Free.back (by decide) e)), fun e => Free.fore (by decide) (ld0_9 (Free.back (by decide) e)), fun _ => Free.fore (by decide) (hne 2 (by kernel_rfl)), fun e => Free.fore (by decide) (ld2_5 (Free.back (by decide) e)), fun e => Free.fore (by decide) (ld2_6 (Free.back (by decide) e)), fun e => Free.fore (by decide) (ld2_7 (Free.back (by decide) e)), fun e => Free.fore (by decide) (ld2_8 (Free.back (by decide) e)), fun e => Free.fore (by decide) (ld2_9 (Free.back (by decide) e)), Free.never ld4_5 hnl (by decide), Free.never ld4_6 hnl (by decide), Free.never ld4_7 hnl (by decide), Free.never ld4_8 hnl (by decide), Free.never ld4_9 hnl (by decide)⟩
      · refine Free.op rfl rfl (fun K hK => ?_)
        obtain rfl := l4 (hne 4 (by kernel_rfl))
        go_simp
        exact hK _ _ ((HI.out _ _ _).2 ⟨sa, sb, sc, rd, v22, v23, v24, v25, _, _, v27, v28, v7, v8, rfl, hW, Free.of_set (by decide) l0, Free.of_set (by decide) l1, Free.of_set (by decide) l2, Free.of_set (by decide) l3, fun _ => rfl, fun _ => rfl, Free.of_set (by decide) l6, Free.of_set (by decide) l7, Free.of_set (by decide) l8, Free.of_set (by decide) l9, Free.of_set (by decide) lq0, Free.of_set (by decide) lq2, Free.of_set (by decide) lq4, fun e => Free.fore (by decide) (ld0_4 (Free.back (by decide) e)), fun _ => Free.fore (by decide) (ld0_4 (hne 4 (by kernel_rfl))), fun e => Free.fore (by decide) (ld0_6 (Free.back (by decide) e)), fun e => Free.fore (by decide) (ld0_7 (Free.back (by decide) e)), fun e => Free.fore (by decide) (ld0_8 (Free.back (by decide) e)), fun e => Free.fore (by decide) (ld0_9 (Free.back (by decide) e)), fun e => Free.fore (by decide) (ld2_4 (Free.back (by decide) e)), fun _ => Free.fore (by decide) (ld2_4 (hne 4 (by kernel_rfl))), fun e => Free.fore (by decide) (ld2_6 (Free.back (by decide) e)), fun e => Free.fore (by decide) (ld2_7 (Free.back (by decide) e)), fun e => Free.fore (by decide) (ld2_8 (Free.back (by decide) e)), fun e => Free.fore (by decide) (ld2_9 (Free.back (by decide) e)), fun _ => Free.fore (by decide) (hne 4 (by kernel_rfl)), fun e => Free.fore (by decide) (ld4_6 (Free.back (by decide) e)), fun e => Free.fore (by decide) (ld4_7 (Free.back (by decide) e)), fun e => Free.fore (by decide) (ld4_8 (Free.back (by decide) e)), fun e => Free.fore (by decide) (ld4_9 (Free.back (by decide) e))⟩)
      · refine Free.op rfl rfl (fun K hK => ?_)
        obtain rfl := l5 (hne 5 (by kernel_rfl))
        go_simp
        exact hK _ _ ((HI.out _ _ _).2 ⟨sa, sb, sc, rd, v22, v23, v24, v25, v26, _, _, v28, v7, v8, rfl, hW, Free.of_set (by decide) l0, Free.of_set (by decide) l1, Free.of_set (by decide) l2, Free.of_set (by decide) l3, Free.of_set (by decide) l4, fun _ => rfl, fun _ => rfl, Free.of_set (by decide) l7, Free.of_set (by decide) l8, Free.of_set (by decide) l9, Free.of_set (by decide) lq0, Free.of_set (by decide) lq2, Free.of_set (by decide) lq4, fun e => Free.fore (by decide) (ld0_4 (Free.back (by decide) e)), fun e => Free.fore (by decide) (ld0_5 (Free.back (by decide) e)), fun _ => Free.fore (by decide) (ld0_5 (hne 5 (by kernel_rfl))), fun e => Free.fore (by decide) (ld0_7 (Free.back (by decide) e)), fun e => Free.fore (by decide) (ld0_8 (Free.back (by decide) e)), fun e => Free.fore (by decide) (ld0_9 (Free.back (by decide) e)), fun e => Free.fore (by decide) (ld2_4 (Free.back (by decide) e)), fun e => Free.fore (by decide) (ld2_5 (Free.back (by decide) e)), fun _ => Free.fore (by decide) (ld2_5 (hne 5 (by kernel_rfl))), fun e => Free.fore (by decide) (ld2_7 (Free.back (by decide) e)), fun e => Free.fore (by decide) (ld2_8 (Free.back (by decide) e)), fun e => Free.fore (by decide) (ld2_9 (Free.back (by decide) e)), fun e => Free.fore (by decide) (ld4_5 (Free.back (by decide) e)), fun _ => Free.fore (by decide) (ld4_5 (hne 5 (by kernel_rfl))), fun e => Free.fore (by decide) (ld4_7 (Free.back (by decide) e)), fun e => Free.fore (by decide) (ld4_8 (Free.back (by decide) e)), fun e => Free.fore (by decide) (ld4_9 (Free.back (by decide) e))⟩)
      · refine Free.op rfl rfl (fun K hK => ?_)
        obtain rfl := l5 (hne 5 (by kernel_rfl))
        go_simp
        exact hK _ _ ((HI.out _ _ _).2 ⟨sa, sb, sc, rd, v22, v23, v24, v25, v26, _, v27, _, v7, v8, rfl, hW, Free.of_set (by decide) l0, Free.of_set (by decide) l1, Free.of_set (by decide) l2, Free.of_set (by decide) l3, Free.of_set (by decide) l4, fun _ => rfl, Free.of_set (by decide) l6, fun _ => rfl, Free.of_set (by decide) l8, Free.of_set (by decide) l9, Free.of_set (by decide) lq0, Free.of_set (by decide) lq2, Free.of_set (by decide) lq4, fun e => Free.fore (by decide) (ld0_4 (Free.back (by decide) e)), fun e => Free.fore (by decide) (ld0_5 (Free.back (by decide) e)), fun e => Free.fore (by decide) (ld0_6 (Free.back (by decide) e)), fun _ => Free.fore (by decide) (ld0_5 (hne 5 (by kernel_rfl))), fun e => Free.fore (by decide) (ld0_8 (Free.back (by decide) e)), fun e => Free.fore (by decide) (ld0_9 (Free.back (by decide) e)), fun e => Free.fore (by decide) (ld2_4 (Free.back (by decide) e)), fun e => Free.fore (by decide) (ld2_5 (Free.back (by decide) e)), fun e => Free.fore (by decide) (ld2_6 (Free.back (by decide) e)), fun _ => Free.fore (by decide) (ld2_5 (hne 5 (by kernel_rfl))), fun e => Free.fore (by decide) (ld2_8 (Free.back (by decide) e)), fun e => Free.fore (by decide) (ld2_9 (Free.back (by decide) e)), fun e => Free.fore (by decide) (ld4_5 (Free.back (by decide) e)), fun e => Free.fore (by decide) (ld4_6 (Free.back (by decide) e)), fun _ => Free.fore (by decide) (ld4_5 (hne 5 (by kernel_rfl))), fun e => Free.fore (by decide) (ld4_8 (Free.back (by decide) e)), fun e => Free.fore (by decide) (ld4_9 (Free.back (by decide) e))⟩)
      · refine Free.op rfl rfl (fun K hK => ?_)
        obtain rfl := (l6 (hne 6 (by kernel_rfl))).symm
        go_simp
        exact hK _ _ ((HI.out _ _ _).2 ⟨sa, sb, sc, rd, v22, v23, v24, v25, v26, v21, rd, v28, _, v8, rfl, hW, Free.of_set (by decide) l0, Free.of_set (by decide) l1, Free.of_set (by decide) l2, Free.of_set (by decide) l3, Free.of_set (by decide) l4, Free.of_set (by decide) l5, fun _ => rfl, Free.of_set (by decide) l7, fun _ => rfl, Free.of_set (by decide) l9, Free.of_set (by decide) lq0, Free.of_set (by decide) lq2, Free.of_set (by decide) lq4, fun e => Free.fore (by decide) (ld0_4 (Free.back (by decide) e)), fun e => Free.fore (by decide) (ld0_5 (Free.back (by decide) e)), fun e => Free.fore (by decide) (ld0_6 (Free.back (by decide) e)), fun e => Free.fore (by decide) (ld0_7 (Free.back (by decide) e)), fun _ => Free.fore (by decide) (ld0_6 (hne 6 (by kernel_rfl))), fun e => Free.fore (by decide) (ld0_9 (Free.back (by decide) e)), fun e => Free.fore (by decide) (ld2_4 (Free.back (by decide) e)), fun e => Free.fore (by decide) (ld2_5 (Free.back (by decide) e)), fun e => Free.fore (by decide) (ld2_6 (Free.back (by decide) e)), fun e => Free.fore (by decide) (ld2_7 (Free.back (by decide) e)), fun _ => Free.fore (by decide) (ld2_6 (hne 6 (by kernel_rfl))), fun e => Free.fore (by decide) (ld2_9 (Free.back (by decide) e)), fun e => Free.fore (by decide) (ld4_5 (Free.back (by decide) e)), fun e => Free.fore (by decide) (ld4_6 (Free.back (by decide) e)), fun e => Free.fore (by decide) (ld4_7 (Free.back (by decide) e)), fun _ => Free.fore (by decide) (ld4_6 (hne 6 (by kernel_rfl))), fun e => Free.fore (by decide) (ld4_9 (Free.back (by decide) e))⟩)
      · refine Free.op rfl rfl (fun K hK => ?_)
        obtain rfl := l7 (hne 7 (by kernel_rfl))
        go_simp
        exact hK _ _ ((HI.out _ _ _).2 ⟨sa, sb, sc, rd, v22, v23, v24, v25, v26, v21, v27, _, v7, _, rfl, hW, Free.of_set (by decide) l0, Free.of_set (by decide) l1, Free.of_set (by decide) l2, Free.of_set (by decide) l3, Free.of_set (by decide) l4, Free.of_set (by decide) l5, Free.of_set (by decide) l6, fun _ => rfl, Free.of_set (by decide) l8, fun _ => rfl, Free.of_set (by decide) lq0, Free.of_set (by decide) lq2, Free.of_set (by decide) lq4, fun e => Free.fore (by decide) (ld0_4 (Free.back (by decide) e)), fun e => Free.fore (by decide) (ld0_5 (Free.back (by decide) e)), fun e => Free.fore (by decide) (ld0_6 (Free.back (by decide) e)), fun e => Free.fore (by decide) (ld0_7 (Free.back (by decide) e)), fun e => Free.fore (by decide) (ld0_8 (Free.back (by decide) e)), fun _ => Free.fore (by decide) (ld0_7 (hne 7 (by kernel_rfl))), fun e => Free.fore (by decide) (ld2_4 (Free.back (by decide) e)), fun e => Free.fore (by decide) (ld2_5 (Free.back (by decide) e)), fun e => Free.fore (by decide) (ld2_6 (Free.back (by decide) e)), fun e => Free.fore (by decide) (ld2_7 (Free.back (by decide) e)), fun e => Free.fore (by decide) (ld2_8 (Free.back (by decide) e)), fun _ => Free.fore (by decide) (ld2_7 (hne 7 (by kernel_rfl))), fun e => Free.fore (by decide) (ld4_5 (Free.back (by decide) e)), fun e => Free.fore (by decide) (ld4_6 (Free.back (by decide) e)), fun e => Free.fore (by decide) (ld4_7 (Free.back (by decide) e)), fun e => Free.fore (by decide) (ld4_8 (Free.back (by decide) e)), fun _ => Free.fore (by decide) (ld4_7 (hne 7 (by kernel_rfl)))⟩)
    case s3 =>
      intro listed aq W1 hall hsz hv
      obtain ⟨sa, sb, sc, rd, v22, v23, v24, v25, v26, v21, v27, v28, v7, v8, rfl, hW, l0, l1, l2, l3, l4, l5, l6, l7, l8, l9, lq0, lq2, lq4, ld0_4, ld0_5, ld0_6, ld0_7, ld0_8, ld0_9, ld2_4, ld2_5, ld2_6, ld2_7, ld2_8, ld2_9, ld4_5, ld4_6, ld4_7, ld4_8, ld4_9⟩ := (HI.out _ _ _).1 hv
      clear hv HI
      have q0 := lq0 (Free.listed_of hall hsz 0 (by decide))
      have q2 := lq2 (Free.listed_of hall hsz 2 (by decide))
      have q4 := lq4 (Free.listed_of hall hsz 4 (by decide))
      obtain rfl := l0 (Free.listed_of hall hsz 0 (by decide))
      obtain rfl := l1 (Free.listed_of hall hsz 1 (by decide))
      obtain rfl := (l2 (Free.listed_of hall hsz 2 (by decide))).symm
      obtain rfl := l3 (Free.listed_of hall hsz 3 (by decide))
      obtain rfl := l4 (Free.listed_of hall hsz 4 (by decide))
      obtain rfl := l5 (Free.listed_of hall hsz 5 (by decide))
      obtain rfl := (l6 (Free.listed_of hall hsz 6 (by decide))).symm
      obtain rfl := l7 (Free.listed_of hall hsz 7 (by decide))
      obtain rfl := (l8 (Free.listed_of hall hsz 8 (by decide))).symm
      obtain rfl := l9 (Free.listed_of hall hsz 9 (by decide))
      clear hall hsz lq0 lq2 lq4 ld0_4 ld0_5 ld0_6 ld0_7 ld0_8 ld0_9 ld2_4 ld2_5 ld2_6 ld2_7 ld2_8 ld2_9 ld4_5 ld4_6 ld4_7 ld4_8 ld4_9
      replace hF := hF.step hW
      clear hW hX q0 q2
      clear q4
      obtain rfl := HBB.out
      rcases (by omega : y < 0 ∨ (¬ y < 0 ∧ 1000000000 < y)) with t1 | ⟨t1, t2⟩
      · have d1 : decide (y < 0) = true := decide_eq_true t1
        go_wp2
        go_returns
        exact ⟨rfl, hF.below⟩
      · have d1 : decide (y < 0) = false := decide_eq_false t1
        have d2 : decide (1000000000 < y) = true := decide_eq_true t2
        go_wp2
        go_returns
        exact ⟨rfl, hF.below⟩


set_option maxRecDepth 100000 in
set_option maxHeartbeats 16000000 in
theorem walk_in (lo hi y : Int) (w : World) (h : Um.chk lo hi = 0) (hy : 0 ≤ y ∧ y ≤ 1000000000) :
    Calls Try.prog 6 #[.agg #[.int .i64 lo, .int .i64 hi], .int .i64 y] w fun e w' => e = .returned (.bool true) ∧ Below w.heap.size w w' := by
  have v0 := errV_none
  have q1 := errG
  have q2 := errGn
  have q3 := errE
  have q4 := errN
  have hmx : Try.prog.follows .mixedOrders = true := by kernel_rfl
  have hF := (Fr.start w).push lo hi rfl
  have hX := hF.at 0 rfl
  have HIS := fun v0 v1 v w h1 h2 h3 => hid (hlIs_any sNone v0 [(0, 0)] v1 [(lo, hi)] v w h1 h2 h3)
  have HGR := fun v0 v1 v w h1 h2 h3 => hid (hlGrow_any sNone v0 [(0, 0)] v1 [(lo, hi)] v y 3 w h1 h2 h3)
  have HCK := fun w => hid (check_any lo hi w)
  generalize hG : Um.growAll sNone [(0, 0)] [(lo, hi)] y 3 = G at HGR
  rw [none_grow h hy] at hG
  have kG : (G.2 != 0) = false := by rw [← hG]; rfl
  have HG1 : Hid (G.1 = [(lo, hi)]) := by rw [← hG]; exact hid rfl
  clear hG
  generalize hBB : Um.isB sNone [(0, 0)] [(lo, hi)] = BB at HIS
  generalize hEE : (Um.ofAll sNone [(0, 0)] [(lo, hi)]).2 = EE at HIS
  rw [none_is h] at hBB
  rw [none_of h] at hEE
  have k : (EE != 0) = false := by rw [← hEE]; rfl
  have HBB := hid hBB.symm
  clear hEE hBB h HCK
  go_enter Try.func6, Try.ntmps6
  go_wp2
  generalize w.heap.size = Bx at *
  generalize w.alloc (.cells #[.int .i64 lo, .int .i64 hi] 32) = W at *
  obtain ⟨Inv, hInv⟩ : ∃ Inv : Array Bool → Act → World → Prop, ∀ listed aq W', Inv listed aq W' ↔ (∃ ra rb rc v10 v11 v12 v13 v9 v14 v15 v5 v6 : Value, aq = { tmps := #[Value.agg #[Value.int IntKind.i64 lo, Value.int IntKind.i64 hi], Value.int IntKind.i64 y, Value.pointer (some { block := Bx, off := 0 }), undef, Value.bool false, v5, v6, undef, undef, v9, v10, v11, v12, v13, v14, v15, undef, undef, undef, undef, undef, undef, undef, undef, undef, undef, undef, undef, undef, undef, undef, undef, undef, undef, undef, undef, undef, undef, undef, undef, undef, undef, undef, undef, undef, undef, undef, undef, undef, undef, undef, undef, undef], defers := [] } ∧ Below (W).heap.size (W) W' ∧ (listed.getD 0 false = true → v10 = (.agg #[ra, rb])) ∧ (listed.getD 1 false = true → v11 = .agg #[.int .i64 lo, .int .i64 hi]) ∧ (listed.getD 2 false = true → v12 = rc) ∧ (listed.getD 3 false = true → v13 = (.tuple #[.bool BB, errV EE])) ∧ (listed.getD 4 false = true → v9 = (.tuple #[.bool BB, errV EE])) ∧ (listed.getD 5 false = true → v14 = .bool BB) ∧ (listed.getD 6 false = true → v15 = errV EE) ∧ (listed.getD 7 false = true → v5 = .bool BB) ∧ (listed.getD 8 false = true → v6 = errV EE) ∧ (listed.getD 0 false = true → Lf W'.heap.size W' ra sNone ∧ Ls W'.heap.size W' rb [(0, 0)]) ∧ (listed.getD 2 false = true → Ls W'.heap.size W' rc [(lo, hi)]) ∧ (listed.getD 3 false = true → listed.getD 0 false = true) ∧ (listed.getD 4 false = true → listed.getD 0 false = true) ∧ (listed.getD 5 false = true → listed.getD 0 false = true) ∧ (listed.getD 6 false = true → listed.getD 0 false = true) ∧ (listed.getD 7 false = true → listed.getD 0 false = true) ∧ (listed.getD 8 false = true → listed.getD 0 false = true) ∧ (listed.getD 3 false = true → listed.getD 2 false = true) ∧ (listed.getD 4 false = true → listed.getD 2 false = true) ∧ (listed.getD 5 false = true → listed.getD 2 false = true) ∧ (listed.getD 6 false = true → listed.getD 2 false = true) ∧ (listed.getD 7 false = true → listed.getD 2 false = true) ∧ (listed.getD 8 false = true → listed.getD 2 false = true)) := ⟨_, fun _ _ _ => Iff.rfl⟩
  have HI := hid hInv
  clear hInv
  refine Free.region hmx (by kernel_rfl) Inv ?s1 ?s2 ?s3
  case s1 =>
    exact (HI.out _ _ _).2 ⟨undef, undef, undef, undef, undef, undef, undef, undef, undef, undef, undef, undef, rfl, (Below.refl _ _).drew, Free.not_yet, Free.not_yet, Free.not_yet, Free.not_yet, Free.not_yet, Free.not_yet, Free.not_yet, Free.not_yet, Free.not_yet, Free.not_yet, Free.not_yet, Free.not_yet, Free.not_yet, Free.not_yet, Free.not_yet, Free.not_yet, Free.not_yet, Free.not_yet, Free.not_yet, Free.not_yet, Free.not_yet, Free.not_yet, Free.not_yet⟩
  case s2 =>
    intro i listed aq W1 hix hne hnl hsz hv
    obtain ⟨ra, rb, rc, v10, v11, v12, v13, v9, v14, v15, v5, v6, rfl, hW, l0, l1, l2, l3, l4, l5, l6, l7, l8, lq0, lq2, ld0_3, ld0_4, ld0_5, ld0_6, ld0_7, ld0_8, ld2_3, ld2_4, ld2_5, ld2_6, ld2_7, ld2_8⟩ := (HI.out _ _ _).1 hv
    clear hv
    replace hix : i < 9 := hix
    replace hsz : listed.size = 9 := hsz
    rcases (by omega : i = 0 ∨ i = 1 ∨ i = 2 ∨ i = 3 ∨ i = 4 ∨ i = 5 ∨ i = 6 ∨ i = 7 ∨ i = 8) with rfl | rfl | rfl | rfl | rfl | rfl | rfl | rfl | rfl
    · refine Free.op rfl rfl (fun K hK => ?_)
      go_wp2_with (go_at_call 20; refine (none_any _).mono ?_; rintro e W3 ⟨r8, r9, rfl, g1, g2, hb⟩)
      exact (HI.out _ _ _).2 ⟨_, _, rc, _, v11, v12, v13, v9, v14, v15, v5, v6, rfl, hW.trans (hb.mono hW.size), fun _ => rfl, Free.of_set (by decide) l1, Free.of_set (by decide) l2, Free.never ld0_3 hnl (by decide), Free.never ld0_4 hnl (by decide), Free.never ld0_5 hnl (by decide), Free.never ld0_6 hnl (by decide), Free.never ld0_7 hnl (by decide), Free.never ld0_8 hnl (by decide), fun _ => ⟨g1, g2⟩, fun e => (lq2 (Free.back (by decide) e)).step hb, Free.never ld0_3 hnl (by decide), Free.never ld0_4 hnl (by decide), Free.never ld0_5 hnl (by decide), Free.never ld0_6 hnl (by decide), Free.never ld0_7 hnl (by decide), Free.never ld0_8 hnl (by decide), fun e => Free.fore (by decide) (ld2_3 (Free.back (by decide) e)), fun e => Free.fore (by decide) (ld2_4 (Free.back (by decide) e)), fun e => Free.fore (by decide) (ld2_5 (Free.back (by decide) e)), fun e => Free.fore (by decide) (ld2_6 (Free.back (by decide) e)), fun e => Free.fore (by decide) (ld2_7 (Free.back (by decide) e)), fun e => Free.fore (by decide) (ld2_8 (Free.back (by decide) e))⟩
    · have z1 := (hX.step hW).lo
      have z2 := (hX.step hW).hi
      refine Free.op rfl rfl (fun K hK => ?_)
      go_simp
      exact hK _ _ ((HI.out _ _ _).2 ⟨ra, rb, rc, v10, _, v12, v13, v9, v14, v15, v5, v6, rfl, hW, Free.of_set (by decide) l0, fun _ => rfl, Free.of_set (by decide) l2, Free.of_set (by decide) l3, Free.of_set (by decide) l4, Free.of_set (by decide) l5, Free.of_set (by decide) l6, Free.of_set (by decide) l7, Free.of_set (by decide) l8, Free.of_set (by decide) lq0, Free.of_set (by decide) lq2, fun e => Free.fore (by decide) (ld0_3 (Free.back (by decide) e)), fun e => Free.fore (by decide) (ld0_4 (Free.back (by decide) e)), fun e => Free.fore (by decide) (ld0_5 (Free.back (by decide) e)), fun e => Free.fore (by decide) (ld0_6 (Free.back (by decide) e)), fun e => Free.fore (by decide) (ld0_7 (Free.back (by decide) e)), fun e => Free.fore (by decide) (ld0_8 (Free.back (by decide) e)), fun e => Free.fore (by decide) (ld2_3 (Free.back (by decide) e)), fun e => Free.fore (by decide) (ld2_4 (Free.back (by decide) e)), fun e => Free.fore (by decide) (ld2_5 (Free.back (by decide) e)), fun e => Free.fore (by decide) (ld2_6 (Free.back (by decide) e)), fun e => Free.fore (by decide) (ld2_7 (Free.back (by decide) e)), fun e => Free.fore (by decide) (ld2_8 (Free.back (by decide) e))⟩)
    · refine Free.op rfl rfl (fun K hK => ?_)
      obtain rfl := l1 (hne 1 (by kernel_rfl))
      go_simp
      exact hK _ _ ((HI.out _ _ _).2 ⟨ra, rb, _, v10, _, _, v13, v9, v14, v15, v5, v6, rfl, hW.alloc hW.size _, Free.of_set (by decide) l0, fun _ => rfl, fun _ => rfl, Free.never ld2_3 hnl (by decide), Free.never ld2_4 hnl (by decide), Free.never ld2_5 hnl (by decide), Free.never ld2_6 hnl (by decide), Free.never ld2_7 hnl (by decide), Free.never ld2_8 hnl (by decide), fun e => ⟨(lq0 (Free.back (by decide) e)).1.step ((Below.refl _ _).alloc (Nat.le_refl _) _), (lq0 (Free.back (by decide) e)).2.step ((Below.refl _ _).alloc (Nat.le_refl _) _)⟩, fun _ => lit_ls lo hi rfl (by decide), fun e => Free.fore (by decide) (ld0_3 (Free.back (by decide) e)), fun e => Free.fore (by decide) (ld0_4 (Free.back (by decide) e)), fun e => Free.fore (by decide) (ld0_5 (Free.back (by decide) e)), fun e => Free.fore (by decide) (ld0_6 (Free.back (by decide) e)), fun e => Free.fore (by decide) (ld0_7 (Free.back (by decide) e)), fun e => Free.fore (by decide) (ld0_8 (Free.back (by decide) e)), Free.never ld2_3 hnl (by decide), Free.never ld2_4 hnl (by decide), Free.never ld2_5 hnl (by decide), Free.never ld2_6 hnl (by decide), Free.never ld2_7 hnl (by decide), Free.never ld2_8 hnl (by decide)⟩)
    · have q0 := lq0 (hne 0 (by kernel_rfl))
      have q2 := lq2 (hne 2 (by kernel_rfl))
      refine Free.op rfl rfl (fun K hK => ?_)
      obtain rfl := l0 (hne 0 (by kernel_rfl))
      obtain rfl := (l2 (hne 2 (by kernel_rfl))).symm
      go_wp2_with (go_at_call 16; refine (HIS _ _ _ _ q0.1 q0.2 q2).out.mono ?_; rintro e W3 ⟨rfl, hb⟩)
      exact (HI.out _ _ _).2 ⟨ra, rb, rc, _, v11, rc, _, v9, v14, v15, v5, v6, rfl, hW.trans (hb.mono hW.size), fun _ => rfl, Free.of_set (by decide) l1, fun _ => rfl, fun _ => rfl, Free.of_set (by decide) l4, Free.of_set (by decide) l5, Free.of_set (by decide) l6, Free.of_set (by decide) l7, Free.of_set (by decide) l8, fun e => ⟨(lq0 (Free.back (by decide) e)).1.step hb, (lq0 (Free.back (by decide) e)).2.step hb⟩, fun e => (lq2 (Free.back (by decide) e)).step hb, fun _ => Free.fore (by decide) (hne 0 (by kernel_rfl)), fun e => Free.fore (by decide) (ld0_4 (Free.back (by decide) e)), fun e => Free.fore (by decide) (ld0_5 (Free.back (by decide) e)), fun e => Free.fore (by decide) (ld0_6 (Free.back (by decide) e)), fun e => Free.fore (by decide) (ld0_7 (Free.back (by decide) e)), fun e => Free.fore (by decide) (ld0_8 (Free.back (by decide) e)), fun _ => Free.fore (by decide) (hne 2 (by kernel_rfl)), fun e => Free.fore (by decide) (ld2_4 (Free.back (by decide) e)), fun e => Free.fore (by decide) (ld2_5 (Free.back (by decide) e)), fun e => Free.fore (by decide) (ld2_6 (Free.back (by decide) e)), fun e => Free.fore (by decide) (ld2_7 (Free.back (by decide) e)), fun e => Free.fore (by decide) (ld2_8 (Free.back (by decide) e))⟩
    · refine Free.op rfl rfl (fun K hK => ?_)
      obtain rfl := l3 (hne 3 (by kernel_rfl))
      go_simp
      exact hK _ _ ((HI.out _ _ _).2 ⟨ra, rb, rc, v10, v11, v12, _, _, v14, v15, v5, v6, rfl, hW, Free.of_set (by decide) l0, Free.of_set (by decide) l1, Free.of_set (by decide) l2, fun _ => rfl, fun _ => rfl, Free.of_set (by decide) l5, Free.of_set (by decide) l6, Free.of_set (by decide) l7, Free.of_set (by decide) l8, Free.of_set (by decide) lq0, Free.of_set (by decide) lq2, fun e => Free.fore (by decide) (ld0_3 (Free.back (by decide) e)), fun _ => Free.fore (by decide) (ld0_3 (hne 3 (by kernel_rfl))), fun e => Free.fore (by decide) (ld0_5 (Free.back (by decide) e)), fun e => Free.fore (by decide) (ld0_6 (Free.back (by decide) e)), fun e => Free.fore (by decide) (ld0_7 (Free.back (by decide) e)), fun e => Free.fore (by decide) (ld0_8 (Free.back (by decide) e)), fun e => Free.fore (by decide) (ld2_3 (Free.back (by decide) e)), fun _ => Free.fore (by decide) (ld2_3 (hne 3 (by kernel_rfl))), fun e => Free.fore (by decide) (ld2_5 (Free.back (by decide) e)), fun e => Free.fore (by decide) (ld2_6 (Free.back (by decide) e)), fun e => Free.fore (by decide) (ld2_7 (Free.back (by decide) e)), fun e => Free.fore (by decide) (ld2_8 (Free.back (by decide) e))⟩)
    · refine Free.op rfl rfl (fun K hK => ?_)
      obtain rfl := l4 (hne 4 (by kernel_rfl))
      go_simp
      exact hK _ _ ((HI.out _ _ _).2 ⟨ra, rb, rc, v10, v11, v12, v13, _, _, v15, v5, v6, rfl, hW, Free.of_set (by decide) l0, Free.of_set (by decide) l1, Free.of_set (by decide) l2, Free.of_set (by decide) l3, fun _ => rfl, fun _ => rfl, Free.of_set (by decide) l6, Free.of_set (by decide) l7, Free.of_set (by decide) l8, Free.of_set (by decide) lq0, Free.of_set (by decide) lq2, fun e => Free.fore (by decide) (ld0_3 (Free.back (by decide) e)), fun e => Free.fore (by decide) (ld0_4 (Free.back (by decide) e)), fun _ => Free.fore (by decide) (ld0_4 (hne 4 (by kernel_rfl))), fun e => Free.fore (by decide) (ld0_6 (Free.back (by decide) e)), fun e => Free.fore (by decide) (ld0_7 (Free.back (by decide) e)), fun e => Free.fore (by decide) (ld0_8 (Free.back (by decide) e)), fun e => Free.fore (by decide) (ld2_3 (Free.back (by decide) e)), fun e => Free.fore (by decide) (ld2_4 (Free.back (by decide) e)), fun _ => Free.fore (by decide) (ld2_4 (hne 4 (by kernel_rfl))), fun e => Free.fore (by decide) (ld2_6 (Free.back (by decide) e)), fun e => Free.fore (by decide) (ld2_7 (Free.back (by decide) e)), fun e => Free.fore (by decide) (ld2_8 (Free.back (by decide) e))⟩)
    · refine Free.op rfl rfl (fun K hK => ?_)
      obtain rfl := l4 (hne 4 (by kernel_rfl))
      go_simp
      exact hK _ _ ((HI.out _ _ _).2 ⟨ra, rb, rc, v10, v11, v12, v13, _, v14, _, v5, v6, rfl, hW, Free.of_set (by decide) l0, Free.of_set (by decide) l1, Free.of_set (by decide) l2, Free.of_set (by decide) l3, fun _ => rfl, Free.of_set (by decide) l5, fun _ => rfl, Free.of_set (by decide) l7, Free.of_set (by decide) l8, Free.of_set (by decide) lq0, Free.of_set (by decide) lq2, fun e => Free.fore (by decide) (ld0_3 (Free.back (by decide) e)), fun e => Free.fore (by decide) (ld0_4 (Free.back (by decide) e)), fun e => Free.fore (by decide) (ld0_5 (Free.back (by decide) e)), fun _ => Free.fore (by decide) (ld0_4 (hne 4 (by kernel_rfl))), fun e => Free.fore (by decide) (ld0_7 (Free.back (by decide) e)), fun e => Free.fore (by decide) (ld0_8 (Free.back (by decide) e)), fun e => Free.fore (by decide) (ld2_3 (Free.back (by decide) e)), fun e => Free.fore (by decide) (ld2_4 (Free.back (by decide) e)), fun e => Free.fore (by decide) (ld2_5 (Free.back (by decide) e)), fun _ => Free.fore (by decide) (ld2_4 (hne 4 (by kernel_rfl))), fun e => Free.fore (by decide) (ld2_7 (Free.back (by decide) e)), fun e => Free.fore (by decide) (ld2_8 (Free.back (by decide) e))⟩)
    · refine Free.op rfl rfl (fun K hK => ?_)
      obtain rfl := l5 (hne 5 (by kernel_rfl))
      go_simp
      exact hK _ _ ((HI.out _ _ _).2 ⟨ra, rb, rc, v10, v11, v12, v13, v9, _, v15, _, v6, rfl, hW, Free.of_set (by decide) l0, Free.of_set (by decide) l1, Free.of_set (by decide) l2, Free.of_set (by decide) l3, Free.of_set (by decide) l4, fun _ => rfl, Free.of_set (by decide) l6, fun _ => rfl, Free.of_set (by decide) l8, Free.of_set (by decide) lq0, Free.of_set (by decide) lq2, fun e => Free.fore (by decide) (ld0_3 (Free.back (by decide) e)), fun e => Free.fore (by decide) (ld0_4 (Free.back (by decide) e)), fun e => Free.fore (by decide) (ld0_5 (Free.back (by decide) e)), fun e => Free.fore (by decide) (ld0_6 (Free.back (by decide) e)), fun _ => Free.fore (by decide) (ld0_5 (hne 5 (by kernel_rfl))), fun e => Free.fore (by decide) (ld0_8 (Free.back (by decide) e)), fun e => Free.fore (by decide) (ld2_3 (Free.back (by decide) e)), fun e => Free.fore (by decide) (ld2_4 (Free.back (by decide) e)), fun e => Free.fore (by decide) (ld2_5 (Free.back (by decide) e)), fun e => Free.fore (by decide) (ld2_6 (Free.back (by decide) e)), fun _ => Free.fore (by decide) (ld2_5 (hne 5 (by kernel_rfl))), fun e => Free.fore (by decide) (ld2_8 (Free.back (by decide) e))⟩)
    · refine Free.op rfl rfl (fun K hK => ?_)
      obtain rfl := l6 (hne 6 (by kernel_rfl))
      go_simp
      exact hK _ _ ((HI.out _ _ _).2 ⟨ra, rb, rc, v10, v11, v12, v13, v9, v14, _, v5, _, rfl, hW, Free.of_set (by decide) l0, Free.of_set (by decide) l1, Free.of_set (by decide) l2, Free.of_set (by decide) l3, Free.of_set (by decide) l4, Free.of_set (by decide) l5, fun _ => rfl, Free.of_set (by decide) l7, fun _ => rfl, Free.of_set (by decide) lq0, Free.of_set (by decide) lq2, fun e => Free.fore (by decide) (ld0_3 (Free.back (by decide) e)), fun e => Free.fore (by decide) (ld0_4 (Free.back (by decide) e)), fun e => Free.fore (by decide) (ld0_5 (Free.back (by decide) e)), fun e => Free.fore (by decide) (ld0_6 (Free.back (by decide) e)), fun e => Free.fore (by decide) (ld0_7 (Free.back (by decide) e)), fun _ => Free.fore (by decide) (ld0_6 (hne 6 (by kernel_rfl))), fun e => Free.fore (by decide) (ld2_3 (Free.back (by decide) e)), fun e => Free.fore (by decide) (ld2_4 (Free.back (by decide) e)), fun e => Free.fore (by decide) (ld2_5 (Free.back (by decide) e)), fun e => Free.fore (by decide) (ld2_6 (Free.back (by decide) e)), fun e => Free.fore (by decide) (ld2_7 (Free.back (by decide) e)), fun _ => Free.fore (by decide) (ld2_6 (hne 6 (by kernel_rfl)))⟩)
  case s3 =>
    intro listed aq W1 hall hsz hv
    obtain ⟨ra, rb, rc, v10, v11, v12, v13, v9, v14, v15, v5, v6, rfl, hW, l0, l1, l2, l3, l4, l5, l6, l7, l8, lq0, lq2, ld0_3, ld0_4, ld0_5, ld0_6, ld0_7, ld0_8, ld2_3, ld2_4, ld2_5, ld2_6, ld2_7, ld2_8⟩ := (HI.out _ _ _).1 hv
    clear hv HI
    have q0 := lq0 (Free.listed_of hall hsz 0 (by decide))
    have q2 := lq2 (Free.listed_of hall hsz 2 (by decide))
    obtain rfl := l0 (Free.listed_of hall hsz 0 (by decide))
    obtain rfl := l1 (Free.listed_of hall hsz 1 (by decide))
    obtain rfl := (l2 (Free.listed_of hall hsz 2 (by decide))).symm
    obtain rfl := l3 (Free.listed_of hall hsz 3 (by decide))
    obtain rfl := l4 (Free.listed_of hall hsz 4 (by decide))
    obtain rfl := l5 (Free.listed_of hall hsz 5 (by decide))
    obtain rfl := l6 (Free.listed_of hall hsz 6 (by decide))
    obtain rfl := l7 (Free.listed_of hall hsz 7 (by decide))
    obtain rfl := l8 (Free.listed_of hall hsz 8 (by decide))
    clear hall hsz lq0 lq2 ld0_3 ld0_4 ld0_5 ld0_6 ld0_7 ld0_8 ld2_3 ld2_4 ld2_5 ld2_6 ld2_7 ld2_8
    replace hF := hF.step hW
    clear hW hX q0 q2
    have hX := hF.at 0 rfl
    go_wp2
    generalize W1 = W at *
    obtain ⟨Inv, hInv⟩ : ∃ Inv : Array Bool → Act → World → Prop, ∀ listed aq W', Inv listed aq W' ↔ (∃ sa sb sc rd v22 v23 v24 v25 v26 v21 v27 v28 v7 v8 : Value, aq = { tmps := #[Value.agg #[Value.int IntKind.i64 lo, Value.int IntKind.i64 hi], Value.int IntKind.i64 y, Value.pointer (some { block := Bx, off := 0 }), undef, Value.bool false, Value.bool BB, errV EE, v7, v8, Value.tuple #[Value.bool BB, errV EE], Value.agg #[ra, rb], Value.agg #[Value.int IntKind.i64 lo, Value.int IntKind.i64 hi], rc, Value.tuple #[Value.bool BB, errV EE], Value.bool BB, errV EE, errV EE, Value.bool false, undef, undef, undef, v21, v22, v23, v24, v25, v26, v27, v28, undef, undef, undef, undef, undef, undef, undef, undef, undef, undef, undef, undef, undef, undef, undef, undef, undef, undef, undef, undef, undef, undef, undef, undef], defers := [] } ∧ Below (W).heap.size (W) W' ∧ (listed.getD 0 false = true → v22 = (.agg #[sa, sb])) ∧ (listed.getD 1 false = true → v23 = .agg #[.int .i64 lo, .int .i64 hi]) ∧ (listed.getD 2 false = true → v24 = sc) ∧ (listed.getD 3 false = true → v25 = Value.int IntKind.i64 y) ∧ (listed.getD 4 false = true → v26 = (.tuple #[rd, errV G.2])) ∧ (listed.getD 5 false = true → v21 = (.tuple #[rd, errV G.2])) ∧ (listed.getD 6 false = true → v27 = rd) ∧ (listed.getD 7 false = true → v28 = errV G.2) ∧ (listed.getD 8 false = true → v7 = rd) ∧ (listed.getD 9 false = true → v8 = errV G.2) ∧ (listed.getD 0 false = true → Lf W'.heap.size W' sa sNone ∧ Ls W'.heap.size W' sb [(0, 0)]) ∧ (listed.getD 2 false = true → Ls W'.heap.size W' sc [(lo, hi)]) ∧ (listed.getD 4 false = true → Ls W'.heap.size W' rd G.1) ∧ (listed.getD 4 false = true → listed.getD 0 false = true) ∧ (listed.getD 5 false = true → listed.getD 0 false = true) ∧ (listed.getD 6 false = true → listed.getD 0 false = true) ∧ (listed.getD 7 false = true → listed.getD 0 false = true) ∧ (listed.getD 8 false = true → listed.getD 0 false = true) ∧ (listed.getD 9 false = true → listed.getD 0 false = true) ∧ (listed.getD 4 false = true → listed.getD 2 false = true) ∧ (listed.getD 5 false = true → listed.getD 2 false = true) ∧ (listed.getD 6 false = true → listed.getD 2 false = true) ∧ (listed.getD 7 false = true → listed.getD 2 false = true) ∧ (listed.getD 8 false = true → listed.getD 2 false = true) ∧ (listed.getD 9 false = true → listed.getD 2 false = true) ∧ (listed.getD 5 false = true → listed.getD 4 false = true) ∧ (listed.getD 6 false = true → listed.getD 4 false = true) ∧ (listed.getD 7 false = true → listed.getD 4 false = true) ∧ (listed.getD 8 false = true → listed.getD 4 false = true) ∧ (listed.getD 9 false = true → listed.getD 4 false = true)) := ⟨_, fun _ _ _ => Iff.rfl⟩
    have HI := hid hInv
    clear hInv
    refine Free.region hmx (by kernel_rfl) Inv ?s1 ?s2 ?s3
    case s1 =>
      exact (HI.out _ _ _).2 ⟨undef, undef, undef, undef, undef, undef, undef, undef, undef, undef, undef, undef, undef, undef, rfl, (Below.refl _ _).drew, Free.not_yet, Free.not_yet, Free.not_yet, Free.not_yet, Free.not_yet, Free.not_yet, Free.not_yet, Free.not_yet, Free.not_yet, Free.not_yet, Free.not_yet, Free.not_yet, Free.not_yet, Free.not_yet, Free.not_yet, Free.not_yet, Free.not_yet, Free.not_yet, Free.not_yet, Free.not_yet, Free.not_yet, Free.not_yet, Free.not_yet, Free.not_yet, Free.not_yet, Free.not_yet, Free.not_yet, Free.not_yet, Free.not_yet, Free.not_yet⟩
    case s2 =>
      intro i listed aq W1 hix hne hnl hsz hv
      obtain ⟨sa, sb, sc, rd, v22, v23, v24, v25, v26, v21, v27, v28, v7, v8, rfl, hW, l0, l1, l2, l3, l4, l5, l6, l7, l8, l9, lq0, lq2, lq4, ld0_4, ld0_5, ld0_6, ld0_7, ld0_8, ld0_9, ld2_4, ld2_5, ld2_6, ld2_7, ld2_8, ld2_9, ld4_5, ld4_6, ld4_7, ld4_8, ld4_9⟩ := (HI.out _ _ _).1 hv
      clear hv
      replace hix : i < 10 := hix
      replace hsz : listed.size = 10 := hsz
      rcases (by omega : i = 0 ∨ i = 1 ∨ i = 2 ∨ i = 3 ∨ i = 4 ∨ i = 5 ∨ i = 6 ∨ i = 7 ∨ i = 8 ∨ i = 9) with rfl | rfl | rfl | rfl | rfl | rfl | rfl | rfl | rfl | rfl
      · refine Free.op rfl rfl (fun K hK => ?_)
        go_wp2_with (go_at_call 20; refine (none_any _).mono ?_; rintro e W3 ⟨r8, r9, rfl, g1, g2, hb⟩)
        exact (HI.out _ _ _).2 ⟨_, _, sc, rd, _, v23, v24, v25, v26, v21, v27, v28, v7, v8, rfl, hW.trans (hb.mono hW.size), fun _ => rfl, Free.of_set (by decide) l1, Free.of_set (by decide) l2, Free.of_set (by decide) l3, Free.never ld0_4 hnl (by decide), Free.never ld0_5 hnl (by decide), Free.never ld0_6 hnl (by decide), Free.never ld0_7 hnl (by decide), Free.never ld0_8 hnl (by decide), Free.never ld0_9 hnl (by decide), fun _ => ⟨g1, g2⟩, fun e => (lq2 (Free.back (by decide) e)).step hb, fun e => (lq4 (Free.back (by decide) e)).step hb, Free.never ld0_4 hnl (by decide), Free.never ld0_5 hnl (by decide), Free.never ld0_6 hnl (by decide), Free.never ld0_7 hnl (by decide), Free.never ld0_8 hnl (by decide), Free.never ld0_9 hnl (by decide), fun e => Free.fore (by decide) (ld2_4 (Free.back (by decide) e)), fun e => Free.fore (by decide) (ld2_5 (Free.back (by decide) e)), fun e => Free.fore (by decide) (ld2_6 (Free.back (by decide) e)), fun e => Free.fore (by decide) (ld2_7 (Free.back (by decide) e)), fun e => Free.fore (by decide) (ld2_8 (Free.back (by decide) e)), fun e => Free.fore (by decide) (ld2_9 (Free.back (by decide) e)), fun e => Free.fore (by decide) (ld4_5 (Free.back (by decide) e)), fun e => Free.fore (by decide) (ld4_6 (Free.back (by decide) e)), fun e => Free.fore (by decide) (ld4_7 (Free.back (by decide) e)), fun e => Free.fore (by decide) (ld4_8 (Free.back (by decide) e)), fun e => Free.fore (by decide) (ld4_9 (Free.back (by decide) e))⟩
      · have z1 := (hX.step hW).lo
        have z2 := (hX.step hW).hi
        refine Free.op rfl rfl (fun K hK => ?_)
        go_simp
        exact hK _ _ ((HI.out _ _ _).2 ⟨sa, sb, sc, rd, v22, _, v24, v25, v26, v21, v27, v28, v7, v8, rfl, hW, Free.of_set (by decide) l0, fun _ => rfl, Free.of_set (by decide) l2, Free.of_set (by decide) l3, Free.of_set (by decide) l4, Free.of_set (by decide) l5, Free.of_set (by decide) l6, Free.of_set (by decide) l7, Free.of_set (by decide) l8, Free.of_set (by decide) l9, Free.of_set (by decide) lq0, Free.of_set (by decide) lq2, Free.of_set (by decide) lq4, fun e => Free.fore (by decide) (ld0_4 (Free.back (by decide) e)), fun e => Free.fore (by decide) (ld0_5 (Free.back (by decide) e)), fun e => Free.fore (by decide) (ld0_6 (Free.back (by decide) e)), fun e => Free.fore (by decide) (ld0_7 (Free.back (by decide) e)), fun e => Free.fore (by decide) (ld0_8 (Free.back (by decide) e)), fun e => Free.fore (by decide) (ld0_9 (Free.back (by decide) e)), fun e => Free.fore (by decide) (ld2_4 (Free.back (by decide) e)), fun e => Free.fore (by decide) (ld2_5 (Free.back (by decide) e)), fun e => Free.fore (by decide) (ld2_6 (Free.back (by decide) e)), fun e => Free.fore (by decide) (ld2_7 (Free.back (by decide) e)), fun e => Free.fore (by decide) (ld2_8 (Free.back (by decide) e)), fun e => Free.fore (by decide) (ld2_9 (Free.back (by decide) e)), fun e => Free.fore (by decide) (ld4_5 (Free.back (by decide) e)), fun e => Free.fore (by decide) (ld4_6 (Free.back (by decide) e)), fun e => Free.fore (by decide) (ld4_7 (Free.back (by decide) e)), fun e => Free.fore (by decide) (ld4_8 (Free.back (by decide) e)), fun e => Free.fore (by decide) (ld4_9 (Free.back (by decide) e))⟩)
      · refine Free.op rfl rfl (fun K hK => ?_)
        obtain rfl := l1 (hne 1 (by kernel_rfl))
        go_simp
        exact hK _ _ ((HI.out _ _ _).2 ⟨sa, sb, _, rd, v22, _, _, v25, v26, v21, v27, v28, v7, v8, rfl, hW.alloc hW.size _, Free.of_set (by decide) l0, fun _ => rfl, fun _ => rfl, Free.of_set (by decide) l3, Free.never ld2_4 hnl (by decide), Free.never ld2_5 hnl (by decide), Free.never ld2_6 hnl (by decide), Free.never ld2_7 hnl (by decide), Free.never ld2_8 hnl (by decide), Free.never ld2_9 hnl (by decide), fun e => ⟨(lq0 (Free.back (by decide) e)).1.step ((Below.refl _ _).alloc (Nat.le_refl _) _), (lq0 (Free.back (by decide) e)).2.step ((Below.refl _ _).alloc (Nat.le_refl _) _)⟩, fun _ => lit_ls lo hi rfl (by decide), fun e => (lq4 (Free.back (by decide) e)).step ((Below.refl _ _).alloc (Nat.le_refl _) _), fun e => Free.fore (by decide) (ld0_4 (Free.back (by decide) e)), fun e => Free.fore (by decide) (ld0_5 (Free.back (by decide) e)), fun e => Free.fore (by decide) (ld0_6 (Free.back (by decide) e)), fun e => Free.fore (by decide) (ld0_7 (Free.back (by decide) e)), fun e => Free.fore (by decide) (ld0_8 (Free.back (by decide) e)), fun e => Free.fore (by decide) (ld0_9 (Free.back (by decide) e)), Free.never ld2_4 hnl (by decide), Free.never ld2_5 hnl (by decide), Free.never ld2_6 hnl (by decide), Free.never ld2_7 hnl (by decide), Free.never ld2_8 hnl (by decide), Free.never ld2_9 hnl (by decide), fun e => Free.fore (by decide) (ld4_5 (Free.back (by decide) e)), fun e => Free.fore (by decide) (ld4_6 (Free.back (by decide) e)), fun e => Free.fore (by decide) (ld4_7 (Free.back (by decide) e)), fun e => Free.fore (by decide) (ld4_8 (Free.back (by decide) e)), fun e => Free.fore (by decide) (ld4_9 (Free.back (by decide) e))⟩)
      · refine Free.op rfl rfl (fun K hK => ?_)
        go_simp
        exact hK _ _ ((HI.out _ _ _).2 ⟨sa, sb, sc, rd, v22, v23, v24, _, v26, v21, v27, v28, v7, v8, rfl, hW, Free.of_set (by decide) l0, Free.of_set (by decide) l1, Free.of_set (by decide) l2, fun _ => rfl, Free.of_set (by decide) l4, Free.of_set (by decide) l5, Free.of_set (by decide) l6, Free.of_set (by decide) l7, Free.of_set (by decide) l8, Free.of_set (by decide) l9, Free.of_set (by decide) lq0, Free.of_set (by decide) lq2, Free.of_set (by decide) lq4, fun e => Free.fore (by decide) (ld0_4 (Free.back (by decide) e)), fun e => Free.fore (by decide) (ld0_5 (Free.back (by decide) e)), fun e => Free.fore (by decide) (ld0_6 (Free.back (by decide) e)), fun e => Free.fore (by decide) (ld0_7 (Free.back (by decide) e)), fun e => Free.fore (by decide) (ld0_8 (Free.back (by decide) e)), fun e => Free.fore (by decide) (ld0_9 (Free.back (by decide) e)), fun e => Free.fore (by decide) (ld2_4 (Free.back (by decide) e)), fun e => Free.fore (by decide) (ld2_5 (Free.back (by decide) e)), fun e => Free.fore (by decide) (ld2_6 (Free.back (by decide) e)), fun e => Free.fore (by decide) (ld2_7 (Free.back (by decide) e)), fun e => Free.fore (by decide) (ld2_8 (Free.back (by decide) e)), fun e => Free.fore (by decide) (ld2_9 (Free.back (by decide) e)), fun e => Free.fore (by decide) (ld4_5 (Free.back (by decide) e)), fun e => Free.fore (by decide) (ld4_6 (Free.back (by decide) e)), fun e => Free.fore (by decide) (ld4_7 (Free.back (by decide) e)), fun e => Free.fore (by decide) (ld4_8 (Free.back (by decide) e)), fun e => Free.fore (by decide) (ld4_9 (Free.back (by decide) e))⟩)
      · have q0 := lq0 (hne 0 (by kernel_rfl))
        have q2 := lq2 (hne 2 (by kernel_rfl))
        refine Free.op rfl rfl (fun K hK => ?_)
        obtain rfl := l0 (hne 0 (by kernel_rfl))
        obtain rfl := (l2 (hne 2 (by kernel_rfl))).symm
        obtain rfl := l3 (hne 3 (by kernel_rfl))
        go_wp2_with (go_at_call 17; refine (HGR _ _ _ _ q0.1 q0.2 q2).out.mono ?_; rintro e W3 ⟨r8, rfl, g1, hb⟩)
        exact (HI.out _ _ _).2 ⟨sa, sb, sc, _, _, v23, sc, _, _, v21, v27, v28, v7, v8, rfl, hW.trans (hb.mono hW.size), fun _ => rfl, Free.of_set (by decide) l1, fun _ => rfl, fun _ => rfl, fun _ => rfl, Free.never ld4_5 hnl (by decide), Free.never ld4_6 hnl (by decide), Free.never ld4_7 hnl (by decide), Free.never ld4_8 hnl (by decide), Free.never ld4_9 hnl (by decide), fun e => ⟨(lq0 (Free.back (by decide) e)).1.step hb, (lq0 (Free.back (by decide) e)).2.step hb⟩, fun e => (lq2 (Free.back (by decide) e)).step hb, fun _ => g1, fun _ => Free.fore (by decide) (hne 0 (by kernel_rfl)), fun e => Free.fore (by decide) (ld0_5 (Free.back (by decide) e)), fun e => Free.fore (by decide) (ld0_6 (Free.back (by decide) e)), fun e => Free.fore (by decide) (ld0_7 (Free.back (by decide) e)), fun e => Free.fore (by decide) (ld0_8 (Free.back (by decide) e)), fun e => Free.fore (by decide) (ld0_9 (Free.back (by decide) e)), fun _ => Free.fore (by decide) (hne 2 (by kernel_rfl)), fun e => Free.fore (by decide) (ld2_5 (Free.back (by decide) e)), fun e => Free.fore (by decide) (ld2_6 (Free.back (by decide) e)), fun e => Free.fore (by decide) (ld2_7 (Free.back (by decide) e)), fun e => Free.fore (by decide) (ld2_8 (Free.back (by decide) e)), fun e => Free.fore (by decide) (ld2_9 (Free.back (by decide) e)), Free.never ld4_5 hnl (by decide), Free.never ld4_6 hnl (by decide), Free.never ld4_7 hnl (by decide), Free.never ld4_8 hnl (by decide), Free.never ld4_9 hnl (by decide)⟩
      · refine Free.op rfl rfl (fun K hK => ?_)
        obtain rfl := l4 (hne 4 (by kernel_rfl))
        go_simp
        exact hK _ _ ((HI.out _ _ _).2 ⟨sa, sb, sc, rd, v22, v23, v24, v25, _, _, v27, v28, v7, v8, rfl, hW, Free.of_set (by decide) l0, Free.of_set (by decide) l1, Free.of_set (by decide) l2, Free.of_set (by decide) l3, fun _ => rfl, fun _ => rfl, Free.of_set (by decide) l6, Free.of_set (by decide) l7, Free.of_set (by decide) l8, Free.of_set (by decide) l9, Free.of_set (by decide) lq0, Free.of_set (by decide) lq2, Free.of_set (by decide) lq4, fun e => Free.fore (by decide) (ld0_4 (Free.back (by decide) e)), fun _ => Free.fore (by decide) (ld0_4 (hne 4 (by kernel_rfl))), fun e => Free.fore (by decide) (ld0_6 (Free.back (by decide) e)), fun e => Free.fore (by decide) (ld0_7 (Free.back (by decide) e)), fun e => Free.fore (by decide) (ld0_8 (Free.back (by decide) e)), fun e => Free.fore (by decide) (ld0_9 (Free.back (by decide) e)), fun e => Free.fore (by decide) (ld2_4 (Free.back (by decide) e)), fun _ => Free.fore (by decide) (ld2_4 (hne 4 (by kernel_rfl))), fun e => Free.fore (by decide) (ld2_6 (Free.back (by decide) e)), fun e => Free.fore (by decide) (ld2_7 (Free.back (by decide) e)), fun e => Free.fore (by decide) (ld2_8 (Free.back (by decide) e)), fun e => Free.fore (by decide) (ld2_9 (Free.back (by decide) e)), fun _ => Free.fore (by decide) (hne 4 (by kernel_rfl)), fun e => Free.fore (by decide) (ld4_6 (Free.back (by decide) e)), fun e => Free.fore (by decide) (ld4_7 (Free.back (by decide) e)), fun e => Free.fore (by decide) (ld4_8 (Free.back (by decide) e)), fun e => Free.fore (by decide) (ld4_9 (Free.back (by decide) e))⟩)
      · refine Free.op rfl rfl (fun K hK => ?_)
        obtain rfl := l5 (hne 5 (by kernel_rfl))
        go_simp
        exact hK _ _ ((HI.out _ _ _).2 ⟨sa, sb, sc, rd, v22, v23, v24, v25, v26, _, _, v28, v7, v8, rfl, hW, Free.of_set (by decide) l0, Free.of_set (by decide) l1, Free.of_set (by decide) l2, Free.of_set (by decide) l3, Free.of_set (by decide) l4, fun _ => rfl, fun _ => rfl, Free.of_set (by decide) l7, Free.of_set (by decide) l8, Free.of_set (by decide) l9, Free.of_set (by decide) lq0, Free.of_set (by decide) lq2, Free.of_set (by decide) lq4, fun e => Free.fore (by decide) (ld0_4 (Free.back (by decide) e)), fun e => Free.fore (by decide) (ld0_5 (Free.back (by decide) e)), fun _ => Free.fore (by decide) (ld0_5 (hne 5 (by kernel_rfl))), fun e => Free.fore (by decide) (ld0_7 (Free.back (by decide) e)), fun e => Free.fore (by decide) (ld0_8 (Free.back (by decide) e)), fun e => Free.fore (by decide) (ld0_9 (Free.back (by decide) e)), fun e => Free.fore (by decide) (ld2_4 (Free.back (by decide) e)), fun e => Free.fore (by decide) (ld2_5 (Free.back (by decide) e)), fun _ => Free.fore (by decide) (ld2_5 (hne 5 (by kernel_rfl))), fun e => Free.fore (by decide) (ld2_7 (Free.back (by decide) e)), fun e => Free.fore (by decide) (ld2_8 (Free.back (by decide) e)), fun e => Free.fore (by decide) (ld2_9 (Free.back (by decide) e)), fun e => Free.fore (by decide) (ld4_5 (Free.back (by decide) e)), fun _ => Free.fore (by decide) (ld4_5 (hne 5 (by kernel_rfl))), fun e => Free.fore (by decide) (ld4_7 (Free.back (by decide) e)), fun e => Free.fore (by decide) (ld4_8 (Free.back (by decide) e)), fun e => Free.fore (by decide) (ld4_9 (Free.back (by decide) e))⟩)
      · refine Free.op rfl rfl (fun K hK => ?_)
        obtain rfl := l5 (hne 5 (by kernel_rfl))
        go_simp
        exact hK _ _ ((HI.out _ _ _).2 ⟨sa, sb, sc, rd, v22, v23, v24, v25, v26, _, v27, _, v7, v8, rfl, hW, Free.of_set (by decide) l0, Free.of_set (by decide) l1, Free.of_set (by decide) l2, Free.of_set (by decide) l3, Free.of_set (by decide) l4, fun _ => rfl, Free.of_set (by decide) l6, fun _ => rfl, Free.of_set (by decide) l8, Free.of_set (by decide) l9, Free.of_set (by decide) lq0, Free.of_set (by decide) lq2, Free.of_set (by decide) lq4, fun e => Free.fore (by decide) (ld0_4 (Free.back (by decide) e)), fun e => Free.fore (by decide) (ld0_5 (Free.back (by decide) e)), fun e => Free.fore (by decide) (ld0_6 (Free.back (by decide) e)), fun _ => Free.fore (by decide) (ld0_5 (hne 5 (by kernel_rfl))), fun e => Free.fore (by decide) (ld0_8 (Free.back (by decide) e)), fun e => Free.fore (by decide) (ld0_9 (Free.back (by decide) e)), fun e => Free.fore (by decide) (ld2_4 (Free.back (by decide) e)), fun e => Free.fore (by decide) (ld2_5 (Free.back (by decide) e)), fun e => Free.fore (by decide) (ld2_6 (Free.back (by decide) e)), fun _ => Free.fore (by decide) (ld2_5 (hne 5 (by kernel_rfl))), fun e => Free.fore (by decide) (ld2_8 (Free.back (by decide) e)), fun e => Free.fore (by decide) (ld2_9 (Free.back (by decide) e)), fun e => Free.fore (by decide) (ld4_5 (Free.back (by decide) e)), fun e => Free.fore (by decide) (ld4_6 (Free.back (by decide) e)), fun _ => Free.fore (by decide) (ld4_5 (hne 5 (by kernel_rfl))), fun e => Free.fore (by decide) (ld4_8 (Free.back (by decide) e)), fun e => Free.fore (by decide) (ld4_9 (Free.back (by decide) e))⟩)
      · refine Free.op rfl rfl (fun K hK => ?_)
        obtain rfl := (l6 (hne 6 (by kernel_rfl))).symm
        go_simp
        exact hK _ _ ((HI.out _ _ _).2 ⟨sa, sb, sc, rd, v22, v23, v24, v25, v26, v21, rd, v28, _, v8, rfl, hW, Free.of_set (by decide) l0, Free.of_set (by decide) l1, Free.of_set (by decide) l2, Free.of_set (by decide) l3, Free.of_set (by decide) l4, Free.of_set (by decide) l5, fun _ => rfl, Free.of_set (by decide) l7, fun _ => rfl, Free.of_set (by decide) l9, Free.of_set (by decide) lq0, Free.of_set (by decide) lq2, Free.of_set (by decide) lq4, fun e => Free.fore (by decide) (ld0_4 (Free.back (by decide) e)), fun e => Free.fore (by decide) (ld0_5 (Free.back (by decide) e)), fun e => Free.fore (by decide) (ld0_6 (Free.back (by decide) e)), fun e => Free.fore (by decide) (ld0_7 (Free.back (by decide) e)), fun _ => Free.fore (by decide) (ld0_6 (hne 6 (by kernel_rfl))), fun e => Free.fore (by decide) (ld0_9 (Free.back (by decide) e)), fun e => Free.fore (by decide) (ld2_4 (Free.back (by decide) e)), fun e => Free.fore (by decide) (ld2_5 (Free.back (by decide) e)), fun e => Free.fore (by decide) (ld2_6 (Free.back (by decide) e)), fun e => Free.fore (by decide) (ld2_7 (Free.back (by decide) e)), fun _ => Free.fore (by decide) (ld2_6 (hne 6 (by kernel_rfl))), fun e => Free.fore (by decide) (ld2_9 (Free.back (by decide) e)), fun e => Free.fore (by decide) (ld4_5 (Free.back (by decide) e)), fun e => Free.fore (by decide) (ld4_6 (Free.back (by decide) e)), fun e => Free.fore (by decide) (ld4_7 (Free.back (by decide) e)), fun _ => Free.fore (by decide) (ld4_6 (hne 6 (by kernel_rfl))), fun e => Free.fore (by decide) (ld4_9 (Free.back (by decide) e))⟩)
      · refine Free.op rfl rfl (fun K hK => ?_)
        obtain rfl := l7 (hne 7 (by kernel_rfl))
        go_simp
        exact hK _ _ ((HI.out _ _ _).2 ⟨sa, sb, sc, rd, v22, v23, v24, v25, v26, v21, v27, _, v7, _, rfl, hW, Free.of_set (by decide) l0, Free.of_set (by decide) l1, Free.of_set (by decide) l2, Free.of_set (by decide) l3, Free.of_set (by decide) l4, Free.of_set (by decide) l5, Free.of_set (by decide) l6, fun _ => rfl, Free.of_set (by decide) l8, fun _ => rfl, Free.of_set (by decide) lq0, Free.of_set (by decide) lq2, Free.of_set (by decide) lq4, fun e => Free.fore (by decide) (ld0_4 (Free.back (by decide) e)), fun e => Free.fore (by decide) (ld0_5 (Free.back (by decide) e)), fun e => Free.fore (by decide) (ld0_6 (Free.back (by decide) e)), fun e => Free.fore (by decide) (ld0_7 (Free.back (by decide) e)), fun e => Free.fore (by decide) (ld0_8 (Free.back (by decide) e)), fun _ => Free.fore (by decide) (ld0_7 (hne 7 (by kernel_rfl))), fun e => Free.fore (by decide) (ld2_4 (Free.back (by decide) e)), fun e => Free.fore (by decide) (ld2_5 (Free.back (by decide) e)), fun e => Free.fore (by decide) (ld2_6 (Free.back (by decide) e)), fun e => Free.fore (by decide) (ld2_7 (Free.back (by decide) e)), fun e => Free.fore (by decide) (ld2_8 (Free.back (by decide) e)), fun _ => Free.fore (by decide) (ld2_7 (hne 7 (by kernel_rfl))), fun e => Free.fore (by decide) (ld4_5 (Free.back (by decide) e)), fun e => Free.fore (by decide) (ld4_6 (Free.back (by decide) e)), fun e => Free.fore (by decide) (ld4_7 (Free.back (by decide) e)), fun e => Free.fore (by decide) (ld4_8 (Free.back (by decide) e)), fun _ => Free.fore (by decide) (ld4_7 (hne 7 (by kernel_rfl)))⟩)
    case s3 =>
      intro listed aq W1 hall hsz hv
      obtain ⟨sa, sb, sc, rd, v22, v23, v24, v25, v26, v21, v27, v28, v7, v8, rfl, hW, l0, l1, l2, l3, l4, l5, l6, l7, l8, l9, lq0, lq2, lq4, ld0_4, ld0_5, ld0_6, ld0_7, ld0_8, ld0_9, ld2_4, ld2_5, ld2_6, ld2_7, ld2_8, ld2_9, ld4_5, ld4_6, ld4_7, ld4_8, ld4_9⟩ := (HI.out _ _ _).1 hv
      clear hv HI
      have q0 := lq0 (Free.listed_of hall hsz 0 (by decide))
      have q2 := lq2 (Free.listed_of hall hsz 2 (by decide))
      have q4 := lq4 (Free.listed_of hall hsz 4 (by decide))
      obtain rfl := l0 (Free.listed_of hall hsz 0 (by decide))
      obtain rfl := l1 (Free.listed_of hall hsz 1 (by decide))
      obtain rfl := (l2 (Free.listed_of hall hsz 2 (by decide))).symm
      obtain rfl := l3 (Free.listed_of hall hsz 3 (by decide))
      obtain rfl := l4 (Free.listed_of hall hsz 4 (by decide))
      obtain rfl := l5 (Free.listed_of hall hsz 5 (by decide))
      obtain rfl := (l6 (Free.listed_of hall hsz 6 (by decide))).symm
      obtain rfl := l7 (Free.listed_of hall hsz 7 (by decide))
      obtain rfl := (l8 (Free.listed_of hall hsz 8 (by decide))).symm
      obtain rfl := l9 (Free.listed_of hall hsz 9 (by decide))
      clear hall hsz lq0 lq2 lq4 ld0_4 ld0_5 ld0_6 ld0_7 ld0_8 ld0_9 ld2_4 ld2_5 ld2_6 ld2_7 ld2_8 ld2_9 ld4_5 ld4_6 ld4_7 ld4_8 ld4_9
      replace hF := hF.step hW
      clear hW hX q0 q2
      obtain rfl := HBB.out
      rw [HG1.out] at q4
      obtain ⟨b5, o5, c5, rfl, -, A5⟩ := q4.open (by simp)
      have z1 := A5.lo 0 rfl (o := o5) rfl
      have z2 := A5.hi 0 rfl (o := o5 + 1) rfl
      have x0l := (hF.at 0 rfl).lo
      have x0h := (hF.at 0 rfl).hi
      clear A5 q4
      go_wp2
      go_quiet (fail)
      go_wp2
      go_returns
      exact ⟨by simp, below_drewN hF.below _⟩


theorem walk (lo hi y : Int) (w : World) :
    Calls Try.prog 6 #[.agg #[.int .i64 lo, .int .i64 hi], .int .i64 y] w fun e w' => e = .returned (.bool true) ∧ Below w.heap.size w w' := by
  by_cases h : Um.chk lo hi = 0
  · by_cases hy : 0 ≤ y ∧ y ≤ 1000000000
    · exact walk_in lo hi y w h hy
    · exact walk_out lo hi y w h hy
  · exact walk_wrong lo hi y w h
end Go.Proofs.Ytkeoafbkbblnaaa.HlNone
