/-
  What package box answers: Has, Within at every argument.
-/
import Derived.Test.YthgehlonjoafmaaGreatDoorBoxC
import Derived.Test.YthgehlonjoafmaaGreatDoorMems
namespace Go.Proofs.YthgehlonjoafmaaGreatDoor
set_option linter.unusedSimpArgs false
open Go.RowKit

set_option maxRecDepth 100000 in
set_option maxHeartbeats 8000000 in
theorem withinOne_yes (k n cap n2 cap2 B1 B2 b off b2 off2 : Nat) (lo hi x y : Int) (w : World) (h1 : B1 < w.heap.size) (h2 : b < w.heap.size) (h3 : B2 < w.heap.size) (h4 : b2 < w.heap.size) (hk : k < n) (hk2 : k < n2)
    (c1 : w.cell? ⟨B1, 0, none⟩ = some (.slice (some ⟨b, off, none⟩) n cap)) (c2 : w.cell? ⟨b, off + k * 2, none⟩ = some (.int .i64 lo)) (c3 : w.cell? ⟨b, off + k * 2 + 1, none⟩ = some (.int .i64 hi))
    (c4 : w.cell? ⟨B2, 0, none⟩ = some (.slice (some ⟨b2, off2, none⟩) n2 cap2)) (c5 : w.cell? ⟨b2, off2 + k * 2, none⟩ = some (.int .i64 x)) (c6 : w.cell? ⟨b2, off2 + k * 2 + 1, none⟩ = some (.int .i64 y)) (hd : (decide (lo ≤ x) && decide (x ≤ hi)) = true) :
    Calls Tryz.prog 32 #[.int .i64 (k : Int), .pointer (some ⟨B1, 0, none⟩), .pointer (some ⟨B2, 0, none⟩)] w fun e w' => e = .returned (.bool (decide (lo ≤ y) && decide (y ≤ hi))) ∧ Below w.heap.size w w' := by
  have hmx : Tryz.prog.follows .mixedOrders = true := by kernel_rfl
  have t1 : (k : Int) < (n : Int) := by omega
  have t2 : (k : Int) < (n2 : Int) := by omega
  have HH := fun w => by
    have := has_any lo hi x w
    rw [hd] at this
    exact hid this
  have H2 := fun w => hid (has_any lo hi y w)
  clear hd
  go_enter Tryz.func32, Tryz.ntmps32
  go_wp2
  obtain ⟨Inv, hInv⟩ : ∃ Inv : Array Bool → Act → World → Prop, ∀ listed aq W', Inv listed aq W' ↔ (∃ v5 v6 v7 v8 v9 v10 v11 v12 v13 v14 v15 v16 v17 v18 v19 v20 v21 v22 v23 v24 v25 v26 v4 : Value, aq = { tmps := #[Value.int IntKind.i64 ↑k, Value.pointer (some { block := B1, off := 0 }), Value.pointer (some { block := B2, off := 0 }), undef, v4, v5, v6, v7, v8, v9, v10, v11, v12, v13, v14, v15, v16, v17, v18, v19, v20, v21, v22, v23, v24, v25, v26], defers := [] } ∧ Below (w).heap.size (w) W' ∧ (listed.getD 0 false = true → v5 = .slice (some ⟨b, off, none⟩) n cap) ∧ (listed.getD 1 false = true → v6 = Value.int IntKind.i64 ↑k) ∧ (listed.getD 2 false = true → v7 = .pointer (some ⟨b, off + k * 2, none⟩)) ∧ (listed.getD 3 false = true → v8 = .agg #[.int .i64 lo, .int .i64 hi]) ∧ (listed.getD 4 false = true → v9 = .slice (some ⟨b2, off2, none⟩) n2 cap2) ∧ (listed.getD 5 false = true → v10 = Value.int IntKind.i64 ↑k) ∧ (listed.getD 6 false = true → v11 = .pointer (some ⟨b2, off2 + k * 2, none⟩)) ∧ (listed.getD 7 false = true → v12 = .pointer (some ⟨b2, off2 + k * 2, none⟩)) ∧ (listed.getD 8 false = true → v13 = .int .i64 x) ∧ (listed.getD 9 false = true → v14 = .bool true) ∧ (listed.getD 10 false = true → v15 = .bool true) ∧ (listed.getD 11 false = true → v16 = .slice (some ⟨b, off, none⟩) n cap) ∧ (listed.getD 12 false = true → v17 = Value.int IntKind.i64 ↑k) ∧ (listed.getD 13 false = true → v18 = .pointer (some ⟨b, off + k * 2, none⟩)) ∧ (listed.getD 14 false = true → v19 = .agg #[.int .i64 lo, .int .i64 hi]) ∧ (listed.getD 15 false = true → v20 = .slice (some ⟨b2, off2, none⟩) n2 cap2) ∧ (listed.getD 16 false = true → v21 = Value.int IntKind.i64 ↑k) ∧ (listed.getD 17 false = true → v22 = .pointer (some ⟨b2, off2 + k * 2, none⟩)) ∧ (listed.getD 18 false = true → v23 = .pointer (some ⟨b2, off2 + k * 2 + 1, none⟩)) ∧ (listed.getD 19 false = true → v24 = .int .i64 y) ∧ (listed.getD 20 false = true → v25 = .bool (decide (lo ≤ y) && decide (y ≤ hi))) ∧ (listed.getD 21 false = true → v26 = .bool (decide (lo ≤ y) && decide (y ≤ hi))) ∧ (listed.getD 22 false = true → v4 = .bool (decide (lo ≤ y) && decide (y ≤ hi)))) := ⟨_, fun _ _ _ => Iff.rfl⟩
  have HI := hid hInv
  clear hInv
  refine Free.region hmx (by kernel_rfl) Inv ?s1 ?s2 ?s3
  case s1 =>
    exact (HI.out _ _ _).2 ⟨undef, undef, undef, undef, undef, undef, undef, undef, undef, undef, undef, undef, undef, undef, undef, undef, undef, undef, undef, undef, undef, undef, Value.bool false, rfl, (Below.refl _ _).drew, Free.not_yet, Free.not_yet, Free.not_yet, Free.not_yet, Free.not_yet, Free.not_yet, Free.not_yet, Free.not_yet, Free.not_yet, Free.not_yet, Free.not_yet, Free.not_yet, Free.not_yet, Free.not_yet, Free.not_yet, Free.not_yet, Free.not_yet, Free.not_yet, Free.not_yet, Free.not_yet, Free.not_yet, Free.not_yet, Free.not_yet⟩
  case s2 =>
    intro i listed aq W1 hix hne hnl hsz hv
    obtain ⟨v5, v6, v7, v8, v9, v10, v11, v12, v13, v14, v15, v16, v17, v18, v19, v20, v21, v22, v23, v24, v25, v26, v4, rfl, hW, l0, l1, l2, l3, l4, l5, l6, l7, l8, l9, l10, l11, l12, l13, l14, l15, l16, l17, l18, l19, l20, l21, l22⟩ := (HI.out _ _ _).1 hv
    clear hv
    replace hix : i < 23 := hix
    replace hsz : listed.size = 23 := hsz
    rcases (by omega : i = 0 ∨ i = 1 ∨ i = 2 ∨ i = 3 ∨ i = 4 ∨ i = 5 ∨ i = 6 ∨ i = 7 ∨ i = 8 ∨ i = 9 ∨ i = 10 ∨ i = 11 ∨ i = 12 ∨ i = 13 ∨ i = 14 ∨ i = 15 ∨ i = 16 ∨ i = 17 ∨ i = 18 ∨ i = 19 ∨ i = 20 ∨ i = 21 ∨ i = 22) with rfl | rfl | rfl | rfl | rfl | rfl | rfl | rfl | rfl | rfl | rfl | rfl | rfl | rfl | rfl | rfl | rfl | rfl | rfl | rfl | rfl | rfl | rfl
    · have z := (hW.cell (p := ⟨B1, 0, none⟩) h1).trans c1
      refine Free.op rfl rfl (fun K hK => ?_)
      go_simp
      exact hK _ _ ((HI.out _ _ _).2 ⟨_, v6, v7, v8, v9, v10, v11, v12, v13, v14, v15, v16, v17, v18, v19, v20, v21, v22, v23, v24, v25, v26, v4, rfl, hW, fun _ => rfl, Free.of_set (by decide) l1, Free.of_set (by decide) l2, Free.of_set (by decide) l3, Free.of_set (by decide) l4, Free.of_set (by decide) l5, Free.of_set (by decide) l6, Free.of_set (by decide) l7, Free.of_set (by decide) l8, Free.of_set (by decide) l9, Free.of_set (by decide) l10, Free.of_set (by decide) l11, Free.of_set (by decide) l12, Free.of_set (by decide) l13, Free.of_set (by decide) l14, Free.of_set (by decide) l15, Free.of_set (by decide) l16, Free.of_set (by decide) l17, Free.of_set (by decide) l18, Free.of_set (by decide) l19, Free.of_set (by decide) l20, Free.of_set (by decide) l21, Free.of_set (by decide) l22⟩)
    · refine Free.op rfl rfl (fun K hK => ?_)
      go_simp
      exact hK _ _ ((HI.out _ _ _).2 ⟨v5, _, v7, v8, v9, v10, v11, v12, v13, v14, v15, v16, v17, v18, v19, v20, v21, v22, v23, v24, v25, v26, v4, rfl, hW, Free.of_set (by decide) l0, fun _ => rfl, Free.of_set (by decide) l2, Free.of_set (by decide) l3, Free.of_set (by decide) l4, Free.of_set (by decide) l5, Free.of_set (by decide) l6, Free.of_set (by decide) l7, Free.of_set (by decide) l8, Free.of_set (by decide) l9, Free.of_set (by decide) l10, Free.of_set (by decide) l11, Free.of_set (by decide) l12, Free.of_set (by decide) l13, Free.of_set (by decide) l14, Free.of_set (by decide) l15, Free.of_set (by decide) l16, Free.of_set (by decide) l17, Free.of_set (by decide) l18, Free.of_set (by decide) l19, Free.of_set (by decide) l20, Free.of_set (by decide) l21, Free.of_set (by decide) l22⟩)
    · refine Free.op rfl rfl (fun K hK => ?_)
      obtain rfl := l0 (hne 0 (by kernel_rfl))
      obtain rfl := l1 (hne 1 (by kernel_rfl))
      go_simp
      exact hK _ _ ((HI.out _ _ _).2 ⟨_, _, _, v8, v9, v10, v11, v12, v13, v14, v15, v16, v17, v18, v19, v20, v21, v22, v23, v24, v25, v26, v4, rfl, hW, fun _ => rfl, fun _ => rfl, fun _ => rfl, Free.of_set (by decide) l3, Free.of_set (by decide) l4, Free.of_set (by decide) l5, Free.of_set (by decide) l6, Free.of_set (by decide) l7, Free.of_set (by decide) l8, Free.of_set (by decide) l9, Free.of_set (by decide) l10, Free.of_set (by decide) l11, Free.of_set (by decide) l12, Free.of_set (by decide) l13, Free.of_set (by decide) l14, Free.of_set (by decide) l15, Free.of_set (by decide) l16, Free.of_set (by decide) l17, Free.of_set (by decide) l18, Free.of_set (by decide) l19, Free.of_set (by decide) l20, Free.of_set (by decide) l21, Free.of_set (by decide) l22⟩)
    · have z := (hW.cell (p := ⟨b, off + k * 2, none⟩) h2).trans c2
      have z2 := (hW.cell (p := ⟨b, off + k * 2 + 1, none⟩) h2).trans c3
      refine Free.op rfl rfl (fun K hK => ?_)
      obtain rfl := l2 (hne 2 (by kernel_rfl))
      go_simp
      exact hK _ _ ((HI.out _ _ _).2 ⟨v5, v6, _, _, v9, v10, v11, v12, v13, v14, v15, v16, v17, v18, v19, v20, v21, v22, v23, v24, v25, v26, v4, rfl, hW, Free.of_set (by decide) l0, Free.of_set (by decide) l1, fun _ => rfl, fun _ => rfl, Free.of_set (by decide) l4, Free.of_set (by decide) l5, Free.of_set (by decide) l6, Free.of_set (by decide) l7, Free.of_set (by decide) l8, Free.of_set (by decide) l9, Free.of_set (by decide) l10, Free.of_set (by decide) l11, Free.of_set (by decide) l12, Free.of_set (by decide) l13, Free.of_set (by decide) l14, Free.of_set (by decide) l15, Free.of_set (by decide) l16, Free.of_set (by decide) l17, Free.of_set (by decide) l18, Free.of_set (by decide) l19, Free.of_set (by decide) l20, Free.of_set (by decide) l21, Free.of_set (by decide) l22⟩)
    · have z := (hW.cell (p := ⟨B2, 0, none⟩) h3).trans c4
      refine Free.op rfl rfl (fun K hK => ?_)
      go_simp
      exact hK _ _ ((HI.out _ _ _).2 ⟨v5, v6, v7, v8, _, v10, v11, v12, v13, v14, v15, v16, v17, v18, v19, v20, v21, v22, v23, v24, v25, v26, v4, rfl, hW, Free.of_set (by decide) l0, Free.of_set (by decide) l1, Free.of_set (by decide) l2, Free.of_set (by decide) l3, fun _ => rfl, Free.of_set (by decide) l5, Free.of_set (by decide) l6, Free.of_set (by decide) l7, Free.of_set (by decide) l8, Free.of_set (by decide) l9, Free.of_set (by decide) l10, Free.of_set (by decide) l11, Free.of_set (by decide) l12, Free.of_set (by decide) l13, Free.of_set (by decide) l14, Free.of_set (by decide) l15, Free.of_set (by decide) l16, Free.of_set (by decide) l17, Free.of_set (by decide) l18, Free.of_set (by decide) l19, Free.of_set (by decide) l20, Free.of_set (by decide) l21, Free.of_set (by decide) l22⟩)
    · refine Free.op rfl rfl (fun K hK => ?_)
      go_simp
      exact hK _ _ ((HI.out _ _ _).2 ⟨v5, v6, v7, v8, v9, _, v11, v12, v13, v14, v15, v16, v17, v18, v19, v20, v21, v22, v23, v24, v25, v26, v4, rfl, hW, Free.of_set (by decide) l0, Free.of_set (by decide) l1, Free.of_set (by decide) l2, Free.of_set (by decide) l3, Free.of_set (by decide) l4, fun _ => rfl, Free.of_set (by decide) l6, Free.of_set (by decide) l7, Free.of_set (by decide) l8, Free.of_set (by decide) l9, Free.of_set (by decide) l10, Free.of_set (by decide) l11, Free.of_set (by decide) l12, Free.of_set (by decide) l13, Free.of_set (by decide) l14, Free.of_set (by decide) l15, Free.of_set (by decide) l16, Free.of_set (by decide) l17, Free.of_set (by decide) l18, Free.of_set (by decide) l19, Free.of_set (by decide) l20, Free.of_set (by decide) l21, Free.of_set (by decide) l22⟩)
    · refine Free.op rfl rfl (fun K hK => ?_)
      obtain rfl := l4 (hne 4 (by kernel_rfl))
      obtain rfl := l5 (hne 5 (by kernel_rfl))
      go_simp
      exact hK _ _ ((HI.out _ _ _).2 ⟨v5, v6, v7, v8, _, _, _, v12, v13, v14, v15, v16, v17, v18, v19, v20, v21, v22, v23, v24, v25, v26, v4, rfl, hW, Free.of_set (by decide) l0, Free.of_set (by decide) l1, Free.of_set (by decide) l2, Free.of_set (by decide) l3, fun _ => rfl, fun _ => rfl, fun _ => rfl, Free.of_set (by decide) l7, Free.of_set (by decide) l8, Free.of_set (by decide) l9, Free.of_set (by decide) l10, Free.of_set (by decide) l11, Free.of_set (by decide) l12, Free.of_set (by decide) l13, Free.of_set (by decide) l14, Free.of_set (by decide) l15, Free.of_set (by decide) l16, Free.of_set (by decide) l17, Free.of_set (by decide) l18, Free.of_set (by decide) l19, Free.of_set (by decide) l20, Free.of_set (by decide) l21, Free.of_set (by decide) l22⟩)
    · refine Free.op rfl rfl (fun K hK => ?_)
      obtain rfl := l6 (hne 6 (by kernel_rfl))
      go_simp
      exact hK _ _ ((HI.out _ _ _).2 ⟨v5, v6, v7, v8, v9, v10, _, _, v13, v14, v15, v16, v17, v18, v19, v20, v21, v22, v23, v24, v25, v26, v4, rfl, hW, Free.of_set (by decide) l0, Free.of_set (by decide) l1, Free.of_set (by decide) l2, Free.of_set (by decide) l3, Free.of_set (by decide) l4, Free.of_set (by decide) l5, fun _ => rfl, fun _ => rfl, Free.of_set (by decide) l8, Free.of_set (by decide) l9, Free.of_set (by decide) l10, Free.of_set (by decide) l11, Free.of_set (by decide) l12, Free.of_set (by decide) l13, Free.of_set (by decide) l14, Free.of_set (by decide) l15, Free.of_set (by decide) l16, Free.of_set (by decide) l17, Free.of_set (by decide) l18, Free.of_set (by decide) l19, Free.of_set (by decide) l20, Free.of_set (by decide) l21, Free.of_set (by decide) l22⟩)
    · have z := (hW.cell (p := ⟨b2, off2 + k * 2, none⟩) h4).trans c5
      refine Free.op rfl rfl (fun K hK => ?_)
      obtain rfl := l7 (hne 7 (by kernel_rfl))
      go_simp
      exact hK _ _ ((HI.out _ _ _).2 ⟨v5, v6, v7, v8, v9, v10, v11, _, _, v14, v15, v16, v17, v18, v19, v20, v21, v22, v23, v24, v25, v26, v4, rfl, hW, Free.of_set (by decide) l0, Free.of_set (by decide) l1, Free.of_set (by decide) l2, Free.of_set (by decide) l3, Free.of_set (by decide) l4, Free.of_set (by decide) l5, Free.of_set (by decide) l6, fun _ => rfl, fun _ => rfl, Free.of_set (by decide) l9, Free.of_set (by decide) l10, Free.of_set (by decide) l11, Free.of_set (by decide) l12, Free.of_set (by decide) l13, Free.of_set (by decide) l14, Free.of_set (by decide) l15, Free.of_set (by decide) l16, Free.of_set (by decide) l17, Free.of_set (by decide) l18, Free.of_set (by decide) l19, Free.of_set (by decide) l20, Free.of_set (by decide) l21, Free.of_set (by decide) l22⟩)
    · refine Free.op rfl rfl (fun K hK => ?_)
      obtain rfl := l3 (hne 3 (by kernel_rfl))
      obtain rfl := l8 (hne 8 (by kernel_rfl))
      go_wp2_with (go_at_call 33; refine (HH _).out.mono ?_; rintro e W3 ⟨rfl, rfl⟩)
      exact (HI.out _ _ _).2 ⟨v5, v6, v7, _, v9, v10, v11, v12, _, _, v15, v16, v17, v18, v19, v20, v21, v22, v23, v24, v25, v26, v4, rfl, hW.alloc hW.size _, Free.of_set (by decide) l0, Free.of_set (by decide) l1, Free.of_set (by decide) l2, fun _ => rfl, Free.of_set (by decide) l4, Free.of_set (by decide) l5, Free.of_set (by decide) l6, Free.of_set (by decide) l7, fun _ => rfl, fun _ => rfl, Free.of_set (by decide) l10, Free.of_set (by decide) l11, Free.of_set (by decide) l12, Free.of_set (by decide) l13, Free.of_set (by decide) l14, Free.of_set (by decide) l15, Free.of_set (by decide) l16, Free.of_set (by decide) l17, Free.of_set (by decide) l18, Free.of_set (by decide) l19, Free.of_set (by decide) l20, Free.of_set (by decide) l21, Free.of_set (by decide) l22⟩
    · refine Free.op rfl rfl (fun K hK => ?_)
      obtain rfl := l9 (hne 9 (by kernel_rfl))
      go_simp
      exact hK _ _ ((HI.out _ _ _).2 ⟨v5, v6, v7, v8, v9, v10, v11, v12, v13, _, _, v16, v17, v18, v19, v20, v21, v22, v23, v24, v25, v26, v4, rfl, hW, Free.of_set (by decide) l0, Free.of_set (by decide) l1, Free.of_set (by decide) l2, Free.of_set (by decide) l3, Free.of_set (by decide) l4, Free.of_set (by decide) l5, Free.of_set (by decide) l6, Free.of_set (by decide) l7, Free.of_set (by decide) l8, fun _ => rfl, fun _ => rfl, Free.of_set (by decide) l11, Free.of_set (by decide) l12, Free.of_set (by decide) l13, Free.of_set (by decide) l14, Free.of_set (by decide) l15, Free.of_set (by decide) l16, Free.of_set (by decide) l17, Free.of_set (by decide) l18, Free.of_set (by decide) l19, Free.of_set (by decide) l20, Free.of_set (by decide) l21, Free.of_set (by decide) l22⟩)
    · have z := (hW.cell (p := ⟨B1, 0, none⟩) h1).trans c1
      obtain rfl := l10 (hne 10 (by kernel_rfl))
      refine Free.opW rfl (by rfl) (fun K hK => ?_)
      go_simp
      exact hK _ _ ((HI.out _ _ _).2 ⟨v5, v6, v7, v8, v9, v10, v11, v12, v13, v14, _, _, v17, v18, v19, v20, v21, v22, v23, v24, v25, v26, v4, rfl, hW, Free.of_set (by decide) l0, Free.of_set (by decide) l1, Free.of_set (by decide) l2, Free.of_set (by decide) l3, Free.of_set (by decide) l4, Free.of_set (by decide) l5, Free.of_set (by decide) l6, Free.of_set (by decide) l7, Free.of_set (by decide) l8, Free.of_set (by decide) l9, fun _ => rfl, fun _ => rfl, Free.of_set (by decide) l12, Free.of_set (by decide) l13, Free.of_set (by decide) l14, Free.of_set (by decide) l15, Free.of_set (by decide) l16, Free.of_set (by decide) l17, Free.of_set (by decide) l18, Free.of_set (by decide) l19, Free.of_set (by decide) l20, Free.of_set (by decide) l21, Free.of_set (by decide) l22⟩)
    · obtain rfl := l10 (hne 10 (by kernel_rfl))
      refine Free.opW rfl (by rfl) (fun K hK => ?_)
      go_simp
      exact hK _ _ ((HI.out _ _ _).2 ⟨v5, v6, v7, v8, v9, v10, v11, v12, v13, v14, _, v16, _, v18, v19, v20, v21, v22, v23, v24, v25, v26, v4, rfl, hW, Free.of_set (by decide) l0, Free.of_set (by decide) l1, Free.of_set (by decide) l2, Free.of_set (by decide) l3, Free.of_set (by decide) l4, Free.of_set (by decide) l5, Free.of_set (by decide) l6, Free.of_set (by decide) l7, Free.of_set (by decide) l8, Free.of_set (by decide) l9, fun _ => rfl, Free.of_set (by decide) l11, fun _ => rfl, Free.of_set (by decide) l13, Free.of_set (by decide) l14, Free.of_set (by decide) l15, Free.of_set (by decide) l16, Free.of_set (by decide) l17, Free.of_set (by decide) l18, Free.of_set (by decide) l19, Free.of_set (by decide) l20, Free.of_set (by decide) l21, Free.of_set (by decide) l22⟩)
    · obtain rfl := l10 (hne 10 (by kernel_rfl))
      obtain rfl := l11 (hne 11 (by kernel_rfl))
      obtain rfl := l12 (hne 12 (by kernel_rfl))
      refine Free.opW rfl (by rfl) (fun K hK => ?_)
      go_simp
      exact hK _ _ ((HI.out _ _ _).2 ⟨v5, v6, v7, v8, v9, v10, v11, v12, v13, v14, _, _, _, _, v19, v20, v21, v22, v23, v24, v25, v26, v4, rfl, hW, Free.of_set (by decide) l0, Free.of_set (by decide) l1, Free.of_set (by decide) l2, Free.of_set (by decide) l3, Free.of_set (by decide) l4, Free.of_set (by decide) l5, Free.of_set (by decide) l6, Free.of_set (by decide) l7, Free.of_set (by decide) l8, Free.of_set (by decide) l9, fun _ => rfl, fun _ => rfl, fun _ => rfl, fun _ => rfl, Free.of_set (by decide) l14, Free.of_set (by decide) l15, Free.of_set (by decide) l16, Free.of_set (by decide) l17, Free.of_set (by decide) l18, Free.of_set (by decide) l19, Free.of_set (by decide) l20, Free.of_set (by decide) l21, Free.of_set (by decide) l22⟩)
    · have z := (hW.cell (p := ⟨b, off + k * 2, none⟩) h2).trans c2
      have z2 := (hW.cell (p := ⟨b, off + k * 2 + 1, none⟩) h2).trans c3
      obtain rfl := l10 (hne 10 (by kernel_rfl))
      obtain rfl := l13 (hne 13 (by kernel_rfl))
      refine Free.opW rfl (by rfl) (fun K hK => ?_)
      go_simp
      exact hK _ _ ((HI.out _ _ _).2 ⟨v5, v6, v7, v8, v9, v10, v11, v12, v13, v14, _, v16, v17, _, _, v20, v21, v22, v23, v24, v25, v26, v4, rfl, hW, Free.of_set (by decide) l0, Free.of_set (by decide) l1, Free.of_set (by decide) l2, Free.of_set (by decide) l3, Free.of_set (by decide) l4, Free.of_set (by decide) l5, Free.of_set (by decide) l6, Free.of_set (by decide) l7, Free.of_set (by decide) l8, Free.of_set (by decide) l9, fun _ => rfl, Free.of_set (by decide) l11, Free.of_set (by decide) l12, fun _ => rfl, fun _ => rfl, Free.of_set (by decide) l15, Free.of_set (by decide) l16, Free.of_set (by decide) l17, Free.of_set (by decide) l18, Free.of_set (by decide) l19, Free.of_set (by decide) l20, Free.of_set (by decide) l21, Free.of_set (by decide) l22⟩)
    · have z := (hW.cell (p := ⟨B2, 0, none⟩) h3).trans c4
      obtain rfl := l10 (hne 10 (by kernel_rfl))
      refine Free.opW rfl (by rfl) (fun K hK => ?_)
      go_simp
      exact hK _ _ ((HI.out _ _ _).2 ⟨v5, v6, v7, v8, v9, v10, v11, v12, v13, v14, _, v16, v17, v18, v19, _, v21, v22, v23, v24, v25, v26, v4, rfl, hW, Free.of_set (by decide) l0, Free.of_set (by decide) l1, Free.of_set (by decide) l2, Free.of_set (by decide) l3, Free.of_set (by decide) l4, Free.of_set (by decide) l5, Free.of_set (by decide) l6, Free.of_set (by decide) l7, Free.of_set (by decide) l8, Free.of_set (by decide) l9, fun _ => rfl, Free.of_set (by decide) l11, Free.of_set (by decide) l12, Free.of_set (by decide) l13, Free.of_set (by decide) l14, fun _ => rfl, Free.of_set (by decide) l16, Free.of_set (by decide) l17, Free.of_set (by decide) l18, Free.of_set (by decide) l19, Free.of_set (by decide) l20, Free.of_set (by decide) l21, Free.of_set (by decide) l22⟩)
    · obtain rfl := l10 (hne 10 (by kernel_rfl))
      refine Free.opW rfl (by rfl) (fun K hK => ?_)
      go_simp
      exact hK _ _ ((HI.out _ _ _).2 ⟨v5, v6, v7, v8, v9, v10, v11, v12, v13, v14, _, v16, v17, v18, v19, v20, _, v22, v23, v24, v25, v26, v4, rfl, hW, Free.of_set (by decide) l0, Free.of_set (by decide) l1, Free.of_set (by decide) l2, Free.of_set (by decide) l3, Free.of_set (by decide) l4, Free.of_set (by decide) l5, Free.of_set (by decide) l6, Free.of_set (by decide) l7, Free.of_set (by decide) l8, Free.of_set (by decide) l9, fun _ => rfl, Free.of_set (by decide) l11, Free.of_set (by decide) l12, Free.of_set (by decide) l13, Free.of_set (by decide) l14, Free.of_set (by decide) l15, fun _ => rfl, Free.of_set (by decide) l17, Free.of_set (by decide) l18, Free.of_set (by decide) l19, Free.of_set (by decide) l20, Free.of_set (by decide) l21, Free.of_set (by decide) l22⟩)
    · obtain rfl := l10 (hne 10 (by kernel_rfl))
      obtain rfl := l15 (hne 15 (by kernel_rfl))
      obtain rfl := l16 (hne 16 (by kernel_rfl))
      refine Free.opW rfl (by rfl) (fun K hK => ?_)
      go_simp
      exact hK _ _ ((HI.out _ _ _).2 ⟨v5, v6, v7, v8, v9, v10, v11, v12, v13, v14, _, v16, v17, v18, v19, _, _, _, v23, v24, v25, v26, v4, rfl, hW, Free.of_set (by decide) l0, Free.of_set (by decide) l1, Free.of_set (by decide) l2, Free.of_set (by decide) l3, Free.of_set (by decide) l4, Free.of_set (by decide) l5, Free.of_set (by decide) l6, Free.of_set (by decide) l7, Free.of_set (by decide) l8, Free.of_set (by decide) l9, fun _ => rfl, Free.of_set (by decide) l11, Free.of_set (by decide) l12, Free.of_set (by decide) l13, Free.of_set (by decide) l14, fun _ => rfl, fun _ => rfl, fun _ => rfl, Free.of_set (by decide) l18, Free.of_set (by decide) l19, Free.of_set (by decide) l20, Free.of_set (by decide) l21, Free.of_set (by decide) l22⟩)
    · obtain rfl := l10 (hne 10 (by kernel_rfl))
      obtain rfl := l17 (hne 17 (by kernel_rfl))
      refine Free.opW rfl (by rfl) (fun K hK => ?_)
      go_simp
      exact hK _ _ ((HI.out _ _ _).2 ⟨v5, v6, v7, v8, v9, v10, v11, v12, v13, v14, _, v16, v17, v18, v19, v20, v21, _, _, v24, v25, v26, v4, rfl, hW, Free.of_set (by decide) l0, Free.of_set (by decide) l1, Free.of_set (by decide) l2, Free.of_set (by decide) l3, Free.of_set (by decide) l4, Free.of_set (by decide) l5, Free.of_set (by decide) l6, Free.of_set (by decide) l7, Free.of_set (by decide) l8, Free.of_set (by decide) l9, fun _ => rfl, Free.of_set (by decide) l11, Free.of_set (by decide) l12, Free.of_set (by decide) l13, Free.of_set (by decide) l14, Free.of_set (by decide) l15, Free.of_set (by decide) l16, fun _ => rfl, fun _ => rfl, Free.of_set (by decide) l19, Free.of_set (by decide) l20, Free.of_set (by decide) l21, Free.of_set (by decide) l22⟩)
    · have z := (hW.cell (p := ⟨b2, off2 + k * 2 + 1, none⟩) h4).trans c6
      obtain rfl := l10 (hne 10 (by kernel_rfl))
      obtain rfl := l18 (hne 18 (by kernel_rfl))
      refine Free.opW rfl (by rfl) (fun K hK => ?_)
      go_simp
      exact hK _ _ ((HI.out _ _ _).2 ⟨v5, v6, v7, v8, v9, v10, v11, v12, v13, v14, _, v16, v17, v18, v19, v20, v21, v22, _, _, v25, v26, v4, rfl, hW, Free.of_set (by decide) l0, Free.of_set (by decide) l1, Free.of_set (by decide) l2, Free.of_set (by decide) l3, Free.of_set (by decide) l4, Free.of_set (by decide) l5, Free.of_set (by decide) l6, Free.of_set (by decide) l7, Free.of_set (by decide) l8, Free.of_set (by decide) l9, fun _ => rfl, Free.of_set (by decide) l11, Free.of_set (by decide) l12, Free.of_set (by decide) l13, Free.of_set (by decide) l14, Free.of_set (by decide) l15, Free.of_set (by decide) l16, Free.of_set (by decide) l17, fun _ => rfl, fun _ => rfl, Free.of_set (by decide) l20, Free.of_set (by decide) l21, Free.of_set (by decide) l22⟩)
    · obtain rfl := l10 (hne 10 (by kernel_rfl))
      obtain rfl := l14 (hne 14 (by kernel_rfl))
      obtain rfl := l19 (hne 19 (by kernel_rfl))
      refine Free.opW rfl (by rfl) (fun K hK => ?_)
      go_wp2_with (go_at_call 33; refine (H2 _).out.mono ?_; rintro e W3 ⟨rfl, rfl⟩)
      exact (HI.out _ _ _).2 ⟨v5, v6, v7, v8, v9, v10, v11, v12, v13, v14, _, v16, v17, v18, _, v20, v21, v22, v23, _, _, v26, v4, rfl, hW.alloc hW.size _, Free.of_set (by decide) l0, Free.of_set (by decide) l1, Free.of_set (by decide) l2, Free.of_set (by decide) l3, Free.of_set (by decide) l4, Free.of_set (by decide) l5, Free.of_set (by decide) l6, Free.of_set (by decide) l7, Free.of_set (by decide) l8, Free.of_set (by decide) l9, fun _ => rfl, Free.of_set (by decide) l11, Free.of_set (by decide) l12, Free.of_set (by decide) l13, fun _ => rfl, Free.of_set (by decide) l15, Free.of_set (by decide) l16, Free.of_set (by decide) l17, Free.of_set (by decide) l18, fun _ => rfl, fun _ => rfl, Free.of_set (by decide) l21, Free.of_set (by decide) l22⟩
    · refine Free.op rfl rfl (fun K hK => ?_)
      obtain rfl := l10 (hne 10 (by kernel_rfl))
      obtain rfl := l20 (hne 20 (by kernel_rfl))
      go_simp
      exact hK _ _ ((HI.out _ _ _).2 ⟨v5, v6, v7, v8, v9, v10, v11, v12, v13, v14, _, v16, v17, v18, v19, v20, v21, v22, v23, v24, _, _, v4, rfl, hW, Free.of_set (by decide) l0, Free.of_set (by decide) l1, Free.of_set (by decide) l2, Free.of_set (by decide) l3, Free.of_set (by decide) l4, Free.of_set (by decide) l5, Free.of_set (by decide) l6, Free.of_set (by decide) l7, Free.of_set (by decide) l8, Free.of_set (by decide) l9, fun _ => rfl, Free.of_set (by decide) l11, Free.of_set (by decide) l12, Free.of_set (by decide) l13, Free.of_set (by decide) l14, Free.of_set (by decide) l15, Free.of_set (by decide) l16, Free.of_set (by decide) l17, Free.of_set (by decide) l18, Free.of_set (by decide) l19, fun _ => rfl, fun _ => rfl, Free.of_set (by decide) l22⟩)
    · refine Free.op rfl rfl (fun K hK => ?_)
      obtain rfl := l21 (hne 21 (by kernel_rfl))
      go_simp
      exact hK _ _ ((HI.out _ _ _).2 ⟨v5, v6, v7, v8, v9, v10, v11, v12, v13, v14, v15, v16, v17, v18, v19, v20, v21, v22, v23, v24, v25, _, _, rfl, hW, Free.of_set (by decide) l0, Free.of_set (by decide) l1, Free.of_set (by decide) l2, Free.of_set (by decide) l3, Free.of_set (by decide) l4, Free.of_set (by decide) l5, Free.of_set (by decide) l6, Free.of_set (by decide) l7, Free.of_set (by decide) l8, Free.of_set (by decide) l9, Free.of_set (by decide) l10, Free.of_set (by decide) l11, Free.of_set (by decide) l12, Free.of_set (by decide) l13, Free.of_set (by decide) l14, Free.of_set (by decide) l15, Free.of_set (by decide) l16, Free.of_set (by decide) l17, Free.of_set (by decide) l18, Free.of_set (by decide) l19, Free.of_set (by decide) l20, fun _ => rfl, fun _ => rfl⟩)
  case s3 =>
    intro listed aq W1 hall hsz hv
    obtain ⟨v5, v6, v7, v8, v9, v10, v11, v12, v13, v14, v15, v16, v17, v18, v19, v20, v21, v22, v23, v24, v25, v26, v4, rfl, hW, l0, l1, l2, l3, l4, l5, l6, l7, l8, l9, l10, l11, l12, l13, l14, l15, l16, l17, l18, l19, l20, l21, l22⟩ := (HI.out _ _ _).1 hv
    clear hv HI
    obtain rfl := l0 (Free.listed_of hall hsz 0 (by decide))
    obtain rfl := l1 (Free.listed_of hall hsz 1 (by decide))
    obtain rfl := l2 (Free.listed_of hall hsz 2 (by decide))
    obtain rfl := l3 (Free.listed_of hall hsz 3 (by decide))
    obtain rfl := l4 (Free.listed_of hall hsz 4 (by decide))
    obtain rfl := l5 (Free.listed_of hall hsz 5 (by decide))
    obtain rfl := l6 (Free.listed_of hall hsz 6 (by decide))
    obtain rfl := l7 (Free.listed_of hall hsz 7 (by decide))
    obtain rfl := l8 (Free.listed_of hall hsz 8 (by decide))
    obtain rfl := l9 (Free.listed_of hall hsz 9 (by decide))
    obtain rfl := l10 (Free.listed_of hall hsz 10 (by decide))
    obtain rfl := l11 (Free.listed_of hall hsz 11 (by decide))
    obtain rfl := l12 (Free.listed_of hall hsz 12 (by decide))
    obtain rfl := l13 (Free.listed_of hall hsz 13 (by decide))
    obtain rfl := l14 (Free.listed_of hall hsz 14 (by decide))
    obtain rfl := l15 (Free.listed_of hall hsz 15 (by decide))
    obtain rfl := l16 (Free.listed_of hall hsz 16 (by decide))
    obtain rfl := l17 (Free.listed_of hall hsz 17 (by decide))
    obtain rfl := l18 (Free.listed_of hall hsz 18 (by decide))
    obtain rfl := l19 (Free.listed_of hall hsz 19 (by decide))
    obtain rfl := l20 (Free.listed_of hall hsz 20 (by decide))
    obtain rfl := l21 (Free.listed_of hall hsz 21 (by decide))
    obtain rfl := l22 (Free.listed_of hall hsz 22 (by decide))
    clear hall hsz
    go_wp2
    go_returns
    exact ⟨rfl, hW⟩


set_option maxRecDepth 100000 in
set_option maxHeartbeats 8000000 in
theorem withinOne_no (k n cap n2 cap2 B1 B2 b off b2 off2 : Nat) (lo hi x y : Int) (w : World) (h1 : B1 < w.heap.size) (h2 : b < w.heap.size) (h3 : B2 < w.heap.size) (h4 : b2 < w.heap.size) (hk : k < n) (hk2 : k < n2)
    (c1 : w.cell? ⟨B1, 0, none⟩ = some (.slice (some ⟨b, off, none⟩) n cap)) (c2 : w.cell? ⟨b, off + k * 2, none⟩ = some (.int .i64 lo)) (c3 : w.cell? ⟨b, off + k * 2 + 1, none⟩ = some (.int .i64 hi))
    (c4 : w.cell? ⟨B2, 0, none⟩ = some (.slice (some ⟨b2, off2, none⟩) n2 cap2)) (c5 : w.cell? ⟨b2, off2 + k * 2, none⟩ = some (.int .i64 x)) (_ : w.cell? ⟨b2, off2 + k * 2 + 1, none⟩ = some (.int .i64 y)) (hd : (decide (lo ≤ x) && decide (x ≤ hi)) = false) :
    Calls Tryz.prog 32 #[.int .i64 (k : Int), .pointer (some ⟨B1, 0, none⟩), .pointer (some ⟨B2, 0, none⟩)] w fun e w' => e = .returned (.bool false) ∧ Below w.heap.size w w' := by
  have hmx : Tryz.prog.follows .mixedOrders = true := by kernel_rfl
  have t1 : (k : Int) < (n : Int) := by omega
  have t2 : (k : Int) < (n2 : Int) := by omega
  have HH := fun w => by
    have := has_any lo hi x w
    rw [hd] at this
    exact hid this
  skip
  clear hd
  go_enter Tryz.func32, Tryz.ntmps32
  go_wp2
  obtain ⟨Inv, hInv⟩ : ∃ Inv : Array Bool → Act → World → Prop, ∀ listed aq W', Inv listed aq W' ↔ (∃ v5 v6 v7 v8 v9 v10 v11 v12 v13 v14 v15 v16 v17 v18 v19 v20 v21 v22 v23 v24 v25 v26 v4 : Value, aq = { tmps := #[Value.int IntKind.i64 ↑k, Value.pointer (some { block := B1, off := 0 }), Value.pointer (some { block := B2, off := 0 }), undef, v4, v5, v6, v7, v8, v9, v10, v11, v12, v13, v14, v15, v16, v17, v18, v19, v20, v21, v22, v23, v24, v25, v26], defers := [] } ∧ Below (w).heap.size (w) W' ∧ (listed.getD 0 false = true → v5 = .slice (some ⟨b, off, none⟩) n cap) ∧ (listed.getD 1 false = true → v6 = Value.int IntKind.i64 ↑k) ∧ (listed.getD 2 false = true → v7 = .pointer (some ⟨b, off + k * 2, none⟩)) ∧ (listed.getD 3 false = true → v8 = .agg #[.int .i64 lo, .int .i64 hi]) ∧ (listed.getD 4 false = true → v9 = .slice (some ⟨b2, off2, none⟩) n2 cap2) ∧ (listed.getD 5 false = true → v10 = Value.int IntKind.i64 ↑k) ∧ (listed.getD 6 false = true → v11 = .pointer (some ⟨b2, off2 + k * 2, none⟩)) ∧ (listed.getD 7 false = true → v12 = .pointer (some ⟨b2, off2 + k * 2, none⟩)) ∧ (listed.getD 8 false = true → v13 = .int .i64 x) ∧ (listed.getD 9 false = true → v14 = .bool false) ∧ (listed.getD 10 false = true → v15 = .bool false) ∧ (listed.getD 11 false = true → v16 = undef) ∧ (listed.getD 12 false = true → v17 = undef) ∧ (listed.getD 13 false = true → v18 = undef) ∧ (listed.getD 14 false = true → v19 = undef) ∧ (listed.getD 15 false = true → v20 = undef) ∧ (listed.getD 16 false = true → v21 = undef) ∧ (listed.getD 17 false = true → v22 = undef) ∧ (listed.getD 18 false = true → v23 = undef) ∧ (listed.getD 19 false = true → v24 = undef) ∧ (listed.getD 20 false = true → v25 = undef) ∧ (listed.getD 21 false = true → v26 = .bool false) ∧ (listed.getD 22 false = true → v4 = .bool false)) := ⟨_, fun _ _ _ => Iff.rfl⟩
  have HI := hid hInv
  clear hInv
  refine Free.region hmx (by kernel_rfl) Inv ?s1 ?s2 ?s3
  case s1 =>
    exact (HI.out _ _ _).2 ⟨undef, undef, undef, undef, undef, undef, undef, undef, undef, undef, undef, undef, undef, undef, undef, undef, undef, undef, undef, undef, undef, undef, Value.bool false, rfl, (Below.refl _ _).drew, Free.not_yet, Free.not_yet, Free.not_yet, Free.not_yet, Free.not_yet, Free.not_yet, Free.not_yet, Free.not_yet, Free.not_yet, Free.not_yet, Free.not_yet, Free.not_yet, Free.not_yet, Free.not_yet, Free.not_yet, Free.not_yet, Free.not_yet, Free.not_yet, Free.not_yet, Free.not_yet, Free.not_yet, Free.not_yet, Free.not_yet⟩
  case s2 =>
    intro i listed aq W1 hix hne hnl hsz hv
    obtain ⟨v5, v6, v7, v8, v9, v10, v11, v12, v13, v14, v15, v16, v17, v18, v19, v20, v21, v22, v23, v24, v25, v26, v4, rfl, hW, l0, l1, l2, l3, l4, l5, l6, l7, l8, l9, l10, l11, l12, l13, l14, l15, l16, l17, l18, l19, l20, l21, l22⟩ := (HI.out _ _ _).1 hv
    clear hv
    replace hix : i < 23 := hix
    replace hsz : listed.size = 23 := hsz
    rcases (by omega : i = 0 ∨ i = 1 ∨ i = 2 ∨ i = 3 ∨ i = 4 ∨ i = 5 ∨ i = 6 ∨ i = 7 ∨ i = 8 ∨ i = 9 ∨ i = 10 ∨ i = 11 ∨ i = 12 ∨ i = 13 ∨ i = 14 ∨ i = 15 ∨ i = 16 ∨ i = 17 ∨ i = 18 ∨ i = 19 ∨ i = 20 ∨ i = 21 ∨ i = 22) with rfl | rfl | rfl | rfl | rfl | rfl | rfl | rfl | rfl | rfl | rfl | rfl | rfl | rfl | rfl | rfl | rfl | rfl | rfl | rfl | rfl | rfl | rfl
    · have z := (hW.cell (p := ⟨B1, 0, none⟩) h1).trans c1
      refine Free.op rfl rfl (fun K hK => ?_)
      go_simp
      exact hK _ _ ((HI.out _ _ _).2 ⟨_, v6, v7, v8, v9, v10, v11, v12, v13, v14, v15, v16, v17, v18, v19, v20, v21, v22, v23, v24, v25, v26, v4, rfl, hW, fun _ => rfl, Free.of_set (by decide) l1, Free.of_set (by decide) l2, Free.of_set (by decide) l3, Free.of_set (by decide) l4, Free.of_set (by decide) l5, Free.of_set (by decide) l6, Free.of_set (by decide) l7, Free.of_set (by decide) l8, Free.of_set (by decide) l9, Free.of_set (by decide) l10, Free.of_set (by decide) l11, Free.of_set (by decide) l12, Free.of_set (by decide) l13, Free.of_set (by decide) l14, Free.of_set (by decide) l15, Free.of_set (by decide) l16, Free.of_set (by decide) l17, Free.of_set (by decide) l18, Free.of_set (by decide) l19, Free.of_set (by decide) l20, Free.of_set (by decide) l21, Free.of_set (by decide) l22⟩)
    · refine Free.op rfl rfl (fun K hK => ?_)
      go_simp
      exact hK _ _ ((HI.out _ _ _).2 ⟨v5, _, v7, v8, v9, v10, v11, v12, v13, v14, v15, v16, v17, v18, v19, v20, v21, v22, v23, v24, v25, v26, v4, rfl, hW, Free.of_set (by decide) l0, fun _ => rfl, Free.of_set (by decide) l2, Free.of_set (by decide) l3, Free.of_set (by decide) l4, Free.of_set (by decide) l5, Free.of_set (by decide) l6, Free.of_set (by decide) l7, Free.of_set (by decide) l8, Free.of_set (by decide) l9, Free.of_set (by decide) l10, Free.of_set (by decide) l11, Free.of_set (by decide) l12, Free.of_set (by decide) l13, Free.of_set (by decide) l14, Free.of_set (by decide) l15, Free.of_set (by decide) l16, Free.of_set (by decide) l17, Free.of_set (by decide) l18, Free.of_set (by decide) l19, Free.of_set (by decide) l20, Free.of_set (by decide) l21, Free.of_set (by decide) l22⟩)
    · refine Free.op rfl rfl (fun K hK => ?_)
      obtain rfl := l0 (hne 0 (by kernel_rfl))
      obtain rfl := l1 (hne 1 (by kernel_rfl))
      go_simp
      exact hK _ _ ((HI.out _ _ _).2 ⟨_, _, _, v8, v9, v10, v11, v12, v13, v14, v15, v16, v17, v18, v19, v20, v21, v22, v23, v24, v25, v26, v4, rfl, hW, fun _ => rfl, fun _ => rfl, fun _ => rfl, Free.of_set (by decide) l3, Free.of_set (by decide) l4, Free.of_set (by decide) l5, Free.of_set (by decide) l6, Free.of_set (by decide) l7, Free.of_set (by decide) l8, Free.of_set (by decide) l9, Free.of_set (by decide) l10, Free.of_set (by decide) l11, Free.of_set (by decide) l12, Free.of_set (by decide) l13, Free.of_set (by decide) l14, Free.of_set (by decide) l15, Free.of_set (by decide) l16, Free.of_set (by decide) l17, Free.of_set (by decide) l18, Free.of_set (by decide) l19, Free.of_set (by decide) l20, Free.of_set (by decide) l21, Free.of_set (by decide) l22⟩)
    · have z := (hW.cell (p := ⟨b, off + k * 2, none⟩) h2).trans c2
      have z2 := (hW.cell (p := ⟨b, off + k * 2 + 1, none⟩) h2).trans c3
      refine Free.op rfl rfl (fun K hK => ?_)
      obtain rfl := l2 (hne 2 (by kernel_rfl))
      go_simp
      exact hK _ _ ((HI.out _ _ _).2 ⟨v5, v6, _, _, v9, v10, v11, v12, v13, v14, v15, v16, v17, v18, v19, v20, v21, v22, v23, v24, v25, v26, v4, rfl, hW, Free.of_set (by decide) l0, Free.of_set (by decide) l1, fun _ => rfl, fun _ => rfl, Free.of_set (by decide) l4, Free.of_set (by decide) l5, Free.of_set (by decide) l6, Free.of_set (by decide) l7, Free.of_set (by decide) l8, Free.of_set (by decide) l9, Free.of_set (by decide) l10, Free.of_set (by decide) l11, Free.of_set (by decide) l12, Free.of_set (by decide) l13, Free.of_set (by decide) l14, Free.of_set (by decide) l15, Free.of_set (by decide) l16, Free.of_set (by decide) l17, Free.of_set (by decide) l18, Free.of_set (by decide) l19, Free.of_set (by decide) l20, Free.of_set (by decide) l21, Free.of_set (by decide) l22⟩)
    · have z := (hW.cell (p := ⟨B2, 0, none⟩) h3).trans c4
      refine Free.op rfl rfl (fun K hK => ?_)
      go_simp
      exact hK _ _ ((HI.out _ _ _).2 ⟨v5, v6, v7, v8, _, v10, v11, v12, v13, v14, v15, v16, v17, v18, v19, v20, v21, v22, v23, v24, v25, v26, v4, rfl, hW, Free.of_set (by decide) l0, Free.of_set (by decide) l1, Free.of_set (by decide) l2, Free.of_set (by decide) l3, fun _ => rfl, Free.of_set (by decide) l5, Free.of_set (by decide) l6, Free.of_set (by decide) l7, Free.of_set (by decide) l8, Free.of_set (by decide) l9, Free.of_set (by decide) l10, Free.of_set (by decide) l11, Free.of_set (by decide) l12, Free.of_set (by decide) l13, Free.of_set (by decide) l14, Free.of_set (by decide) l15, Free.of_set (by decide) l16, Free.of_set (by decide) l17, Free.of_set (by decide) l18, Free.of_set (by decide) l19, Free.of_set (by decide) l20, Free.of_set (by decide) l21, Free.of_set (by decide) l22⟩)
    · refine Free.op rfl rfl (fun K hK => ?_)
      go_simp
      exact hK _ _ ((HI.out _ _ _).2 ⟨v5, v6, v7, v8, v9, _, v11, v12, v13, v14, v15, v16, v17, v18, v19, v20, v21, v22, v23, v24, v25, v26, v4, rfl, hW, Free.of_set (by decide) l0, Free.of_set (by decide) l1, Free.of_set (by decide) l2, Free.of_set (by decide) l3, Free.of_set (by decide) l4, fun _ => rfl, Free.of_set (by decide) l6, Free.of_set (by decide) l7, Free.of_set (by decide) l8, Free.of_set (by decide) l9, Free.of_set (by decide) l10, Free.of_set (by decide) l11, Free.of_set (by decide) l12, Free.of_set (by decide) l13, Free.of_set (by decide) l14, Free.of_set (by decide) l15, Free.of_set (by decide) l16, Free.of_set (by decide) l17, Free.of_set (by decide) l18, Free.of_set (by decide) l19, Free.of_set (by decide) l20, Free.of_set (by decide) l21, Free.of_set (by decide) l22⟩)
    · refine Free.op rfl rfl (fun K hK => ?_)
      obtain rfl := l4 (hne 4 (by kernel_rfl))
      obtain rfl := l5 (hne 5 (by kernel_rfl))
      go_simp
      exact hK _ _ ((HI.out _ _ _).2 ⟨v5, v6, v7, v8, _, _, _, v12, v13, v14, v15, v16, v17, v18, v19, v20, v21, v22, v23, v24, v25, v26, v4, rfl, hW, Free.of_set (by decide) l0, Free.of_set (by decide) l1, Free.of_set (by decide) l2, Free.of_set (by decide) l3, fun _ => rfl, fun _ => rfl, fun _ => rfl, Free.of_set (by decide) l7, Free.of_set (by decide) l8, Free.of_set (by decide) l9, Free.of_set (by decide) l10, Free.of_set (by decide) l11, Free.of_set (by decide) l12, Free.of_set (by decide) l13, Free.of_set (by decide) l14, Free.of_set (by decide) l15, Free.of_set (by decide) l16, Free.of_set (by decide) l17, Free.of_set (by decide) l18, Free.of_set (by decide) l19, Free.of_set (by decide) l20, Free.of_set (by decide) l21, Free.of_set (by decide) l22⟩)
    · refine Free.op rfl rfl (fun K hK => ?_)
      obtain rfl := l6 (hne 6 (by kernel_rfl))
      go_simp
      exact hK _ _ ((HI.out _ _ _).2 ⟨v5, v6, v7, v8, v9, v10, _, _, v13, v14, v15, v16, v17, v18, v19, v20, v21, v22, v23, v24, v25, v26, v4, rfl, hW, Free.of_set (by decide) l0, Free.of_set (by decide) l1, Free.of_set (by decide) l2, Free.of_set (by decide) l3, Free.of_set (by decide) l4, Free.of_set (by decide) l5, fun _ => rfl, fun _ => rfl, Free.of_set (by decide) l8, Free.of_set (by decide) l9, Free.of_set (by decide) l10, Free.of_set (by decide) l11, Free.of_set (by decide) l12, Free.of_set (by decide) l13, Free.of_set (by decide) l14, Free.of_set (by decide) l15, Free.of_set (by decide) l16, Free.of_set (by decide) l17, Free.of_set (by decide) l18, Free.of_set (by decide) l19, Free.of_set (by decide) l20, Free.of_set (by decide) l21, Free.of_set (by decide) l22⟩)
    · have z := (hW.cell (p := ⟨b2, off2 + k * 2, none⟩) h4).trans c5
      refine Free.op rfl rfl (fun K hK => ?_)
      obtain rfl := l7 (hne 7 (by kernel_rfl))
      go_simp
      exact hK _ _ ((HI.out _ _ _).2 ⟨v5, v6, v7, v8, v9, v10, v11, _, _, v14, v15, v16, v17, v18, v19, v20, v21, v22, v23, v24, v25, v26, v4, rfl, hW, Free.of_set (by decide) l0, Free.of_set (by decide) l1, Free.of_set (by decide) l2, Free.of_set (by decide) l3, Free.of_set (by decide) l4, Free.of_set (by decide) l5, Free.of_set (by decide) l6, fun _ => rfl, fun _ => rfl, Free.of_set (by decide) l9, Free.of_set (by decide) l10, Free.of_set (by decide) l11, Free.of_set (by decide) l12, Free.of_set (by decide) l13, Free.of_set (by decide) l14, Free.of_set (by decide) l15, Free.of_set (by decide) l16, Free.of_set (by decide) l17, Free.of_set (by decide) l18, Free.of_set (by decide) l19, Free.of_set (by decide) l20, Free.of_set (by decide) l21, Free.of_set (by decide) l22⟩)
    · refine Free.op rfl rfl (fun K hK => ?_)
      obtain rfl := l3 (hne 3 (by kernel_rfl))
      obtain rfl := l8 (hne 8 (by kernel_rfl))
      go_wp2_with (go_at_call 33; refine (HH _).out.mono ?_; rintro e W3 ⟨rfl, rfl⟩)
      exact (HI.out _ _ _).2 ⟨v5, v6, v7, _, v9, v10, v11, v12, _, _, v15, v16, v17, v18, v19, v20, v21, v22, v23, v24, v25, v26, v4, rfl, hW.alloc hW.size _, Free.of_set (by decide) l0, Free.of_set (by decide) l1, Free.of_set (by decide) l2, fun _ => rfl, Free.of_set (by decide) l4, Free.of_set (by decide) l5, Free.of_set (by decide) l6, Free.of_set (by decide) l7, fun _ => rfl, fun _ => rfl, Free.of_set (by decide) l10, Free.of_set (by decide) l11, Free.of_set (by decide) l12, Free.of_set (by decide) l13, Free.of_set (by decide) l14, Free.of_set (by decide) l15, Free.of_set (by decide) l16, Free.of_set (by decide) l17, Free.of_set (by decide) l18, Free.of_set (by decide) l19, Free.of_set (by decide) l20, Free.of_set (by decide) l21, Free.of_set (by decide) l22⟩
    · refine Free.op rfl rfl (fun K hK => ?_)
      obtain rfl := l9 (hne 9 (by kernel_rfl))
      go_simp
      exact hK _ _ ((HI.out _ _ _).2 ⟨v5, v6, v7, v8, v9, v10, v11, v12, v13, _, _, v16, v17, v18, v19, v20, v21, v22, v23, v24, v25, v26, v4, rfl, hW, Free.of_set (by decide) l0, Free.of_set (by decide) l1, Free.of_set (by decide) l2, Free.of_set (by decide) l3, Free.of_set (by decide) l4, Free.of_set (by decide) l5, Free.of_set (by decide) l6, Free.of_set (by decide) l7, Free.of_set (by decide) l8, fun _ => rfl, fun _ => rfl, Free.of_set (by decide) l11, Free.of_set (by decide) l12, Free.of_set (by decide) l13, Free.of_set (by decide) l14, Free.of_set (by decide) l15, Free.of_set (by decide) l16, Free.of_set (by decide) l17, Free.of_set (by decide) l18, Free.of_set (by decide) l19, Free.of_set (by decide) l20, Free.of_set (by decide) l21, Free.of_set (by decide) l22⟩)
    · obtain rfl := l10 (hne 10 (by kernel_rfl))
      refine Free.opU rfl (by rfl) ?_
      exact (HI.out _ _ _).2 ⟨v5, v6, v7, v8, v9, v10, v11, v12, v13, v14, _, _, v17, v18, v19, v20, v21, v22, v23, v24, v25, v26, v4, rfl, hW, Free.of_set (by decide) l0, Free.of_set (by decide) l1, Free.of_set (by decide) l2, Free.of_set (by decide) l3, Free.of_set (by decide) l4, Free.of_set (by decide) l5, Free.of_set (by decide) l6, Free.of_set (by decide) l7, Free.of_set (by decide) l8, Free.of_set (by decide) l9, fun _ => rfl, fun _ => rfl, Free.of_set (by decide) l12, Free.of_set (by decide) l13, Free.of_set (by decide) l14, Free.of_set (by decide) l15, Free.of_set (by decide) l16, Free.of_set (by decide) l17, Free.of_set (by decide) l18, Free.of_set (by decide) l19, Free.of_set (by decide) l20, Free.of_set (by decide) l21, Free.of_set (by decide) l22⟩
    · obtain rfl := l10 (hne 10 (by kernel_rfl))
      refine Free.opU rfl (by rfl) ?_
      exact (HI.out _ _ _).2 ⟨v5, v6, v7, v8, v9, v10, v11, v12, v13, v14, _, v16, _, v18, v19, v20, v21, v22, v23, v24, v25, v26, v4, rfl, hW, Free.of_set (by decide) l0, Free.of_set (by decide) l1, Free.of_set (by decide) l2, Free.of_set (by decide) l3, Free.of_set (by decide) l4, Free.of_set (by decide) l5, Free.of_set (by decide) l6, Free.of_set (by decide) l7, Free.of_set (by decide) l8, Free.of_set (by decide) l9, fun _ => rfl, Free.of_set (by decide) l11, fun _ => rfl, Free.of_set (by decide) l13, Free.of_set (by decide) l14, Free.of_set (by decide) l15, Free.of_set (by decide) l16, Free.of_set (by decide) l17, Free.of_set (by decide) l18, Free.of_set (by decide) l19, Free.of_set (by decide) l20, Free.of_set (by decide) l21, Free.of_set (by decide) l22⟩
    · obtain rfl := l10 (hne 10 (by kernel_rfl))
      obtain rfl := l11 (hne 11 (by kernel_rfl))
      obtain rfl := l12 (hne 12 (by kernel_rfl))
      refine Free.opU rfl (by rfl) ?_
      exact (HI.out _ _ _).2 ⟨v5, v6, v7, v8, v9, v10, v11, v12, v13, v14, _, _, _, _, v19, v20, v21, v22, v23, v24, v25, v26, v4, rfl, hW, Free.of_set (by decide) l0, Free.of_set (by decide) l1, Free.of_set (by decide) l2, Free.of_set (by decide) l3, Free.of_set (by decide) l4, Free.of_set (by decide) l5, Free.of_set (by decide) l6, Free.of_set (by decide) l7, Free.of_set (by decide) l8, Free.of_set (by decide) l9, fun _ => rfl, fun _ => rfl, fun _ => rfl, fun _ => rfl, Free.of_set (by decide) l14, Free.of_set (by decide) l15, Free.of_set (by decide) l16, Free.of_set (by decide) l17, Free.of_set (by decide) l18, Free.of_set (by decide) l19, Free.of_set (by decide) l20, Free.of_set (by decide) l21, Free.of_set (by decide) l22⟩
    · obtain rfl := l10 (hne 10 (by kernel_rfl))
      obtain rfl := l13 (hne 13 (by kernel_rfl))
      refine Free.opU rfl (by rfl) ?_
      exact (HI.out _ _ _).2 ⟨v5, v6, v7, v8, v9, v10, v11, v12, v13, v14, _, v16, v17, _, _, v20, v21, v22, v23, v24, v25, v26, v4, rfl, hW, Free.of_set (by decide) l0, Free.of_set (by decide) l1, Free.of_set (by decide) l2, Free.of_set (by decide) l3, Free.of_set (by decide) l4, Free.of_set (by decide) l5, Free.of_set (by decide) l6, Free.of_set (by decide) l7, Free.of_set (by decide) l8, Free.of_set (by decide) l9, fun _ => rfl, Free.of_set (by decide) l11, Free.of_set (by decide) l12, fun _ => rfl, fun _ => rfl, Free.of_set (by decide) l15, Free.of_set (by decide) l16, Free.of_set (by decide) l17, Free.of_set (by decide) l18, Free.of_set (by decide) l19, Free.of_set (by decide) l20, Free.of_set (by decide) l21, Free.of_set (by decide) l22⟩
    · obtain rfl := l10 (hne 10 (by kernel_rfl))
      refine Free.opU rfl (by rfl) ?_
      exact (HI.out _ _ _).2 ⟨v5, v6, v7, v8, v9, v10, v11, v12, v13, v14, _, v16, v17, v18, v19, _, v21, v22, v23, v24, v25, v26, v4, rfl, hW, Free.of_set (by decide) l0, Free.of_set (by decide) l1, Free.of_set (by decide) l2, Free.of_set (by decide) l3, Free.of_set (by decide) l4, Free.of_set (by decide) l5, Free.of_set (by decide) l6, Free.of_set (by decide) l7, Free.of_set (by decide) l8, Free.of_set (by decide) l9, fun _ => rfl, Free.of_set (by decide) l11, Free.of_set (by decide) l12, Free.of_set (by decide) l13, Free.of_set (by decide) l14, fun _ => rfl, Free.of_set (by decide) l16, Free.of_set (by decide) l17, Free.of_set (by decide) l18, Free.of_set (by decide) l19, Free.of_set (by decide) l20, Free.of_set (by decide) l21, Free.of_set (by decide) l22⟩
    · obtain rfl := l10 (hne 10 (by kernel_rfl))
      refine Free.opU rfl (by rfl) ?_
      exact (HI.out _ _ _).2 ⟨v5, v6, v7, v8, v9, v10, v11, v12, v13, v14, _, v16, v17, v18, v19, v20, _, v22, v23, v24, v25, v26, v4, rfl, hW, Free.of_set (by decide) l0, Free.of_set (by decide) l1, Free.of_set (by decide) l2, Free.of_set (by decide) l3, Free.of_set (by decide) l4, Free.of_set (by decide) l5, Free.of_set (by decide) l6, Free.of_set (by decide) l7, Free.of_set (by decide) l8, Free.of_set (by decide) l9, fun _ => rfl, Free.of_set (by decide) l11, Free.of_set (by decide) l12, Free.of_set (by decide) l13, Free.of_set (by decide) l14, Free.of_set (by decide) l15, fun _ => rfl, Free.of_set (by decide) l17, Free.of_set (by decide) l18, Free.of_set (by decide) l19, Free.of_set (by decide) l20, Free.of_set (by decide) l21, Free.of_set (by decide) l22⟩
    · obtain rfl := l10 (hne 10 (by kernel_rfl))
      obtain rfl := l15 (hne 15 (by kernel_rfl))
      obtain rfl := l16 (hne 16 (by kernel_rfl))
      refine Free.opU rfl (by rfl) ?_
      exact (HI.out _ _ _).2 ⟨v5, v6, v7, v8, v9, v10, v11, v12, v13, v14, _, v16, v17, v18, v19, _, _, _, v23, v24, v25, v26, v4, rfl, hW, Free.of_set (by decide) l0, Free.of_set (by decide) l1, Free.of_set (by decide) l2, Free.of_set (by decide) l3, Free.of_set (by decide) l4, Free.of_set (by decide) l5, Free.of_set (by decide) l6, Free.of_set (by decide) l7, Free.of_set (by decide) l8, Free.of_set (by decide) l9, fun _ => rfl, Free.of_set (by decide) l11, Free.of_set (by decide) l12, Free.of_set (by decide) l13, Free.of_set (by decide) l14, fun _ => rfl, fun _ => rfl, fun _ => rfl, Free.of_set (by decide) l18, Free.of_set (by decide) l19, Free.of_set (by decide) l20, Free.of_set (by decide) l21, Free.of_set (by decide) l22⟩
    · obtain rfl := l10 (hne 10 (by kernel_rfl))
      obtain rfl := l17 (hne 17 (by kernel_rfl))
      refine Free.opU rfl (by rfl) ?_
      exact (HI.out _ _ _).2 ⟨v5, v6, v7, v8, v9, v10, v11, v12, v13, v14, _, v16, v17, v18, v19, v20, v21, _, _, v24, v25, v26, v4, rfl, hW, Free.of_set (by decide) l0, Free.of_set (by decide) l1, Free.of_set (by decide) l2, Free.of_set (by decide) l3, Free.of_set (by decide) l4, Free.of_set (by decide) l5, Free.of_set (by decide) l6, Free.of_set (by decide) l7, Free.of_set (by decide) l8, Free.of_set (by decide) l9, fun _ => rfl, Free.of_set (by decide) l11, Free.of_set (by decide) l12, Free.of_set (by decide) l13, Free.of_set (by decide) l14, Free.of_set (by decide) l15, Free.of_set (by decide) l16, fun _ => rfl, fun _ => rfl, Free.of_set (by decide) l19, Free.of_set (by decide) l20, Free.of_set (by decide) l21, Free.of_set (by decide) l22⟩
    · obtain rfl := l10 (hne 10 (by kernel_rfl))
      obtain rfl := l18 (hne 18 (by kernel_rfl))
      refine Free.opU rfl (by rfl) ?_
      exact (HI.out _ _ _).2 ⟨v5, v6, v7, v8, v9, v10, v11, v12, v13, v14, _, v16, v17, v18, v19, v20, v21, v22, _, _, v25, v26, v4, rfl, hW, Free.of_set (by decide) l0, Free.of_set (by decide) l1, Free.of_set (by decide) l2, Free.of_set (by decide) l3, Free.of_set (by decide) l4, Free.of_set (by decide) l5, Free.of_set (by decide) l6, Free.of_set (by decide) l7, Free.of_set (by decide) l8, Free.of_set (by decide) l9, fun _ => rfl, Free.of_set (by decide) l11, Free.of_set (by decide) l12, Free.of_set (by decide) l13, Free.of_set (by decide) l14, Free.of_set (by decide) l15, Free.of_set (by decide) l16, Free.of_set (by decide) l17, fun _ => rfl, fun _ => rfl, Free.of_set (by decide) l20, Free.of_set (by decide) l21, Free.of_set (by decide) l22⟩
    · obtain rfl := l10 (hne 10 (by kernel_rfl))
      obtain rfl := l14 (hne 14 (by kernel_rfl))
      obtain rfl := l19 (hne 19 (by kernel_rfl))
      refine Free.opU rfl (by rfl) ?_
      exact (HI.out _ _ _).2 ⟨v5, v6, v7, v8, v9, v10, v11, v12, v13, v14, _, v16, v17, v18, _, v20, v21, v22, v23, _, _, v26, v4, rfl, hW, Free.of_set (by decide) l0, Free.of_set (by decide) l1, Free.of_set (by decide) l2, Free.of_set (by decide) l3, Free.of_set (by decide) l4, Free.of_set (by decide) l5, Free.of_set (by decide) l6, Free.of_set (by decide) l7, Free.of_set (by decide) l8, Free.of_set (by decide) l9, fun _ => rfl, Free.of_set (by decide) l11, Free.of_set (by decide) l12, Free.of_set (by decide) l13, fun _ => rfl, Free.of_set (by decide) l15, Free.of_set (by decide) l16, Free.of_set (by decide) l17, Free.of_set (by decide) l18, fun _ => rfl, fun _ => rfl, Free.of_set (by decide) l21, Free.of_set (by decide) l22⟩
    · refine Free.op rfl rfl (fun K hK => ?_)
      obtain rfl := l10 (hne 10 (by kernel_rfl))
      obtain rfl := l20 (hne 20 (by kernel_rfl))
      go_simp
      exact hK _ _ ((HI.out _ _ _).2 ⟨v5, v6, v7, v8, v9, v10, v11, v12, v13, v14, _, v16, v17, v18, v19, v20, v21, v22, v23, v24, _, _, v4, rfl, hW, Free.of_set (by decide) l0, Free.of_set (by decide) l1, Free.of_set (by decide) l2, Free.of_set (by decide) l3, Free.of_set (by decide) l4, Free.of_set (by decide) l5, Free.of_set (by decide) l6, Free.of_set (by decide) l7, Free.of_set (by decide) l8, Free.of_set (by decide) l9, fun _ => rfl, Free.of_set (by decide) l11, Free.of_set (by decide) l12, Free.of_set (by decide) l13, Free.of_set (by decide) l14, Free.of_set (by decide) l15, Free.of_set (by decide) l16, Free.of_set (by decide) l17, Free.of_set (by decide) l18, Free.of_set (by decide) l19, fun _ => rfl, fun _ => rfl, Free.of_set (by decide) l22⟩)
    · refine Free.op rfl rfl (fun K hK => ?_)
      obtain rfl := l21 (hne 21 (by kernel_rfl))
      go_simp
      exact hK _ _ ((HI.out _ _ _).2 ⟨v5, v6, v7, v8, v9, v10, v11, v12, v13, v14, v15, v16, v17, v18, v19, v20, v21, v22, v23, v24, v25, _, _, rfl, hW, Free.of_set (by decide) l0, Free.of_set (by decide) l1, Free.of_set (by decide) l2, Free.of_set (by decide) l3, Free.of_set (by decide) l4, Free.of_set (by decide) l5, Free.of_set (by decide) l6, Free.of_set (by decide) l7, Free.of_set (by decide) l8, Free.of_set (by decide) l9, Free.of_set (by decide) l10, Free.of_set (by decide) l11, Free.of_set (by decide) l12, Free.of_set (by decide) l13, Free.of_set (by decide) l14, Free.of_set (by decide) l15, Free.of_set (by decide) l16, Free.of_set (by decide) l17, Free.of_set (by decide) l18, Free.of_set (by decide) l19, Free.of_set (by decide) l20, fun _ => rfl, fun _ => rfl⟩)
  case s3 =>
    intro listed aq W1 hall hsz hv
    obtain ⟨v5, v6, v7, v8, v9, v10, v11, v12, v13, v14, v15, v16, v17, v18, v19, v20, v21, v22, v23, v24, v25, v26, v4, rfl, hW, l0, l1, l2, l3, l4, l5, l6, l7, l8, l9, l10, l11, l12, l13, l14, l15, l16, l17, l18, l19, l20, l21, l22⟩ := (HI.out _ _ _).1 hv
    clear hv HI
    obtain rfl := l0 (Free.listed_of hall hsz 0 (by decide))
    obtain rfl := l1 (Free.listed_of hall hsz 1 (by decide))
    obtain rfl := l2 (Free.listed_of hall hsz 2 (by decide))
    obtain rfl := l3 (Free.listed_of hall hsz 3 (by decide))
    obtain rfl := l4 (Free.listed_of hall hsz 4 (by decide))
    obtain rfl := l5 (Free.listed_of hall hsz 5 (by decide))
    obtain rfl := l6 (Free.listed_of hall hsz 6 (by decide))
    obtain rfl := l7 (Free.listed_of hall hsz 7 (by decide))
    obtain rfl := l8 (Free.listed_of hall hsz 8 (by decide))
    obtain rfl := l9 (Free.listed_of hall hsz 9 (by decide))
    obtain rfl := l10 (Free.listed_of hall hsz 10 (by decide))
    obtain rfl := l11 (Free.listed_of hall hsz 11 (by decide))
    obtain rfl := l12 (Free.listed_of hall hsz 12 (by decide))
    obtain rfl := l13 (Free.listed_of hall hsz 13 (by decide))
    obtain rfl := l14 (Free.listed_of hall hsz 14 (by decide))
    obtain rfl := l15 (Free.listed_of hall hsz 15 (by decide))
    obtain rfl := l16 (Free.listed_of hall hsz 16 (by decide))
    obtain rfl := l17 (Free.listed_of hall hsz 17 (by decide))
    obtain rfl := l18 (Free.listed_of hall hsz 18 (by decide))
    obtain rfl := l19 (Free.listed_of hall hsz 19 (by decide))
    obtain rfl := l20 (Free.listed_of hall hsz 20 (by decide))
    obtain rfl := l21 (Free.listed_of hall hsz 21 (by decide))
    obtain rfl := l22 (Free.listed_of hall hsz 22 (by decide))
    clear hall hsz
    go_wp2
    go_returns
    exact ⟨rfl, hW⟩


set_option maxHeartbeats 4000000 in
theorem ofEach_within (n B1 B2 : Nat) (P : Nat → Bool) (w : World) (hn : n ≤ 3) (HP : ∀ k, k < n → ∀ w1, Below w.heap.size w w1 → Calls Tryz.prog 32 #[.int .i64 (k : Int), .pointer (some ⟨B1, 0, none⟩), .pointer (some ⟨B2, 0, none⟩)] w1 fun e w' => e = .returned (.bool (P k)) ∧ Below w1.heap.size w1 w') :
    Calls Tryz.prog 31 #[.int .i64 (n : Int), .func (.func 32) #[] #[.pointer (some ⟨B1, 0, none⟩), .pointer (some ⟨B2, 0, none⟩)]] w fun e w' => e = .returned (.bool (decide (∀ k, k < n → P k = true))) ∧ Below w.heap.size w w' := by
  have hF := Fr.start w
  have HQ := fun k hk w1 hb => hid (HP k hk w1 hb)
  clear HP
  go_enter Tryz.func31, Tryz.ntmps31
  go_wp2
  go_loopw [7] (fun i wr => ∃ k : Nat, k ≤ n ∧ i = .int .i64 k ∧ Fr w wr [] ∧ Hid (∀ j, j < k → P j = true)) (fun i _ => n - (intOf i).toNat)
  case atStart => exact ⟨0, Nat.zero_le _, rfl, hF, fun j hj => absurd hj (Nat.not_lt_zero _)⟩
  case round =>
    clear hF
    obtain ⟨k, hk, rfl, hF, hall⟩ := hrel
    by_cases hkl : k < n
    · have hkk : (k : Int) < (n : Int) := by omega
      have H1 := fun w1 hb => HQ k hkl w1 hb
      have HY : Hid (P k = true → ∀ j, j < k + 1 → P j = true) := by
        intro h j hj
        rcases (by omega : j < k ∨ j = k) with h2 | rfl
        · exact hall.out j h2
        · exact h
      have HZ : Hid (P k = false → decide (∀ k, k < n → P k = true) = false) := fun h => decide_eq_false fun g => by
        rw [g k hkl] at h; cases h
      clear hall HQ
      generalize P k = p at *
      cases p
      · have HM := hid (HZ.out rfl)
        clear HZ HY
        go_wp2_with (go_at_call 32; refine (H1 _ hF.below).out.mono ?_; rintro e wn ⟨rfl, hb⟩; replace hF := hF.step hb; clear hb)
        go_returns
        rw [HM.out]
        exact ⟨rfl, hF.below⟩
      · have HM := hid (HY.out rfl)
        clear HZ HY
        go_wp2_with (go_at_call 32; refine (H1 _ hF.below).out.mono ?_; rintro e wn ⟨rfl, hb⟩; replace hF := hF.step hb; clear hb)
        exact ⟨⟨k + 1, by omega, by simp, hF, HM.out⟩, by simp [intOf]; omega⟩
    · obtain rfl : k = n := by omega
      have HM := hid (decide_eq_true hall.out)
      clear hall HQ
      go_wp2
      go_returns
      rw [HM.out]
      exact ⟨rfl, hF.below⟩

/-- At numbers that are as many. -/
theorem has_is {q : List (Int × Int)} {x : List Int} : decide (∀ k, k < q.length → (decide ((Um.sd q k).1 ≤ Um.nm x k) && decide (Um.nm x k ≤ (Um.sd q k).2)) = true) = Um.hasB q x := by
  unfold Um.hasB Um.hasP
  congr 1
  simp

/-- Are the numbers in it? At anything. -/
def hasA (q : List (Int × Int)) (x : List Int) : Bool := decide (Um.hasF q x = 0) && Um.hasB q x
set_option maxRecDepth 100000 in
set_option maxHeartbeats 4000000 in
theorem bwithin_wrong (a : List (Int × Int)) (v : Value) (q : List (Int × Int)) (u : Value) (w : World) (hs : Ls w.heap.size w v a) (hs2 : Ls w.heap.size w u q) (h : ¬ Um.boxesF a q = 0) :
    Calls Tryz.prog 15 #[v, u] w fun e w' => e = .returned (.tuple #[.bool false, errV (Um.boxesF a q)]) ∧ Below w.heap.size w w' := by
  have v0 := errV_none
  have q1 := errG
  have q2 := errGn
  have q3 := errE
  have q4 := errN
  obtain ⟨a0, cap0, rfl, hv0, hv1⟩ := (id hs)
  obtain ⟨a1, cap1, rfl, hu0, hu1⟩ := (id hs2)
  have h1 : w.heap.size < ((w.alloc (.cells #[.slice a0 a.length cap0] 23)).alloc (.cells #[.slice a1 q.length cap1] 23)).heap.size := by simp <;> omega
  have h2 : w.heap.size + 1 < ((w.alloc (.cells #[.slice a0 a.length cap0] 23)).alloc (.cells #[.slice a1 q.length cap1] 23)).heap.size := by simp <;> omega
  have hBW : Below w.heap.size w ((w.alloc (.cells #[.slice a0 a.length cap0] 23)).alloc (.cells #[.slice a1 q.length cap1] 23)) := by go_grown
  have c1 : ((w.alloc (.cells #[.slice a0 a.length cap0] 23)).alloc (.cells #[.slice a1 q.length cap1] 23)).cell? ⟨w.heap.size, 0, none⟩ = some (.slice a0 a.length cap0) := cell_old _ _ _ (by simp) (cell_new _ _ _ rfl)
  have c2 : ((w.alloc (.cells #[.slice a0 a.length cap0] 23)).alloc (.cells #[.slice a1 q.length cap1] 23)).cell? ⟨w.heap.size + 1, 0, none⟩ = some (.slice a1 q.length cap1) := cell_new _ _ _ (by simp)
  have hF := Fr.start ((w.alloc (.cells #[.slice a0 a.length cap0] 23)).alloc (.cells #[.slice a1 q.length cap1] 23))
  replace hs := hs.step hBW
  replace hs2 := hs2.step hBW
  have HC := fun w hs hs2 => hid (checkTwo_any a q (.slice a0 a.length cap0) (.slice a1 q.length cap1) w hs hs2)
  have y1 := c1
  have y2 := c2
  have k : (Um.boxesF a q != 0) = true := by simpa using h
  clear h hv0 hv1 hu0 hu1
  generalize Um.boxesF a q = G at *
  go_enter Tryz.func15, Tryz.ntmps15
  go_wp2_with (go_at_call 30; refine (HC _ (hF.ls hs) (hF.ls hs2)).out.mono ?_; rintro e wn ⟨rfl, hb⟩; replace hF := hF.step hb; clear hb; clear y1 y2; have y1 := (hF.below.cell (p := ⟨w.heap.size, 0, none⟩) h1).trans c1; have y2 := (hF.below.cell (p := ⟨w.heap.size + 1, 0, none⟩) h2).trans c2)
  go_returns
  exact ⟨rfl, hBW.trans (hF.below.mono hBW.size)⟩

theorem withinOne_any (k n cap n2 cap2 B1 B2 b off b2 off2 : Nat) (lo hi x y : Int) (w : World) (h1 : B1 < w.heap.size) (h2 : b < w.heap.size) (h3 : B2 < w.heap.size) (h4 : b2 < w.heap.size) (hk : k < n) (hk2 : k < n2)
    (c1 : w.cell? ⟨B1, 0, none⟩ = some (.slice (some ⟨b, off, none⟩) n cap)) (c2 : w.cell? ⟨b, off + k * 2, none⟩ = some (.int .i64 lo)) (c3 : w.cell? ⟨b, off + k * 2 + 1, none⟩ = some (.int .i64 hi))
    (c4 : w.cell? ⟨B2, 0, none⟩ = some (.slice (some ⟨b2, off2, none⟩) n2 cap2)) (c5 : w.cell? ⟨b2, off2 + k * 2, none⟩ = some (.int .i64 x)) (c6 : w.cell? ⟨b2, off2 + k * 2 + 1, none⟩ = some (.int .i64 y)) :
    Calls Tryz.prog 32 #[.int .i64 (k : Int), .pointer (some ⟨B1, 0, none⟩), .pointer (some ⟨B2, 0, none⟩)] w fun e w' => e = .returned (.bool ((decide (lo ≤ x) && decide (x ≤ hi)) && (decide (lo ≤ y) && decide (y ≤ hi)))) ∧ Below w.heap.size w w' := by
  cases hd : (decide (lo ≤ x) && decide (x ≤ hi))
  · exact withinOne_no k n cap n2 cap2 B1 B2 b off b2 off2 lo hi x y w h1 h2 h3 h4 hk hk2 c1 c2 c3 c4 c5 c6 hd
  · exact withinOne_yes k n cap n2 cap2 B1 B2 b off b2 off2 lo hi x y w h1 h2 h3 h4 hk hk2 c1 c2 c3 c4 c5 c6 hd
theorem within_is {a q : List (Int × Int)} (h : Um.boxF a = 0) : decide (∀ k, k < a.length → ((decide ((Um.sd q k).1 ≤ (Um.sd a k).1) && decide ((Um.sd a k).1 ≤ (Um.sd q k).2)) && (decide ((Um.sd q k).1 ≤ (Um.sd a k).2) && decide ((Um.sd a k).2 ≤ (Um.sd q k).2))) = true) = Um.withinB a q := by
  unfold Um.withinB Um.withinP
  rw [decide_eq_decide]
  refine forall_congr' fun k => forall_congr' fun hk => ?_
  have := (side_b h hk).2.2.2.2
  simp only [Bool.and_eq_true, decide_eq_true_eq]
  omega

set_option maxRecDepth 100000 in
set_option maxHeartbeats 4000000 in
theorem bwithin_right (a : List (Int × Int)) (v : Value) (q : List (Int × Int)) (u : Value) (w : World) (hs : Ls w.heap.size w v a) (hs2 : Ls w.heap.size w u q) (h : Um.boxesF a q = 0) :
    Calls Tryz.prog 15 #[v, u] w fun e w' => e = .returned (.tuple #[.bool (Um.withinB a q), .nilIface]) ∧ Below w.heap.size w w' := by
  have v0 := errV_none
  have q1 := errG
  have q2 := errGn
  have q3 := errE
  have q4 := errN
  obtain ⟨ha, hq, h3⟩ := Um.boxes_ok.1 h
  have hln := Um.box_len ha
  obtain ⟨b2, off2, cap2, rfl, hcap2, hA⟩ := hs.open (Um.box_ok.1 ha).1
  obtain ⟨b, off, cap, rfl, hcap, hQ⟩ := hs2.open (Um.box_ok.1 hq).1
  have h1 : w.heap.size < ((w.alloc (.cells #[.slice (some ⟨b2, off2, none⟩) a.length cap2] 23)).alloc (.cells #[.slice (some ⟨b, off, none⟩) q.length cap] 23)).heap.size := by simp <;> omega
  have h2 : w.heap.size + 1 < ((w.alloc (.cells #[.slice (some ⟨b2, off2, none⟩) a.length cap2] 23)).alloc (.cells #[.slice (some ⟨b, off, none⟩) q.length cap] 23)).heap.size := by simp <;> omega
  have hBW : Below w.heap.size w ((w.alloc (.cells #[.slice (some ⟨b2, off2, none⟩) a.length cap2] 23)).alloc (.cells #[.slice (some ⟨b, off, none⟩) q.length cap] 23)) := by go_grown
  have c1 : ((w.alloc (.cells #[.slice (some ⟨b2, off2, none⟩) a.length cap2] 23)).alloc (.cells #[.slice (some ⟨b, off, none⟩) q.length cap] 23)).cell? ⟨w.heap.size, 0, none⟩ = some (.slice (some ⟨b2, off2, none⟩) a.length cap2) := cell_old _ _ _ (by simp) (cell_new _ _ _ rfl)
  have c2 : ((w.alloc (.cells #[.slice (some ⟨b2, off2, none⟩) a.length cap2] 23)).alloc (.cells #[.slice (some ⟨b, off, none⟩) q.length cap] 23)).cell? ⟨w.heap.size + 1, 0, none⟩ = some (.slice (some ⟨b, off, none⟩) q.length cap) := cell_new _ _ _ (by simp)
  have hF := Fr.start ((w.alloc (.cells #[.slice (some ⟨b2, off2, none⟩) a.length cap2] 23)).alloc (.cells #[.slice (some ⟨b, off, none⟩) q.length cap] 23))
  have hA2 := hA.step hBW
  have hQ2 := hQ.step hBW
  have HO : ∀ w1, Below ((w.alloc (.cells #[.slice (some ⟨b2, off2, none⟩) a.length cap2] 23)).alloc (.cells #[.slice (some ⟨b, off, none⟩) q.length cap] 23)).heap.size ((w.alloc (.cells #[.slice (some ⟨b2, off2, none⟩) a.length cap2] 23)).alloc (.cells #[.slice (some ⟨b, off, none⟩) q.length cap] 23)) w1 → Hid (Calls Tryz.prog 31 #[.int .i64 (a.length : Int), .func (.func 32) #[] #[.pointer (some ⟨w.heap.size + 1, 0, none⟩), .pointer (some ⟨w.heap.size, 0, none⟩)]] w1 fun e w' => e = .returned (.bool (Um.withinB a q)) ∧ Below w1.heap.size w1 w') := by
    intro w1 hb1
    have := ofEach_within a.length (w.heap.size + 1) w.heap.size (fun k => ((decide ((Um.sd q k).1 ≤ (Um.sd a k).1) && decide ((Um.sd a k).1 ≤ (Um.sd q k).2)) && (decide ((Um.sd q k).1 ≤ (Um.sd a k).2) && decide ((Um.sd a k).2 ≤ (Um.sd q k).2)))) w1 hln.2 (fun k hk w3 hb3 => by
      have hb := hb1.trans (hb3.mono hb1.size)
      have hb0 := hBW.trans (hb.mono hBW.size)
      have z := hb.size
      exact withinOne_any k q.length cap a.length cap2 (w.heap.size + 1) w.heap.size b off b2 off2 _ _ _ _ w3 (by omega) (by have := hQ.1; have := hb0.size; omega) (by omega) (by have := hA.1; have := hb0.size; omega) (by omega) hk
        ((hb.cell (p := ⟨w.heap.size + 1, 0, none⟩) h2).trans c2) ((hQ2.step hb).lo k (Um.sd_some (by omega)) rfl) ((hQ2.step hb).hi k (Um.sd_some (by omega)) rfl)
        ((hb.cell (p := ⟨w.heap.size, 0, none⟩) h1).trans c1) ((hA2.step hb).lo k (Um.sd_some hk) rfl) ((hA2.step hb).hi k (Um.sd_some hk) rfl))
    rw [within_is ha] at this
    exact hid this
  replace hs := hs.step hBW
  replace hs2 := hs2.step hBW
  have HC := fun w hs hs2 => hid (checkTwo_any a q (.slice (some ⟨b2, off2, none⟩) a.length cap2) (.slice (some ⟨b, off, none⟩) q.length cap) w hs hs2)
  have y1 := c1
  have y2 := c2
  rw [h] at HC
  clear h h3 hA hA2 hQ hQ2 ha hq hcap hcap2
  generalize Um.withinB a q = R at *
  go_enter Tryz.func15, Tryz.ntmps15
  go_wp2_with (first | (go_at_call 30; refine (HC _ (hF.ls hs) (hF.ls hs2)).out.mono ?_; rintro e wn ⟨rfl, hb⟩; replace hF := hF.step hb; clear hb; clear y1 y2; have y1 := (hF.below.cell (p := ⟨w.heap.size, 0, none⟩) h1).trans c1; have y2 := (hF.below.cell (p := ⟨w.heap.size + 1, 0, none⟩) h2).trans c2) | (go_at_call 31; refine (HO _ hF.below).out.mono ?_; rintro e wn ⟨rfl, hb⟩; replace hF := hF.step hb; clear hb))
  go_returns
  exact ⟨rfl, hBW.trans (hF.below.mono hBW.size)⟩

def withinA (a q : List (Int × Int)) : Bool := decide (Um.boxesF a q = 0) && Um.withinB a q
theorem bwithin_any (a : List (Int × Int)) (v : Value) (q : List (Int × Int)) (u : Value) (w : World) (hs : Ls w.heap.size w v a) (hs2 : Ls w.heap.size w u q) :
    Calls Tryz.prog 15 #[v, u] w fun e w' => e = .returned (.tuple #[.bool (withinA a q), errV (Um.boxesF a q)]) ∧ Below w.heap.size w w' := by
  unfold withinA
  by_cases h : Um.boxesF a q = 0
  · rw [h, errV_none]
    simpa using bwithin_right a v q u w hs hs2 h
  · simpa [h] using bwithin_wrong a v q u w hs hs2 h
end Go.Proofs.YthgehlonjoafmaaGreatDoor
