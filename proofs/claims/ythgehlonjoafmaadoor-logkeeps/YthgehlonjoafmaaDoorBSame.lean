/-
  What spansame.Boxes and spansame.Lists answer of two that are the same.
-/
import Derived.Test.YthgehlonjoafmaaDoorMems2
import Derived.Test.YthgehlonjoafmaaDoorRefSplit
import Derived.Test.YthgehlonjoafmaaDoorMems
namespace Go.Proofs.YthgehlonjoafmaaDoor
set_option linter.unusedSimpArgs false
open Go.RowKit

set_option maxRecDepth 100000 in
set_option maxHeartbeats 8000000 in
theorem boxes_same (l : List (List (Int × Int))) (u v : Value) (w : World) (hu : Lb w.heap.size w u l) (hv : Lb w.heap.size w v l) (hl : l.length ≤ 1000) (hin : ∀ j, j < l.length → (l[j]?.getD []).length ≤ 1000) :
    Calls Tryd.prog 18 #[u, v] w fun e w' => e = .returned (.bool true) ∧ Below w.heap.size w w' := by
  have hmx : Tryd.prog.follows .mixedOrders = true := by kernel_rfl
  by_cases h0 : l = []
  · subst h0
    obtain ⟨a1, c1, rfl, -, -⟩ := hu
    obtain ⟨a2, c2, rfl, -, -⟩ := hv
    have z : ([] : List (List (Int × Int))).length = 0 := rfl
    rw [z]
    go_enter Tryd.func18, Tryd.ntmps18
    go_wp2
    refine wp_loop_rounds 1 ?_
    rw [rounds_succ]
    go_wp2
    go_returns
    exact ⟨rfl, Below.refl _ _⟩
  · obtain ⟨b1, o1, c1, rfl, -, m1, hc1⟩ := hu.open h0
    obtain ⟨b2, o2, c2, rfl, -, m2, hc2⟩ := hv.open h0
    have H1 := hid hc1
    have H2 := hid hc2
    have HI := hid hin
    have hF := Fr.start w
    clear hc1 hc2 h0 hu hv hin
    go_enter Tryd.func18, Tryd.ntmps18
    go_wp2
    go_loopw [5] (fun i wr => ∃ k : Nat, k ≤ l.length ∧ i = .int .i64 k ∧ Fr w wr []) (fun i _ => l.length - (intOf i).toNat)
    case atStart => exact ⟨0, Nat.zero_le _, rfl, hF⟩
    case round =>
      clear hF
      obtain ⟨k, hk, rfl, hF⟩ := hrel
      by_cases hkl : k < l.length
      · have hkk : (k : Int) < (l.length : Int) := by omega
        obtain ⟨x1, q1, e1⟩ := H1.out k hkl
        obtain ⟨x2, q2, e2⟩ := H2.out k hkl
        have y1 := (hF.below.cell (p := ⟨b1, o1 + k, none⟩) m1).trans q1
        have y2 := (hF.below.cell (p := ⟨b2, o2 + k, none⟩) m2).trans q2
        have hk1 : b1 < wr.heap.size := Nat.lt_of_lt_of_le m1 hF.size
        have hk2 : b2 < wr.heap.size := Nat.lt_of_lt_of_le m2 hF.size
        replace e1 := (e1.keep hF.below).wide hF.size
        replace e2 := (e2.keep hF.below).wide hF.size
        have hn := HI.out k hkl
        have HS := fun w h1 h2 => hid (box_same (l[k]?.getD []) x1 x2 w h1 h2 hn)
        clear H1 H2 HI q1 q2 hn
        generalize l[k]?.getD [] = q at *
        go_wp2
        obtain ⟨Inv, hInv⟩ : ∃ Inv : Array Bool → Act → World → Prop, ∀ listed aq W', Inv listed aq W' ↔ (∃ v18 v19 v20 v21 v22 v23 v24 v25 v26 v6 : Value, aq = { tmps := #[Value.slice (some { block := b1, off := o1 }) l.length c1, Value.slice (some { block := b2, off := o2 }) l.length c2, undef, undef, u4, Value.int IntKind.i64 ↑k, v6, Value.slice (some { block := b1, off := o1 }) l.length c1, Value.int IntKind.i64 ↑l.length, Value.slice (some { block := b2, off := o2 }) l.length c2, Value.int IntKind.i64 ↑l.length, Value.bool false, Value.int IntKind.i64 ↑k, Value.slice (some { block := b1, off := o1 }) l.length c1, Value.int IntKind.i64 ↑l.length, Value.bool true, u16, u17, v18, v19, v20, v21, v22, v23, v24, v25, v26, u27, u28], defers := [] } ∧ Below (wr).heap.size (wr) W' ∧ (listed.getD 0 false = true → v18 = Value.slice (some { block := b1, off := o1 }) l.length c1) ∧ (listed.getD 1 false = true → v19 = Value.int IntKind.i64 ↑k) ∧ (listed.getD 2 false = true → v20 = .pointer (some ⟨b1, o1 + k, none⟩)) ∧ (listed.getD 3 false = true → v21 = x1) ∧ (listed.getD 4 false = true → v22 = Value.slice (some { block := b2, off := o2 }) l.length c2) ∧ (listed.getD 5 false = true → v23 = Value.int IntKind.i64 ↑k) ∧ (listed.getD 6 false = true → v24 = .pointer (some ⟨b2, o2 + k, none⟩)) ∧ (listed.getD 7 false = true → v25 = x2) ∧ (listed.getD 8 false = true → v26 = .bool true) ∧ (listed.getD 9 false = true → v6 = .bool true)) := ⟨_, fun _ _ _ => Iff.rfl⟩
        have HI := hid hInv
        clear hInv
        refine Free.region hmx (by kernel_rfl) Inv ?s1 ?s2 ?s3
        case s1 =>
          exact (HI.out _ _ _).2 ⟨u18, u19, u20, u21, u22, u23, u24, u25, u26, u6, rfl, (Below.refl _ _).drew, Free.not_yet, Free.not_yet, Free.not_yet, Free.not_yet, Free.not_yet, Free.not_yet, Free.not_yet, Free.not_yet, Free.not_yet, Free.not_yet⟩
        case s2 =>
          intro i listed aq W1 hix hne hnl hsz hv
          obtain ⟨v18, v19, v20, v21, v22, v23, v24, v25, v26, v6, rfl, hW, l0, l1, l2, l3, l4, l5, l6, l7, l8, l9⟩ := (HI.out _ _ _).1 hv
          clear hv
          replace hix : i < 10 := hix
          replace hsz : listed.size = 10 := hsz
          rcases (by omega : i = 0 ∨ i = 1 ∨ i = 2 ∨ i = 3 ∨ i = 4 ∨ i = 5 ∨ i = 6 ∨ i = 7 ∨ i = 8 ∨ i = 9) with rfl | rfl | rfl | rfl | rfl | rfl | rfl | rfl | rfl | rfl
          · refine Free.op rfl rfl (fun K hK => ?_)
            go_simp
            exact hK _ _ ((HI.out _ _ _).2 ⟨_, v19, v20, v21, v22, v23, v24, v25, v26, v6, rfl, hW, fun _ => rfl, Free.of_set (by decide) l1, Free.of_set (by decide) l2, Free.of_set (by decide) l3, Free.of_set (by decide) l4, Free.of_set (by decide) l5, Free.of_set (by decide) l6, Free.of_set (by decide) l7, Free.of_set (by decide) l8, Free.of_set (by decide) l9⟩)
          · refine Free.op rfl rfl (fun K hK => ?_)
            go_simp
            exact hK _ _ ((HI.out _ _ _).2 ⟨v18, _, v20, v21, v22, v23, v24, v25, v26, v6, rfl, hW, Free.of_set (by decide) l0, fun _ => rfl, Free.of_set (by decide) l2, Free.of_set (by decide) l3, Free.of_set (by decide) l4, Free.of_set (by decide) l5, Free.of_set (by decide) l6, Free.of_set (by decide) l7, Free.of_set (by decide) l8, Free.of_set (by decide) l9⟩)
          · refine Free.op rfl rfl (fun K hK => ?_)
            obtain rfl := l0 (hne 0 (by kernel_rfl))
            obtain rfl := l1 (hne 1 (by kernel_rfl))
            go_simp
            exact hK _ _ ((HI.out _ _ _).2 ⟨_, _, _, v21, v22, v23, v24, v25, v26, v6, rfl, hW, fun _ => rfl, fun _ => rfl, fun _ => rfl, Free.of_set (by decide) l3, Free.of_set (by decide) l4, Free.of_set (by decide) l5, Free.of_set (by decide) l6, Free.of_set (by decide) l7, Free.of_set (by decide) l8, Free.of_set (by decide) l9⟩)
          · have z := (hW.cell (p := ⟨b1, o1 + k, none⟩) hk1).trans y1
            refine Free.op rfl rfl (fun K hK => ?_)
            obtain rfl := l2 (hne 2 (by kernel_rfl))
            go_simp
            exact hK _ _ ((HI.out _ _ _).2 ⟨v18, v19, _, _, v22, v23, v24, v25, v26, v6, rfl, hW, Free.of_set (by decide) l0, Free.of_set (by decide) l1, fun _ => rfl, fun _ => rfl, Free.of_set (by decide) l4, Free.of_set (by decide) l5, Free.of_set (by decide) l6, Free.of_set (by decide) l7, Free.of_set (by decide) l8, Free.of_set (by decide) l9⟩)
          · refine Free.op rfl rfl (fun K hK => ?_)
            go_simp
            exact hK _ _ ((HI.out _ _ _).2 ⟨v18, v19, v20, v21, _, v23, v24, v25, v26, v6, rfl, hW, Free.of_set (by decide) l0, Free.of_set (by decide) l1, Free.of_set (by decide) l2, Free.of_set (by decide) l3, fun _ => rfl, Free.of_set (by decide) l5, Free.of_set (by decide) l6, Free.of_set (by decide) l7, Free.of_set (by decide) l8, Free.of_set (by decide) l9⟩)
          · refine Free.op rfl rfl (fun K hK => ?_)
            go_simp
            exact hK _ _ ((HI.out _ _ _).2 ⟨v18, v19, v20, v21, v22, _, v24, v25, v26, v6, rfl, hW, Free.of_set (by decide) l0, Free.of_set (by decide) l1, Free.of_set (by decide) l2, Free.of_set (by decide) l3, Free.of_set (by decide) l4, fun _ => rfl, Free.of_set (by decide) l6, Free.of_set (by decide) l7, Free.of_set (by decide) l8, Free.of_set (by decide) l9⟩)
          · refine Free.op rfl rfl (fun K hK => ?_)
            obtain rfl := l4 (hne 4 (by kernel_rfl))
            obtain rfl := l5 (hne 5 (by kernel_rfl))
            go_simp
            exact hK _ _ ((HI.out _ _ _).2 ⟨v18, v19, v20, v21, _, _, _, v25, v26, v6, rfl, hW, Free.of_set (by decide) l0, Free.of_set (by decide) l1, Free.of_set (by decide) l2, Free.of_set (by decide) l3, fun _ => rfl, fun _ => rfl, fun _ => rfl, Free.of_set (by decide) l7, Free.of_set (by decide) l8, Free.of_set (by decide) l9⟩)
          · have z := (hW.cell (p := ⟨b2, o2 + k, none⟩) hk2).trans y2
            refine Free.op rfl rfl (fun K hK => ?_)
            obtain rfl := l6 (hne 6 (by kernel_rfl))
            go_simp
            exact hK _ _ ((HI.out _ _ _).2 ⟨v18, v19, v20, v21, v22, v23, _, _, v26, v6, rfl, hW, Free.of_set (by decide) l0, Free.of_set (by decide) l1, Free.of_set (by decide) l2, Free.of_set (by decide) l3, Free.of_set (by decide) l4, Free.of_set (by decide) l5, fun _ => rfl, fun _ => rfl, Free.of_set (by decide) l8, Free.of_set (by decide) l9⟩)
          · refine Free.op rfl rfl (fun K hK => ?_)
            obtain rfl := l3 (hne 3 (by kernel_rfl))
            obtain rfl := l7 (hne 7 (by kernel_rfl))
            go_wp2_with (go_at_call 20; refine (HS _ ((e1.keep hW).wide hW.size) ((e2.keep hW).wide hW.size)).out.mono ?_; rintro e W3 ⟨rfl, hb⟩)
            exact (HI.out _ _ _).2 ⟨v18, v19, v20, _, v22, v23, v24, _, _, v6, rfl, hW.trans (hb.mono hW.size), Free.of_set (by decide) l0, Free.of_set (by decide) l1, Free.of_set (by decide) l2, fun _ => rfl, Free.of_set (by decide) l4, Free.of_set (by decide) l5, Free.of_set (by decide) l6, fun _ => rfl, fun _ => rfl, Free.of_set (by decide) l9⟩
          · refine Free.op rfl rfl (fun K hK => ?_)
            obtain rfl := l8 (hne 8 (by kernel_rfl))
            go_simp
            exact hK _ _ ((HI.out _ _ _).2 ⟨v18, v19, v20, v21, v22, v23, v24, v25, _, _, rfl, hW, Free.of_set (by decide) l0, Free.of_set (by decide) l1, Free.of_set (by decide) l2, Free.of_set (by decide) l3, Free.of_set (by decide) l4, Free.of_set (by decide) l5, Free.of_set (by decide) l6, Free.of_set (by decide) l7, fun _ => rfl, fun _ => rfl⟩)
        case s3 =>
          intro listed aq W1 hall hsz hv
          obtain ⟨v18, v19, v20, v21, v22, v23, v24, v25, v26, v6, rfl, hW, l0, l1, l2, l3, l4, l5, l6, l7, l8, l9⟩ := (HI.out _ _ _).1 hv
          clear hv HI
          obtain rfl := l0 (Free.listed_of hall hsz 0 (by decide))
          obtain rfl := l1 (Free.listed_of hall hsz 1 (by decide))
          obtain rfl := l2 (Free.listed_of hall hsz 2 (by decide))
          obtain rfl := l3 (Free.listed_of hall hsz 3 (by decide))
          obtain rfl := l4 (Free.listed_of hall hsz 4 (by decide))
          obtain rfl := l5 (Free.listed_of hall hsz 5 (by decide))
          obtain rfl := l6 (Free.listed_of hall hsz 6 (by decide))
          obtain rfl := l7 (Free.listed_of hall hsz 7 (by decide))
          obtain rfl := l8 (Free.listed_of hall hsz 8 (by decide))
          obtain rfl := l9 (Free.listed_of hall hsz 9 (by decide))
          clear hall hsz
          replace hF := hF.step hW
          clear hW y1 y2 e1 e2
          go_wp2
          exact ⟨⟨k + 1, by omega, by simp, hF⟩, by simp [intOf]; omega⟩

      · obtain rfl : k = l.length := by omega
        clear H1 H2 HI
        go_wp2
        go_returns
        exact ⟨rfl, hF.below⟩

end Go.Proofs.YthgehlonjoafmaaDoor
