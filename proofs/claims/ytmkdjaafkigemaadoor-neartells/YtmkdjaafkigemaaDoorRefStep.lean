/-
  What the document's answer (package spanref2) to systems is: System, Ready at every argument; Next of what is right.
-/
import Derived.Test.YtmkdjaafkigemaaDoorRefForm
import Derived.Test.YtmkdjaafkigemaaDoorRefBoxC
import Derived.Test.YtmkdjaafkigemaaDoorRefSplit
import Derived.Test.YtmkdjaafkigemaaDoorMems2
namespace Go.Proofs.YtmkdjaafkigemaaDoor
set_option linter.unusedSimpArgs false
open Go.RowKit

theorem form_below (f : List Um.Tm) (sides : Int) (v : Value) (w : World) (hl : Lt w.heap.size w v f) : Calls Tryd.prog 4 #[v, .int .i64 sides] w fun e w' => e = .returned (.int .i64 (Um.formF f sides)) ∧ Below w.heap.size w w' := by
  refine (rForm_any f sides v w hl).mono ?_
  rintro e w' ⟨rfl, rfl⟩
  exact ⟨rfl, Below.refl _ _⟩

set_option maxRecDepth 100000 in
set_option maxHeartbeats 8000000 in
theorem rSystem_none (s : List (List Um.Tm)) (v0 : Value) (p : List (Int × Int)) (v1 : Value) (w : World) (hf : Lf w.heap.size w v0 s) (hp : Ls w.heap.size w v1 p) (h : s.length = 0) :
    Calls Tryd.prog 27 #[.agg #[v0, v1]] w fun e w' => e = .returned (.int .i64 (5)) ∧ Below w.heap.size w w' := by
  obtain ⟨a0, cap0, rfl, -⟩ := (id hf)
  obtain ⟨a1, cap1, rfl, -⟩ := (id hp)
  have h1 : w.heap.size < (w.alloc (.cells #[.slice a0 s.length cap0, .slice a1 p.length cap1] 26)).heap.size := by simp
  have hBW : Below w.heap.size w (w.alloc (.cells #[.slice a0 s.length cap0, .slice a1 p.length cap1] 26)) := by go_grown
  obtain ⟨c0, c1⟩ := sys_cells w (.slice a0 s.length cap0) (.slice a1 p.length cap1) 26
  have hF := Fr.start (w.alloc (.cells #[.slice a0 s.length cap0, .slice a1 p.length cap1] 26))
  have y0 := c0
  have y1 := c1
  have t1 : ((s.length : Int) == 0) = true := by simp [h]
  clear h
  go_enter Tryd.func27, Tryd.ntmps27
  go_wp2
  go_returns
  exact ⟨rfl, hBW⟩

set_option maxRecDepth 100000 in
set_option maxHeartbeats 8000000 in
theorem rSystem_full (s : List (List Um.Tm)) (v0 : Value) (p : List (Int × Int)) (v1 : Value) (w : World) (hf : Lf w.heap.size w v0 s) (hp : Ls w.heap.size w v1 p) (h : 3 < s.length) :
    Calls Tryd.prog 27 #[.agg #[v0, v1]] w fun e w' => e = .returned (.int .i64 (4)) ∧ Below w.heap.size w w' := by
  obtain ⟨a0, cap0, rfl, -⟩ := (id hf)
  obtain ⟨a1, cap1, rfl, -⟩ := (id hp)
  have h1 : w.heap.size < (w.alloc (.cells #[.slice a0 s.length cap0, .slice a1 p.length cap1] 26)).heap.size := by simp
  have hBW : Below w.heap.size w (w.alloc (.cells #[.slice a0 s.length cap0, .slice a1 p.length cap1] 26)) := by go_grown
  obtain ⟨c0, c1⟩ := sys_cells w (.slice a0 s.length cap0) (.slice a1 p.length cap1) 26
  have hF := Fr.start (w.alloc (.cells #[.slice a0 s.length cap0, .slice a1 p.length cap1] 26))
  have y0 := c0
  have y1 := c1
  have t1 : ((s.length : Int) == 0) = false := beq_false_of_ne (by omega)
  have t2 : decide (3 < (s.length : Int)) = true := decide_eq_true (by omega)
  clear h
  go_enter Tryd.func27, Tryd.ntmps27
  go_wp2
  go_returns
  exact ⟨rfl, hBW⟩

set_option maxRecDepth 100000 in
set_option maxHeartbeats 8000000 in
theorem rSystem_shape (s : List (List Um.Tm)) (v0 : Value) (p : List (Int × Int)) (v1 : Value) (w : World) (hf : Lf w.heap.size w v0 s) (hp : Ls w.heap.size w v1 p) (h0 : 0 < s.length) (h3 : s.length ≤ 3) (h : ¬ p.length = s.length) :
    Calls Tryd.prog 27 #[.agg #[v0, v1]] w fun e w' => e = .returned (.int .i64 (3)) ∧ Below w.heap.size w w' := by
  obtain ⟨a0, cap0, rfl, -⟩ := (id hf)
  obtain ⟨a1, cap1, rfl, -⟩ := (id hp)
  have h1 : w.heap.size < (w.alloc (.cells #[.slice a0 s.length cap0, .slice a1 p.length cap1] 26)).heap.size := by simp
  have hBW : Below w.heap.size w (w.alloc (.cells #[.slice a0 s.length cap0, .slice a1 p.length cap1] 26)) := by go_grown
  obtain ⟨c0, c1⟩ := sys_cells w (.slice a0 s.length cap0) (.slice a1 p.length cap1) 26
  have hF := Fr.start (w.alloc (.cells #[.slice a0 s.length cap0, .slice a1 p.length cap1] 26))
  have y0 := c0
  have y1 := c1
  have t1 : ((s.length : Int) == 0) = false := beq_false_of_ne (by omega)
  have t2 : decide (3 < (s.length : Int)) = false := decide_eq_false (by omega)
  have t3 : ((p.length : Int) != (s.length : Int)) = true := by simp; omega
  clear h
  go_enter Tryd.func27, Tryd.ntmps27
  go_wp2
  go_returns
  exact ⟨rfl, hBW⟩

set_option maxRecDepth 100000 in
set_option maxHeartbeats 8000000 in
theorem rSystem_right (s : List (List Um.Tm)) (v0 : Value) (p : List (Int × Int)) (v1 : Value) (w : World) (hf : Lf w.heap.size w v0 s) (hp : Ls w.heap.size w v1 p) (h0 : s ≠ []) (h3 : s.length ≤ 3) (h : p.length = s.length) :
    Calls Tryd.prog 27 #[.agg #[v0, v1]] w fun e w' => e = .returned (.int .i64 (Um.sysF s p)) ∧ Below w.heap.size w w' := by
  have E := hid (sysF_forms h0 (show ¬ 3 < s.length by omega) h)
  have hmx : Tryd.prog.follows .mixedOrders = true := by kernel_rfl
  have hs0 : 0 < s.length := List.length_pos_iff.2 h0
  obtain ⟨b1, off1, cap, rfl, hcap, hlt1, hall1⟩ := hf.open h0
  obtain ⟨b2, off2, cap2, rfl, hcap2, hA⟩ := hp.open (by intro e; rw [e] at h; simp at h; omega)
  have h1 : w.heap.size < (w.alloc (.cells #[.slice (some ⟨b1, off1, none⟩) s.length cap, .slice (some ⟨b2, off2, none⟩) p.length cap2] 26)).heap.size := by simp
  have hBW : Below w.heap.size w (w.alloc (.cells #[.slice (some ⟨b1, off1, none⟩) s.length cap, .slice (some ⟨b2, off2, none⟩) p.length cap2] 26)) := by go_grown
  obtain ⟨c0, c1⟩ := sys_cells w (.slice (some ⟨b1, off1, none⟩) s.length cap) (.slice (some ⟨b2, off2, none⟩) p.length cap2) 26
  have hF := Fr.start (w.alloc (.cells #[.slice (some ⟨b1, off1, none⟩) s.length cap, .slice (some ⟨b2, off2, none⟩) p.length cap2] 26))
  have y0 := c0
  have y1 := c1
  have hA2 := hA.step hBW
  have HU : Hid (∀ j, j < s.length → ∃ u, (w.alloc (.cells #[.slice (some ⟨b1, off1, none⟩) s.length cap, .slice (some ⟨b2, off2, none⟩) p.length cap2] 26)).cell? ⟨b1, off1 + j, none⟩ = some u ∧ Lt (w.alloc (.cells #[.slice (some ⟨b1, off1, none⟩) s.length cap, .slice (some ⟨b2, off2, none⟩) p.length cap2] 26)).heap.size (w.alloc (.cells #[.slice (some ⟨b1, off1, none⟩) s.length cap, .slice (some ⟨b2, off2, none⟩) p.length cap2] 26)) u (Um.nx s j)) := by
    intro j hj
    obtain ⟨u, hu, hl⟩ := hall1 j hj
    exact ⟨u, (hBW.cell (p := ⟨b1, off1 + j, none⟩) hlt1).trans hu, (hl.keep hBW).wide hBW.size⟩
  have hl1 : b1 < (w.alloc (.cells #[.slice (some ⟨b1, off1, none⟩) s.length cap, .slice (some ⟨b2, off2, none⟩) p.length cap2] 26)).heap.size := Nat.lt_of_lt_of_le hlt1 hBW.size
  have t1 : ((s.length : Int) == 0) = false := beq_false_of_ne (by omega)
  have t2 : decide (3 < (s.length : Int)) = false := decide_eq_false (by omega)
  have t3 : ((p.length : Int) != (s.length : Int)) = false := by simp [h]
  have HL := hid h
  have p3 : p.length ≤ 3 := by omega
  clear h h0 hf hp hall1 hA
  go_enter Tryd.func27, Tryd.ntmps27
  go_wp2
  clear y0 y1
  go_loopw [3] (fun i wr => ∃ k : Nat, k ≤ s.length ∧ i = .int .i64 k ∧ Fr (w.alloc (.cells #[.slice (some ⟨b1, off1, none⟩) s.length cap, .slice (some ⟨b2, off2, none⟩) p.length cap2] 26)) wr [] ∧ Hid (∀ j, j < k → Um.formF (Um.nx s j) s.length = 0)) (fun i _ => s.length - (intOf i).toNat)
  case atStart => exact ⟨0, Nat.zero_le _, rfl, hF, fun j hj => absurd hj (Nat.not_lt_zero _)⟩
  case round =>
    clear hF
    obtain ⟨k, hk, rfl, hF, hall⟩ := hrel
    by_cases hkl : k < s.length
    · have hkk : (k : Int) < (s.length : Int) := by omega
      have y0 := (hF.below.cell (p := ⟨w.heap.size, 0, none⟩) h1).trans c0
      have y1 := (hF.below.cell (p := ⟨w.heap.size, 1, none⟩) h1).trans c1
      obtain ⟨u, hu0, hu1⟩ := HU.out k hkl
      have yu := (hF.below.cell (p := ⟨b1, off1 + k, none⟩) hl1).trans hu0
      have hu := hF.lt hu1
      have hlw : w.heap.size < wr.heap.size := Nat.lt_of_lt_of_le h1 hF.size
      have hlb : b1 < wr.heap.size := Nat.lt_of_lt_of_le hl1 hF.size
      have HFo := fun w h => hid (form_below (Um.nx s k) s.length u w h)
      have HX := fun h => hid (Um.forms_first hkl hall.out h)
      have HN : Hid (Um.formF (Um.nx s k) s.length = 0 → ∀ j, j < k + 1 → Um.formF (Um.nx s j) s.length = 0) := by
        intro h j hj
        rcases (by omega : j < k ∨ j = k) with h2 | rfl
        · exact hall.out j h2
        · exact h
      clear hall HU hA2 hu0 hu1
      generalize Um.formF (Um.nx s k) s.length = G at *
      by_cases hc : G = 0
      · have kc : (G != 0) = false := by simpa using hc
        have HM := hid (HN.out hc)
        clear HX HN hc
        go_wp2
        obtain ⟨Inv, hInv⟩ : ∃ Inv : Array Bool → Act → World → Prop, ∀ listed aq W', Inv listed aq W' ↔ (∃ v29 v30 v31 v32 v33 v34 v35 v36 v37 v4 : Value, aq = { tmps := #[Value.agg #[Value.slice (some { block := b1, off := off1 }) s.length cap, Value.slice (some { block := b2, off := off2 }) p.length cap2], Value.pointer (some { block := w.heap.size, off := 0 }), u2, Value.int IntKind.i64 ↑k, v4, undef, undef, Value.pointer (some { block := w.heap.size, off := 0 }), Value.slice (some { block := b1, off := off1 }) s.length cap, Value.int IntKind.i64 ↑s.length, Value.bool false, Value.pointer (some { block := w.heap.size, off := 0 }), Value.slice (some { block := b1, off := off1 }) s.length cap, Value.int IntKind.i64 ↑s.length, Value.bool false, Value.pointer (some { block := w.heap.size, off := 1 }), Value.slice (some { block := b2, off := off2 }) p.length cap2, Value.int IntKind.i64 ↑p.length, Value.pointer (some { block := w.heap.size, off := 0 }), Value.slice (some { block := b1, off := off1 }) s.length cap, Value.int IntKind.i64 ↑s.length, Value.bool false, Value.int IntKind.i64 ↑k, Value.pointer (some { block := w.heap.size, off := 0 }), Value.slice (some { block := b1, off := off1 }) s.length cap, Value.int IntKind.i64 ↑s.length, Value.bool true, u27, u28, v29, v30, v31, v32, v33, v34, v35, v36, v37, u38, u39, u40, undef, undef, undef, undef, undef, undef, undef, undef, undef, undef, undef, undef, undef, undef, undef, undef], defers := [] } ∧ Below (wr).heap.size (wr) W' ∧ (listed.getD 0 false = true → v29 = .pointer (some ⟨w.heap.size, 0, none⟩)) ∧ (listed.getD 1 false = true → v30 = .slice (some ⟨b1, off1, none⟩) s.length cap) ∧ (listed.getD 2 false = true → v31 = Value.int IntKind.i64 ↑k) ∧ (listed.getD 3 false = true → v32 = .pointer (some ⟨b1, off1 + k, none⟩)) ∧ (listed.getD 4 false = true → v33 = u) ∧ (listed.getD 5 false = true → v34 = .pointer (some ⟨w.heap.size, 0, none⟩)) ∧ (listed.getD 6 false = true → v35 = .slice (some ⟨b1, off1, none⟩) s.length cap) ∧ (listed.getD 7 false = true → v36 = .int .i64 (s.length : Int)) ∧ (listed.getD 8 false = true → v37 = .int .i64 G) ∧ (listed.getD 9 false = true → v4 = .int .i64 G)) := ⟨_, fun _ _ _ => Iff.rfl⟩
        have HI := hid hInv
        clear hInv
        refine Free.region hmx (by kernel_rfl) Inv ?s1 ?s2 ?s3
        case s1 =>
          exact (HI.out _ _ _).2 ⟨u29, u30, u31, u32, u33, u34, u35, u36, u37, u4, rfl, (Below.refl _ _).drew, Free.not_yet, Free.not_yet, Free.not_yet, Free.not_yet, Free.not_yet, Free.not_yet, Free.not_yet, Free.not_yet, Free.not_yet, Free.not_yet⟩
        case s2 =>
          intro i listed aq W1 hix hne hnl hsz hv
          obtain ⟨v29, v30, v31, v32, v33, v34, v35, v36, v37, v4, rfl, hW, l0, l1, l2, l3, l4, l5, l6, l7, l8, l9⟩ := (HI.out _ _ _).1 hv
          clear hv
          replace hix : i < 10 := hix
          replace hsz : listed.size = 10 := hsz
          rcases (by omega : i = 0 ∨ i = 1 ∨ i = 2 ∨ i = 3 ∨ i = 4 ∨ i = 5 ∨ i = 6 ∨ i = 7 ∨ i = 8 ∨ i = 9) with rfl | rfl | rfl | rfl | rfl | rfl | rfl | rfl | rfl | rfl
          · refine Free.op rfl rfl (fun K hK => ?_)
            go_simp
            exact hK _ _ ((HI.out _ _ _).2 ⟨_, v30, v31, v32, v33, v34, v35, v36, v37, v4, rfl, hW, fun _ => rfl, Free.of_set (by decide) l1, Free.of_set (by decide) l2, Free.of_set (by decide) l3, Free.of_set (by decide) l4, Free.of_set (by decide) l5, Free.of_set (by decide) l6, Free.of_set (by decide) l7, Free.of_set (by decide) l8, Free.of_set (by decide) l9⟩)
          · have z := (hW.cell (p := ⟨w.heap.size, 0, none⟩) hlw).trans y0
            refine Free.op rfl rfl (fun K hK => ?_)
            obtain rfl := l0 (hne 0 (by kernel_rfl))
            go_simp
            exact hK _ _ ((HI.out _ _ _).2 ⟨_, _, v31, v32, v33, v34, v35, v36, v37, v4, rfl, hW, fun _ => rfl, fun _ => rfl, Free.of_set (by decide) l2, Free.of_set (by decide) l3, Free.of_set (by decide) l4, Free.of_set (by decide) l5, Free.of_set (by decide) l6, Free.of_set (by decide) l7, Free.of_set (by decide) l8, Free.of_set (by decide) l9⟩)
          · refine Free.op rfl rfl (fun K hK => ?_)
            go_simp
            exact hK _ _ ((HI.out _ _ _).2 ⟨v29, v30, _, v32, v33, v34, v35, v36, v37, v4, rfl, hW, Free.of_set (by decide) l0, Free.of_set (by decide) l1, fun _ => rfl, Free.of_set (by decide) l3, Free.of_set (by decide) l4, Free.of_set (by decide) l5, Free.of_set (by decide) l6, Free.of_set (by decide) l7, Free.of_set (by decide) l8, Free.of_set (by decide) l9⟩)
          · refine Free.op rfl rfl (fun K hK => ?_)
            obtain rfl := l1 (hne 1 (by kernel_rfl))
            obtain rfl := l2 (hne 2 (by kernel_rfl))
            go_simp
            exact hK _ _ ((HI.out _ _ _).2 ⟨v29, _, _, _, v33, v34, v35, v36, v37, v4, rfl, hW, Free.of_set (by decide) l0, fun _ => rfl, fun _ => rfl, fun _ => rfl, Free.of_set (by decide) l4, Free.of_set (by decide) l5, Free.of_set (by decide) l6, Free.of_set (by decide) l7, Free.of_set (by decide) l8, Free.of_set (by decide) l9⟩)
          · have z := (hW.cell (p := ⟨b1, off1 + k, none⟩) hlb).trans yu
            refine Free.op rfl rfl (fun K hK => ?_)
            obtain rfl := l3 (hne 3 (by kernel_rfl))
            go_simp
            exact hK _ _ ((HI.out _ _ _).2 ⟨v29, v30, v31, _, _, v34, v35, v36, v37, v4, rfl, hW, Free.of_set (by decide) l0, Free.of_set (by decide) l1, Free.of_set (by decide) l2, fun _ => rfl, fun _ => rfl, Free.of_set (by decide) l5, Free.of_set (by decide) l6, Free.of_set (by decide) l7, Free.of_set (by decide) l8, Free.of_set (by decide) l9⟩)
          · refine Free.op rfl rfl (fun K hK => ?_)
            go_simp
            exact hK _ _ ((HI.out _ _ _).2 ⟨v29, v30, v31, v32, v33, _, v35, v36, v37, v4, rfl, hW, Free.of_set (by decide) l0, Free.of_set (by decide) l1, Free.of_set (by decide) l2, Free.of_set (by decide) l3, Free.of_set (by decide) l4, fun _ => rfl, Free.of_set (by decide) l6, Free.of_set (by decide) l7, Free.of_set (by decide) l8, Free.of_set (by decide) l9⟩)
          · have z := (hW.cell (p := ⟨w.heap.size, 0, none⟩) hlw).trans y0
            refine Free.op rfl rfl (fun K hK => ?_)
            obtain rfl := l5 (hne 5 (by kernel_rfl))
            go_simp
            exact hK _ _ ((HI.out _ _ _).2 ⟨v29, v30, v31, v32, v33, _, _, v36, v37, v4, rfl, hW, Free.of_set (by decide) l0, Free.of_set (by decide) l1, Free.of_set (by decide) l2, Free.of_set (by decide) l3, Free.of_set (by decide) l4, fun _ => rfl, fun _ => rfl, Free.of_set (by decide) l7, Free.of_set (by decide) l8, Free.of_set (by decide) l9⟩)
          · refine Free.op rfl rfl (fun K hK => ?_)
            obtain rfl := l6 (hne 6 (by kernel_rfl))
            go_simp
            exact hK _ _ ((HI.out _ _ _).2 ⟨v29, v30, v31, v32, v33, v34, _, _, v37, v4, rfl, hW, Free.of_set (by decide) l0, Free.of_set (by decide) l1, Free.of_set (by decide) l2, Free.of_set (by decide) l3, Free.of_set (by decide) l4, Free.of_set (by decide) l5, fun _ => rfl, fun _ => rfl, Free.of_set (by decide) l8, Free.of_set (by decide) l9⟩)
          · refine Free.op rfl rfl (fun K hK => ?_)
            obtain rfl := l4 (hne 4 (by kernel_rfl))
            obtain rfl := l7 (hne 7 (by kernel_rfl))
            go_wp2_with (go_at_call 4; refine (HFo _ ((hu.keep hW).wide hW.size)).out.mono ?_; rintro e W3 ⟨rfl, hb⟩)
            exact (HI.out _ _ _).2 ⟨v29, v30, v31, v32, _, v34, v35, _, _, v4, rfl, hW.trans (hb.mono hW.size), Free.of_set (by decide) l0, Free.of_set (by decide) l1, Free.of_set (by decide) l2, Free.of_set (by decide) l3, fun _ => rfl, Free.of_set (by decide) l5, Free.of_set (by decide) l6, fun _ => rfl, fun _ => rfl, Free.of_set (by decide) l9⟩
          · refine Free.op rfl rfl (fun K hK => ?_)
            obtain rfl := l8 (hne 8 (by kernel_rfl))
            go_simp
            exact hK _ _ ((HI.out _ _ _).2 ⟨v29, v30, v31, v32, v33, v34, v35, v36, _, _, rfl, hW, Free.of_set (by decide) l0, Free.of_set (by decide) l1, Free.of_set (by decide) l2, Free.of_set (by decide) l3, Free.of_set (by decide) l4, Free.of_set (by decide) l5, Free.of_set (by decide) l6, Free.of_set (by decide) l7, fun _ => rfl, fun _ => rfl⟩)
        case s3 =>
          intro listed aq W1 hall hsz hv
          obtain ⟨v29, v30, v31, v32, v33, v34, v35, v36, v37, v4, rfl, hW, l0, l1, l2, l3, l4, l5, l6, l7, l8, l9⟩ := (HI.out _ _ _).1 hv
          clear hv HI
          obtain rfl := l0 (Free.listed_of hall hsz 0 (by decide))
          obtain rfl := l1 (Free.listed_of hall hsz 1 (by decide))
          obtain rfl := l2 (Free.listed_of hall hsz 2 (by decide))
          obtain rfl := l3 (Free.listed_of hall hsz 3 (by decide))
          obtain rfl := l4 (Free.listed_of hall hsz 4 (by decide))
          obtain rfl := l5 (Free.listed_of hall hsz 5 (by decide))
          obtain rfl := l6 (Free.listed_of hall hsz 6 (by decide))
          obtain rfl := l7 (Free.listed_of hall hsz 7 (by decide))
          obtain rfl := l8 (Free.listed_of hall hsz 8 (by decide))
          obtain rfl := l9 (Free.listed_of hall hsz 9 (by decide))
          clear hall hsz
          replace hF := hF.step hW
          clear hW y0 y1 yu hu
          go_wp2
          exact ⟨⟨k + 1, by omega, by simp, hF, HM.out⟩, by simp [intOf]; omega⟩

      · have kc : (G != 0) = true := by simpa using hc
        have HM0 := HX hc
        have HM : Hid (Um.sysF s p = G) := by rw [E.out, HM0.out, if_neg hc]; exact hid rfl
        clear HX HN hc HM0
        go_wp2
        obtain ⟨Inv, hInv⟩ : ∃ Inv : Array Bool → Act → World → Prop, ∀ listed aq W', Inv listed aq W' ↔ (∃ v29 v30 v31 v32 v33 v34 v35 v36 v37 v4 : Value, aq = { tmps := #[Value.agg #[Value.slice (some { block := b1, off := off1 }) s.length cap, Value.slice (some { block := b2, off := off2 }) p.length cap2], Value.pointer (some { block := w.heap.size, off := 0 }), u2, Value.int IntKind.i64 ↑k, v4, undef, undef, Value.pointer (some { block := w.heap.size, off := 0 }), Value.slice (some { block := b1, off := off1 }) s.length cap, Value.int IntKind.i64 ↑s.length, Value.bool false, Value.pointer (some { block := w.heap.size, off := 0 }), Value.slice (some { block := b1, off := off1 }) s.length cap, Value.int IntKind.i64 ↑s.length, Value.bool false, Value.pointer (some { block := w.heap.size, off := 1 }), Value.slice (some { block := b2, off := off2 }) p.length cap2, Value.int IntKind.i64 ↑p.length, Value.pointer (some { block := w.heap.size, off := 0 }), Value.slice (some { block := b1, off := off1 }) s.length cap, Value.int IntKind.i64 ↑s.length, Value.bool false, Value.int IntKind.i64 ↑k, Value.pointer (some { block := w.heap.size, off := 0 }), Value.slice (some { block := b1, off := off1 }) s.length cap, Value.int IntKind.i64 ↑s.length, Value.bool true, u27, u28, v29, v30, v31, v32, v33, v34, v35, v36, v37, u38, u39, u40, undef, undef, undef, undef, undef, undef, undef, undef, undef, undef, undef, undef, undef, undef, undef, undef], defers := [] } ∧ Below (wr).heap.size (wr) W' ∧ (listed.getD 0 false = true → v29 = .pointer (some ⟨w.heap.size, 0, none⟩)) ∧ (listed.getD 1 false = true → v30 = .slice (some ⟨b1, off1, none⟩) s.length cap) ∧ (listed.getD 2 false = true → v31 = Value.int IntKind.i64 ↑k) ∧ (listed.getD 3 false = true → v32 = .pointer (some ⟨b1, off1 + k, none⟩)) ∧ (listed.getD 4 false = true → v33 = u) ∧ (listed.getD 5 false = true → v34 = .pointer (some ⟨w.heap.size, 0, none⟩)) ∧ (listed.getD 6 false = true → v35 = .slice (some ⟨b1, off1, none⟩) s.length cap) ∧ (listed.getD 7 false = true → v36 = .int .i64 (s.length : Int)) ∧ (listed.getD 8 false = true → v37 = .int .i64 G) ∧ (listed.getD 9 false = true → v4 = .int .i64 G)) := ⟨_, fun _ _ _ => Iff.rfl⟩
        have HI := hid hInv
        clear hInv
        refine Free.region hmx (by kernel_rfl) Inv ?s1 ?s2 ?s3
        case s1 =>
          exact (HI.out _ _ _).2 ⟨u29, u30, u31, u32, u33, u34, u35, u36, u37, u4, rfl, (Below.refl _ _).drew, Free.not_yet, Free.not_yet, Free.not_yet, Free.not_yet, Free.not_yet, Free.not_yet, Free.not_yet, Free.not_yet, Free.not_yet, Free.not_yet⟩
        case s2 =>
          intro i listed aq W1 hix hne hnl hsz hv
          obtain ⟨v29, v30, v31, v32, v33, v34, v35, v36, v37, v4, rfl, hW, l0, l1, l2, l3, l4, l5, l6, l7, l8, l9⟩ := (HI.out _ _ _).1 hv
          clear hv
          replace hix : i < 10 := hix
          replace hsz : listed.size = 10 := hsz
          rcases (by omega : i = 0 ∨ i = 1 ∨ i = 2 ∨ i = 3 ∨ i = 4 ∨ i = 5 ∨ i = 6 ∨ i = 7 ∨ i = 8 ∨ i = 9) with rfl | rfl | rfl | rfl | rfl | rfl | rfl | rfl | rfl | rfl
          · refine Free.op rfl rfl (fun K hK => ?_)
            go_simp
            exact hK _ _ ((HI.out _ _ _).2 ⟨_, v30, v31, v32, v33, v34, v35, v36, v37, v4, rfl, hW, fun _ => rfl, Free.of_set (by decide) l1, Free.of_set (by decide) l2, Free.of_set (by decide) l3, Free.of_set (by decide) l4, Free.of_set (by decide) l5, Free.of_set (by decide) l6, Free.of_set (by decide) l7, Free.of_set (by decide) l8, Free.of_set (by decide) l9⟩)
          · have z := (hW.cell (p := ⟨w.heap.size, 0, none⟩) hlw).trans y0
            refine Free.op rfl rfl (fun K hK => ?_)
            obtain rfl := l0 (hne 0 (by kernel_rfl))
            go_simp
            exact hK _ _ ((HI.out _ _ _).2 ⟨_, _, v31, v32, v33, v34, v35, v36, v37, v4, rfl, hW, fun _ => rfl, fun _ => rfl, Free.of_set (by decide) l2, Free.of_set (by decide) l3, Free.of_set (by decide) l4, Free.of_set (by decide) l5, Free.of_set (by decide) l6, Free.of_set (by decide) l7, Free.of_set (by decide) l8, Free.of_set (by decide) l9⟩)
          · refine Free.op rfl rfl (fun K hK => ?_)
            go_simp
            exact hK _ _ ((HI.out _ _ _).2 ⟨v29, v30, _, v32, v33, v34, v35, v36, v37, v4, rfl, hW, Free.of_set (by decide) l0, Free.of_set (by decide) l1, fun _ => rfl, Free.of_set (by decide) l3, Free.of_set (by decide) l4, Free.of_set (by decide) l5, Free.of_set (by decide) l6, Free.of_set (by decide) l7, Free.of_set (by decide) l8, Free.of_set (by decide) l9⟩)
          · refine Free.op rfl rfl (fun K hK => ?_)
            obtain rfl := l1 (hne 1 (by kernel_rfl))
            obtain rfl := l2 (hne 2 (by kernel_rfl))
            go_simp
            exact hK _ _ ((HI.out _ _ _).2 ⟨v29, _, _, _, v33, v34, v35, v36, v37, v4, rfl, hW, Free.of_set (by decide) l0, fun _ => rfl, fun _ => rfl, fun _ => rfl, Free.of_set (by decide) l4, Free.of_set (by decide) l5, Free.of_set (by decide) l6, Free.of_set (by decide) l7, Free.of_set (by decide) l8, Free.of_set (by decide) l9⟩)
          · have z := (hW.cell (p := ⟨b1, off1 + k, none⟩) hlb).trans yu
            refine Free.op rfl rfl (fun K hK => ?_)
            obtain rfl := l3 (hne 3 (by kernel_rfl))
            go_simp
            exact hK _ _ ((HI.out _ _ _).2 ⟨v29, v30, v31, _, _, v34, v35, v36, v37, v4, rfl, hW, Free.of_set (by decide) l0, Free.of_set (by decide) l1, Free.of_set (by decide) l2, fun _ => rfl, fun _ => rfl, Free.of_set (by decide) l5, Free.of_set (by decide) l6, Free.of_set (by decide) l7, Free.of_set (by decide) l8, Free.of_set (by decide) l9⟩)
          · refine Free.op rfl rfl (fun K hK => ?_)
            go_simp
            exact hK _ _ ((HI.out _ _ _).2 ⟨v29, v30, v31, v32, v33, _, v35, v36, v37, v4, rfl, hW, Free.of_set (by decide) l0, Free.of_set (by decide) l1, Free.of_set (by decide) l2, Free.of_set (by decide) l3, Free.of_set (by decide) l4, fun _ => rfl, Free.of_set (by decide) l6, Free.of_set (by decide) l7, Free.of_set (by decide) l8, Free.of_set (by decide) l9⟩)
          · have z := (hW.cell (p := ⟨w.heap.size, 0, none⟩) hlw).trans y0
            refine Free.op rfl rfl (fun K hK => ?_)
            obtain rfl := l5 (hne 5 (by kernel_rfl))
            go_simp
            exact hK _ _ ((HI.out _ _ _).2 ⟨v29, v30, v31, v32, v33, _, _, v36, v37, v4, rfl, hW, Free.of_set (by decide) l0, Free.of_set (by decide) l1, Free.of_set (by decide) l2, Free.of_set (by decide) l3, Free.of_set (by decide) l4, fun _ => rfl, fun _ => rfl, Free.of_set (by decide) l7, Free.of_set (by decide) l8, Free.of_set (by decide) l9⟩)
          · refine Free.op rfl rfl (fun K hK => ?_)
            obtain rfl := l6 (hne 6 (by kernel_rfl))
            go_simp
            exact hK _ _ ((HI.out _ _ _).2 ⟨v29, v30, v31, v32, v33, v34, _, _, v37, v4, rfl, hW, Free.of_set (by decide) l0, Free.of_set (by decide) l1, Free.of_set (by decide) l2, Free.of_set (by decide) l3, Free.of_set (by decide) l4, Free.of_set (by decide) l5, fun _ => rfl, fun _ => rfl, Free.of_set (by decide) l8, Free.of_set (by decide) l9⟩)
          · refine Free.op rfl rfl (fun K hK => ?_)
            obtain rfl := l4 (hne 4 (by kernel_rfl))
            obtain rfl := l7 (hne 7 (by kernel_rfl))
            go_wp2_with (go_at_call 4; refine (HFo _ ((hu.keep hW).wide hW.size)).out.mono ?_; rintro e W3 ⟨rfl, hb⟩)
            exact (HI.out _ _ _).2 ⟨v29, v30, v31, v32, _, v34, v35, _, _, v4, rfl, hW.trans (hb.mono hW.size), Free.of_set (by decide) l0, Free.of_set (by decide) l1, Free.of_set (by decide) l2, Free.of_set (by decide) l3, fun _ => rfl, Free.of_set (by decide) l5, Free.of_set (by decide) l6, fun _ => rfl, fun _ => rfl, Free.of_set (by decide) l9⟩
          · refine Free.op rfl rfl (fun K hK => ?_)
            obtain rfl := l8 (hne 8 (by kernel_rfl))
            go_simp
            exact hK _ _ ((HI.out _ _ _).2 ⟨v29, v30, v31, v32, v33, v34, v35, v36, _, _, rfl, hW, Free.of_set (by decide) l0, Free.of_set (by decide) l1, Free.of_set (by decide) l2, Free.of_set (by decide) l3, Free.of_set (by decide) l4, Free.of_set (by decide) l5, Free.of_set (by decide) l6, Free.of_set (by decide) l7, fun _ => rfl, fun _ => rfl⟩)
        case s3 =>
          intro listed aq W1 hall hsz hv
          obtain ⟨v29, v30, v31, v32, v33, v34, v35, v36, v37, v4, rfl, hW, l0, l1, l2, l3, l4, l5, l6, l7, l8, l9⟩ := (HI.out _ _ _).1 hv
          clear hv HI
          obtain rfl := l0 (Free.listed_of hall hsz 0 (by decide))
          obtain rfl := l1 (Free.listed_of hall hsz 1 (by decide))
          obtain rfl := l2 (Free.listed_of hall hsz 2 (by decide))
          obtain rfl := l3 (Free.listed_of hall hsz 3 (by decide))
          obtain rfl := l4 (Free.listed_of hall hsz 4 (by decide))
          obtain rfl := l5 (Free.listed_of hall hsz 5 (by decide))
          obtain rfl := l6 (Free.listed_of hall hsz 6 (by decide))
          obtain rfl := l7 (Free.listed_of hall hsz 7 (by decide))
          obtain rfl := l8 (Free.listed_of hall hsz 8 (by decide))
          obtain rfl := l9 (Free.listed_of hall hsz 9 (by decide))
          clear hall hsz
          replace hF := hF.step hW
          clear hW y0 y1 yu hu
          go_wp2
          go_returns
          rw [HM.out]
          exact ⟨rfl, hBW.trans (hF.below.mono hBW.size)⟩

    · obtain rfl : k = s.length := by omega
      have HZ : Hid (Um.sysF s p = Um.sidesF p) := by
        rw [E.out, if_pos (Um.forms_ok.2 fun f hf => by
          obtain ⟨i, hi, rfl⟩ := List.getElem_of_mem hf
          have := hall.out i hi
          unfold Um.nx at this
          rw [List.getElem?_eq_getElem hi] at this
          exact this)]
        exact hid rfl
      have y0 := (hF.below.cell (p := ⟨w.heap.size, 0, none⟩) h1).trans c0
      have y1 := (hF.below.cell (p := ⟨w.heap.size, 1, none⟩) h1).trans c1
      clear hall HU
      go_wp2
      clear y0 y1
      go_loopw [5] (fun i wq => ∃ k : Nat, k ≤ p.length ∧ i = .int .i64 k ∧ Fr (w.alloc (.cells #[.slice (some ⟨b1, off1, none⟩) s.length cap, .slice (some ⟨b2, off2, none⟩) p.length cap2] 26)) wq [] ∧ Hid (∀ j, j < k → Um.chk (Um.sd p j).1 (Um.sd p j).2 = 0)) (fun i _ => p.length - (intOf i).toNat)
      case atStart => exact ⟨0, Nat.zero_le _, rfl, hF, fun j hj => absurd hj (Nat.not_lt_zero _)⟩
      case round =>
        clear hF
        obtain ⟨k, hk', rfl, hF, hall⟩ := hrel
        have y0 := (hF.below.cell (p := ⟨w.heap.size, 0, none⟩) h1).trans c0
        have y1 := (hF.below.cell (p := ⟨w.heap.size, 1, none⟩) h1).trans c1
        by_cases hkl' : k < p.length
        · have hkk : (k : Int) < (p.length : Int) := by omega
          have z0 := (hA2.step hF.below).lo k (Um.sd_some hkl') rfl
          have z1 := (hA2.step hF.below).hi k (Um.sd_some hkl') rfl
          have HX := fun h => hid (Um.sides_first hkl' hall.out h)
          have HN : Hid (Um.chk (Um.sd p k).1 (Um.sd p k).2 = 0 → ∀ j, j < k + 1 → Um.chk (Um.sd p j).1 (Um.sd p j).2 = 0) := by
            intro h j hj
            rcases (by omega : j < k ∨ j = k) with h2 | rfl
            · exact hall.out j h2
            · exact h
          clear hall hA2
          generalize Um.sd p k = q at *
          obtain ⟨D0, D1⟩ := q
          simp only at z0 z1 HX
          have HC := fun w => hid (rSpan_any D0 D1 w)
          by_cases hc : Um.chk D0 D1 = 0
          · have kc : (Um.chk D0 D1 != 0) = false := by simpa using hc
            have HM := hid (HN.out hc)
            clear HX HN hc
            generalize Um.chk D0 D1 = G at *
            go_wp2_with (go_at_call 45; refine (HC _).out.mono ?_; rintro e wn ⟨rfl, rfl⟩; replace hF := (hF.alloc (.cells #[.int .i64 D0, .int .i64 D1] 55)).alloc (.cells #[.int .i64 D0, .int .i64 D1] 55))
            exact ⟨⟨k + 1, by omega, by simp, hF, HM.out⟩, by simp [intOf]; omega⟩
          · have kc : (Um.chk D0 D1 != 0) = true := by simpa using hc
            have HM := HX hc
            clear HX HN hc
            generalize Um.chk D0 D1 = G at *
            go_wp2_with (go_at_call 45; refine (HC _).out.mono ?_; rintro e wn ⟨rfl, rfl⟩; replace hF := (hF.alloc (.cells #[.int .i64 D0, .int .i64 D1] 55)).alloc (.cells #[.int .i64 D0, .int .i64 D1] 55))
            go_returns
            rw [HZ.out, HM.out]
            exact ⟨rfl, hBW.trans (hF.below.mono hBW.size)⟩
        · obtain rfl : k = p.length := by omega
          have HM : Hid (Um.sidesF p = 0) := Um.sides_ok.2 fun q hq => by
            obtain ⟨j, hj, rfl⟩ := List.getElem_of_mem hq
            have := hall.out j hj
            unfold Um.sd at this
            rw [List.getElem?_eq_getElem hj] at this
            exact this
          clear hall hA2
          go_wp2
          go_returns
          rw [HZ.out, HM.out]
          exact ⟨rfl, hBW.trans (hF.below.mono hBW.size)⟩

theorem rSystem_any (s : List (List Um.Tm)) (v0 : Value) (p : List (Int × Int)) (v1 : Value) (w : World) (hf : Lf w.heap.size w v0 s) (hp : Ls w.heap.size w v1 p) :
    Calls Tryd.prog 27 #[.agg #[v0, v1]] w fun e w' => e = .returned (.int .i64 (Um.sysF s p)) ∧ Below w.heap.size w w' := by
  by_cases h0 : s = []
  · subst h0
    rw [sysF_none]
    exact rSystem_none [] v0 p v1 w hf hp rfl
  · have hs0 : 0 < s.length := List.length_pos_iff.2 h0
    by_cases h3 : 3 < s.length
    · rw [sysF_full h3]
      exact rSystem_full s v0 p v1 w hf hp h3
    · by_cases h : p.length = s.length
      · exact rSystem_right s v0 p v1 w hf hp h0 (by omega) h
      · rw [sysF_shape h0 h3 h]
        exact rSystem_shape s v0 p v1 w hf hp hs0 (by omega) h

set_option maxRecDepth 100000 in
set_option maxHeartbeats 8000000 in
theorem rReady_sys (s : List (List Um.Tm)) (v0 : Value) (p : List (Int × Int)) (v1 : Value) (b : List (Int × Int)) (v : Value) (w : World) (hf : Lf w.heap.size w v0 s) (hp : Ls w.heap.size w v1 p) (hs : Ls w.heap.size w v b) (h : ¬ Um.sysF s p = 0) :
    Calls Tryd.prog 18 #[.agg #[v0, v1], v] w fun e w' => e = .returned (.int .i64 (Um.readyF s p b)) ∧ Below w.heap.size w w' := by
  obtain ⟨a0, cap0, rfl, -⟩ := (id hf)
  obtain ⟨a1, cap1, rfl, -⟩ := (id hp)
  obtain ⟨a2, cap2, rfl, -⟩ := (id hs)
  have h1 : w.heap.size < (w.alloc (.cells #[.slice a0 s.length cap0, .slice a1 p.length cap1] 26)).heap.size := by simp
  have hBW : Below w.heap.size w (w.alloc (.cells #[.slice a0 s.length cap0, .slice a1 p.length cap1] 26)) := by go_grown
  obtain ⟨c0, c1⟩ := sys_cells w (.slice a0 s.length cap0) (.slice a1 p.length cap1) 26
  have hF := Fr.start (w.alloc (.cells #[.slice a0 s.length cap0, .slice a1 p.length cap1] 26))
  have y0 := c0
  have y1 := c1
  have hf2 := hf.step hBW
  have hp2 := hp.step hBW
  have hb2 := hs.step hBW
  have HSY := fun w h1 h2 => hid (rSystem_any s (.slice a0 s.length cap0) p (.slice a1 p.length cap1) w h1 h2)
  have HBX := fun w h => hid (rBox_any b (.slice a2 b.length cap2) w h)
  have L : Hid (Um.readyF s p b = Um.sysF s p) := by unfold Um.readyF; rw [if_neg h]; exact hid rfl
  have k : (Um.sysF s p == 0) = false := by simpa using h
  clear h
  generalize Um.sysF s p = G at *
  clear hf hp hs
  go_enter Tryd.func18, Tryd.ntmps18
  clear y0 y1
  have y0 := c0
  have y1 := c1
  go_wp2_with (first | (go_at_call 27; refine (HSY _ (hF.lf hf2) (hF.ls hp2)).out.mono ?_; rintro e wn ⟨rfl, hb⟩; replace hF := hF.step hb; clear hb; clear HSY y0 y1; have y0 := (hF.below.cell (p := ⟨w.heap.size, 0, none⟩) h1).trans c0) | (go_at_call 28; refine (HBX _ (hF.ls hb2)).out.mono ?_; rintro e wn ⟨rfl, hb⟩; replace hF := hF.step hb; clear hb; clear HBX y0; have y0 := (hF.below.cell (p := ⟨w.heap.size, 0, none⟩) h1).trans c0))
  go_returns
  rw [L.out]
  exact ⟨rfl, hBW.trans (hF.below.mono hBW.size)⟩

set_option maxRecDepth 100000 in
set_option maxHeartbeats 8000000 in
theorem rReady_box (s : List (List Um.Tm)) (v0 : Value) (p : List (Int × Int)) (v1 : Value) (b : List (Int × Int)) (v : Value) (w : World) (hf : Lf w.heap.size w v0 s) (hp : Ls w.heap.size w v1 p) (hs : Ls w.heap.size w v b) (h : Um.sysF s p = 0) (h2 : ¬ Um.boxF b = 0) :
    Calls Tryd.prog 18 #[.agg #[v0, v1], v] w fun e w' => e = .returned (.int .i64 (Um.readyF s p b)) ∧ Below w.heap.size w w' := by
  obtain ⟨a0, cap0, rfl, -⟩ := (id hf)
  obtain ⟨a1, cap1, rfl, -⟩ := (id hp)
  obtain ⟨a2, cap2, rfl, -⟩ := (id hs)
  have h1 : w.heap.size < (w.alloc (.cells #[.slice a0 s.length cap0, .slice a1 p.length cap1] 26)).heap.size := by simp
  have hBW : Below w.heap.size w (w.alloc (.cells #[.slice a0 s.length cap0, .slice a1 p.length cap1] 26)) := by go_grown
  obtain ⟨c0, c1⟩ := sys_cells w (.slice a0 s.length cap0) (.slice a1 p.length cap1) 26
  have hF := Fr.start (w.alloc (.cells #[.slice a0 s.length cap0, .slice a1 p.length cap1] 26))
  have y0 := c0
  have y1 := c1
  have hf2 := hf.step hBW
  have hp2 := hp.step hBW
  have hb2 := hs.step hBW
  have HSY := fun w h1 h2 => hid (rSystem_any s (.slice a0 s.length cap0) p (.slice a1 p.length cap1) w h1 h2)
  have HBX := fun w h => hid (rBox_any b (.slice a2 b.length cap2) w h)
  have L : Hid (Um.readyF s p b = Um.boxF b) := by unfold Um.readyF; rw [if_pos h, if_neg h2]; exact hid rfl
  rw [h] at HSY
  have k : (Um.boxF b == 0) = false := by simpa using h2
  clear h h2
  generalize Um.boxF b = G at *
  clear hf hp hs
  go_enter Tryd.func18, Tryd.ntmps18
  clear y0 y1
  have y0 := c0
  have y1 := c1
  go_wp2_with (first | (go_at_call 27; refine (HSY _ (hF.lf hf2) (hF.ls hp2)).out.mono ?_; rintro e wn ⟨rfl, hb⟩; replace hF := hF.step hb; clear hb; clear HSY y0 y1; have y0 := (hF.below.cell (p := ⟨w.heap.size, 0, none⟩) h1).trans c0) | (go_at_call 28; refine (HBX _ (hF.ls hb2)).out.mono ?_; rintro e wn ⟨rfl, hb⟩; replace hF := hF.step hb; clear hb; clear HBX y0; have y0 := (hF.below.cell (p := ⟨w.heap.size, 0, none⟩) h1).trans c0))
  go_returns
  rw [L.out]
  exact ⟨rfl, hBW.trans (hF.below.mono hBW.size)⟩

set_option maxRecDepth 100000 in
set_option maxHeartbeats 8000000 in
theorem rReady_n (s : List (List Um.Tm)) (v0 : Value) (p : List (Int × Int)) (v1 : Value) (b : List (Int × Int)) (v : Value) (w : World) (hf : Lf w.heap.size w v0 s) (hp : Ls w.heap.size w v1 p) (hs : Ls w.heap.size w v b) (h : Um.sysF s p = 0) (h2 : Um.boxF b = 0) (h3 : ¬ b.length = s.length) :
    Calls Tryd.prog 18 #[.agg #[v0, v1], v] w fun e w' => e = .returned (.int .i64 (Um.readyF s p b)) ∧ Below w.heap.size w w' := by
  obtain ⟨a0, cap0, rfl, -⟩ := (id hf)
  obtain ⟨a1, cap1, rfl, -⟩ := (id hp)
  obtain ⟨a2, cap2, rfl, -⟩ := (id hs)
  have h1 : w.heap.size < (w.alloc (.cells #[.slice a0 s.length cap0, .slice a1 p.length cap1] 26)).heap.size := by simp
  have hBW : Below w.heap.size w (w.alloc (.cells #[.slice a0 s.length cap0, .slice a1 p.length cap1] 26)) := by go_grown
  obtain ⟨c0, c1⟩ := sys_cells w (.slice a0 s.length cap0) (.slice a1 p.length cap1) 26
  have hF := Fr.start (w.alloc (.cells #[.slice a0 s.length cap0, .slice a1 p.length cap1] 26))
  have y0 := c0
  have y1 := c1
  have hf2 := hf.step hBW
  have hp2 := hp.step hBW
  have hb2 := hs.step hBW
  have HSY := fun w h1 h2 => hid (rSystem_any s (.slice a0 s.length cap0) p (.slice a1 p.length cap1) w h1 h2)
  have HBX := fun w h => hid (rBox_any b (.slice a2 b.length cap2) w h)
  have L : Hid (Um.readyF s p b = 3) := by unfold Um.readyF; rw [if_pos h, if_pos h2, if_neg h3]; exact hid rfl
  rw [h] at HSY
  rw [h2] at HBX
  have k : ((b.length : Int) != (s.length : Int)) = true := by simp; omega
  clear h h2 h3
  clear hf hp hs
  go_enter Tryd.func18, Tryd.ntmps18
  clear y0 y1
  have y0 := c0
  have y1 := c1
  go_wp2_with (first | (go_at_call 27; refine (HSY _ (hF.lf hf2) (hF.ls hp2)).out.mono ?_; rintro e wn ⟨rfl, hb⟩; replace hF := hF.step hb; clear hb; clear HSY y0 y1; have y0 := (hF.below.cell (p := ⟨w.heap.size, 0, none⟩) h1).trans c0) | (go_at_call 28; refine (HBX _ (hF.ls hb2)).out.mono ?_; rintro e wn ⟨rfl, hb⟩; replace hF := hF.step hb; clear hb; clear HBX y0; have y0 := (hF.below.cell (p := ⟨w.heap.size, 0, none⟩) h1).trans c0))
  go_returns
  rw [L.out]
  exact ⟨rfl, hBW.trans (hF.below.mono hBW.size)⟩

set_option maxRecDepth 100000 in
set_option maxHeartbeats 8000000 in
theorem rReady_y (s : List (List Um.Tm)) (v0 : Value) (p : List (Int × Int)) (v1 : Value) (b : List (Int × Int)) (v : Value) (w : World) (hf : Lf w.heap.size w v0 s) (hp : Ls w.heap.size w v1 p) (hs : Ls w.heap.size w v b) (h : Um.sysF s p = 0) (h2 : Um.boxF b = 0) (h3 : b.length = s.length) :
    Calls Tryd.prog 18 #[.agg #[v0, v1], v] w fun e w' => e = .returned (.int .i64 (Um.readyF s p b)) ∧ Below w.heap.size w w' := by
  obtain ⟨a0, cap0, rfl, -⟩ := (id hf)
  obtain ⟨a1, cap1, rfl, -⟩ := (id hp)
  obtain ⟨a2, cap2, rfl, -⟩ := (id hs)
  have h1 : w.heap.size < (w.alloc (.cells #[.slice a0 s.length cap0, .slice a1 p.length cap1] 26)).heap.size := by simp
  have hBW : Below w.heap.size w (w.alloc (.cells #[.slice a0 s.length cap0, .slice a1 p.length cap1] 26)) := by go_grown
  obtain ⟨c0, c1⟩ := sys_cells w (.slice a0 s.length cap0) (.slice a1 p.length cap1) 26
  have hF := Fr.start (w.alloc (.cells #[.slice a0 s.length cap0, .slice a1 p.length cap1] 26))
  have y0 := c0
  have y1 := c1
  have hf2 := hf.step hBW
  have hp2 := hp.step hBW
  have hb2 := hs.step hBW
  have HSY := fun w h1 h2 => hid (rSystem_any s (.slice a0 s.length cap0) p (.slice a1 p.length cap1) w h1 h2)
  have HBX := fun w h => hid (rBox_any b (.slice a2 b.length cap2) w h)
  have L : Hid (Um.readyF s p b = 0) := by unfold Um.readyF; rw [if_pos h, if_pos h2, if_pos h3]; exact hid rfl
  rw [h] at HSY
  rw [h2] at HBX
  have k : ((b.length : Int) != (s.length : Int)) = false := by simp [h3]
  clear h h2 h3
  clear hf hp hs
  go_enter Tryd.func18, Tryd.ntmps18
  clear y0 y1
  have y0 := c0
  have y1 := c1
  go_wp2_with (first | (go_at_call 27; refine (HSY _ (hF.lf hf2) (hF.ls hp2)).out.mono ?_; rintro e wn ⟨rfl, hb⟩; replace hF := hF.step hb; clear hb; clear HSY y0 y1; have y0 := (hF.below.cell (p := ⟨w.heap.size, 0, none⟩) h1).trans c0) | (go_at_call 28; refine (HBX _ (hF.ls hb2)).out.mono ?_; rintro e wn ⟨rfl, hb⟩; replace hF := hF.step hb; clear hb; clear HBX y0; have y0 := (hF.below.cell (p := ⟨w.heap.size, 0, none⟩) h1).trans c0))
  go_returns
  rw [L.out]
  exact ⟨rfl, hBW.trans (hF.below.mono hBW.size)⟩

theorem rReady_any (s : List (List Um.Tm)) (v0 : Value) (p : List (Int × Int)) (v1 : Value) (b : List (Int × Int)) (v : Value) (w : World) (hf : Lf w.heap.size w v0 s) (hp : Ls w.heap.size w v1 p) (hs : Ls w.heap.size w v b) :
    Calls Tryd.prog 18 #[.agg #[v0, v1], v] w fun e w' => e = .returned (.int .i64 (Um.readyF s p b)) ∧ Below w.heap.size w w' := by
  by_cases h : Um.sysF s p = 0
  · by_cases h2 : Um.boxF b = 0
    · by_cases h3 : b.length = s.length
      · exact rReady_y s v0 p v1 b v w hf hp hs h h2 h3
      · exact rReady_n s v0 p v1 b v w hf hp hs h h2 h3
    · exact rReady_box s v0 p v1 b v w hf hp hs h h2
  · exact rReady_sys s v0 p v1 b v w hf hp hs h
end Go.Proofs.YtmkdjaafkigemaaDoor
