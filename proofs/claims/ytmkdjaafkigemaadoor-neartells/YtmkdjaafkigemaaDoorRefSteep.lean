/-
  What the document's answer (package spanref2) is to how a right polynomial changes by an unknown: Steep.
-/
import Derived.Test.YtmkdjaafkigemaaDoorRef
import Derived.Test.YtmkdjaafkigemaaDoorMems2
import Derived.Test.YtmkdjaafkigemaaDoorMaths4
import Derived.Test.YtmkdjaafkigemaaDoorRefSplit
import Derived.Test.YtmkdjaafkigemaaDoorMems
import Derived.Deep.CutRange
namespace Go.Proofs.YtmkdjaafkigemaaDoor
set_option linter.unusedSimpArgs false
open Go.RowKit

theorem info_terms : (Tryd.prog.info? 49).map (fun i => (i.zero, i.size, i.bytes)) = some (some (.agg #[.int .i64 0, .int .i64 0, .int .i64 0, .int .i64 0]), 4, 32) := by kernel_rfl
theorem cell_four_new (w : World) (a b c d : Value) (t : TypeId) : ∀ j u, [a, b, c, d][j]? = some u → (w.alloc (.cells #[a, b, c, d] t)).cell? ((⟨w.heap.size, 0, none⟩ : Addr).add j) = some u := by
  intro j u hj
  match j, hj with
  | 0, hj => simp at hj; subst hj; simp [Addr.add]
  | 1, hj => simp at hj; subst hj; simp [Addr.add]
  | 2, hj => simp at hj; subst hj; simp [Addr.add]
  | 3, hj => simp at hj; subst hj; simp [Addr.add]
  | k + 4, hj => simp at hj

set_option maxRecDepth 100000 in
set_option maxHeartbeats 8000000 in
theorem rSteep_0 (f : List Um.Tm) (u : Value) (w : World) (hl : Lt w.heap.size w u f) (hf : ∀ i, i < f.length → Um.tmP (Um.tm f i)) (h6 : f.length ≤ 6) (h0 : f ≠ []) :
    Calls Tryd.prog 5 #[u, .int .i64 0] w fun e w' => ∃ r, e = .returned (.tuple #[r, .int .i64 (Um.steepN f 0 f.length).2]) ∧ Lt w'.heap.size w' r (Um.steepN f 0 f.length).1 ∧ Below w.heap.size w w' := by
  have hmx : Tryd.prog.follows .mixedOrders = true := by kernel_rfl
  obtain ⟨i0, hi0, hz0, hz1, hz2⟩ := info_parts info_terms
  obtain ⟨b, off, cap, rfl, -, hA0⟩ := hl.open h0
  clear hl h0
  go_enter Tryd.func5, Tryd.ntmps5
  go_wp2
  go_loopw [6, 7] (fun u i wr => ∃ j : Nat, j ≤ f.length ∧ i = .int .i64 j ∧ wr.ownsRow w.heap.size 49 4 u (Um.steepN f 0 j).1.length (cellsT (Um.steepN f 0 j).1) ∧ Below w.heap.size w wr ∧ Hid ((Um.steepN f 0 j).2 = 0)) (fun _ i _ => f.length - (intOf i).toNat)
  case atStart => exact ⟨0, Nat.zero_le _, rfl, World.ownsRow_nil _ _ _ _, Below.refl _ _, rfl⟩
  case round =>
    obtain ⟨j, hj, rfl, hown, hBe, hZ⟩ := hrel
    by_cases hjl : j < f.length
    · have hjj : (j : Int) < (f.length : Int) := by omega
      obtain ⟨c0, c1, c2, c3⟩ := (hA0.step hBe).2 j hjl
      have HP := hid (hf j hjl)
      have HSK := fun h2 => hid (Um.steep_skip (k := 0) hZ.out h2)
      have HMO := fun h2 h3 => hid (Um.steep_more (k := 0) hZ.out h2 h3)
      have HFU := fun h2 h3 => hid (Um.steep_full (k := 0) hjl hZ.out h2 h3)
      have hln := Um.steep_len f 0 j
      clear hA0
      generalize Um.tm f j = t at *
      obtain ⟨t0, t1, t2, t3⟩ := t
      simp only at c0 c1 c2 c3
      have HO := hid (hown.alloc (.cells #[.int .i64 t0, .int .i64 t1, .int .i64 t2, .int .i64 t3] 49))
      have HBE := hid (hBe.alloc hBe.size (.cells #[.int .i64 t0, .int .i64 t1, .int .i64 t2, .int .i64 t3] 49))
      have HB := hid (Blk.new wr 49 #[.int .i64 t0, .int .i64 t1, .int .i64 t2, .int .i64 t3])
      have hsz := hBe.size
      by_cases ht : t1 = 0
      · have ct : (t1 == 0) = true := by simpa using ht
        have HM := HSK ht
        clear HSK HMO HFU HP ht hown hBe
        go_wp2
        exact ⟨⟨j + 1, by omega, by simp, by rw [HM.out]; exact HO.out, HBE.out, by rw [HM.out]; exact hZ⟩, by simp [intOf]; omega⟩
      · have ct : (t1 == 0) = false := by simpa using ht
        have HWR : Hid (IntKind.i64.wrap (t0 * t1) = t0 * t1 ∧ -3000000000 ≤ t0 * t1 ∧ t0 * t1 ≤ 3000000000 ∧ 0 < t1 ∧ t1 ≤ 3) := hid (by
          have q := HP.out
          have q2 := Um.tm_times q 0
          obtain ⟨m1, m2⟩ := (Um.may_iff _).1 q.1
          have q3 : 0 ≤ t1 ∧ t1 ≤ 3 := q2
          obtain ⟨p1, p2⟩ := Um.mul_by (A := 1000000000) (B := 3) (a := t0) (b := t1) (by omega) (by omega) (by omega) (by omega) (by decide)
          refine ⟨by rw [IntKind.wrap_i64]; omega, by omega, by omega, by omega, by omega⟩)
        have HBW := hid ((Below.refl wr.heap.size wr).alloc (Nat.le_refl _) (.cells #[.int .i64 t0, .int .i64 t1, .int .i64 t2, .int .i64 t3] 49))
        have HTB := hid (Nat.le_refl wr.heap.size)
        clear HP HO HBE
        go_upto_region 7 with fail
        generalize wr.alloc (.cells #[.int .i64 t0, .int .i64 t1, .int .i64 t2, .int .i64 t3] 49) = W at *
        generalize hTB' : wr.heap.size = TB at HB ⊢
        replace HTB : Hid (wr.heap.size ≤ TB) := hid (Nat.le_of_eq hTB')
        clear hTB' c0 c1 c2 c3 ct
        obtain ⟨Inv, hInv⟩ : ∃ Inv : Array Bool → Act → World → Prop, ∀ listed aq W', Inv listed aq W' ↔ (∃ v25 v26 v27 v28 v29 v30 v31 v32 : Value, aq = { tmps := #[Value.slice (some { block := b, off := off }) f.length cap, Value.int IntKind.i64 0, undef, undef, u4, u5, u6, Value.int IntKind.i64 ↑j, Value.pointer (some { block := TB, off := 0 }), u9, Value.int IntKind.i64 ↑j, Value.slice (some { block := b, off := off }) f.length cap, Value.int IntKind.i64 ↑f.length, Value.bool true, u14, u15, Value.slice (some { block := b, off := off }) f.length cap, Value.int IntKind.i64 ↑j, Value.pointer (some { block := b, off := off + j * 4 }), Value.agg #[Value.int IntKind.i64 t0, Value.int IntKind.i64 t1, Value.int IntKind.i64 t2, Value.int IntKind.i64 t3], Value.int IntKind.i64 0, Value.pointer (some { block := TB, off := 1 }), Value.pointer (some { block := TB, off := 1 }), Value.int IntKind.i64 t1, Value.bool false, v25, v26, v27, v28, v29, v30, v31, v32, u33, u34, u35, u36, u37, u38, u39, u40, u41, u42, u43, u44, u45, u46, u47, u48, undef], defers := [] } ∧ (listed.getD 8 false = false → W' = (W).drew) ∧ (listed.getD 8 false = true → W' = ((W).setCell ⟨TB, 0, none⟩ (.int .i64 (t0 * t1))).drew) ∧ (listed.getD 0 false = true → v25 = Value.pointer (some ⟨TB, 0, none⟩)) ∧ (listed.getD 1 false = true → v26 = Value.int .i64 t0) ∧ (listed.getD 2 false = true → v27 = Value.int IntKind.i64 0) ∧ (listed.getD 3 false = true → v28 = Value.pointer (some ⟨TB, 1, none⟩)) ∧ (listed.getD 4 false = true → v29 = Value.pointer (some ⟨TB, 1, none⟩)) ∧ (listed.getD 5 false = true → v30 = Value.int .i64 t1) ∧ (listed.getD 6 false = true → v31 = Value.int .i64 (t0 * t1)) ∧ (listed.getD 7 false = true → v32 = Value.pointer (some ⟨TB, 0, none⟩)) ∧ (listed.getD 6 false = true → listed.getD 1 false = true) ∧ (listed.getD 8 false = true → listed.getD 1 false = true) ∧ (listed.getD 6 false = true → listed.getD 5 false = true) ∧ (listed.getD 8 false = true → listed.getD 5 false = true)) := ⟨_, fun _ _ _ => Iff.rfl⟩
        have HI := hid hInv
        clear hInv
        refine Free.region hmx (by kernel_rfl) Inv ?s1 ?s2 ?s3
        case s1 =>
          exact (HI.out _ _ _).2 ⟨u25, u26, u27, u28, u29, u30, u31, u32, rfl, fun _ => rfl, Free.not_yet, Free.not_yet, Free.not_yet, Free.not_yet, Free.not_yet, Free.not_yet, Free.not_yet, Free.not_yet, Free.not_yet, Free.not_yet, Free.not_yet, Free.not_yet, Free.not_yet⟩
        case s2 =>
          intro i listed aq W1 hix hne hnl hsz hv
          obtain ⟨v25, v26, v27, v28, v29, v30, v31, v32, rfl, hw0, hw1, l0, l1, l2, l3, l4, l5, l6, l7, lc6_1, lc8_1, lc6_5, lc8_5⟩ := (HI.out _ _ _).1 hv
          clear hv
          replace hix : i < 9 := hix
          replace hsz : listed.size = 9 := hsz
          rcases (by omega : i = 0 ∨ i = 1 ∨ i = 2 ∨ i = 3 ∨ i = 4 ∨ i = 5 ∨ i = 6 ∨ i = 7 ∨ i = 8) with rfl | rfl | rfl | rfl | rfl | rfl | rfl | rfl | rfl
          · refine Free.op rfl rfl (fun K hK => ?_)
            go_simp
            exact hK _ _ ((HI.out _ _ _).2 ⟨_, v26, v27, v28, v29, v30, v31, v32, rfl, fun e => hw0 ((Free.set_other (by decide) false).symm.trans e), Free.of_set (by decide) hw1, fun _ => rfl, Free.of_set (by decide) l1, Free.of_set (by decide) l2, Free.of_set (by decide) l3, Free.of_set (by decide) l4, Free.of_set (by decide) l5, Free.of_set (by decide) l6, Free.of_set (by decide) l7, fun e => Free.fore (by decide) (lc6_1 (Free.back (by decide) e)), fun e => Free.fore (by decide) (lc8_1 (Free.back (by decide) e)), fun e => Free.fore (by decide) (lc6_5 (Free.back (by decide) e)), fun e => Free.fore (by decide) (lc8_5 (Free.back (by decide) e))⟩)
          · have h8 : listed.getD 8 false = false := by
              cases e : listed.getD 8 false
              · rfl
              · have q := lc8_1 e; rw [Free.off hnl] at q; cases q
            obtain rfl := hw0 h8
            have z1 : (W).drew.cell? ⟨TB, 0, none⟩ = some (.int .i64 t0) := HB.out.cell 0 rfl
            refine Free.op rfl rfl (fun K hK => ?_)
            obtain rfl := l0 (hne 0 (by kernel_rfl))
            go_simp
            exact hK _ _ ((HI.out _ _ _).2 ⟨_, _, v27, v28, v29, v30, v31, v32, rfl, fun e => hw0 ((Free.set_other (by decide) false).symm.trans e), Free.of_set (by decide) hw1, fun _ => rfl, fun _ => rfl, Free.of_set (by decide) l2, Free.of_set (by decide) l3, Free.of_set (by decide) l4, Free.of_set (by decide) l5, Free.of_set (by decide) l6, Free.of_set (by decide) l7, fun _ => Free.set_same (by omega), fun _ => Free.set_same (by omega), fun e => Free.fore (by decide) (lc6_5 (Free.back (by decide) e)), fun e => Free.fore (by decide) (lc8_5 (Free.back (by decide) e))⟩)
          · refine Free.op rfl rfl (fun K hK => ?_)
            go_simp
            exact hK _ _ ((HI.out _ _ _).2 ⟨v25, v26, _, v28, v29, v30, v31, v32, rfl, fun e => hw0 ((Free.set_other (by decide) false).symm.trans e), Free.of_set (by decide) hw1, Free.of_set (by decide) l0, Free.of_set (by decide) l1, fun _ => rfl, Free.of_set (by decide) l3, Free.of_set (by decide) l4, Free.of_set (by decide) l5, Free.of_set (by decide) l6, Free.of_set (by decide) l7, fun e => Free.fore (by decide) (lc6_1 (Free.back (by decide) e)), fun e => Free.fore (by decide) (lc8_1 (Free.back (by decide) e)), fun e => Free.fore (by decide) (lc6_5 (Free.back (by decide) e)), fun e => Free.fore (by decide) (lc8_5 (Free.back (by decide) e))⟩)
          · refine Free.op rfl rfl (fun K hK => ?_)
            go_simp
            exact hK _ _ ((HI.out _ _ _).2 ⟨v25, v26, v27, _, v29, v30, v31, v32, rfl, fun e => hw0 ((Free.set_other (by decide) false).symm.trans e), Free.of_set (by decide) hw1, Free.of_set (by decide) l0, Free.of_set (by decide) l1, Free.of_set (by decide) l2, fun _ => rfl, Free.of_set (by decide) l4, Free.of_set (by decide) l5, Free.of_set (by decide) l6, Free.of_set (by decide) l7, fun e => Free.fore (by decide) (lc6_1 (Free.back (by decide) e)), fun e => Free.fore (by decide) (lc8_1 (Free.back (by decide) e)), fun e => Free.fore (by decide) (lc6_5 (Free.back (by decide) e)), fun e => Free.fore (by decide) (lc8_5 (Free.back (by decide) e))⟩)
          · refine Free.op rfl rfl (fun K hK => ?_)
            obtain rfl := l2 (hne 2 (by kernel_rfl))
            obtain rfl := l3 (hne 3 (by kernel_rfl))
            go_simp
            exact hK _ _ ((HI.out _ _ _).2 ⟨v25, v26, _, _, _, v30, v31, v32, rfl, fun e => hw0 ((Free.set_other (by decide) false).symm.trans e), Free.of_set (by decide) hw1, Free.of_set (by decide) l0, Free.of_set (by decide) l1, fun _ => rfl, fun _ => rfl, fun _ => rfl, Free.of_set (by decide) l5, Free.of_set (by decide) l6, Free.of_set (by decide) l7, fun e => Free.fore (by decide) (lc6_1 (Free.back (by decide) e)), fun e => Free.fore (by decide) (lc8_1 (Free.back (by decide) e)), fun e => Free.fore (by decide) (lc6_5 (Free.back (by decide) e)), fun e => Free.fore (by decide) (lc8_5 (Free.back (by decide) e))⟩)
          · have h8 : listed.getD 8 false = false := by
              cases e : listed.getD 8 false
              · rfl
              · have q := lc8_5 e; rw [Free.off hnl] at q; cases q
            obtain rfl := hw0 h8
            have z1 : (W).drew.cell? ⟨TB, 1, none⟩ = some (.int .i64 t1) := HB.out.cell 1 rfl
            refine Free.op rfl rfl (fun K hK => ?_)
            obtain rfl := l4 (hne 4 (by kernel_rfl))
            go_simp
            exact hK _ _ ((HI.out _ _ _).2 ⟨v25, v26, v27, v28, _, _, v31, v32, rfl, fun e => hw0 ((Free.set_other (by decide) false).symm.trans e), Free.of_set (by decide) hw1, Free.of_set (by decide) l0, Free.of_set (by decide) l1, Free.of_set (by decide) l2, Free.of_set (by decide) l3, fun _ => rfl, fun _ => rfl, Free.of_set (by decide) l6, Free.of_set (by decide) l7, fun e => Free.fore (by decide) (lc6_1 (Free.back (by decide) e)), fun e => Free.fore (by decide) (lc8_1 (Free.back (by decide) e)), fun _ => Free.set_same (by omega), fun _ => Free.set_same (by omega)⟩)
          · have hw : IntKind.i64.wrap (t0 * t1) = t0 * t1 := HWR.out.1
            refine Free.op rfl rfl (fun K hK => ?_)
            obtain rfl := l1 (hne 1 (by kernel_rfl))
            obtain rfl := l5 (hne 5 (by kernel_rfl))
            go_simp
            exact hK _ _ ((HI.out _ _ _).2 ⟨v25, _, v27, v28, v29, _, _, v32, rfl, fun e => hw0 ((Free.set_other (by decide) false).symm.trans e), Free.of_set (by decide) hw1, Free.of_set (by decide) l0, fun _ => rfl, Free.of_set (by decide) l2, Free.of_set (by decide) l3, Free.of_set (by decide) l4, fun _ => rfl, fun _ => rfl, Free.of_set (by decide) l7, fun _ => Free.fore (by decide) (hne 1 (by kernel_rfl)), fun e => Free.fore (by decide) (lc8_1 (Free.back (by decide) e)), fun _ => Free.fore (by decide) (hne 5 (by kernel_rfl)), fun e => Free.fore (by decide) (lc8_5 (Free.back (by decide) e))⟩)
          · refine Free.op rfl rfl (fun K hK => ?_)
            go_simp
            exact hK _ _ ((HI.out _ _ _).2 ⟨v25, v26, v27, v28, v29, v30, v31, _, rfl, fun e => hw0 ((Free.set_other (by decide) false).symm.trans e), Free.of_set (by decide) hw1, Free.of_set (by decide) l0, Free.of_set (by decide) l1, Free.of_set (by decide) l2, Free.of_set (by decide) l3, Free.of_set (by decide) l4, Free.of_set (by decide) l5, Free.of_set (by decide) l6, fun _ => rfl, fun e => Free.fore (by decide) (lc6_1 (Free.back (by decide) e)), fun e => Free.fore (by decide) (lc8_1 (Free.back (by decide) e)), fun e => Free.fore (by decide) (lc6_5 (Free.back (by decide) e)), fun e => Free.fore (by decide) (lc8_5 (Free.back (by decide) e))⟩)
          · obtain rfl := hw0 (Free.off hnl)
            have y1 : (W).drew.frozen? ⟨TB, 0, none⟩ = false := HB.out.free 0
            have y2 : (W).drew.cell? ⟨TB, 0, none⟩ = some (.int .i64 t0) := HB.out.cell 0 rfl
            refine Free.op rfl rfl (fun K hK => ?_)
            obtain rfl := l6 (hne 6 (by kernel_rfl))
            obtain rfl := l7 (hne 7 (by kernel_rfl))
            go_simp
            exact hK _ _ ((HI.out _ _ _).2 ⟨v25, v26, v27, v28, v29, v30, _, _, rfl, (fun e => by rw [Free.set_same (by omega)] at e; cases e), fun _ => rfl, Free.of_set (by decide) l0, Free.of_set (by decide) l1, Free.of_set (by decide) l2, Free.of_set (by decide) l3, Free.of_set (by decide) l4, Free.of_set (by decide) l5, fun _ => rfl, fun _ => rfl, fun e => Free.fore (by decide) (lc6_1 (Free.back (by decide) e)), fun _ => Free.fore (by decide) (lc6_1 (hne 6 (by kernel_rfl))), fun e => Free.fore (by decide) (lc6_5 (Free.back (by decide) e)), fun _ => Free.fore (by decide) (lc6_5 (hne 6 (by kernel_rfl)))⟩)
        case s3 =>
          intro listed aq W1 hall hsz hv
          obtain ⟨v25, v26, v27, v28, v29, v30, v31, v32, rfl, hw0, hw1, l0, l1, l2, l3, l4, l5, l6, l7, lc6_1, lc8_1, lc6_5, lc8_5⟩ := (HI.out _ _ _).1 hv
          clear hv HI
          obtain rfl := hw1 (Free.listed_of hall hsz 8 (by decide))
          obtain rfl := l0 (Free.listed_of hall hsz 0 (by decide))
          obtain rfl := l1 (Free.listed_of hall hsz 1 (by decide))
          obtain rfl := l2 (Free.listed_of hall hsz 2 (by decide))
          obtain rfl := l3 (Free.listed_of hall hsz 3 (by decide))
          obtain rfl := l4 (Free.listed_of hall hsz 4 (by decide))
          obtain rfl := l5 (Free.listed_of hall hsz 5 (by decide))
          obtain rfl := l6 (Free.listed_of hall hsz 6 (by decide))
          obtain rfl := l7 (Free.listed_of hall hsz 7 (by decide))
          clear hall hsz hw0 hw1 lc6_1 lc8_1 lc6_5 lc8_5
          have hY : Blk ((W).setCell ⟨TB, 0, none⟩ (.int .i64 (t0 * t1))).drew TB 49 #[.int .i64 (t0 * t1), .int .i64 t1, .int .i64 t2, .int .i64 t3] := Blk.set (w := (W)) HB.out 0 (.int .i64 (t0 * t1)) rfl
          have hV := (HBW.out.setCell (p := ⟨TB, 0, none⟩) HTB.out (.int .i64 (t0 * t1))).drew
          generalize ((W).setCell ⟨TB, 0, none⟩ (.int .i64 (t0 * t1))).drew = W2 at *
          have z1 := hY.cell 1 rfl
          have y1 := hY.free 1
          have hw8 : IntKind.i64.wrap (t1 - 1) = t1 - 1 := by have := HWR.out; rw [IntKind.wrap_i64]; omega
          go_upto_region 9 with fail
          have hY3 := hY.set 1 (.int .i64 (t1 - 1)) (cs' := #[.int .i64 (t0 * t1), .int .i64 (t1 - 1), .int .i64 t2, .int .i64 t3]) rfl
          have hV3 := hV.setCell (p := ⟨TB, 1, none⟩) HTB.out (.int .i64 (t1 - 1))
          clear z1 y1 hY hV hw8
          generalize W2.setCell ⟨TB, 1, none⟩ (.int .i64 (t1 - 1)) = W3 at *
          have z0 := hY3.cell 0 rfl
          have z1 := hY3.cell 1 rfl
          have z2 := hY3.cell 2 rfl
          have z3 := hY3.cell 3 rfl
          have HO := hid (owns_step hown hV3)
          have HBE := hid (hBe.trans (hV3.mono hBe.size))
          have hsz3 := HBE.out.size
          clear hown hV3 hY3 HBW HTB HB hBe
          by_cases hm : Um.may (t0 * t1) = true
          · have HM := HMO ht hm
            have cm : Um.may (t0 * t1) = true := hm
            clear HMO HFU HSK ht hm
            have hown3 := HO.out
            go_wp2_with (first | (go_at_call 14; refine (rMay_any _ _).mono ?_; rintro e w1 ⟨rfl, hq⟩; subst w1) | (at_builtin; refine wpList_append_own _ rfl _ _ 22 rfl w.heap.size 49 i0 (.agg #[.int .i64 0, .int .i64 0, .int .i64 0, .int .i64 0]) 4 32 Tryd.underlying22 hi0 hz0 hz1 hz2 rfl (by decide) _ _ _ rfl (hown3.alloc _) _ 1 1 [.int .i64 (t0 * t1), .int .i64 (t1 - 1), .int .i64 (t2), .int .i64 (t3)] rfl rfl (cell_four_new _ _ _ _ _ _) (by simp [Value.oneCell']) (by unfold maxLen; omega) (by omega) (by simp; omega) ?_; intro v' w1 hown' hgrow _))
            have HN := hid hown'
            have hb2 := (Below.refl w.heap.size (W3.alloc (.cells #[.int .i64 (t0 * t1), .int .i64 (t1 - 1), .int .i64 t2, .int .i64 t3] 49))).grown hgrow (by simp; omega) (fun j e => owns_from HO.out j e)
            exact ⟨⟨j + 1, by omega, by simp, by rw [HM.out, cellsT_append, List.length_append]; exact HN.out, (HBE.out.alloc hsz3 _).trans hb2, by rw [HM.out]; exact hid rfl⟩, by simp [intOf]; omega⟩
          · have HM := HFU ht hm
            have cm : Um.may (t0 * t1) = false := by simpa using hm
            clear HMO HFU HSK ht hm
            go_wp2_with (go_at_call 14; refine (rMay_any _ _).mono ?_; rintro e w1 ⟨rfl, hq⟩; subst w1)
            go_returns
            exact ⟨_, by rw [HM.out]; rfl, by rw [HM.out]; exact Lt.nil _ _, HBE.out⟩

    · obtain rfl : j = f.length := by omega
      have HQ := hid hown
      have HZ := hid hZ.out
      clear hown hf hA0
      go_wp2
      go_returns
      exact ⟨_, by rw [HZ.out]; rfl, lt_owns HQ.out, hBe⟩

set_option maxRecDepth 100000 in
set_option maxHeartbeats 8000000 in
theorem rSteep_1 (f : List Um.Tm) (u : Value) (w : World) (hl : Lt w.heap.size w u f) (hf : ∀ i, i < f.length → Um.tmP (Um.tm f i)) (h6 : f.length ≤ 6) (h0 : f ≠ []) :
    Calls Tryd.prog 5 #[u, .int .i64 1] w fun e w' => ∃ r, e = .returned (.tuple #[r, .int .i64 (Um.steepN f 1 f.length).2]) ∧ Lt w'.heap.size w' r (Um.steepN f 1 f.length).1 ∧ Below w.heap.size w w' := by
  have hmx : Tryd.prog.follows .mixedOrders = true := by kernel_rfl
  obtain ⟨i0, hi0, hz0, hz1, hz2⟩ := info_parts info_terms
  obtain ⟨b, off, cap, rfl, -, hA0⟩ := hl.open h0
  clear hl h0
  go_enter Tryd.func5, Tryd.ntmps5
  go_wp2
  go_loopw [6, 7] (fun u i wr => ∃ j : Nat, j ≤ f.length ∧ i = .int .i64 j ∧ wr.ownsRow w.heap.size 49 4 u (Um.steepN f 1 j).1.length (cellsT (Um.steepN f 1 j).1) ∧ Below w.heap.size w wr ∧ Hid ((Um.steepN f 1 j).2 = 0)) (fun _ i _ => f.length - (intOf i).toNat)
  case atStart => exact ⟨0, Nat.zero_le _, rfl, World.ownsRow_nil _ _ _ _, Below.refl _ _, rfl⟩
  case round =>
    obtain ⟨j, hj, rfl, hown, hBe, hZ⟩ := hrel
    by_cases hjl : j < f.length
    · have hjj : (j : Int) < (f.length : Int) := by omega
      obtain ⟨c0, c1, c2, c3⟩ := (hA0.step hBe).2 j hjl
      have HP := hid (hf j hjl)
      have HSK := fun h2 => hid (Um.steep_skip (k := 1) hZ.out h2)
      have HMO := fun h2 h3 => hid (Um.steep_more (k := 1) hZ.out h2 h3)
      have HFU := fun h2 h3 => hid (Um.steep_full (k := 1) hjl hZ.out h2 h3)
      have hln := Um.steep_len f 1 j
      clear hA0
      generalize Um.tm f j = t at *
      obtain ⟨t0, t1, t2, t3⟩ := t
      simp only at c0 c1 c2 c3
      have HO := hid (hown.alloc (.cells #[.int .i64 t0, .int .i64 t1, .int .i64 t2, .int .i64 t3] 49))
      have HBE := hid (hBe.alloc hBe.size (.cells #[.int .i64 t0, .int .i64 t1, .int .i64 t2, .int .i64 t3] 49))
      have HB := hid (Blk.new wr 49 #[.int .i64 t0, .int .i64 t1, .int .i64 t2, .int .i64 t3])
      have hsz := hBe.size
      by_cases ht : t2 = 0
      · have ct : (t2 == 0) = true := by simpa using ht
        have HM := HSK ht
        clear HSK HMO HFU HP ht hown hBe
        go_wp2
        exact ⟨⟨j + 1, by omega, by simp, by rw [HM.out]; exact HO.out, HBE.out, by rw [HM.out]; exact hZ⟩, by simp [intOf]; omega⟩
      · have ct : (t2 == 0) = false := by simpa using ht
        have HWR : Hid (IntKind.i64.wrap (t0 * t2) = t0 * t2 ∧ -3000000000 ≤ t0 * t2 ∧ t0 * t2 ≤ 3000000000 ∧ 0 < t2 ∧ t2 ≤ 3) := hid (by
          have q := HP.out
          have q2 := Um.tm_times q 1
          obtain ⟨m1, m2⟩ := (Um.may_iff _).1 q.1
          have q3 : 0 ≤ t2 ∧ t2 ≤ 3 := q2
          obtain ⟨p1, p2⟩ := Um.mul_by (A := 1000000000) (B := 3) (a := t0) (b := t2) (by omega) (by omega) (by omega) (by omega) (by decide)
          refine ⟨by rw [IntKind.wrap_i64]; omega, by omega, by omega, by omega, by omega⟩)
        have HBW := hid ((Below.refl wr.heap.size wr).alloc (Nat.le_refl _) (.cells #[.int .i64 t0, .int .i64 t1, .int .i64 t2, .int .i64 t3] 49))
        have HTB := hid (Nat.le_refl wr.heap.size)
        clear HP HO HBE
        go_upto_region 7 with fail
        generalize wr.alloc (.cells #[.int .i64 t0, .int .i64 t1, .int .i64 t2, .int .i64 t3] 49) = W at *
        generalize hTB' : wr.heap.size = TB at HB ⊢
        replace HTB : Hid (wr.heap.size ≤ TB) := hid (Nat.le_of_eq hTB')
        clear hTB' c0 c1 c2 c3 ct
        obtain ⟨Inv, hInv⟩ : ∃ Inv : Array Bool → Act → World → Prop, ∀ listed aq W', Inv listed aq W' ↔ (∃ v25 v26 v27 v28 v29 v30 v31 v32 : Value, aq = { tmps := #[Value.slice (some { block := b, off := off }) f.length cap, Value.int IntKind.i64 1, undef, undef, u4, u5, u6, Value.int IntKind.i64 ↑j, Value.pointer (some { block := TB, off := 0 }), u9, Value.int IntKind.i64 ↑j, Value.slice (some { block := b, off := off }) f.length cap, Value.int IntKind.i64 ↑f.length, Value.bool true, u14, u15, Value.slice (some { block := b, off := off }) f.length cap, Value.int IntKind.i64 ↑j, Value.pointer (some { block := b, off := off + j * 4 }), Value.agg #[Value.int IntKind.i64 t0, Value.int IntKind.i64 t1, Value.int IntKind.i64 t2, Value.int IntKind.i64 t3], Value.int IntKind.i64 1, Value.pointer (some { block := TB, off := 1 }), Value.pointer (some { block := TB, off := 2 }), Value.int IntKind.i64 t2, Value.bool false, v25, v26, v27, v28, v29, v30, v31, v32, u33, u34, u35, u36, u37, u38, u39, u40, u41, u42, u43, u44, u45, u46, u47, u48, undef], defers := [] } ∧ (listed.getD 8 false = false → W' = (W).drew) ∧ (listed.getD 8 false = true → W' = ((W).setCell ⟨TB, 0, none⟩ (.int .i64 (t0 * t2))).drew) ∧ (listed.getD 0 false = true → v25 = Value.pointer (some ⟨TB, 0, none⟩)) ∧ (listed.getD 1 false = true → v26 = Value.int .i64 t0) ∧ (listed.getD 2 false = true → v27 = Value.int IntKind.i64 1) ∧ (listed.getD 3 false = true → v28 = Value.pointer (some ⟨TB, 1, none⟩)) ∧ (listed.getD 4 false = true → v29 = Value.pointer (some ⟨TB, 2, none⟩)) ∧ (listed.getD 5 false = true → v30 = Value.int .i64 t2) ∧ (listed.getD 6 false = true → v31 = Value.int .i64 (t0 * t2)) ∧ (listed.getD 7 false = true → v32 = Value.pointer (some ⟨TB, 0, none⟩)) ∧ (listed.getD 6 false = true → listed.getD 1 false = true) ∧ (listed.getD 8 false = true → listed.getD 1 false = true) ∧ (listed.getD 6 false = true → listed.getD 5 false = true) ∧ (listed.getD 8 false = true → listed.getD 5 false = true)) := ⟨_, fun _ _ _ => Iff.rfl⟩
        have HI := hid hInv
        clear hInv
        refine Free.region hmx (by kernel_rfl) Inv ?s1 ?s2 ?s3
        case s1 =>
          exact (HI.out _ _ _).2 ⟨u25, u26, u27, u28, u29, u30, u31, u32, rfl, fun _ => rfl, Free.not_yet, Free.not_yet, Free.not_yet, Free.not_yet, Free.not_yet, Free.not_yet, Free.not_yet, Free.not_yet, Free.not_yet, Free.not_yet, Free.not_yet, Free.not_yet, Free.not_yet⟩
        case s2 =>
          intro i listed aq W1 hix hne hnl hsz hv
          obtain ⟨v25, v26, v27, v28, v29, v30, v31, v32, rfl, hw0, hw1, l0, l1, l2, l3, l4, l5, l6, l7, lc6_1, lc8_1, lc6_5, lc8_5⟩ := (HI.out _ _ _).1 hv
          clear hv
          replace hix : i < 9 := hix
          replace hsz : listed.size = 9 := hsz
          rcases (by omega : i = 0 ∨ i = 1 ∨ i = 2 ∨ i = 3 ∨ i = 4 ∨ i = 5 ∨ i = 6 ∨ i = 7 ∨ i = 8) with rfl | rfl | rfl | rfl | rfl | rfl | rfl | rfl | rfl
          · refine Free.op rfl rfl (fun K hK => ?_)
            go_simp
            exact hK _ _ ((HI.out _ _ _).2 ⟨_, v26, v27, v28, v29, v30, v31, v32, rfl, fun e => hw0 ((Free.set_other (by decide) false).symm.trans e), Free.of_set (by decide) hw1, fun _ => rfl, Free.of_set (by decide) l1, Free.of_set (by decide) l2, Free.of_set (by decide) l3, Free.of_set (by decide) l4, Free.of_set (by decide) l5, Free.of_set (by decide) l6, Free.of_set (by decide) l7, fun e => Free.fore (by decide) (lc6_1 (Free.back (by decide) e)), fun e => Free.fore (by decide) (lc8_1 (Free.back (by decide) e)), fun e => Free.fore (by decide) (lc6_5 (Free.back (by decide) e)), fun e => Free.fore (by decide) (lc8_5 (Free.back (by decide) e))⟩)
          · have h8 : listed.getD 8 false = false := by
              cases e : listed.getD 8 false
              · rfl
              · have q := lc8_1 e; rw [Free.off hnl] at q; cases q
            obtain rfl := hw0 h8
            have z1 : (W).drew.cell? ⟨TB, 0, none⟩ = some (.int .i64 t0) := HB.out.cell 0 rfl
            refine Free.op rfl rfl (fun K hK => ?_)
            obtain rfl := l0 (hne 0 (by kernel_rfl))
            go_simp
            exact hK _ _ ((HI.out _ _ _).2 ⟨_, _, v27, v28, v29, v30, v31, v32, rfl, fun e => hw0 ((Free.set_other (by decide) false).symm.trans e), Free.of_set (by decide) hw1, fun _ => rfl, fun _ => rfl, Free.of_set (by decide) l2, Free.of_set (by decide) l3, Free.of_set (by decide) l4, Free.of_set (by decide) l5, Free.of_set (by decide) l6, Free.of_set (by decide) l7, fun _ => Free.set_same (by omega), fun _ => Free.set_same (by omega), fun e => Free.fore (by decide) (lc6_5 (Free.back (by decide) e)), fun e => Free.fore (by decide) (lc8_5 (Free.back (by decide) e))⟩)
          · refine Free.op rfl rfl (fun K hK => ?_)
            go_simp
            exact hK _ _ ((HI.out _ _ _).2 ⟨v25, v26, _, v28, v29, v30, v31, v32, rfl, fun e => hw0 ((Free.set_other (by decide) false).symm.trans e), Free.of_set (by decide) hw1, Free.of_set (by decide) l0, Free.of_set (by decide) l1, fun _ => rfl, Free.of_set (by decide) l3, Free.of_set (by decide) l4, Free.of_set (by decide) l5, Free.of_set (by decide) l6, Free.of_set (by decide) l7, fun e => Free.fore (by decide) (lc6_1 (Free.back (by decide) e)), fun e => Free.fore (by decide) (lc8_1 (Free.back (by decide) e)), fun e => Free.fore (by decide) (lc6_5 (Free.back (by decide) e)), fun e => Free.fore (by decide) (lc8_5 (Free.back (by decide) e))⟩)
          · refine Free.op rfl rfl (fun K hK => ?_)
            go_simp
            exact hK _ _ ((HI.out _ _ _).2 ⟨v25, v26, v27, _, v29, v30, v31, v32, rfl, fun e => hw0 ((Free.set_other (by decide) false).symm.trans e), Free.of_set (by decide) hw1, Free.of_set (by decide) l0, Free.of_set (by decide) l1, Free.of_set (by decide) l2, fun _ => rfl, Free.of_set (by decide) l4, Free.of_set (by decide) l5, Free.of_set (by decide) l6, Free.of_set (by decide) l7, fun e => Free.fore (by decide) (lc6_1 (Free.back (by decide) e)), fun e => Free.fore (by decide) (lc8_1 (Free.back (by decide) e)), fun e => Free.fore (by decide) (lc6_5 (Free.back (by decide) e)), fun e => Free.fore (by decide) (lc8_5 (Free.back (by decide) e))⟩)
          · refine Free.op rfl rfl (fun K hK => ?_)
            obtain rfl := l2 (hne 2 (by kernel_rfl))
            obtain rfl := l3 (hne 3 (by kernel_rfl))
            go_simp
            exact hK _ _ ((HI.out _ _ _).2 ⟨v25, v26, _, _, _, v30, v31, v32, rfl, fun e => hw0 ((Free.set_other (by decide) false).symm.trans e), Free.of_set (by decide) hw1, Free.of_set (by decide) l0, Free.of_set (by decide) l1, fun _ => rfl, fun _ => rfl, fun _ => rfl, Free.of_set (by decide) l5, Free.of_set (by decide) l6, Free.of_set (by decide) l7, fun e => Free.fore (by decide) (lc6_1 (Free.back (by decide) e)), fun e => Free.fore (by decide) (lc8_1 (Free.back (by decide) e)), fun e => Free.fore (by decide) (lc6_5 (Free.back (by decide) e)), fun e => Free.fore (by decide) (lc8_5 (Free.back (by decide) e))⟩)
          · have h8 : listed.getD 8 false = false := by
              cases e : listed.getD 8 false
              · rfl
              · have q := lc8_5 e; rw [Free.off hnl] at q; cases q
            obtain rfl := hw0 h8
            have z1 : (W).drew.cell? ⟨TB, 2, none⟩ = some (.int .i64 t2) := HB.out.cell 2 rfl
            refine Free.op rfl rfl (fun K hK => ?_)
            obtain rfl := l4 (hne 4 (by kernel_rfl))
            go_simp
            exact hK _ _ ((HI.out _ _ _).2 ⟨v25, v26, v27, v28, _, _, v31, v32, rfl, fun e => hw0 ((Free.set_other (by decide) false).symm.trans e), Free.of_set (by decide) hw1, Free.of_set (by decide) l0, Free.of_set (by decide) l1, Free.of_set (by decide) l2, Free.of_set (by decide) l3, fun _ => rfl, fun _ => rfl, Free.of_set (by decide) l6, Free.of_set (by decide) l7, fun e => Free.fore (by decide) (lc6_1 (Free.back (by decide) e)), fun e => Free.fore (by decide) (lc8_1 (Free.back (by decide) e)), fun _ => Free.set_same (by omega), fun _ => Free.set_same (by omega)⟩)
          · have hw : IntKind.i64.wrap (t0 * t2) = t0 * t2 := HWR.out.1
            refine Free.op rfl rfl (fun K hK => ?_)
            obtain rfl := l1 (hne 1 (by kernel_rfl))
            obtain rfl := l5 (hne 5 (by kernel_rfl))
            go_simp
            exact hK _ _ ((HI.out _ _ _).2 ⟨v25, _, v27, v28, v29, _, _, v32, rfl, fun e => hw0 ((Free.set_other (by decide) false).symm.trans e), Free.of_set (by decide) hw1, Free.of_set (by decide) l0, fun _ => rfl, Free.of_set (by decide) l2, Free.of_set (by decide) l3, Free.of_set (by decide) l4, fun _ => rfl, fun _ => rfl, Free.of_set (by decide) l7, fun _ => Free.fore (by decide) (hne 1 (by kernel_rfl)), fun e => Free.fore (by decide) (lc8_1 (Free.back (by decide) e)), fun _ => Free.fore (by decide) (hne 5 (by kernel_rfl)), fun e => Free.fore (by decide) (lc8_5 (Free.back (by decide) e))⟩)
          · refine Free.op rfl rfl (fun K hK => ?_)
            go_simp
            exact hK _ _ ((HI.out _ _ _).2 ⟨v25, v26, v27, v28, v29, v30, v31, _, rfl, fun e => hw0 ((Free.set_other (by decide) false).symm.trans e), Free.of_set (by decide) hw1, Free.of_set (by decide) l0, Free.of_set (by decide) l1, Free.of_set (by decide) l2, Free.of_set (by decide) l3, Free.of_set (by decide) l4, Free.of_set (by decide) l5, Free.of_set (by decide) l6, fun _ => rfl, fun e => Free.fore (by decide) (lc6_1 (Free.back (by decide) e)), fun e => Free.fore (by decide) (lc8_1 (Free.back (by decide) e)), fun e => Free.fore (by decide) (lc6_5 (Free.back (by decide) e)), fun e => Free.fore (by decide) (lc8_5 (Free.back (by decide) e))⟩)
          · obtain rfl := hw0 (Free.off hnl)
            have y1 : (W).drew.frozen? ⟨TB, 0, none⟩ = false := HB.out.free 0
            have y2 : (W).drew.cell? ⟨TB, 0, none⟩ = some (.int .i64 t0) := HB.out.cell 0 rfl
            refine Free.op rfl rfl (fun K hK => ?_)
            obtain rfl := l6 (hne 6 (by kernel_rfl))
            obtain rfl := l7 (hne 7 (by kernel_rfl))
            go_simp
            exact hK _ _ ((HI.out _ _ _).2 ⟨v25, v26, v27, v28, v29, v30, _, _, rfl, (fun e => by rw [Free.set_same (by omega)] at e; cases e), fun _ => rfl, Free.of_set (by decide) l0, Free.of_set (by decide) l1, Free.of_set (by decide) l2, Free.of_set (by decide) l3, Free.of_set (by decide) l4, Free.of_set (by decide) l5, fun _ => rfl, fun _ => rfl, fun e => Free.fore (by decide) (lc6_1 (Free.back (by decide) e)), fun _ => Free.fore (by decide) (lc6_1 (hne 6 (by kernel_rfl))), fun e => Free.fore (by decide) (lc6_5 (Free.back (by decide) e)), fun _ => Free.fore (by decide) (lc6_5 (hne 6 (by kernel_rfl)))⟩)
        case s3 =>
          intro listed aq W1 hall hsz hv
          obtain ⟨v25, v26, v27, v28, v29, v30, v31, v32, rfl, hw0, hw1, l0, l1, l2, l3, l4, l5, l6, l7, lc6_1, lc8_1, lc6_5, lc8_5⟩ := (HI.out _ _ _).1 hv
          clear hv HI
          obtain rfl := hw1 (Free.listed_of hall hsz 8 (by decide))
          obtain rfl := l0 (Free.listed_of hall hsz 0 (by decide))
          obtain rfl := l1 (Free.listed_of hall hsz 1 (by decide))
          obtain rfl := l2 (Free.listed_of hall hsz 2 (by decide))
          obtain rfl := l3 (Free.listed_of hall hsz 3 (by decide))
          obtain rfl := l4 (Free.listed_of hall hsz 4 (by decide))
          obtain rfl := l5 (Free.listed_of hall hsz 5 (by decide))
          obtain rfl := l6 (Free.listed_of hall hsz 6 (by decide))
          obtain rfl := l7 (Free.listed_of hall hsz 7 (by decide))
          clear hall hsz hw0 hw1 lc6_1 lc8_1 lc6_5 lc8_5
          have hY : Blk ((W).setCell ⟨TB, 0, none⟩ (.int .i64 (t0 * t2))).drew TB 49 #[.int .i64 (t0 * t2), .int .i64 t1, .int .i64 t2, .int .i64 t3] := Blk.set (w := (W)) HB.out 0 (.int .i64 (t0 * t2)) rfl
          have hV := (HBW.out.setCell (p := ⟨TB, 0, none⟩) HTB.out (.int .i64 (t0 * t2))).drew
          generalize ((W).setCell ⟨TB, 0, none⟩ (.int .i64 (t0 * t2))).drew = W2 at *
          have z1 := hY.cell 2 rfl
          have y1 := hY.free 2
          have hw8 : IntKind.i64.wrap (t2 - 1) = t2 - 1 := by have := HWR.out; rw [IntKind.wrap_i64]; omega
          go_upto_region 9 with fail
          have hY3 := hY.set 2 (.int .i64 (t2 - 1)) (cs' := #[.int .i64 (t0 * t2), .int .i64 t1, .int .i64 (t2 - 1), .int .i64 t3]) rfl
          have hV3 := hV.setCell (p := ⟨TB, 2, none⟩) HTB.out (.int .i64 (t2 - 1))
          clear z1 y1 hY hV hw8
          generalize W2.setCell ⟨TB, 2, none⟩ (.int .i64 (t2 - 1)) = W3 at *
          have z0 := hY3.cell 0 rfl
          have z1 := hY3.cell 1 rfl
          have z2 := hY3.cell 2 rfl
          have z3 := hY3.cell 3 rfl
          have HO := hid (owns_step hown hV3)
          have HBE := hid (hBe.trans (hV3.mono hBe.size))
          have hsz3 := HBE.out.size
          clear hown hV3 hY3 HBW HTB HB hBe
          by_cases hm : Um.may (t0 * t2) = true
          · have HM := HMO ht hm
            have cm : Um.may (t0 * t2) = true := hm
            clear HMO HFU HSK ht hm
            have hown3 := HO.out
            go_wp2_with (first | (go_at_call 14; refine (rMay_any _ _).mono ?_; rintro e w1 ⟨rfl, hq⟩; subst w1) | (at_builtin; refine wpList_append_own _ rfl _ _ 22 rfl w.heap.size 49 i0 (.agg #[.int .i64 0, .int .i64 0, .int .i64 0, .int .i64 0]) 4 32 Tryd.underlying22 hi0 hz0 hz1 hz2 rfl (by decide) _ _ _ rfl (hown3.alloc _) _ 1 1 [.int .i64 (t0 * t2), .int .i64 (t1), .int .i64 (t2 - 1), .int .i64 (t3)] rfl rfl (cell_four_new _ _ _ _ _ _) (by simp [Value.oneCell']) (by unfold maxLen; omega) (by omega) (by simp; omega) ?_; intro v' w1 hown' hgrow _))
            have HN := hid hown'
            have hb2 := (Below.refl w.heap.size (W3.alloc (.cells #[.int .i64 (t0 * t2), .int .i64 t1, .int .i64 (t2 - 1), .int .i64 t3] 49))).grown hgrow (by simp; omega) (fun j e => owns_from HO.out j e)
            exact ⟨⟨j + 1, by omega, by simp, by rw [HM.out, cellsT_append, List.length_append]; exact HN.out, (HBE.out.alloc hsz3 _).trans hb2, by rw [HM.out]; exact hid rfl⟩, by simp [intOf]; omega⟩
          · have HM := HFU ht hm
            have cm : Um.may (t0 * t2) = false := by simpa using hm
            clear HMO HFU HSK ht hm
            go_wp2_with (go_at_call 14; refine (rMay_any _ _).mono ?_; rintro e w1 ⟨rfl, hq⟩; subst w1)
            go_returns
            exact ⟨_, by rw [HM.out]; rfl, by rw [HM.out]; exact Lt.nil _ _, HBE.out⟩

    · obtain rfl : j = f.length := by omega
      have HQ := hid hown
      have HZ := hid hZ.out
      clear hown hf hA0
      go_wp2
      go_returns
      exact ⟨_, by rw [HZ.out]; rfl, lt_owns HQ.out, hBe⟩

set_option maxRecDepth 100000 in
set_option maxHeartbeats 8000000 in
theorem rSteep_2 (f : List Um.Tm) (u : Value) (w : World) (hl : Lt w.heap.size w u f) (hf : ∀ i, i < f.length → Um.tmP (Um.tm f i)) (h6 : f.length ≤ 6) (h0 : f ≠ []) :
    Calls Tryd.prog 5 #[u, .int .i64 2] w fun e w' => ∃ r, e = .returned (.tuple #[r, .int .i64 (Um.steepN f 2 f.length).2]) ∧ Lt w'.heap.size w' r (Um.steepN f 2 f.length).1 ∧ Below w.heap.size w w' := by
  have hmx : Tryd.prog.follows .mixedOrders = true := by kernel_rfl
  obtain ⟨i0, hi0, hz0, hz1, hz2⟩ := info_parts info_terms
  obtain ⟨b, off, cap, rfl, -, hA0⟩ := hl.open h0
  clear hl h0
  go_enter Tryd.func5, Tryd.ntmps5
  go_wp2
  go_loopw [6, 7] (fun u i wr => ∃ j : Nat, j ≤ f.length ∧ i = .int .i64 j ∧ wr.ownsRow w.heap.size 49 4 u (Um.steepN f 2 j).1.length (cellsT (Um.steepN f 2 j).1) ∧ Below w.heap.size w wr ∧ Hid ((Um.steepN f 2 j).2 = 0)) (fun _ i _ => f.length - (intOf i).toNat)
  case atStart => exact ⟨0, Nat.zero_le _, rfl, World.ownsRow_nil _ _ _ _, Below.refl _ _, rfl⟩
  case round =>
    obtain ⟨j, hj, rfl, hown, hBe, hZ⟩ := hrel
    by_cases hjl : j < f.length
    · have hjj : (j : Int) < (f.length : Int) := by omega
      obtain ⟨c0, c1, c2, c3⟩ := (hA0.step hBe).2 j hjl
      have HP := hid (hf j hjl)
      have HSK := fun h2 => hid (Um.steep_skip (k := 2) hZ.out h2)
      have HMO := fun h2 h3 => hid (Um.steep_more (k := 2) hZ.out h2 h3)
      have HFU := fun h2 h3 => hid (Um.steep_full (k := 2) hjl hZ.out h2 h3)
      have hln := Um.steep_len f 2 j
      clear hA0
      generalize Um.tm f j = t at *
      obtain ⟨t0, t1, t2, t3⟩ := t
      simp only at c0 c1 c2 c3
      have HO := hid (hown.alloc (.cells #[.int .i64 t0, .int .i64 t1, .int .i64 t2, .int .i64 t3] 49))
      have HBE := hid (hBe.alloc hBe.size (.cells #[.int .i64 t0, .int .i64 t1, .int .i64 t2, .int .i64 t3] 49))
      have HB := hid (Blk.new wr 49 #[.int .i64 t0, .int .i64 t1, .int .i64 t2, .int .i64 t3])
      have hsz := hBe.size
      by_cases ht : t3 = 0
      · have ct : (t3 == 0) = true := by simpa using ht
        have HM := HSK ht
        clear HSK HMO HFU HP ht hown hBe
        go_wp2
        exact ⟨⟨j + 1, by omega, by simp, by rw [HM.out]; exact HO.out, HBE.out, by rw [HM.out]; exact hZ⟩, by simp [intOf]; omega⟩
      · have ct : (t3 == 0) = false := by simpa using ht
        have HWR : Hid (IntKind.i64.wrap (t0 * t3) = t0 * t3 ∧ -3000000000 ≤ t0 * t3 ∧ t0 * t3 ≤ 3000000000 ∧ 0 < t3 ∧ t3 ≤ 3) := hid (by
          have q := HP.out
          have q2 := Um.tm_times q 2
          obtain ⟨m1, m2⟩ := (Um.may_iff _).1 q.1
          have q3 : 0 ≤ t3 ∧ t3 ≤ 3 := q2
          obtain ⟨p1, p2⟩ := Um.mul_by (A := 1000000000) (B := 3) (a := t0) (b := t3) (by omega) (by omega) (by omega) (by omega) (by decide)
          refine ⟨by rw [IntKind.wrap_i64]; omega, by omega, by omega, by omega, by omega⟩)
        have HBW := hid ((Below.refl wr.heap.size wr).alloc (Nat.le_refl _) (.cells #[.int .i64 t0, .int .i64 t1, .int .i64 t2, .int .i64 t3] 49))
        have HTB := hid (Nat.le_refl wr.heap.size)
        clear HP HO HBE
        go_upto_region 7 with fail
        generalize wr.alloc (.cells #[.int .i64 t0, .int .i64 t1, .int .i64 t2, .int .i64 t3] 49) = W at *
        generalize hTB' : wr.heap.size = TB at HB ⊢
        replace HTB : Hid (wr.heap.size ≤ TB) := hid (Nat.le_of_eq hTB')
        clear hTB' c0 c1 c2 c3 ct
        obtain ⟨Inv, hInv⟩ : ∃ Inv : Array Bool → Act → World → Prop, ∀ listed aq W', Inv listed aq W' ↔ (∃ v25 v26 v27 v28 v29 v30 v31 v32 : Value, aq = { tmps := #[Value.slice (some { block := b, off := off }) f.length cap, Value.int IntKind.i64 2, undef, undef, u4, u5, u6, Value.int IntKind.i64 ↑j, Value.pointer (some { block := TB, off := 0 }), u9, Value.int IntKind.i64 ↑j, Value.slice (some { block := b, off := off }) f.length cap, Value.int IntKind.i64 ↑f.length, Value.bool true, u14, u15, Value.slice (some { block := b, off := off }) f.length cap, Value.int IntKind.i64 ↑j, Value.pointer (some { block := b, off := off + j * 4 }), Value.agg #[Value.int IntKind.i64 t0, Value.int IntKind.i64 t1, Value.int IntKind.i64 t2, Value.int IntKind.i64 t3], Value.int IntKind.i64 2, Value.pointer (some { block := TB, off := 1 }), Value.pointer (some { block := TB, off := 3 }), Value.int IntKind.i64 t3, Value.bool false, v25, v26, v27, v28, v29, v30, v31, v32, u33, u34, u35, u36, u37, u38, u39, u40, u41, u42, u43, u44, u45, u46, u47, u48, undef], defers := [] } ∧ (listed.getD 8 false = false → W' = (W).drew) ∧ (listed.getD 8 false = true → W' = ((W).setCell ⟨TB, 0, none⟩ (.int .i64 (t0 * t3))).drew) ∧ (listed.getD 0 false = true → v25 = Value.pointer (some ⟨TB, 0, none⟩)) ∧ (listed.getD 1 false = true → v26 = Value.int .i64 t0) ∧ (listed.getD 2 false = true → v27 = Value.int IntKind.i64 2) ∧ (listed.getD 3 false = true → v28 = Value.pointer (some ⟨TB, 1, none⟩)) ∧ (listed.getD 4 false = true → v29 = Value.pointer (some ⟨TB, 3, none⟩)) ∧ (listed.getD 5 false = true → v30 = Value.int .i64 t3) ∧ (listed.getD 6 false = true → v31 = Value.int .i64 (t0 * t3)) ∧ (listed.getD 7 false = true → v32 = Value.pointer (some ⟨TB, 0, none⟩)) ∧ (listed.getD 6 false = true → listed.getD 1 false = true) ∧ (listed.getD 8 false = true → listed.getD 1 false = true) ∧ (listed.getD 6 false = true → listed.getD 5 false = true) ∧ (listed.getD 8 false = true → listed.getD 5 false = true)) := ⟨_, fun _ _ _ => Iff.rfl⟩
        have HI := hid hInv
        clear hInv
        refine Free.region hmx (by kernel_rfl) Inv ?s1 ?s2 ?s3
        case s1 =>
          exact (HI.out _ _ _).2 ⟨u25, u26, u27, u28, u29, u30, u31, u32, rfl, fun _ => rfl, Free.not_yet, Free.not_yet, Free.not_yet, Free.not_yet, Free.not_yet, Free.not_yet, Free.not_yet, Free.not_yet, Free.not_yet, Free.not_yet, Free.not_yet, Free.not_yet, Free.not_yet⟩
        case s2 =>
          intro i listed aq W1 hix hne hnl hsz hv
          obtain ⟨v25, v26, v27, v28, v29, v30, v31, v32, rfl, hw0, hw1, l0, l1, l2, l3, l4, l5, l6, l7, lc6_1, lc8_1, lc6_5, lc8_5⟩ := (HI.out _ _ _).1 hv
          clear hv
          replace hix : i < 9 := hix
          replace hsz : listed.size = 9 := hsz
          rcases (by omega : i = 0 ∨ i = 1 ∨ i = 2 ∨ i = 3 ∨ i = 4 ∨ i = 5 ∨ i = 6 ∨ i = 7 ∨ i = 8) with rfl | rfl | rfl | rfl | rfl | rfl | rfl | rfl | rfl
          · refine Free.op rfl rfl (fun K hK => ?_)
            go_simp
            exact hK _ _ ((HI.out _ _ _).2 ⟨_, v26, v27, v28, v29, v30, v31, v32, rfl, fun e => hw0 ((Free.set_other (by decide) false).symm.trans e), Free.of_set (by decide) hw1, fun _ => rfl, Free.of_set (by decide) l1, Free.of_set (by decide) l2, Free.of_set (by decide) l3, Free.of_set (by decide) l4, Free.of_set (by decide) l5, Free.of_set (by decide) l6, Free.of_set (by decide) l7, fun e => Free.fore (by decide) (lc6_1 (Free.back (by decide) e)), fun e => Free.fore (by decide) (lc8_1 (Free.back (by decide) e)), fun e => Free.fore (by decide) (lc6_5 (Free.back (by decide) e)), fun e => Free.fore (by decide) (lc8_5 (Free.back (by decide) e))⟩)
          · have h8 : listed.getD 8 false = false := by
              cases e : listed.getD 8 false
              · rfl
              · have q := lc8_1 e; rw [Free.off hnl] at q; cases q
            obtain rfl := hw0 h8
            have z1 : (W).drew.cell? ⟨TB, 0, none⟩ = some (.int .i64 t0) := HB.out.cell 0 rfl
            refine Free.op rfl rfl (fun K hK => ?_)
            obtain rfl := l0 (hne 0 (by kernel_rfl))
            go_simp
            exact hK _ _ ((HI.out _ _ _).2 ⟨_, _, v27, v28, v29, v30, v31, v32, rfl, fun e => hw0 ((Free.set_other (by decide) false).symm.trans e), Free.of_set (by decide) hw1, fun _ => rfl, fun _ => rfl, Free.of_set (by decide) l2, Free.of_set (by decide) l3, Free.of_set (by decide) l4, Free.of_set (by decide) l5, Free.of_set (by decide) l6, Free.of_set (by decide) l7, fun _ => Free.set_same (by omega), fun _ => Free.set_same (by omega), fun e => Free.fore (by decide) (lc6_5 (Free.back (by decide) e)), fun e => Free.fore (by decide) (lc8_5 (Free.back (by decide) e))⟩)
          · refine Free.op rfl rfl (fun K hK => ?_)
            go_simp
            exact hK _ _ ((HI.out _ _ _).2 ⟨v25, v26, _, v28, v29, v30, v31, v32, rfl, fun e => hw0 ((Free.set_other (by decide) false).symm.trans e), Free.of_set (by decide) hw1, Free.of_set (by decide) l0, Free.of_set (by decide) l1, fun _ => rfl, Free.of_set (by decide) l3, Free.of_set (by decide) l4, Free.of_set (by decide) l5, Free.of_set (by decide) l6, Free.of_set (by decide) l7, fun e => Free.fore (by decide) (lc6_1 (Free.back (by decide) e)), fun e => Free.fore (by decide) (lc8_1 (Free.back (by decide) e)), fun e => Free.fore (by decide) (lc6_5 (Free.back (by decide) e)), fun e => Free.fore (by decide) (lc8_5 (Free.back (by decide) e))⟩)
          · refine Free.op rfl rfl (fun K hK => ?_)
            go_simp
            exact hK _ _ ((HI.out _ _ _).2 ⟨v25, v26, v27, _, v29, v30, v31, v32, rfl, fun e => hw0 ((Free.set_other (by decide) false).symm.trans e), Free.of_set (by decide) hw1, Free.of_set (by decide) l0, Free.of_set (by decide) l1, Free.of_set (by decide) l2, fun _ => rfl, Free.of_set (by decide) l4, Free.of_set (by decide) l5, Free.of_set (by decide) l6, Free.of_set (by decide) l7, fun e => Free.fore (by decide) (lc6_1 (Free.back (by decide) e)), fun e => Free.fore (by decide) (lc8_1 (Free.back (by decide) e)), fun e => Free.fore (by decide) (lc6_5 (Free.back (by decide) e)), fun e => Free.fore (by decide) (lc8_5 (Free.back (by decide) e))⟩)
          · refine Free.op rfl rfl (fun K hK => ?_)
            obtain rfl := l2 (hne 2 (by kernel_rfl))
            obtain rfl := l3 (hne 3 (by kernel_rfl))
            go_simp
            exact hK _ _ ((HI.out _ _ _).2 ⟨v25, v26, _, _, _, v30, v31, v32, rfl, fun e => hw0 ((Free.set_other (by decide) false).symm.trans e), Free.of_set (by decide) hw1, Free.of_set (by decide) l0, Free.of_set (by decide) l1, fun _ => rfl, fun _ => rfl, fun _ => rfl, Free.of_set (by decide) l5, Free.of_set (by decide) l6, Free.of_set (by decide) l7, fun e => Free.fore (by decide) (lc6_1 (Free.back (by decide) e)), fun e => Free.fore (by decide) (lc8_1 (Free.back (by decide) e)), fun e => Free.fore (by decide) (lc6_5 (Free.back (by decide) e)), fun e => Free.fore (by decide) (lc8_5 (Free.back (by decide) e))⟩)
          · have h8 : listed.getD 8 false = false := by
              cases e : listed.getD 8 false
              · rfl
              · have q := lc8_5 e; rw [Free.off hnl] at q; cases q
            obtain rfl := hw0 h8
            have z1 : (W).drew.cell? ⟨TB, 3, none⟩ = some (.int .i64 t3) := HB.out.cell 3 rfl
            refine Free.op rfl rfl (fun K hK => ?_)
            obtain rfl := l4 (hne 4 (by kernel_rfl))
            go_simp
            exact hK _ _ ((HI.out _ _ _).2 ⟨v25, v26, v27, v28, _, _, v31, v32, rfl, fun e => hw0 ((Free.set_other (by decide) false).symm.trans e), Free.of_set (by decide) hw1, Free.of_set (by decide) l0, Free.of_set (by decide) l1, Free.of_set (by decide) l2, Free.of_set (by decide) l3, fun _ => rfl, fun _ => rfl, Free.of_set (by decide) l6, Free.of_set (by decide) l7, fun e => Free.fore (by decide) (lc6_1 (Free.back (by decide) e)), fun e => Free.fore (by decide) (lc8_1 (Free.back (by decide) e)), fun _ => Free.set_same (by omega), fun _ => Free.set_same (by omega)⟩)
          · have hw : IntKind.i64.wrap (t0 * t3) = t0 * t3 := HWR.out.1
            refine Free.op rfl rfl (fun K hK => ?_)
            obtain rfl := l1 (hne 1 (by kernel_rfl))
            obtain rfl := l5 (hne 5 (by kernel_rfl))
            go_simp
            exact hK _ _ ((HI.out _ _ _).2 ⟨v25, _, v27, v28, v29, _, _, v32, rfl, fun e => hw0 ((Free.set_other (by decide) false).symm.trans e), Free.of_set (by decide) hw1, Free.of_set (by decide) l0, fun _ => rfl, Free.of_set (by decide) l2, Free.of_set (by decide) l3, Free.of_set (by decide) l4, fun _ => rfl, fun _ => rfl, Free.of_set (by decide) l7, fun _ => Free.fore (by decide) (hne 1 (by kernel_rfl)), fun e => Free.fore (by decide) (lc8_1 (Free.back (by decide) e)), fun _ => Free.fore (by decide) (hne 5 (by kernel_rfl)), fun e => Free.fore (by decide) (lc8_5 (Free.back (by decide) e))⟩)
          · refine Free.op rfl rfl (fun K hK => ?_)
            go_simp
            exact hK _ _ ((HI.out _ _ _).2 ⟨v25, v26, v27, v28, v29, v30, v31, _, rfl, fun e => hw0 ((Free.set_other (by decide) false).symm.trans e), Free.of_set (by decide) hw1, Free.of_set (by decide) l0, Free.of_set (by decide) l1, Free.of_set (by decide) l2, Free.of_set (by decide) l3, Free.of_set (by decide) l4, Free.of_set (by decide) l5, Free.of_set (by decide) l6, fun _ => rfl, fun e => Free.fore (by decide) (lc6_1 (Free.back (by decide) e)), fun e => Free.fore (by decide) (lc8_1 (Free.back (by decide) e)), fun e => Free.fore (by decide) (lc6_5 (Free.back (by decide) e)), fun e => Free.fore (by decide) (lc8_5 (Free.back (by decide) e))⟩)
          · obtain rfl := hw0 (Free.off hnl)
            have y1 : (W).drew.frozen? ⟨TB, 0, none⟩ = false := HB.out.free 0
            have y2 : (W).drew.cell? ⟨TB, 0, none⟩ = some (.int .i64 t0) := HB.out.cell 0 rfl
            refine Free.op rfl rfl (fun K hK => ?_)
            obtain rfl := l6 (hne 6 (by kernel_rfl))
            obtain rfl := l7 (hne 7 (by kernel_rfl))
            go_simp
            exact hK _ _ ((HI.out _ _ _).2 ⟨v25, v26, v27, v28, v29, v30, _, _, rfl, (fun e => by rw [Free.set_same (by omega)] at e; cases e), fun _ => rfl, Free.of_set (by decide) l0, Free.of_set (by decide) l1, Free.of_set (by decide) l2, Free.of_set (by decide) l3, Free.of_set (by decide) l4, Free.of_set (by decide) l5, fun _ => rfl, fun _ => rfl, fun e => Free.fore (by decide) (lc6_1 (Free.back (by decide) e)), fun _ => Free.fore (by decide) (lc6_1 (hne 6 (by kernel_rfl))), fun e => Free.fore (by decide) (lc6_5 (Free.back (by decide) e)), fun _ => Free.fore (by decide) (lc6_5 (hne 6 (by kernel_rfl)))⟩)
        case s3 =>
          intro listed aq W1 hall hsz hv
          obtain ⟨v25, v26, v27, v28, v29, v30, v31, v32, rfl, hw0, hw1, l0, l1, l2, l3, l4, l5, l6, l7, lc6_1, lc8_1, lc6_5, lc8_5⟩ := (HI.out _ _ _).1 hv
          clear hv HI
          obtain rfl := hw1 (Free.listed_of hall hsz 8 (by decide))
          obtain rfl := l0 (Free.listed_of hall hsz 0 (by decide))
          obtain rfl := l1 (Free.listed_of hall hsz 1 (by decide))
          obtain rfl := l2 (Free.listed_of hall hsz 2 (by decide))
          obtain rfl := l3 (Free.listed_of hall hsz 3 (by decide))
          obtain rfl := l4 (Free.listed_of hall hsz 4 (by decide))
          obtain rfl := l5 (Free.listed_of hall hsz 5 (by decide))
          obtain rfl := l6 (Free.listed_of hall hsz 6 (by decide))
          obtain rfl := l7 (Free.listed_of hall hsz 7 (by decide))
          clear hall hsz hw0 hw1 lc6_1 lc8_1 lc6_5 lc8_5
          have hY : Blk ((W).setCell ⟨TB, 0, none⟩ (.int .i64 (t0 * t3))).drew TB 49 #[.int .i64 (t0 * t3), .int .i64 t1, .int .i64 t2, .int .i64 t3] := Blk.set (w := (W)) HB.out 0 (.int .i64 (t0 * t3)) rfl
          have hV := (HBW.out.setCell (p := ⟨TB, 0, none⟩) HTB.out (.int .i64 (t0 * t3))).drew
          generalize ((W).setCell ⟨TB, 0, none⟩ (.int .i64 (t0 * t3))).drew = W2 at *
          have z1 := hY.cell 3 rfl
          have y1 := hY.free 3
          have hw8 : IntKind.i64.wrap (t3 - 1) = t3 - 1 := by have := HWR.out; rw [IntKind.wrap_i64]; omega
          go_upto_region 9 with fail
          have hY3 := hY.set 3 (.int .i64 (t3 - 1)) (cs' := #[.int .i64 (t0 * t3), .int .i64 t1, .int .i64 t2, .int .i64 (t3 - 1)]) rfl
          have hV3 := hV.setCell (p := ⟨TB, 3, none⟩) HTB.out (.int .i64 (t3 - 1))
          clear z1 y1 hY hV hw8
          generalize W2.setCell ⟨TB, 3, none⟩ (.int .i64 (t3 - 1)) = W3 at *
          have z0 := hY3.cell 0 rfl
          have z1 := hY3.cell 1 rfl
          have z2 := hY3.cell 2 rfl
          have z3 := hY3.cell 3 rfl
          have HO := hid (owns_step hown hV3)
          have HBE := hid (hBe.trans (hV3.mono hBe.size))
          have hsz3 := HBE.out.size
          clear hown hV3 hY3 HBW HTB HB hBe
          by_cases hm : Um.may (t0 * t3) = true
          · have HM := HMO ht hm
            have cm : Um.may (t0 * t3) = true := hm
            clear HMO HFU HSK ht hm
            have hown3 := HO.out
            go_wp2_with (first | (go_at_call 14; refine (rMay_any _ _).mono ?_; rintro e w1 ⟨rfl, hq⟩; subst w1) | (at_builtin; refine wpList_append_own _ rfl _ _ 22 rfl w.heap.size 49 i0 (.agg #[.int .i64 0, .int .i64 0, .int .i64 0, .int .i64 0]) 4 32 Tryd.underlying22 hi0 hz0 hz1 hz2 rfl (by decide) _ _ _ rfl (hown3.alloc _) _ 1 1 [.int .i64 (t0 * t3), .int .i64 (t1), .int .i64 (t2), .int .i64 (t3 - 1)] rfl rfl (cell_four_new _ _ _ _ _ _) (by simp [Value.oneCell']) (by unfold maxLen; omega) (by omega) (by simp; omega) ?_; intro v' w1 hown' hgrow _))
            have HN := hid hown'
            have hb2 := (Below.refl w.heap.size (W3.alloc (.cells #[.int .i64 (t0 * t3), .int .i64 t1, .int .i64 t2, .int .i64 (t3 - 1)] 49))).grown hgrow (by simp; omega) (fun j e => owns_from HO.out j e)
            exact ⟨⟨j + 1, by omega, by simp, by rw [HM.out, cellsT_append, List.length_append]; exact HN.out, (HBE.out.alloc hsz3 _).trans hb2, by rw [HM.out]; exact hid rfl⟩, by simp [intOf]; omega⟩
          · have HM := HFU ht hm
            have cm : Um.may (t0 * t3) = false := by simpa using hm
            clear HMO HFU HSK ht hm
            go_wp2_with (go_at_call 14; refine (rMay_any _ _).mono ?_; rintro e w1 ⟨rfl, hq⟩; subst w1)
            go_returns
            exact ⟨_, by rw [HM.out]; rfl, by rw [HM.out]; exact Lt.nil _ _, HBE.out⟩

    · obtain rfl : j = f.length := by omega
      have HQ := hid hown
      have HZ := hid hZ.out
      clear hown hf hA0
      go_wp2
      go_returns
      exact ⟨_, by rw [HZ.out]; rfl, lt_owns HQ.out, hBe⟩

theorem rSteep_none (u : Value) (k : Int) (w : World) (hl : Lt w.heap.size w u []) :
    Calls Tryd.prog 5 #[u, .int .i64 k] w fun e w' => ∃ r, e = .returned (.tuple #[r, .int .i64 0]) ∧ Lt w'.heap.size w' r [] ∧ Below w.heap.size w w' := by
  obtain ⟨a, cap, rfl, -⟩ := hl
  rw [show ([] : List Um.Tm).length = 0 from rfl]
  go_enter Tryd.func5, Tryd.ntmps5
  go_wp2
  refine wp_loop_rounds 1 ?_
  rw [rounds_succ]
  go_wp2
  go_returns
  exact ⟨_, rfl, Lt.nil _ _, Below.refl _ _⟩
theorem rSteep_any (f : List Um.Tm) (u : Value) (k : Nat) (w : World) (hl : Lt w.heap.size w u f) (hf : ∀ i, i < f.length → Um.tmP (Um.tm f i)) (h6 : f.length ≤ 6) (hk : k < 3) :
    Calls Tryd.prog 5 #[u, .int .i64 k] w fun e w' => ∃ r, e = .returned (.tuple #[r, .int .i64 (Um.steepN f k f.length).2]) ∧ Lt w'.heap.size w' r (Um.steepN f k f.length).1 ∧ Below w.heap.size w w' := by
  by_cases h0 : f = []
  · subst h0
    exact rSteep_none u k w hl
  · rcases (by omega : k = 0 ∨ k = 1 ∨ k = 2) with rfl | rfl | rfl
    · exact rSteep_0 f u w hl hf h6 h0
    · exact rSteep_1 f u w hl hf h6 h0
    · exact rSteep_2 f u w hl hf h6 h0
end Go.Proofs.YtmkdjaafkigemaaDoor
