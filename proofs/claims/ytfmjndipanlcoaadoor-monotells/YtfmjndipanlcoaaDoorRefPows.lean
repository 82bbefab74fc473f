/-
  What the document's answer (package spanref1) to polynomials is: Powers at a right polynomial and a right span.
-/
import Derived.Test.YtfmjndipanlcoaaDoorRefHorn
import Derived.Test.YtfmjndipanlcoaaDoorRefPow
import Derived.Test.YtfmjndipanlcoaaDoorPolyP
namespace Go.Proofs.YtfmjndipanlcoaaDoor
set_option linter.unusedSimpArgs false
open Go.RowKit

theorem Ri.away {w W : World} {S c : Nat} {lo hi : Int} {s : Int × Int × Int} (h : Ri w W S lo hi s) (h1 : S ≠ c) (h2 : w.heap.size + 1 < c) (x y : Value) : Ri w ((W.setCell ⟨c, 0, none⟩ x).setCell ⟨c, 1, none⟩ y) S lo hi s :=
  ⟨h.ok, (h.sum.other _ _ h1).other _ _ h1, (h.x.other _ _ (by simp only []; omega)).other _ _ (by simp only []; omega), (h.res.other _ _ (by simp only []; omega)).other _ _ (by simp only []; omega), (h.below.setCell (by simp only []; omega) _).setCell (by simp only []; omega) _⟩
theorem pows_is {lo hi : Int} {p : List Int} {k : Nat} (h0 : (Um.powsN lo hi p k).2.2 = 0) (hp : (Um.powR lo hi k).2.2 = 0) :
    Um.powsN lo hi p (k + 1) = if (Um.stimesR (p[k]?.getD 0) (p[k]?.getD 0) (Um.powR lo hi k).1 (Um.powR lo hi k).2.1).2.2 = 0 then Um.addR (Um.powsN lo hi p k).1 (Um.powsN lo hi p k).2.1 (Um.stimesR (p[k]?.getD 0) (p[k]?.getD 0) (Um.powR lo hi k).1 (Um.powR lo hi k).2.1).1 (Um.stimesR (p[k]?.getD 0) (p[k]?.getD 0) (Um.powR lo hi k).1 (Um.powR lo hi k).2.1).2.1 else (0, 0, 4) := by
  rw [Um.pows_succ, List.getD_eq_getElem?_getD]
  unfold Um.pstep
  rw [if_pos h0, if_pos hp]

set_option maxRecDepth 100000 in
set_option maxHeartbeats 8000000 in
theorem rPowers_any (p : List Int) (v : Value) (lo hi : Int) (w : World) (hl : Li w.heap.size w v p) (h : Um.over p lo hi = 0) :
    Calls Tryd.prog 29 #[v, .agg #[.int .i64 lo, .int .i64 hi]] w fun e w' => e = .returned (.tuple #[.agg #[.int .i64 (Um.powsN lo hi p p.length).1, .int .i64 (Um.powsN lo hi p p.length).2.1], .int .i64 (Um.powsN lo hi p p.length).2.2]) ∧ Below w.heap.size w w' := by
  have hmx : Tryd.prog.follows .mixedOrders = true := by kernel_rfl
  obtain ⟨hp, hc⟩ := Um.over_ok.1 h
  obtain ⟨h0, h5, hm⟩ := Um.pchk_ok.1 hp
  obtain ⟨b, off, cap, rfl, hlt, hcs⟩ := hl.out h0
  have HC := hid hcs
  have HM := hid hm
  have HK := hid hc
  have hX : Sp (((w.alloc (.cells #[.int .i64 lo, .int .i64 hi] 23)).alloc (.cells #[.int .i64 0, .int .i64 0] 23)).alloc (.cells #[.int .i64 0, .int .i64 0] 23)) w.heap.size lo hi := ((Sp.new w lo hi).alloc _).alloc _
  have hR : Sp (((w.alloc (.cells #[.int .i64 lo, .int .i64 hi] 23)).alloc (.cells #[.int .i64 0, .int .i64 0] 23)).alloc (.cells #[.int .i64 0, .int .i64 0] 23)) (w.heap.size + 1) 0 0 := by
    simpa using (Sp.new (w.alloc (.cells #[.int .i64 lo, .int .i64 hi] 23)) 0 0).alloc (.cells #[.int .i64 0, .int .i64 0] 23)
  have hS : Sp (((w.alloc (.cells #[.int .i64 lo, .int .i64 hi] 23)).alloc (.cells #[.int .i64 0, .int .i64 0] 23)).alloc (.cells #[.int .i64 0, .int .i64 0] 23)) (w.heap.size + 1 + 1) 0 0 := by
    simpa using Sp.new ((w.alloc (.cells #[.int .i64 lo, .int .i64 hi] 23)).alloc (.cells #[.int .i64 0, .int .i64 0] 23)) 0 0
  have hB : Below w.heap.size w (((w.alloc (.cells #[.int .i64 lo, .int .i64 hi] 23)).alloc (.cells #[.int .i64 0, .int .i64 0] 23)).alloc (.cells #[.int .i64 0, .int .i64 0] 23)) := by go_grown
  clear hcs hm h0 hp hc h hl
  go_enter Tryd.func29, Tryd.ntmps29
  go_wp2
  go_loopw [7] (fun i wr => ∃ k : Nat, k ≤ p.length ∧ i = .int .i64 k ∧ Ri w wr (w.heap.size + 1 + 1) lo hi (Um.powsN lo hi p k)) (fun i _ => p.length - (intOf i).toNat)
  case atStart => exact ⟨0, by omega, rfl, rfl, hS, hX, hR, hB⟩
  case round =>
    obtain ⟨k, hk, rfl, hI⟩ := hrel
    have hsz := hI.below.size
    by_cases hkl : k < p.length
    · have hc0 := HC.out k hkl
      have hkk : (k : Int) < (p.length : Int) := by omega
      have HP := fun w => hid (rPower_any lo hi k k w HK.out rfl (by omega))
      have H1 := fun h => hid (pows_out (lo := lo) (hi := hi) hkl h)
      have H2 := fun h => hid (pows_out' (lo := lo) (hi := hi) hkl h)
      have HN := fun hp => hid (pows_is (p := p) hI.ok hp)
      have hcs := Um.pows_chk HK.out p k (by omega) hI.ok
      have hcp := fun hp => Um.pow_chk HK.out (by omega : k ≤ 4) hp
      have hmc := HM.out _ (Um.at_mem hkl)
      have RF := hid (Um.pows_fault lo hi p (k + 1))
      clear HC HM HK
      generalize p[k]?.getD 0 = c at *
      generalize hRR : Um.powsN lo hi p (k + 1) = R at *
      have HRR := hid hRR
      clear hRR
      generalize Um.powsN lo hi p k = s at *
      generalize Um.powR lo hi k = P at *
      obtain ⟨m1, m2, m3⟩ := Um.chk_ok.1 hcs
      have x1 := hI.x.lo
      have x2 := hI.x.hi
      by_cases hP : P.2.2 = 0
      · have kp : (P.2.2 == 0) = true := by simpa using hP
        obtain ⟨n1, n2, n3⟩ := Um.chk_ok.1 (hcp hP)
        have HT := fun w => hid (rTimes_um c c P.1 P.2.1 w hmc hmc n1 n2)
        have HNN := HN hP
        have tc := fun h => Um.stimes_chk (al := c) (ah := c) (bl := P.1) (bh := P.2.1) (Int.le_refl _) n3 h
        have tf := Um.stimes_fault c c P.1 P.2.1
        generalize Um.stimesR c c P.1 P.2.1 = T at *
        have Pz : Hid (P.2.2 = 0) := hP
        clear HN hcp H2 hP hcs
        go_wp2_with (go_at_call 70; refine (HP _).out.mono ?_; rintro e w2 ⟨rfl, hb⟩; replace hI := hI.step hb; clear hb x1 x2)
        have hslt := hI.sum.lt
        obtain ⟨W, hWe⟩ : ∃ W, w2.alloc (.cells #[.int .i64 P.1, .int .i64 P.2.1] 23) = W := ⟨_, rfl⟩
        have hIW : Ri w W (w.heap.size + 1 + 1) lo hi s := by rw [← hWe]; exact hI.step ((Below.refl _ _).alloc (Nat.le_refl _) _)
        have hsp : Sp W w2.heap.size P.1 P.2.1 := by rw [← hWe]; exact Sp.new _ _ _
        rw [hWe]
        clear hWe hI HP
        have hcW := (hIW.below.cell (p := ⟨b, off + k, none⟩) hlt).trans hc0
        have hbW := Nat.lt_of_lt_of_le hlt hIW.below.size
        obtain ⟨Inv, hInv⟩ : ∃ Inv : Array Bool → Act → World → Prop, ∀ listed a W', Inv listed a W' ↔ (∃ v25 v26 v27 v28 v29 v30 v31 v24 v32 v33 v9 : Value, a = { tmps := #[.slice (some ⟨b, off, none⟩) p.length cap, .agg #[.int .i64 lo, .int .i64 hi], undef, .pointer (some ⟨w.heap.size, 0, none⟩), .pointer (some ⟨w.heap.size + 1, 0, none⟩), u5, .pointer (some ⟨w.heap.size + 1 + 1, 0, none⟩), .int .i64 k, .pointer (some ⟨w2.heap.size, 0, none⟩), v9, .int .i64 k, .slice (some ⟨b, off, none⟩) p.length cap, .int .i64 p.length, .bool true, u14, u15, .tuple #[.agg #[.int .i64 P.1, .int .i64 P.2.1], .int .i64 P.2.2], .agg #[.int .i64 lo, .int .i64 hi], .int .i64 k, .tuple #[.agg #[.int .i64 P.1, .int .i64 P.2.1], .int .i64 P.2.2], .agg #[.int .i64 P.1, .int .i64 P.2.1], .int .i64 P.2.2, .int .i64 P.2.2, .bool true, v24, v25, v26, v27, v28, v29, v30, v31, v32, v33, u34, u35, u36, u37, u38, u39, u40, u41, u42, u43, u44, u45, undef], defers := [] } ∧ (∃ W2 : World, Below W.heap.size W W2 ∧ W' = if listed.getD 10 false = true then ((W2.setCell ⟨w2.heap.size, 0, none⟩ (.int .i64 T.1)).setCell ⟨w2.heap.size, 1, none⟩ (.int .i64 T.2.1)) else W2) ∧ (listed.getD 0 false = true → v25 = .slice (some ⟨b, off, none⟩) p.length cap) ∧ (listed.getD 1 false = true → v26 = .int .i64 k) ∧ (listed.getD 2 false = true → v27 = .pointer (some ⟨b, off + k, none⟩)) ∧ (listed.getD 3 false = true → v28 = .int .i64 c) ∧ (listed.getD 4 false = true → v29 = .agg #[.int .i64 c, .int .i64 c]) ∧ (listed.getD 5 false = true → v30 = .agg #[.int .i64 P.1, .int .i64 P.2.1]) ∧ (listed.getD 6 false = true → v31 = .tuple #[.agg #[.int .i64 T.1, .int .i64 T.2.1], .int .i64 T.2.2]) ∧ (listed.getD 7 false = true → v24 = .tuple #[.agg #[.int .i64 T.1, .int .i64 T.2.1], .int .i64 T.2.2]) ∧ (listed.getD 8 false = true → v32 = .agg #[.int .i64 T.1, .int .i64 T.2.1]) ∧ (listed.getD 9 false = true → v33 = .int .i64 T.2.2) ∧ (listed.getD 11 false = true → v9 = .int .i64 T.2.2) ∧ (listed.getD 10 false = true → listed.getD 3 false = true ∧ listed.getD 4 false = true ∧ listed.getD 5 false = true ∧ listed.getD 6 false = true)) := ⟨_, fun _ _ _ => Iff.rfl⟩
        have HI := hid hInv
        clear hInv
        refine Free.region hmx (by kernel_rfl) Inv ?s1 ?s2 ?s3
        case s1 =>
          exact (HI.out _ _ _).2 ⟨u25, u26, u27, u28, u29, u30, u31, u24, u32, u33, .int .i64 P.2.2, rfl, ⟨_, (Below.refl _ _).drew, by rw [Free.none_yet]; rfl⟩, Free.not_yet, Free.not_yet, Free.not_yet, Free.not_yet, Free.not_yet, Free.not_yet, Free.not_yet, Free.not_yet, Free.not_yet, Free.not_yet, Free.not_yet, Free.not_yet⟩
        case s2 =>
          intro i listed a W1 hi hne hnl hsz hv
          obtain ⟨v25, v26, v27, v28, v29, v30, v31, v24, v32, v33, v9, rfl, ⟨W2, hW, hWW⟩, l0, l1, l2, l3, l4, l5, l6, l7, l8, l9, l11, l10⟩ := (HI.out _ _ _).1 hv
          have HWW := hid hWW
          clear hv hWW
          replace hi : i < 12 := hi
          replace hsz : listed.size = 12 := hsz
          rcases (by omega : i = 0 ∨ i = 1 ∨ i = 2 ∨ i = 3 ∨ i = 4 ∨ i = 5 ∨ i = 6 ∨ i = 7 ∨ i = 8 ∨ i = 9 ∨ i = 10 ∨ i = 11) with rfl | rfl | rfl | rfl | rfl | rfl | rfl | rfl | rfl | rfl | rfl | rfl
          · refine Free.op rfl rfl (fun K hK => ?_)
            go_simp
            exact hK _ _ ((HI.out _ _ _).2 ⟨_, v26, v27, v28, v29, v30, v31, v24, v32, v33, v9, rfl, ⟨W2, hW, by rw [Free.set_other (by decide)]; exact HWW.out⟩, fun _ => rfl, Free.of_set (by decide) l1, Free.of_set (by decide) l2, Free.of_set (by decide) l3, Free.of_set (by decide) l4, Free.of_set (by decide) l5, Free.of_set (by decide) l6, Free.of_set (by decide) l7, Free.of_set (by decide) l8, Free.of_set (by decide) l9, Free.of_set (by decide) l11, fun e => by rw [Free.set_other (by decide)] at e; rw [Free.set_other (by decide), Free.set_other (by decide), Free.set_other (by decide), Free.set_other (by decide)]; exact l10 e⟩)
          · refine Free.op rfl rfl (fun K hK => ?_)
            go_simp
            exact hK _ _ ((HI.out _ _ _).2 ⟨v25, _, v27, v28, v29, v30, v31, v24, v32, v33, v9, rfl, ⟨W2, hW, by rw [Free.set_other (by decide)]; exact HWW.out⟩, Free.of_set (by decide) l0, fun _ => rfl, Free.of_set (by decide) l2, Free.of_set (by decide) l3, Free.of_set (by decide) l4, Free.of_set (by decide) l5, Free.of_set (by decide) l6, Free.of_set (by decide) l7, Free.of_set (by decide) l8, Free.of_set (by decide) l9, Free.of_set (by decide) l11, fun e => by rw [Free.set_other (by decide)] at e; rw [Free.set_other (by decide), Free.set_other (by decide), Free.set_other (by decide), Free.set_other (by decide)]; exact l10 e⟩)
          · refine Free.op rfl rfl (fun K hK => ?_)
            obtain rfl := l0 (hne 0 (by kernel_rfl))
            obtain rfl := l1 (hne 1 (by kernel_rfl))
            go_simp
            exact hK _ _ ((HI.out _ _ _).2 ⟨_, _, _, v28, v29, v30, v31, v24, v32, v33, v9, rfl, ⟨W2, hW, by rw [Free.set_other (by decide)]; exact HWW.out⟩, fun _ => rfl, fun _ => rfl, fun _ => rfl, Free.of_set (by decide) l3, Free.of_set (by decide) l4, Free.of_set (by decide) l5, Free.of_set (by decide) l6, Free.of_set (by decide) l7, Free.of_set (by decide) l8, Free.of_set (by decide) l9, Free.of_set (by decide) l11, fun e => by rw [Free.set_other (by decide)] at e; rw [Free.set_other (by decide), Free.set_other (by decide), Free.set_other (by decide), Free.set_other (by decide)]; exact l10 e⟩)
          · have hf := Free.off hnl
            have hs : listed.getD 10 false = false := by
              cases e : listed.getD 10 false
              · rfl
              · rw [(l10 e).1] at hf; cases hf
            have hWW := HWW.out
            rw [hs] at hWW
            obtain rfl : W1 = W2 := hWW
            clear HWW
            have z1 := (hW.cell (p := ⟨b, off + k, none⟩) hbW).trans hcW
            refine Free.op rfl rfl (fun K hK => ?_)
            obtain rfl := l2 (hne 2 (by kernel_rfl))
            go_simp
            exact hK _ _ ((HI.out _ _ _).2 ⟨v25, v26, _, _, v29, v30, v31, v24, v32, v33, v9, rfl, ⟨W1, hW, by rw [Free.set_other (by decide), hs]; rfl⟩, Free.of_set (by decide) l0, Free.of_set (by decide) l1, fun _ => rfl, fun _ => rfl, Free.of_set (by decide) l4, Free.of_set (by decide) l5, Free.of_set (by decide) l6, Free.of_set (by decide) l7, Free.of_set (by decide) l8, Free.of_set (by decide) l9, Free.of_set (by decide) l11, fun e => by rw [Free.set_other (by decide), hs] at e; cases e⟩)
          · have hf := Free.off hnl
            have hs : listed.getD 10 false = false := by
              cases e : listed.getD 10 false
              · rfl
              · rw [(l10 e).2.1] at hf; cases hf
            have hWW := HWW.out
            rw [hs] at hWW
            obtain rfl : W1 = W2 := hWW
            clear HWW
            refine Free.op rfl rfl (fun K hK => ?_)
            obtain rfl := l3 (hne 3 (by kernel_rfl))
            go_wp2_with (go_at_call 65; refine (rAlone_any _ _).mono ?_; rintro e W3 ⟨rfl, hb⟩)
            exact (HI.out _ _ _).2 ⟨v25, v26, v27, _, _, v30, v31, v24, v32, v33, v9, rfl, ⟨_, hW.trans (hb.mono hW.size), by rw [Free.set_other (by decide), hs]; rfl⟩, Free.of_set (by decide) l0, Free.of_set (by decide) l1, Free.of_set (by decide) l2, fun _ => rfl, fun _ => rfl, Free.of_set (by decide) l5, Free.of_set (by decide) l6, Free.of_set (by decide) l7, Free.of_set (by decide) l8, Free.of_set (by decide) l9, Free.of_set (by decide) l11, fun e => by rw [Free.set_other (by decide), hs] at e; cases e⟩
          · have hf := Free.off hnl
            have hs : listed.getD 10 false = false := by
              cases e : listed.getD 10 false
              · rfl
              · rw [(l10 e).2.2.1] at hf; cases hf
            have hWW := HWW.out
            rw [hs] at hWW
            obtain rfl : W1 = W2 := hWW
            clear HWW
            have z1 := (hsp.step hW).lo
            have z2 := (hsp.step hW).hi
            refine Free.op rfl rfl (fun K hK => ?_)
            go_simp
            exact hK _ _ ((HI.out _ _ _).2 ⟨v25, v26, v27, v28, v29, _, v31, v24, v32, v33, v9, rfl, ⟨W1, hW, by rw [Free.set_other (by decide), hs]; rfl⟩, Free.of_set (by decide) l0, Free.of_set (by decide) l1, Free.of_set (by decide) l2, Free.of_set (by decide) l3, Free.of_set (by decide) l4, fun _ => rfl, Free.of_set (by decide) l6, Free.of_set (by decide) l7, Free.of_set (by decide) l8, Free.of_set (by decide) l9, Free.of_set (by decide) l11, fun e => by rw [Free.set_other (by decide), hs] at e; cases e⟩)
          · have hf := Free.off hnl
            have hs : listed.getD 10 false = false := by
              cases e : listed.getD 10 false
              · rfl
              · rw [(l10 e).2.2.2] at hf; cases hf
            have hWW := HWW.out
            rw [hs] at hWW
            obtain rfl : W1 = W2 := hWW
            clear HWW
            refine Free.op rfl rfl (fun K hK => ?_)
            obtain rfl := l4 (hne 4 (by kernel_rfl))
            obtain rfl := l5 (hne 5 (by kernel_rfl))
            go_wp2_with (go_at_call 14; refine (HT _).out.mono ?_; rintro e W3 ⟨rfl, hb⟩)
            exact (HI.out _ _ _).2 ⟨v25, v26, v27, v28, _, _, _, v24, v32, v33, v9, rfl, ⟨_, hW.trans (hb.mono hW.size), by rw [Free.set_other (by decide), hs]; rfl⟩, Free.of_set (by decide) l0, Free.of_set (by decide) l1, Free.of_set (by decide) l2, Free.of_set (by decide) l3, fun _ => rfl, fun _ => rfl, fun _ => rfl, Free.of_set (by decide) l7, Free.of_set (by decide) l8, Free.of_set (by decide) l9, Free.of_set (by decide) l11, fun e => by rw [Free.set_other (by decide), hs] at e; cases e⟩
          · refine Free.op rfl rfl (fun K hK => ?_)
            obtain rfl := l6 (hne 6 (by kernel_rfl))
            go_simp
            exact hK _ _ ((HI.out _ _ _).2 ⟨v25, v26, v27, v28, v29, v30, _, _, v32, v33, v9, rfl, ⟨W2, hW, by rw [Free.set_other (by decide)]; exact HWW.out⟩, Free.of_set (by decide) l0, Free.of_set (by decide) l1, Free.of_set (by decide) l2, Free.of_set (by decide) l3, Free.of_set (by decide) l4, Free.of_set (by decide) l5, fun _ => rfl, fun _ => rfl, Free.of_set (by decide) l8, Free.of_set (by decide) l9, Free.of_set (by decide) l11, fun e => by rw [Free.set_other (by decide)] at e; rw [Free.set_other (by decide), Free.set_other (by decide), Free.set_other (by decide), Free.set_other (by decide)]; exact l10 e⟩)
          · refine Free.op rfl rfl (fun K hK => ?_)
            obtain rfl := l7 (hne 7 (by kernel_rfl))
            go_simp
            exact hK _ _ ((HI.out _ _ _).2 ⟨v25, v26, v27, v28, v29, v30, v31, _, _, v33, v9, rfl, ⟨W2, hW, by rw [Free.set_other (by decide)]; exact HWW.out⟩, Free.of_set (by decide) l0, Free.of_set (by decide) l1, Free.of_set (by decide) l2, Free.of_set (by decide) l3, Free.of_set (by decide) l4, Free.of_set (by decide) l5, Free.of_set (by decide) l6, fun _ => rfl, fun _ => rfl, Free.of_set (by decide) l9, Free.of_set (by decide) l11, fun e => by rw [Free.set_other (by decide)] at e; rw [Free.set_other (by decide), Free.set_other (by decide), Free.set_other (by decide), Free.set_other (by decide)]; exact l10 e⟩)
          · refine Free.op rfl rfl (fun K hK => ?_)
            obtain rfl := l7 (hne 7 (by kernel_rfl))
            go_simp
            exact hK _ _ ((HI.out _ _ _).2 ⟨v25, v26, v27, v28, v29, v30, v31, _, v32, _, v9, rfl, ⟨W2, hW, by rw [Free.set_other (by decide)]; exact HWW.out⟩, Free.of_set (by decide) l0, Free.of_set (by decide) l1, Free.of_set (by decide) l2, Free.of_set (by decide) l3, Free.of_set (by decide) l4, Free.of_set (by decide) l5, Free.of_set (by decide) l6, fun _ => rfl, Free.of_set (by decide) l8, fun _ => rfl, Free.of_set (by decide) l11, fun e => by rw [Free.set_other (by decide)] at e; rw [Free.set_other (by decide), Free.set_other (by decide), Free.set_other (by decide), Free.set_other (by decide)]; exact l10 e⟩)
          · have hs := Free.off hnl
            have N := hid (And.intro (hne 3 (by kernel_rfl)) (And.intro (hne 4 (by kernel_rfl)) (And.intro (hne 5 (by kernel_rfl)) (hne 6 (by kernel_rfl)))))
            have hWW := HWW.out
            rw [hs] at hWW
            obtain rfl : W1 = W2 := hWW
            clear HWW
            have y1 := (hsp.step hW).fl
            have y2 := (hsp.step hW).fh
            have y3 := (hsp.step hW).lo
            have y4 := (hsp.step hW).hi
            refine Free.op rfl rfl (fun K hK => ?_)
            obtain rfl := l8 (hne 8 (by kernel_rfl))
            go_simp
            exact hK _ _ ((HI.out _ _ _).2 ⟨v25, v26, v27, v28, v29, v30, v31, v24, _, v33, v9, rfl, ⟨W1, hW, by rw [Free.set_same (by omega)]; rfl⟩, Free.of_set (by decide) l0, Free.of_set (by decide) l1, Free.of_set (by decide) l2, Free.of_set (by decide) l3, Free.of_set (by decide) l4, Free.of_set (by decide) l5, Free.of_set (by decide) l6, Free.of_set (by decide) l7, fun _ => rfl, Free.of_set (by decide) l9, Free.of_set (by decide) l11, fun _ => by rw [Free.set_other (by decide), Free.set_other (by decide), Free.set_other (by decide), Free.set_other (by decide)]; exact N.out⟩)
          · refine Free.op rfl rfl (fun K hK => ?_)
            obtain rfl := l9 (hne 9 (by kernel_rfl))
            go_simp
            exact hK _ _ ((HI.out _ _ _).2 ⟨v25, v26, v27, v28, v29, v30, v31, v24, v32, _, _, rfl, ⟨W2, hW, by rw [Free.set_other (by decide)]; exact HWW.out⟩, Free.of_set (by decide) l0, Free.of_set (by decide) l1, Free.of_set (by decide) l2, Free.of_set (by decide) l3, Free.of_set (by decide) l4, Free.of_set (by decide) l5, Free.of_set (by decide) l6, Free.of_set (by decide) l7, Free.of_set (by decide) l8, fun _ => rfl, fun _ => rfl, fun e => by rw [Free.set_other (by decide)] at e; rw [Free.set_other (by decide), Free.set_other (by decide), Free.set_other (by decide), Free.set_other (by decide)]; exact l10 e⟩)
        case s3 =>
          intro listed a W1 hall hsz hv
          obtain ⟨v25, v26, v27, v28, v29, v30, v31, v24, v32, v33, v9, rfl, ⟨W2, hW, hWW⟩, l0, l1, l2, l3, l4, l5, l6, l7, l8, l9, l11, l10⟩ := (HI.out _ _ _).1 hv
          clear hv HI
          rw [Free.listed_of hall hsz 10 (by decide)] at hWW
          obtain rfl : W1 = ((W2.setCell ⟨w2.heap.size, 0, none⟩ (.int .i64 T.1)).setCell ⟨w2.heap.size, 1, none⟩ (.int .i64 T.2.1)) := hWW
          obtain rfl := l11 (Free.listed_of hall hsz 11 (by decide))
          clear l0 l1 l2 l3 l4 l5 l6 l7 l8 l9 l10 hall hsz HT
          have hJ := (hIW.step hW).away (c := w2.heap.size) (by omega) (by omega) (.int .i64 T.1) (.int .i64 T.2.1)
          have hsT := (hsp.step hW).set T.1 T.2.1
          have hj := hJ.below.size
          clear hIW
          generalize ((W2.setCell ⟨w2.heap.size, 0, none⟩ (.int .i64 T.1)).setCell ⟨w2.heap.size, 1, none⟩ (.int .i64 T.2.1)) = W9 at *
          by_cases hT : T.2.2 = 0
          · have kt : (T.2.2 == 0) = true := by simpa using hT
            obtain ⟨o1, o2, o3⟩ := Um.chk_ok.1 (tc hT)
            have HA := fun w => hid (rAdd_any s.1 s.2.1 T.1 T.2.1 w m1 m2 o1 o2)
            rw [← (show R = Um.addR s.1 s.2.1 T.1 T.2.1 by rw [HNN.out, if_pos hT])] at HA
            have z1 := hJ.sum.lo
            have z2 := hJ.sum.hi
            have z3 := hsT.lo
            have z4 := hsT.hi
            clear HNN tc tf hT
            by_cases hr : R.2.2 = 0
            · have kr : (R.2.2 != 0) = false := by simpa using hr
              have HZ := hid hr
              clear hr
              go_wp2_with (go_at_call 12; refine (HA _).out.mono ?_; rintro e w4 ⟨rfl, hb⟩; replace hJ := hJ.step hb; clear hb z1 z2 z3 z4 hsT; have y1 := hJ.sum.fl; have y2 := hJ.sum.fh; have y3 := hJ.sum.lo; have y4 := hJ.sum.hi)
              refine ⟨⟨k + 1, by omega, rfl, ?_⟩, by simp [intOf]; omega⟩
              rw [HRR.out]
              exact hJ.put (by omega) R HZ.out
            · have kr : (R.2.2 != 0) = true := by simpa using hr
              obtain ⟨t1, t2⟩ := (H1 hr).out
              have T1 := hid t1
              have T2 := hid t2
              clear t1 t2 H1 hr
              go_wp2_with (go_at_call 12; refine (HA _).out.mono ?_; rintro e w4 ⟨rfl, hb⟩; replace hJ := hJ.step hb; clear hb z1 z2 z3 z4 hsT; have y1 := hJ.sum.fl; have y2 := hJ.sum.fh; have y3 := hJ.sum.lo; have y4 := hJ.sum.hi; have hres := (hJ.res.other ⟨w.heap.size + 1 + 1, 0, none⟩ (.int .i64 R.1) (by simp only []; omega)).other ⟨w.heap.size + 1 + 1, 1, none⟩ (.int .i64 R.2.1) (by simp only []; omega); have y5 := hres.fl; have y6 := hres.fh; have y7 := hres.lo; have y8 := hres.hi; have d1 := (hres.set 0 0).lo; have d2 := (hres.set 0 0).hi)
              refine bodyPost_ret (by simp [results, Tryd.results29, go_sem, d1, d2]; try rfl) rfl ?_
              rw [T1.out, T2.out]
              exact ⟨rfl, (((hJ.below.setCell (by simp only []; omega) _).setCell (by simp only []; omega) _).setCell (by simp only []; omega) _).setCell (by simp only []; omega) _⟩
          · have kt : (T.2.2 == 0) = false := by simpa using hT
            have kt2 : (T.2.2 != 0) = true := by simpa using hT
            have hT4 := tf.resolve_left hT
            have TZ : Hid (T.2.2 = 4) := by rw [hT4]; rfl
            have T1 := hid (H1 (by rw [HNN.out, if_neg hT]; decide)).out.1
            clear HNN tc tf hT hT4 H1
            have y5 := hJ.res.fl
            have y6 := hJ.res.fh
            have y7 := hJ.res.lo
            have y8 := hJ.res.hi
            have d1 := (hJ.res.set 0 0).lo
            have d2 := (hJ.res.set 0 0).hi
            go_wp2
            refine bodyPost_ret (by simp [results, Tryd.results29, go_sem, d1, d2]; try rfl) rfl ?_
            rw [T1.out, TZ.out]
            exact ⟨rfl, (hJ.below.setCell (by simp only []; omega) _).setCell (by simp only []; omega) _⟩
      · have kp : (P.2.2 == 0) = false := by simpa using hP
        have kq : (P.2.2 != 0) = true := by simpa using hP
        obtain ⟨t1, t2⟩ := (H2 hP).out
        have T1 := hid t1
        have T2 := hid t2
        clear t1 t2 H2 HN H1 hP hcp hcs
        go_wp2_with (go_at_call 70; refine (HP _).out.mono ?_; rintro e w2 ⟨rfl, hb⟩; replace hI := hI.step hb; clear hb x1 x2; have y1 := hI.res.fl; have y2 := hI.res.fh; have y3 := hI.res.lo; have y4 := hI.res.hi; have y5 := hI.res.lt)
        have hz := hI.below.size
        have d1 := ((hI.res.set 0 0).alloc (.cells #[.int .i64 P.1, .int .i64 P.2.1] 23)).lo
        have d2 := ((hI.res.set 0 0).alloc (.cells #[.int .i64 P.1, .int .i64 P.2.1] 23)).hi
        refine bodyPost_ret (by simp [results, Tryd.results29, go_sem, d1, d2]; try rfl) rfl ?_
        rw [T1.out, T2.out]
        exact ⟨rfl, ((hI.below.setCell (by simp only []; omega) _).setCell (by simp only []; omega) _).alloc (by simp; omega) _⟩
    · obtain rfl : k = p.length := by omega
      clear HC HM HK
      generalize hRR : Um.powsN lo hi p p.length = R at hI
      have HRR := hid hRR
      clear hRR
      have z1 := hI.sum.lo
      have z2 := hI.sum.hi
      have y1 := hI.res.fl
      have y2 := hI.res.fh
      have y3 := hI.res.lo
      have y4 := hI.res.hi
      go_wp2
      have d1 := (hI.res.set R.1 R.2.1).lo
      have d2 := (hI.res.set R.1 R.2.1).hi
      refine bodyPost_ret (by simp [results, Tryd.results29, go_sem, d1, d2]; try rfl) rfl ?_
      rw [HRR.out, hI.ok]
      exact ⟨rfl, (hI.below.setCell (by simp only []; omega) _).setCell (by simp only []; omega) _⟩
end Go.Proofs.YtfmjndipanlcoaaDoor
