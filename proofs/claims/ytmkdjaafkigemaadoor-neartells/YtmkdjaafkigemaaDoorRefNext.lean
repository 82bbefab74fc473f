/-
  What the document's answer (package spanref2) to what may be next is: Next of what is right.
-/
import Derived.Test.YtmkdjaafkigemaaDoorRefStep
namespace Go.Proofs.YtmkdjaafkigemaaDoor
set_option linter.unusedSimpArgs false
open Go.RowKit

theorem next_more {s : List (List Um.Tm)} {p b : List (Int × Int)} {k : Nat} (h : (Um.nextN s p b k).2 = 0) (h1 : (Um.frR (Um.nx s k) b).2.2 = 0) (h2 : (Um.addR (Um.frR (Um.nx s k) b).1 (Um.frR (Um.nx s k) b).2.1 (Um.sd p k).1 (Um.sd p k).2).2.2 = 0) :
    Um.nextN s p b (k + 1) = ((Um.nextN s p b k).1 ++ [((Um.addR (Um.frR (Um.nx s k) b).1 (Um.frR (Um.nx s k) b).2.1 (Um.sd p k).1 (Um.sd p k).2).1, (Um.addR (Um.frR (Um.nx s k) b).1 (Um.frR (Um.nx s k) b).2.1 (Um.sd p k).1 (Um.sd p k).2).2.1)], 0) := by
  have e : Um.sideR s p b k = Um.addR (Um.frR (Um.nx s k) b).1 (Um.frR (Um.nx s k) b).2.1 (Um.sd p k).1 (Um.sd p k).2 := by unfold Um.sideR; rw [if_pos h1]
  rw [Um.nextN_succ, if_pos h, e, if_pos h2]
theorem next_none1 {s : List (List Um.Tm)} {p b : List (Int × Int)} {k : Nat} (hk : k < s.length) (h1 : ¬ (Um.frR (Um.nx s k) b).2.2 = 0) : Um.behR s p b = ([], 4) :=
  Um.nextN_bad hk (by unfold Um.sideR; rw [if_neg h1]; decide)
theorem next_none2 {s : List (List Um.Tm)} {p b : List (Int × Int)} {k : Nat} (hk : k < s.length) (h1 : (Um.frR (Um.nx s k) b).2.2 = 0) (h2 : ¬ (Um.addR (Um.frR (Um.nx s k) b).1 (Um.frR (Um.nx s k) b).2.1 (Um.sd p k).1 (Um.sd p k).2).2.2 = 0) : Um.behR s p b = ([], 4) :=
  Um.nextN_bad hk (by unfold Um.sideR; rw [if_pos h1]; exact h2)

set_option maxRecDepth 100000 in
set_option maxHeartbeats 16000000 in
theorem rNext_new (s : List (List Um.Tm)) (v0 : Value) (p : List (Int × Int)) (v1 : Value) (b : List (Int × Int)) (v : Value) (w : World) (hf : Lf w.heap.size w v0 s) (hp : Ls w.heap.size w v1 p) (hs : Ls w.heap.size w v b) (h : Um.readyF s p b = 0) :
    Calls Tryd.prog 11 #[.agg #[v0, v1], v] w fun e w' => ∃ r, e = .returned (.tuple #[r, .int .i64 (Um.behR s p b).2]) ∧ Ls w'.heap.size w' r (Um.behR s p b).1 ∧ Below w.heap.size w w' ∧ ∀ g, r.ownBlock = some g → w.heap.size ≤ g := by
  have hmx : Tryd.prog.follows .mixedOrders = true := by kernel_rfl
  obtain ⟨hsy, hbx, hlen⟩ := Um.ready_ok.1 h
  obtain ⟨h0, h3, hpl, -, -⟩ := Um.sys_ok.1 hsy
  have hs0 : 0 < s.length := List.length_pos_iff.2 h0
  obtain ⟨b1, off1, cap, rfl, hcap, hlt1, hall1⟩ := hf.open h0
  obtain ⟨b2, off2, cap2, rfl, hcap2, hA⟩ := hp.open (by intro e; rw [e] at hpl; simp at hpl; omega)
  obtain ⟨a3, cap3, rfl, -⟩ := (id hs)
  have h1 : w.heap.size < (w.alloc (.cells #[.slice (some ⟨b1, off1, none⟩) s.length cap, .slice (some ⟨b2, off2, none⟩) p.length cap2] 26)).heap.size := by simp
  have hBW : Below w.heap.size w (w.alloc (.cells #[.slice (some ⟨b1, off1, none⟩) s.length cap, .slice (some ⟨b2, off2, none⟩) p.length cap2] 26)) := by go_grown
  obtain ⟨c0, c1⟩ := sys_cells w (.slice (some ⟨b1, off1, none⟩) s.length cap) (.slice (some ⟨b2, off2, none⟩) p.length cap2) 26
  have hA2 := hA.step hBW
  have hb2 := hs.step hBW
  have HU : Hid (∀ j, j < s.length → ∃ u, (w.alloc (.cells #[.slice (some ⟨b1, off1, none⟩) s.length cap, .slice (some ⟨b2, off2, none⟩) p.length cap2] 26)).cell? ⟨b1, off1 + j, none⟩ = some u ∧ Lt (w.alloc (.cells #[.slice (some ⟨b1, off1, none⟩) s.length cap, .slice (some ⟨b2, off2, none⟩) p.length cap2] 26)).heap.size (w.alloc (.cells #[.slice (some ⟨b1, off1, none⟩) s.length cap, .slice (some ⟨b2, off2, none⟩) p.length cap2] 26)) u (Um.nx s j)) := by
    intro j hj
    obtain ⟨u, hu, hl⟩ := hall1 j hj
    exact ⟨u, (hBW.cell (p := ⟨b1, off1 + j, none⟩) hlt1).trans hu, (hl.keep hBW).wide hBW.size⟩
  have hl1 : b1 < (w.alloc (.cells #[.slice (some ⟨b1, off1, none⟩) s.length cap, .slice (some ⟨b2, off2, none⟩) p.length cap2] 26)).heap.size := Nat.lt_of_lt_of_le hlt1 hBW.size
  have HFF := hid (fun k (hk : k < s.length) => Um.fr_ok.2 ⟨hbx, by rw [hlen]; exact (Um.sys_ok.1 hsy).2.2.2.1 _ (Um.nx_mem hk)⟩)
  have HCK := hid (fun k (hk : k < s.length) hz => Um.chk_ok.1 (Um.sum_chk (Um.sys_terms hsy hk) hbx (Nat.le_refl _) hz))
  have HPC := hid (fun k (hk : k < s.length) => Um.chk_ok.1 (Um.sys_push hsy hk))
  have HPL := hid hpl
  obtain ⟨i0, hi0, hz0, hz1, hz2⟩ := info_parts info_spans
  clear h h0 hf hp hall1 hA hsy hbx hlen hpl hs
  have y0 := c0
  have y1 := c1
  go_enter Tryd.func11, Tryd.ntmps11
  go_wp2
  clear y0 y1
  go_loopw [6, 7] (fun u i wr => ∃ k : Nat, k ≤ s.length ∧ i = .int .i64 k ∧ wr.ownsRow (w.alloc (.cells #[.slice (some ⟨b1, off1, none⟩) s.length cap, .slice (some ⟨b2, off2, none⟩) p.length cap2] 26)).heap.size 55 2 u k (cellsOf (Um.nextN s p b k).1) ∧ Below (w.alloc (.cells #[.slice (some ⟨b1, off1, none⟩) s.length cap, .slice (some ⟨b2, off2, none⟩) p.length cap2] 26)).heap.size (w.alloc (.cells #[.slice (some ⟨b1, off1, none⟩) s.length cap, .slice (some ⟨b2, off2, none⟩) p.length cap2] 26)) wr ∧ Hid ((Um.nextN s p b k).2 = 0)) (fun _ i _ => s.length - (intOf i).toNat)
  case atStart => exact ⟨0, Nat.zero_le _, rfl, World.ownsRow_nil _ _ _ _, Below.refl _ _, rfl⟩
  case round =>
    obtain ⟨k, hk, rfl, hown, hBe, hZ⟩ := hrel
    have y0 := (hBe.cell (p := ⟨w.heap.size, 0, none⟩) h1).trans c0
    by_cases hkl : k < s.length
    · have hkk : (k : Int) < (s.length : Int) := by omega
      have hkp : (k : Int) < (p.length : Int) := by have := HPL.out; omega
      obtain ⟨u, hu0, hu1⟩ := HU.out k hkl
      have yu := (hBe.cell (p := ⟨b1, off1 + k, none⟩) hl1).trans hu0
      have hu := (hu1.keep hBe).wide hBe.size
      have hBb := (hb2.keep hBe).wide hBe.size
      have hF := Fr.start wr
      have HRA := fun w h1 h2 => hid (rFr_any (Um.nx s k) u b (.slice a3 b.length cap3) w h1 h2 (HFF.out k hkl))
      have HP := hid (Um.sd_some (show k < p.length by have := HPL.out; omega))
      have HMN := hid (fun h1 h2 => next_more (p := p) (b := b) hZ.out h1 h2)
      have HB1 := hid (fun h1 => next_none1 (p := p) (b := b) hkl h1)
      have HB2 := hid (fun h1 h2 => next_none2 (p := p) (b := b) hkl h1 h2)
      have HC1 := hid (fun h => HCK.out k hkl h)
      have HFT : Hid ((Um.frR (Um.nx s k) b).2.2 = 0 ∨ Um.frR (Um.nx s k) b = (0, 0, 4)) := Um.sum_fault _ _ _
      obtain ⟨m3, m4, -⟩ := HPC.out k hkl
      change Hid ((Um.frR (Um.nx s k) b).2.2 = 0 → _) at HC1
      obtain ⟨a0', ca', rfl, -⟩ := (id hu)
      clear HU HFF HCK HPC hu0 hu1
      generalize Um.sd p k = q at *
      obtain ⟨D0, D1⟩ := q
      have hlq : wr.heap.size = wr.heap.size := rfl
      have HRR : Hid (Um.frR (Um.nx s k) b = Um.sumN (Um.nx s k) b (Um.nx s k).length) := hid rfl
      by_cases hc : (Um.frR (Um.nx s k) b).2.2 = 0
      · obtain ⟨m1, m2, -⟩ := HC1.out hc
        have m1' : Um.may (Um.frR (Um.nx s k) b).1 = true := m1
        have m2' : Um.may (Um.frR (Um.nx s k) b).2.1 = true := m2
        have HM0 := hid (HMN.out hc)
        have HB3 := hid (HB2.out hc)
        clear HMN HB1 HB2 HC1 HFT HRR m1 m2 hlq
        simp only at m3 m4 HM0 HB3
        generalize Um.frR (Um.nx s k) b = R at *
        have HD := fun w => hid (rAdd_any R.1 R.2.1 D0 D1 w m1' m2' m3 m4)
        have HAF := hid (Um.add_fault R.1 R.2.1 D0 D1)
        have kR : (R.2.2 == 0) = true := by simpa using hc
        clear hc m1' m2' m3 m4
        generalize Um.addR R.1 R.2.1 D0 D1 = A at *
        by_cases hA0 : A.2.2 = 0
        · have HM := hid (HM0.out hA0)
          have kA : (A.2.2 != 0) = false := by simpa using hA0
          clear HM0 HB3 HAF hA0
          go_wp2_with (go_at_call 19; refine (HRA _ ((hu.keep hF.below).wide hF.size) (hF.ls hBb)).out.mono ?_; rintro e wn ⟨rfl, hb⟩; replace hF := hF.step hb; clear hb; clear HRA; replace hF := hF.push R.1 R.2.1 rfl)
          generalize wn.alloc (.cells #[.int .i64 R.1, .int .i64 R.2.1] 55) = W at *
          generalize wn.heap.size = Bx at *
          have hX := hF.at 0 rfl
          have y1 := (hF.below.cell (p := ⟨w.heap.size, 1, none⟩) (Nat.lt_of_lt_of_le h1 hBe.size)).trans ((hBe.cell (p := ⟨w.heap.size, 1, none⟩) h1).trans c1)
          have hlw : w.heap.size < W.heap.size := Nat.lt_of_lt_of_le (Nat.lt_of_lt_of_le h1 hBe.size) hF.size
          have hQ := (hA2.step hBe).step hF.below
          clear yu hu hBb
          obtain ⟨Inv, hInv⟩ : ∃ Inv : Array Bool → Act → World → Prop, ∀ listed aq W', Inv listed aq W' ↔ (∃ v30 v31 v32 v33 v34 v35 v36 v29 v37 v38 v9 : Value, aq = { tmps := #[Value.agg #[Value.slice (some { block := b1, off := off1 }) s.length cap, Value.slice (some { block := b2, off := off2 }) p.length cap2], Value.slice a3 b.length cap3, Value.pointer (some { block := w.heap.size, off := 0 }), undef, u4, u5, u6, Value.int IntKind.i64 ↑k, Value.pointer (some { block := Bx, off := 0 }), v9, Value.int IntKind.i64 ↑k, Value.pointer (some { block := w.heap.size, off := 0 }), Value.slice (some { block := b1, off := off1 }) s.length cap, Value.int IntKind.i64 ↑s.length, Value.bool true, u15, u16, Value.tuple #[Value.agg #[Value.int IntKind.i64 R.fst, Value.int IntKind.i64 R.snd.fst], Value.int IntKind.i64 R.snd.snd], Value.pointer (some { block := w.heap.size, off := 0 }), Value.slice (some { block := b1, off := off1 }) s.length cap, Value.int IntKind.i64 ↑k, Value.pointer (some { block := b1, off := off1 + k }), Value.slice a0' (Um.nx s k).length ca', Value.slice a3 b.length cap3, Value.tuple #[Value.agg #[Value.int IntKind.i64 R.fst, Value.int IntKind.i64 R.snd.fst], Value.int IntKind.i64 R.snd.snd], Value.agg #[Value.int IntKind.i64 R.fst, Value.int IntKind.i64 R.snd.fst], Value.int IntKind.i64 R.snd.snd, Value.int IntKind.i64 R.snd.snd, Value.bool true, v29, v30, v31, v32, v33, v34, v35, v36, v37, v38, u39, u40, u41, u42, u43, u44, u45, undef], defers := [] } ∧ (∃ W2 : World, Below W.heap.size W W2 ∧ W' = if listed.getD 10 false = true then ((W2.setCell ⟨Bx, 0, none⟩ (.int .i64 A.1)).setCell ⟨Bx, 1, none⟩ (.int .i64 A.2.1)) else W2) ∧ (listed.getD 0 false = true → v30 = .agg #[.int .i64 R.1, .int .i64 R.2.1]) ∧ (listed.getD 1 false = true → v31 = .pointer (some ⟨w.heap.size, 1, none⟩)) ∧ (listed.getD 2 false = true → v32 = .slice (some ⟨b2, off2, none⟩) p.length cap2) ∧ (listed.getD 3 false = true → v33 = Value.int IntKind.i64 ↑k) ∧ (listed.getD 4 false = true → v34 = .pointer (some ⟨b2, off2 + k * 2, none⟩)) ∧ (listed.getD 5 false = true → v35 = .agg #[.int .i64 D0, .int .i64 D1]) ∧ (listed.getD 6 false = true → v36 = (.tuple #[.agg #[.int .i64 A.1, .int .i64 A.2.1], .int .i64 A.2.2])) ∧ (listed.getD 7 false = true → v29 = (.tuple #[.agg #[.int .i64 A.1, .int .i64 A.2.1], .int .i64 A.2.2])) ∧ (listed.getD 8 false = true → v37 = .agg #[.int .i64 A.1, .int .i64 A.2.1]) ∧ (listed.getD 9 false = true → v38 = .int .i64 A.2.2) ∧ (listed.getD 11 false = true → v9 = .int .i64 A.2.2) ∧ (listed.getD 10 false = true → listed.getD 0 false = true ∧ listed.getD 2 false = true ∧ listed.getD 5 false = true ∧ listed.getD 6 false = true)) := ⟨_, fun _ _ _ => Iff.rfl⟩
          have HI := hid hInv
          clear hInv
          refine Free.region hmx (by kernel_rfl) Inv ?s1 ?s2 ?s3
          case s1 =>
            exact (HI.out _ _ _).2 ⟨u30, u31, u32, u33, u34, u35, u36, u29, u37, u38, Value.int IntKind.i64 R.snd.snd, rfl, ⟨_, (Below.refl _ _).drew, by rw [Free.none_yet]; rfl⟩, Free.not_yet, Free.not_yet, Free.not_yet, Free.not_yet, Free.not_yet, Free.not_yet, Free.not_yet, Free.not_yet, Free.not_yet, Free.not_yet, Free.not_yet, Free.not_yet⟩
          case s2 =>
            intro i listed aq W1 hi hne hnl hsz hv
            obtain ⟨v30, v31, v32, v33, v34, v35, v36, v29, v37, v38, v9, rfl, ⟨W2, hW, hWW⟩, l0, l1, l2, l3, l4, l5, l6, l7, l8, l9, l11, l10⟩ := (HI.out _ _ _).1 hv
            have HWW := hid hWW
            clear hv hWW
            replace hi : i < 12 := hi
            replace hsz : listed.size = 12 := hsz
            rcases (by omega : i = 0 ∨ i = 1 ∨ i = 2 ∨ i = 3 ∨ i = 4 ∨ i = 5 ∨ i = 6 ∨ i = 7 ∨ i = 8 ∨ i = 9 ∨ i = 10 ∨ i = 11) with rfl | rfl | rfl | rfl | rfl | rfl | rfl | rfl | rfl | rfl | rfl | rfl
            · have hf := Free.off hnl
              have hs : listed.getD 10 false = false := by
                cases e : listed.getD 10 false
                · rfl
                · rw [(l10 e).1] at hf; cases hf
              have hWW := HWW.out
              rw [hs] at hWW
              obtain rfl : W1 = W2 := hWW
              clear HWW
              have z1 := (hX.step hW).lo
              have z2 := (hX.step hW).hi
              refine Free.op rfl rfl (fun K hK => ?_)
              go_simp
              exact hK _ _ ((HI.out _ _ _).2 ⟨_, v31, v32, v33, v34, v35, v36, v29, v37, v38, v9, rfl, ⟨W1, hW, by rw [Free.set_other (by decide), hs]; rfl⟩, fun _ => rfl, Free.of_set (by decide) l1, Free.of_set (by decide) l2, Free.of_set (by decide) l3, Free.of_set (by decide) l4, Free.of_set (by decide) l5, Free.of_set (by decide) l6, Free.of_set (by decide) l7, Free.of_set (by decide) l8, Free.of_set (by decide) l9, Free.of_set (by decide) l11, fun e => by rw [Free.set_other (by decide), hs] at e; cases e⟩)
            · refine Free.op rfl rfl (fun K hK => ?_)
              go_simp
              exact hK _ _ ((HI.out _ _ _).2 ⟨v30, _, v32, v33, v34, v35, v36, v29, v37, v38, v9, rfl, ⟨W2, hW, by rw [Free.set_other (by decide)]; exact HWW.out⟩, Free.of_set (by decide) l0, fun _ => rfl, Free.of_set (by decide) l2, Free.of_set (by decide) l3, Free.of_set (by decide) l4, Free.of_set (by decide) l5, Free.of_set (by decide) l6, Free.of_set (by decide) l7, Free.of_set (by decide) l8, Free.of_set (by decide) l9, Free.of_set (by decide) l11, fun e => by rw [Free.set_other (by decide)] at e; rw [Free.set_other (by decide), Free.set_other (by decide), Free.set_other (by decide), Free.set_other (by decide)]; exact l10 e⟩)
            · have hf := Free.off hnl
              have hs : listed.getD 10 false = false := by
                cases e : listed.getD 10 false
                · rfl
                · rw [(l10 e).2.1] at hf; cases hf
              have hWW := HWW.out
              rw [hs] at hWW
              obtain rfl : W1 = W2 := hWW
              clear HWW
              have z1 := (hW.cell (p := ⟨w.heap.size, 1, none⟩) hlw).trans y1
              refine Free.op rfl rfl (fun K hK => ?_)
              obtain rfl := l1 (hne 1 (by kernel_rfl))
              go_simp
              exact hK _ _ ((HI.out _ _ _).2 ⟨v30, _, _, v33, v34, v35, v36, v29, v37, v38, v9, rfl, ⟨W1, hW, by rw [Free.set_other (by decide), hs]; rfl⟩, Free.of_set (by decide) l0, fun _ => rfl, fun _ => rfl, Free.of_set (by decide) l3, Free.of_set (by decide) l4, Free.of_set (by decide) l5, Free.of_set (by decide) l6, Free.of_set (by decide) l7, Free.of_set (by decide) l8, Free.of_set (by decide) l9, Free.of_set (by decide) l11, fun e => by rw [Free.set_other (by decide), hs] at e; cases e⟩)
            · refine Free.op rfl rfl (fun K hK => ?_)
              go_simp
              exact hK _ _ ((HI.out _ _ _).2 ⟨v30, v31, v32, _, v34, v35, v36, v29, v37, v38, v9, rfl, ⟨W2, hW, by rw [Free.set_other (by decide)]; exact HWW.out⟩, Free.of_set (by decide) l0, Free.of_set (by decide) l1, Free.of_set (by decide) l2, fun _ => rfl, Free.of_set (by decide) l4, Free.of_set (by decide) l5, Free.of_set (by decide) l6, Free.of_set (by decide) l7, Free.of_set (by decide) l8, Free.of_set (by decide) l9, Free.of_set (by decide) l11, fun e => by rw [Free.set_other (by decide)] at e; rw [Free.set_other (by decide), Free.set_other (by decide), Free.set_other (by decide), Free.set_other (by decide)]; exact l10 e⟩)
            · refine Free.op rfl rfl (fun K hK => ?_)
              obtain rfl := l2 (hne 2 (by kernel_rfl))
              obtain rfl := l3 (hne 3 (by kernel_rfl))
              go_simp
              exact hK _ _ ((HI.out _ _ _).2 ⟨v30, v31, _, _, _, v35, v36, v29, v37, v38, v9, rfl, ⟨W2, hW, by rw [Free.set_other (by decide)]; exact HWW.out⟩, Free.of_set (by decide) l0, Free.of_set (by decide) l1, fun _ => rfl, fun _ => rfl, fun _ => rfl, Free.of_set (by decide) l5, Free.of_set (by decide) l6, Free.of_set (by decide) l7, Free.of_set (by decide) l8, Free.of_set (by decide) l9, Free.of_set (by decide) l11, fun e => by rw [Free.set_other (by decide)] at e; rw [Free.set_other (by decide), Free.set_other (by decide), Free.set_other (by decide), Free.set_other (by decide)]; exact l10 e⟩)
            · have hf := Free.off hnl
              have hs : listed.getD 10 false = false := by
                cases e : listed.getD 10 false
                · rfl
                · rw [(l10 e).2.2.1] at hf; cases hf
              have hWW := HWW.out
              rw [hs] at hWW
              obtain rfl : W1 = W2 := hWW
              clear HWW
              have z1 := (hQ.step hW).lo k HP.out rfl
              have z2 := (hQ.step hW).hi k HP.out rfl
              refine Free.op rfl rfl (fun K hK => ?_)
              obtain rfl := l4 (hne 4 (by kernel_rfl))
              go_simp
              exact hK _ _ ((HI.out _ _ _).2 ⟨v30, v31, v32, v33, _, _, v36, v29, v37, v38, v9, rfl, ⟨W1, hW, by rw [Free.set_other (by decide), hs]; rfl⟩, Free.of_set (by decide) l0, Free.of_set (by decide) l1, Free.of_set (by decide) l2, Free.of_set (by decide) l3, fun _ => rfl, fun _ => rfl, Free.of_set (by decide) l6, Free.of_set (by decide) l7, Free.of_set (by decide) l8, Free.of_set (by decide) l9, Free.of_set (by decide) l11, fun e => by rw [Free.set_other (by decide), hs] at e; cases e⟩)
            · have hf := Free.off hnl
              have hs : listed.getD 10 false = false := by
                cases e : listed.getD 10 false
                · rfl
                · rw [(l10 e).2.2.2] at hf; cases hf
              have hWW := HWW.out
              rw [hs] at hWW
              obtain rfl : W1 = W2 := hWW
              clear HWW
              refine Free.op rfl rfl (fun K hK => ?_)
              obtain rfl := l0 (hne 0 (by kernel_rfl))
              obtain rfl := l5 (hne 5 (by kernel_rfl))
              go_wp2_with (go_at_call 23; refine (HD _).out.mono ?_; rintro e W3 ⟨rfl, hb⟩)
              exact (HI.out _ _ _).2 ⟨_, v31, v32, v33, v34, _, _, v29, v37, v38, v9, rfl, ⟨_, hW.trans (hb.mono hW.size), by rw [Free.set_other (by decide), hs]; rfl⟩, fun _ => rfl, Free.of_set (by decide) l1, Free.of_set (by decide) l2, Free.of_set (by decide) l3, Free.of_set (by decide) l4, fun _ => rfl, fun _ => rfl, Free.of_set (by decide) l7, Free.of_set (by decide) l8, Free.of_set (by decide) l9, Free.of_set (by decide) l11, fun e => by rw [Free.set_other (by decide), hs] at e; cases e⟩
            · refine Free.op rfl rfl (fun K hK => ?_)
              obtain rfl := l6 (hne 6 (by kernel_rfl))
              go_simp
              exact hK _ _ ((HI.out _ _ _).2 ⟨v30, v31, v32, v33, v34, v35, _, _, v37, v38, v9, rfl, ⟨W2, hW, by rw [Free.set_other (by decide)]; exact HWW.out⟩, Free.of_set (by decide) l0, Free.of_set (by decide) l1, Free.of_set (by decide) l2, Free.of_set (by decide) l3, Free.of_set (by decide) l4, Free.of_set (by decide) l5, fun _ => rfl, fun _ => rfl, Free.of_set (by decide) l8, Free.of_set (by decide) l9, Free.of_set (by decide) l11, fun e => by rw [Free.set_other (by decide)] at e; rw [Free.set_other (by decide), Free.set_other (by decide), Free.set_other (by decide), Free.set_other (by decide)]; exact l10 e⟩)
            · refine Free.op rfl rfl (fun K hK => ?_)
              obtain rfl := l7 (hne 7 (by kernel_rfl))
              go_simp
              exact hK _ _ ((HI.out _ _ _).2 ⟨v30, v31, v32, v33, v34, v35, v36, _, _, v38, v9, rfl, ⟨W2, hW, by rw [Free.set_other (by decide)]; exact HWW.out⟩, Free.of_set (by decide) l0, Free.of_set (by decide) l1, Free.of_set (by decide) l2, Free.of_set (by decide) l3, Free.of_set (by decide) l4, Free.of_set (by decide) l5, Free.of_set (by decide) l6, fun _ => rfl, fun _ => rfl, Free.of_set (by decide) l9, Free.of_set (by decide) l11, fun e => by rw [Free.set_other (by decide)] at e; rw [Free.set_other (by decide), Free.set_other (by decide), Free.set_other (by decide), Free.set_other (by decide)]; exact l10 e⟩)
            · refine Free.op rfl rfl (fun K hK => ?_)
              obtain rfl := l7 (hne 7 (by kernel_rfl))
              go_simp
              exact hK _ _ ((HI.out _ _ _).2 ⟨v30, v31, v32, v33, v34, v35, v36, _, v37, _, v9, rfl, ⟨W2, hW, by rw [Free.set_other (by decide)]; exact HWW.out⟩, Free.of_set (by decide) l0, Free.of_set (by decide) l1, Free.of_set (by decide) l2, Free.of_set (by decide) l3, Free.of_set (by decide) l4, Free.of_set (by decide) l5, Free.of_set (by decide) l6, fun _ => rfl, Free.of_set (by decide) l8, fun _ => rfl, Free.of_set (by decide) l11, fun e => by rw [Free.set_other (by decide)] at e; rw [Free.set_other (by decide), Free.set_other (by decide), Free.set_other (by decide), Free.set_other (by decide)]; exact l10 e⟩)
            · have hs := Free.off hnl
              have N := hid (And.intro (hne 0 (by kernel_rfl)) (And.intro (hne 2 (by kernel_rfl)) (And.intro (hne 5 (by kernel_rfl)) (hne 6 (by kernel_rfl)))))
              have hWW := HWW.out
              rw [hs] at hWW
              obtain rfl : W1 = W2 := hWW
              clear HWW
              have z1 := (hX.step hW).fl
              have z2 := (hX.step hW).fh
              have z3 := (hX.step hW).lo
              have z4 := (hX.step hW).hi
              refine Free.op rfl rfl (fun K hK => ?_)
              obtain rfl := l8 (hne 8 (by kernel_rfl))
              go_simp
              exact hK _ _ ((HI.out _ _ _).2 ⟨v30, v31, v32, v33, v34, v35, v36, v29, _, v38, v9, rfl, ⟨W1, hW, by rw [Free.set_same (by omega)]; rfl⟩, Free.of_set (by decide) l0, Free.of_set (by decide) l1, Free.of_set (by decide) l2, Free.of_set (by decide) l3, Free.of_set (by decide) l4, Free.of_set (by decide) l5, Free.of_set (by decide) l6, Free.of_set (by decide) l7, fun _ => rfl, Free.of_set (by decide) l9, Free.of_set (by decide) l11, fun _ => by rw [Free.set_other (by decide), Free.set_other (by decide), Free.set_other (by decide), Free.set_other (by decide)]; exact N.out⟩)
            · refine Free.op rfl rfl (fun K hK => ?_)
              obtain rfl := l9 (hne 9 (by kernel_rfl))
              go_simp
              exact hK _ _ ((HI.out _ _ _).2 ⟨v30, v31, v32, v33, v34, v35, v36, v29, v37, _, _, rfl, ⟨W2, hW, by rw [Free.set_other (by decide)]; exact HWW.out⟩, Free.of_set (by decide) l0, Free.of_set (by decide) l1, Free.of_set (by decide) l2, Free.of_set (by decide) l3, Free.of_set (by decide) l4, Free.of_set (by decide) l5, Free.of_set (by decide) l6, Free.of_set (by decide) l7, Free.of_set (by decide) l8, fun _ => rfl, fun _ => rfl, fun e => by rw [Free.set_other (by decide)] at e; rw [Free.set_other (by decide), Free.set_other (by decide), Free.set_other (by decide), Free.set_other (by decide)]; exact l10 e⟩)
          case s3 =>
            intro listed aq W1 hall hsz hv
            obtain ⟨v30, v31, v32, v33, v34, v35, v36, v29, v37, v38, v9, rfl, ⟨W2, hW, hWW⟩, l0, l1, l2, l3, l4, l5, l6, l7, l8, l9, l11, l10⟩ := (HI.out _ _ _).1 hv
            clear hv HI
            rw [Free.listed_of hall hsz 10 (by decide)] at hWW
            obtain rfl : W1 = ((W2.setCell ⟨Bx, 0, none⟩ (.int .i64 A.1)).setCell ⟨Bx, 1, none⟩ (.int .i64 A.2.1)) := hWW
            obtain rfl := l0 (Free.listed_of hall hsz 0 (by decide))
            obtain rfl := l1 (Free.listed_of hall hsz 1 (by decide))
            obtain rfl := l2 (Free.listed_of hall hsz 2 (by decide))
            obtain rfl := l3 (Free.listed_of hall hsz 3 (by decide))
            obtain rfl := l4 (Free.listed_of hall hsz 4 (by decide))
            obtain rfl := l5 (Free.listed_of hall hsz 5 (by decide))
            obtain rfl := l6 (Free.listed_of hall hsz 6 (by decide))
            obtain rfl := l7 (Free.listed_of hall hsz 7 (by decide))
            obtain rfl := l8 (Free.listed_of hall hsz 8 (by decide))
            obtain rfl := l9 (Free.listed_of hall hsz 9 (by decide))
            obtain rfl := l11 (Free.listed_of hall hsz 11 (by decide))
            clear  l10 hall hsz
            replace hF := (hF.step hW).put 0 rfl A.1 A.2.1 rfl
            clear hW hX hQ y0 y1
            generalize ((W2.setCell ⟨Bx, 0, none⟩ (.int .i64 A.1)).setCell ⟨Bx, 1, none⟩ (.int .i64 A.2.1)) = Wf at *
            have x0l := (hF.at 0 rfl).lo
            have x0h := (hF.at 0 rfl).hi
            have hown1 := owns_step hown hF.below
            have hB1 := hBe.trans (hF.below.mono hBe.size)
            have hsz := hB1.size
            have HO := hid hown1
            have HBE := hid hB1
            clear hown hBe hB1
            go_wp2_with (at_builtin; refine wpList_append_own _ rfl _ _ 24 rfl (w.alloc (.cells #[.slice (some ⟨b1, off1, none⟩) s.length cap, .slice (some ⟨b2, off2, none⟩) p.length cap2] 26)).heap.size 55 i0 (.agg #[.int .i64 0, .int .i64 0]) 2 16 Tryd.underlying24 hi0 hz0 hz1 hz2 rfl (by decide) _ _ _ rfl (hown1.alloc _) _ 1 1 [.int .i64 A.1, .int .i64 A.2.1] rfl rfl (cell_two_new _ _ _ _) (by simp [Value.oneCell']) (by unfold maxLen; omega) (by omega) (by simp at hsz ⊢; omega) ?_; intro v' w1 hown' hgrow _)
            have HN := hid hown'
            have hb2 := (Below.refl (w.alloc (.cells #[.slice (some ⟨b1, off1, none⟩) s.length cap, .slice (some ⟨b2, off2, none⟩) p.length cap2] 26)).heap.size (Wf.alloc (.cells #[.int .i64 A.1, .int .i64 A.2.1] 55))).grown hgrow (by simp at hsz ⊢; omega) (fun j e => owns_from HO.out j e)
            exact ⟨⟨k + 1, by omega, by simp, by rw [HM.out, cellsOf_append]; exact HN.out, (HBE.out.alloc hsz _).trans hb2, by rw [HM.out]; exact rfl⟩, by simp [intOf]; omega⟩

        · have e4 : A.2.2 = 4 := by rw [HAF.out.resolve_left hA0]
          have HM : Hid (Um.behR s p b = ([], A.2.2)) := by rw [HB3.out hA0, e4]; exact hid rfl
          have kA : (A.2.2 != 0) = true := by simpa using hA0
          clear HM0 HB3 HAF hA0 e4
          go_wp2_with (go_at_call 19; refine (HRA _ ((hu.keep hF.below).wide hF.size) (hF.ls hBb)).out.mono ?_; rintro e wn ⟨rfl, hb⟩; replace hF := hF.step hb; clear hb; clear HRA; replace hF := hF.push R.1 R.2.1 rfl)
          generalize wn.alloc (.cells #[.int .i64 R.1, .int .i64 R.2.1] 55) = W at *
          generalize wn.heap.size = Bx at *
          have hX := hF.at 0 rfl
          have y1 := (hF.below.cell (p := ⟨w.heap.size, 1, none⟩) (Nat.lt_of_lt_of_le h1 hBe.size)).trans ((hBe.cell (p := ⟨w.heap.size, 1, none⟩) h1).trans c1)
          have hlw : w.heap.size < W.heap.size := Nat.lt_of_lt_of_le (Nat.lt_of_lt_of_le h1 hBe.size) hF.size
          have hQ := (hA2.step hBe).step hF.below
          clear yu hu hBb
          obtain ⟨Inv, hInv⟩ : ∃ Inv : Array Bool → Act → World → Prop, ∀ listed aq W', Inv listed aq W' ↔ (∃ v30 v31 v32 v33 v34 v35 v36 v29 v37 v38 v9 : Value, aq = { tmps := #[Value.agg #[Value.slice (some { block := b1, off := off1 }) s.length cap, Value.slice (some { block := b2, off := off2 }) p.length cap2], Value.slice a3 b.length cap3, Value.pointer (some { block := w.heap.size, off := 0 }), undef, u4, u5, u6, Value.int IntKind.i64 ↑k, Value.pointer (some { block := Bx, off := 0 }), v9, Value.int IntKind.i64 ↑k, Value.pointer (some { block := w.heap.size, off := 0 }), Value.slice (some { block := b1, off := off1 }) s.length cap, Value.int IntKind.i64 ↑s.length, Value.bool true, u15, u16, Value.tuple #[Value.agg #[Value.int IntKind.i64 R.fst, Value.int IntKind.i64 R.snd.fst], Value.int IntKind.i64 R.snd.snd], Value.pointer (some { block := w.heap.size, off := 0 }), Value.slice (some { block := b1, off := off1 }) s.length cap, Value.int IntKind.i64 ↑k, Value.pointer (some { block := b1, off := off1 + k }), Value.slice a0' (Um.nx s k).length ca', Value.slice a3 b.length cap3, Value.tuple #[Value.agg #[Value.int IntKind.i64 R.fst, Value.int IntKind.i64 R.snd.fst], Value.int IntKind.i64 R.snd.snd], Value.agg #[Value.int IntKind.i64 R.fst, Value.int IntKind.i64 R.snd.fst], Value.int IntKind.i64 R.snd.snd, Value.int IntKind.i64 R.snd.snd, Value.bool true, v29, v30, v31, v32, v33, v34, v35, v36, v37, v38, u39, u40, u41, u42, u43, u44, u45, undef], defers := [] } ∧ (∃ W2 : World, Below W.heap.size W W2 ∧ W' = if listed.getD 10 false = true then ((W2.setCell ⟨Bx, 0, none⟩ (.int .i64 A.1)).setCell ⟨Bx, 1, none⟩ (.int .i64 A.2.1)) else W2) ∧ (listed.getD 0 false = true → v30 = .agg #[.int .i64 R.1, .int .i64 R.2.1]) ∧ (listed.getD 1 false = true → v31 = .pointer (some ⟨w.heap.size, 1, none⟩)) ∧ (listed.getD 2 false = true → v32 = .slice (some ⟨b2, off2, none⟩) p.length cap2) ∧ (listed.getD 3 false = true → v33 = Value.int IntKind.i64 ↑k) ∧ (listed.getD 4 false = true → v34 = .pointer (some ⟨b2, off2 + k * 2, none⟩)) ∧ (listed.getD 5 false = true → v35 = .agg #[.int .i64 D0, .int .i64 D1]) ∧ (listed.getD 6 false = true → v36 = (.tuple #[.agg #[.int .i64 A.1, .int .i64 A.2.1], .int .i64 A.2.2])) ∧ (listed.getD 7 false = true → v29 = (.tuple #[.agg #[.int .i64 A.1, .int .i64 A.2.1], .int .i64 A.2.2])) ∧ (listed.getD 8 false = true → v37 = .agg #[.int .i64 A.1, .int .i64 A.2.1]) ∧ (listed.getD 9 false = true → v38 = .int .i64 A.2.2) ∧ (listed.getD 11 false = true → v9 = .int .i64 A.2.2) ∧ (listed.getD 10 false = true → listed.getD 0 false = true ∧ listed.getD 2 false = true ∧ listed.getD 5 false = true ∧ listed.getD 6 false = true)) := ⟨_, fun _ _ _ => Iff.rfl⟩
          have HI := hid hInv
          clear hInv
          refine Free.region hmx (by kernel_rfl) Inv ?s1 ?s2 ?s3
          case s1 =>
            exact (HI.out _ _ _).2 ⟨u30, u31, u32, u33, u34, u35, u36, u29, u37, u38, Value.int IntKind.i64 R.snd.snd, rfl, ⟨_, (Below.refl _ _).drew, by rw [Free.none_yet]; rfl⟩, Free.not_yet, Free.not_yet, Free.not_yet, Free.not_yet, Free.not_yet, Free.not_yet, Free.not_yet, Free.not_yet, Free.not_yet, Free.not_yet, Free.not_yet, Free.not_yet⟩
          case s2 =>
            intro i listed aq W1 hi hne hnl hsz hv
            obtain ⟨v30, v31, v32, v33, v34, v35, v36, v29, v37, v38, v9, rfl, ⟨W2, hW, hWW⟩, l0, l1, l2, l3, l4, l5, l6, l7, l8, l9, l11, l10⟩ := (HI.out _ _ _).1 hv
            have HWW := hid hWW
            clear hv hWW
            replace hi : i < 12 := hi
            replace hsz : listed.size = 12 := hsz
            rcases (by omega : i = 0 ∨ i = 1 ∨ i = 2 ∨ i = 3 ∨ i = 4 ∨ i = 5 ∨ i = 6 ∨ i = 7 ∨ i = 8 ∨ i = 9 ∨ i = 10 ∨ i = 11) with rfl | rfl | rfl | rfl | rfl | rfl | rfl | rfl | rfl | rfl | rfl | rfl
            · have hf := Free.off hnl
              have hs : listed.getD 10 false = false := by
                cases e : listed.getD 10 false
                · rfl
                · rw [(l10 e).1] at hf; cases hf
              have hWW := HWW.out
              rw [hs] at hWW
              obtain rfl : W1 = W2 := hWW
              clear HWW
              have z1 := (hX.step hW).lo
              have z2 := (hX.step hW).hi
              refine Free.op rfl rfl (fun K hK => ?_)
              go_simp
              exact hK _ _ ((HI.out _ _ _).2 ⟨_, v31, v32, v33, v34, v35, v36, v29, v37, v38, v9, rfl, ⟨W1, hW, by rw [Free.set_other (by decide), hs]; rfl⟩, fun _ => rfl, Free.of_set (by decide) l1, Free.of_set (by decide) l2, Free.of_set (by decide) l3, Free.of_set (by decide) l4, Free.of_set (by decide) l5, Free.of_set (by decide) l6, Free.of_set (by decide) l7, Free.of_set (by decide) l8, Free.of_set (by decide) l9, Free.of_set (by decide) l11, fun e => by rw [Free.set_other (by decide), hs] at e; cases e⟩)
            · refine Free.op rfl rfl (fun K hK => ?_)
              go_simp
              exact hK _ _ ((HI.out _ _ _).2 ⟨v30, _, v32, v33, v34, v35, v36, v29, v37, v38, v9, rfl, ⟨W2, hW, by rw [Free.set_other (by decide)]; exact HWW.out⟩, Free.of_set (by decide) l0, fun _ => rfl, Free.of_set (by decide) l2, Free.of_set (by decide) l3, Free.of_set (by decide) l4, Free.of_set (by decide) l5, Free.of_set (by decide) l6, Free.of_set (by decide) l7, Free.of_set (by decide) l8, Free.of_set (by decide) l9, Free.of_set (by decide) l11, fun e => by rw [Free.set_other (by decide)] at e; rw [Free.set_other (by decide), Free.set_other (by decide), Free.set_other (by decide), Free.set_other (by decide)]; exact l10 e⟩)
            · have hf := Free.off hnl
              have hs : listed.getD 10 false = false := by
                cases e : listed.getD 10 false
                · rfl
                · rw [(l10 e).2.1] at hf; cases hf
              have hWW := HWW.out
              rw [hs] at hWW
              obtain rfl : W1 = W2 := hWW
              clear HWW
              have z1 := (hW.cell (p := ⟨w.heap.size, 1, none⟩) hlw).trans y1
              refine Free.op rfl rfl (fun K hK => ?_)
              obtain rfl := l1 (hne 1 (by kernel_rfl))
              go_simp
              exact hK _ _ ((HI.out _ _ _).2 ⟨v30, _, _, v33, v34, v35, v36, v29, v37, v38, v9, rfl, ⟨W1, hW, by rw [Free.set_other (by decide), hs]; rfl⟩, Free.of_set (by decide) l0, fun _ => rfl, fun _ => rfl, Free.of_set (by decide) l3, Free.of_set (by decide) l4, Free.of_set (by decide) l5, Free.of_set (by decide) l6, Free.of_set (by decide) l7, Free.of_set (by decide) l8, Free.of_set (by decide) l9, Free.of_set (by decide) l11, fun e => by rw [Free.set_other (by decide), hs] at e; cases e⟩)
            · refine Free.op rfl rfl (fun K hK => ?_)
              go_simp
              exact hK _ _ ((HI.out _ _ _).2 ⟨v30, v31, v32, _, v34, v35, v36, v29, v37, v38, v9, rfl, ⟨W2, hW, by rw [Free.set_other (by decide)]; exact HWW.out⟩, Free.of_set (by decide) l0, Free.of_set (by decide) l1, Free.of_set (by decide) l2, fun _ => rfl, Free.of_set (by decide) l4, Free.of_set (by decide) l5, Free.of_set (by decide) l6, Free.of_set (by decide) l7, Free.of_set (by decide) l8, Free.of_set (by decide) l9, Free.of_set (by decide) l11, fun e => by rw [Free.set_other (by decide)] at e; rw [Free.set_other (by decide), Free.set_other (by decide), Free.set_other (by decide), Free.set_other (by decide)]; exact l10 e⟩)
            · refine Free.op rfl rfl (fun K hK => ?_)
              obtain rfl := l2 (hne 2 (by kernel_rfl))
              obtain rfl := l3 (hne 3 (by kernel_rfl))
              go_simp
              exact hK _ _ ((HI.out _ _ _).2 ⟨v30, v31, _, _, _, v35, v36, v29, v37, v38, v9, rfl, ⟨W2, hW, by rw [Free.set_other (by decide)]; exact HWW.out⟩, Free.of_set (by decide) l0, Free.of_set (by decide) l1, fun _ => rfl, fun _ => rfl, fun _ => rfl, Free.of_set (by decide) l5, Free.of_set (by decide) l6, Free.of_set (by decide) l7, Free.of_set (by decide) l8, Free.of_set (by decide) l9, Free.of_set (by decide) l11, fun e => by rw [Free.set_other (by decide)] at e; rw [Free.set_other (by decide), Free.set_other (by decide), Free.set_other (by decide), Free.set_other (by decide)]; exact l10 e⟩)
            · have hf := Free.off hnl
              have hs : listed.getD 10 false = false := by
                cases e : listed.getD 10 false
                · rfl
                · rw [(l10 e).2.2.1] at hf; cases hf
              have hWW := HWW.out
              rw [hs] at hWW
              obtain rfl : W1 = W2 := hWW
              clear HWW
              have z1 := (hQ.step hW).lo k HP.out rfl
              have z2 := (hQ.step hW).hi k HP.out rfl
              refine Free.op rfl rfl (fun K hK => ?_)
              obtain rfl := l4 (hne 4 (by kernel_rfl))
              go_simp
              exact hK _ _ ((HI.out _ _ _).2 ⟨v30, v31, v32, v33, _, _, v36, v29, v37, v38, v9, rfl, ⟨W1, hW, by rw [Free.set_other (by decide), hs]; rfl⟩, Free.of_set (by decide) l0, Free.of_set (by decide) l1, Free.of_set (by decide) l2, Free.of_set (by decide) l3, fun _ => rfl, fun _ => rfl, Free.of_set (by decide) l6, Free.of_set (by decide) l7, Free.of_set (by decide) l8, Free.of_set (by decide) l9, Free.of_set (by decide) l11, fun e => by rw [Free.set_other (by decide), hs] at e; cases e⟩)
            · have hf := Free.off hnl
              have hs : listed.getD 10 false = false := by
                cases e : listed.getD 10 false
                · rfl
                · rw [(l10 e).2.2.2] at hf; cases hf
              have hWW := HWW.out
              rw [hs] at hWW
              obtain rfl : W1 = W2 := hWW
              clear HWW
              refine Free.op rfl rfl (fun K hK => ?_)
              obtain rfl := l0 (hne 0 (by kernel_rfl))
              obtain rfl := l5 (hne 5 (by kernel_rfl))
              go_wp2_with (go_at_call 23; refine (HD _).out.mono ?_; rintro e W3 ⟨rfl, hb⟩)
              exact (HI.out _ _ _).2 ⟨_, v31, v32, v33, v34, _, _, v29, v37, v38, v9, rfl, ⟨_, hW.trans (hb.mono hW.size), by rw [Free.set_other (by decide), hs]; rfl⟩, fun _ => rfl, Free.of_set (by decide) l1, Free.of_set (by decide) l2, Free.of_set (by decide) l3, Free.of_set (by decide) l4, fun _ => rfl, fun _ => rfl, Free.of_set (by decide) l7, Free.of_set (by decide) l8, Free.of_set (by decide) l9, Free.of_set (by decide) l11, fun e => by rw [Free.set_other (by decide), hs] at e; cases e⟩
            · refine Free.op rfl rfl (fun K hK => ?_)
              obtain rfl := l6 (hne 6 (by kernel_rfl))
              go_simp
              exact hK _ _ ((HI.out _ _ _).2 ⟨v30, v31, v32, v33, v34, v35, _, _, v37, v38, v9, rfl, ⟨W2, hW, by rw [Free.set_other (by decide)]; exact HWW.out⟩, Free.of_set (by decide) l0, Free.of_set (by decide) l1, Free.of_set (by decide) l2, Free.of_set (by decide) l3, Free.of_set (by decide) l4, Free.of_set (by decide) l5, fun _ => rfl, fun _ => rfl, Free.of_set (by decide) l8, Free.of_set (by decide) l9, Free.of_set (by decide) l11, fun e => by rw [Free.set_other (by decide)] at e; rw [Free.set_other (by decide), Free.set_other (by decide), Free.set_other (by decide), Free.set_other (by decide)]; exact l10 e⟩)
            · refine Free.op rfl rfl (fun K hK => ?_)
              obtain rfl := l7 (hne 7 (by kernel_rfl))
              go_simp
              exact hK _ _ ((HI.out _ _ _).2 ⟨v30, v31, v32, v33, v34, v35, v36, _, _, v38, v9, rfl, ⟨W2, hW, by rw [Free.set_other (by decide)]; exact HWW.out⟩, Free.of_set (by decide) l0, Free.of_set (by decide) l1, Free.of_set (by decide) l2, Free.of_set (by decide) l3, Free.of_set (by decide) l4, Free.of_set (by decide) l5, Free.of_set (by decide) l6, fun _ => rfl, fun _ => rfl, Free.of_set (by decide) l9, Free.of_set (by decide) l11, fun e => by rw [Free.set_other (by decide)] at e; rw [Free.set_other (by decide), Free.set_other (by decide), Free.set_other (by decide), Free.set_other (by decide)]; exact l10 e⟩)
            · refine Free.op rfl rfl (fun K hK => ?_)
              obtain rfl := l7 (hne 7 (by kernel_rfl))
              go_simp
              exact hK _ _ ((HI.out _ _ _).2 ⟨v30, v31, v32, v33, v34, v35, v36, _, v37, _, v9, rfl, ⟨W2, hW, by rw [Free.set_other (by decide)]; exact HWW.out⟩, Free.of_set (by decide) l0, Free.of_set (by decide) l1, Free.of_set (by decide) l2, Free.of_set (by decide) l3, Free.of_set (by decide) l4, Free.of_set (by decide) l5, Free.of_set (by decide) l6, fun _ => rfl, Free.of_set (by decide) l8, fun _ => rfl, Free.of_set (by decide) l11, fun e => by rw [Free.set_other (by decide)] at e; rw [Free.set_other (by decide), Free.set_other (by decide), Free.set_other (by decide), Free.set_other (by decide)]; exact l10 e⟩)
            · have hs := Free.off hnl
              have N := hid (And.intro (hne 0 (by kernel_rfl)) (And.intro (hne 2 (by kernel_rfl)) (And.intro (hne 5 (by kernel_rfl)) (hne 6 (by kernel_rfl)))))
              have hWW := HWW.out
              rw [hs] at hWW
              obtain rfl : W1 = W2 := hWW
              clear HWW
              have z1 := (hX.step hW).fl
              have z2 := (hX.step hW).fh
              have z3 := (hX.step hW).lo
              have z4 := (hX.step hW).hi
              refine Free.op rfl rfl (fun K hK => ?_)
              obtain rfl := l8 (hne 8 (by kernel_rfl))
              go_simp
              exact hK _ _ ((HI.out _ _ _).2 ⟨v30, v31, v32, v33, v34, v35, v36, v29, _, v38, v9, rfl, ⟨W1, hW, by rw [Free.set_same (by omega)]; rfl⟩, Free.of_set (by decide) l0, Free.of_set (by decide) l1, Free.of_set (by decide) l2, Free.of_set (by decide) l3, Free.of_set (by decide) l4, Free.of_set (by decide) l5, Free.of_set (by decide) l6, Free.of_set (by decide) l7, fun _ => rfl, Free.of_set (by decide) l9, Free.of_set (by decide) l11, fun _ => by rw [Free.set_other (by decide), Free.set_other (by decide), Free.set_other (by decide), Free.set_other (by decide)]; exact N.out⟩)
            · refine Free.op rfl rfl (fun K hK => ?_)
              obtain rfl := l9 (hne 9 (by kernel_rfl))
              go_simp
              exact hK _ _ ((HI.out _ _ _).2 ⟨v30, v31, v32, v33, v34, v35, v36, v29, v37, _, _, rfl, ⟨W2, hW, by rw [Free.set_other (by decide)]; exact HWW.out⟩, Free.of_set (by decide) l0, Free.of_set (by decide) l1, Free.of_set (by decide) l2, Free.of_set (by decide) l3, Free.of_set (by decide) l4, Free.of_set (by decide) l5, Free.of_set (by decide) l6, Free.of_set (by decide) l7, Free.of_set (by decide) l8, fun _ => rfl, fun _ => rfl, fun e => by rw [Free.set_other (by decide)] at e; rw [Free.set_other (by decide), Free.set_other (by decide), Free.set_other (by decide), Free.set_other (by decide)]; exact l10 e⟩)
          case s3 =>
            intro listed aq W1 hall hsz hv
            obtain ⟨v30, v31, v32, v33, v34, v35, v36, v29, v37, v38, v9, rfl, ⟨W2, hW, hWW⟩, l0, l1, l2, l3, l4, l5, l6, l7, l8, l9, l11, l10⟩ := (HI.out _ _ _).1 hv
            clear hv HI
            rw [Free.listed_of hall hsz 10 (by decide)] at hWW
            obtain rfl : W1 = ((W2.setCell ⟨Bx, 0, none⟩ (.int .i64 A.1)).setCell ⟨Bx, 1, none⟩ (.int .i64 A.2.1)) := hWW
            obtain rfl := l0 (Free.listed_of hall hsz 0 (by decide))
            obtain rfl := l1 (Free.listed_of hall hsz 1 (by decide))
            obtain rfl := l2 (Free.listed_of hall hsz 2 (by decide))
            obtain rfl := l3 (Free.listed_of hall hsz 3 (by decide))
            obtain rfl := l4 (Free.listed_of hall hsz 4 (by decide))
            obtain rfl := l5 (Free.listed_of hall hsz 5 (by decide))
            obtain rfl := l6 (Free.listed_of hall hsz 6 (by decide))
            obtain rfl := l7 (Free.listed_of hall hsz 7 (by decide))
            obtain rfl := l8 (Free.listed_of hall hsz 8 (by decide))
            obtain rfl := l9 (Free.listed_of hall hsz 9 (by decide))
            obtain rfl := l11 (Free.listed_of hall hsz 11 (by decide))
            clear  l10 hall hsz
            replace hF := (hF.step hW).put 0 rfl A.1 A.2.1 rfl
            clear hW hX hQ y0 y1
            generalize ((W2.setCell ⟨Bx, 0, none⟩ (.int .i64 A.1)).setCell ⟨Bx, 1, none⟩ (.int .i64 A.2.1)) = Wf at *
            have x0l := (hF.at 0 rfl).lo
            have x0h := (hF.at 0 rfl).hi
            have hB1 := hBe.trans (hF.below.mono hBe.size)
            clear hown hBe
            go_wp2
            go_returns
            rw [HM.out]
            exact ⟨_, rfl, Ls.nil _ _, hBW.trans (hB1.mono hBW.size), fun g e => by cases e⟩

      · have e4 : (Um.frR (Um.nx s k) b).2.2 = 4 := by rw [HFT.out.resolve_left hc]
        have HM : Hid (Um.behR s p b = ([], (Um.frR (Um.nx s k) b).2.2)) := by rw [HB1.out hc, e4]; exact hid rfl
        clear HMN HB1 HB2 HC1 HFT HRR hlq e4
        generalize Um.frR (Um.nx s k) b = R at *
        have kR : (R.2.2 == 0) = false := by simpa using hc
        have kR2 : (R.2.2 != 0) = true := by simpa using hc
        clear hc m3 m4
        go_wp2_with (go_at_call 19; refine (HRA _ ((hu.keep hF.below).wide hF.size) (hF.ls hBb)).out.mono ?_; rintro e wn ⟨rfl, hb⟩; replace hF := hF.step hb; clear hb; clear HRA; replace hF := hF.push R.1 R.2.1 rfl)
        have hB1 := hBe.trans (hF.below.mono hBe.size)
        clear hown hBe
        go_returns
        rw [HM.out]
        exact ⟨_, rfl, Ls.nil _ _, hBW.trans (hB1.mono hBW.size), fun g e => by cases e⟩
    · obtain rfl : k = s.length := by omega
      have HQ := hid (ls_owns (l := (Um.nextN s p b s.length).1) (by rw [(Um.nextN_ok hZ.out).1]; exact hown))
      have HE : Hid (Um.behR s p b = ((Um.nextN s p b s.length).1, 0)) := by rw [← hZ.out]; exact hid rfl
      have HNW := hid (fun g e => Nat.le_trans (Nat.le_of_lt h1) (owns_from hown g e))
      clear hown hZ HU HFF HCK HPC hA2 hb2
      go_wp2
      go_returns
      rw [HE.out]
      exact ⟨_, rfl, HQ.out, hBW.trans (hBe.mono hBW.size), HNW.out⟩
theorem rNext_any (s : List (List Um.Tm)) (v0 : Value) (p : List (Int × Int)) (v1 : Value) (b : List (Int × Int)) (v : Value) (w : World) (hf : Lf w.heap.size w v0 s) (hp : Ls w.heap.size w v1 p) (hs : Ls w.heap.size w v b) (h : Um.readyF s p b = 0) :
    Calls Tryd.prog 11 #[.agg #[v0, v1], v] w fun e w' => ∃ r, e = .returned (.tuple #[r, .int .i64 (Um.behR s p b).2]) ∧ Ls w'.heap.size w' r (Um.behR s p b).1 ∧ Below w.heap.size w w' := by
  refine (rNext_new s v0 p v1 b v w hf hp hs h).mono ?_
  rintro e w' ⟨r, e1, e2, e3, _⟩
  exact ⟨r, e1, e2, e3⟩
end Go.Proofs.YtmkdjaafkigemaaDoor
