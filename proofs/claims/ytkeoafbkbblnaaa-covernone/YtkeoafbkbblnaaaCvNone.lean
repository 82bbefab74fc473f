/-
  The walk over 'spanlaw4.CoverNone': for all s, b it returns true.
-/
import Derived.Test.YtkeoafbkbblnaaaStep
import Derived.Test.YtkeoafbkbblnaaaCover
import Derived.Test.YtkeoafbkbblnaaaSysLit
import Derived.Test.YtkeoafbkbblnaaaRefSplit
import Derived.Test.YtkeoafbkbblnaaaMems
import Derived.Deep.CutRange
namespace Go.Proofs.Ytkeoafbkbblnaaa.CvNone
set_option linter.unusedSimpArgs false
open Go.RowKit

theorem box_cells (w : World) (v0 v1 : Value) (T : TypeId) : (w.alloc (.cells #[v0, v1] T)).cell? ⟨w.heap.size, 0, none⟩ = some v0 ∧ (w.alloc (.cells #[v0, v1] T)).cell? ⟨w.heap.size, 1, none⟩ = some v1 := ⟨(Blk.new w T #[v0, v1]).cell 0 rfl, (Blk.new w T #[v0, v1]).cell 1 rfl⟩
theorem fact : Um.piecesAll [(0, 0)] 0 = ([[(0, 0)]], 0) := by decide +kernel
/-- Not parted it is a step. -/
theorem cov_none (s : List (List Um.Tm)) (p b : List (Int × Int)) : Um.covAll s p b 0 = Um.ofAll s p b := by
  have e : Um.covF s p b 0 = Um.readyF s p b := by
    unfold Um.covF Um.readyF Um.piecesF
    by_cases h : Um.sysF s p = 0
    · by_cases h2 : Um.boxF b = 0
      · simp [h, h2]
      · simp [h, h2]
    · simp [h]
  unfold Um.covAll Um.ofAll
  rw [e]
  by_cases h : Um.readyF s p b = 0
  · rw [if_pos h, if_pos h]
    show Um.covN s p [b] 1 = _
    rw [Um.cov_succ, if_pos (show (Um.covN s p [b] 0).2 = 0 from rfl)]
    show (if (Um.behR s p b).2 = 0 then ((Um.behR s p b).1, 0) else ([], 4)) = Um.behR s p b
    rcases Um.nextN_fault s p b s.length with g | g
    · have g' : (Um.behR s p b).2 = 0 := g
      rw [if_pos g', ← g']
    · have g' : Um.behR s p b = ([], 4) := g
      rw [g']; rfl
  · rw [if_neg h, if_neg h]

set_option maxRecDepth 100000 in
set_option maxHeartbeats 8000000 in
theorem walk_yes (s : List (List Um.Tm)) (v0 : Value) (p : List (Int × Int)) (v1 : Value) (b : List (Int × Int)) (v : Value) (w : World) (hf : Lf w.heap.size w v0 s) (hp : Ls w.heap.size w v1 p) (hs : Ls w.heap.size w v b) (h : ((Um.ofAll s p b).2 == 0) = true) :
    Calls Try.prog 4 #[.agg #[v0, v1], v] w fun e w' => e = .returned (.bool true) ∧ Below w.heap.size w w' := by
  have v0 := errV_none
  have q1 := errG
  have q2 := errGn
  have q3 := errE
  have q4 := errN
  have hmx : Try.prog.follows .mixedOrders = true := by kernel_rfl
  obtain ⟨a0, cap0, rfl, -⟩ := (id hf)
  obtain ⟨a1, cap1, rfl, -⟩ := (id hp)
  obtain ⟨a2, cap2, rfl, -⟩ := (id hs)
  have h1 : w.heap.size < (w.alloc (.cells #[.slice a0 s.length cap0, .slice a1 p.length cap1] 25)).heap.size := by simp
  have hBW : Below w.heap.size w (w.alloc (.cells #[.slice a0 s.length cap0, .slice a1 p.length cap1] 25)) := by go_grown
  obtain ⟨c0, c1⟩ := box_cells w (.slice a0 s.length cap0) (.slice a1 p.length cap1) 25
  have hF := Fr.start (w.alloc (.cells #[.slice a0 s.length cap0, .slice a1 p.length cap1] 25))
  have hf2 := hf.step hBW
  have hp2 := hp.step hBW
  have hb2 := hs.step hBW
  have H0 := fun v w h1 => hid (cvPieces_any [(0, 0)] v 0 w h1)
  rw [fact] at H0
  have HCV := fun w h1 h2 h3 => hid (cvStep_any s (.slice a0 s.length cap0) p (.slice a1 p.length cap1) b (.slice a2 b.length cap2) 0 w h1 h2 h3)
  rw [cov_none] at HCV
  have HOF := fun w h1 h2 h3 => hid (sof_any s (.slice a0 s.length cap0) p (.slice a1 p.length cap1) b (.slice a2 b.length cap2) w h1 h2 h3)
  have HOM := hid (Um.ofAll_most s p b)
  clear hf hp hs
  have y0 := c0
  have y1 := c1
  generalize Um.ofAll s p b = O at *
  go_enter Try.func4, Try.ntmps4
  go_upto_region 4 with (go_at_call 14; refine (H0 _ _ (lit_ls 0 0 (by simp) (by decide))).out.mono ?_; rintro e wn ⟨r0, rfl, h9, hb⟩; replace hF := (hF.alloc _).step hb; clear hb H0 y0 y1; have y0 := (hF.below.cell (p := ⟨w.heap.size, 0, none⟩) h1).trans c0; have y1 := (hF.below.cell (p := ⟨w.heap.size, 1, none⟩) h1).trans c1; obtain ⟨b9, o9, c9, rfl, -⟩ := h9.open (by simp); clear h9)
  go_upto_region 5 with (go_at_call 9; refine (HCV _ (hF.lf hf2) (hF.ls hp2) (hF.ls hb2)).out.mono ?_; rintro e wn ⟨r1, rfl, hx, hb⟩; replace hF := hF.step hb; clear hb; clear HCV y0 y1; have y0 := (hF.below.cell (p := ⟨w.heap.size, 0, none⟩) h1).trans c0; have y1 := (hF.below.cell (p := ⟨w.heap.size, 1, none⟩) h1).trans c1; obtain ⟨s1, d1, rfl, -⟩ := (id hx))
  go_upto_region 6 with (go_at_call 10; refine (HOF _ (hF.lf hf2) (hF.ls hp2) (hF.ls hb2)).out.mono ?_; rintro e wn ⟨r2, rfl, hy, hb⟩; replace hx := hx.step hb; replace hF := hF.step hb; clear hb; clear HOF y0 y1; obtain ⟨s2, d2, rfl, -⟩ := (id hy))
  obtain ⟨Inv, hInv⟩ : ∃ Inv : Array Bool → Act → World → Prop, ∀ listed aq W', Inv listed aq W' ↔ (∃ v36 v37 v38 v39 v40 v41 v42 v43 v44 v45 v4 : Value, aq = { tmps := #[Value.agg #[Value.slice a0 s.length cap0, Value.slice a1 p.length cap1], Value.slice a2 b.length cap2, Value.pointer (some { block := w.heap.size, off := 0 }), undef, v4, Value.slice (some { block := b9, off := o9 }) 1 c9, Value.nilIface, Value.slice s1 O.fst.length d1, errV O.snd, Value.slice s2 O.fst.length d2, errV O.snd, Value.tuple #[Value.slice (some { block := b9, off := o9 }) 1 c9, Value.nilIface], Value.agg #[Value.int IntKind.i64 0, Value.int IntKind.i64 0], Value.slice (some { block := w.heap.size + 1, off := 0 }) 1 1, Value.tuple #[Value.slice (some { block := b9, off := o9 }) 1 c9, Value.nilIface], Value.slice (some { block := b9, off := o9 }) 1 c9, Value.nilIface, Value.nilIface, Value.bool false, Value.bool false, Value.slice (some { block := b9, off := o9 }) 1 c9, Value.int IntKind.i64 1, Value.bool false, Value.bool false, Value.tuple #[Value.slice s1 O.fst.length d1, errV O.snd], Value.agg #[Value.slice a0 s.length cap0, Value.slice a1 p.length cap1], Value.slice a2 b.length cap2, Value.tuple #[Value.slice s1 O.fst.length d1, errV O.snd], Value.slice s1 O.fst.length d1, errV O.snd, Value.tuple #[Value.slice s2 O.fst.length d2, errV O.snd], Value.agg #[Value.slice a0 s.length cap0, Value.slice a1 p.length cap1], Value.slice a2 b.length cap2, Value.tuple #[Value.slice s2 O.fst.length d2, errV O.snd], Value.slice s2 O.fst.length d2, errV O.snd, v36, v37, v38, v39, v40, v41, v42, v43, v44, v45], defers := [] } ∧ Below (wn).heap.size (wn) W' ∧ (listed.getD 0 false = true → v36 = errV O.snd) ∧ (listed.getD 1 false = true → v37 = (.bool true)) ∧ (listed.getD 2 false = true → v38 = errV O.snd) ∧ (listed.getD 3 false = true → v39 = (.bool true)) ∧ (listed.getD 4 false = true → v40 = (.bool true)) ∧ (listed.getD 5 false = true → v41 = (.bool true)) ∧ (listed.getD 6 false = true → v42 = Value.slice s1 O.fst.length d1) ∧ (listed.getD 7 false = true → v43 = Value.slice s2 O.fst.length d2) ∧ (listed.getD 8 false = true → v44 = (.bool true)) ∧ (listed.getD 9 false = true → v45 = (.bool true)) ∧ (listed.getD 10 false = true → v4 = (.bool true))) := ⟨_, fun _ _ _ => Iff.rfl⟩
  have HI := hid hInv
  clear hInv
  refine Free.region hmx (by kernel_rfl) Inv ?s1 ?s2 ?s3
  case s1 =>
    exact (HI.out _ _ _).2 ⟨undef, undef, undef, undef, undef, undef, undef, undef, undef, undef, Value.bool false, rfl, (Below.refl _ _).drew, Free.not_yet, Free.not_yet, Free.not_yet, Free.not_yet, Free.not_yet, Free.not_yet, Free.not_yet, Free.not_yet, Free.not_yet, Free.not_yet, Free.not_yet⟩
  case s2 =>
    intro i listed aq W1 hix hne hnl hsz hv
    obtain ⟨v36, v37, v38, v39, v40, v41, v42, v43, v44, v45, v4, rfl, hW, l0, l1, l2, l3, l4, l5, l6, l7, l8, l9, l10⟩ := (HI.out _ _ _).1 hv
    clear hv
    replace hix : i < 11 := hix
    replace hsz : listed.size = 11 := hsz
    rcases (by omega : i = 0 ∨ i = 1 ∨ i = 2 ∨ i = 3 ∨ i = 4 ∨ i = 5 ∨ i = 6 ∨ i = 7 ∨ i = 8 ∨ i = 9 ∨ i = 10) with rfl | rfl | rfl | rfl | rfl | rfl | rfl | rfl | rfl | rfl | rfl
    · refine Free.op rfl rfl (fun K hK => ?_)
      go_simp
      exact hK _ _ ((HI.out _ _ _).2 ⟨_, v37, v38, v39, v40, v41, v42, v43, v44, v45, v4, rfl, hW, fun _ => rfl, Free.of_set (by decide) l1, Free.of_set (by decide) l2, Free.of_set (by decide) l3, Free.of_set (by decide) l4, Free.of_set (by decide) l5, Free.of_set (by decide) l6, Free.of_set (by decide) l7, Free.of_set (by decide) l8, Free.of_set (by decide) l9, Free.of_set (by decide) l10⟩)
    · refine Free.op rfl rfl (fun K hK => ?_)
      obtain rfl := l0 (hne 0 (by kernel_rfl))
      go_simp
      exact hK _ _ ((HI.out _ _ _).2 ⟨_, _, v38, v39, v40, v41, v42, v43, v44, v45, v4, rfl, hW, fun _ => rfl, fun _ => rfl, Free.of_set (by decide) l2, Free.of_set (by decide) l3, Free.of_set (by decide) l4, Free.of_set (by decide) l5, Free.of_set (by decide) l6, Free.of_set (by decide) l7, Free.of_set (by decide) l8, Free.of_set (by decide) l9, Free.of_set (by decide) l10⟩)
    · refine Free.op rfl rfl (fun K hK => ?_)
      go_simp
      exact hK _ _ ((HI.out _ _ _).2 ⟨v36, v37, _, v39, v40, v41, v42, v43, v44, v45, v4, rfl, hW, Free.of_set (by decide) l0, Free.of_set (by decide) l1, fun _ => rfl, Free.of_set (by decide) l3, Free.of_set (by decide) l4, Free.of_set (by decide) l5, Free.of_set (by decide) l6, Free.of_set (by decide) l7, Free.of_set (by decide) l8, Free.of_set (by decide) l9, Free.of_set (by decide) l10⟩)
    · refine Free.op rfl rfl (fun K hK => ?_)
      obtain rfl := l2 (hne 2 (by kernel_rfl))
      go_simp
      exact hK _ _ ((HI.out _ _ _).2 ⟨v36, v37, _, _, v40, v41, v42, v43, v44, v45, v4, rfl, hW, Free.of_set (by decide) l0, Free.of_set (by decide) l1, fun _ => rfl, fun _ => rfl, Free.of_set (by decide) l4, Free.of_set (by decide) l5, Free.of_set (by decide) l6, Free.of_set (by decide) l7, Free.of_set (by decide) l8, Free.of_set (by decide) l9, Free.of_set (by decide) l10⟩)
    · refine Free.op rfl rfl (fun K hK => ?_)
      obtain rfl := l1 (hne 1 (by kernel_rfl))
      obtain rfl := l3 (hne 3 (by kernel_rfl))
      go_simp
      exact hK _ _ ((HI.out _ _ _).2 ⟨v36, _, v38, _, _, v41, v42, v43, v44, v45, v4, rfl, hW, Free.of_set (by decide) l0, fun _ => rfl, Free.of_set (by decide) l2, fun _ => rfl, fun _ => rfl, Free.of_set (by decide) l5, Free.of_set (by decide) l6, Free.of_set (by decide) l7, Free.of_set (by decide) l8, Free.of_set (by decide) l9, Free.of_set (by decide) l10⟩)
    · refine Free.op rfl rfl (fun K hK => ?_)
      obtain rfl := l4 (hne 4 (by kernel_rfl))
      go_simp
      exact hK _ _ ((HI.out _ _ _).2 ⟨v36, v37, v38, v39, _, _, v42, v43, v44, v45, v4, rfl, hW, Free.of_set (by decide) l0, Free.of_set (by decide) l1, Free.of_set (by decide) l2, Free.of_set (by decide) l3, fun _ => rfl, fun _ => rfl, Free.of_set (by decide) l6, Free.of_set (by decide) l7, Free.of_set (by decide) l8, Free.of_set (by decide) l9, Free.of_set (by decide) l10⟩)
    · obtain rfl := l5 (hne 5 (by kernel_rfl))
      refine Free.opW rfl (by rfl) (fun K hK => ?_)
      go_simp
      exact hK _ _ ((HI.out _ _ _).2 ⟨v36, v37, v38, v39, v40, _, _, v43, v44, v45, v4, rfl, hW, Free.of_set (by decide) l0, Free.of_set (by decide) l1, Free.of_set (by decide) l2, Free.of_set (by decide) l3, Free.of_set (by decide) l4, fun _ => rfl, fun _ => rfl, Free.of_set (by decide) l7, Free.of_set (by decide) l8, Free.of_set (by decide) l9, Free.of_set (by decide) l10⟩)
    · obtain rfl := l5 (hne 5 (by kernel_rfl))
      refine Free.opW rfl (by rfl) (fun K hK => ?_)
      go_simp
      exact hK _ _ ((HI.out _ _ _).2 ⟨v36, v37, v38, v39, v40, _, v42, _, v44, v45, v4, rfl, hW, Free.of_set (by decide) l0, Free.of_set (by decide) l1, Free.of_set (by decide) l2, Free.of_set (by decide) l3, Free.of_set (by decide) l4, fun _ => rfl, Free.of_set (by decide) l6, fun _ => rfl, Free.of_set (by decide) l8, Free.of_set (by decide) l9, Free.of_set (by decide) l10⟩)
    · obtain rfl := l5 (hne 5 (by kernel_rfl))
      obtain rfl := l6 (hne 6 (by kernel_rfl))
      obtain rfl := l7 (hne 7 (by kernel_rfl))
      refine Free.opW rfl (by rfl) (fun K hK => ?_)
      go_wp2_with (go_at_call 15; refine (box_same O.1 _ _ _ (hx.step hW) (hy.step hW) HOM.out).mono ?_; rintro e W3 ⟨rfl, hb⟩)
      exact (HI.out _ _ _).2 ⟨v36, v37, v38, v39, v40, _, _, _, _, v45, v4, rfl, hW.trans (hb.mono hW.size), Free.of_set (by decide) l0, Free.of_set (by decide) l1, Free.of_set (by decide) l2, Free.of_set (by decide) l3, Free.of_set (by decide) l4, fun _ => rfl, fun _ => rfl, fun _ => rfl, fun _ => rfl, Free.of_set (by decide) l9, Free.of_set (by decide) l10⟩
    · refine Free.op rfl rfl (fun K hK => ?_)
      obtain rfl := l5 (hne 5 (by kernel_rfl))
      obtain rfl := l8 (hne 8 (by kernel_rfl))
      go_simp
      exact hK _ _ ((HI.out _ _ _).2 ⟨v36, v37, v38, v39, v40, _, v42, v43, _, _, v4, rfl, hW, Free.of_set (by decide) l0, Free.of_set (by decide) l1, Free.of_set (by decide) l2, Free.of_set (by decide) l3, Free.of_set (by decide) l4, fun _ => rfl, Free.of_set (by decide) l6, Free.of_set (by decide) l7, fun _ => rfl, fun _ => rfl, Free.of_set (by decide) l10⟩)
    · refine Free.op rfl rfl (fun K hK => ?_)
      obtain rfl := l9 (hne 9 (by kernel_rfl))
      go_simp
      exact hK _ _ ((HI.out _ _ _).2 ⟨v36, v37, v38, v39, v40, v41, v42, v43, v44, _, _, rfl, hW, Free.of_set (by decide) l0, Free.of_set (by decide) l1, Free.of_set (by decide) l2, Free.of_set (by decide) l3, Free.of_set (by decide) l4, Free.of_set (by decide) l5, Free.of_set (by decide) l6, Free.of_set (by decide) l7, Free.of_set (by decide) l8, fun _ => rfl, fun _ => rfl⟩)
  case s3 =>
    intro listed aq W1 hall hsz hv
    obtain ⟨v36, v37, v38, v39, v40, v41, v42, v43, v44, v45, v4, rfl, hW, l0, l1, l2, l3, l4, l5, l6, l7, l8, l9, l10⟩ := (HI.out _ _ _).1 hv
    clear hv HI
    obtain rfl := l0 (Free.listed_of hall hsz 0 (by decide))
    obtain rfl := l1 (Free.listed_of hall hsz 1 (by decide))
    obtain rfl := l2 (Free.listed_of hall hsz 2 (by decide))
    obtain rfl := l3 (Free.listed_of hall hsz 3 (by decide))
    obtain rfl := l4 (Free.listed_of hall hsz 4 (by decide))
    obtain rfl := l5 (Free.listed_of hall hsz 5 (by decide))
    obtain rfl := l6 (Free.listed_of hall hsz 6 (by decide))
    obtain rfl := l7 (Free.listed_of hall hsz 7 (by decide))
    obtain rfl := l8 (Free.listed_of hall hsz 8 (by decide))
    obtain rfl := l9 (Free.listed_of hall hsz 9 (by decide))
    obtain rfl := l10 (Free.listed_of hall hsz 10 (by decide))
    clear hall hsz
    replace hF := hF.step hW
    clear hW
    go_wp2
    go_returns
    exact ⟨rfl, hBW.trans (hF.below.mono hBW.size)⟩

set_option maxRecDepth 100000 in
set_option maxHeartbeats 8000000 in
theorem walk_not (s : List (List Um.Tm)) (v0 : Value) (p : List (Int × Int)) (v1 : Value) (b : List (Int × Int)) (v : Value) (w : World) (hf : Lf w.heap.size w v0 s) (hp : Ls w.heap.size w v1 p) (hs : Ls w.heap.size w v b) (h : ((Um.ofAll s p b).2 == 0) = false) :
    Calls Try.prog 4 #[.agg #[v0, v1], v] w fun e w' => e = .returned (.bool true) ∧ Below w.heap.size w w' := by
  have v0 := errV_none
  have q1 := errG
  have q2 := errGn
  have q3 := errE
  have q4 := errN
  have hmx : Try.prog.follows .mixedOrders = true := by kernel_rfl
  obtain ⟨a0, cap0, rfl, -⟩ := (id hf)
  obtain ⟨a1, cap1, rfl, -⟩ := (id hp)
  obtain ⟨a2, cap2, rfl, -⟩ := (id hs)
  have h1 : w.heap.size < (w.alloc (.cells #[.slice a0 s.length cap0, .slice a1 p.length cap1] 25)).heap.size := by simp
  have hBW : Below w.heap.size w (w.alloc (.cells #[.slice a0 s.length cap0, .slice a1 p.length cap1] 25)) := by go_grown
  obtain ⟨c0, c1⟩ := box_cells w (.slice a0 s.length cap0) (.slice a1 p.length cap1) 25
  have hF := Fr.start (w.alloc (.cells #[.slice a0 s.length cap0, .slice a1 p.length cap1] 25))
  have hf2 := hf.step hBW
  have hp2 := hp.step hBW
  have hb2 := hs.step hBW
  have H0 := fun v w h1 => hid (cvPieces_any [(0, 0)] v 0 w h1)
  rw [fact] at H0
  have HCV := fun w h1 h2 h3 => hid (cvStep_any s (.slice a0 s.length cap0) p (.slice a1 p.length cap1) b (.slice a2 b.length cap2) 0 w h1 h2 h3)
  rw [cov_none] at HCV
  have HOF := fun w h1 h2 h3 => hid (sof_any s (.slice a0 s.length cap0) p (.slice a1 p.length cap1) b (.slice a2 b.length cap2) w h1 h2 h3)
  have HOM := hid (Um.ofAll_most s p b)
  clear hf hp hs
  have y0 := c0
  have y1 := c1
  generalize Um.ofAll s p b = O at *
  go_enter Try.func4, Try.ntmps4
  go_upto_region 4 with (go_at_call 14; refine (H0 _ _ (lit_ls 0 0 (by simp) (by decide))).out.mono ?_; rintro e wn ⟨r0, rfl, h9, hb⟩; replace hF := (hF.alloc _).step hb; clear hb H0 y0 y1; have y0 := (hF.below.cell (p := ⟨w.heap.size, 0, none⟩) h1).trans c0; have y1 := (hF.below.cell (p := ⟨w.heap.size, 1, none⟩) h1).trans c1; obtain ⟨b9, o9, c9, rfl, -⟩ := h9.open (by simp); clear h9)
  go_upto_region 5 with (go_at_call 9; refine (HCV _ (hF.lf hf2) (hF.ls hp2) (hF.ls hb2)).out.mono ?_; rintro e wn ⟨r1, rfl, hx, hb⟩; replace hF := hF.step hb; clear hb; clear HCV y0 y1; have y0 := (hF.below.cell (p := ⟨w.heap.size, 0, none⟩) h1).trans c0; have y1 := (hF.below.cell (p := ⟨w.heap.size, 1, none⟩) h1).trans c1; obtain ⟨s1, d1, rfl, -⟩ := (id hx))
  go_upto_region 6 with (go_at_call 10; refine (HOF _ (hF.lf hf2) (hF.ls hp2) (hF.ls hb2)).out.mono ?_; rintro e wn ⟨r2, rfl, hy, hb⟩; replace hx := hx.step hb; replace hF := hF.step hb; clear hb; clear HOF y0 y1; obtain ⟨s2, d2, rfl, -⟩ := (id hy))
  obtain ⟨Inv, hInv⟩ : ∃ Inv : Array Bool → Act → World → Prop, ∀ listed aq W', Inv listed aq W' ↔ (∃ v36 v37 v38 v39 v40 v41 v42 v43 v44 v45 v4 : Value, aq = { tmps := #[Value.agg #[Value.slice a0 s.length cap0, Value.slice a1 p.length cap1], Value.slice a2 b.length cap2, Value.pointer (some { block := w.heap.size, off := 0 }), undef, v4, Value.slice (some { block := b9, off := o9 }) 1 c9, Value.nilIface, Value.slice s1 O.fst.length d1, errV O.snd, Value.slice s2 O.fst.length d2, errV O.snd, Value.tuple #[Value.slice (some { block := b9, off := o9 }) 1 c9, Value.nilIface], Value.agg #[Value.int IntKind.i64 0, Value.int IntKind.i64 0], Value.slice (some { block := w.heap.size + 1, off := 0 }) 1 1, Value.tuple #[Value.slice (some { block := b9, off := o9 }) 1 c9, Value.nilIface], Value.slice (some { block := b9, off := o9 }) 1 c9, Value.nilIface, Value.nilIface, Value.bool false, Value.bool false, Value.slice (some { block := b9, off := o9 }) 1 c9, Value.int IntKind.i64 1, Value.bool false, Value.bool false, Value.tuple #[Value.slice s1 O.fst.length d1, errV O.snd], Value.agg #[Value.slice a0 s.length cap0, Value.slice a1 p.length cap1], Value.slice a2 b.length cap2, Value.tuple #[Value.slice s1 O.fst.length d1, errV O.snd], Value.slice s1 O.fst.length d1, errV O.snd, Value.tuple #[Value.slice s2 O.fst.length d2, errV O.snd], Value.agg #[Value.slice a0 s.length cap0, Value.slice a1 p.length cap1], Value.slice a2 b.length cap2, Value.tuple #[Value.slice s2 O.fst.length d2, errV O.snd], Value.slice s2 O.fst.length d2, errV O.snd, v36, v37, v38, v39, v40, v41, v42, v43, v44, v45], defers := [] } ∧ Below (wn).heap.size (wn) W' ∧ (listed.getD 0 false = true → v36 = errV O.snd) ∧ (listed.getD 1 false = true → v37 = (.bool false)) ∧ (listed.getD 2 false = true → v38 = errV O.snd) ∧ (listed.getD 3 false = true → v39 = (.bool false)) ∧ (listed.getD 4 false = true → v40 = (.bool true)) ∧ (listed.getD 5 false = true → v41 = (.bool true)) ∧ (listed.getD 6 false = true → v42 = Value.slice s1 O.fst.length d1) ∧ (listed.getD 7 false = true → v43 = Value.slice s2 O.fst.length d2) ∧ (listed.getD 8 false = true → v44 = (.bool true)) ∧ (listed.getD 9 false = true → v45 = (.bool true)) ∧ (listed.getD 10 false = true → v4 = (.bool true))) := ⟨_, fun _ _ _ => Iff.rfl⟩
  have HI := hid hInv
  clear hInv
  refine Free.region hmx (by kernel_rfl) Inv ?s1 ?s2 ?s3
  case s1 =>
    exact (HI.out _ _ _).2 ⟨undef, undef, undef, undef, undef, undef, undef, undef, undef, undef, Value.bool false, rfl, (Below.refl _ _).drew, Free.not_yet, Free.not_yet, Free.not_yet, Free.not_yet, Free.not_yet, Free.not_yet, Free.not_yet, Free.not_yet, Free.not_yet, Free.not_yet, Free.not_yet⟩
  case s2 =>
    intro i listed aq W1 hix hne hnl hsz hv
    obtain ⟨v36, v37, v38, v39, v40, v41, v42, v43, v44, v45, v4, rfl, hW, l0, l1, l2, l3, l4, l5, l6, l7, l8, l9, l10⟩ := (HI.out _ _ _).1 hv
    clear hv
    replace hix : i < 11 := hix
    replace hsz : listed.size = 11 := hsz
    rcases (by omega : i = 0 ∨ i = 1 ∨ i = 2 ∨ i = 3 ∨ i = 4 ∨ i = 5 ∨ i = 6 ∨ i = 7 ∨ i = 8 ∨ i = 9 ∨ i = 10) with rfl | rfl | rfl | rfl | rfl | rfl | rfl | rfl | rfl | rfl | rfl
    · refine Free.op rfl rfl (fun K hK => ?_)
      go_simp
      exact hK _ _ ((HI.out _ _ _).2 ⟨_, v37, v38, v39, v40, v41, v42, v43, v44, v45, v4, rfl, hW, fun _ => rfl, Free.of_set (by decide) l1, Free.of_set (by decide) l2, Free.of_set (by decide) l3, Free.of_set (by decide) l4, Free.of_set (by decide) l5, Free.of_set (by decide) l6, Free.of_set (by decide) l7, Free.of_set (by decide) l8, Free.of_set (by decide) l9, Free.of_set (by decide) l10⟩)
    · refine Free.op rfl rfl (fun K hK => ?_)
      obtain rfl := l0 (hne 0 (by kernel_rfl))
      go_simp
      exact hK _ _ ((HI.out _ _ _).2 ⟨_, _, v38, v39, v40, v41, v42, v43, v44, v45, v4, rfl, hW, fun _ => rfl, fun _ => rfl, Free.of_set (by decide) l2, Free.of_set (by decide) l3, Free.of_set (by decide) l4, Free.of_set (by decide) l5, Free.of_set (by decide) l6, Free.of_set (by decide) l7, Free.of_set (by decide) l8, Free.of_set (by decide) l9, Free.of_set (by decide) l10⟩)
    · refine Free.op rfl rfl (fun K hK => ?_)
      go_simp
      exact hK _ _ ((HI.out _ _ _).2 ⟨v36, v37, _, v39, v40, v41, v42, v43, v44, v45, v4, rfl, hW, Free.of_set (by decide) l0, Free.of_set (by decide) l1, fun _ => rfl, Free.of_set (by decide) l3, Free.of_set (by decide) l4, Free.of_set (by decide) l5, Free.of_set (by decide) l6, Free.of_set (by decide) l7, Free.of_set (by decide) l8, Free.of_set (by decide) l9, Free.of_set (by decide) l10⟩)
    · refine Free.op rfl rfl (fun K hK => ?_)
      obtain rfl := l2 (hne 2 (by kernel_rfl))
      go_simp
      exact hK _ _ ((HI.out _ _ _).2 ⟨v36, v37, _, _, v40, v41, v42, v43, v44, v45, v4, rfl, hW, Free.of_set (by decide) l0, Free.of_set (by decide) l1, fun _ => rfl, fun _ => rfl, Free.of_set (by decide) l4, Free.of_set (by decide) l5, Free.of_set (by decide) l6, Free.of_set (by decide) l7, Free.of_set (by decide) l8, Free.of_set (by decide) l9, Free.of_set (by decide) l10⟩)
    · refine Free.op rfl rfl (fun K hK => ?_)
      obtain rfl := l1 (hne 1 (by kernel_rfl))
      obtain rfl := l3 (hne 3 (by kernel_rfl))
      go_simp
      exact hK _ _ ((HI.out _ _ _).2 ⟨v36, _, v38, _, _, v41, v42, v43, v44, v45, v4, rfl, hW, Free.of_set (by decide) l0, fun _ => rfl, Free.of_set (by decide) l2, fun _ => rfl, fun _ => rfl, Free.of_set (by decide) l5, Free.of_set (by decide) l6, Free.of_set (by decide) l7, Free.of_set (by decide) l8, Free.of_set (by decide) l9, Free.of_set (by decide) l10⟩)
    · refine Free.op rfl rfl (fun K hK => ?_)
      obtain rfl := l4 (hne 4 (by kernel_rfl))
      go_simp
      exact hK _ _ ((HI.out _ _ _).2 ⟨v36, v37, v38, v39, _, _, v42, v43, v44, v45, v4, rfl, hW, Free.of_set (by decide) l0, Free.of_set (by decide) l1, Free.of_set (by decide) l2, Free.of_set (by decide) l3, fun _ => rfl, fun _ => rfl, Free.of_set (by decide) l6, Free.of_set (by decide) l7, Free.of_set (by decide) l8, Free.of_set (by decide) l9, Free.of_set (by decide) l10⟩)
    · obtain rfl := l5 (hne 5 (by kernel_rfl))
      refine Free.opW rfl (by rfl) (fun K hK => ?_)
      go_simp
      exact hK _ _ ((HI.out _ _ _).2 ⟨v36, v37, v38, v39, v40, _, _, v43, v44, v45, v4, rfl, hW, Free.of_set (by decide) l0, Free.of_set (by decide) l1, Free.of_set (by decide) l2, Free.of_set (by decide) l3, Free.of_set (by decide) l4, fun _ => rfl, fun _ => rfl, Free.of_set (by decide) l7, Free.of_set (by decide) l8, Free.of_set (by decide) l9, Free.of_set (by decide) l10⟩)
    · obtain rfl := l5 (hne 5 (by kernel_rfl))
      refine Free.opW rfl (by rfl) (fun K hK => ?_)
      go_simp
      exact hK _ _ ((HI.out _ _ _).2 ⟨v36, v37, v38, v39, v40, _, v42, _, v44, v45, v4, rfl, hW, Free.of_set (by decide) l0, Free.of_set (by decide) l1, Free.of_set (by decide) l2, Free.of_set (by decide) l3, Free.of_set (by decide) l4, fun _ => rfl, Free.of_set (by decide) l6, fun _ => rfl, Free.of_set (by decide) l8, Free.of_set (by decide) l9, Free.of_set (by decide) l10⟩)
    · obtain rfl := l5 (hne 5 (by kernel_rfl))
      obtain rfl := l6 (hne 6 (by kernel_rfl))
      obtain rfl := l7 (hne 7 (by kernel_rfl))
      refine Free.opW rfl (by rfl) (fun K hK => ?_)
      go_wp2_with (go_at_call 15; refine (box_same O.1 _ _ _ (hx.step hW) (hy.step hW) HOM.out).mono ?_; rintro e W3 ⟨rfl, hb⟩)
      exact (HI.out _ _ _).2 ⟨v36, v37, v38, v39, v40, _, _, _, _, v45, v4, rfl, hW.trans (hb.mono hW.size), Free.of_set (by decide) l0, Free.of_set (by decide) l1, Free.of_set (by decide) l2, Free.of_set (by decide) l3, Free.of_set (by decide) l4, fun _ => rfl, fun _ => rfl, fun _ => rfl, fun _ => rfl, Free.of_set (by decide) l9, Free.of_set (by decide) l10⟩
    · refine Free.op rfl rfl (fun K hK => ?_)
      obtain rfl := l5 (hne 5 (by kernel_rfl))
      obtain rfl := l8 (hne 8 (by kernel_rfl))
      go_simp
      exact hK _ _ ((HI.out _ _ _).2 ⟨v36, v37, v38, v39, v40, _, v42, v43, _, _, v4, rfl, hW, Free.of_set (by decide) l0, Free.of_set (by decide) l1, Free.of_set (by decide) l2, Free.of_set (by decide) l3, Free.of_set (by decide) l4, fun _ => rfl, Free.of_set (by decide) l6, Free.of_set (by decide) l7, fun _ => rfl, fun _ => rfl, Free.of_set (by decide) l10⟩)
    · refine Free.op rfl rfl (fun K hK => ?_)
      obtain rfl := l9 (hne 9 (by kernel_rfl))
      go_simp
      exact hK _ _ ((HI.out _ _ _).2 ⟨v36, v37, v38, v39, v40, v41, v42, v43, v44, _, _, rfl, hW, Free.of_set (by decide) l0, Free.of_set (by decide) l1, Free.of_set (by decide) l2, Free.of_set (by decide) l3, Free.of_set (by decide) l4, Free.of_set (by decide) l5, Free.of_set (by decide) l6, Free.of_set (by decide) l7, Free.of_set (by decide) l8, fun _ => rfl, fun _ => rfl⟩)
  case s3 =>
    intro listed aq W1 hall hsz hv
    obtain ⟨v36, v37, v38, v39, v40, v41, v42, v43, v44, v45, v4, rfl, hW, l0, l1, l2, l3, l4, l5, l6, l7, l8, l9, l10⟩ := (HI.out _ _ _).1 hv
    clear hv HI
    obtain rfl := l0 (Free.listed_of hall hsz 0 (by decide))
    obtain rfl := l1 (Free.listed_of hall hsz 1 (by decide))
    obtain rfl := l2 (Free.listed_of hall hsz 2 (by decide))
    obtain rfl := l3 (Free.listed_of hall hsz 3 (by decide))
    obtain rfl := l4 (Free.listed_of hall hsz 4 (by decide))
    obtain rfl := l5 (Free.listed_of hall hsz 5 (by decide))
    obtain rfl := l6 (Free.listed_of hall hsz 6 (by decide))
    obtain rfl := l7 (Free.listed_of hall hsz 7 (by decide))
    obtain rfl := l8 (Free.listed_of hall hsz 8 (by decide))
    obtain rfl := l9 (Free.listed_of hall hsz 9 (by decide))
    obtain rfl := l10 (Free.listed_of hall hsz 10 (by decide))
    clear hall hsz
    replace hF := hF.step hW
    clear hW
    go_wp2
    go_returns
    exact ⟨rfl, hBW.trans (hF.below.mono hBW.size)⟩

theorem walk (s : List (List Um.Tm)) (v0 : Value) (p : List (Int × Int)) (v1 : Value) (b : List (Int × Int)) (v : Value) (w : World) (hf : Lf w.heap.size w v0 s) (hp : Ls w.heap.size w v1 p) (hs : Ls w.heap.size w v b) :
    Calls Try.prog 4 #[.agg #[v0, v1], v] w fun e w' => e = .returned (.bool true) ∧ Below w.heap.size w w' := by
  cases h : ((Um.ofAll s p b).2 == 0)
  · exact walk_not s v0 p v1 b v w hf hp hs h
  · exact walk_yes s v0 p v1 b v w hf hp hs h
end Go.Proofs.Ytkeoafbkbblnaaa.CvNone
