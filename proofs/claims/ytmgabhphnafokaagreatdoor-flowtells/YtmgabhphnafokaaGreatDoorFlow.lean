/-
  What package flow answers: Run, Path, Wide at every argument.
-/
import Derived.Test.YtmgabhphnafokaaGreatDoorFlowM
import Derived.Test.YtmgabhphnafokaaGreatDoorStep
import Derived.Test.YtmgabhphnafokaaGreatDoorMaths3
import Derived.Test.YtmgabhphnafokaaGreatDoorMems2
import Derived.Lib.MinMax
namespace Go.Proofs.YtmgabhphnafokaaGreatDoor
set_option linter.unusedSimpArgs false
open Go.RowKit

set_option maxRecDepth 100000 in
set_option maxHeartbeats 8000000 in
theorem runOne_any (s : List (List Um.Tm)) (v0 : Value) (p : List (Int × Int)) (v1 : Value) (b : List (Int × Int)) (v : Value) (i : Int) (B0 : Nat) (w : World) (hf : Lf w.heap.size w v0 s) (hp : Ls w.heap.size w v1 p) (hs : Ls w.heap.size w v b) (hY : SyAt w B0 v0 v1) :
    Calls Tryz.prog 19 #[.int .i64 i, v, .pointer (some ⟨B0, 0, none⟩)] w fun e w' => ∃ r, e = .returned (.tuple #[r, errV (Um.ofAll s p b).2]) ∧ Ls w'.heap.size w' r (Um.ofAll s p b).1 ∧ Below w.heap.size w w' := by
  have ve := errV_none
  have q1 := errG
  have q2 := errGn
  have q3 := errE
  have q4 := errN
  obtain ⟨a0, cap0, rfl, -⟩ := (id hf)
  obtain ⟨a1, cap1, rfl, -⟩ := (id hp)
  obtain ⟨a2, cap2, rfl, -⟩ := (id hs)
  have HO := fun w h1 h2 h3 => hid (sof_any s (.slice a0 s.length cap0) p (.slice a1 p.length cap1) b (.slice a2 b.length cap2) w h1 h2 h3)
  have y0 := hY.c0
  have y1 := hY.c1
  clear hY
  go_enter Tryz.func19, Tryz.ntmps19
  go_wp2_with (go_at_call 20; refine (HO _ hf hp hs).out.mono ?_; rintro e wn ⟨r, rfl, hr, hb⟩; obtain ⟨a9, c9, rfl, -⟩ := (id hr))
  go_returns
  exact ⟨_, rfl, hr, hb⟩

set_option maxRecDepth 100000 in
set_option maxHeartbeats 8000000 in
theorem pathOne_any (s : List (List Um.Tm)) (v0 : Value) (p : List (Int × Int)) (v1 : Value) (x : List Int) (v : Value) (u : List (List Int)) (t : Value) (i B0 B1 : Nat) (w : World) (hf : Lf w.heap.size w v0 s) (hp : Ls w.heap.size w v1 p) (hx : Li w.heap.size w v x) (hu : Ll w.heap.size w t u) (hY : SyAt w B0 v0 v1) (hV : VaAt w B1 t) (hi : i < u.length) :
    Calls Tryz.prog 31 #[.int .i64 (i : Int), v, .pointer (some ⟨B0, 0, none⟩), .pointer (some ⟨B1, 0, none⟩)] w fun e w' => ∃ r, e = .returned (.tuple #[r, errV (Um.movAll s p x (u[i]?.getD [])).2]) ∧ Li w'.heap.size w' r (Um.movAll s p x (u[i]?.getD [])).1 ∧ Below w.heap.size w w' := by
  have ve := errV_none
  have q1 := errG
  have q2 := errGn
  have q3 := errE
  have q4 := errN
  obtain ⟨a0, cap0, rfl, -⟩ := (id hf)
  obtain ⟨a1, cap1, rfl, -⟩ := (id hp)
  obtain ⟨a2, cap2, rfl, -⟩ := (id hx)
  obtain ⟨b5, o5, c5, rfl, -, hlt, hall⟩ := hu.open (by rintro rfl; simp at hi)
  have hii : (i : Int) < (u.length : Int) := by omega
  obtain ⟨q, yq, hq⟩ := hall i hi
  generalize u[i]?.getD [] = ui at *
  obtain ⟨a3, cap3, rfl, -⟩ := (id hq)
  have HO := fun w h1 h2 h3 h4 => hid (spoint_any s (.slice a0 s.length cap0) p (.slice a1 p.length cap1) x (.slice a2 x.length cap2) ui (.slice a3 ui.length cap3) w h1 h2 h3 h4)
  have hmx : Tryz.prog.follows .mixedOrders = true := by kernel_rfl
  clear hall hi hu
  go_enter Tryz.func31, Tryz.ntmps31
  generalize Um.movAll s p x ui = Z at *
  go_wp2
  obtain ⟨Inv, hInv⟩ : ∃ Inv : Array Bool → Act → World → Prop, ∀ listed aq W', Inv listed aq W' ↔ (∃ rr v8 v9 v10 v11 v12 v13 v14 v15 v16 v6 v7 : Value, aq = { tmps := #[Value.int IntKind.i64 ↑i, Value.slice a2 x.length cap2, Value.pointer (some { block := B0, off := 0 }), Value.pointer (some { block := B1, off := 0 }), undef, undef, v6, v7, v8, v9, v10, v11, v12, v13, v14, v15, v16], defers := [] } ∧ Below (w).heap.size (w) W' ∧ (listed.getD 0 false = true → v8 = (.agg #[.slice a0 s.length cap0, .slice a1 p.length cap1])) ∧ (listed.getD 1 false = true → v9 = Value.slice a2 x.length cap2) ∧ (listed.getD 2 false = true → v10 = (.slice (some ⟨b5, o5, none⟩) u.length c5)) ∧ (listed.getD 3 false = true → v11 = Value.int IntKind.i64 ↑i) ∧ (listed.getD 4 false = true → v12 = .pointer (some ⟨b5, o5 + i, none⟩)) ∧ (listed.getD 5 false = true → v13 = (.slice a3 ui.length cap3)) ∧ (listed.getD 6 false = true → v14 = (.tuple #[rr, errV Z.2])) ∧ (listed.getD 7 false = true → v15 = rr) ∧ (listed.getD 8 false = true → v16 = errV Z.2) ∧ (listed.getD 9 false = true → v6 = rr) ∧ (listed.getD 10 false = true → v7 = errV Z.2) ∧ (listed.getD 6 false = true → Li W'.heap.size W' rr Z.1) ∧ (listed.getD 7 false = true → listed.getD 6 false = true) ∧ (listed.getD 8 false = true → listed.getD 6 false = true) ∧ (listed.getD 9 false = true → listed.getD 6 false = true) ∧ (listed.getD 10 false = true → listed.getD 6 false = true)) := ⟨_, fun _ _ _ => Iff.rfl⟩
  have HI := hid hInv
  clear hInv
  refine Free.region hmx (by kernel_rfl) Inv ?s1 ?s2 ?s3
  case s1 =>
    exact (HI.out _ _ _).2 ⟨undef, undef, undef, undef, undef, undef, undef, undef, undef, undef, Value.slice none 0 0, Value.nilIface, rfl, (Below.refl _ _).drew, Free.not_yet, Free.not_yet, Free.not_yet, Free.not_yet, Free.not_yet, Free.not_yet, Free.not_yet, Free.not_yet, Free.not_yet, Free.not_yet, Free.not_yet, Free.not_yet, Free.not_yet, Free.not_yet, Free.not_yet, Free.not_yet⟩
  case s2 =>
    intro i listed aq W1 hix hne hnl hsz hv
    obtain ⟨rr, v8, v9, v10, v11, v12, v13, v14, v15, v16, v6, v7, rfl, hW, l0, l1, l2, l3, l4, l5, l6, l7, l8, l9, l10, lq, ld7, ld8, ld9, ld10⟩ := (HI.out _ _ _).1 hv
    clear hv
    replace hix : i < 11 := hix
    replace hsz : listed.size = 11 := hsz
    rcases (by omega : i = 0 ∨ i = 1 ∨ i = 2 ∨ i = 3 ∨ i = 4 ∨ i = 5 ∨ i = 6 ∨ i = 7 ∨ i = 8 ∨ i = 9 ∨ i = 10) with rfl | rfl | rfl | rfl | rfl | rfl | rfl | rfl | rfl | rfl | rfl
    · have z0 := (hY.step hW).c0
      have z1 := (hY.step hW).c1
      refine Free.op rfl rfl (fun K hK => ?_)
      go_simp
      exact hK _ _ ((HI.out _ _ _).2 ⟨rr, _, v9, v10, v11, v12, v13, v14, v15, v16, v6, v7, rfl, hW, fun _ => rfl, Free.of_set (by decide) l1, Free.of_set (by decide) l2, Free.of_set (by decide) l3, Free.of_set (by decide) l4, Free.of_set (by decide) l5, Free.of_set (by decide) l6, Free.of_set (by decide) l7, Free.of_set (by decide) l8, Free.of_set (by decide) l9, Free.of_set (by decide) l10, Free.of_set (by decide) lq, fun e => Free.fore (by decide) (ld7 (Free.back (by decide) e)), fun e => Free.fore (by decide) (ld8 (Free.back (by decide) e)), fun e => Free.fore (by decide) (ld9 (Free.back (by decide) e)), fun e => Free.fore (by decide) (ld10 (Free.back (by decide) e))⟩)
    · refine Free.op rfl rfl (fun K hK => ?_)
      go_simp
      exact hK _ _ ((HI.out _ _ _).2 ⟨rr, v8, _, v10, v11, v12, v13, v14, v15, v16, v6, v7, rfl, hW, Free.of_set (by decide) l0, fun _ => rfl, Free.of_set (by decide) l2, Free.of_set (by decide) l3, Free.of_set (by decide) l4, Free.of_set (by decide) l5, Free.of_set (by decide) l6, Free.of_set (by decide) l7, Free.of_set (by decide) l8, Free.of_set (by decide) l9, Free.of_set (by decide) l10, Free.of_set (by decide) lq, fun e => Free.fore (by decide) (ld7 (Free.back (by decide) e)), fun e => Free.fore (by decide) (ld8 (Free.back (by decide) e)), fun e => Free.fore (by decide) (ld9 (Free.back (by decide) e)), fun e => Free.fore (by decide) (ld10 (Free.back (by decide) e))⟩)
    · have z := (hV.step hW).c
      refine Free.op rfl rfl (fun K hK => ?_)
      go_simp
      exact hK _ _ ((HI.out _ _ _).2 ⟨rr, v8, v9, _, v11, v12, v13, v14, v15, v16, v6, v7, rfl, hW, Free.of_set (by decide) l0, Free.of_set (by decide) l1, fun _ => rfl, Free.of_set (by decide) l3, Free.of_set (by decide) l4, Free.of_set (by decide) l5, Free.of_set (by decide) l6, Free.of_set (by decide) l7, Free.of_set (by decide) l8, Free.of_set (by decide) l9, Free.of_set (by decide) l10, Free.of_set (by decide) lq, fun e => Free.fore (by decide) (ld7 (Free.back (by decide) e)), fun e => Free.fore (by decide) (ld8 (Free.back (by decide) e)), fun e => Free.fore (by decide) (ld9 (Free.back (by decide) e)), fun e => Free.fore (by decide) (ld10 (Free.back (by decide) e))⟩)
    · refine Free.op rfl rfl (fun K hK => ?_)
      go_simp
      exact hK _ _ ((HI.out _ _ _).2 ⟨rr, v8, v9, v10, _, v12, v13, v14, v15, v16, v6, v7, rfl, hW, Free.of_set (by decide) l0, Free.of_set (by decide) l1, Free.of_set (by decide) l2, fun _ => rfl, Free.of_set (by decide) l4, Free.of_set (by decide) l5, Free.of_set (by decide) l6, Free.of_set (by decide) l7, Free.of_set (by decide) l8, Free.of_set (by decide) l9, Free.of_set (by decide) l10, Free.of_set (by decide) lq, fun e => Free.fore (by decide) (ld7 (Free.back (by decide) e)), fun e => Free.fore (by decide) (ld8 (Free.back (by decide) e)), fun e => Free.fore (by decide) (ld9 (Free.back (by decide) e)), fun e => Free.fore (by decide) (ld10 (Free.back (by decide) e))⟩)
    · refine Free.op rfl rfl (fun K hK => ?_)
      obtain rfl := l2 (hne 2 (by kernel_rfl))
      obtain rfl := l3 (hne 3 (by kernel_rfl))
      go_simp
      exact hK _ _ ((HI.out _ _ _).2 ⟨rr, v8, v9, _, _, _, v13, v14, v15, v16, v6, v7, rfl, hW, Free.of_set (by decide) l0, Free.of_set (by decide) l1, fun _ => rfl, fun _ => rfl, fun _ => rfl, Free.of_set (by decide) l5, Free.of_set (by decide) l6, Free.of_set (by decide) l7, Free.of_set (by decide) l8, Free.of_set (by decide) l9, Free.of_set (by decide) l10, Free.of_set (by decide) lq, fun e => Free.fore (by decide) (ld7 (Free.back (by decide) e)), fun e => Free.fore (by decide) (ld8 (Free.back (by decide) e)), fun e => Free.fore (by decide) (ld9 (Free.back (by decide) e)), fun e => Free.fore (by decide) (ld10 (Free.back (by decide) e))⟩)
    · have z := (hW.cell (p := ⟨b5, o5 + i, none⟩) hlt).trans yq
      refine Free.op rfl rfl (fun K hK => ?_)
      obtain rfl := l4 (hne 4 (by kernel_rfl))
      go_simp
      exact hK _ _ ((HI.out _ _ _).2 ⟨rr, v8, v9, v10, v11, _, _, v14, v15, v16, v6, v7, rfl, hW, Free.of_set (by decide) l0, Free.of_set (by decide) l1, Free.of_set (by decide) l2, Free.of_set (by decide) l3, fun _ => rfl, fun _ => rfl, Free.of_set (by decide) l6, Free.of_set (by decide) l7, Free.of_set (by decide) l8, Free.of_set (by decide) l9, Free.of_set (by decide) l10, Free.of_set (by decide) lq, fun e => Free.fore (by decide) (ld7 (Free.back (by decide) e)), fun e => Free.fore (by decide) (ld8 (Free.back (by decide) e)), fun e => Free.fore (by decide) (ld9 (Free.back (by decide) e)), fun e => Free.fore (by decide) (ld10 (Free.back (by decide) e))⟩)
    · refine Free.op rfl rfl (fun K hK => ?_)
      obtain rfl := l0 (hne 0 (by kernel_rfl))
      obtain rfl := l1 (hne 1 (by kernel_rfl))
      obtain rfl := l5 (hne 5 (by kernel_rfl))
      go_wp2_with (go_at_call 32; refine (HO _ (hf.step hW) (hp.step hW) ((hx.keep hW).wide hW.size) ((hq.keep hW).wide hW.size)).out.mono ?_; rintro e W3 ⟨r, rfl, hq1, hb⟩)
      exact (HI.out _ _ _).2 ⟨_, _, _, v10, v11, v12, _, _, v15, v16, v6, v7, rfl, hW.trans (hb.mono hW.size), fun _ => rfl, fun _ => rfl, Free.of_set (by decide) l2, Free.of_set (by decide) l3, Free.of_set (by decide) l4, fun _ => rfl, fun _ => rfl, Free.never ld7 hnl (by decide), Free.never ld8 hnl (by decide), Free.never ld9 hnl (by decide), Free.never ld10 hnl (by decide), fun _ => hq1, Free.never ld7 hnl (by decide), Free.never ld8 hnl (by decide), Free.never ld9 hnl (by decide), Free.never ld10 hnl (by decide)⟩
    · refine Free.op rfl rfl (fun K hK => ?_)
      obtain rfl := l6 (hne 6 (by kernel_rfl))
      go_simp
      exact hK _ _ ((HI.out _ _ _).2 ⟨rr, v8, v9, v10, v11, v12, v13, _, _, v16, v6, v7, rfl, hW, Free.of_set (by decide) l0, Free.of_set (by decide) l1, Free.of_set (by decide) l2, Free.of_set (by decide) l3, Free.of_set (by decide) l4, Free.of_set (by decide) l5, fun _ => rfl, fun _ => rfl, Free.of_set (by decide) l8, Free.of_set (by decide) l9, Free.of_set (by decide) l10, Free.of_set (by decide) lq, fun _ => Free.fore (by decide) (hne 6 (by kernel_rfl)), fun e => Free.fore (by decide) (ld8 (Free.back (by decide) e)), fun e => Free.fore (by decide) (ld9 (Free.back (by decide) e)), fun e => Free.fore (by decide) (ld10 (Free.back (by decide) e))⟩)
    · refine Free.op rfl rfl (fun K hK => ?_)
      obtain rfl := l6 (hne 6 (by kernel_rfl))
      go_simp
      exact hK _ _ ((HI.out _ _ _).2 ⟨rr, v8, v9, v10, v11, v12, v13, _, v15, _, v6, v7, rfl, hW, Free.of_set (by decide) l0, Free.of_set (by decide) l1, Free.of_set (by decide) l2, Free.of_set (by decide) l3, Free.of_set (by decide) l4, Free.of_set (by decide) l5, fun _ => rfl, Free.of_set (by decide) l7, fun _ => rfl, Free.of_set (by decide) l9, Free.of_set (by decide) l10, Free.of_set (by decide) lq, fun e => Free.fore (by decide) (ld7 (Free.back (by decide) e)), fun _ => Free.fore (by decide) (hne 6 (by kernel_rfl)), fun e => Free.fore (by decide) (ld9 (Free.back (by decide) e)), fun e => Free.fore (by decide) (ld10 (Free.back (by decide) e))⟩)
    · refine Free.op rfl rfl (fun K hK => ?_)
      obtain rfl := (l7 (hne 7 (by kernel_rfl))).symm
      go_simp
      exact hK _ _ ((HI.out _ _ _).2 ⟨rr, v8, v9, v10, v11, v12, v13, v14, _, v16, _, v7, rfl, hW, Free.of_set (by decide) l0, Free.of_set (by decide) l1, Free.of_set (by decide) l2, Free.of_set (by decide) l3, Free.of_set (by decide) l4, Free.of_set (by decide) l5, Free.of_set (by decide) l6, fun _ => rfl, Free.of_set (by decide) l8, fun _ => rfl, Free.of_set (by decide) l10, Free.of_set (by decide) lq, fun e => Free.fore (by decide) (ld7 (Free.back (by decide) e)), fun e => Free.fore (by decide) (ld8 (Free.back (by decide) e)), fun _ => Free.fore (by decide) (ld7 (hne 7 (by kernel_rfl))), fun e => Free.fore (by decide) (ld10 (Free.back (by decide) e))⟩)
    · refine Free.op rfl rfl (fun K hK => ?_)
      obtain rfl := l8 (hne 8 (by kernel_rfl))
      go_simp
      exact hK _ _ ((HI.out _ _ _).2 ⟨rr, v8, v9, v10, v11, v12, v13, v14, v15, _, v6, _, rfl, hW, Free.of_set (by decide) l0, Free.of_set (by decide) l1, Free.of_set (by decide) l2, Free.of_set (by decide) l3, Free.of_set (by decide) l4, Free.of_set (by decide) l5, Free.of_set (by decide) l6, Free.of_set (by decide) l7, fun _ => rfl, Free.of_set (by decide) l9, fun _ => rfl, Free.of_set (by decide) lq, fun e => Free.fore (by decide) (ld7 (Free.back (by decide) e)), fun e => Free.fore (by decide) (ld8 (Free.back (by decide) e)), fun e => Free.fore (by decide) (ld9 (Free.back (by decide) e)), fun _ => Free.fore (by decide) (ld8 (hne 8 (by kernel_rfl)))⟩)
  case s3 =>
    intro listed aq W1 hall hsz hv
    obtain ⟨rr, v8, v9, v10, v11, v12, v13, v14, v15, v16, v6, v7, rfl, hW, l0, l1, l2, l3, l4, l5, l6, l7, l8, l9, l10, lq, ld7, ld8, ld9, ld10⟩ := (HI.out _ _ _).1 hv
    clear hv HI
    obtain rfl := l0 (Free.listed_of hall hsz 0 (by decide))
    obtain rfl := l1 (Free.listed_of hall hsz 1 (by decide))
    obtain rfl := l2 (Free.listed_of hall hsz 2 (by decide))
    obtain rfl := l3 (Free.listed_of hall hsz 3 (by decide))
    obtain rfl := l4 (Free.listed_of hall hsz 4 (by decide))
    obtain rfl := l5 (Free.listed_of hall hsz 5 (by decide))
    obtain rfl := l6 (Free.listed_of hall hsz 6 (by decide))
    obtain rfl := (l7 (Free.listed_of hall hsz 7 (by decide))).symm
    obtain rfl := l8 (Free.listed_of hall hsz 8 (by decide))
    obtain rfl := (l9 (Free.listed_of hall hsz 9 (by decide))).symm
    obtain rfl := l10 (Free.listed_of hall hsz 10 (by decide))
    have hq := lq (Free.listed_of hall hsz 6 (by decide))
    clear lq ld7 ld8 ld9 ld10
    clear hall hsz
    go_wp2
    go_returns
    exact ⟨_, rfl, hq, hW⟩

theorem one_is {s : List (List Um.Tm)} {p b : List (Int × Int)} {Z : List (Int × Int) × Int} (e : Um.ofAll s p b = Z) (v0 v1 v : Value) (i : Int) (B0 : Nat) (w : World) (hf : Lf w.heap.size w v0 s) (hp : Ls w.heap.size w v1 p) (hs : Ls w.heap.size w v b) (hY : SyAt w B0 v0 v1) :
    Calls Tryz.prog 19 #[.int .i64 i, v, .pointer (some ⟨B0, 0, none⟩)] w fun e w' => ∃ r, e = .returned (.tuple #[r, errV Z.2]) ∧ Ls w'.heap.size w' r Z.1 ∧ Below w.heap.size w w' := by
  subst e
  exact runOne_any s v0 p v1 b v i B0 w hf hp hs hY
theorem pone_is {s : List (List Um.Tm)} {p : List (Int × Int)} {x : List Int} {u : List (List Int)} {i : Nat} {Z : List Int × Int} (e : Um.movAll s p x (u[i]?.getD []) = Z) (v0 v1 v t : Value) (B0 B1 : Nat) (w : World) (hf : Lf w.heap.size w v0 s) (hp : Ls w.heap.size w v1 p) (hx : Li w.heap.size w v x) (hu : Ll w.heap.size w t u) (hY : SyAt w B0 v0 v1) (hV : VaAt w B1 t) (hi : i < u.length) :
    Calls Tryz.prog 31 #[.int .i64 (i : Int), v, .pointer (some ⟨B0, 0, none⟩), .pointer (some ⟨B1, 0, none⟩)] w fun e w' => ∃ r, e = .returned (.tuple #[r, errV Z.2]) ∧ Li w'.heap.size w' r Z.1 ∧ Below w.heap.size w w' := by
  subst e
  exact pathOne_any s v0 p v1 x v u t i B0 B1 w hf hp hx hu hY hV hi
theorem tube_next {s : List (List Um.Tm)} {p b : List (Int × Int)} (h : Um.readyF s p b = 0) {k : Nat} (hz : (Um.tubeN s p b k).2 = 0) : Um.ofAll s p (Um.tubeN s p b k).1 = Um.tubeN s p b (k + 1) := by
  rw [Um.ofAll_yes (Um.tube_ready h hz), Um.tube_succ, if_pos hz]
theorem tube_stop {s : List (List Um.Tm)} {p b : List (Int × Int)} (h : Um.readyF s p b = 0) {k n : Nat} (hk : k ≤ n) (hn : n ≤ 20) (hz : ¬ (Um.tubeN s p b k).2 = 0) : Um.tubeAll s p b n = ([], (Um.tubeN s p b k).2) := by
  rw [Um.tubeAll_full hn h (Um.tube_bad hk hz), (Um.tube_four s p b k).resolve_left hz]
theorem path_next {s : List (List Um.Tm)} {p : List (Int × Int)} {x : List Int} {u : List (List Int)} {k : Nat} (hz : (Um.pathN s p x u k).2 = 0) : Um.movAll s p (Um.pathN s p x u k).1 (u[k]?.getD []) = Um.pathN s p x u (k + 1) := by
  rw [Um.path_succ, if_pos hz]
theorem path_stop {s : List (List Um.Tm)} {p : List (Int × Int)} {x : List Int} {u : List (List Int)} (h : Um.pathF s p x u = 0) {k : Nat} (hk : k ≤ u.length) (hz : ¬ (Um.pathN s p x u k).2 = 0) : Um.pathAll s p x u = ([], (Um.pathN s p x u k).2) := by
  have e := Um.path_stay hz hk
  unfold Um.pathAll
  rw [if_pos h, e, if_neg hz]
theorem path_all {s : List (List Um.Tm)} {p : List (Int × Int)} {x : List Int} {u : List (List Int)} (h : Um.pathF s p x u = 0) (hz : (Um.pathN s p x u u.length).2 = 0) : Um.pathAll s p x u = (Um.paths s p x u (u.length + 1), 0) := by
  unfold Um.pathAll
  rw [if_pos h, if_pos hz]

set_option maxRecDepth 100000 in
set_option maxHeartbeats 16000000 in
theorem walkS_any (s : List (List Um.Tm)) (v0 : Value) (p : List (Int × Int)) (v1 : Value) (b : List (Int × Int)) (v : Value) (n B0 : Nat) (w : World) (hf : Lf w.heap.size w v0 s) (hp : Ls w.heap.size w v1 p) (hs : Ls w.heap.size w v b) (hY : SyAt w B0 v0 v1) (h : Um.readyF s p b = 0) (hn : n ≤ 20) :
    Calls Tryz.prog 18 #[v, .int .i64 (n : Int), .func (.func 19) #[] #[.pointer (some ⟨B0, 0, none⟩)]] w fun e w' => ∃ r, e = .returned (.tuple #[r, errV (Um.tubeAll s p b n).2]) ∧ Lb w'.heap.size w' r (Um.tubeAll s p b n).1 ∧ Below w.heap.size w w' := by
  have ve := errV_none
  have q1 := errG
  have q2 := errGn
  have q3 := errE
  have q4 := errN
  have hb3 := Um.box_len (Um.ready_ok.1 h).2.1
  obtain ⟨a2, cap2, rfl, -⟩ := (id hs)
  have HC := fun w h => hid (clone_any b (.slice a2 b.length cap2) w h hb3.1 hb3.2)
  have HO0 := fun (k : Nat) (hz : (Um.tubeN s p b k).2 = 0) vq w h1 h2 h3 h4 => hid (one_is (tube_next h hz) v0 v1 vq (k : Int) B0 w h1 h2 h3 h4)
  obtain ⟨i0, hi0, hz0, hz1, hz2⟩ := info_parts info_boxes
  go_enter Tryz.func18, Tryz.ntmps18
  go_wp2_with (first | (at_make; refine wpList_make_full _ rfl _ _ 28 rfl w.heap.size 23 i0 (.slice none 0 0) 1 Tryz.underlying28 hi0 hz0 hz1 .i64 .i64 _ _ (n + 1) rfl rfl (by first | rfl | omega) (by first | rfl | omega) (by rw [hz2]; omega) (by unfold maxLen; omega) (by simp) ?_; intro w0 hown hgrow; have hR := RowLs.start hgrow hown; clear hown hgrow) | (go_at_call 37; refine (HC _ (hs.step hR.below)).out.mono ?_; rintro e wn ⟨⟨g, cg, rfl, hO⟩, hb⟩; replace hR := hR.step hb; replace hO := hO.ls; have y1 := hR.free 0; obtain ⟨e1, e2, e3, y3⟩ := hR.old (k := 0) (by omega); clear hb HC))
  replace hR := hR.put (k := 0) rfl (by omega) hO
  clear hO y1 y3
  go_loopw [20] (fun i wr => ∃ k : Nat, k ≤ n ∧ i = .int .i64 k ∧ RowLs w (n + 1) w.heap.size wr (Um.tubes s p b (k + 1)) ∧ Hid ((Um.tubeN s p b k).2 = 0)) (fun i _ => n - (intOf i).toNat)
  case atStart => exact ⟨0, Nat.zero_le _, rfl, hR, rfl⟩
  case round =>
    clear hR
    obtain ⟨k, hk, rfl, hR, hZ⟩ := hrel
    by_cases hkl : k < n
    · have hkk : (k : Int) < (n : Int) := by omega
      obtain ⟨vk, yk, hvk⟩ := hR.at (k := k) (by rw [Um.tubes_length]; omega)
      rw [Um.tubes_get (by omega)] at hvk
      obtain ⟨a5, c5, rfl, -⟩ := (id hvk)
      have HO := HO0 k hZ.out (.slice a5 (Um.tubeN s p b k).1.length c5)
      have HLN : Hid (k + 1 = (Um.tubes s p b (k + 1)).length) := hid (by rw [Um.tubes_length])
      have HB := fun hz9 => hid (tube_stop h (show k + 1 ≤ n by omega) hn hz9)
      have HS2 := hid (Um.tubes_succ s p b (k + 1))
      clear HO0 hZ
      generalize e9 : Um.tubeN s p b (k + 1) = A at HO HB HS2
      replace e9 := hid e9
      generalize (Um.tubeN s p b k).1 = Q at *
      by_cases hc : A.2 = 0
      · have kc : (A.2 != 0) = false := by simpa using hc
        have HZ2 := hid hc
        clear HB hc
        go_wp2_with (go_at_call 19; refine (HO _ (hf.step hR.below) (hp.step hR.below) hvk (hY.step hR.below)).out.mono ?_; rintro e wn ⟨r, rfl, hr, hb⟩; replace hR := hR.step hb; obtain ⟨a9, c9, rfl, -⟩ := (id hr); clear hb HO hvk yk; have y1 := hR.free (k + 1); obtain ⟨e1, e2, e3, y3⟩ := hR.old (k := k + 1) (by omega))
        exact ⟨⟨k + 1, by omega, by simp, by rw [HS2.out]; exact hR.put HLN.out (by omega) hr, by rw [e9.out]; exact HZ2.out⟩, by simp [intOf]; omega⟩
      · have kc : (A.2 != 0) = true := by simpa using hc
        have HM := HB hc
        clear HB hc HS2
        go_wp2_with (go_at_call 19; refine (HO _ (hf.step hR.below) (hp.step hR.below) hvk (hY.step hR.below)).out.mono ?_; rintro e wn ⟨r, rfl, hr, hb⟩; replace hR := hR.step hb; obtain ⟨a9, c9, rfl, -⟩ := (id hr); clear hb HO hvk yk)
        go_returns
        rw [HM.out]
        exact ⟨_, rfl, Lb.nil _ _, hR.below⟩
    · obtain rfl : k = n := by omega
      have HA := hid (hR.all (by rw [Um.tubes_length]))
      have HB := hid hR.below
      have HZ := hid (Um.tubeAll_yes hn h hZ.out)
      clear hR hZ HO0
      go_wp2
      go_returns
      rw [HZ.out]
      refine ⟨_, ?_, HA.out, HB.out⟩
      show _ = Ending.returned (Value.tuple #[_, errV 0])
      rw [errV_none]
      rfl

set_option maxRecDepth 100000 in
set_option maxHeartbeats 16000000 in
theorem walkI_any (s : List (List Um.Tm)) (v0 : Value) (p : List (Int × Int)) (v1 : Value) (x : List Int) (v : Value) (u : List (List Int)) (t : Value) (B0 B1 : Nat) (w : World) (hf : Lf w.heap.size w v0 s) (hp : Ls w.heap.size w v1 p) (hx : Li w.heap.size w v x) (hu : Ll w.heap.size w t u) (hY : SyAt w B0 v0 v1) (hV : VaAt w B1 t) (h : Um.pathF s p x u = 0) :
    Calls Tryz.prog 30 #[v, .int .i64 (u.length : Int), .func (.func 31) #[] #[.pointer (some ⟨B0, 0, none⟩), .pointer (some ⟨B1, 0, none⟩)]] w fun e w' => ∃ r, e = .returned (.tuple #[r, errV (Um.pathAll s p x u).2]) ∧ Ll w'.heap.size w' r (Um.pathAll s p x u).1 ∧ Below w.heap.size w w' := by
  have ve := errV_none
  have q1 := errG
  have q2 := errGn
  have q3 := errE
  have q4 := errN
  obtain ⟨hu20, hsy, hxl⟩ := Um.pathF_ok.1 h
  obtain ⟨hs0, hs3, -⟩ := Um.sys_ok.1 hsy
  have hx0 : 0 < x.length := by rw [hxl]; exact List.length_pos_iff.2 hs0
  have hx3 : x.length ≤ 3 := by omega
  obtain ⟨a2, cap2, rfl, -⟩ := (id hx)
  have HC := fun w h => hid (clone_ints x (.slice a2 x.length cap2) w h hx0 hx3)
  have HO0 := fun (k : Nat) (hz : (Um.pathN s p x u k).2 = 0) hi vq w h1 h2 h3 h4 h5 h6 => hid (pone_is (path_next hz) v0 v1 vq t B0 B1 w h1 h2 h3 h4 h5 h6 hi)
  clear hxl hsy hs0
  obtain ⟨i0, hi0, hz0, hz1, hz2⟩ := info_parts info_lists
  go_enter Tryz.func30, Tryz.ntmps30
  go_wp2_with (first | (at_make; refine wpList_make_full _ rfl _ _ 27 rfl w.heap.size 26 i0 (.slice none 0 0) 1 Tryz.underlying27 hi0 hz0 hz1 .i64 .i64 _ _ (u.length + 1) rfl rfl (by first | rfl | omega) (by first | rfl | omega) (by rw [hz2]; omega) (by unfold maxLen; omega) (by simp) ?_; intro w0 hown hgrow; have hR := RowLi.start hgrow hown; clear hown hgrow) | (go_at_call 49; refine (HC _ ((hx.keep hR.below).wide hR.below.size)).out.mono ?_; rintro e wn ⟨g1, g2, g3, rfl, hO, hb⟩; replace hR := hR.step hb; have y1 := hR.free 0; obtain ⟨e1, e2, e3, y3⟩ := hR.old (k := 0) (by omega); clear hb HC))
  replace hR := hR.put (k := 0) rfl (by omega) hO
  clear hO y1 y3
  go_loopw [20] (fun i wr => ∃ k : Nat, k ≤ u.length ∧ i = .int .i64 k ∧ RowLi w (u.length + 1) w.heap.size wr (Um.paths s p x u (k + 1)) ∧ Hid ((Um.pathN s p x u k).2 = 0)) (fun i _ => u.length - (intOf i).toNat)
  case atStart => exact ⟨0, Nat.zero_le _, rfl, hR, rfl⟩
  case round =>
    clear hR
    obtain ⟨k, hk, rfl, hR, hZ⟩ := hrel
    by_cases hkl : k < u.length
    · have hkk : (k : Int) < (u.length : Int) := by omega
      obtain ⟨vk, yk, hvk⟩ := hR.at (k := k) (by rw [Um.paths_length]; omega)
      rw [Um.paths_get (by omega)] at hvk
      obtain ⟨a5, c5, rfl, -⟩ := (id hvk)
      have HO := HO0 k hZ.out hkl (.slice a5 (Um.pathN s p x u k).1.length c5)
      have HLN : Hid (k + 1 = (Um.paths s p x u (k + 1)).length) := hid (by rw [Um.paths_length])
      have HB := fun hz9 => hid (path_stop h (show k + 1 ≤ u.length by omega) hz9)
      have HS2 := hid (Um.paths_succ s p x u (k + 1))
      clear HO0 hZ
      generalize e9 : Um.pathN s p x u (k + 1) = A at HO HB HS2
      replace e9 := hid e9
      generalize (Um.pathN s p x u k).1 = Q at *
      by_cases hc : A.2 = 0
      · have kc : (A.2 != 0) = false := by simpa using hc
        have HZ2 := hid hc
        clear HB hc
        go_wp2_with (go_at_call 31; refine (HO _ (hf.step hR.below) (hp.step hR.below) hvk (hu.step hR.below) (hY.step hR.below) (hV.step hR.below)).out.mono ?_; rintro e wn ⟨r, rfl, hr, hb⟩; replace hR := hR.step hb; obtain ⟨a9, c9, rfl, -⟩ := (id hr); clear hb HO hvk yk; have y1 := hR.free (k + 1); obtain ⟨e1, e2, e3, y3⟩ := hR.old (k := k + 1) (by omega))
        exact ⟨⟨k + 1, by omega, by simp, by rw [HS2.out]; exact hR.put HLN.out (by omega) hr, by rw [e9.out]; exact HZ2.out⟩, by simp [intOf]; omega⟩
      · have kc : (A.2 != 0) = true := by simpa using hc
        have HM := HB hc
        clear HB hc HS2
        go_wp2_with (go_at_call 31; refine (HO _ (hf.step hR.below) (hp.step hR.below) hvk (hu.step hR.below) (hY.step hR.below) (hV.step hR.below)).out.mono ?_; rintro e wn ⟨r, rfl, hr, hb⟩; replace hR := hR.step hb; obtain ⟨a9, c9, rfl, -⟩ := (id hr); clear hb HO hvk yk)
        go_returns
        rw [HM.out]
        exact ⟨_, rfl, Ll.nil _ _, hR.below⟩
    · obtain rfl : k = u.length := by omega
      have HA := hid (hR.all (by rw [Um.paths_length]))
      have HB := hid hR.below
      have HZ := hid (path_all h hZ.out)
      clear hR hZ HO0
      go_wp2
      go_returns
      rw [HZ.out]
      refine ⟨_, ?_, HA.out, HB.out⟩
      show _ = Ending.returned (Value.tuple #[_, errV 0])
      rw [errV_none]
      rfl

set_option maxRecDepth 100000 in
set_option maxHeartbeats 8000000 in
theorem frun_low (s : List (List Um.Tm)) (v0 : Value) (p : List (Int × Int)) (v1 : Value) (b : List (Int × Int)) (v : Value) (n : Int) (w : World) (hf : Lf w.heap.size w v0 s) (hp : Ls w.heap.size w v1 p) (hs : Ls w.heap.size w v b) (h : n < 0) :
    Calls Tryz.prog 5 #[.agg #[v0, v1], v, .int .i64 n] w fun e w' => ∃ r, e = .returned (.tuple #[r, errV (Um.tubeAll s p b n).2]) ∧ Lb w'.heap.size w' r (Um.tubeAll s p b n).1 ∧ Below w.heap.size w w' := by
  have ve := errV_none
  have q1 := errG
  have q2 := errGn
  have q3 := errE
  have q4 := errN
  obtain ⟨a0, cap0, rfl, -⟩ := (id hf)
  obtain ⟨a1, cap1, rfl, -⟩ := (id hp)
  obtain ⟨a2, cap2, rfl, -⟩ := (id hs)
  have hY := SyAt.new w (.slice a0 s.length cap0) (.slice a1 p.length cap1) 25 rfl
  have hBW : Below w.heap.size w (w.alloc (.cells #[.slice a0 s.length cap0, .slice a1 p.length cap1] 25)) := by go_grown
  have y0 := hY.c0
  have y1 := hY.c1
  replace hf := hf.step hBW
  replace hp := hp.step hBW
  replace hs := hs.step hBW
  have HV := fun w hf hp hs => hid (sover_any s (.slice a0 s.length cap0) p (.slice a1 p.length cap1) b (.slice a2 b.length cap2) w hf hp hs)
  have kR : decide (n < 0) = true := by simpa using h
  have HM : Hid (Um.tubeAll s p b n = ([], 1)) := hid (Um.tubeAll_range (by omega))
  clear h hY HV
  go_enter Tryz.func5, Tryz.ntmps5
  go_wp2
  go_returns
  rw [HM.out]
  exact ⟨_, rfl, Lb.nil _ _, hBW⟩

set_option maxRecDepth 100000 in
set_option maxHeartbeats 8000000 in
theorem frun_high (s : List (List Um.Tm)) (v0 : Value) (p : List (Int × Int)) (v1 : Value) (b : List (Int × Int)) (v : Value) (n : Int) (w : World) (hf : Lf w.heap.size w v0 s) (hp : Ls w.heap.size w v1 p) (hs : Ls w.heap.size w v b) (h : ¬ n < 0) (h2 : 20 < n) :
    Calls Tryz.prog 5 #[.agg #[v0, v1], v, .int .i64 n] w fun e w' => ∃ r, e = .returned (.tuple #[r, errV (Um.tubeAll s p b n).2]) ∧ Lb w'.heap.size w' r (Um.tubeAll s p b n).1 ∧ Below w.heap.size w w' := by
  have ve := errV_none
  have q1 := errG
  have q2 := errGn
  have q3 := errE
  have q4 := errN
  obtain ⟨a0, cap0, rfl, -⟩ := (id hf)
  obtain ⟨a1, cap1, rfl, -⟩ := (id hp)
  obtain ⟨a2, cap2, rfl, -⟩ := (id hs)
  have hY := SyAt.new w (.slice a0 s.length cap0) (.slice a1 p.length cap1) 25 rfl
  have hBW : Below w.heap.size w (w.alloc (.cells #[.slice a0 s.length cap0, .slice a1 p.length cap1] 25)) := by go_grown
  have y0 := hY.c0
  have y1 := hY.c1
  replace hf := hf.step hBW
  replace hp := hp.step hBW
  replace hs := hs.step hBW
  have HV := fun w hf hp hs => hid (sover_any s (.slice a0 s.length cap0) p (.slice a1 p.length cap1) b (.slice a2 b.length cap2) w hf hp hs)
  have kR : decide (n < 0) = false := by simpa using h
  have kS : decide (20 < n) = true := by simpa using h2
  have HM : Hid (Um.tubeAll s p b n = ([], 1)) := hid (Um.tubeAll_range (by omega))
  clear h h2 hY HV
  go_enter Tryz.func5, Tryz.ntmps5
  go_wp2
  go_returns
  rw [HM.out]
  exact ⟨_, rfl, Lb.nil _ _, hBW⟩

set_option maxRecDepth 100000 in
set_option maxHeartbeats 8000000 in
theorem frun_not (s : List (List Um.Tm)) (v0 : Value) (p : List (Int × Int)) (v1 : Value) (b : List (Int × Int)) (v : Value) (n : Int) (w : World) (hf : Lf w.heap.size w v0 s) (hp : Ls w.heap.size w v1 p) (hs : Ls w.heap.size w v b) (hn : 0 ≤ n ∧ n ≤ 20) (h : ¬ Um.readyF s p b = 0) :
    Calls Tryz.prog 5 #[.agg #[v0, v1], v, .int .i64 n] w fun e w' => ∃ r, e = .returned (.tuple #[r, errV (Um.tubeAll s p b n).2]) ∧ Lb w'.heap.size w' r (Um.tubeAll s p b n).1 ∧ Below w.heap.size w w' := by
  have ve := errV_none
  have q1 := errG
  have q2 := errGn
  have q3 := errE
  have q4 := errN
  obtain ⟨a0, cap0, rfl, -⟩ := (id hf)
  obtain ⟨a1, cap1, rfl, -⟩ := (id hp)
  obtain ⟨a2, cap2, rfl, -⟩ := (id hs)
  have hY := SyAt.new w (.slice a0 s.length cap0) (.slice a1 p.length cap1) 25 rfl
  have hBW : Below w.heap.size w (w.alloc (.cells #[.slice a0 s.length cap0, .slice a1 p.length cap1] 25)) := by go_grown
  have y0 := hY.c0
  have y1 := hY.c1
  replace hf := hf.step hBW
  replace hp := hp.step hBW
  replace hs := hs.step hBW
  have HV := fun w hf hp hs => hid (sover_any s (.slice a0 s.length cap0) p (.slice a1 p.length cap1) b (.slice a2 b.length cap2) w hf hp hs)
  have kR : decide (n < 0) = false := decide_eq_false (by omega)
  have kS : decide (20 < n) = false := decide_eq_false (by omega)
  have HM := hid (Um.tubeAll_not hn h)
  have kG : (Um.readyF s p b != 0) = true := by simpa using h
  clear h hn
  generalize Um.readyF s p b = G at *
  go_enter Tryz.func5, Tryz.ntmps5
  go_wp2_with (go_at_call 17; refine (HV _ hf hp hs).out.mono ?_; rintro e wn ⟨rfl, hb⟩; replace hf := hf.step hb; replace hp := hp.step hb; replace hs := hs.step hb; replace hY := hY.step hb; have hB := hBW.trans (hb.mono hBW.size); clear hb HV hBW y0 y1)
  go_returns
  rw [HM.out]
  exact ⟨_, rfl, Lb.nil _ _, hB⟩

set_option maxRecDepth 100000 in
set_option maxHeartbeats 8000000 in
theorem frun_yes (s : List (List Um.Tm)) (v0 : Value) (p : List (Int × Int)) (v1 : Value) (b : List (Int × Int)) (v : Value) (n : Nat) (w : World) (hf : Lf w.heap.size w v0 s) (hp : Ls w.heap.size w v1 p) (hs : Ls w.heap.size w v b) (hn : n ≤ 20) (h : Um.readyF s p b = 0) :
    Calls Tryz.prog 5 #[.agg #[v0, v1], v, .int .i64 (n : Int)] w fun e w' => ∃ r, e = .returned (.tuple #[r, errV (Um.tubeAll s p b n).2]) ∧ Lb w'.heap.size w' r (Um.tubeAll s p b n).1 ∧ Below w.heap.size w w' := by
  have ve := errV_none
  have q1 := errG
  have q2 := errGn
  have q3 := errE
  have q4 := errN
  obtain ⟨a0, cap0, rfl, -⟩ := (id hf)
  obtain ⟨a1, cap1, rfl, -⟩ := (id hp)
  obtain ⟨a2, cap2, rfl, -⟩ := (id hs)
  have hY := SyAt.new w (.slice a0 s.length cap0) (.slice a1 p.length cap1) 25 rfl
  have hBW : Below w.heap.size w (w.alloc (.cells #[.slice a0 s.length cap0, .slice a1 p.length cap1] 25)) := by go_grown
  have y0 := hY.c0
  have y1 := hY.c1
  replace hf := hf.step hBW
  replace hp := hp.step hBW
  replace hs := hs.step hBW
  have HV := fun w hf hp hs => hid (sover_any s (.slice a0 s.length cap0) p (.slice a1 p.length cap1) b (.slice a2 b.length cap2) w hf hp hs)
  have kR : decide ((n : Int) < 0) = false := decide_eq_false (by omega)
  have kS : decide (20 < (n : Int)) = false := decide_eq_false (by omega)
  have HE := fun wz hf hp hs hY => hid (walkS_any s (.slice a0 s.length cap0) p (.slice a1 p.length cap1) b (.slice a2 b.length cap2) n w.heap.size wz hf hp hs hY h hn)
  have kG : (Um.readyF s p b != 0) = false := by simpa using h
  clear h hn
  generalize Um.readyF s p b = G at *
  generalize Um.tubeAll s p b n = O at *
  go_enter Tryz.func5, Tryz.ntmps5
  go_wp2_with (first | (go_at_call 17; refine (HV _ hf hp hs).out.mono ?_; rintro e wn ⟨rfl, hb⟩; replace hf := hf.step hb; replace hp := hp.step hb; replace hs := hs.step hb; replace hY := hY.step hb; have hB := hBW.trans (hb.mono hBW.size); clear hb HV hBW y0 y1) | (go_at_call 18; refine (HE _ hf hp hs hY).out.mono ?_; rintro e wm ⟨r, rfl, hr, hb⟩; replace hB := hB.trans (hb.mono hB.size); obtain ⟨a9, c9, rfl, -⟩ := (id hr); clear hb hf hp hs hY))
  go_returns
  exact ⟨_, rfl, hr, hB⟩

theorem flRun_any (s : List (List Um.Tm)) (v0 : Value) (p : List (Int × Int)) (v1 : Value) (b : List (Int × Int)) (v : Value) (n : Int) (w : World) (hf : Lf w.heap.size w v0 s) (hp : Ls w.heap.size w v1 p) (hs : Ls w.heap.size w v b) :
    Calls Tryz.prog 5 #[.agg #[v0, v1], v, .int .i64 n] w fun e w' => ∃ r, e = .returned (.tuple #[r, errV (Um.tubeAll s p b n).2]) ∧ Lb w'.heap.size w' r (Um.tubeAll s p b n).1 ∧ Below w.heap.size w w' := by
  by_cases h : n < 0
  · exact frun_low s v0 p v1 b v n w hf hp hs h
  · by_cases h2 : 20 < n
    · exact frun_high s v0 p v1 b v n w hf hp hs h h2
    · by_cases h3 : Um.readyF s p b = 0
      · obtain ⟨k, rfl⟩ : ∃ k : Nat, n = k := ⟨n.toNat, by omega⟩
        exact frun_yes s v0 p v1 b v k w hf hp hs (by omega) h3
      · exact frun_not s v0 p v1 b v n w hf hp hs (by omega) h3

set_option maxRecDepth 100000 in
set_option maxHeartbeats 8000000 in
theorem fpath_many (s : List (List Um.Tm)) (v0 : Value) (p : List (Int × Int)) (v1 : Value) (x : List Int) (v : Value) (u : List (List Int)) (t : Value) (w : World) (hf : Lf w.heap.size w v0 s) (hp : Ls w.heap.size w v1 p) (hx : Li w.heap.size w v x) (hu : Ll w.heap.size w t u) (h : 20 < u.length) :
    Calls Tryz.prog 13 #[.agg #[v0, v1], v, t] w fun e w' => ∃ r, e = .returned (.tuple #[r, errV (Um.pathAll s p x u).2]) ∧ Ll w'.heap.size w' r (Um.pathAll s p x u).1 ∧ Below w.heap.size w w' := by
  have ve := errV_none
  have q1 := errG
  have q2 := errGn
  have q3 := errE
  have q4 := errN
  obtain ⟨a0, cap0, rfl, -⟩ := (id hf)
  obtain ⟨a1, cap1, rfl, -⟩ := (id hp)
  obtain ⟨a2, cap2, rfl, -⟩ := (id hx)
  obtain ⟨a4, cap4, rfl, -⟩ := (id hu)
  have hY := (SyAt.new w (.slice a0 s.length cap0) (.slice a1 p.length cap1) 25 rfl).alloc (.cells #[.slice a4 u.length cap4] 27)
  have hV := VaAt.new (w.alloc (.cells #[.slice a0 s.length cap0, .slice a1 p.length cap1] 25)) (.slice a4 u.length cap4) 27 (B := w.heap.size + 1) (by simp)
  have hBW : Below w.heap.size w ((w.alloc (.cells #[.slice a0 s.length cap0, .slice a1 p.length cap1] 25)).alloc (.cells #[.slice a4 u.length cap4] 27)) := by go_grown
  have y0 := hY.c0
  have y1 := hY.c1
  have y2 := hV.c
  replace hf := hf.step hBW
  replace hp := hp.step hBW
  replace hx := (hx.keep hBW).wide hBW.size
  replace hu := hu.step hBW
  have HV := fun w hf hp => hid (scheck_any s (.slice a0 s.length cap0) p (.slice a1 p.length cap1) w hf hp)
  have kR : decide (20 < (u.length : Int)) = true := by simp; omega
  have HM : Hid (Um.pathAll s p x u = ([], 4)) := by
    have e : Um.pathF s p x u = 4 := by unfold Um.pathF; rw [if_pos h]
    unfold Um.pathAll
    rw [e, if_neg (by decide)]
    exact hid rfl
  clear h hY HV hV
  go_enter Tryz.func13, Tryz.ntmps13
  go_wp2
  go_returns
  rw [HM.out]
  exact ⟨_, rfl, Ll.nil _ _, hBW⟩

set_option maxRecDepth 100000 in
set_option maxHeartbeats 8000000 in
theorem fpath_sys (s : List (List Um.Tm)) (v0 : Value) (p : List (Int × Int)) (v1 : Value) (x : List Int) (v : Value) (u : List (List Int)) (t : Value) (w : World) (hf : Lf w.heap.size w v0 s) (hp : Ls w.heap.size w v1 p) (hx : Li w.heap.size w v x) (hu : Ll w.heap.size w t u) (h : ¬ 20 < u.length) (h2 : ¬ Um.sysF s p = 0) :
    Calls Tryz.prog 13 #[.agg #[v0, v1], v, t] w fun e w' => ∃ r, e = .returned (.tuple #[r, errV (Um.pathAll s p x u).2]) ∧ Ll w'.heap.size w' r (Um.pathAll s p x u).1 ∧ Below w.heap.size w w' := by
  have ve := errV_none
  have q1 := errG
  have q2 := errGn
  have q3 := errE
  have q4 := errN
  obtain ⟨a0, cap0, rfl, -⟩ := (id hf)
  obtain ⟨a1, cap1, rfl, -⟩ := (id hp)
  obtain ⟨a2, cap2, rfl, -⟩ := (id hx)
  obtain ⟨a4, cap4, rfl, -⟩ := (id hu)
  have hY := (SyAt.new w (.slice a0 s.length cap0) (.slice a1 p.length cap1) 25 rfl).alloc (.cells #[.slice a4 u.length cap4] 27)
  have hV := VaAt.new (w.alloc (.cells #[.slice a0 s.length cap0, .slice a1 p.length cap1] 25)) (.slice a4 u.length cap4) 27 (B := w.heap.size + 1) (by simp)
  have hBW : Below w.heap.size w ((w.alloc (.cells #[.slice a0 s.length cap0, .slice a1 p.length cap1] 25)).alloc (.cells #[.slice a4 u.length cap4] 27)) := by go_grown
  have y0 := hY.c0
  have y1 := hY.c1
  have y2 := hV.c
  replace hf := hf.step hBW
  replace hp := hp.step hBW
  replace hx := (hx.keep hBW).wide hBW.size
  replace hu := hu.step hBW
  have HV := fun w hf hp => hid (scheck_any s (.slice a0 s.length cap0) p (.slice a1 p.length cap1) w hf hp)
  have kR : decide (20 < (u.length : Int)) = false := by simp; omega
  have HM : Hid (Um.pathAll s p x u = ([], Um.sysF s p)) := by
    have e : Um.pathF s p x u = Um.sysF s p := by unfold Um.pathF; rw [if_neg h, if_neg h2]
    unfold Um.pathAll
    rw [e, if_neg h2]
    exact hid rfl
  have kG : (Um.sysF s p != 0) = true := by simpa using h2
  clear h h2
  generalize Um.sysF s p = G at *
  go_enter Tryz.func13, Tryz.ntmps13
  go_wp2_with (go_at_call 29; refine (HV _ hf hp).out.mono ?_; rintro e wn ⟨rfl, hb⟩; replace hf := hf.step hb; replace hp := hp.step hb; replace hx := (hx.keep hb).wide hb.size; replace hu := hu.step hb; replace hY := hY.step hb; replace hV := hV.step hb; have y0 := hY.c0; have y2 := hV.c; have hB := hBW.trans (hb.mono hBW.size); clear hb HV hBW)
  go_returns
  rw [HM.out]
  exact ⟨_, rfl, Ll.nil _ _, hB⟩

set_option maxRecDepth 100000 in
set_option maxHeartbeats 8000000 in
theorem fpath_shape (s : List (List Um.Tm)) (v0 : Value) (p : List (Int × Int)) (v1 : Value) (x : List Int) (v : Value) (u : List (List Int)) (t : Value) (w : World) (hf : Lf w.heap.size w v0 s) (hp : Ls w.heap.size w v1 p) (hx : Li w.heap.size w v x) (hu : Ll w.heap.size w t u) (h : ¬ 20 < u.length) (h2 : Um.sysF s p = 0) (h3 : ¬ x.length = s.length) :
    Calls Tryz.prog 13 #[.agg #[v0, v1], v, t] w fun e w' => ∃ r, e = .returned (.tuple #[r, errV (Um.pathAll s p x u).2]) ∧ Ll w'.heap.size w' r (Um.pathAll s p x u).1 ∧ Below w.heap.size w w' := by
  have ve := errV_none
  have q1 := errG
  have q2 := errGn
  have q3 := errE
  have q4 := errN
  obtain ⟨a0, cap0, rfl, -⟩ := (id hf)
  obtain ⟨a1, cap1, rfl, -⟩ := (id hp)
  obtain ⟨a2, cap2, rfl, -⟩ := (id hx)
  obtain ⟨a4, cap4, rfl, -⟩ := (id hu)
  have hY := (SyAt.new w (.slice a0 s.length cap0) (.slice a1 p.length cap1) 25 rfl).alloc (.cells #[.slice a4 u.length cap4] 27)
  have hV := VaAt.new (w.alloc (.cells #[.slice a0 s.length cap0, .slice a1 p.length cap1] 25)) (.slice a4 u.length cap4) 27 (B := w.heap.size + 1) (by simp)
  have hBW : Below w.heap.size w ((w.alloc (.cells #[.slice a0 s.length cap0, .slice a1 p.length cap1] 25)).alloc (.cells #[.slice a4 u.length cap4] 27)) := by go_grown
  have y0 := hY.c0
  have y1 := hY.c1
  have y2 := hV.c
  replace hf := hf.step hBW
  replace hp := hp.step hBW
  replace hx := (hx.keep hBW).wide hBW.size
  replace hu := hu.step hBW
  have HV := fun w hf hp => hid (scheck_any s (.slice a0 s.length cap0) p (.slice a1 p.length cap1) w hf hp)
  have kR : decide (20 < (u.length : Int)) = false := by simp; omega
  have HM : Hid (Um.pathAll s p x u = ([], 3)) := by
    have e : Um.pathF s p x u = 3 := by unfold Um.pathF; rw [if_neg h, if_pos h2, if_neg h3]
    unfold Um.pathAll
    rw [e, if_neg (by decide)]
    exact hid rfl
  have kG : (Um.sysF s p != 0) = false := by simpa using h2
  have kL : ((x.length : Int) != (s.length : Int)) = true := by simpa using fun e => h3 (by omega)
  clear h h2 h3
  generalize Um.sysF s p = G at *
  go_enter Tryz.func13, Tryz.ntmps13
  go_wp2_with (go_at_call 29; refine (HV _ hf hp).out.mono ?_; rintro e wn ⟨rfl, hb⟩; replace hf := hf.step hb; replace hp := hp.step hb; replace hx := (hx.keep hb).wide hb.size; replace hu := hu.step hb; replace hY := hY.step hb; replace hV := hV.step hb; have y0 := hY.c0; have y2 := hV.c; have hB := hBW.trans (hb.mono hBW.size); clear hb HV hBW)
  go_returns
  rw [HM.out]
  exact ⟨_, rfl, Ll.nil _ _, hB⟩

set_option maxRecDepth 100000 in
set_option maxHeartbeats 8000000 in
theorem fpath_yes (s : List (List Um.Tm)) (v0 : Value) (p : List (Int × Int)) (v1 : Value) (x : List Int) (v : Value) (u : List (List Int)) (t : Value) (w : World) (hf : Lf w.heap.size w v0 s) (hp : Ls w.heap.size w v1 p) (hx : Li w.heap.size w v x) (hu : Ll w.heap.size w t u) (h : Um.pathF s p x u = 0) :
    Calls Tryz.prog 13 #[.agg #[v0, v1], v, t] w fun e w' => ∃ r, e = .returned (.tuple #[r, errV (Um.pathAll s p x u).2]) ∧ Ll w'.heap.size w' r (Um.pathAll s p x u).1 ∧ Below w.heap.size w w' := by
  have ve := errV_none
  have q1 := errG
  have q2 := errGn
  have q3 := errE
  have q4 := errN
  obtain ⟨a0, cap0, rfl, -⟩ := (id hf)
  obtain ⟨a1, cap1, rfl, -⟩ := (id hp)
  obtain ⟨a2, cap2, rfl, -⟩ := (id hx)
  obtain ⟨a4, cap4, rfl, -⟩ := (id hu)
  have hY := (SyAt.new w (.slice a0 s.length cap0) (.slice a1 p.length cap1) 25 rfl).alloc (.cells #[.slice a4 u.length cap4] 27)
  have hV := VaAt.new (w.alloc (.cells #[.slice a0 s.length cap0, .slice a1 p.length cap1] 25)) (.slice a4 u.length cap4) 27 (B := w.heap.size + 1) (by simp)
  have hBW : Below w.heap.size w ((w.alloc (.cells #[.slice a0 s.length cap0, .slice a1 p.length cap1] 25)).alloc (.cells #[.slice a4 u.length cap4] 27)) := by go_grown
  have y0 := hY.c0
  have y1 := hY.c1
  have y2 := hV.c
  replace hf := hf.step hBW
  replace hp := hp.step hBW
  replace hx := (hx.keep hBW).wide hBW.size
  replace hu := hu.step hBW
  have HV := fun w hf hp => hid (scheck_any s (.slice a0 s.length cap0) p (.slice a1 p.length cap1) w hf hp)
  obtain ⟨g1, g2, g3⟩ := Um.pathF_ok.1 h
  have kR : decide (20 < (u.length : Int)) = false := by simp; omega
  have kG : (Um.sysF s p != 0) = false := by simpa using g2
  have kL : ((x.length : Int) != (s.length : Int)) = false := by simp; omega
  have HE := fun wz hf hp hx hu hY hV => hid (walkI_any s (.slice a0 s.length cap0) p (.slice a1 p.length cap1) x (.slice a2 x.length cap2) u (.slice a4 u.length cap4) w.heap.size (w.heap.size + 1) wz hf hp hx hu hY hV h)
  clear h g1 g2 g3
  generalize Um.sysF s p = G at *
  generalize Um.pathAll s p x u = O at *
  go_enter Tryz.func13, Tryz.ntmps13
  go_wp2_with (first | (go_at_call 29; refine (HV _ hf hp).out.mono ?_; rintro e wn ⟨rfl, hb⟩; replace hf := hf.step hb; replace hp := hp.step hb; replace hx := (hx.keep hb).wide hb.size; replace hu := hu.step hb; replace hY := hY.step hb; replace hV := hV.step hb; have y0 := hY.c0; have y2 := hV.c; have hB := hBW.trans (hb.mono hBW.size); clear hb HV hBW) | (go_at_call 30; refine (HE _ hf hp hx hu hY hV).out.mono ?_; rintro e wm ⟨r, rfl, hr, hb⟩; replace hB := hB.trans (hb.mono hB.size); obtain ⟨a9, c9, rfl, -⟩ := (id hr); clear hb hf hp hx hu hY hV))
  go_returns
  exact ⟨_, rfl, hr, hB⟩

theorem flPath_any (s : List (List Um.Tm)) (v0 : Value) (p : List (Int × Int)) (v1 : Value) (x : List Int) (v : Value) (u : List (List Int)) (t : Value) (w : World) (hf : Lf w.heap.size w v0 s) (hp : Ls w.heap.size w v1 p) (hx : Li w.heap.size w v x) (hu : Ll w.heap.size w t u) :
    Calls Tryz.prog 13 #[.agg #[v0, v1], v, t] w fun e w' => ∃ r, e = .returned (.tuple #[r, errV (Um.pathAll s p x u).2]) ∧ Ll w'.heap.size w' r (Um.pathAll s p x u).1 ∧ Below w.heap.size w w' := by
  by_cases h : 20 < u.length
  · exact fpath_many s v0 p v1 x v u t w hf hp hx hu h
  · by_cases h2 : Um.sysF s p = 0
    · by_cases h3 : x.length = s.length
      · exact fpath_yes s v0 p v1 x v u t w hf hp hx hu (Um.pathF_ok.2 ⟨by omega, h2, h3⟩)
      · exact fpath_shape s v0 p v1 x v u t w hf hp hx hu h h2 h3
    · exact fpath_sys s v0 p v1 x v u t w hf hp hx hu h h2

/-- How wide the widest of the first k sides is. -/
def wmax (q : List (Int × Int)) : Nat → Int
  | 0 => 0
  | k + 1 => max (wmax q k) ((Um.sd q k).2 - (Um.sd q k).1)
theorem wmax_is {q : List (Int × Int)} (h : Um.boxF q = 0) : ∀ k, k + 1 ≤ q.length → wmax q (k + 1) = (Um.sd q (wideK q (k + 1))).2 - (Um.sd q (wideK q (k + 1))).1
  | 0, hk => by
    have := side_b h (show 0 < q.length by omega)
    show max 0 ((Um.sd q 0).2 - (Um.sd q 0).1) = (Um.sd q 0).2 - (Um.sd q 0).1
    omega
  | k + 1, hk => by
    have i := wmax_is h k (by omega)
    show max (wmax q (k + 1)) ((Um.sd q (k + 1)).2 - (Um.sd q (k + 1)).1) = _
    rw [i, wideK_next q (k + 1)]
    by_cases c : (Um.sd q (wideK q (k + 1))).2 - (Um.sd q (wideK q (k + 1))).1 < (Um.sd q (k + 1)).2 - (Um.sd q (k + 1)).1
    · rw [if_pos c]; omega
    · rw [if_neg c]; omega
theorem wmax_all {q : List (Int × Int)} (h : Um.boxF q = 0) : wmax q q.length = Um.widthOf q := by
  obtain ⟨k, e⟩ : ∃ k, q.length = k + 1 := ⟨q.length - 1, by have := (Um.box_len h).1; omega⟩
  have := wmax_is h k (by omega)
  rw [← e] at this
  exact this
theorem wmax_b {q : List (Int × Int)} (h : Um.boxF q = 0) : ∀ k, k ≤ q.length → 0 ≤ wmax q k ∧ wmax q k ≤ 2000000000
  | 0, _ => ⟨Int.le_refl _, by show (0 : Int) ≤ 2000000000; omega⟩
  | k + 1, hk => by
    have i := wmax_b h k (by omega)
    have j := side_b h (show k < q.length by omega)
    show 0 ≤ max (wmax q k) ((Um.sd q k).2 - (Um.sd q k).1) ∧ max (wmax q k) ((Um.sd q k).2 - (Um.sd q k).1) ≤ 2000000000
    omega

set_option maxRecDepth 100000 in
set_option maxHeartbeats 4000000 in
theorem fwidest_any (q : List (Int × Int)) (v : Value) (w : World) (hs : Ls w.heap.size w v q) (h : Um.boxF q = 0) :
    Calls Tryz.prog 23 #[v] w fun e w' => e = .returned (.int .i64 (Um.widthOf q)) ∧ Below w.heap.size w w' := by
  have ve := errV_none
  have q1 := errG
  have q2 := errGn
  have q3 := errE
  have q4 := errN
  obtain ⟨b, off, cap, rfl, hcap, hA⟩ := hs.open (Um.box_ok.1 h).1
  have hF := Fr.start w
  have HW := hid (fun i (hi : i < q.length) => side_b h hi)
  have HX := hid (wmax_b h)
  have hl := Um.box_len h
  rw [← wmax_all h]
  clear hs h
  go_enter Tryz.func23, Tryz.ntmps23
  go_wp2
  go_loopw [3, 8] (fun u i wr => ∃ k : Nat, k ≤ q.length ∧ i = .int .i64 k ∧ u = .int .i64 (wmax q k) ∧ Fr w wr []) (fun _ i _ => q.length - (intOf i).toNat)
  case atStart => exact ⟨0, Nat.zero_le _, rfl, rfl, hF⟩
  case round =>
    clear hF
    obtain ⟨k, hk, rfl, rfl, hF⟩ := hrel
    by_cases hkl : k < q.length
    · have hkk : (k : Int) < (q.length : Int) := by omega
      have hA' := hA.step hF.below
      have z0 := hA'.lo k (Um.sd_some hkl) rfl
      have z1 := hA'.hi k (Um.sd_some hkl) rfl
      obtain ⟨b1, b2, b3, b4, -⟩ := HW.out k hkl
      obtain ⟨c1, c2⟩ := HX.out k hk
      have HN : Hid (wmax q (k + 1) = max (wmax q k) ((Um.sd q k).2 - (Um.sd q k).1)) := hid rfl
      clear HW hA hA' HX
      generalize Um.sd q k = s at *
      obtain ⟨D0, D1⟩ := s
      simp only at *
      replace hF := hF.push D0 D1 rfl
      have x0l := (hF.at 0 rfl).lo
      have x0h := (hF.at 0 rfl).hi
      go_wp2
      exact ⟨⟨k + 1, by omega, by simp, by rw [HN.out], hF.drop⟩, by simp [intOf]; omega⟩
    · obtain rfl : k = q.length := by omega
      go_wp2
      go_returns
      exact ⟨rfl, hF.below⟩

set_option maxRecDepth 100000 in
set_option maxHeartbeats 16000000 in
theorem fwide_not (s : List (List Um.Tm)) (v0 : Value) (p : List (Int × Int)) (v1 : Value) (b : List (Int × Int)) (v : Value) (n : Int) (w : World) (hf : Lf w.heap.size w v0 s) (hp : Ls w.heap.size w v1 p) (hs : Ls w.heap.size w v b) (h : ¬ (Um.tubeAll s p b n).2 = 0) :
    Calls Tryz.prog 9 #[.agg #[v0, v1], v, .int .i64 n] w fun e w' => ∃ r, e = .returned (.tuple #[r, errV (Um.tubeAll s p b n).2]) ∧ Li w'.heap.size w' r (Um.widesN s p b n) ∧ Below w.heap.size w w' := by
  have ve := errV_none
  have q1 := errG
  have q2 := errGn
  have q3 := errE
  have q4 := errN
  obtain ⟨a0, cap0, rfl, -⟩ := (id hf)
  obtain ⟨a1, cap1, rfl, -⟩ := (id hp)
  obtain ⟨a2, cap2, rfl, -⟩ := (id hs)
  have HE := fun wz hf hp hs => hid (flRun_any s (.slice a0 s.length cap0) p (.slice a1 p.length cap1) b (.slice a2 b.length cap2) n wz hf hp hs)
  have hY := SyAt.new w (.slice a0 s.length cap0) (.slice a1 p.length cap1) 25 rfl
  have hBW : Below w.heap.size w (w.alloc (.cells #[.slice a0 s.length cap0, .slice a1 p.length cap1] 25)) := by go_grown
  have y0 := hY.c0
  have y1 := hY.c1
  replace hf := hf.step hBW
  replace hp := hp.step hBW
  replace hs := hs.step hBW
  clear hY
  have HM : Hid (Um.widesN s p b n = []) := by
    unfold Um.widesN
    rw [Um.tubeAll_none h]
    exact hid rfl
  have kO : ((Um.tubeAll s p b n).2 != 0) = true := by simpa using h
  clear h
  rw [HM.out]
  clear HM
  generalize Um.tubeAll s p b n = O at *
  go_enter Tryz.func9, Tryz.ntmps9
  go_wp2_with (go_at_call 5; refine (HE _ hf hp hs).out.mono ?_; rintro e wm ⟨r, rfl, hr, hb⟩; obtain ⟨a9, c9, rfl, -⟩ := (id hr); replace hb := hBW.trans (hb.mono hBW.size); clear hf hp hs HE y0 y1 hBW)
  go_returns
  exact ⟨_, rfl, Li.nil _ _, hb⟩

set_option maxRecDepth 100000 in
set_option maxHeartbeats 16000000 in
theorem fwide_yes (s : List (List Um.Tm)) (v0 : Value) (p : List (Int × Int)) (v1 : Value) (b : List (Int × Int)) (v : Value) (n : Int) (w : World) (hf : Lf w.heap.size w v0 s) (hp : Ls w.heap.size w v1 p) (hs : Ls w.heap.size w v b) (h : (Um.tubeAll s p b n).2 = 0) :
    Calls Tryz.prog 9 #[.agg #[v0, v1], v, .int .i64 n] w fun e w' => ∃ r, e = .returned (.tuple #[r, errV (Um.tubeAll s p b n).2]) ∧ Li w'.heap.size w' r (Um.widesN s p b n) ∧ Below w.heap.size w w' := by
  have ve := errV_none
  have q1 := errG
  have q2 := errGn
  have q3 := errE
  have q4 := errN
  obtain ⟨a0, cap0, rfl, -⟩ := (id hf)
  obtain ⟨a1, cap1, rfl, -⟩ := (id hp)
  obtain ⟨a2, cap2, rfl, -⟩ := (id hs)
  have HE := fun wz hf hp hs => hid (flRun_any s (.slice a0 s.length cap0) p (.slice a1 p.length cap1) b (.slice a2 b.length cap2) n wz hf hp hs)
  have hY := SyAt.new w (.slice a0 s.length cap0) (.slice a1 p.length cap1) 25 rfl
  have hBW : Below w.heap.size w (w.alloc (.cells #[.slice a0 s.length cap0, .slice a1 p.length cap1] 25)) := by go_grown
  have y0 := hY.c0
  have y1 := hY.c1
  replace hf := hf.step hBW
  replace hp := hp.step hBW
  replace hs := hs.step hBW
  clear hY
  have HO := hid (Um.tubeAll_most s p b n)
  have hO21 := HO.out.1
  have HM : Hid (Um.widesN s p b n = (Um.tubeAll s p b n).1.map Um.widthOf) := hid rfl
  have kO : ((Um.tubeAll s p b n).2 != 0) = false := by simpa using h
  have HZ := hid h
  clear h
  rw [HM.out]
  clear HM
  generalize Um.tubeAll s p b n = O at *
  obtain ⟨i0, hi0, hz0, hz1, hz2⟩ := info_parts info_int
  go_enter Tryz.func9, Tryz.ntmps9
  go_wp2_with (first | (go_at_call 5; refine (HE _ hf hp hs).out.mono ?_; rintro e wm ⟨r, rfl, hr, hb⟩; obtain ⟨a9, c9, rfl, -⟩ := (id hr); replace hb := hBW.trans (hb.mono hBW.size); clear hf hp hs HE y0 y1 hBW) | (at_make; refine wpList_make_full _ rfl _ _ 26 rfl wm.heap.size 3 i0 (.int .i64 0) 1 Tryz.underlying26 hi0 hz0 hz1 .i64 .i64 _ _ O.1.length rfl rfl (by first | rfl | omega) (by first | rfl | omega) (by rw [hz2]; omega) (by unfold maxLen; omega) (by simp) ?_; intro w0 hown hgrow))
  have hR := RowI.start hgrow hown
  have HR := hid hr
  have HB := hid hb
  clear hown hgrow hr hb
  go_loopw [28] (fun i wr => ∃ k : Nat, k ≤ O.1.length ∧ i = .int .i64 k ∧ RowI wm O.1.length wm.heap.size wr ((O.1.take k).map Um.widthOf)) (fun i _ => O.1.length - (intOf i).toNat)
  case atStart => exact ⟨0, Nat.zero_le _, rfl, hR⟩
  case round =>
    clear hR
    obtain ⟨k, hk, rfl, hR⟩ := hrel
    by_cases hkl : k < O.1.length
    · have hkk : (k : Int) < (O.1.length : Int) := by omega
      obtain ⟨b6, o6, c6, e6', -, m6, n6⟩ := HR.out.open (by intro e; rw [e] at hkl; simp at hkl)
      cases e6'
      obtain ⟨x6, p6, e6⟩ := n6 k hkl
      have y6 := (hR.below.cell (p := ⟨b6, o6 + k, none⟩) m6).trans p6
      replace e6 := (e6.keep hR.below).wide hR.below.size
      have hBx := (HO.out.2 k hkl).1
      have HS2 := hid (Um.wides_succ hkl)
      have HLN : Hid (k = ((O.1.take k).map Um.widthOf).length) := hid (by rw [List.length_map, List.length_take]; omega)
      clear n6 HR p6 HO
      generalize O.1[k]?.getD [] = bk at *
      obtain ⟨a7, c7, rfl, -⟩ := (id e6)
      have HW := fun w h => hid (fwidest_any bk (.slice a7 bk.length c7) w h hBx)
      clear hBx
      generalize Um.widthOf bk = WO at *
      go_wp2_with (go_at_call 23; refine (HW _ e6).out.mono ?_; rintro e wn ⟨rfl, hb⟩; replace hR := hR.step hb; clear hb HW e6 y6; have y1 := hR.row.frozenAt k; have y3 := hR.at0 HLN.out hkl)
      exact ⟨⟨k + 1, by omega, by simp, by rw [HS2.out]; exact hR.put HLN.out hkl _⟩, by simp [intOf]; omega⟩
    · obtain rfl : k = O.1.length := by omega
      rw [List.take_length] at hR
      have HA := hid (hR.all (by rw [List.length_map]))
      have HB2 := hid (HB.out.trans (hR.below.mono HB.out.size))
      clear hR
      go_wp2
      go_returns
      refine ⟨_, ?_, HA.out, HB2.out⟩
      rw [HZ.out, errV_none]
      rfl

theorem flWide_any (s : List (List Um.Tm)) (v0 : Value) (p : List (Int × Int)) (v1 : Value) (b : List (Int × Int)) (v : Value) (n : Int) (w : World) (hf : Lf w.heap.size w v0 s) (hp : Ls w.heap.size w v1 p) (hs : Ls w.heap.size w v b) :
    Calls Tryz.prog 9 #[.agg #[v0, v1], v, .int .i64 n] w fun e w' => ∃ r, e = .returned (.tuple #[r, errV (Um.tubeAll s p b n).2]) ∧ Li w'.heap.size w' r (Um.widesN s p b n) ∧ Below w.heap.size w w' := by
  by_cases h : (Um.tubeAll s p b n).2 = 0
  · exact fwide_yes s v0 p v1 b v n w hf hp hs h
  · exact fwide_not s v0 p v1 b v n w hf hp hs h
end Go.Proofs.YtmgabhphnafokaaGreatDoor
