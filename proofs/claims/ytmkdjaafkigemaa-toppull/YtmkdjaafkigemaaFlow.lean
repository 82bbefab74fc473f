/-
  What package flow answers: Run, Path, Wide at every argument.
-/
import Derived.Test.YtmkdjaafkigemaaFlowM
import Derived.Test.YtmkdjaafkigemaaStep
import Derived.Test.YtmkdjaafkigemaaMaths3
import Derived.Test.YtmkdjaafkigemaaMems2
import Derived.Lib.MinMax
namespace Go.Proofs.Ytmkdjaafkigemaa
set_option linter.unusedSimpArgs false
open Go.RowKit

set_option maxRecDepth 100000 in
set_option maxHeartbeats 8000000 in
theorem pathOne_any (s : List (List Um.Tm)) (v0 : Value) (p : List (Int × Int)) (v1 : Value) (x : List Int) (v : Value) (u : List (List Int)) (t : Value) (i B0 B1 : Nat) (w : World) (hf : Lf w.heap.size w v0 s) (hp : Ls w.heap.size w v1 p) (hx : Li w.heap.size w v x) (hu : Ll w.heap.size w t u) (hY : SyAt w B0 v0 v1) (hV : VaAt w B1 t) (hi : i < u.length) :
    Calls Try.prog 33 #[.int .i64 (i : Int), v, .pointer (some ⟨B0, 0, none⟩), .pointer (some ⟨B1, 0, none⟩)] w fun e w' => ∃ r, e = .returned (.tuple #[r, errV (Um.movAll s p x (u[i]?.getD [])).2]) ∧ Li w'.heap.size w' r (Um.movAll s p x (u[i]?.getD [])).1 ∧ Below w.heap.size w w' := by
  have ve := errV_none
  have q1 := errG
  have q2 := errGn
  have q3 := errE
  have q4 := errN
  obtain ⟨a0, cap0, rfl, -⟩ := (id hf)
  obtain ⟨a1, cap1, rfl, -⟩ := (id hp)
  obtain ⟨a2, cap2, rfl, -⟩ := (id hx)
  obtain ⟨b5, o5, c5, rfl, -, hlt, hall⟩ := hu.open (by rintro rfl; simp at hi)
  have hii : (i : Int) < (u.length : Int) := by omega
  obtain ⟨q, yq, hq⟩ := hall i hi
  generalize u[i]?.getD [] = ui at *
  obtain ⟨a3, cap3, rfl, -⟩ := (id hq)
  have HO := fun w h1 h2 h3 h4 => hid (spoint_any s (.slice a0 s.length cap0) p (.slice a1 p.length cap1) x (.slice a2 x.length cap2) ui (.slice a3 ui.length cap3) w h1 h2 h3 h4)
  have hmx : Try.prog.follows .mixedOrders = true := by kernel_rfl
  clear hall hi hu
  go_enter Try.func33, Try.ntmps33
  generalize Um.movAll s p x ui = Z at *
  go_wp2
  obtain ⟨Inv, hInv⟩ : ∃ Inv : Array Bool → Act → World → Prop, ∀ listed aq W', Inv listed aq W' ↔ (∃ rr v8 v9 v10 v11 v12 v13 v14 v15 v16 v6 v7 : Value, aq = { tmps := #[Value.int IntKind.i64 ↑i, Value.slice a2 x.length cap2, Value.pointer (some { block := B0, off := 0 }), Value.pointer (some { block := B1, off := 0 }), undef, undef, v6, v7, v8, v9, v10, v11, v12, v13, v14, v15, v16], defers := [] } ∧ Below (w).heap.size (w) W' ∧ (listed.getD 0 false = true → v8 = (.agg #[.slice a0 s.length cap0, .slice a1 p.length cap1])) ∧ (listed.getD 1 false = true → v9 = Value.slice a2 x.length cap2) ∧ (listed.getD 2 false = true → v10 = (.slice (some ⟨b5, o5, none⟩) u.length c5)) ∧ (listed.getD 3 false = true → v11 = Value.int IntKind.i64 ↑i) ∧ (listed.getD 4 false = true → v12 = .pointer (some ⟨b5, o5 + i, none⟩)) ∧ (listed.getD 5 false = true → v13 = (.slice a3 ui.length cap3)) ∧ (listed.getD 6 false = true → v14 = (.tuple #[rr, errV Z.2])) ∧ (listed.getD 7 false = true → v15 = rr) ∧ (listed.getD 8 false = true → v16 = errV Z.2) ∧ (listed.getD 9 false = true → v6 = rr) ∧ (listed.getD 10 false = true → v7 = errV Z.2) ∧ (listed.getD 6 false = true → Li W'.heap.size W' rr Z.1) ∧ (listed.getD 7 false = true → listed.getD 6 false = true) ∧ (listed.getD 8 false = true → listed.getD 6 false = true) ∧ (listed.getD 9 false = true → listed.getD 6 false = true) ∧ (listed.getD 10 false = true → listed.getD 6 false = true)) := ⟨_, fun _ _ _ => Iff.rfl⟩
  have HI := hid hInv
  clear hInv
  refine Free.region hmx (by kernel_rfl) Inv ?s1 ?s2 ?s3
  case s1 =>
    exact (HI.out _ _ _).2 ⟨undef, undef, undef, undef, undef, undef, undef, undef, undef, undef, Value.slice none 0 0, Value.nilIface, rfl, (Below.refl _ _).drew, Free.not_yet, Free.not_yet, Free.not_yet, Free.not_yet, Free.not_yet, Free.not_yet, Free.not_yet, Free.not_yet, Free.not_yet, Free.not_yet, Free.not_yet, Free.not_yet, Free.not_yet, Free.not_yet, Free.not_yet, Free.not_yet⟩
  case s2 =>
    intro i listed aq W1 hix hne hnl hsz hv
    obtain ⟨rr, v8, v9, v10, v11, v12, v13, v14, v15, v16, v6, v7, rfl, hW, l0, l1, l2, l3, l4, l5, l6, l7, l8, l9, l10, lq, ld7, ld8, ld9, ld10⟩ := (HI.out _ _ _).1 hv
    clear hv
    replace hix : i < 11 := hix
    replace hsz : listed.size = 11 := hsz
    rcases (by omega : i = 0 ∨ i = 1 ∨ i = 2 ∨ i = 3 ∨ i = 4 ∨ i = 5 ∨ i = 6 ∨ i = 7 ∨ i = 8 ∨ i = 9 ∨ i = 10) with rfl | rfl | rfl | rfl | rfl | rfl | rfl | rfl | rfl | rfl | rfl
    · have z0 := (hY.step hW).c0
      have z1 := (hY.step hW).c1
      refine Free.op rfl rfl (fun K hK => ?_)
      go_simp
      exact hK _ _ ((HI.out _ _ _).2 ⟨rr, _, v9, v10, v11, v12, v13, v14, v15, v16, v6, v7, rfl, hW, fun _ => rfl, Free.of_set (by decide) l1, Free.of_set (by decide) l2, Free.of_set (by decide) l3, Free.of_set (by decide) l4, Free.of_set (by decide) l5, Free.of_set (by decide) l6, Free.of_set (by decide) l7, Free.of_set (by decide) l8, Free.of_set (by decide) l9, Free.of_set (by decide) l10, Free.of_set (by decide) lq, fun e => Free.fore (by decide) (ld7 (Free.back (by decide) e)), fun e => Free.fore (by decide) (ld8 (Free.back (by decide) e)), fun e => Free.fore (by decide) (ld9 (Free.back (by decide) e)), fun e => Free.fore (by decide) (ld10 (Free.back (by decide) e))⟩)
    · refine Free.op rfl rfl (fun K hK => ?_)
      go_simp
      exact hK _ _ ((HI.out _ _ _).2 ⟨rr, v8, _, v10, v11, v12, v13, v14, v15, v16, v6, v7, rfl, hW, Free.of_set (by decide) l0, fun _ => rfl, Free.of_set (by decide) l2, Free.of_set (by decide) l3, Free.of_set (by decide) l4, Free.of_set (by decide) l5, Free.of_set (by decide) l6, Free.of_set (by decide) l7, Free.of_set (by decide) l8, Free.of_set (by decide) l9, Free.of_set (by decide) l10, Free.of_set (by decide) lq, fun e => Free.fore (by decide) (ld7 (Free.back (by decide) e)), fun e => Free.fore (by decide) (ld8 (Free.back (by decide) e)), fun e => Free.fore (by decide) (ld9 (Free.back (by decide) e)), fun e => Free.fore (by decide) (ld10 (Free.back (by decide) e))⟩)
    · have z := (hV.step hW).c
      refine Free.op rfl rfl (fun K hK => ?_)
      go_simp
      exact hK _ _ ((HI.out _ _ _).2 ⟨rr, v8, v9, _, v11, v12, v13, v14, v15, v16, v6, v7, rfl, hW, Free.of_set (by decide) l0, Free.of_set (by decide) l1, fun _ => rfl, Free.of_set (by decide) l3, Free.of_set (by decide) l4, Free.of_set (by decide) l5, Free.of_set (by decide) l6, Free.of_set (by decide) l7, Free.of_set (by decide) l8, Free.of_set (by decide) l9, Free.of_set (by decide) l10, Free.of_set (by decide) lq, fun e => Free.fore (by decide) (ld7 (Free.back (by decide) e)), fun e => Free.fore (by decide) (ld8 (Free.back (by decide) e)), fun e => Free.fore (by decide) (ld9 (Free.back (by decide) e)), fun e => Free.fore (by decide) (ld10 (Free.back (by decide) e))⟩)
    · refine Free.op rfl rfl (fun K hK => ?_)
      go_simp
      exact hK _ _ ((HI.out _ _ _).2 ⟨rr, v8, v9, v10, _, v12, v13, v14, v15, v16, v6, v7, rfl, hW, Free.of_set (by decide) l0, Free.of_set (by decide) l1, Free.of_set (by decide) l2, fun _ => rfl, Free.of_set (by decide) l4, Free.of_set (by decide) l5, Free.of_set (by decide) l6, Free.of_set (by decide) l7, Free.of_set (by decide) l8, Free.of_set (by decide) l9, Free.of_set (by decide) l10, Free.of_set (by decide) lq, fun e => Free.fore (by decide) (ld7 (Free.back (by decide) e)), fun e => Free.fore (by decide) (ld8 (Free.back (by decide) e)), fun e => Free.fore (by decide) (ld9 (Free.back (by decide) e)), fun e => Free.fore (by decide) (ld10 (Free.back (by decide) e))⟩)
    · refine Free.op rfl rfl (fun K hK => ?_)
      obtain rfl := l2 (hne 2 (by kernel_rfl))
      obtain rfl := l3 (hne 3 (by kernel_rfl))
      go_simp
      exact hK _ _ ((HI.out _ _ _).2 ⟨rr, v8, v9, _, _, _, v13, v14, v15, v16, v6, v7, rfl, hW, Free.of_set (by decide) l0, Free.of_set (by decide) l1, fun _ => rfl, fun _ => rfl, fun _ => rfl, Free.of_set (by decide) l5, Free.of_set (by decide) l6, Free.of_set (by decide) l7, Free.of_set (by decide) l8, Free.of_set (by decide) l9, Free.of_set (by decide) l10, Free.of_set (by decide) lq, fun e => Free.fore (by decide) (ld7 (Free.back (by decide) e)), fun e => Free.fore (by decide) (ld8 (Free.back (by decide) e)), fun e => Free.fore (by decide) (ld9 (Free.back (by decide) e)), fun e => Free.fore (by decide) (ld10 (Free.back (by decide) e))⟩)
    · have z := (hW.cell (p := ⟨b5, o5 + i, none⟩) hlt).trans yq
      refine Free.op rfl rfl (fun K hK => ?_)
      obtain rfl := l4 (hne 4 (by kernel_rfl))
      go_simp
      exact hK _ _ ((HI.out _ _ _).2 ⟨rr, v8, v9, v10, v11, _, _, v14, v15, v16, v6, v7, rfl, hW, Free.of_set (by decide) l0, Free.of_set (by decide) l1, Free.of_set (by decide) l2, Free.of_set (by decide) l3, fun _ => rfl, fun _ => rfl, Free.of_set (by decide) l6, Free.of_set (by decide) l7, Free.of_set (by decide) l8, Free.of_set (by decide) l9, Free.of_set (by decide) l10, Free.of_set (by decide) lq, fun e => Free.fore (by decide) (ld7 (Free.back (by decide) e)), fun e => Free.fore (by decide) (ld8 (Free.back (by decide) e)), fun e => Free.fore (by decide) (ld9 (Free.back (by decide) e)), fun e => Free.fore (by decide) (ld10 (Free.back (by decide) e))⟩)
    · refine Free.op rfl rfl (fun K hK => ?_)
      obtain rfl := l0 (hne 0 (by kernel_rfl))
      obtain rfl := l1 (hne 1 (by kernel_rfl))
      obtain rfl := l5 (hne 5 (by kernel_rfl))
      go_wp2_with (go_at_call 9; refine (HO _ (hf.step hW) (hp.step hW) ((hx.keep hW).wide hW.size) ((hq.keep hW).wide hW.size)).out.mono ?_; rintro e W3 ⟨r, rfl, hq1, hb⟩)
      exact (HI.out _ _ _).2 ⟨_, _, _, v10, v11, v12, _, _, v15, v16, v6, v7, rfl, hW.trans (hb.mono hW.size), fun _ => rfl, fun _ => rfl, Free.of_set (by decide) l2, Free.of_set (by decide) l3, Free.of_set (by decide) l4, fun _ => rfl, fun _ => rfl, Free.never ld7 hnl (by decide), Free.never ld8 hnl (by decide), Free.never ld9 hnl (by decide), Free.never ld10 hnl (by decide), fun _ => hq1, Free.never ld7 hnl (by decide), Free.never ld8 hnl (by decide), Free.never ld9 hnl (by decide), Free.never ld10 hnl (by decide)⟩
    · refine Free.op rfl rfl (fun K hK => ?_)
      obtain rfl := l6 (hne 6 (by kernel_rfl))
      go_simp
      exact hK _ _ ((HI.out _ _ _).2 ⟨rr, v8, v9, v10, v11, v12, v13, _, _, v16, v6, v7, rfl, hW, Free.of_set (by decide) l0, Free.of_set (by decide) l1, Free.of_set (by decide) l2, Free.of_set (by decide) l3, Free.of_set (by decide) l4, Free.of_set (by decide) l5, fun _ => rfl, fun _ => rfl, Free.of_set (by decide) l8, Free.of_set (by decide) l9, Free.of_set (by decide) l10, Free.of_set (by decide) lq, fun _ => Free.fore (by decide) (hne 6 (by kernel_rfl)), fun e => Free.fore (by decide) (ld8 (Free.back (by decide) e)), fun e => Free.fore (by decide) (ld9 (Free.back (by decide) e)), fun e => Free.fore (by decide) (ld10 (Free.back (by decide) e))⟩)
    · refine Free.op rfl rfl (fun K hK => ?_)
      obtain rfl := l6 (hne 6 (by kernel_rfl))
      go_simp
      exact hK _ _ ((HI.out _ _ _).2 ⟨rr, v8, v9, v10, v11, v12, v13, _, v15, _, v6, v7, rfl, hW, Free.of_set (by decide) l0, Free.of_set (by decide) l1, Free.of_set (by decide) l2, Free.of_set (by decide) l3, Free.of_set (by decide) l4, Free.of_set (by decide) l5, fun _ => rfl, Free.of_set (by decide) l7, fun _ => rfl, Free.of_set (by decide) l9, Free.of_set (by decide) l10, Free.of_set (by decide) lq, fun e => Free.fore (by decide) (ld7 (Free.back (by decide) e)), fun _ => Free.fore (by decide) (hne 6 (by kernel_rfl)), fun e => Free.fore (by decide) (ld9 (Free.back (by decide) e)), fun e => Free.fore (by decide) (ld10 (Free.back (by decide) e))⟩)
    · refine Free.op rfl rfl (fun K hK => ?_)
      obtain rfl := (l7 (hne 7 (by kernel_rfl))).symm
      go_simp
      exact hK _ _ ((HI.out _ _ _).2 ⟨rr, v8, v9, v10, v11, v12, v13, v14, _, v16, _, v7, rfl, hW, Free.of_set (by decide) l0, Free.of_set (by decide) l1, Free.of_set (by decide) l2, Free.of_set (by decide) l3, Free.of_set (by decide) l4, Free.of_set (by decide) l5, Free.of_set (by decide) l6, fun _ => rfl, Free.of_set (by decide) l8, fun _ => rfl, Free.of_set (by decide) l10, Free.of_set (by decide) lq, fun e => Free.fore (by decide) (ld7 (Free.back (by decide) e)), fun e => Free.fore (by decide) (ld8 (Free.back (by decide) e)), fun _ => Free.fore (by decide) (ld7 (hne 7 (by kernel_rfl))), fun e => Free.fore (by decide) (ld10 (Free.back (by decide) e))⟩)
    · refine Free.op rfl rfl (fun K hK => ?_)
      obtain rfl := l8 (hne 8 (by kernel_rfl))
      go_simp
      exact hK _ _ ((HI.out _ _ _).2 ⟨rr, v8, v9, v10, v11, v12, v13, v14, v15, _, v6, _, rfl, hW, Free.of_set (by decide) l0, Free.of_set (by decide) l1, Free.of_set (by decide) l2, Free.of_set (by decide) l3, Free.of_set (by decide) l4, Free.of_set (by decide) l5, Free.of_set (by decide) l6, Free.of_set (by decide) l7, fun _ => rfl, Free.of_set (by decide) l9, fun _ => rfl, Free.of_set (by decide) lq, fun e => Free.fore (by decide) (ld7 (Free.back (by decide) e)), fun e => Free.fore (by decide) (ld8 (Free.back (by decide) e)), fun e => Free.fore (by decide) (ld9 (Free.back (by decide) e)), fun _ => Free.fore (by decide) (ld8 (hne 8 (by kernel_rfl)))⟩)
  case s3 =>
    intro listed aq W1 hall hsz hv
    obtain ⟨rr, v8, v9, v10, v11, v12, v13, v14, v15, v16, v6, v7, rfl, hW, l0, l1, l2, l3, l4, l5, l6, l7, l8, l9, l10, lq, ld7, ld8, ld9, ld10⟩ := (HI.out _ _ _).1 hv
    clear hv HI
    obtain rfl := l0 (Free.listed_of hall hsz 0 (by decide))
    obtain rfl := l1 (Free.listed_of hall hsz 1 (by decide))
    obtain rfl := l2 (Free.listed_of hall hsz 2 (by decide))
    obtain rfl := l3 (Free.listed_of hall hsz 3 (by decide))
    obtain rfl := l4 (Free.listed_of hall hsz 4 (by decide))
    obtain rfl := l5 (Free.listed_of hall hsz 5 (by decide))
    obtain rfl := l6 (Free.listed_of hall hsz 6 (by decide))
    obtain rfl := (l7 (Free.listed_of hall hsz 7 (by decide))).symm
    obtain rfl := l8 (Free.listed_of hall hsz 8 (by decide))
    obtain rfl := (l9 (Free.listed_of hall hsz 9 (by decide))).symm
    obtain rfl := l10 (Free.listed_of hall hsz 10 (by decide))
    have hq := lq (Free.listed_of hall hsz 6 (by decide))
    clear lq ld7 ld8 ld9 ld10
    clear hall hsz
    go_wp2
    go_returns
    exact ⟨_, rfl, hq, hW⟩

theorem pone_is {s : List (List Um.Tm)} {p : List (Int × Int)} {x : List Int} {u : List (List Int)} {i : Nat} {Z : List Int × Int} (e : Um.movAll s p x (u[i]?.getD []) = Z) (v0 v1 v t : Value) (B0 B1 : Nat) (w : World) (hf : Lf w.heap.size w v0 s) (hp : Ls w.heap.size w v1 p) (hx : Li w.heap.size w v x) (hu : Ll w.heap.size w t u) (hY : SyAt w B0 v0 v1) (hV : VaAt w B1 t) (hi : i < u.length) :
    Calls Try.prog 33 #[.int .i64 (i : Int), v, .pointer (some ⟨B0, 0, none⟩), .pointer (some ⟨B1, 0, none⟩)] w fun e w' => ∃ r, e = .returned (.tuple #[r, errV Z.2]) ∧ Li w'.heap.size w' r Z.1 ∧ Below w.heap.size w w' := by
  subst e
  exact pathOne_any s v0 p v1 x v u t i B0 B1 w hf hp hx hu hY hV hi
theorem tube_next {s : List (List Um.Tm)} {p b : List (Int × Int)} (h : Um.readyF s p b = 0) {k : Nat} (hz : (Um.tubeN s p b k).2 = 0) : Um.ofAll s p (Um.tubeN s p b k).1 = Um.tubeN s p b (k + 1) := by
  rw [Um.ofAll_yes (Um.tube_ready h hz), Um.tube_succ, if_pos hz]
theorem tube_stop {s : List (List Um.Tm)} {p b : List (Int × Int)} (h : Um.readyF s p b = 0) {k n : Nat} (hk : k ≤ n) (hn : n ≤ 20) (hz : ¬ (Um.tubeN s p b k).2 = 0) : Um.tubeAll s p b n = ([], (Um.tubeN s p b k).2) := by
  rw [Um.tubeAll_full hn h (Um.tube_bad hk hz), (Um.tube_four s p b k).resolve_left hz]
theorem path_next {s : List (List Um.Tm)} {p : List (Int × Int)} {x : List Int} {u : List (List Int)} {k : Nat} (hz : (Um.pathN s p x u k).2 = 0) : Um.movAll s p (Um.pathN s p x u k).1 (u[k]?.getD []) = Um.pathN s p x u (k + 1) := by
  rw [Um.path_succ, if_pos hz]
theorem path_stop {s : List (List Um.Tm)} {p : List (Int × Int)} {x : List Int} {u : List (List Int)} (h : Um.pathF s p x u = 0) {k : Nat} (hk : k ≤ u.length) (hz : ¬ (Um.pathN s p x u k).2 = 0) : Um.pathAll s p x u = ([], (Um.pathN s p x u k).2) := by
  have e := Um.path_stay hz hk
  unfold Um.pathAll
  rw [if_pos h, e, if_neg hz]
theorem path_all {s : List (List Um.Tm)} {p : List (Int × Int)} {x : List Int} {u : List (List Int)} (h : Um.pathF s p x u = 0) (hz : (Um.pathN s p x u u.length).2 = 0) : Um.pathAll s p x u = (Um.paths s p x u (u.length + 1), 0) := by
  unfold Um.pathAll
  rw [if_pos h, if_pos hz]

set_option maxRecDepth 100000 in
set_option maxHeartbeats 16000000 in
theorem walkI_any (s : List (List Um.Tm)) (v0 : Value) (p : List (Int × Int)) (v1 : Value) (x : List Int) (v : Value) (u : List (List Int)) (t : Value) (B0 B1 : Nat) (w : World) (hf : Lf w.heap.size w v0 s) (hp : Ls w.heap.size w v1 p) (hx : Li w.heap.size w v x) (hu : Ll w.heap.size w t u) (hY : SyAt w B0 v0 v1) (hV : VaAt w B1 t) (h : Um.pathF s p x u = 0) :
    Calls Try.prog 32 #[v, .int .i64 (u.length : Int), .func (.func 33) #[] #[.pointer (some ⟨B0, 0, none⟩), .pointer (some ⟨B1, 0, none⟩)]] w fun e w' => ∃ r, e = .returned (.tuple #[r, errV (Um.pathAll s p x u).2]) ∧ Ll w'.heap.size w' r (Um.pathAll s p x u).1 ∧ Below w.heap.size w w' := by
  have ve := errV_none
  have q1 := errG
  have q2 := errGn
  have q3 := errE
  have q4 := errN
  obtain ⟨hu20, hsy, hxl⟩ := Um.pathF_ok.1 h
  obtain ⟨hs0, hs3, -⟩ := Um.sys_ok.1 hsy
  have hx0 : 0 < x.length := by rw [hxl]; exact List.length_pos_iff.2 hs0
  have hx3 : x.length ≤ 3 := by omega
  obtain ⟨a2, cap2, rfl, -⟩ := (id hx)
  have HC := fun w h => hid (clone_ints x (.slice a2 x.length cap2) w h hx0 hx3)
  have HO0 := fun (k : Nat) (hz : (Um.pathN s p x u k).2 = 0) hi vq w h1 h2 h3 h4 h5 h6 => hid (pone_is (path_next hz) v0 v1 vq t B0 B1 w h1 h2 h3 h4 h5 h6 hi)
  clear hxl hsy hs0
  obtain ⟨i0, hi0, hz0, hz1, hz2⟩ := info_parts info_lists
  go_enter Try.func32, Try.ntmps32
  go_wp2_with (first | (at_make; refine wpList_make_full _ rfl _ _ 49 rfl w.heap.size 26 i0 (.slice none 0 0) 1 Try.underlying49 hi0 hz0 hz1 .i64 .i64 _ _ (u.length + 1) rfl rfl (by first | rfl | omega) (by first | rfl | omega) (by rw [hz2]; omega) (by unfold maxLen; omega) (by simp) ?_; intro w0 hown hgrow; have hR := RowLi.start hgrow hown; clear hown hgrow) | (go_at_call 52; refine (HC _ ((hx.keep hR.below).wide hR.below.size)).out.mono ?_; rintro e wn ⟨g1, g2, g3, rfl, hO, hb⟩; replace hR := hR.step hb; have y1 := hR.free 0; obtain ⟨e1, e2, e3, y3⟩ := hR.old (k := 0) (by omega); clear hb HC))
  replace hR := hR.put (k := 0) rfl (by omega) hO
  clear hO y1 y3
  go_loopw [20] (fun i wr => ∃ k : Nat, k ≤ u.length ∧ i = .int .i64 k ∧ RowLi w (u.length + 1) w.heap.size wr (Um.paths s p x u (k + 1)) ∧ Hid ((Um.pathN s p x u k).2 = 0)) (fun i _ => u.length - (intOf i).toNat)
  case atStart => exact ⟨0, Nat.zero_le _, rfl, hR, rfl⟩
  case round =>
    clear hR
    obtain ⟨k, hk, rfl, hR, hZ⟩ := hrel
    by_cases hkl : k < u.length
    · have hkk : (k : Int) < (u.length : Int) := by omega
      obtain ⟨vk, yk, hvk⟩ := hR.at (k := k) (by rw [Um.paths_length]; omega)
      rw [Um.paths_get (by omega)] at hvk
      obtain ⟨a5, c5, rfl, -⟩ := (id hvk)
      have HO := HO0 k hZ.out hkl (.slice a5 (Um.pathN s p x u k).1.length c5)
      have HLN : Hid (k + 1 = (Um.paths s p x u (k + 1)).length) := hid (by rw [Um.paths_length])
      have HB := fun hz9 => hid (path_stop h (show k + 1 ≤ u.length by omega) hz9)
      have HS2 := hid (Um.paths_succ s p x u (k + 1))
      clear HO0 hZ
      generalize e9 : Um.pathN s p x u (k + 1) = A at HO HB HS2
      replace e9 := hid e9
      generalize (Um.pathN s p x u k).1 = Q at *
      by_cases hc : A.2 = 0
      · have kc : (A.2 != 0) = false := by simpa using hc
        have HZ2 := hid hc
        clear HB hc
        go_wp2_with (go_at_call 33; refine (HO _ (hf.step hR.below) (hp.step hR.below) hvk (hu.step hR.below) (hY.step hR.below) (hV.step hR.below)).out.mono ?_; rintro e wn ⟨r, rfl, hr, hb⟩; replace hR := hR.step hb; obtain ⟨a9, c9, rfl, -⟩ := (id hr); clear hb HO hvk yk; have y1 := hR.free (k + 1); obtain ⟨e1, e2, e3, y3⟩ := hR.old (k := k + 1) (by omega))
        exact ⟨⟨k + 1, by omega, by simp, by rw [HS2.out]; exact hR.put HLN.out (by omega) hr, by rw [e9.out]; exact HZ2.out⟩, by simp [intOf]; omega⟩
      · have kc : (A.2 != 0) = true := by simpa using hc
        have HM := HB hc
        clear HB hc HS2
        go_wp2_with (go_at_call 33; refine (HO _ (hf.step hR.below) (hp.step hR.below) hvk (hu.step hR.below) (hY.step hR.below) (hV.step hR.below)).out.mono ?_; rintro e wn ⟨r, rfl, hr, hb⟩; replace hR := hR.step hb; obtain ⟨a9, c9, rfl, -⟩ := (id hr); clear hb HO hvk yk)
        go_returns
        rw [HM.out]
        exact ⟨_, rfl, Ll.nil _ _, hR.below⟩
    · obtain rfl : k = u.length := by omega
      have HA := hid (hR.all (by rw [Um.paths_length]))
      have HB := hid hR.below
      have HZ := hid (path_all h hZ.out)
      clear hR hZ HO0
      go_wp2
      go_returns
      rw [HZ.out]
      refine ⟨_, ?_, HA.out, HB.out⟩
      show _ = Ending.returned (Value.tuple #[_, errV 0])
      rw [errV_none]
      rfl

set_option maxRecDepth 100000 in
set_option maxHeartbeats 8000000 in
theorem fpath_many (s : List (List Um.Tm)) (v0 : Value) (p : List (Int × Int)) (v1 : Value) (x : List Int) (v : Value) (u : List (List Int)) (t : Value) (w : World) (hf : Lf w.heap.size w v0 s) (hp : Ls w.heap.size w v1 p) (hx : Li w.heap.size w v x) (hu : Ll w.heap.size w t u) (h : 20 < u.length) :
    Calls Try.prog 16 #[.agg #[v0, v1], v, t] w fun e w' => ∃ r, e = .returned (.tuple #[r, errV (Um.pathAll s p x u).2]) ∧ Ll w'.heap.size w' r (Um.pathAll s p x u).1 ∧ Below w.heap.size w w' := by
  have ve := errV_none
  have q1 := errG
  have q2 := errGn
  have q3 := errE
  have q4 := errN
  obtain ⟨a0, cap0, rfl, -⟩ := (id hf)
  obtain ⟨a1, cap1, rfl, -⟩ := (id hp)
  obtain ⟨a2, cap2, rfl, -⟩ := (id hx)
  obtain ⟨a4, cap4, rfl, -⟩ := (id hu)
  have hY := (SyAt.new w (.slice a0 s.length cap0) (.slice a1 p.length cap1) 25 rfl).alloc (.cells #[.slice a4 u.length cap4] 49)
  have hV := VaAt.new (w.alloc (.cells #[.slice a0 s.length cap0, .slice a1 p.length cap1] 25)) (.slice a4 u.length cap4) 49 (B := w.heap.size + 1) (by simp)
  have hBW : Below w.heap.size w ((w.alloc (.cells #[.slice a0 s.length cap0, .slice a1 p.length cap1] 25)).alloc (.cells #[.slice a4 u.length cap4] 49)) := by go_grown
  have y0 := hY.c0
  have y1 := hY.c1
  have y2 := hV.c
  replace hf := hf.step hBW
  replace hp := hp.step hBW
  replace hx := (hx.keep hBW).wide hBW.size
  replace hu := hu.step hBW
  have HV := fun w hf hp => hid (scheck_any s (.slice a0 s.length cap0) p (.slice a1 p.length cap1) w hf hp)
  have kR : decide (20 < (u.length : Int)) = true := by simp; omega
  have HM : Hid (Um.pathAll s p x u = ([], 4)) := by
    have e : Um.pathF s p x u = 4 := by unfold Um.pathF; rw [if_pos h]
    unfold Um.pathAll
    rw [e, if_neg (by decide)]
    exact hid rfl
  clear h hY HV hV
  go_enter Try.func16, Try.ntmps16
  go_wp2
  go_returns
  rw [HM.out]
  exact ⟨_, rfl, Ll.nil _ _, hBW⟩

set_option maxRecDepth 100000 in
set_option maxHeartbeats 8000000 in
theorem fpath_sys (s : List (List Um.Tm)) (v0 : Value) (p : List (Int × Int)) (v1 : Value) (x : List Int) (v : Value) (u : List (List Int)) (t : Value) (w : World) (hf : Lf w.heap.size w v0 s) (hp : Ls w.heap.size w v1 p) (hx : Li w.heap.size w v x) (hu : Ll w.heap.size w t u) (h : ¬ 20 < u.length) (h2 : ¬ Um.sysF s p = 0) :
    Calls Try.prog 16 #[.agg #[v0, v1], v, t] w fun e w' => ∃ r, e = .returned (.tuple #[r, errV (Um.pathAll s p x u).2]) ∧ Ll w'.heap.size w' r (Um.pathAll s p x u).1 ∧ Below w.heap.size w w' := by
  have ve := errV_none
  have q1 := errG
  have q2 := errGn
  have q3 := errE
  have q4 := errN
  obtain ⟨a0, cap0, rfl, -⟩ := (id hf)
  obtain ⟨a1, cap1, rfl, -⟩ := (id hp)
  obtain ⟨a2, cap2, rfl, -⟩ := (id hx)
  obtain ⟨a4, cap4, rfl, -⟩ := (id hu)
  have hY := (SyAt.new w (.slice a0 s.length cap0) (.slice a1 p.length cap1) 25 rfl).alloc (.cells #[.slice a4 u.length cap4] 49)
  have hV := VaAt.new (w.alloc (.cells #[.slice a0 s.length cap0, .slice a1 p.length cap1] 25)) (.slice a4 u.length cap4) 49 (B := w.heap.size + 1) (by simp)
  have hBW : Below w.heap.size w ((w.alloc (.cells #[.slice a0 s.length cap0, .slice a1 p.length cap1] 25)).alloc (.cells #[.slice a4 u.length cap4] 49)) := by go_grown
  have y0 := hY.c0
  have y1 := hY.c1
  have y2 := hV.c
  replace hf := hf.step hBW
  replace hp := hp.step hBW
  replace hx := (hx.keep hBW).wide hBW.size
  replace hu := hu.step hBW
  have HV := fun w hf hp => hid (scheck_any s (.slice a0 s.length cap0) p (.slice a1 p.length cap1) w hf hp)
  have kR : decide (20 < (u.length : Int)) = false := by simp; omega
  have HM : Hid (Um.pathAll s p x u = ([], Um.sysF s p)) := by
    have e : Um.pathF s p x u = Um.sysF s p := by unfold Um.pathF; rw [if_neg h, if_neg h2]
    unfold Um.pathAll
    rw [e, if_neg h2]
    exact hid rfl
  have kG : (Um.sysF s p != 0) = true := by simpa using h2
  clear h h2
  generalize Um.sysF s p = G at *
  go_enter Try.func16, Try.ntmps16
  go_wp2_with (go_at_call 31; refine (HV _ hf hp).out.mono ?_; rintro e wn ⟨rfl, hb⟩; replace hf := hf.step hb; replace hp := hp.step hb; replace hx := (hx.keep hb).wide hb.size; replace hu := hu.step hb; replace hY := hY.step hb; replace hV := hV.step hb; have y0 := hY.c0; have y2 := hV.c; have hB := hBW.trans (hb.mono hBW.size); clear hb HV hBW)
  go_returns
  rw [HM.out]
  exact ⟨_, rfl, Ll.nil _ _, hB⟩

set_option maxRecDepth 100000 in
set_option maxHeartbeats 8000000 in
theorem fpath_shape (s : List (List Um.Tm)) (v0 : Value) (p : List (Int × Int)) (v1 : Value) (x : List Int) (v : Value) (u : List (List Int)) (t : Value) (w : World) (hf : Lf w.heap.size w v0 s) (hp : Ls w.heap.size w v1 p) (hx : Li w.heap.size w v x) (hu : Ll w.heap.size w t u) (h : ¬ 20 < u.length) (h2 : Um.sysF s p = 0) (h3 : ¬ x.length = s.length) :
    Calls Try.prog 16 #[.agg #[v0, v1], v, t] w fun e w' => ∃ r, e = .returned (.tuple #[r, errV (Um.pathAll s p x u).2]) ∧ Ll w'.heap.size w' r (Um.pathAll s p x u).1 ∧ Below w.heap.size w w' := by
  have ve := errV_none
  have q1 := errG
  have q2 := errGn
  have q3 := errE
  have q4 := errN
  obtain ⟨a0, cap0, rfl, -⟩ := (id hf)
  obtain ⟨a1, cap1, rfl, -⟩ := (id hp)
  obtain ⟨a2, cap2, rfl, -⟩ := (id hx)
  obtain ⟨a4, cap4, rfl, -⟩ := (id hu)
  have hY := (SyAt.new w (.slice a0 s.length cap0) (.slice a1 p.length cap1) 25 rfl).alloc (.cells #[.slice a4 u.length cap4] 49)
  have hV := VaAt.new (w.alloc (.cells #[.slice a0 s.length cap0, .slice a1 p.length cap1] 25)) (.slice a4 u.length cap4) 49 (B := w.heap.size + 1) (by simp)
  have hBW : Below w.heap.size w ((w.alloc (.cells #[.slice a0 s.length cap0, .slice a1 p.length cap1] 25)).alloc (.cells #[.slice a4 u.length cap4] 49)) := by go_grown
  have y0 := hY.c0
  have y1 := hY.c1
  have y2 := hV.c
  replace hf := hf.step hBW
  replace hp := hp.step hBW
  replace hx := (hx.keep hBW).wide hBW.size
  replace hu := hu.step hBW
  have HV := fun w hf hp => hid (scheck_any s (.slice a0 s.length cap0) p (.slice a1 p.length cap1) w hf hp)
  have kR : decide (20 < (u.length : Int)) = false := by simp; omega
  have HM : Hid (Um.pathAll s p x u = ([], 3)) := by
    have e : Um.pathF s p x u = 3 := by unfold Um.pathF; rw [if_neg h, if_pos h2, if_neg h3]
    unfold Um.pathAll
    rw [e, if_neg (by decide)]
    exact hid rfl
  have kG : (Um.sysF s p != 0) = false := by simpa using h2
  have kL : ((x.length : Int) != (s.length : Int)) = true := by simpa using fun e => h3 (by omega)
  clear h h2 h3
  generalize Um.sysF s p = G at *
  go_enter Try.func16, Try.ntmps16
  go_wp2_with (go_at_call 31; refine (HV _ hf hp).out.mono ?_; rintro e wn ⟨rfl, hb⟩; replace hf := hf.step hb; replace hp := hp.step hb; replace hx := (hx.keep hb).wide hb.size; replace hu := hu.step hb; replace hY := hY.step hb; replace hV := hV.step hb; have y0 := hY.c0; have y2 := hV.c; have hB := hBW.trans (hb.mono hBW.size); clear hb HV hBW)
  go_returns
  rw [HM.out]
  exact ⟨_, rfl, Ll.nil _ _, hB⟩

set_option maxRecDepth 100000 in
set_option maxHeartbeats 8000000 in
theorem fpath_yes (s : List (List Um.Tm)) (v0 : Value) (p : List (Int × Int)) (v1 : Value) (x : List Int) (v : Value) (u : List (List Int)) (t : Value) (w : World) (hf : Lf w.heap.size w v0 s) (hp : Ls w.heap.size w v1 p) (hx : Li w.heap.size w v x) (hu : Ll w.heap.size w t u) (h : Um.pathF s p x u = 0) :
    Calls Try.prog 16 #[.agg #[v0, v1], v, t] w fun e w' => ∃ r, e = .returned (.tuple #[r, errV (Um.pathAll s p x u).2]) ∧ Ll w'.heap.size w' r (Um.pathAll s p x u).1 ∧ Below w.heap.size w w' := by
  have ve := errV_none
  have q1 := errG
  have q2 := errGn
  have q3 := errE
  have q4 := errN
  obtain ⟨a0, cap0, rfl, -⟩ := (id hf)
  obtain ⟨a1, cap1, rfl, -⟩ := (id hp)
  obtain ⟨a2, cap2, rfl, -⟩ := (id hx)
  obtain ⟨a4, cap4, rfl, -⟩ := (id hu)
  have hY := (SyAt.new w (.slice a0 s.length cap0) (.slice a1 p.length cap1) 25 rfl).alloc (.cells #[.slice a4 u.length cap4] 49)
  have hV := VaAt.new (w.alloc (.cells #[.slice a0 s.length cap0, .slice a1 p.length cap1] 25)) (.slice a4 u.length cap4) 49 (B := w.heap.size + 1) (by simp)
  have hBW : Below w.heap.size w ((w.alloc (.cells #[.slice a0 s.length cap0, .slice a1 p.length cap1] 25)).alloc (.cells #[.slice a4 u.length cap4] 49)) := by go_grown
  have y0 := hY.c0
  have y1 := hY.c1
  have y2 := hV.c
  replace hf := hf.step hBW
  replace hp := hp.step hBW
  replace hx := (hx.keep hBW).wide hBW.size
  replace hu := hu.step hBW
  have HV := fun w hf hp => hid (scheck_any s (.slice a0 s.length cap0) p (.slice a1 p.length cap1) w hf hp)
  obtain ⟨g1, g2, g3⟩ := Um.pathF_ok.1 h
  have kR : decide (20 < (u.length : Int)) = false := by simp; omega
  have kG : (Um.sysF s p != 0) = false := by simpa using g2
  have kL : ((x.length : Int) != (s.length : Int)) = false := by simp; omega
  have HE := fun wz hf hp hx hu hY hV => hid (walkI_any s (.slice a0 s.length cap0) p (.slice a1 p.length cap1) x (.slice a2 x.length cap2) u (.slice a4 u.length cap4) w.heap.size (w.heap.size + 1) wz hf hp hx hu hY hV h)
  clear h g1 g2 g3
  generalize Um.sysF s p = G at *
  generalize Um.pathAll s p x u = O at *
  go_enter Try.func16, Try.ntmps16
  go_wp2_with (first | (go_at_call 31; refine (HV _ hf hp).out.mono ?_; rintro e wn ⟨rfl, hb⟩; replace hf := hf.step hb; replace hp := hp.step hb; replace hx := (hx.keep hb).wide hb.size; replace hu := hu.step hb; replace hY := hY.step hb; replace hV := hV.step hb; have y0 := hY.c0; have y2 := hV.c; have hB := hBW.trans (hb.mono hBW.size); clear hb HV hBW) | (go_at_call 32; refine (HE _ hf hp hx hu hY hV).out.mono ?_; rintro e wm ⟨r, rfl, hr, hb⟩; replace hB := hB.trans (hb.mono hB.size); obtain ⟨a9, c9, rfl, -⟩ := (id hr); clear hb hf hp hx hu hY hV))
  go_returns
  exact ⟨_, rfl, hr, hB⟩

theorem flPath_any (s : List (List Um.Tm)) (v0 : Value) (p : List (Int × Int)) (v1 : Value) (x : List Int) (v : Value) (u : List (List Int)) (t : Value) (w : World) (hf : Lf w.heap.size w v0 s) (hp : Ls w.heap.size w v1 p) (hx : Li w.heap.size w v x) (hu : Ll w.heap.size w t u) :
    Calls Try.prog 16 #[.agg #[v0, v1], v, t] w fun e w' => ∃ r, e = .returned (.tuple #[r, errV (Um.pathAll s p x u).2]) ∧ Ll w'.heap.size w' r (Um.pathAll s p x u).1 ∧ Below w.heap.size w w' := by
  by_cases h : 20 < u.length
  · exact fpath_many s v0 p v1 x v u t w hf hp hx hu h
  · by_cases h2 : Um.sysF s p = 0
    · by_cases h3 : x.length = s.length
      · exact fpath_yes s v0 p v1 x v u t w hf hp hx hu (Um.pathF_ok.2 ⟨by omega, h2, h3⟩)
      · exact fpath_shape s v0 p v1 x v u t w hf hp hx hu h h2 h3
    · exact fpath_sys s v0 p v1 x v u t w hf hp hx hu h h2

/-- How wide the widest of the first k sides is. -/
def wmax (q : List (Int × Int)) : Nat → Int
  | 0 => 0
  | k + 1 => max (wmax q k) ((Um.sd q k).2 - (Um.sd q k).1)
theorem wmax_is {q : List (Int × Int)} (h : Um.boxF q = 0) : ∀ k, k + 1 ≤ q.length → wmax q (k + 1) = (Um.sd q (wideK q (k + 1))).2 - (Um.sd q (wideK q (k + 1))).1
  | 0, hk => by
    have := side_b h (show 0 < q.length by omega)
    show max 0 ((Um.sd q 0).2 - (Um.sd q 0).1) = (Um.sd q 0).2 - (Um.sd q 0).1
    omega
  | k + 1, hk => by
    have i := wmax_is h k (by omega)
    show max (wmax q (k + 1)) ((Um.sd q (k + 1)).2 - (Um.sd q (k + 1)).1) = _
    rw [i, wideK_next q (k + 1)]
    by_cases c : (Um.sd q (wideK q (k + 1))).2 - (Um.sd q (wideK q (k + 1))).1 < (Um.sd q (k + 1)).2 - (Um.sd q (k + 1)).1
    · rw [if_pos c]; omega
    · rw [if_neg c]; omega
theorem wmax_all {q : List (Int × Int)} (h : Um.boxF q = 0) : wmax q q.length = Um.widthOf q := by
  obtain ⟨k, e⟩ : ∃ k, q.length = k + 1 := ⟨q.length - 1, by have := (Um.box_len h).1; omega⟩
  have := wmax_is h k (by omega)
  rw [← e] at this
  exact this
theorem wmax_b {q : List (Int × Int)} (h : Um.boxF q = 0) : ∀ k, k ≤ q.length → 0 ≤ wmax q k ∧ wmax q k ≤ 2000000000
  | 0, _ => ⟨Int.le_refl _, by show (0 : Int) ≤ 2000000000; omega⟩
  | k + 1, hk => by
    have i := wmax_b h k (by omega)
    have j := side_b h (show k < q.length by omega)
    show 0 ≤ max (wmax q k) ((Um.sd q k).2 - (Um.sd q k).1) ∧ max (wmax q k) ((Um.sd q k).2 - (Um.sd q k).1) ≤ 2000000000
    omega

end Go.Proofs.Ytmkdjaafkigemaa
