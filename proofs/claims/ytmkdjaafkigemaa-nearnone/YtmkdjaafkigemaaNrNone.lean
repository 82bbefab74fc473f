/-
  The walk over 'spanlaw4.NearNone': for all a it returns true.
-/
import Derived.Test.YtmkdjaafkigemaaNear
import Derived.Test.YtmkdjaafkigemaaSnone
import Derived.Test.YtmkdjaafkigemaaMems2
import Derived.Deep.CutRange
namespace Go.Proofs.Ytmkdjaafkigemaa.NrNone
set_option linter.unusedSimpArgs false
open Go.RowKit

theorem none_bsum {lo hi : Int} : Um.bsum [(1000, 1, 0, 0)] [(lo, hi)] 1 = (1000, 0) := by
  have s : Um.steepN [(1000, 1, 0, 0)] 0 1 = ([(1000, 0, 0, 0)], 0) := by decide
  have p : Um.prodN (1000, 0, 0, 0) [(lo, hi)] 1 = (1000, 1000, 0) := by
    have e : Um.powR (Um.sd [(lo, hi)] 0).1 (Um.sd [(lo, hi)] 0).2 (Um.tmT (1000, 0, 0, 0) 0).toNat = (1000, 1000, 0) := Um.pow_zero _ _
    rw [Um.prod_succ, if_pos (show (Um.prodN (1000, 0, 0, 0) [(lo, hi)] 0).2.2 = 0 from rfl), e, if_pos (show (((1000 : Int), (1000 : Int), (0 : Int)) : Int × Int × Int).2.2 = 0 from rfl)]
    show Um.stimesR 1000 1000 1000 1000 = _
    decide +kernel
  have q : Um.frR [(1000, 0, 0, 0)] [(lo, hi)] = (1000, 1000, 0) := by
    show Um.sumN [(1000, 0, 0, 0)] [(lo, hi)] 1 = _
    have e : Um.prodN (Um.tm [(1000, 0, 0, 0)] 0) [(lo, hi)] ([(lo, hi)] : List (Int × Int)).length = (1000, 1000, 0) := p
    rw [Um.sum_succ, if_pos (show (Um.sumN [(1000, 0, 0, 0)] [(lo, hi)] 0).2.2 = 0 from rfl), e, if_pos (show (((1000 : Int), (1000 : Int), (0 : Int)) : Int × Int × Int).2.2 = 0 from rfl)]
    show Um.addR 0 0 1000 1000 = _
    decide +kernel
  rw [Um.bsum_succ, if_pos (show (Um.bsum [(1000, 1, 0, 0)] [(lo, hi)] 0).2 = 0 from rfl)]
  have s' : Um.steepN [(1000, 1, 0, 0)] 0 ([(1000, 1, 0, 0)] : List Um.Tm).length = ([(1000, 0, 0, 0)], 0) := s
  rw [s', if_pos (show ((([(1000, 0, 0, 0)] : List Um.Tm), (0 : Int)) : List Um.Tm × Int).2 = 0 from rfl), q, if_pos (show (((1000 : Int), (1000 : Int), (0 : Int)) : Int × Int × Int).2.2 = 0 from rfl)]
  show (0 + (Um.farR 1000 1000).2, (0 : Int)) = _
  decide +kernel
theorem none_bnd {lo hi : Int} (h : Um.chk lo hi = 0) : Um.bndAll sNone [(0, 0)] [(lo, hi)] = (1000, 0) := by
  rw [Um.bndAll_yes (by rw [none_ready]; exact h)]
  show Um.bndN sNone [(lo, hi)] 1 = _
  have e : Um.bsum (Um.nx sNone 0) [(lo, hi)] ([(lo, hi)] : List (Int × Int)).length = (1000, 0) := none_bsum
  rw [Um.bndN_succ, if_pos (show (Um.bndN sNone [(lo, hi)] 0).2 = 0 from rfl), e]
  show (if (0 : Int) = 0 then (if Um.may 1000 = true then (max 0 (1000 : Int), (0 : Int)) else (0, 4)) else (0, 4)) = _
  decide +kernel
theorem none_bnd_not {lo hi : Int} (h : ¬ Um.chk lo hi = 0) : Um.bndAll sNone [(0, 0)] [(lo, hi)] = (0, Um.chk lo hi) := by
  rw [Um.bndAll_not (by rw [none_ready]; exact h), none_ready]
theorem none_pull {lo hi : Int} (h : Um.chk lo hi = 0) : Um.pullAll sNone [(0, 0)] [(lo, hi)] = (false, 0) := by
  rw [Um.pull_yes (by rw [none_bnd h]) (by rw [none_of h]), none_bnd h]
  rfl
theorem none_pull_not {lo hi : Int} (h : ¬ Um.chk lo hi = 0) : Um.pullAll sNone [(0, 0)] [(lo, hi)] = (false, Um.chk lo hi) := by
  rw [Um.pull_bound (by rw [none_bnd_not h]; exact h), none_bnd_not h]
theorem one_steep : Um.steepAll [(3, 2, 1, 0)] 2 0 = ([(6, 1, 1, 0)], 0) := by decide

set_option maxRecDepth 100000 in
set_option maxHeartbeats 16000000 in
theorem walk_wrong (lo hi : Int) (w : World) (h : ¬ Um.chk lo hi = 0) :
    Calls Try.prog 4 #[.agg #[.int .i64 lo, .int .i64 hi]] w fun e w' => e = .returned (.bool true) ∧ Below w.heap.size w w' := by
  have v0 := errV_none
  have q1 := errG
  have q2 := errGn
  have q3 := errE
  have q4 := errN
  have hmx : Try.prog.follows .mixedOrders = true := by kernel_rfl
  have hF := (Fr.start w).push lo hi rfl
  have hX := hF.at 0 rfl
  have HBD := fun v0 v1 v w h1 h2 h3 => hid (nrBound_any sNone v0 [(0, 0)] v1 [(lo, hi)] v w h1 h2 h3)
  have HPL := fun v0 v1 v w h1 h2 h3 => hid (nrPull_any sNone v0 [(0, 0)] v1 [(lo, hi)] v w h1 h2 h3)
  have HCK := fun w => hid (check_any lo hi w)
  generalize hNN : (Um.bndAll sNone [(0, 0)] [(lo, hi)]).1 = NN at HBD
  generalize hEE : (Um.bndAll sNone [(0, 0)] [(lo, hi)]).2 = EE at HBD
  generalize hPP : (Um.pullAll sNone [(0, 0)] [(lo, hi)]).1 = PP at HPL
  generalize hFF : (Um.pullAll sNone [(0, 0)] [(lo, hi)]).2 = FF at HPL
  rw [none_bnd_not h] at hEE
  rw [none_pull_not h] at hFF
  have k : (Um.chk lo hi != 0) = true := by simpa using h
  have k1 : (EE != 0) = true := by rw [← hEE]; exact k
  have k2 : (FF != 0) = true := by rw [← hFF]; exact k
  clear h hEE hFF hNN hPP
  generalize Um.chk lo hi = GG at *
  go_enter Try.func4, Try.ntmps4
  go_wp2
  generalize w.heap.size = Bx at *
  generalize w.alloc (.cells #[.int .i64 lo, .int .i64 hi] 32) = W at *
  obtain ⟨Inv, hInv⟩ : ∃ Inv : Array Bool → Act → World → Prop, ∀ listed aq W', Inv listed aq W' ↔ (∃ ra rb rc v10 v11 v12 v13 v9 v14 v15 v3 v4 : Value, aq = { tmps := #[Value.agg #[Value.int IntKind.i64 lo, Value.int IntKind.i64 hi], Value.pointer (some { block := Bx, off := 0 }), Value.bool false, v3, v4, undef, undef, undef, undef, v9, v10, v11, v12, v13, v14, v15, undef, undef, undef, undef, undef, undef, undef, undef, undef, undef, undef, undef, undef, undef, undef, undef, undef, undef, undef, undef, undef, undef, undef, undef, undef, undef, undef, undef, undef, undef, undef, undef, undef, undef, undef, undef, undef, undef, undef, undef, undef, undef, undef, undef, undef, undef, undef, undef, undef, undef, undef, undef, undef, undef, undef, undef, undef, undef, undef, undef, undef, undef, undef, undef, undef], defers := [] } ∧ Below (W).heap.size (W) W' ∧ (listed.getD 0 false = true → v10 = (.agg #[ra, rb])) ∧ (listed.getD 1 false = true → v11 = .agg #[.int .i64 lo, .int .i64 hi]) ∧ (listed.getD 2 false = true → v12 = rc) ∧ (listed.getD 3 false = true → v13 = (.tuple #[.int .i64 NN, errV EE])) ∧ (listed.getD 4 false = true → v9 = (.tuple #[.int .i64 NN, errV EE])) ∧ (listed.getD 5 false = true → v14 = .int .i64 NN) ∧ (listed.getD 6 false = true → v15 = errV EE) ∧ (listed.getD 7 false = true → v3 = .int .i64 NN) ∧ (listed.getD 8 false = true → v4 = errV EE) ∧ (listed.getD 0 false = true → Lf W'.heap.size W' ra sNone ∧ Ls W'.heap.size W' rb [(0, 0)]) ∧ (listed.getD 2 false = true → Ls W'.heap.size W' rc [(lo, hi)]) ∧ (listed.getD 3 false = true → listed.getD 0 false = true) ∧ (listed.getD 4 false = true → listed.getD 0 false = true) ∧ (listed.getD 5 false = true → listed.getD 0 false = true) ∧ (listed.getD 6 false = true → listed.getD 0 false = true) ∧ (listed.getD 7 false = true → listed.getD 0 false = true) ∧ (listed.getD 8 false = true → listed.getD 0 false = true) ∧ (listed.getD 3 false = true → listed.getD 2 false = true) ∧ (listed.getD 4 false = true → listed.getD 2 false = true) ∧ (listed.getD 5 false = true → listed.getD 2 false = true) ∧ (listed.getD 6 false = true → listed.getD 2 false = true) ∧ (listed.getD 7 false = true → listed.getD 2 false = true) ∧ (listed.getD 8 false = true → listed.getD 2 false = true)) := ⟨_, fun _ _ _ => Iff.rfl⟩
  have HI := hid hInv
  clear hInv
  refine Free.region hmx (by kernel_rfl) Inv ?s1 ?s2 ?s3
  case s1 =>
    exact (HI.out _ _ _).2 ⟨undef, undef, undef, undef, undef, undef, undef, undef, undef, undef, undef, undef, rfl, (Below.refl _ _).drew, Free.not_yet, Free.not_yet, Free.not_yet, Free.not_yet, Free.not_yet, Free.not_yet, Free.not_yet, Free.not_yet, Free.not_yet, Free.not_yet, Free.not_yet, Free.not_yet, Free.not_yet, Free.not_yet, Free.not_yet, Free.not_yet, Free.not_yet, Free.not_yet, Free.not_yet, Free.not_yet, Free.not_yet, Free.not_yet, Free.not_yet⟩
  case s2 =>
    intro i listed aq W1 hix hne hnl hsz hv
    obtain ⟨ra, rb, rc, v10, v11, v12, v13, v9, v14, v15, v3, v4, rfl, hW, l0, l1, l2, l3, l4, l5, l6, l7, l8, lq0, lq2, ld0_3, ld0_4, ld0_5, ld0_6, ld0_7, ld0_8, ld2_3, ld2_4, ld2_5, ld2_6, ld2_7, ld2_8⟩ := (HI.out _ _ _).1 hv
    clear hv
    replace hix : i < 9 := hix
    replace hsz : listed.size = 9 := hsz
    rcases (by omega : i = 0 ∨ i = 1 ∨ i = 2 ∨ i = 3 ∨ i = 4 ∨ i = 5 ∨ i = 6 ∨ i = 7 ∨ i = 8) with rfl | rfl | rfl | rfl | rfl | rfl | rfl | rfl | rfl
    · refine Free.op rfl rfl (fun K hK => ?_)
      go_wp2_with (go_at_call 11; refine (none_any _).mono ?_; rintro e W3 ⟨r8, r9, rfl, g1, g2, hb⟩)
      exact (HI.out _ _ _).2 ⟨_, _, rc, _, v11, v12, v13, v9, v14, v15, v3, v4, rfl, hW.trans (hb.mono hW.size), fun _ => rfl, Free.of_set (by decide) l1, Free.of_set (by decide) l2, Free.never ld0_3 hnl (by decide), Free.never ld0_4 hnl (by decide), Free.never ld0_5 hnl (by decide), Free.never ld0_6 hnl (by decide), Free.never ld0_7 hnl (by decide), Free.never ld0_8 hnl (by decide), fun _ => ⟨g1, g2⟩, fun e => (lq2 (Free.back (by decide) e)).step hb, Free.never ld0_3 hnl (by decide), Free.never ld0_4 hnl (by decide), Free.never ld0_5 hnl (by decide), Free.never ld0_6 hnl (by decide), Free.never ld0_7 hnl (by decide), Free.never ld0_8 hnl (by decide), fun e => Free.fore (by decide) (ld2_3 (Free.back (by decide) e)), fun e => Free.fore (by decide) (ld2_4 (Free.back (by decide) e)), fun e => Free.fore (by decide) (ld2_5 (Free.back (by decide) e)), fun e => Free.fore (by decide) (ld2_6 (Free.back (by decide) e)), fun e => Free.fore (by decide) (ld2_7 (Free.back (by decide) e)), fun e => Free.fore (by decide) (ld2_8 (Free.back (by decide) e))⟩
    · have z1 := (hX.step hW).lo
      have z2 := (hX.step hW).hi
      refine Free.op rfl rfl (fun K hK => ?_)
      go_simp
      exact hK _ _ ((HI.out _ _ _).2 ⟨ra, rb, rc, v10, _, v12, v13, v9, v14, v15, v3, v4, rfl, hW, Free.of_set (by decide) l0, fun _ => rfl, Free.of_set (by decide) l2, Free.of_set (by decide) l3, Free.of_set (by decide) l4, Free.of_set (by decide) l5, Free.of_set (by decide) l6, Free.of_set (by decide) l7, Free.of_set (by decide) l8, Free.of_set (by decide) lq0, Free.of_set (by decide) lq2, fun e => Free.fore (by decide) (ld0_3 (Free.back (by decide) e)), fun e => Free.fore (by decide) (ld0_4 (Free.back (by decide) e)), fun e => Free.fore (by decide) (ld0_5 (Free.back (by decide) e)), fun e => Free.fore (by decide) (ld0_6 (Free.back (by decide) e)), fun e => Free.fore (by decide) (ld0_7 (Free.back (by decide) e)), fun e => Free.fore (by decide) (ld0_8 (Free.back (by decide) e)), fun e => Free.fore (by decide) (ld2_3 (Free.back (by decide) e)), fun e => Free.fore (by decide) (ld2_4 (Free.back (by decide) e)), fun e => Free.fore (by decide) (ld2_5 (Free.back (by decide) e)), fun e => Free.fore (by decide) (ld2_6 (Free.back (by decide) e)), fun e => Free.fore (by decide) (ld2_7 (Free.back (by decide) e)), fun e => Free.fore (by decide) (ld2_8 (Free.back (by decide) e))⟩)
    · refine Free.op rfl rfl (fun K hK => ?_)
      obtain rfl := l1 (hne 1 (by kernel_rfl))
      go_simp
      exact hK _ _ ((HI.out _ _ _).2 ⟨ra, rb, _, v10, _, _, v13, v9, v14, v15, v3, v4, rfl, hW.alloc hW.size _, Free.of_set (by decide) l0, fun _ => rfl, fun _ => rfl, Free.never ld2_3 hnl (by decide), Free.never ld2_4 hnl (by decide), Free.never ld2_5 hnl (by decide), Free.never ld2_6 hnl (by decide), Free.never ld2_7 hnl (by decide), Free.never ld2_8 hnl (by decide), fun e => ⟨(lq0 (Free.back (by decide) e)).1.step ((Below.refl _ _).alloc (Nat.le_refl _) _), (lq0 (Free.back (by decide) e)).2.step ((Below.refl _ _).alloc (Nat.le_refl _) _)⟩, fun _ => lit_ls lo hi rfl (by decide), fun e => Free.fore (by decide) (ld0_3 (Free.back (by decide) e)), fun e => Free.fore (by decide) (ld0_4 (Free.back (by decide) e)), fun e => Free.fore (by decide) (ld0_5 (Free.back (by decide) e)), fun e => Free.fore (by decide) (ld0_6 (Free.back (by decide) e)), fun e => Free.fore (by decide) (ld0_7 (Free.back (by decide) e)), fun e => Free.fore (by decide) (ld0_8 (Free.back (by decide) e)), Free.never ld2_3 hnl (by decide), Free.never ld2_4 hnl (by decide), Free.never ld2_5 hnl (by decide), Free.never ld2_6 hnl (by decide), Free.never ld2_7 hnl (by decide), Free.never ld2_8 hnl (by decide)⟩)
    · have q0 := lq0 (hne 0 (by kernel_rfl))
      have q2 := lq2 (hne 2 (by kernel_rfl))
      refine Free.op rfl rfl (fun K hK => ?_)
      obtain rfl := l0 (hne 0 (by kernel_rfl))
      obtain rfl := (l2 (hne 2 (by kernel_rfl))).symm
      go_wp2_with (go_at_call 6; refine (HBD _ _ _ _ q0.1 q0.2 q2).out.mono ?_; rintro e W3 ⟨rfl, hb⟩)
      exact (HI.out _ _ _).2 ⟨ra, rb, rc, _, v11, rc, _, v9, v14, v15, v3, v4, rfl, hW.trans (hb.mono hW.size), fun _ => rfl, Free.of_set (by decide) l1, fun _ => rfl, fun _ => rfl, Free.of_set (by decide) l4, Free.of_set (by decide) l5, Free.of_set (by decide) l6, Free.of_set (by decide) l7, Free.of_set (by decide) l8, fun e => ⟨(lq0 (Free.back (by decide) e)).1.step hb, (lq0 (Free.back (by decide) e)).2.step hb⟩, fun e => (lq2 (Free.back (by decide) e)).step hb, fun _ => Free.fore (by decide) (hne 0 (by kernel_rfl)), fun e => Free.fore (by decide) (ld0_4 (Free.back (by decide) e)), fun e => Free.fore (by decide) (ld0_5 (Free.back (by decide) e)), fun e => Free.fore (by decide) (ld0_6 (Free.back (by decide) e)), fun e => Free.fore (by decide) (ld0_7 (Free.back (by decide) e)), fun e => Free.fore (by decide) (ld0_8 (Free.back (by decide) e)), fun _ => Free.fore (by decide) (hne 2 (by kernel_rfl)), fun e => Free.fore (by decide) (ld2_4 (Free.back (by decide) e)), fun e => Free.fore (by decide) (ld2_5 (Free.back (by decide) e)), fun e => Free.fore (by decide) (ld2_6 (Free.back (by decide) e)), fun e => Free.fore (by decide) (ld2_7 (Free.back (by decide) e)), fun e => Free.fore (by decide) (ld2_8 (Free.back (by decide) e))⟩
    · refine Free.op rfl rfl (fun K hK => ?_)
      obtain rfl := l3 (hne 3 (by kernel_rfl))
      go_simp
      exact hK _ _ ((HI.out _ _ _).2 ⟨ra, rb, rc, v10, v11, v12, _, _, v14, v15, v3, v4, rfl, hW, Free.of_set (by decide) l0, Free.of_set (by decide) l1, Free.of_set (by decide) l2, fun _ => rfl, fun _ => rfl, Free.of_set (by decide) l5, Free.of_set (by decide) l6, Free.of_set (by decide) l7, Free.of_set (by decide) l8, Free.of_set (by decide) lq0, Free.of_set (by decide) lq2, fun e => Free.fore (by decide) (ld0_3 (Free.back (by decide) e)), fun _ => Free.fore (by decide) (ld0_3 (hne 3 (by kernel_rfl))), fun e => Free.fore (by decide) (ld0_5 (Free.back (by decide) e)), fun e => Free.fore (by decide) (ld0_6 (Free.back (by decide) e)), fun e => Free.fore (by decide) (ld0_7 (Free.back (by decide) e)), fun e => Free.fore (by decide) (ld0_8 (Free.back (by decide) e)), fun e => Free.fore (by decide) (ld2_3 (Free.back (by decide) e)), fun _ => Free.fore (by decide) (ld2_3 (hne 3 (by kernel_rfl))), fun e => Free.fore (by decide) (ld2_5 (Free.back (by decide) e)), fun e => Free.fore (by decide) (ld2_6 (Free.back (by decide) e)), fun e => Free.fore (by decide) (ld2_7 (Free.back (by decide) e)), fun e => Free.fore (by decide) (ld2_8 (Free.back (by decide) e))⟩)
    · refine Free.op rfl rfl (fun K hK => ?_)
      obtain rfl := l4 (hne 4 (by kernel_rfl))
      go_simp
      exact hK _ _ ((HI.out _ _ _).2 ⟨ra, rb, rc, v10, v11, v12, v13, _, _, v15, v3, v4, rfl, hW, Free.of_set (by decide) l0, Free.of_set (by decide) l1, Free.of_set (by decide) l2, Free.of_set (by decide) l3, fun _ => rfl, fun _ => rfl, Free.of_set (by decide) l6, Free.of_set (by decide) l7, Free.of_set (by decide) l8, Free.of_set (by decide) lq0, Free.of_set (by decide) lq2, fun e => Free.fore (by decide) (ld0_3 (Free.back (by decide) e)), fun e => Free.fore (by decide) (ld0_4 (Free.back (by decide) e)), fun _ => Free.fore (by decide) (ld0_4 (hne 4 (by kernel_rfl))), fun e => Free.fore (by decide) (ld0_6 (Free.back (by decide) e)), fun e => Free.fore (by decide) (ld0_7 (Free.back (by decide) e)), fun e => Free.fore (by decide) (ld0_8 (Free.back (by decide) e)), fun e => Free.fore (by decide) (ld2_3 (Free.back (by decide) e)), fun e => Free.fore (by decide) (ld2_4 (Free.back (by decide) e)), fun _ => Free.fore (by decide) (ld2_4 (hne 4 (by kernel_rfl))), fun e => Free.fore (by decide) (ld2_6 (Free.back (by decide) e)), fun e => Free.fore (by decide) (ld2_7 (Free.back (by decide) e)), fun e => Free.fore (by decide) (ld2_8 (Free.back (by decide) e))⟩)
    · refine Free.op rfl rfl (fun K hK => ?_)
      obtain rfl := l4 (hne 4 (by kernel_rfl))
      go_simp
      exact hK _ _ ((HI.out _ _ _).2 ⟨ra, rb, rc, v10, v11, v12, v13, _, v14, _, v3, v4, rfl, hW, Free.of_set (by decide) l0, Free.of_set (by decide) l1, Free.of_set (by decide) l2, Free.of_set (by decide) l3, fun _ => rfl, Free.of_set (by decide) l5, fun _ => rfl, Free.of_set (by decide) l7, Free.of_set (by decide) l8, Free.of_set (by decide) lq0, Free.of_set (by decide) lq2, fun e => Free.fore (by decide) (ld0_3 (Free.back (by decide) e)), fun e => Free.fore (by decide) (ld0_4 (Free.back (by decide) e)), fun e => Free.fore (by decide) (ld0_5 (Free.back (by decide) e)), fun _ => Free.fore (by decide) (ld0_4 (hne 4 (by kernel_rfl))), fun e => Free.fore (by decide) (ld0_7 (Free.back (by decide) e)), fun e => Free.fore (by decide) (ld0_8 (Free.back (by decide) e)), fun e => Free.fore (by decide) (ld2_3 (Free.back (by decide) e)), fun e => Free.fore (by decide) (ld2_4 (Free.back (by decide) e)), fun e => Free.fore (by decide) (ld2_5 (Free.back (by decide) e)), fun _ => Free.fore (by decide) (ld2_4 (hne 4 (by kernel_rfl))), fun e => Free.fore (by decide) (ld2_7 (Free.back (by decide) e)), fun e => Free.fore (by decide) (ld2_8 (Free.back (by decide) e))⟩)
    · refine Free.op rfl rfl (fun K hK => ?_)
      obtain rfl := l5 (hne 5 (by kernel_rfl))
      go_simp
      exact hK _ _ ((HI.out _ _ _).2 ⟨ra, rb, rc, v10, v11, v12, v13, v9, _, v15, _, v4, rfl, hW, Free.of_set (by decide) l0, Free.of_set (by decide) l1, Free.of_set (by decide) l2, Free.of_set (by decide) l3, Free.of_set (by decide) l4, fun _ => rfl, Free.of_set (by decide) l6, fun _ => rfl, Free.of_set (by decide) l8, Free.of_set (by decide) lq0, Free.of_set (by decide) lq2, fun e => Free.fore (by decide) (ld0_3 (Free.back (by decide) e)), fun e => Free.fore (by decide) (ld0_4 (Free.back (by decide) e)), fun e => Free.fore (by decide) (ld0_5 (Free.back (by decide) e)), fun e => Free.fore (by decide) (ld0_6 (Free.back (by decide) e)), fun _ => Free.fore (by decide) (ld0_5 (hne 5 (by kernel_rfl))), fun e => Free.fore (by decide) (ld0_8 (Free.back (by decide) e)), fun e => Free.fore (by decide) (ld2_3 (Free.back (by decide) e)), fun e => Free.fore (by decide) (ld2_4 (Free.back (by decide) e)), fun e => Free.fore (by decide) (ld2_5 (Free.back (by decide) e)), fun e => Free.fore (by decide) (ld2_6 (Free.back (by decide) e)), fun _ => Free.fore (by decide) (ld2_5 (hne 5 (by kernel_rfl))), fun e => Free.fore (by decide) (ld2_8 (Free.back (by decide) e))⟩)
    · refine Free.op rfl rfl (fun K hK => ?_)
      obtain rfl := l6 (hne 6 (by kernel_rfl))
      go_simp
      exact hK _ _ ((HI.out _ _ _).2 ⟨ra, rb, rc, v10, v11, v12, v13, v9, v14, _, v3, _, rfl, hW, Free.of_set (by decide) l0, Free.of_set (by decide) l1, Free.of_set (by decide) l2, Free.of_set (by decide) l3, Free.of_set (by decide) l4, Free.of_set (by decide) l5, fun _ => rfl, Free.of_set (by decide) l7, fun _ => rfl, Free.of_set (by decide) lq0, Free.of_set (by decide) lq2, fun e => Free.fore (by decide) (ld0_3 (Free.back (by decide) e)), fun e => Free.fore (by decide) (ld0_4 (Free.back (by decide) e)), fun e => Free.fore (by decide) (ld0_5 (Free.back (by decide) e)), fun e => Free.fore (by decide) (ld0_6 (Free.back (by decide) e)), fun e => Free.fore (by decide) (ld0_7 (Free.back (by decide) e)), fun _ => Free.fore (by decide) (ld0_6 (hne 6 (by kernel_rfl))), fun e => Free.fore (by decide) (ld2_3 (Free.back (by decide) e)), fun e => Free.fore (by decide) (ld2_4 (Free.back (by decide) e)), fun e => Free.fore (by decide) (ld2_5 (Free.back (by decide) e)), fun e => Free.fore (by decide) (ld2_6 (Free.back (by decide) e)), fun e => Free.fore (by decide) (ld2_7 (Free.back (by decide) e)), fun _ => Free.fore (by decide) (ld2_6 (hne 6 (by kernel_rfl)))⟩)
  case s3 =>
    intro listed aq W1 hall hsz hv
    obtain ⟨ra, rb, rc, v10, v11, v12, v13, v9, v14, v15, v3, v4, rfl, hW, l0, l1, l2, l3, l4, l5, l6, l7, l8, lq0, lq2, ld0_3, ld0_4, ld0_5, ld0_6, ld0_7, ld0_8, ld2_3, ld2_4, ld2_5, ld2_6, ld2_7, ld2_8⟩ := (HI.out _ _ _).1 hv
    clear hv HI
    have q0 := lq0 (Free.listed_of hall hsz 0 (by decide))
    have q2 := lq2 (Free.listed_of hall hsz 2 (by decide))
    obtain rfl := l0 (Free.listed_of hall hsz 0 (by decide))
    obtain rfl := l1 (Free.listed_of hall hsz 1 (by decide))
    obtain rfl := (l2 (Free.listed_of hall hsz 2 (by decide))).symm
    obtain rfl := l3 (Free.listed_of hall hsz 3 (by decide))
    obtain rfl := l4 (Free.listed_of hall hsz 4 (by decide))
    obtain rfl := l5 (Free.listed_of hall hsz 5 (by decide))
    obtain rfl := l6 (Free.listed_of hall hsz 6 (by decide))
    obtain rfl := l7 (Free.listed_of hall hsz 7 (by decide))
    obtain rfl := l8 (Free.listed_of hall hsz 8 (by decide))
    clear hall hsz lq0 lq2 ld0_3 ld0_4 ld0_5 ld0_6 ld0_7 ld0_8 ld2_3 ld2_4 ld2_5 ld2_6 ld2_7 ld2_8
    replace hF := hF.step hW
    clear hW hX q0 q2
    have hX := hF.at 0 rfl
    go_wp2
    generalize W1 = W at *
    obtain ⟨Inv, hInv⟩ : ∃ Inv : Array Bool → Act → World → Prop, ∀ listed aq W', Inv listed aq W' ↔ (∃ sa sb sc v17 v18 v19 v20 v16 v21 v22 v5 v6 : Value, aq = { tmps := #[Value.agg #[Value.int IntKind.i64 lo, Value.int IntKind.i64 hi], Value.pointer (some { block := Bx, off := 0 }), Value.bool false, Value.int IntKind.i64 NN, errV EE, v5, v6, undef, undef, Value.tuple #[Value.int IntKind.i64 NN, errV EE], Value.agg #[ra, rb], Value.agg #[Value.int IntKind.i64 lo, Value.int IntKind.i64 hi], rc, Value.tuple #[Value.int IntKind.i64 NN, errV EE], Value.int IntKind.i64 NN, errV EE, v16, v17, v18, v19, v20, v21, v22, undef, undef, undef, undef, undef, undef, undef, undef, undef, undef, undef, undef, undef, undef, undef, undef, undef, undef, undef, undef, undef, undef, undef, undef, undef, undef, undef, undef, undef, undef, undef, undef, undef, undef, undef, undef, undef, undef, undef, undef, undef, undef, undef, undef, undef, undef, undef, undef, undef, undef, undef, undef, undef, undef, undef, undef, undef, undef], defers := [] } ∧ Below (W).heap.size (W) W' ∧ (listed.getD 0 false = true → v17 = (.agg #[sa, sb])) ∧ (listed.getD 1 false = true → v18 = .agg #[.int .i64 lo, .int .i64 hi]) ∧ (listed.getD 2 false = true → v19 = sc) ∧ (listed.getD 3 false = true → v20 = (.tuple #[.bool PP, errV FF])) ∧ (listed.getD 4 false = true → v16 = (.tuple #[.bool PP, errV FF])) ∧ (listed.getD 5 false = true → v21 = .bool PP) ∧ (listed.getD 6 false = true → v22 = errV FF) ∧ (listed.getD 7 false = true → v5 = .bool PP) ∧ (listed.getD 8 false = true → v6 = errV FF) ∧ (listed.getD 0 false = true → Lf W'.heap.size W' sa sNone ∧ Ls W'.heap.size W' sb [(0, 0)]) ∧ (listed.getD 2 false = true → Ls W'.heap.size W' sc [(lo, hi)]) ∧ (listed.getD 3 false = true → listed.getD 0 false = true) ∧ (listed.getD 4 false = true → listed.getD 0 false = true) ∧ (listed.getD 5 false = true → listed.getD 0 false = true) ∧ (listed.getD 6 false = true → listed.getD 0 false = true) ∧ (listed.getD 7 false = true → listed.getD 0 false = true) ∧ (listed.getD 8 false = true → listed.getD 0 false = true) ∧ (listed.getD 3 false = true → listed.getD 2 false = true) ∧ (listed.getD 4 false = true → listed.getD 2 false = true) ∧ (listed.getD 5 false = true → listed.getD 2 false = true) ∧ (listed.getD 6 false = true → listed.getD 2 false = true) ∧ (listed.getD 7 false = true → listed.getD 2 false = true) ∧ (listed.getD 8 false = true → listed.getD 2 false = true)) := ⟨_, fun _ _ _ => Iff.rfl⟩
    have HI := hid hInv
    clear hInv
    refine Free.region hmx (by kernel_rfl) Inv ?s1 ?s2 ?s3
    case s1 =>
      exact (HI.out _ _ _).2 ⟨undef, undef, undef, undef, undef, undef, undef, undef, undef, undef, undef, undef, rfl, (Below.refl _ _).drew, Free.not_yet, Free.not_yet, Free.not_yet, Free.not_yet, Free.not_yet, Free.not_yet, Free.not_yet, Free.not_yet, Free.not_yet, Free.not_yet, Free.not_yet, Free.not_yet, Free.not_yet, Free.not_yet, Free.not_yet, Free.not_yet, Free.not_yet, Free.not_yet, Free.not_yet, Free.not_yet, Free.not_yet, Free.not_yet, Free.not_yet⟩
    case s2 =>
      intro i listed aq W1 hix hne hnl hsz hv
      obtain ⟨sa, sb, sc, v17, v18, v19, v20, v16, v21, v22, v5, v6, rfl, hW, l0, l1, l2, l3, l4, l5, l6, l7, l8, lq0, lq2, ld0_3, ld0_4, ld0_5, ld0_6, ld0_7, ld0_8, ld2_3, ld2_4, ld2_5, ld2_6, ld2_7, ld2_8⟩ := (HI.out _ _ _).1 hv
      clear hv
      replace hix : i < 9 := hix
      replace hsz : listed.size = 9 := hsz
      rcases (by omega : i = 0 ∨ i = 1 ∨ i = 2 ∨ i = 3 ∨ i = 4 ∨ i = 5 ∨ i = 6 ∨ i = 7 ∨ i = 8) with rfl | rfl | rfl | rfl | rfl | rfl | rfl | rfl | rfl
      · refine Free.op rfl rfl (fun K hK => ?_)
        go_wp2_with (go_at_call 11; refine (none_any _).mono ?_; rintro e W3 ⟨r8, r9, rfl, g1, g2, hb⟩)
        exact (HI.out _ _ _).2 ⟨_, _, sc, _, v18, v19, v20, v16, v21, v22, v5, v6, rfl, hW.trans (hb.mono hW.size), fun _ => rfl, Free.of_set (by decide) l1, Free.of_set (by decide) l2, Free.never ld0_3 hnl (by decide), Free.never ld0_4 hnl (by decide), Free.never ld0_5 hnl (by decide), Free.never ld0_6 hnl (by decide), Free.never ld0_7 hnl (by decide), Free.never ld0_8 hnl (by decide), fun _ => ⟨g1, g2⟩, fun e => (lq2 (Free.back (by decide) e)).step hb, Free.never ld0_3 hnl (by decide), Free.never ld0_4 hnl (by decide), Free.never ld0_5 hnl (by decide), Free.never ld0_6 hnl (by decide), Free.never ld0_7 hnl (by decide), Free.never ld0_8 hnl (by decide), fun e => Free.fore (by decide) (ld2_3 (Free.back (by decide) e)), fun e => Free.fore (by decide) (ld2_4 (Free.back (by decide) e)), fun e => Free.fore (by decide) (ld2_5 (Free.back (by decide) e)), fun e => Free.fore (by decide) (ld2_6 (Free.back (by decide) e)), fun e => Free.fore (by decide) (ld2_7 (Free.back (by decide) e)), fun e => Free.fore (by decide) (ld2_8 (Free.back (by decide) e))⟩
      · have z1 := (hX.step hW).lo
        have z2 := (hX.step hW).hi
        refine Free.op rfl rfl (fun K hK => ?_)
        go_simp
        exact hK _ _ ((HI.out _ _ _).2 ⟨sa, sb, sc, v17, _, v19, v20, v16, v21, v22, v5, v6, rfl, hW, Free.of_set (by decide) l0, fun _ => rfl, Free.of_set (by decide) l2, Free.of_set (by decide) l3, Free.of_set (by decide) l4, Free.of_set (by decide) l5, Free.of_set (by decide) l6, Free.of_set (by decide) l7, Free.of_set (by decide) l8, Free.of_set (by decide) lq0, Free.of_set (by decide) lq2, fun e => Free.fore (by decide) (ld0_3 (Free.back (by decide) e)), fun e => Free.fore (by decide) (ld0_4 (Free.back (by decide) e)), fun e => Free.fore (by decide) (ld0_5 (Free.back (by decide) e)), fun e => Free.fore (by decide) (ld0_6 (Free.back (by decide) e)), fun e => Free.fore (by decide) (ld0_7 (Free.back (by decide) e)), fun e => Free.fore (by decide) (ld0_8 (Free.back (by decide) e)), fun e => Free.fore (by decide) (ld2_3 (Free.back (by decide) e)), fun e => Free.fore (by decide) (ld2_4 (Free.back (by decide) e)), fun e => Free.fore (by decide) (ld2_5 (Free.back (by decide) e)), fun e => Free.fore (by decide) (ld2_6 (Free.back (by decide) e)), fun e => Free.fore (by decide) (ld2_7 (Free.back (by decide) e)), fun e => Free.fore (by decide) (ld2_8 (Free.back (by decide) e))⟩)
      · refine Free.op rfl rfl (fun K hK => ?_)
        obtain rfl := l1 (hne 1 (by kernel_rfl))
        go_simp
        exact hK _ _ ((HI.out _ _ _).2 ⟨sa, sb, _, v17, _, _, v20, v16, v21, v22, v5, v6, rfl, hW.alloc hW.size _, Free.of_set (by decide) l0, fun _ => rfl, fun _ => rfl, Free.never ld2_3 hnl (by decide), Free.never ld2_4 hnl (by decide), Free.never ld2_5 hnl (by decide), Free.never ld2_6 hnl (by decide), Free.never ld2_7 hnl (by decide), Free.never ld2_8 hnl (by decide), fun e => ⟨(lq0 (Free.back (by decide) e)).1.step ((Below.refl _ _).alloc (Nat.le_refl _) _), (lq0 (Free.back (by decide) e)).2.step ((Below.refl _ _).alloc (Nat.le_refl _) _)⟩, fun _ => lit_ls lo hi rfl (by decide), fun e => Free.fore (by decide) (ld0_3 (Free.back (by decide) e)), fun e => Free.fore (by decide) (ld0_4 (Free.back (by decide) e)), fun e => Free.fore (by decide) (ld0_5 (Free.back (by decide) e)), fun e => Free.fore (by decide) (ld0_6 (Free.back (by decide) e)), fun e => Free.fore (by decide) (ld0_7 (Free.back (by decide) e)), fun e => Free.fore (by decide) (ld0_8 (Free.back (by decide) e)), Free.never ld2_3 hnl (by decide), Free.never ld2_4 hnl (by decide), Free.never ld2_5 hnl (by decide), Free.never ld2_6 hnl (by decide), Free.never ld2_7 hnl (by decide), Free.never ld2_8 hnl (by decide)⟩)
      · have q0 := lq0 (hne 0 (by kernel_rfl))
        have q2 := lq2 (hne 2 (by kernel_rfl))
        refine Free.op rfl rfl (fun K hK => ?_)
        obtain rfl := l0 (hne 0 (by kernel_rfl))
        obtain rfl := (l2 (hne 2 (by kernel_rfl))).symm
        go_wp2_with (go_at_call 7; refine (HPL _ _ _ _ q0.1 q0.2 q2).out.mono ?_; rintro e W3 ⟨rfl, hb⟩)
        exact (HI.out _ _ _).2 ⟨sa, sb, sc, _, v18, sc, _, v16, v21, v22, v5, v6, rfl, hW.trans (hb.mono hW.size), fun _ => rfl, Free.of_set (by decide) l1, fun _ => rfl, fun _ => rfl, Free.of_set (by decide) l4, Free.of_set (by decide) l5, Free.of_set (by decide) l6, Free.of_set (by decide) l7, Free.of_set (by decide) l8, fun e => ⟨(lq0 (Free.back (by decide) e)).1.step hb, (lq0 (Free.back (by decide) e)).2.step hb⟩, fun e => (lq2 (Free.back (by decide) e)).step hb, fun _ => Free.fore (by decide) (hne 0 (by kernel_rfl)), fun e => Free.fore (by decide) (ld0_4 (Free.back (by decide) e)), fun e => Free.fore (by decide) (ld0_5 (Free.back (by decide) e)), fun e => Free.fore (by decide) (ld0_6 (Free.back (by decide) e)), fun e => Free.fore (by decide) (ld0_7 (Free.back (by decide) e)), fun e => Free.fore (by decide) (ld0_8 (Free.back (by decide) e)), fun _ => Free.fore (by decide) (hne 2 (by kernel_rfl)), fun e => Free.fore (by decide) (ld2_4 (Free.back (by decide) e)), fun e => Free.fore (by decide) (ld2_5 (Free.back (by decide) e)), fun e => Free.fore (by decide) (ld2_6 (Free.back (by decide) e)), fun e => Free.fore (by decide) (ld2_7 (Free.back (by decide) e)), fun e => Free.fore (by decide) (ld2_8 (Free.back (by decide) e))⟩
      · refine Free.op rfl rfl (fun K hK => ?_)
        obtain rfl := l3 (hne 3 (by kernel_rfl))
        go_simp
        exact hK _ _ ((HI.out _ _ _).2 ⟨sa, sb, sc, v17, v18, v19, _, _, v21, v22, v5, v6, rfl, hW, Free.of_set (by decide) l0, Free.of_set (by decide) l1, Free.of_set (by decide) l2, fun _ => rfl, fun _ => rfl, Free.of_set (by decide) l5, Free.of_set (by decide) l6, Free.of_set (by decide) l7, Free.of_set (by decide) l8, Free.of_set (by decide) lq0, Free.of_set (by decide) lq2, fun e => Free.fore (by decide) (ld0_3 (Free.back (by decide) e)), fun _ => Free.fore (by decide) (ld0_3 (hne 3 (by kernel_rfl))), fun e => Free.fore (by decide) (ld0_5 (Free.back (by decide) e)), fun e => Free.fore (by decide) (ld0_6 (Free.back (by decide) e)), fun e => Free.fore (by decide) (ld0_7 (Free.back (by decide) e)), fun e => Free.fore (by decide) (ld0_8 (Free.back (by decide) e)), fun e => Free.fore (by decide) (ld2_3 (Free.back (by decide) e)), fun _ => Free.fore (by decide) (ld2_3 (hne 3 (by kernel_rfl))), fun e => Free.fore (by decide) (ld2_5 (Free.back (by decide) e)), fun e => Free.fore (by decide) (ld2_6 (Free.back (by decide) e)), fun e => Free.fore (by decide) (ld2_7 (Free.back (by decide) e)), fun e => Free.fore (by decide) (ld2_8 (Free.back (by decide) e))⟩)
      · refine Free.op rfl rfl (fun K hK => ?_)
        obtain rfl := l4 (hne 4 (by kernel_rfl))
        go_simp
        exact hK _ _ ((HI.out _ _ _).2 ⟨sa, sb, sc, v17, v18, v19, v20, _, _, v22, v5, v6, rfl, hW, Free.of_set (by decide) l0, Free.of_set (by decide) l1, Free.of_set (by decide) l2, Free.of_set (by decide) l3, fun _ => rfl, fun _ => rfl, Free.of_set (by decide) l6, Free.of_set (by decide) l7, Free.of_set (by decide) l8, Free.of_set (by decide) lq0, Free.of_set (by decide) lq2, fun e => Free.fore (by decide) (ld0_3 (Free.back (by decide) e)), fun e => Free.fore (by decide) (ld0_4 (Free.back (by decide) e)), fun _ => Free.fore (by decide) (ld0_4 (hne 4 (by kernel_rfl))), fun e => Free.fore (by decide) (ld0_6 (Free.back (by decide) e)), fun e => Free.fore (by decide) (ld0_7 (Free.back (by decide) e)), fun e => Free.fore (by decide) (ld0_8 (Free.back (by decide) e)), fun e => Free.fore (by decide) (ld2_3 (Free.back (by decide) e)), fun e => Free.fore (by decide) (ld2_4 (Free.back (by decide) e)), fun _ => Free.fore (by decide) (ld2_4 (hne 4 (by kernel_rfl))), fun e => Free.fore (by decide) (ld2_6 (Free.back (by decide) e)), fun e => Free.fore (by decide) (ld2_7 (Free.back (by decide) e)), fun e => Free.fore (by decide) (ld2_8 (Free.back (by decide) e))⟩)
      · refine Free.op rfl rfl (fun K hK => ?_)
        obtain rfl := l4 (hne 4 (by kernel_rfl))
        go_simp
        exact hK _ _ ((HI.out _ _ _).2 ⟨sa, sb, sc, v17, v18, v19, v20, _, v21, _, v5, v6, rfl, hW, Free.of_set (by decide) l0, Free.of_set (by decide) l1, Free.of_set (by decide) l2, Free.of_set (by decide) l3, fun _ => rfl, Free.of_set (by decide) l5, fun _ => rfl, Free.of_set (by decide) l7, Free.of_set (by decide) l8, Free.of_set (by decide) lq0, Free.of_set (by decide) lq2, fun e => Free.fore (by decide) (ld0_3 (Free.back (by decide) e)), fun e => Free.fore (by decide) (ld0_4 (Free.back (by decide) e)), fun e => Free.fore (by decide) (ld0_5 (Free.back (by decide) e)), fun _ => Free.fore (by decide) (ld0_4 (hne 4 (by kernel_rfl))), fun e => Free.fore (by decide) (ld0_7 (Free.back (by decide) e)), fun e => Free.fore (by decide) (ld0_8 (Free.back (by decide) e)), fun e => Free.fore (by decide) (ld2_3 (Free.back (by decide) e)), fun e => Free.fore (by decide) (ld2_4 (Free.back (by decide) e)), fun e => Free.fore (by decide) (ld2_5 (Free.back (by decide) e)), fun _ => Free.fore (by decide) (ld2_4 (hne 4 (by kernel_rfl))), fun e => Free.fore (by decide) (ld2_7 (Free.back (by decide) e)), fun e => Free.fore (by decide) (ld2_8 (Free.back (by decide) e))⟩)
      · refine Free.op rfl rfl (fun K hK => ?_)
        obtain rfl := l5 (hne 5 (by kernel_rfl))
        go_simp
        exact hK _ _ ((HI.out _ _ _).2 ⟨sa, sb, sc, v17, v18, v19, v20, v16, _, v22, _, v6, rfl, hW, Free.of_set (by decide) l0, Free.of_set (by decide) l1, Free.of_set (by decide) l2, Free.of_set (by decide) l3, Free.of_set (by decide) l4, fun _ => rfl, Free.of_set (by decide) l6, fun _ => rfl, Free.of_set (by decide) l8, Free.of_set (by decide) lq0, Free.of_set (by decide) lq2, fun e => Free.fore (by decide) (ld0_3 (Free.back (by decide) e)), fun e => Free.fore (by decide) (ld0_4 (Free.back (by decide) e)), fun e => Free.fore (by decide) (ld0_5 (Free.back (by decide) e)), fun e => Free.fore (by decide) (ld0_6 (Free.back (by decide) e)), fun _ => Free.fore (by decide) (ld0_5 (hne 5 (by kernel_rfl))), fun e => Free.fore (by decide) (ld0_8 (Free.back (by decide) e)), fun e => Free.fore (by decide) (ld2_3 (Free.back (by decide) e)), fun e => Free.fore (by decide) (ld2_4 (Free.back (by decide) e)), fun e => Free.fore (by decide) (ld2_5 (Free.back (by decide) e)), fun e => Free.fore (by decide) (ld2_6 (Free.back (by decide) e)), fun _ => Free.fore (by decide) (ld2_5 (hne 5 (by kernel_rfl))), fun e => Free.fore (by decide) (ld2_8 (Free.back (by decide) e))⟩)
      · refine Free.op rfl rfl (fun K hK => ?_)
        obtain rfl := l6 (hne 6 (by kernel_rfl))
        go_simp
        exact hK _ _ ((HI.out _ _ _).2 ⟨sa, sb, sc, v17, v18, v19, v20, v16, v21, _, v5, _, rfl, hW, Free.of_set (by decide) l0, Free.of_set (by decide) l1, Free.of_set (by decide) l2, Free.of_set (by decide) l3, Free.of_set (by decide) l4, Free.of_set (by decide) l5, fun _ => rfl, Free.of_set (by decide) l7, fun _ => rfl, Free.of_set (by decide) lq0, Free.of_set (by decide) lq2, fun e => Free.fore (by decide) (ld0_3 (Free.back (by decide) e)), fun e => Free.fore (by decide) (ld0_4 (Free.back (by decide) e)), fun e => Free.fore (by decide) (ld0_5 (Free.back (by decide) e)), fun e => Free.fore (by decide) (ld0_6 (Free.back (by decide) e)), fun e => Free.fore (by decide) (ld0_7 (Free.back (by decide) e)), fun _ => Free.fore (by decide) (ld0_6 (hne 6 (by kernel_rfl))), fun e => Free.fore (by decide) (ld2_3 (Free.back (by decide) e)), fun e => Free.fore (by decide) (ld2_4 (Free.back (by decide) e)), fun e => Free.fore (by decide) (ld2_5 (Free.back (by decide) e)), fun e => Free.fore (by decide) (ld2_6 (Free.back (by decide) e)), fun e => Free.fore (by decide) (ld2_7 (Free.back (by decide) e)), fun _ => Free.fore (by decide) (ld2_6 (hne 6 (by kernel_rfl)))⟩)
    case s3 =>
      intro listed aq W1 hall hsz hv
      obtain ⟨sa, sb, sc, v17, v18, v19, v20, v16, v21, v22, v5, v6, rfl, hW, l0, l1, l2, l3, l4, l5, l6, l7, l8, lq0, lq2, ld0_3, ld0_4, ld0_5, ld0_6, ld0_7, ld0_8, ld2_3, ld2_4, ld2_5, ld2_6, ld2_7, ld2_8⟩ := (HI.out _ _ _).1 hv
      clear hv HI
      have q0 := lq0 (Free.listed_of hall hsz 0 (by decide))
      have q2 := lq2 (Free.listed_of hall hsz 2 (by decide))
      obtain rfl := l0 (Free.listed_of hall hsz 0 (by decide))
      obtain rfl := l1 (Free.listed_of hall hsz 1 (by decide))
      obtain rfl := (l2 (Free.listed_of hall hsz 2 (by decide))).symm
      obtain rfl := l3 (Free.listed_of hall hsz 3 (by decide))
      obtain rfl := l4 (Free.listed_of hall hsz 4 (by decide))
      obtain rfl := l5 (Free.listed_of hall hsz 5 (by decide))
      obtain rfl := l6 (Free.listed_of hall hsz 6 (by decide))
      obtain rfl := l7 (Free.listed_of hall hsz 7 (by decide))
      obtain rfl := l8 (Free.listed_of hall hsz 8 (by decide))
      clear hall hsz lq0 lq2 ld0_3 ld0_4 ld0_5 ld0_6 ld0_7 ld0_8 ld2_3 ld2_4 ld2_5 ld2_6 ld2_7 ld2_8
      replace hF := hF.step hW
      clear hW hX q0 q2
      have x0l := (hF.at 0 rfl).lo
      have x0h := (hF.at 0 rfl).hi
      go_wp2_with (go_at_call 12; refine (HCK _).out.mono ?_; rintro e wn ⟨rfl, rfl⟩; )
      go_returns
      exact ⟨rfl, (hF.alloc _).below⟩


set_option maxRecDepth 100000 in
set_option maxHeartbeats 16000000 in
theorem walk_right (lo hi : Int) (w : World) (h : Um.chk lo hi = 0) :
    Calls Try.prog 4 #[.agg #[.int .i64 lo, .int .i64 hi]] w fun e w' => e = .returned (.bool true) ∧ Below w.heap.size w w' := by
  have v0 := errV_none
  have q1 := errG
  have q2 := errGn
  have q3 := errE
  have q4 := errN
  have hmx : Try.prog.follows .mixedOrders = true := by kernel_rfl
  have hF := (Fr.start w).push lo hi rfl
  have hX := hF.at 0 rfl
  have HBD := fun v0 v1 v w h1 h2 h3 => hid (nrBound_any sNone v0 [(0, 0)] v1 [(lo, hi)] v w h1 h2 h3)
  have HPL := fun v0 v1 v w h1 h2 h3 => hid (nrPull_any sNone v0 [(0, 0)] v1 [(lo, hi)] v w h1 h2 h3)
  have HCK := fun w => hid (check_any lo hi w)
  generalize hNN : (Um.bndAll sNone [(0, 0)] [(lo, hi)]).1 = NN at HBD
  generalize hEE : (Um.bndAll sNone [(0, 0)] [(lo, hi)]).2 = EE at HBD
  generalize hPP : (Um.pullAll sNone [(0, 0)] [(lo, hi)]).1 = PP at HPL
  generalize hFF : (Um.pullAll sNone [(0, 0)] [(lo, hi)]).2 = FF at HPL
  rw [none_bnd h] at hNN hEE
  rw [none_pull h] at hPP hFF
  have HST := fun u w hl => hid (nrSteep_any [(3, 2, 1, 0)] u 2 0 w hl)
  rw [one_steep] at HST
  clear h HCK
  have k1 : (EE != 0) = false := by rw [← hEE]; rfl
  have k2 : (FF == 0) = true := by rw [← hFF]; rfl
  have k3 : (NN == 1000) = true := by rw [← hNN]; rfl
  have HP := hid hPP.symm
  clear hEE hFF hNN hPP
  go_enter Try.func4, Try.ntmps4
  go_wp2
  generalize w.heap.size = Bx at *
  generalize w.alloc (.cells #[.int .i64 lo, .int .i64 hi] 32) = W at *
  obtain ⟨Inv, hInv⟩ : ∃ Inv : Array Bool → Act → World → Prop, ∀ listed aq W', Inv listed aq W' ↔ (∃ ra rb rc v10 v11 v12 v13 v9 v14 v15 v3 v4 : Value, aq = { tmps := #[Value.agg #[Value.int IntKind.i64 lo, Value.int IntKind.i64 hi], Value.pointer (some { block := Bx, off := 0 }), Value.bool false, v3, v4, undef, undef, undef, undef, v9, v10, v11, v12, v13, v14, v15, undef, undef, undef, undef, undef, undef, undef, undef, undef, undef, undef, undef, undef, undef, undef, undef, undef, undef, undef, undef, undef, undef, undef, undef, undef, undef, undef, undef, undef, undef, undef, undef, undef, undef, undef, undef, undef, undef, undef, undef, undef, undef, undef, undef, undef, undef, undef, undef, undef, undef, undef, undef, undef, undef, undef, undef, undef, undef, undef, undef, undef, undef, undef, undef, undef], defers := [] } ∧ Below (W).heap.size (W) W' ∧ (listed.getD 0 false = true → v10 = (.agg #[ra, rb])) ∧ (listed.getD 1 false = true → v11 = .agg #[.int .i64 lo, .int .i64 hi]) ∧ (listed.getD 2 false = true → v12 = rc) ∧ (listed.getD 3 false = true → v13 = (.tuple #[.int .i64 NN, errV EE])) ∧ (listed.getD 4 false = true → v9 = (.tuple #[.int .i64 NN, errV EE])) ∧ (listed.getD 5 false = true → v14 = .int .i64 NN) ∧ (listed.getD 6 false = true → v15 = errV EE) ∧ (listed.getD 7 false = true → v3 = .int .i64 NN) ∧ (listed.getD 8 false = true → v4 = errV EE) ∧ (listed.getD 0 false = true → Lf W'.heap.size W' ra sNone ∧ Ls W'.heap.size W' rb [(0, 0)]) ∧ (listed.getD 2 false = true → Ls W'.heap.size W' rc [(lo, hi)]) ∧ (listed.getD 3 false = true → listed.getD 0 false = true) ∧ (listed.getD 4 false = true → listed.getD 0 false = true) ∧ (listed.getD 5 false = true → listed.getD 0 false = true) ∧ (listed.getD 6 false = true → listed.getD 0 false = true) ∧ (listed.getD 7 false = true → listed.getD 0 false = true) ∧ (listed.getD 8 false = true → listed.getD 0 false = true) ∧ (listed.getD 3 false = true → listed.getD 2 false = true) ∧ (listed.getD 4 false = true → listed.getD 2 false = true) ∧ (listed.getD 5 false = true → listed.getD 2 false = true) ∧ (listed.getD 6 false = true → listed.getD 2 false = true) ∧ (listed.getD 7 false = true → listed.getD 2 false = true) ∧ (listed.getD 8 false = true → listed.getD 2 false = true)) := ⟨_, fun _ _ _ => Iff.rfl⟩
  have HI := hid hInv
  clear hInv
  refine Free.region hmx (by kernel_rfl) Inv ?s1 ?s2 ?s3
  case s1 =>
    exact (HI.out _ _ _).2 ⟨undef, undef, undef, undef, undef, undef, undef, undef, undef, undef, undef, undef, rfl, (Below.refl _ _).drew, Free.not_yet, Free.not_yet, Free.not_yet, Free.not_yet, Free.not_yet, Free.not_yet, Free.not_yet, Free.not_yet, Free.not_yet, Free.not_yet, Free.not_yet, Free.not_yet, Free.not_yet, Free.not_yet, Free.not_yet, Free.not_yet, Free.not_yet, Free.not_yet, Free.not_yet, Free.not_yet, Free.not_yet, Free.not_yet, Free.not_yet⟩
  case s2 =>
    intro i listed aq W1 hix hne hnl hsz hv
    obtain ⟨ra, rb, rc, v10, v11, v12, v13, v9, v14, v15, v3, v4, rfl, hW, l0, l1, l2, l3, l4, l5, l6, l7, l8, lq0, lq2, ld0_3, ld0_4, ld0_5, ld0_6, ld0_7, ld0_8, ld2_3, ld2_4, ld2_5, ld2_6, ld2_7, ld2_8⟩ := (HI.out _ _ _).1 hv
    clear hv
    replace hix : i < 9 := hix
    replace hsz : listed.size = 9 := hsz
    rcases (by omega : i = 0 ∨ i = 1 ∨ i = 2 ∨ i = 3 ∨ i = 4 ∨ i = 5 ∨ i = 6 ∨ i = 7 ∨ i = 8) with rfl | rfl | rfl | rfl | rfl | rfl | rfl | rfl | rfl
    · refine Free.op rfl rfl (fun K hK => ?_)
      go_wp2_with (go_at_call 11; refine (none_any _).mono ?_; rintro e W3 ⟨r8, r9, rfl, g1, g2, hb⟩)
      exact (HI.out _ _ _).2 ⟨_, _, rc, _, v11, v12, v13, v9, v14, v15, v3, v4, rfl, hW.trans (hb.mono hW.size), fun _ => rfl, Free.of_set (by decide) l1, Free.of_set (by decide) l2, Free.never ld0_3 hnl (by decide), Free.never ld0_4 hnl (by decide), Free.never ld0_5 hnl (by decide), Free.never ld0_6 hnl (by decide), Free.never ld0_7 hnl (by decide), Free.never ld0_8 hnl (by decide), fun _ => ⟨g1, g2⟩, fun e => (lq2 (Free.back (by decide) e)).step hb, Free.never ld0_3 hnl (by decide), Free.never ld0_4 hnl (by decide), Free.never ld0_5 hnl (by decide), Free.never ld0_6 hnl (by decide), Free.never ld0_7 hnl (by decide), Free.never ld0_8 hnl (by decide), fun e => Free.fore (by decide) (ld2_3 (Free.back (by decide) e)), fun e => Free.fore (by decide) (ld2_4 (Free.back (by decide) e)), fun e => Free.fore (by decide) (ld2_5 (Free.back (by decide) e)), fun e => Free.fore (by decide) (ld2_6 (Free.back (by decide) e)), fun e => Free.fore (by decide) (ld2_7 (Free.back (by decide) e)), fun e => Free.fore (by decide) (ld2_8 (Free.back (by decide) e))⟩
    · have z1 := (hX.step hW).lo
      have z2 := (hX.step hW).hi
      refine Free.op rfl rfl (fun K hK => ?_)
      go_simp
      exact hK _ _ ((HI.out _ _ _).2 ⟨ra, rb, rc, v10, _, v12, v13, v9, v14, v15, v3, v4, rfl, hW, Free.of_set (by decide) l0, fun _ => rfl, Free.of_set (by decide) l2, Free.of_set (by decide) l3, Free.of_set (by decide) l4, Free.of_set (by decide) l5, Free.of_set (by decide) l6, Free.of_set (by decide) l7, Free.of_set (by decide) l8, Free.of_set (by decide) lq0, Free.of_set (by decide) lq2, fun e => Free.fore (by decide) (ld0_3 (Free.back (by decide) e)), fun e => Free.fore (by decide) (ld0_4 (Free.back (by decide) e)), fun e => Free.fore (by decide) (ld0_5 (Free.back (by decide) e)), fun e => Free.fore (by decide) (ld0_6 (Free.back (by decide) e)), fun e => Free.fore (by decide) (ld0_7 (Free.back (by decide) e)), fun e => Free.fore (by decide) (ld0_8 (Free.back (by decide) e)), fun e => Free.fore (by decide) (ld2_3 (Free.back (by decide) e)), fun e => Free.fore (by decide) (ld2_4 (Free.back (by decide) e)), fun e => Free.fore (by decide) (ld2_5 (Free.back (by decide) e)), fun e => Free.fore (by decide) (ld2_6 (Free.back (by decide) e)), fun e => Free.fore (by decide) (ld2_7 (Free.back (by decide) e)), fun e => Free.fore (by decide) (ld2_8 (Free.back (by decide) e))⟩)
    · refine Free.op rfl rfl (fun K hK => ?_)
      obtain rfl := l1 (hne 1 (by kernel_rfl))
      go_simp
      exact hK _ _ ((HI.out _ _ _).2 ⟨ra, rb, _, v10, _, _, v13, v9, v14, v15, v3, v4, rfl, hW.alloc hW.size _, Free.of_set (by decide) l0, fun _ => rfl, fun _ => rfl, Free.never ld2_3 hnl (by decide), Free.never ld2_4 hnl (by decide), Free.never ld2_5 hnl (by decide), Free.never ld2_6 hnl (by decide), Free.never ld2_7 hnl (by decide), Free.never ld2_8 hnl (by decide), fun e => ⟨(lq0 (Free.back (by decide) e)).1.step ((Below.refl _ _).alloc (Nat.le_refl _) _), (lq0 (Free.back (by decide) e)).2.step ((Below.refl _ _).alloc (Nat.le_refl _) _)⟩, fun _ => lit_ls lo hi rfl (by decide), fun e => Free.fore (by decide) (ld0_3 (Free.back (by decide) e)), fun e => Free.fore (by decide) (ld0_4 (Free.back (by decide) e)), fun e => Free.fore (by decide) (ld0_5 (Free.back (by decide) e)), fun e => Free.fore (by decide) (ld0_6 (Free.back (by decide) e)), fun e => Free.fore (by decide) (ld0_7 (Free.back (by decide) e)), fun e => Free.fore (by decide) (ld0_8 (Free.back (by decide) e)), Free.never ld2_3 hnl (by decide), Free.never ld2_4 hnl (by decide), Free.never ld2_5 hnl (by decide), Free.never ld2_6 hnl (by decide), Free.never ld2_7 hnl (by decide), Free.never ld2_8 hnl (by decide)⟩)
    · have q0 := lq0 (hne 0 (by kernel_rfl))
      have q2 := lq2 (hne 2 (by kernel_rfl))
      refine Free.op rfl rfl (fun K hK => ?_)
      obtain rfl := l0 (hne 0 (by kernel_rfl))
      obtain rfl := (l2 (hne 2 (by kernel_rfl))).symm
      go_wp2_with (go_at_call 6; refine (HBD _ _ _ _ q0.1 q0.2 q2).out.mono ?_; rintro e W3 ⟨rfl, hb⟩)
      exact (HI.out _ _ _).2 ⟨ra, rb, rc, _, v11, rc, _, v9, v14, v15, v3, v4, rfl, hW.trans (hb.mono hW.size), fun _ => rfl, Free.of_set (by decide) l1, fun _ => rfl, fun _ => rfl, Free.of_set (by decide) l4, Free.of_set (by decide) l5, Free.of_set (by decide) l6, Free.of_set (by decide) l7, Free.of_set (by decide) l8, fun e => ⟨(lq0 (Free.back (by decide) e)).1.step hb, (lq0 (Free.back (by decide) e)).2.step hb⟩, fun e => (lq2 (Free.back (by decide) e)).step hb, fun _ => Free.fore (by decide) (hne 0 (by kernel_rfl)), fun e => Free.fore (by decide) (ld0_4 (Free.back (by decide) e)), fun e => Free.fore (by decide) (ld0_5 (Free.back (by decide) e)), fun e => Free.fore (by decide) (ld0_6 (Free.back (by decide) e)), fun e => Free.fore (by decide) (ld0_7 (Free.back (by decide) e)), fun e => Free.fore (by decide) (ld0_8 (Free.back (by decide) e)), fun _ => Free.fore (by decide) (hne 2 (by kernel_rfl)), fun e => Free.fore (by decide) (ld2_4 (Free.back (by decide) e)), fun e => Free.fore (by decide) (ld2_5 (Free.back (by decide) e)), fun e => Free.fore (by decide) (ld2_6 (Free.back (by decide) e)), fun e => Free.fore (by decide) (ld2_7 (Free.back (by decide) e)), fun e => Free.fore (by decide) (ld2_8 (Free.back (by decide) e))⟩
    · refine Free.op rfl rfl (fun K hK => ?_)
      obtain rfl := l3 (hne 3 (by kernel_rfl))
      go_simp
      exact hK _ _ ((HI.out _ _ _).2 ⟨ra, rb, rc, v10, v11, v12, _, _, v14, v15, v3, v4, rfl, hW, Free.of_set (by decide) l0, Free.of_set (by decide) l1, Free.of_set (by decide) l2, fun _ => rfl, fun _ => rfl, Free.of_set (by decide) l5, Free.of_set (by decide) l6, Free.of_set (by decide) l7, Free.of_set (by decide) l8, Free.of_set (by decide) lq0, Free.of_set (by decide) lq2, fun e => Free.fore (by decide) (ld0_3 (Free.back (by decide) e)), fun _ => Free.fore (by decide) (ld0_3 (hne 3 (by kernel_rfl))), fun e => Free.fore (by decide) (ld0_5 (Free.back (by decide) e)), fun e => Free.fore (by decide) (ld0_6 (Free.back (by decide) e)), fun e => Free.fore (by decide) (ld0_7 (Free.back (by decide) e)), fun e => Free.fore (by decide) (ld0_8 (Free.back (by decide) e)), fun e => Free.fore (by decide) (ld2_3 (Free.back (by decide) e)), fun _ => Free.fore (by decide) (ld2_3 (hne 3 (by kernel_rfl))), fun e => Free.fore (by decide) (ld2_5 (Free.back (by decide) e)), fun e => Free.fore (by decide) (ld2_6 (Free.back (by decide) e)), fun e => Free.fore (by decide) (ld2_7 (Free.back (by decide) e)), fun e => Free.fore (by decide) (ld2_8 (Free.back (by decide) e))⟩)
    · refine Free.op rfl rfl (fun K hK => ?_)
      obtain rfl := l4 (hne 4 (by kernel_rfl))
      go_simp
      exact hK _ _ ((HI.out _ _ _).2 ⟨ra, rb, rc, v10, v11, v12, v13, _, _, v15, v3, v4, rfl, hW, Free.of_set (by decide) l0, Free.of_set (by decide) l1, Free.of_set (by decide) l2, Free.of_set (by decide) l3, fun _ => rfl, fun _ => rfl, Free.of_set (by decide) l6, Free.of_set (by decide) l7, Free.of_set (by decide) l8, Free.of_set (by decide) lq0, Free.of_set (by decide) lq2, fun e => Free.fore (by decide) (ld0_3 (Free.back (by decide) e)), fun e => Free.fore (by decide) (ld0_4 (Free.back (by decide) e)), fun _ => Free.fore (by decide) (ld0_4 (hne 4 (by kernel_rfl))), fun e => Free.fore (by decide) (ld0_6 (Free.back (by decide) e)), fun e => Free.fore (by decide) (ld0_7 (Free.back (by decide) e)), fun e => Free.fore (by decide) (ld0_8 (Free.back (by decide) e)), fun e => Free.fore (by decide) (ld2_3 (Free.back (by decide) e)), fun e => Free.fore (by decide) (ld2_4 (Free.back (by decide) e)), fun _ => Free.fore (by decide) (ld2_4 (hne 4 (by kernel_rfl))), fun e => Free.fore (by decide) (ld2_6 (Free.back (by decide) e)), fun e => Free.fore (by decide) (ld2_7 (Free.back (by decide) e)), fun e => Free.fore (by decide) (ld2_8 (Free.back (by decide) e))⟩)
    · refine Free.op rfl rfl (fun K hK => ?_)
      obtain rfl := l4 (hne 4 (by kernel_rfl))
      go_simp
      exact hK _ _ ((HI.out _ _ _).2 ⟨ra, rb, rc, v10, v11, v12, v13, _, v14, _, v3, v4, rfl, hW, Free.of_set (by decide) l0, Free.of_set (by decide) l1, Free.of_set (by decide) l2, Free.of_set (by decide) l3, fun _ => rfl, Free.of_set (by decide) l5, fun _ => rfl, Free.of_set (by decide) l7, Free.of_set (by decide) l8, Free.of_set (by decide) lq0, Free.of_set (by decide) lq2, fun e => Free.fore (by decide) (ld0_3 (Free.back (by decide) e)), fun e => Free.fore (by decide) (ld0_4 (Free.back (by decide) e)), fun e => Free.fore (by decide) (ld0_5 (Free.back (by decide) e)), fun _ => Free.fore (by decide) (ld0_4 (hne 4 (by kernel_rfl))), fun e => Free.fore (by decide) (ld0_7 (Free.back (by decide) e)), fun e => Free.fore (by decide) (ld0_8 (Free.back (by decide) e)), fun e => Free.fore (by decide) (ld2_3 (Free.back (by decide) e)), fun e => Free.fore (by decide) (ld2_4 (Free.back (by decide) e)), fun e => Free.fore (by decide) (ld2_5 (Free.back (by decide) e)), fun _ => Free.fore (by decide) (ld2_4 (hne 4 (by kernel_rfl))), fun e => Free.fore (by decide) (ld2_7 (Free.back (by decide) e)), fun e => Free.fore (by decide) (ld2_8 (Free.back (by decide) e))⟩)
    · refine Free.op rfl rfl (fun K hK => ?_)
      obtain rfl := l5 (hne 5 (by kernel_rfl))
      go_simp
      exact hK _ _ ((HI.out _ _ _).2 ⟨ra, rb, rc, v10, v11, v12, v13, v9, _, v15, _, v4, rfl, hW, Free.of_set (by decide) l0, Free.of_set (by decide) l1, Free.of_set (by decide) l2, Free.of_set (by decide) l3, Free.of_set (by decide) l4, fun _ => rfl, Free.of_set (by decide) l6, fun _ => rfl, Free.of_set (by decide) l8, Free.of_set (by decide) lq0, Free.of_set (by decide) lq2, fun e => Free.fore (by decide) (ld0_3 (Free.back (by decide) e)), fun e => Free.fore (by decide) (ld0_4 (Free.back (by decide) e)), fun e => Free.fore (by decide) (ld0_5 (Free.back (by decide) e)), fun e => Free.fore (by decide) (ld0_6 (Free.back (by decide) e)), fun _ => Free.fore (by decide) (ld0_5 (hne 5 (by kernel_rfl))), fun e => Free.fore (by decide) (ld0_8 (Free.back (by decide) e)), fun e => Free.fore (by decide) (ld2_3 (Free.back (by decide) e)), fun e => Free.fore (by decide) (ld2_4 (Free.back (by decide) e)), fun e => Free.fore (by decide) (ld2_5 (Free.back (by decide) e)), fun e => Free.fore (by decide) (ld2_6 (Free.back (by decide) e)), fun _ => Free.fore (by decide) (ld2_5 (hne 5 (by kernel_rfl))), fun e => Free.fore (by decide) (ld2_8 (Free.back (by decide) e))⟩)
    · refine Free.op rfl rfl (fun K hK => ?_)
      obtain rfl := l6 (hne 6 (by kernel_rfl))
      go_simp
      exact hK _ _ ((HI.out _ _ _).2 ⟨ra, rb, rc, v10, v11, v12, v13, v9, v14, _, v3, _, rfl, hW, Free.of_set (by decide) l0, Free.of_set (by decide) l1, Free.of_set (by decide) l2, Free.of_set (by decide) l3, Free.of_set (by decide) l4, Free.of_set (by decide) l5, fun _ => rfl, Free.of_set (by decide) l7, fun _ => rfl, Free.of_set (by decide) lq0, Free.of_set (by decide) lq2, fun e => Free.fore (by decide) (ld0_3 (Free.back (by decide) e)), fun e => Free.fore (by decide) (ld0_4 (Free.back (by decide) e)), fun e => Free.fore (by decide) (ld0_5 (Free.back (by decide) e)), fun e => Free.fore (by decide) (ld0_6 (Free.back (by decide) e)), fun e => Free.fore (by decide) (ld0_7 (Free.back (by decide) e)), fun _ => Free.fore (by decide) (ld0_6 (hne 6 (by kernel_rfl))), fun e => Free.fore (by decide) (ld2_3 (Free.back (by decide) e)), fun e => Free.fore (by decide) (ld2_4 (Free.back (by decide) e)), fun e => Free.fore (by decide) (ld2_5 (Free.back (by decide) e)), fun e => Free.fore (by decide) (ld2_6 (Free.back (by decide) e)), fun e => Free.fore (by decide) (ld2_7 (Free.back (by decide) e)), fun _ => Free.fore (by decide) (ld2_6 (hne 6 (by kernel_rfl)))⟩)
  case s3 =>
    intro listed aq W1 hall hsz hv
    obtain ⟨ra, rb, rc, v10, v11, v12, v13, v9, v14, v15, v3, v4, rfl, hW, l0, l1, l2, l3, l4, l5, l6, l7, l8, lq0, lq2, ld0_3, ld0_4, ld0_5, ld0_6, ld0_7, ld0_8, ld2_3, ld2_4, ld2_5, ld2_6, ld2_7, ld2_8⟩ := (HI.out _ _ _).1 hv
    clear hv HI
    have q0 := lq0 (Free.listed_of hall hsz 0 (by decide))
    have q2 := lq2 (Free.listed_of hall hsz 2 (by decide))
    obtain rfl := l0 (Free.listed_of hall hsz 0 (by decide))
    obtain rfl := l1 (Free.listed_of hall hsz 1 (by decide))
    obtain rfl := (l2 (Free.listed_of hall hsz 2 (by decide))).symm
    obtain rfl := l3 (Free.listed_of hall hsz 3 (by decide))
    obtain rfl := l4 (Free.listed_of hall hsz 4 (by decide))
    obtain rfl := l5 (Free.listed_of hall hsz 5 (by decide))
    obtain rfl := l6 (Free.listed_of hall hsz 6 (by decide))
    obtain rfl := l7 (Free.listed_of hall hsz 7 (by decide))
    obtain rfl := l8 (Free.listed_of hall hsz 8 (by decide))
    clear hall hsz lq0 lq2 ld0_3 ld0_4 ld0_5 ld0_6 ld0_7 ld0_8 ld2_3 ld2_4 ld2_5 ld2_6 ld2_7 ld2_8
    replace hF := hF.step hW
    clear hW hX q0 q2
    have hX := hF.at 0 rfl
    go_wp2
    generalize W1 = W at *
    obtain ⟨Inv, hInv⟩ : ∃ Inv : Array Bool → Act → World → Prop, ∀ listed aq W', Inv listed aq W' ↔ (∃ sa sb sc v17 v18 v19 v20 v16 v21 v22 v5 v6 : Value, aq = { tmps := #[Value.agg #[Value.int IntKind.i64 lo, Value.int IntKind.i64 hi], Value.pointer (some { block := Bx, off := 0 }), Value.bool false, Value.int IntKind.i64 NN, errV EE, v5, v6, undef, undef, Value.tuple #[Value.int IntKind.i64 NN, errV EE], Value.agg #[ra, rb], Value.agg #[Value.int IntKind.i64 lo, Value.int IntKind.i64 hi], rc, Value.tuple #[Value.int IntKind.i64 NN, errV EE], Value.int IntKind.i64 NN, errV EE, v16, v17, v18, v19, v20, v21, v22, undef, undef, undef, undef, undef, undef, undef, undef, undef, undef, undef, undef, undef, undef, undef, undef, undef, undef, undef, undef, undef, undef, undef, undef, undef, undef, undef, undef, undef, undef, undef, undef, undef, undef, undef, undef, undef, undef, undef, undef, undef, undef, undef, undef, undef, undef, undef, undef, undef, undef, undef, undef, undef, undef, undef, undef, undef, undef], defers := [] } ∧ Below (W).heap.size (W) W' ∧ (listed.getD 0 false = true → v17 = (.agg #[sa, sb])) ∧ (listed.getD 1 false = true → v18 = .agg #[.int .i64 lo, .int .i64 hi]) ∧ (listed.getD 2 false = true → v19 = sc) ∧ (listed.getD 3 false = true → v20 = (.tuple #[.bool PP, errV FF])) ∧ (listed.getD 4 false = true → v16 = (.tuple #[.bool PP, errV FF])) ∧ (listed.getD 5 false = true → v21 = .bool PP) ∧ (listed.getD 6 false = true → v22 = errV FF) ∧ (listed.getD 7 false = true → v5 = .bool PP) ∧ (listed.getD 8 false = true → v6 = errV FF) ∧ (listed.getD 0 false = true → Lf W'.heap.size W' sa sNone ∧ Ls W'.heap.size W' sb [(0, 0)]) ∧ (listed.getD 2 false = true → Ls W'.heap.size W' sc [(lo, hi)]) ∧ (listed.getD 3 false = true → listed.getD 0 false = true) ∧ (listed.getD 4 false = true → listed.getD 0 false = true) ∧ (listed.getD 5 false = true → listed.getD 0 false = true) ∧ (listed.getD 6 false = true → listed.getD 0 false = true) ∧ (listed.getD 7 false = true → listed.getD 0 false = true) ∧ (listed.getD 8 false = true → listed.getD 0 false = true) ∧ (listed.getD 3 false = true → listed.getD 2 false = true) ∧ (listed.getD 4 false = true → listed.getD 2 false = true) ∧ (listed.getD 5 false = true → listed.getD 2 false = true) ∧ (listed.getD 6 false = true → listed.getD 2 false = true) ∧ (listed.getD 7 false = true → listed.getD 2 false = true) ∧ (listed.getD 8 false = true → listed.getD 2 false = true)) := ⟨_, fun _ _ _ => Iff.rfl⟩
    have HI := hid hInv
    clear hInv
    refine Free.region hmx (by kernel_rfl) Inv ?s1 ?s2 ?s3
    case s1 =>
      exact (HI.out _ _ _).2 ⟨undef, undef, undef, undef, undef, undef, undef, undef, undef, undef, undef, undef, rfl, (Below.refl _ _).drew, Free.not_yet, Free.not_yet, Free.not_yet, Free.not_yet, Free.not_yet, Free.not_yet, Free.not_yet, Free.not_yet, Free.not_yet, Free.not_yet, Free.not_yet, Free.not_yet, Free.not_yet, Free.not_yet, Free.not_yet, Free.not_yet, Free.not_yet, Free.not_yet, Free.not_yet, Free.not_yet, Free.not_yet, Free.not_yet, Free.not_yet⟩
    case s2 =>
      intro i listed aq W1 hix hne hnl hsz hv
      obtain ⟨sa, sb, sc, v17, v18, v19, v20, v16, v21, v22, v5, v6, rfl, hW, l0, l1, l2, l3, l4, l5, l6, l7, l8, lq0, lq2, ld0_3, ld0_4, ld0_5, ld0_6, ld0_7, ld0_8, ld2_3, ld2_4, ld2_5, ld2_6, ld2_7, ld2_8⟩ := (HI.out _ _ _).1 hv
      clear hv
      replace hix : i < 9 := hix
      replace hsz : listed.size = 9 := hsz
      rcases (by omega : i = 0 ∨ i = 1 ∨ i = 2 ∨ i = 3 ∨ i = 4 ∨ i = 5 ∨ i = 6 ∨ i = 7 ∨ i = 8) with rfl | rfl | rfl | rfl | rfl | rfl | rfl | rfl | rfl
      · refine Free.op rfl rfl (fun K hK => ?_)
        go_wp2_with (go_at_call 11; refine (none_any _).mono ?_; rintro e W3 ⟨r8, r9, rfl, g1, g2, hb⟩)
        exact (HI.out _ _ _).2 ⟨_, _, sc, _, v18, v19, v20, v16, v21, v22, v5, v6, rfl, hW.trans (hb.mono hW.size), fun _ => rfl, Free.of_set (by decide) l1, Free.of_set (by decide) l2, Free.never ld0_3 hnl (by decide), Free.never ld0_4 hnl (by decide), Free.never ld0_5 hnl (by decide), Free.never ld0_6 hnl (by decide), Free.never ld0_7 hnl (by decide), Free.never ld0_8 hnl (by decide), fun _ => ⟨g1, g2⟩, fun e => (lq2 (Free.back (by decide) e)).step hb, Free.never ld0_3 hnl (by decide), Free.never ld0_4 hnl (by decide), Free.never ld0_5 hnl (by decide), Free.never ld0_6 hnl (by decide), Free.never ld0_7 hnl (by decide), Free.never ld0_8 hnl (by decide), fun e => Free.fore (by decide) (ld2_3 (Free.back (by decide) e)), fun e => Free.fore (by decide) (ld2_4 (Free.back (by decide) e)), fun e => Free.fore (by decide) (ld2_5 (Free.back (by decide) e)), fun e => Free.fore (by decide) (ld2_6 (Free.back (by decide) e)), fun e => Free.fore (by decide) (ld2_7 (Free.back (by decide) e)), fun e => Free.fore (by decide) (ld2_8 (Free.back (by decide) e))⟩
      · have z1 := (hX.step hW).lo
        have z2 := (hX.step hW).hi
        refine Free.op rfl rfl (fun K hK => ?_)
        go_simp
        exact hK _ _ ((HI.out _ _ _).2 ⟨sa, sb, sc, v17, _, v19, v20, v16, v21, v22, v5, v6, rfl, hW, Free.of_set (by decide) l0, fun _ => rfl, Free.of_set (by decide) l2, Free.of_set (by decide) l3, Free.of_set (by decide) l4, Free.of_set (by decide) l5, Free.of_set (by decide) l6, Free.of_set (by decide) l7, Free.of_set (by decide) l8, Free.of_set (by decide) lq0, Free.of_set (by decide) lq2, fun e => Free.fore (by decide) (ld0_3 (Free.back (by decide) e)), fun e => Free.fore (by decide) (ld0_4 (Free.back (by decide) e)), fun e => Free.fore (by decide) (ld0_5 (Free.back (by decide) e)), fun e => Free.fore (by decide) (ld0_6 (Free.back (by decide) e)), fun e => Free.fore (by decide) (ld0_7 (Free.back (by decide) e)), fun e => Free.fore (by decide) (ld0_8 (Free.back (by decide) e)), fun e => Free.fore (by decide) (ld2_3 (Free.back (by decide) e)), fun e => Free.fore (by decide) (ld2_4 (Free.back (by decide) e)), fun e => Free.fore (by decide) (ld2_5 (Free.back (by decide) e)), fun e => Free.fore (by decide) (ld2_6 (Free.back (by decide) e)), fun e => Free.fore (by decide) (ld2_7 (Free.back (by decide) e)), fun e => Free.fore (by decide) (ld2_8 (Free.back (by decide) e))⟩)
      · refine Free.op rfl rfl (fun K hK => ?_)
        obtain rfl := l1 (hne 1 (by kernel_rfl))
        go_simp
        exact hK _ _ ((HI.out _ _ _).2 ⟨sa, sb, _, v17, _, _, v20, v16, v21, v22, v5, v6, rfl, hW.alloc hW.size _, Free.of_set (by decide) l0, fun _ => rfl, fun _ => rfl, Free.never ld2_3 hnl (by decide), Free.never ld2_4 hnl (by decide), Free.never ld2_5 hnl (by decide), Free.never ld2_6 hnl (by decide), Free.never ld2_7 hnl (by decide), Free.never ld2_8 hnl (by decide), fun e => ⟨(lq0 (Free.back (by decide) e)).1.step ((Below.refl _ _).alloc (Nat.le_refl _) _), (lq0 (Free.back (by decide) e)).2.step ((Below.refl _ _).alloc (Nat.le_refl _) _)⟩, fun _ => lit_ls lo hi rfl (by decide), fun e => Free.fore (by decide) (ld0_3 (Free.back (by decide) e)), fun e => Free.fore (by decide) (ld0_4 (Free.back (by decide) e)), fun e => Free.fore (by decide) (ld0_5 (Free.back (by decide) e)), fun e => Free.fore (by decide) (ld0_6 (Free.back (by decide) e)), fun e => Free.fore (by decide) (ld0_7 (Free.back (by decide) e)), fun e => Free.fore (by decide) (ld0_8 (Free.back (by decide) e)), Free.never ld2_3 hnl (by decide), Free.never ld2_4 hnl (by decide), Free.never ld2_5 hnl (by decide), Free.never ld2_6 hnl (by decide), Free.never ld2_7 hnl (by decide), Free.never ld2_8 hnl (by decide)⟩)
      · have q0 := lq0 (hne 0 (by kernel_rfl))
        have q2 := lq2 (hne 2 (by kernel_rfl))
        refine Free.op rfl rfl (fun K hK => ?_)
        obtain rfl := l0 (hne 0 (by kernel_rfl))
        obtain rfl := (l2 (hne 2 (by kernel_rfl))).symm
        go_wp2_with (go_at_call 7; refine (HPL _ _ _ _ q0.1 q0.2 q2).out.mono ?_; rintro e W3 ⟨rfl, hb⟩)
        exact (HI.out _ _ _).2 ⟨sa, sb, sc, _, v18, sc, _, v16, v21, v22, v5, v6, rfl, hW.trans (hb.mono hW.size), fun _ => rfl, Free.of_set (by decide) l1, fun _ => rfl, fun _ => rfl, Free.of_set (by decide) l4, Free.of_set (by decide) l5, Free.of_set (by decide) l6, Free.of_set (by decide) l7, Free.of_set (by decide) l8, fun e => ⟨(lq0 (Free.back (by decide) e)).1.step hb, (lq0 (Free.back (by decide) e)).2.step hb⟩, fun e => (lq2 (Free.back (by decide) e)).step hb, fun _ => Free.fore (by decide) (hne 0 (by kernel_rfl)), fun e => Free.fore (by decide) (ld0_4 (Free.back (by decide) e)), fun e => Free.fore (by decide) (ld0_5 (Free.back (by decide) e)), fun e => Free.fore (by decide) (ld0_6 (Free.back (by decide) e)), fun e => Free.fore (by decide) (ld0_7 (Free.back (by decide) e)), fun e => Free.fore (by decide) (ld0_8 (Free.back (by decide) e)), fun _ => Free.fore (by decide) (hne 2 (by kernel_rfl)), fun e => Free.fore (by decide) (ld2_4 (Free.back (by decide) e)), fun e => Free.fore (by decide) (ld2_5 (Free.back (by decide) e)), fun e => Free.fore (by decide) (ld2_6 (Free.back (by decide) e)), fun e => Free.fore (by decide) (ld2_7 (Free.back (by decide) e)), fun e => Free.fore (by decide) (ld2_8 (Free.back (by decide) e))⟩
      · refine Free.op rfl rfl (fun K hK => ?_)
        obtain rfl := l3 (hne 3 (by kernel_rfl))
        go_simp
        exact hK _ _ ((HI.out _ _ _).2 ⟨sa, sb, sc, v17, v18, v19, _, _, v21, v22, v5, v6, rfl, hW, Free.of_set (by decide) l0, Free.of_set (by decide) l1, Free.of_set (by decide) l2, fun _ => rfl, fun _ => rfl, Free.of_set (by decide) l5, Free.of_set (by decide) l6, Free.of_set (by decide) l7, Free.of_set (by decide) l8, Free.of_set (by decide) lq0, Free.of_set (by decide) lq2, fun e => Free.fore (by decide) (ld0_3 (Free.back (by decide) e)), fun _ => Free.fore (by decide) (ld0_3 (hne 3 (by kernel_rfl))), fun e => Free.fore (by decide) (ld0_5 (Free.back (by decide) e)), fun e => Free.fore (by decide) (ld0_6 (Free.back (by decide) e)), fun e => Free.fore (by decide) (ld0_7 (Free.back (by decide) e)), fun e => Free.fore (by decide) (ld0_8 (Free.back (by decide) e)), fun e => Free.fore (by decide) (ld2_3 (Free.back (by decide) e)), fun _ => Free.fore (by decide) (ld2_3 (hne 3 (by kernel_rfl))), fun e => Free.fore (by decide) (ld2_5 (Free.back (by decide) e)), fun e => Free.fore (by decide) (ld2_6 (Free.back (by decide) e)), fun e => Free.fore (by decide) (ld2_7 (Free.back (by decide) e)), fun e => Free.fore (by decide) (ld2_8 (Free.back (by decide) e))⟩)
      · refine Free.op rfl rfl (fun K hK => ?_)
        obtain rfl := l4 (hne 4 (by kernel_rfl))
        go_simp
        exact hK _ _ ((HI.out _ _ _).2 ⟨sa, sb, sc, v17, v18, v19, v20, _, _, v22, v5, v6, rfl, hW, Free.of_set (by decide) l0, Free.of_set (by decide) l1, Free.of_set (by decide) l2, Free.of_set (by decide) l3, fun _ => rfl, fun _ => rfl, Free.of_set (by decide) l6, Free.of_set (by decide) l7, Free.of_set (by decide) l8, Free.of_set (by decide) lq0, Free.of_set (by decide) lq2, fun e => Free.fore (by decide) (ld0_3 (Free.back (by decide) e)), fun e => Free.fore (by decide) (ld0_4 (Free.back (by decide) e)), fun _ => Free.fore (by decide) (ld0_4 (hne 4 (by kernel_rfl))), fun e => Free.fore (by decide) (ld0_6 (Free.back (by decide) e)), fun e => Free.fore (by decide) (ld0_7 (Free.back (by decide) e)), fun e => Free.fore (by decide) (ld0_8 (Free.back (by decide) e)), fun e => Free.fore (by decide) (ld2_3 (Free.back (by decide) e)), fun e => Free.fore (by decide) (ld2_4 (Free.back (by decide) e)), fun _ => Free.fore (by decide) (ld2_4 (hne 4 (by kernel_rfl))), fun e => Free.fore (by decide) (ld2_6 (Free.back (by decide) e)), fun e => Free.fore (by decide) (ld2_7 (Free.back (by decide) e)), fun e => Free.fore (by decide) (ld2_8 (Free.back (by decide) e))⟩)
      · refine Free.op rfl rfl (fun K hK => ?_)
        obtain rfl := l4 (hne 4 (by kernel_rfl))
        go_simp
        exact hK _ _ ((HI.out _ _ _).2 ⟨sa, sb, sc, v17, v18, v19, v20, _, v21, _, v5, v6, rfl, hW, Free.of_set (by decide) l0, Free.of_set (by decide) l1, Free.of_set (by decide) l2, Free.of_set (by decide) l3, fun _ => rfl, Free.of_set (by decide) l5, fun _ => rfl, Free.of_set (by decide) l7, Free.of_set (by decide) l8, Free.of_set (by decide) lq0, Free.of_set (by decide) lq2, fun e => Free.fore (by decide) (ld0_3 (Free.back (by decide) e)), fun e => Free.fore (by decide) (ld0_4 (Free.back (by decide) e)), fun e => Free.fore (by decide) (ld0_5 (Free.back (by decide) e)), fun _ => Free.fore (by decide) (ld0_4 (hne 4 (by kernel_rfl))), fun e => Free.fore (by decide) (ld0_7 (Free.back (by decide) e)), fun e => Free.fore (by decide) (ld0_8 (Free.back (by decide) e)), fun e => Free.fore (by decide) (ld2_3 (Free.back (by decide) e)), fun e => Free.fore (by decide) (ld2_4 (Free.back (by decide) e)), fun e => Free.fore (by decide) (ld2_5 (Free.back (by decide) e)), fun _ => Free.fore (by decide) (ld2_4 (hne 4 (by kernel_rfl))), fun e => Free.fore (by decide) (ld2_7 (Free.back (by decide) e)), fun e => Free.fore (by decide) (ld2_8 (Free.back (by decide) e))⟩)
      · refine Free.op rfl rfl (fun K hK => ?_)
        obtain rfl := l5 (hne 5 (by kernel_rfl))
        go_simp
        exact hK _ _ ((HI.out _ _ _).2 ⟨sa, sb, sc, v17, v18, v19, v20, v16, _, v22, _, v6, rfl, hW, Free.of_set (by decide) l0, Free.of_set (by decide) l1, Free.of_set (by decide) l2, Free.of_set (by decide) l3, Free.of_set (by decide) l4, fun _ => rfl, Free.of_set (by decide) l6, fun _ => rfl, Free.of_set (by decide) l8, Free.of_set (by decide) lq0, Free.of_set (by decide) lq2, fun e => Free.fore (by decide) (ld0_3 (Free.back (by decide) e)), fun e => Free.fore (by decide) (ld0_4 (Free.back (by decide) e)), fun e => Free.fore (by decide) (ld0_5 (Free.back (by decide) e)), fun e => Free.fore (by decide) (ld0_6 (Free.back (by decide) e)), fun _ => Free.fore (by decide) (ld0_5 (hne 5 (by kernel_rfl))), fun e => Free.fore (by decide) (ld0_8 (Free.back (by decide) e)), fun e => Free.fore (by decide) (ld2_3 (Free.back (by decide) e)), fun e => Free.fore (by decide) (ld2_4 (Free.back (by decide) e)), fun e => Free.fore (by decide) (ld2_5 (Free.back (by decide) e)), fun e => Free.fore (by decide) (ld2_6 (Free.back (by decide) e)), fun _ => Free.fore (by decide) (ld2_5 (hne 5 (by kernel_rfl))), fun e => Free.fore (by decide) (ld2_8 (Free.back (by decide) e))⟩)
      · refine Free.op rfl rfl (fun K hK => ?_)
        obtain rfl := l6 (hne 6 (by kernel_rfl))
        go_simp
        exact hK _ _ ((HI.out _ _ _).2 ⟨sa, sb, sc, v17, v18, v19, v20, v16, v21, _, v5, _, rfl, hW, Free.of_set (by decide) l0, Free.of_set (by decide) l1, Free.of_set (by decide) l2, Free.of_set (by decide) l3, Free.of_set (by decide) l4, Free.of_set (by decide) l5, fun _ => rfl, Free.of_set (by decide) l7, fun _ => rfl, Free.of_set (by decide) lq0, Free.of_set (by decide) lq2, fun e => Free.fore (by decide) (ld0_3 (Free.back (by decide) e)), fun e => Free.fore (by decide) (ld0_4 (Free.back (by decide) e)), fun e => Free.fore (by decide) (ld0_5 (Free.back (by decide) e)), fun e => Free.fore (by decide) (ld0_6 (Free.back (by decide) e)), fun e => Free.fore (by decide) (ld0_7 (Free.back (by decide) e)), fun _ => Free.fore (by decide) (ld0_6 (hne 6 (by kernel_rfl))), fun e => Free.fore (by decide) (ld2_3 (Free.back (by decide) e)), fun e => Free.fore (by decide) (ld2_4 (Free.back (by decide) e)), fun e => Free.fore (by decide) (ld2_5 (Free.back (by decide) e)), fun e => Free.fore (by decide) (ld2_6 (Free.back (by decide) e)), fun e => Free.fore (by decide) (ld2_7 (Free.back (by decide) e)), fun _ => Free.fore (by decide) (ld2_6 (hne 6 (by kernel_rfl)))⟩)
    case s3 =>
      intro listed aq W1 hall hsz hv
      obtain ⟨sa, sb, sc, v17, v18, v19, v20, v16, v21, v22, v5, v6, rfl, hW, l0, l1, l2, l3, l4, l5, l6, l7, l8, lq0, lq2, ld0_3, ld0_4, ld0_5, ld0_6, ld0_7, ld0_8, ld2_3, ld2_4, ld2_5, ld2_6, ld2_7, ld2_8⟩ := (HI.out _ _ _).1 hv
      clear hv HI
      have q0 := lq0 (Free.listed_of hall hsz 0 (by decide))
      have q2 := lq2 (Free.listed_of hall hsz 2 (by decide))
      obtain rfl := l0 (Free.listed_of hall hsz 0 (by decide))
      obtain rfl := l1 (Free.listed_of hall hsz 1 (by decide))
      obtain rfl := (l2 (Free.listed_of hall hsz 2 (by decide))).symm
      obtain rfl := l3 (Free.listed_of hall hsz 3 (by decide))
      obtain rfl := l4 (Free.listed_of hall hsz 4 (by decide))
      obtain rfl := l5 (Free.listed_of hall hsz 5 (by decide))
      obtain rfl := l6 (Free.listed_of hall hsz 6 (by decide))
      obtain rfl := l7 (Free.listed_of hall hsz 7 (by decide))
      obtain rfl := l8 (Free.listed_of hall hsz 8 (by decide))
      clear hall hsz lq0 lq2 ld0_3 ld0_4 ld0_5 ld0_6 ld0_7 ld0_8 ld2_3 ld2_4 ld2_5 ld2_6 ld2_7 ld2_8
      replace hF := hF.step hW
      clear hW hX q0 q2
      obtain rfl := HP.out
      go_upto_region 6 with (go_at_call 13; refine (HST _ _ (lit_lt (3, 2, 1, 0) rfl (by decide))).out.mono ?_; rintro e wn ⟨r, rfl, hq, hb⟩; replace hF := (hF.alloc _).step hb; clear hb; obtain ⟨b5, o5, c5, rfl, -, A5⟩ := hq.open (by simp); have z1 : wn.cell? ⟨b5, o5, none⟩ = some (.int .i64 6) := (A5.2 0 (by simp)).1; have z2 : wn.cell? ⟨b5, o5 + 1, none⟩ = some (.int .i64 1) := (A5.2 0 (by simp)).2.1; have z3 : wn.cell? ⟨b5, o5 + 1 + 1, none⟩ = some (.int .i64 1) := (A5.2 0 (by simp)).2.2.1; clear A5 hq)
      try dsimp only [List.append]
      go_wp2
      go_returns
      exact ⟨rfl, hF.below⟩


theorem walk (lo hi : Int) (w : World) :
    Calls Try.prog 4 #[.agg #[.int .i64 lo, .int .i64 hi]] w fun e w' => e = .returned (.bool true) ∧ Below w.heap.size w w' := by
  by_cases h : Um.chk lo hi = 0
  · exact walk_right lo hi w h
  · exact walk_wrong lo hi w h
end Go.Proofs.Ytmkdjaafkigemaa.NrNone
