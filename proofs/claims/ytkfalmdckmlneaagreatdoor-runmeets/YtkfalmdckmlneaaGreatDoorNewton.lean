/-
  What package newton answers: awayFrom, Step, Run, at every argument.
-/
import Derived.Test.YtkfalmdckmlneaaGreatDoorCenter
import Derived.Test.YtkfalmdckmlneaaGreatDoorSpans
import Derived.Test.YtkfalmdckmlneaaGreatDoorMaths
namespace Go.Proofs.YtkfalmdckmlneaaGreatDoor
set_option linter.unusedSimpArgs false
open Go.RowKit

set_option maxRecDepth 100000 in
set_option maxHeartbeats 4000000 in
theorem away_any (p : List Int) (v : Value) (lo hi m : Int) (w : World) (hl : Li w.heap.size w v p) (ho : Um.over p lo hi = 0) (hm : Um.may m = true) :
    Calls Tryz.prog 150 #[v, .agg #[.int .i64 lo, .int .i64 hi], .int .i64 m] w fun e w' => e = .returned (.tuple #[.agg #[.int .i64 (Um.awayR lo hi p m).1, .int .i64 (Um.awayR lo hi p m).2.1], errV (Um.awayR lo hi p m).2.2]) ∧ Below w.heap.size w w' := by
  have v0 := errV_none
  have q1 := errG
  have q2 := errGn
  have q3 := errE
  have q4 := errN
  have HS := fun w hl => hid (slope_any p v lo hi w hl)
  have HH := fun w hl => hid (horner_any p v m m w hl)
  have es : Um.slopeAll p lo hi = Um.slopeR lo hi p := by unfold Um.slopeAll; rw [if_pos ho]
  have eh : Um.hornAll p m m = Um.hornR m m p := by unfold Um.hornAll; rw [if_pos (Um.over_ok.2 ⟨(Um.over_ok.1 ho).1, Um.chk_alone hm⟩)]
  have HR := hid (Um.away_code (p := p) (m := m) ho)
  have HB := fun w => hid (sby_any (Um.hornR m m p).1 (Um.hornR m m p).2.1 (Um.slopeR lo hi p).1 (Um.slopeR lo hi p).2.1 w)
  have hF := Fr.two w lo hi
  rw [es] at HS
  rw [eh] at HH
  clear es eh ho hm
  generalize Um.awayR lo hi p m = R at *
  generalize Um.slopeR lo hi p = D at *
  generalize Um.hornR m m p = H at *
  generalize Um.made (Um.sbyR H.1 H.2.1 D.1 D.2.1) H.1 H.2.1 D.1 D.2.1 = Q at *
  by_cases h1 : H.2.2 = 0
  · have k1 : (H.2.2 != 0) = false := by simpa using h1
    by_cases h2 : D.2.2 = 0
    · have k2 : (D.2.2 != 0) = false := by simpa using h2
      have HX : Hid (R = Q) := by rw [HR.out, if_pos h1, if_pos h2]; rfl
      clear HR h1 h2
      obtain ⟨a0, cap0, rfl, -⟩ := (id hl)
      go_enter Tryz.func150, Tryz.ntmps150
      go_wp2_with (first | (go_at_call 123; refine (alone_any _ _).mono ?_; rintro e wa ⟨rfl, rfl⟩) | (go_at_call 119; refine (HH _ ((hF.alloc _).li hl)).out.mono ?_; rintro e wn ⟨rfl, hb⟩; replace hF := (hF.alloc _).step hb; clear hb; replace hF := hF.push H.1 H.2.1 rfl; have x2l := (hF.at 2 rfl).lo; have x2h := (hF.at 2 rfl).hi) | (go_at_call 122; refine (HS _ (hF.li hl)).out.mono ?_; rintro e wn ⟨rfl, hb⟩; replace hF := hF.step hb; clear hb; clear x2l x2h; replace hF := hF.push D.1 D.2.1 rfl; have x0l := (hF.at 0 rfl).lo; have x0h := (hF.at 0 rfl).hi; have x1l := (hF.at 1 rfl).lo; have x1h := (hF.at 1 rfl).hi) | (go_at_call 60; refine (HB _).out.mono ?_; rintro e wn ⟨rfl, hb⟩; replace hF := hF.step hb; clear hb; clear x0l x0h x1l x1h; have y1 := (hF.at 2 rfl).fl; have y2 := (hF.at 2 rfl).fh; have y3 := (hF.at 2 rfl).lo; have y4 := (hF.at 2 rfl).hi; have y6 := (hF.at 2 rfl).r0; have y7 := (hF.at 2 rfl).r1))
      refine bodyPost_ret (by simp [results, Tryz.results150, go_sem, y6, y7]; try rfl) rfl ?_
      rw [HX.out]
      exact ⟨rfl, (hF.put 2 rfl _ _ rfl).below⟩
    · have k2 : (D.2.2 != 0) = true := by simpa using h2
      have HX : Hid (R = (0, 0, D.2.2)) := by rw [HR.out, if_pos h1, if_neg h2]; rfl
      clear HR h1 h2
      obtain ⟨a0, cap0, rfl, -⟩ := (id hl)
      go_enter Tryz.func150, Tryz.ntmps150
      go_wp2_with (first | (go_at_call 123; refine (alone_any _ _).mono ?_; rintro e wa ⟨rfl, rfl⟩) | (go_at_call 119; refine (HH _ ((hF.alloc _).li hl)).out.mono ?_; rintro e wn ⟨rfl, hb⟩; replace hF := (hF.alloc _).step hb; clear hb; replace hF := hF.push H.1 H.2.1 rfl; have x2l := (hF.at 2 rfl).lo; have x2h := (hF.at 2 rfl).hi) | (go_at_call 122; refine (HS _ (hF.li hl)).out.mono ?_; rintro e wn ⟨rfl, hb⟩; replace hF := hF.step hb; clear hb; clear x2l x2h; have y1 := (hF.at 1 rfl).fl; have y2 := (hF.at 1 rfl).fh; have y3 := (hF.at 1 rfl).lo; have y4 := (hF.at 1 rfl).hi; have y5 := (hF.at 1 rfl).lt; have y6 := (((hF.at 1 rfl).set 0 0).alloc (.cells #[.int .i64 D.1, .int .i64 D.2.1] 29)).lo; have y7 := (((hF.at 1 rfl).set 0 0).alloc (.cells #[.int .i64 D.1, .int .i64 D.2.1] 29)).hi))
      refine bodyPost_ret (by simp [results, Tryz.results150, go_sem, y6, y7]; try rfl) rfl ?_
      rw [HX.out]
      exact ⟨rfl, ((hF.put 1 rfl _ _ rfl).alloc _).below⟩
  · have k1 : (H.2.2 != 0) = true := by simpa using h1
    have HX : Hid (R = (0, 0, H.2.2)) := by rw [HR.out, if_neg h1]; rfl
    clear HR h1
    obtain ⟨a0, cap0, rfl, -⟩ := (id hl)
    go_enter Tryz.func150, Tryz.ntmps150
    go_wp2_with (first | (go_at_call 123; refine (alone_any _ _).mono ?_; rintro e wa ⟨rfl, rfl⟩) | (go_at_call 119; refine (HH _ ((hF.alloc _).li hl)).out.mono ?_; rintro e wn ⟨rfl, hb⟩; replace hF := (hF.alloc _).step hb; clear hb; have y1 := (hF.at 0 rfl).fl; have y2 := (hF.at 0 rfl).fh; have y3 := (hF.at 0 rfl).lo; have y4 := (hF.at 0 rfl).hi; have y5 := (hF.at 0 rfl).lt; have y6 := (((hF.at 0 rfl).set 0 0).alloc (.cells #[.int .i64 H.1, .int .i64 H.2.1] 29)).lo; have y7 := (((hF.at 0 rfl).set 0 0).alloc (.cells #[.int .i64 H.1, .int .i64 H.2.1] 29)).hi))
    refine bodyPost_ret (by simp [results, Tryz.results150, go_sem, y6, y7]; try rfl) rfl ?_
    rw [HX.out]
    exact ⟨rfl, ((hF.put 0 rfl _ _ rfl).alloc _).below⟩

set_option maxRecDepth 100000 in
set_option maxHeartbeats 4000000 in
theorem step_any (p : List Int) (v : Value) (lo hi : Int) (w : World) (hl : Li w.heap.size w v p) :
    Calls Tryz.prog 127 #[v, .agg #[.int .i64 lo, .int .i64 hi]] w fun e w' => e = .returned (.tuple #[.agg #[.int .i64 (Um.newtAll p lo hi).1, .int .i64 (Um.newtAll p lo hi).2.1], errV (Um.newtAll p lo hi).2.2]) ∧ Below w.heap.size w w' := by
  have v0 := errV_none
  have q1 := errG
  have q2 := errGn
  have q3 := errE
  have q4 := errN
  have hmx : Tryz.prog.follows .mixedOrders = true := by kernel_rfl
  have HO := fun w hl => hid (checkOver_any p v lo hi w hl)
  have hF := Fr.two w lo hi
  have x1l := (hF.at 1 rfl).lo
  have x1h := (hF.at 1 rfl).hi
  by_cases ho : Um.over p lo hi = 0
  · have hc := (Um.over_ok.1 ho).2
    have hm := Um.mid_may hc
    have em : midAll lo hi = (Um.midR lo hi, 0) := by unfold midAll; rw [if_pos hc]
    have en : Um.newtAll p lo hi = Um.newtR lo hi p := by unfold Um.newtAll; rw [if_pos ho]
    have HM := fun w => hid (midAll_any lo hi w)
    have HA := fun w hl => hid (away_any p v lo hi (Um.midR lo hi) w hl ho hm)
    obtain ⟨A, eA⟩ : ∃ A, Um.awayR lo hi p (Um.midR lo hi) = A := ⟨_, rfl⟩
    obtain ⟨S, eS⟩ : ∃ S, Um.made (Um.lessR (Um.midR lo hi) (Um.midR lo hi) A.1 A.2.1) (Um.midR lo hi) (Um.midR lo hi) A.1 A.2.1 = S := ⟨_, rfl⟩
    have HR := hid (Um.newt_code ho eA eS)
    have HL := fun w => hid (less_any (Um.midR lo hi) (Um.midR lo hi) A.1 A.2.1 w)
    have HT := fun w => hid (meet_any S.1 S.2.1 lo hi w)
    rw [eS] at HL
    rw [eA] at HA
    rw [ho] at HO
    rw [em] at HM
    rw [en]
    clear ho hc hm em en eA eS
    generalize Um.newtR lo hi p = R at *
    generalize Um.midR lo hi = m at *
    generalize Um.made (Um.meetR S.1 S.2.1 lo hi) S.1 S.2.1 lo hi = M at *
    by_cases h1 : A.2.2 = 0
    · have k1 : (A.2.2 != 0) = false := by simpa using h1
      have H1 := hid h1
      clear h1
      obtain ⟨a0, cap0, rfl, -⟩ := (id hl)
      go_enter Tryz.func127, Tryz.ntmps127
      go_wp2_with (first | (go_at_call 125; refine (HO _ (hF.li hl)).out.mono ?_; rintro e wn ⟨rfl, hb⟩; replace hF := hF.step hb; clear hb; clear x1l x1h; have x1l := (hF.at 1 rfl).lo; have x1h := (hF.at 1 rfl).hi) | (go_at_call 143; refine (HM _).out.mono ?_; rintro e wn ⟨rfl, hb⟩; replace hF := hF.step hb; clear hb; clear x1l x1h; have x1l := (hF.at 1 rfl).lo; have x1h := (hF.at 1 rfl).hi) | (go_at_call 150; refine (HA _ (hF.li hl)).out.mono ?_; rintro e wn ⟨rfl, hb⟩; replace hF := hF.step hb; clear hb; clear x1l x1h; replace hF := hF.push A.1 A.2.1 rfl))
      generalize wn.alloc (.cells #[.int .i64 A.1, .int .i64 A.2.1] 29) = W at *
      obtain ⟨Inv, hInv⟩ : ∃ Inv : Array Bool → Act → World → Prop, ∀ listed a W', Inv listed a W' ↔ (∃ v39 v40 v41 v42 v38 v43 v44 v10 v8 : Value, a = { tmps := #[Value.slice a0 p.length cap0, Value.agg #[Value.int IntKind.i64 lo, Value.int IntKind.i64 hi], undef, Value.pointer (some { block := w.heap.size, off := 0 }), Value.pointer (some { block := w.heap.size + 1, off := 0 }), Value.nilIface, Value.nilIface, Value.int IntKind.i64 m, v8, Value.pointer (some { block := wn.heap.size, off := 0 }), v10, Value.slice a0 p.length cap0, Value.agg #[Value.int IntKind.i64 lo, Value.int IntKind.i64 hi], Value.nilIface, Value.nilIface, Value.bool false, undef, undef, Value.tuple #[Value.int IntKind.i64 m, Value.nilIface], Value.agg #[Value.int IntKind.i64 lo, Value.int IntKind.i64 hi], Value.tuple #[Value.int IntKind.i64 m, Value.nilIface], Value.int IntKind.i64 m, Value.nilIface, Value.nilIface, Value.bool false, undef, undef, Value.tuple #[Value.agg #[Value.int IntKind.i64 A.fst, Value.int IntKind.i64 A.snd.fst], errV A.snd.snd], Value.slice a0 p.length cap0, Value.agg #[Value.int IntKind.i64 lo, Value.int IntKind.i64 hi], Value.int IntKind.i64 m, Value.tuple #[Value.agg #[Value.int IntKind.i64 A.fst, Value.int IntKind.i64 A.snd.fst], errV A.snd.snd], Value.agg #[Value.int IntKind.i64 A.fst, Value.int IntKind.i64 A.snd.fst], errV A.snd.snd, errV A.snd.snd, Value.bool false, undef, undef, v38, v39, v40, v41, v42, v43, v44, undef, undef, undef, undef, undef, undef, undef, undef, undef], defers := [] } ∧ Below (W).heap.size (W) W' ∧ (listed.getD 0 false = true → v39 = Value.int IntKind.i64 m) ∧ (listed.getD 1 false = true → v40 = .agg #[.int .i64 m, .int .i64 m]) ∧ (listed.getD 2 false = true → v41 = .agg #[.int .i64 A.1, .int .i64 A.2.1]) ∧ (listed.getD 3 false = true → v42 = .tuple #[.agg #[.int .i64 S.1, .int .i64 S.2.1], errV S.2.2]) ∧ (listed.getD 4 false = true → v38 = .tuple #[.agg #[.int .i64 S.1, .int .i64 S.2.1], errV S.2.2]) ∧ (listed.getD 5 false = true → v43 = .agg #[.int .i64 S.1, .int .i64 S.2.1]) ∧ (listed.getD 6 false = true → v44 = errV S.2.2) ∧ (listed.getD 9 false = true → v8 = errV S.2.2) ∧ (listed.getD 7 false = true → ∃ (bn : Nat) (cn dn : Int), v10 = .pointer (some ⟨bn, 0, none⟩) ∧ (W).heap.size ≤ bn ∧ Sp W' bn cn dn ∧ (listed.getD 8 false = true → cn = S.1 ∧ dn = S.2.1)) ∧ (listed.getD 8 false = true → listed.getD 7 false = true)) := ⟨_, fun _ _ _ => Iff.rfl⟩
      have HI := hid hInv
      clear hInv
      refine Free.region hmx (by kernel_rfl) Inv ?s1 ?s2 ?s3
      case s1 =>
        exact (HI.out _ _ _).2 ⟨undef, undef, undef, undef, undef, undef, undef, undef, errV A.snd.snd, rfl, (Below.refl _ _).drew, Free.not_yet, Free.not_yet, Free.not_yet, Free.not_yet, Free.not_yet, Free.not_yet, Free.not_yet, Free.not_yet, Free.not_yet, Free.not_yet⟩
      case s2 =>
        intro i listed a W1 hix hne hnl hsz hv
        obtain ⟨v39, v40, v41, v42, v38, v43, v44, v10, v8, rfl, hW, l0, l1, l2, l3, l4, l5, l6, l9, ln, lp⟩ := (HI.out _ _ _).1 hv
        clear hv
        replace hix : i < 10 := hix
        replace hsz : listed.size = 10 := hsz
        rcases (by omega : i = 0 ∨ i = 1 ∨ i = 2 ∨ i = 3 ∨ i = 4 ∨ i = 5 ∨ i = 6 ∨ i = 7 ∨ i = 8 ∨ i = 9) with rfl | rfl | rfl | rfl | rfl | rfl | rfl | rfl | rfl | rfl
        · refine Free.op rfl rfl (fun K hK => ?_)
          go_simp
          exact hK _ _ ((HI.out _ _ _).2 ⟨_, v40, v41, v42, v38, v43, v44, v10, v8, rfl, hW, fun _ => rfl, Free.of_set (by decide) l1, Free.of_set (by decide) l2, Free.of_set (by decide) l3, Free.of_set (by decide) l4, Free.of_set (by decide) l5, Free.of_set (by decide) l6, Free.of_set (by decide) l9, fun e => by obtain ⟨bn, cn, dn, q1, q2, q3, q4⟩ := ln (Free.back (by decide) e); exact ⟨bn, cn, dn, q1, q2, q3, fun e2 => q4 (Free.back (by decide) e2)⟩, fun e => Free.fore (by decide) (lp (Free.back (by decide) e))⟩)
        · refine Free.op rfl rfl (fun K hK => ?_)
          obtain rfl := l0 (hne 0 (by kernel_rfl))
          go_wp2_with (go_at_call 123; refine (alone_any _ _).mono ?_; rintro e W3 ⟨rfl, rfl⟩)
          exact (HI.out _ _ _).2 ⟨_, _, v41, v42, v38, v43, v44, v10, v8, rfl, hW.alloc hW.size _, fun _ => rfl, fun _ => rfl, Free.of_set (by decide) l2, Free.of_set (by decide) l3, Free.of_set (by decide) l4, Free.of_set (by decide) l5, Free.of_set (by decide) l6, Free.of_set (by decide) l9, fun e => by obtain ⟨bn, cn, dn, q1, q2, q3, q4⟩ := ln (Free.back (by decide) e); exact ⟨bn, cn, dn, q1, q2, (q3.step ((Below.refl _ _).alloc (Nat.le_refl _) _)), fun e2 => q4 (Free.back (by decide) e2)⟩, fun e => Free.fore (by decide) (lp (Free.back (by decide) e))⟩
        · have z1 := ((hF.step hW).at 0 rfl).lo
          have z2 := ((hF.step hW).at 0 rfl).hi
          refine Free.op rfl rfl (fun K hK => ?_)
          go_simp
          exact hK _ _ ((HI.out _ _ _).2 ⟨v39, v40, _, v42, v38, v43, v44, v10, v8, rfl, hW, Free.of_set (by decide) l0, Free.of_set (by decide) l1, fun _ => rfl, Free.of_set (by decide) l3, Free.of_set (by decide) l4, Free.of_set (by decide) l5, Free.of_set (by decide) l6, Free.of_set (by decide) l9, fun e => by obtain ⟨bn, cn, dn, q1, q2, q3, q4⟩ := ln (Free.back (by decide) e); exact ⟨bn, cn, dn, q1, q2, q3, fun e2 => q4 (Free.back (by decide) e2)⟩, fun e => Free.fore (by decide) (lp (Free.back (by decide) e))⟩)
        · refine Free.op rfl rfl (fun K hK => ?_)
          obtain rfl := l1 (hne 1 (by kernel_rfl))
          obtain rfl := l2 (hne 2 (by kernel_rfl))
          go_wp2_with (go_at_call 58; refine (HL _).out.mono ?_; rintro e W3 ⟨rfl, hb⟩)
          exact (HI.out _ _ _).2 ⟨v39, _, _, _, v38, v43, v44, v10, v8, rfl, hW.trans (hb.mono hW.size), Free.of_set (by decide) l0, fun _ => rfl, fun _ => rfl, fun _ => rfl, Free.of_set (by decide) l4, Free.of_set (by decide) l5, Free.of_set (by decide) l6, Free.of_set (by decide) l9, fun e => by obtain ⟨bn, cn, dn, q1, q2, q3, q4⟩ := ln (Free.back (by decide) e); exact ⟨bn, cn, dn, q1, q2, (q3.step hb), fun e2 => q4 (Free.back (by decide) e2)⟩, fun e => Free.fore (by decide) (lp (Free.back (by decide) e))⟩
        · refine Free.op rfl rfl (fun K hK => ?_)
          obtain rfl := l3 (hne 3 (by kernel_rfl))
          go_simp
          exact hK _ _ ((HI.out _ _ _).2 ⟨v39, v40, v41, _, _, v43, v44, v10, v8, rfl, hW, Free.of_set (by decide) l0, Free.of_set (by decide) l1, Free.of_set (by decide) l2, fun _ => rfl, fun _ => rfl, Free.of_set (by decide) l5, Free.of_set (by decide) l6, Free.of_set (by decide) l9, fun e => by obtain ⟨bn, cn, dn, q1, q2, q3, q4⟩ := ln (Free.back (by decide) e); exact ⟨bn, cn, dn, q1, q2, q3, fun e2 => q4 (Free.back (by decide) e2)⟩, fun e => Free.fore (by decide) (lp (Free.back (by decide) e))⟩)
        · refine Free.op rfl rfl (fun K hK => ?_)
          obtain rfl := l4 (hne 4 (by kernel_rfl))
          go_simp
          exact hK _ _ ((HI.out _ _ _).2 ⟨v39, v40, v41, v42, _, _, v44, v10, v8, rfl, hW, Free.of_set (by decide) l0, Free.of_set (by decide) l1, Free.of_set (by decide) l2, Free.of_set (by decide) l3, fun _ => rfl, fun _ => rfl, Free.of_set (by decide) l6, Free.of_set (by decide) l9, fun e => by obtain ⟨bn, cn, dn, q1, q2, q3, q4⟩ := ln (Free.back (by decide) e); exact ⟨bn, cn, dn, q1, q2, q3, fun e2 => q4 (Free.back (by decide) e2)⟩, fun e => Free.fore (by decide) (lp (Free.back (by decide) e))⟩)
        · refine Free.op rfl rfl (fun K hK => ?_)
          obtain rfl := l4 (hne 4 (by kernel_rfl))
          go_simp
          exact hK _ _ ((HI.out _ _ _).2 ⟨v39, v40, v41, v42, _, v43, _, v10, v8, rfl, hW, Free.of_set (by decide) l0, Free.of_set (by decide) l1, Free.of_set (by decide) l2, Free.of_set (by decide) l3, fun _ => rfl, Free.of_set (by decide) l5, fun _ => rfl, Free.of_set (by decide) l9, fun e => by obtain ⟨bn, cn, dn, q1, q2, q3, q4⟩ := ln (Free.back (by decide) e); exact ⟨bn, cn, dn, q1, q2, q3, fun e2 => q4 (Free.back (by decide) e2)⟩, fun e => Free.fore (by decide) (lp (Free.back (by decide) e))⟩)
        · have hs : listed.getD 8 false = false := by
            cases e : listed.getD 8 false
            · rfl
            · rw [Free.off hnl] at lp; cases lp e
          refine Free.op rfl rfl (fun K hK => ?_)
          go_simp
          exact hK _ _ ((HI.out _ _ _).2 ⟨v39, v40, v41, v42, v38, v43, v44, _, v8, rfl, hW.alloc hW.size _, Free.of_set (by decide) l0, Free.of_set (by decide) l1, Free.of_set (by decide) l2, Free.of_set (by decide) l3, Free.of_set (by decide) l4, Free.of_set (by decide) l5, Free.of_set (by decide) l6, Free.of_set (by decide) l9, fun _ => ⟨_, _, _, rfl, hW.size, Sp.new _ _ _, fun e => by rw [Free.set_other (by decide), hs] at e; cases e⟩, fun e => by rw [Free.set_other (by decide), hs] at e; cases e⟩)
        · have N := hid (hne 7 (by kernel_rfl))
          obtain ⟨bn, cn, dn, q1, q2, q3, q4⟩ := ln N.out
          subst q1
          have y1 := q3.fl
          have y2 := q3.fh
          have y3 := q3.lo
          have y4 := q3.hi
          refine Free.op rfl rfl (fun K hK => ?_)
          obtain rfl := l5 (hne 5 (by kernel_rfl))
          go_simp
          exact hK _ _ ((HI.out _ _ _).2 ⟨v39, v40, v41, v42, v38, _, v44, _, v8, rfl, (hW.setCell q2 _).setCell q2 _, Free.of_set (by decide) l0, Free.of_set (by decide) l1, Free.of_set (by decide) l2, Free.of_set (by decide) l3, Free.of_set (by decide) l4, fun _ => rfl, Free.of_set (by decide) l6, Free.of_set (by decide) l9, fun _ => ⟨_, _, _, rfl, q2, q3.set _ _, fun _ => ⟨rfl, rfl⟩⟩, fun _ => Free.fore (by decide) N.out⟩)
        · refine Free.op rfl rfl (fun K hK => ?_)
          obtain rfl := l6 (hne 6 (by kernel_rfl))
          go_simp
          exact hK _ _ ((HI.out _ _ _).2 ⟨v39, v40, v41, v42, v38, v43, _, v10, _, rfl, hW, Free.of_set (by decide) l0, Free.of_set (by decide) l1, Free.of_set (by decide) l2, Free.of_set (by decide) l3, Free.of_set (by decide) l4, Free.of_set (by decide) l5, fun _ => rfl, fun _ => rfl, fun e => by obtain ⟨bn, cn, dn, q1, q2, q3, q4⟩ := ln (Free.back (by decide) e); exact ⟨bn, cn, dn, q1, q2, q3, fun e2 => q4 (Free.back (by decide) e2)⟩, fun e => Free.fore (by decide) (lp (Free.back (by decide) e))⟩)
      case s3 =>
        intro listed a W1 hall hsz hv
        obtain ⟨v39, v40, v41, v42, v38, v43, v44, v10, v8, rfl, hW, l0, l1, l2, l3, l4, l5, l6, l9, ln, lp⟩ := (HI.out _ _ _).1 hv
        clear hv HI
        obtain ⟨bn, cn, dn, rfl, hbn, hSn, q4⟩ := ln (Free.listed_of hall hsz 7 (by decide))
        obtain ⟨rfl, rfl⟩ := q4 (Free.listed_of hall hsz 8 (by decide))
        clear ln lp
        obtain rfl := l0 (Free.listed_of hall hsz 0 (by decide))
        obtain rfl := l1 (Free.listed_of hall hsz 1 (by decide))
        obtain rfl := l2 (Free.listed_of hall hsz 2 (by decide))
        obtain rfl := l3 (Free.listed_of hall hsz 3 (by decide))
        obtain rfl := l4 (Free.listed_of hall hsz 4 (by decide))
        obtain rfl := l5 (Free.listed_of hall hsz 5 (by decide))
        obtain rfl := l6 (Free.listed_of hall hsz 6 (by decide))
        obtain rfl := l9 (Free.listed_of hall hsz 9 (by decide))
        clear hall hsz
        have h1 := H1.out
        clear H1
        replace hF := hF.add hW hSn hbn
        by_cases h2 : S.2.2 = 0
        · have k2 : (S.2.2 != 0) = false := by simpa using h2
          have HX : Hid (R = M) := by rw [HR.out, if_pos h1, if_pos h2]; rfl
          clear HR h1 h2 hW hSn hbn
          have x0l := (hF.at 0 rfl).lo
          have x0h := (hF.at 0 rfl).hi
          have x3l := (hF.at 3 rfl).lo
          have x3h := (hF.at 3 rfl).hi
          go_wp2_with (go_at_call 61; refine (HT _).out.mono ?_; rintro e wn ⟨rfl, hb⟩; replace hF := hF.step hb; clear hb; clear x0l x0h x3l x3h; have y1 := (hF.at 2 rfl).fl; have y2 := (hF.at 2 rfl).fh; have y3 := (hF.at 2 rfl).lo; have y4 := (hF.at 2 rfl).hi; have y6 := (hF.at 2 rfl).r0; have y7 := (hF.at 2 rfl).r1)
          refine bodyPost_ret (by simp [results, Tryz.results127, go_sem, y6, y7]; try rfl) rfl ?_
          rw [HX.out]
          exact ⟨rfl, (hF.put 2 rfl _ _ rfl).below⟩
        · have k2 : (S.2.2 != 0) = true := by simpa using h2
          have HX : Hid (R = (0, 0, S.2.2)) := by rw [HR.out, if_pos h1, if_neg h2]; rfl
          clear HR h1 h2 hW hSn hbn
          have y1 := (hF.at 2 rfl).fl
          have y2 := (hF.at 2 rfl).fh
          have y3 := (hF.at 2 rfl).lo
          have y4 := (hF.at 2 rfl).hi
          have y6 := (hF.at 2 rfl).r0
          have y7 := (hF.at 2 rfl).r1
          go_wp2
          refine bodyPost_ret (by simp [results, Tryz.results127, go_sem, y6, y7]; try rfl) rfl ?_
          rw [HX.out]
          exact ⟨rfl, (hF.put 2 rfl _ _ rfl).below⟩

    · have k1 : (A.2.2 != 0) = true := by simpa using h1
      have HX : Hid (R = (0, 0, A.2.2)) := by rw [HR.out, if_neg h1]; rfl
      clear HR h1
      obtain ⟨a0, cap0, rfl, -⟩ := (id hl)
      go_enter Tryz.func127, Tryz.ntmps127
      go_wp2_with (first | (go_at_call 125; refine (HO _ (hF.li hl)).out.mono ?_; rintro e wn ⟨rfl, hb⟩; replace hF := hF.step hb; clear hb; clear x1l x1h; have x1l := (hF.at 1 rfl).lo; have x1h := (hF.at 1 rfl).hi) | (go_at_call 143; refine (HM _).out.mono ?_; rintro e wn ⟨rfl, hb⟩; replace hF := hF.step hb; clear hb; clear x1l x1h; have x1l := (hF.at 1 rfl).lo; have x1h := (hF.at 1 rfl).hi) | (go_at_call 150; refine (HA _ (hF.li hl)).out.mono ?_; rintro e wn ⟨rfl, hb⟩; replace hF := hF.step hb; clear hb; clear x1l x1h; have y1 := (hF.at 0 rfl).fl; have y2 := (hF.at 0 rfl).fh; have y3 := (hF.at 0 rfl).lo; have y4 := (hF.at 0 rfl).hi; have y5 := (hF.at 0 rfl).lt; have y6 := (((hF.at 0 rfl).set 0 0).alloc (.cells #[.int .i64 A.1, .int .i64 A.2.1] 29)).lo; have y7 := (((hF.at 0 rfl).set 0 0).alloc (.cells #[.int .i64 A.1, .int .i64 A.2.1] 29)).hi))
      refine bodyPost_ret (by simp [results, Tryz.results127, go_sem, y6, y7]; try rfl) rfl ?_
      rw [HX.out]
      exact ⟨rfl, ((hF.put 0 rfl _ _ rfl).alloc _).below⟩
  · have HX : Hid (Um.newtAll p lo hi = (0, 0, Um.over p lo hi)) := by
      unfold Um.newtAll; rw [if_neg ho]; rfl
    have k : (Um.over p lo hi != 0) = true := by simpa using ho
    clear ho
    generalize Um.newtAll p lo hi = R at *
    generalize Um.over p lo hi = G at *
    obtain ⟨a0, cap0, rfl, -⟩ := (id hl)
    go_enter Tryz.func127, Tryz.ntmps127
    go_wp2_with (first | (go_at_call 125; refine (HO _ (hF.li hl)).out.mono ?_; rintro e wn ⟨rfl, hb⟩; replace hF := hF.step hb; clear hb; clear x1l x1h; have y1 := (hF.at 0 rfl).fl; have y2 := (hF.at 0 rfl).fh; have y3 := (hF.at 0 rfl).lo; have y4 := (hF.at 0 rfl).hi; have y6 := (hF.at 0 rfl).r0; have y7 := (hF.at 0 rfl).r1))
    refine bodyPost_ret (by simp [results, Tryz.results127, go_sem, y6, y7]; try rfl) rfl ?_
    rw [HX.out]
    exact ⟨rfl, (hF.put 0 rfl _ _ rfl).below⟩

set_option maxRecDepth 100000 in
set_option maxHeartbeats 8000000 in
theorem run_low (p : List Int) (v : Value) (lo hi steps : Int) (w : World) (hl : Li w.heap.size w v p) (h : steps < 0) :
    Calls Tryz.prog 101 #[v, .agg #[.int .i64 lo, .int .i64 hi], .int .i64 steps] w fun e w' => e = .returned (.tuple #[.agg #[.int .i64 0, .int .i64 0], errV (1)]) ∧ Below w.heap.size w w' := by
  have v0 := errV_none
  have q1 := errG
  have q2 := errGn
  have q3 := errE
  have q4 := errN
  have HO := fun w hl => hid (checkOver_any p v lo hi w hl)
  have hF := Fr.two w lo hi
  have x1l := (hF.at 1 rfl).lo
  have x1h := (hF.at 1 rfl).hi
  have t : decide (steps < 0) = true := by simpa using h
  clear h
  obtain ⟨a0, cap0, rfl, -⟩ := (id hl)
  go_enter Tryz.func101, Tryz.ntmps101
  go_wp2
  go_returns
  exact ⟨rfl, hF.below⟩

set_option maxRecDepth 100000 in
set_option maxHeartbeats 8000000 in
theorem run_high (p : List Int) (v : Value) (lo hi steps : Int) (w : World) (hl : Li w.heap.size w v p) (h0 : ¬ steps < 0) (h : 20 < steps) :
    Calls Tryz.prog 101 #[v, .agg #[.int .i64 lo, .int .i64 hi], .int .i64 steps] w fun e w' => e = .returned (.tuple #[.agg #[.int .i64 0, .int .i64 0], errV (1)]) ∧ Below w.heap.size w w' := by
  have v0 := errV_none
  have q1 := errG
  have q2 := errGn
  have q3 := errE
  have q4 := errN
  have HO := fun w hl => hid (checkOver_any p v lo hi w hl)
  have hF := Fr.two w lo hi
  have x1l := (hF.at 1 rfl).lo
  have x1h := (hF.at 1 rfl).hi
  have t0 : decide (steps < 0) = false := by simpa using h0
  have t : decide (20 < steps) = true := by simpa using h
  clear h h0
  obtain ⟨a0, cap0, rfl, -⟩ := (id hl)
  go_enter Tryz.func101, Tryz.ntmps101
  go_wp2
  go_returns
  exact ⟨rfl, hF.below⟩

set_option maxRecDepth 100000 in
set_option maxHeartbeats 8000000 in
theorem run_over (p : List Int) (v : Value) (lo hi steps : Int) (w : World) (hl : Li w.heap.size w v p) (h0 : ¬ steps < 0) (h1 : ¬ 20 < steps) (h : ¬ Um.over p lo hi = 0) :
    Calls Tryz.prog 101 #[v, .agg #[.int .i64 lo, .int .i64 hi], .int .i64 steps] w fun e w' => e = .returned (.tuple #[.agg #[.int .i64 0, .int .i64 0], errV (Um.over p lo hi)]) ∧ Below w.heap.size w w' := by
  have v0 := errV_none
  have q1 := errG
  have q2 := errGn
  have q3 := errE
  have q4 := errN
  have HO := fun w hl => hid (checkOver_any p v lo hi w hl)
  have hF := Fr.two w lo hi
  have x1l := (hF.at 1 rfl).lo
  have x1h := (hF.at 1 rfl).hi
  have t0 : decide (steps < 0) = false := by simpa using h0
  have t1 : decide (20 < steps) = false := by simpa using h1
  have k : (Um.over p lo hi != 0) = true := by simpa using h
  clear h h0 h1
  generalize Um.over p lo hi = G at *
  obtain ⟨a0, cap0, rfl, -⟩ := (id hl)
  go_enter Tryz.func101, Tryz.ntmps101
  go_wp2_with (go_at_call 125; refine (HO _ (hF.li hl)).out.mono ?_; rintro e wn ⟨rfl, hb⟩; replace hF := hF.step hb; clear hb; clear x1l x1h; have y1 := (hF.at 0 rfl).fl; have y2 := (hF.at 0 rfl).fh; have y3 := (hF.at 0 rfl).lo; have y4 := (hF.at 0 rfl).hi; have y6 := (hF.at 0 rfl).r0; have y7 := (hF.at 0 rfl).r1)
  refine bodyPost_ret (by simp [results, Tryz.results101, go_sem, y6, y7]; try rfl) rfl ?_
  exact ⟨rfl, (hF.put 0 rfl _ _ rfl).below⟩

set_option maxRecDepth 100000 in
set_option maxHeartbeats 8000000 in
theorem run_right (p : List Int) (v : Value) (lo hi steps : Int) (w : World) (hl : Li w.heap.size w v p) (h0 : ¬ steps < 0) (h1 : ¬ 20 < steps) (ho : Um.over p lo hi = 0) :
    Calls Tryz.prog 101 #[v, .agg #[.int .i64 lo, .int .i64 hi], .int .i64 steps] w fun e w' => e = .returned (.tuple #[.agg #[.int .i64 (Um.stR lo hi p steps.toNat).1, .int .i64 (Um.stR lo hi p steps.toNat).2.1], errV (Um.stR lo hi p steps.toNat).2.2]) ∧ Below w.heap.size w w' := by
  have v0 := errV_none
  have q1 := errG
  have q2 := errGn
  have q3 := errE
  have q4 := errN
  have HO := fun w hl => hid (checkOver_any p v lo hi w hl)
  have hF := Fr.two w lo hi
  have x1l := (hF.at 1 rfl).lo
  have x1h := (hF.at 1 rfl).hi
  have t0 : decide (steps < 0) = false := by simpa using h0
  have t1 : decide (20 < steps) = false := by simpa using h1
  have HOV := hid ho
  rw [ho] at HO
  clear ho
  obtain ⟨a0, cap0, rfl, -⟩ := (id hl)
  go_enter Tryz.func101, Tryz.ntmps101
  go_wp2_with (go_at_call 125; refine (HO _ (hF.li hl)).out.mono ?_; rintro e wn ⟨rfl, hb⟩; replace hF := hF.step hb; clear hb; clear x1l x1h; have x1l := (hF.at 1 rfl).lo; have x1h := (hF.at 1 rfl).hi)
  go_loopw [27] (fun i wr => ∃ k : Nat, k ≤ steps.toNat ∧ i = .int .i64 k ∧ Fr w wr [(w.heap.size + 1, 0, 0), (w.heap.size, (Um.stR lo hi p k).1, (Um.stR lo hi p k).2.1)] ∧ Hid ((Um.stR lo hi p k).2.2 = 0)) (fun i _ => steps.toNat - (intOf i).toNat)
  case atStart => exact ⟨0, by omega, rfl, hF, hid rfl⟩
  case round =>
    clear hF
    obtain ⟨k, hk, rfl, hF, hz⟩ := hrel
    by_cases hkl : k < steps.toNat
    · have hkk : (k : Int) < steps := by omega
      have HS := fun w hl => by
        have := step_any p (.slice a0 p.length cap0) (Um.stR lo hi p k).1 (Um.stR lo hi p k).2.1 w hl
        unfold Um.newtAll at this
        rw [if_pos (Um.st_over HOV.out hz.out)] at this
        exact hid this
      have HN := hid (Um.st_succ lo hi p k)
      have HT := fun (h : ¬ (Um.newtR (Um.stR lo hi p k).1 (Um.stR lo hi p k).2.1 p).2.2 = 0) => hid (Um.run_bad (lo := lo) (hi := hi) (p := p) hkl hz.out h)
      have HQ := fun (h : Um.newtR (Um.stR lo hi p k).1 (Um.stR lo hi p k).2.1 p = ((Um.stR lo hi p k).1, (Um.stR lo hi p k).2.1, 0)) => hid (Um.run_same (lo := lo) (hi := hi) (p := p) (n := steps.toNat) hkl hz.out h)
      rw [if_pos hz.out] at HN
      clear HOV
      generalize Um.stR lo hi p k = A at *
      generalize Um.newtR A.1 A.2.1 p = N at *
      have x1l := (hF.at 1 rfl).lo
      have x1h := (hF.at 1 rfl).hi
      by_cases hN : N.2.2 = 0
      · have kN : (N.2.2 != 0) = false := by simpa using hN
        clear HT
        by_cases e1 : N.1 = A.1
        · have t1 : (N.1 == A.1) = true := by simpa using e1
          by_cases e2 : N.2.1 = A.2.1
          · have t2 : (N.2.1 == A.2.1) = true := by simpa using e2
            have HX := HQ (by obtain ⟨n1, n2, n3⟩ := N; simp only at hN e1 e2; subst hN; subst e1; subst e2; rfl)
            clear HQ HN hN e1 e2 hz
            go_wp2_with (go_at_call 127; refine (HS _ (hF.li hl)).out.mono ?_; rintro e wn ⟨rfl, hb⟩; replace hF := hF.step hb; clear hb; clear x1l x1h; replace hF := hF.push N.1 N.2.1 rfl; have x0l := (hF.at 0 rfl).lo; have x0h := (hF.at 0 rfl).hi; have x2l := (hF.at 2 rfl).lo; have x2h := (hF.at 2 rfl).hi; have y1 := (hF.at 1 rfl).fl; have y2 := (hF.at 1 rfl).fh; have y3 := (hF.at 1 rfl).lo; have y4 := (hF.at 1 rfl).hi; have y6 := (hF.at 1 rfl).r0; have y7 := (hF.at 1 rfl).r1)
            refine bodyPost_ret (by simp [results, Tryz.results101, go_sem, y6, y7]; try rfl) rfl ?_
            rw [HX.out]
            exact ⟨rfl, (hF.put 1 rfl _ _ rfl).below⟩
          · have t2 : (N.2.1 == A.2.1) = false := by simpa using e2
            clear HQ e1 e2 hz
            go_wp2_with (go_at_call 127; refine (HS _ (hF.li hl)).out.mono ?_; rintro e wn ⟨rfl, hb⟩; replace hF := hF.step hb; clear hb; clear x1l x1h; replace hF := hF.push N.1 N.2.1 rfl; have x0l := (hF.at 0 rfl).lo; have x0h := (hF.at 0 rfl).hi; have x2l := (hF.at 2 rfl).lo; have x2h := (hF.at 2 rfl).hi; have y1 := (hF.at 2 rfl).fl; have y2 := (hF.at 2 rfl).fh; have y3 := (hF.at 2 rfl).lo; have y4 := (hF.at 2 rfl).hi; have y6 := (hF.at 2 rfl).r0; have y7 := (hF.at 2 rfl).r1)
            replace hF := (hF.put 2 rfl N.1 N.2.1 rfl).drop
            exact ⟨⟨k + 1, by omega, by simp, by rw [HN.out]; exact hF, by rw [HN.out]; exact hid hN⟩, by simp [intOf]; omega⟩
        · have t1 : (N.1 == A.1) = false := by simpa using e1
          clear HQ e1 hz
          go_wp2_with (go_at_call 127; refine (HS _ (hF.li hl)).out.mono ?_; rintro e wn ⟨rfl, hb⟩; replace hF := hF.step hb; clear hb; clear x1l x1h; replace hF := hF.push N.1 N.2.1 rfl; have x0l := (hF.at 0 rfl).lo; have x0h := (hF.at 0 rfl).hi; have x2l := (hF.at 2 rfl).lo; have x2h := (hF.at 2 rfl).hi; have y1 := (hF.at 2 rfl).fl; have y2 := (hF.at 2 rfl).fh; have y3 := (hF.at 2 rfl).lo; have y4 := (hF.at 2 rfl).hi; have y6 := (hF.at 2 rfl).r0; have y7 := (hF.at 2 rfl).r1)
          replace hF := (hF.put 2 rfl N.1 N.2.1 rfl).drop
          exact ⟨⟨k + 1, by omega, by simp, by rw [HN.out]; exact hF, by rw [HN.out]; exact hid hN⟩, by simp [intOf]; omega⟩
      · have kN : (N.2.2 != 0) = true := by simpa using hN
        have HX := HT hN
        clear HQ HT HN hN hz
        go_wp2_with (go_at_call 127; refine (HS _ (hF.li hl)).out.mono ?_; rintro e wn ⟨rfl, hb⟩; replace hF := hF.step hb; clear hb; clear x1l x1h; have y1 := (hF.at 0 rfl).fl; have y2 := (hF.at 0 rfl).fh; have y3 := (hF.at 0 rfl).lo; have y4 := (hF.at 0 rfl).hi; have y5 := (hF.at 0 rfl).lt; have y6 := (((hF.at 0 rfl).set 0 0).alloc (.cells #[.int .i64 N.1, .int .i64 N.2.1] 29)).lo; have y7 := (((hF.at 0 rfl).set 0 0).alloc (.cells #[.int .i64 N.1, .int .i64 N.2.1] 29)).hi)
        refine bodyPost_ret (by simp [results, Tryz.results101, go_sem, y6, y7]; try rfl) rfl ?_
        rw [HX.out]
        exact ⟨rfl, ((hF.put 0 rfl _ _ rfl).alloc _).below⟩
    · obtain rfl : k = steps.toNat := by omega
      have x1l := (hF.at 1 rfl).lo
      have x1h := (hF.at 1 rfl).hi
      have y1 := (hF.at 0 rfl).fl; have y2 := (hF.at 0 rfl).fh; have y3 := (hF.at 0 rfl).lo; have y4 := (hF.at 0 rfl).hi; have y6 := (hF.at 0 rfl).r0; have y7 := (hF.at 0 rfl).r1
      have hkk : ¬ ((steps.toNat : Int) < steps) := by omega
      have HX : Hid (Um.stR lo hi p steps.toNat = ((Um.stR lo hi p steps.toNat).1, (Um.stR lo hi p steps.toNat).2.1, 0)) := by rw [← hz.out]; exact hid rfl
      clear hz HOV
      go_wp2
      refine bodyPost_ret (by simp [results, Tryz.results101, go_sem, y6, y7]; try rfl) rfl ?_
      rw [HX.out]
      exact ⟨rfl, (hF.put 0 rfl _ _ rfl).below⟩

/-- At every argument. -/
theorem run_any (p : List Int) (v : Value) (lo hi steps : Int) (w : World) (hl : Li w.heap.size w v p) :
    Calls Tryz.prog 101 #[v, .agg #[.int .i64 lo, .int .i64 hi], .int .i64 steps] w fun e w' => e = .returned (.tuple #[.agg #[.int .i64 (Um.runAll p lo hi steps).1, .int .i64 (Um.runAll p lo hi steps).2.1], errV (Um.runAll p lo hi steps).2.2]) ∧ Below w.heap.size w w' := by
  unfold Um.runAll
  by_cases h0 : steps < 0
  · have e : Um.runF p lo hi steps = 1 := by unfold Um.runF; rw [if_neg (by omega)]
    rw [e, if_neg (by decide)]
    exact run_low p v lo hi steps w hl h0
  · by_cases h1 : 20 < steps
    · have e : Um.runF p lo hi steps = 1 := by unfold Um.runF; rw [if_neg (by omega)]
      rw [e, if_neg (by decide)]
      exact run_high p v lo hi steps w hl h0 h1
    · have e : Um.runF p lo hi steps = Um.over p lo hi := by unfold Um.runF; rw [if_pos (by omega)]
      rw [e]
      by_cases ho : Um.over p lo hi = 0
      · rw [if_pos ho]
        exact run_right p v lo hi steps w hl h0 h1 ho
      · rw [if_neg ho]
        exact run_over p v lo hi steps w hl h0 h1 ho
end Go.Proofs.YtkfalmdckmlneaaGreatDoor
