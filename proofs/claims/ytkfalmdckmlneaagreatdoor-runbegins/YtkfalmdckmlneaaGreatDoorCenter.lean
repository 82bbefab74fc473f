/-
  What package center answers: Slope, changeFrom, Range, Best, at every argument.
-/
import Derived.Test.YtkfalmdckmlneaaGreatDoorPolys
import Derived.Test.YtkfalmdckmlneaaGreatDoorSpans
import Derived.Test.YtkfalmdckmlneaaGreatDoorMaths
import Derived.Test.YtkfalmdckmlneaaGreatDoorMems
namespace Go.Proofs.YtkfalmdckmlneaaGreatDoor
set_option linter.unusedSimpArgs false
open Go.RowKit


set_option maxHeartbeats 1000000 in
theorem slope_any (p : List Int) (v : Value) (lo hi : Int) (w : World) (hl : Li w.heap.size w v p) :
    Calls Tryz.prog 122 #[v, .agg #[.int .i64 lo, .int .i64 hi]] w fun e w' => e = .returned (.tuple #[.agg #[.int .i64 (Um.slopeAll p lo hi).1, .int .i64 (Um.slopeAll p lo hi).2.1], errV (Um.slopeAll p lo hi).2.2]) ∧ Below w.heap.size w w' := by
  have q1 := errG
  have q2 := errGn
  have q3 := errE
  have q4 := errN
  have HO := fun w hl => hid (checkOver_any p v lo hi w hl)
  have HD := fun w hl => hid (derive_any p v w hl)
  have hF := Fr.two w lo hi
  have x1l := (hF.at 1 rfl).lo
  have x1h := (hF.at 1 rfl).hi
  by_cases ho : Um.over p lo hi = 0
  · have e4 : derAll p = Um.derR p := by unfold derAll; rw [if_pos (Um.over_ok.1 ho).1]
    rw [ho] at HO
    rw [e4] at HD
    by_cases hd : (Um.derR p).2 = 0
    · have HR : Hid (Um.slopeAll p lo hi = Um.hornAll (Um.derR p).1 lo hi) := by
        have := Um.slope_code ho hd
        unfold Um.slopeAll; rw [if_pos ho, this]; rfl
      have HH := fun v w hl => hid (horner_any (Um.derR p).1 v lo hi w hl)
      rw [hd] at HD
      clear ho hd e4
      generalize Um.derR p = D at *
      generalize Um.hornAll D.1 lo hi = R at *
      obtain ⟨a0, cap0, rfl, -⟩ := (id hl)
      go_enter Tryz.func122, Tryz.ntmps122
      go_wp2_with (first | (go_at_call 125; refine (HO _ (hF.li hl)).out.mono ?_; rintro e wn ⟨rfl, hb⟩; replace hF := hF.step hb; clear hb; clear x1l x1h; have x1l := (hF.at 1 rfl).lo; have x1h := (hF.at 1 rfl).hi) | (go_at_call 145; refine (HD _ (hF.li hl)).out.mono ?_; rintro e wn ⟨v8, rfl, l8, hb⟩; replace hF := hF.step hb; clear hb; clear x1l x1h; have x1l := (hF.at 1 rfl).lo; have x1h := (hF.at 1 rfl).hi) | (go_at_call 119; refine (HH _ _ l8).out.mono ?_; rintro e wn ⟨rfl, hb⟩; replace hF := hF.step hb; clear hb; clear x1l x1h; have y1 := (hF.at 0 rfl).fl; have y2 := (hF.at 0 rfl).fh; have y3 := (hF.at 0 rfl).lo; have y4 := (hF.at 0 rfl).hi; have y6 := (hF.at 0 rfl).r0; have y7 := (hF.at 0 rfl).r1))
      refine bodyPost_ret (by simp [results, Tryz.results122, go_sem, y6, y7]; try rfl) rfl ?_
      rw [HR.out]
      exact ⟨rfl, (hF.put 0 rfl _ _ rfl).below⟩
    · have HR : Hid (Um.slopeAll p lo hi = (0, 0, 4)) := by
        unfold Um.slopeAll Um.slopeR; rw [if_pos ho, if_neg hd]; rfl
      rw [Um.der_no hd] at HD
      clear ho hd e4
      generalize Um.slopeAll p lo hi = R at *
      obtain ⟨a0, cap0, rfl, -⟩ := (id hl)
      go_enter Tryz.func122, Tryz.ntmps122
      go_wp2_with (first | (go_at_call 125; refine (HO _ (hF.li hl)).out.mono ?_; rintro e wn ⟨rfl, hb⟩; replace hF := hF.step hb; clear hb; clear x1l x1h; have x1l := (hF.at 1 rfl).lo; have x1h := (hF.at 1 rfl).hi) | (go_at_call 145; refine (HD _ (hF.li hl)).out.mono ?_; rintro e wn ⟨v8, rfl, l8, hb⟩; replace hF := hF.step hb; clear hb; clear x1l x1h; have y1 := (hF.at 0 rfl).fl; have y2 := (hF.at 0 rfl).fh; have y3 := (hF.at 0 rfl).lo; have y4 := (hF.at 0 rfl).hi; have y6 := (hF.at 0 rfl).r0; have y7 := (hF.at 0 rfl).r1))
      refine bodyPost_ret (by simp [results, Tryz.results122, go_sem, y6, y7]; try rfl) rfl ?_
      rw [HR.out]
      exact ⟨rfl, (hF.put 0 rfl _ _ rfl).below⟩
  · have HR : Hid (Um.slopeAll p lo hi = (0, 0, Um.over p lo hi)) := by
      unfold Um.slopeAll; rw [if_neg ho]; rfl
    have k : (Um.over p lo hi != 0) = true := by simpa using ho
    clear ho
    generalize Um.slopeAll p lo hi = R at *
    generalize Um.over p lo hi = G at *
    obtain ⟨a0, cap0, rfl, -⟩ := (id hl)
    go_enter Tryz.func122, Tryz.ntmps122
    go_wp2_with (first | (go_at_call 125; refine (HO _ (hF.li hl)).out.mono ?_; rintro e wn ⟨rfl, hb⟩; replace hF := hF.step hb; clear hb; clear x1l x1h; have y1 := (hF.at 0 rfl).fl; have y2 := (hF.at 0 rfl).fh; have y3 := (hF.at 0 rfl).lo; have y4 := (hF.at 0 rfl).hi; have y6 := (hF.at 0 rfl).r0; have y7 := (hF.at 0 rfl).r1))
    refine bodyPost_ret (by simp [results, Tryz.results122, go_sem, y6, y7]; try rfl) rfl ?_
    rw [HR.out]
    exact ⟨rfl, (hF.put 0 rfl _ _ rfl).below⟩

set_option maxRecDepth 100000 in
set_option maxHeartbeats 4000000 in
theorem change_any (p : List Int) (v : Value) (lo hi m : Int) (w : World) (hl : Li w.heap.size w v p) (ho : Um.over p lo hi = 0) (hm : Um.may m = true) :
    Calls Tryz.prog 144 #[v, .agg #[.int .i64 lo, .int .i64 hi], .int .i64 m] w fun e w' => e = .returned (.tuple #[.agg #[.int .i64 (Um.chgR lo hi p m).1, .int .i64 (Um.chgR lo hi p m).2.1], errV (Um.chgR lo hi p m).2.2]) ∧ Below w.heap.size w w' := by
  have q1 := errG
  have q2 := errGn
  have q3 := errE
  have q4 := errN
  have hmx : Tryz.prog.follows .mixedOrders = true := by kernel_rfl
  have HS := fun w hl => hid (slope_any p v lo hi w hl)
  have HL := fun w => hid (less_any lo hi m m w)
  have es : Um.slopeAll p lo hi = Um.slopeR lo hi p := by unfold Um.slopeAll; rw [if_pos ho]
  have HR := hid (Um.chg_code (p := p) (Um.over_ok.1 ho).2 hm)
  have hF := Fr.two w lo hi
  have x1l := (hF.at 1 rfl).lo
  have x1h := (hF.at 1 rfl).hi
  rw [es] at HS
  clear es ho hm
  generalize Um.slopeR lo hi p = S at *
  generalize Um.made (Um.lessR lo hi m m) lo hi m m = L at *
  generalize Um.chgR lo hi p m = R at *
  by_cases h1 : S.2.2 = 0
  · have k1 : (S.2.2 != 0) = false := by simpa using h1
    have H1 := hid h1
    clear h1
    obtain ⟨a0, cap0, rfl, -⟩ := (id hl)
    go_enter Tryz.func144, Tryz.ntmps144
    go_wp2_with (first | (go_at_call 122; refine (HS _ (hF.li hl)).out.mono ?_; rintro e wn ⟨rfl, hb⟩; replace hF := hF.step hb; clear hb; clear x1l x1h; replace hF := hF.push S.1 S.2.1 rfl))
    generalize wn.alloc (.cells #[.int .i64 S.1, .int .i64 S.2.1] 29) = W at *
    obtain ⟨Inv, hInv⟩ : ∃ Inv : Array Bool → Act → World → Prop, ∀ listed aq W', Inv listed aq W' ↔ (∃ v22 v23 v24 v25 v21 v26 v27 v10 v9 : Value, aq = { tmps := #[Value.slice a0 p.length cap0, Value.agg #[Value.int IntKind.i64 lo, Value.int IntKind.i64 hi], Value.int IntKind.i64 m, undef, Value.pointer (some { block := w.heap.size, off := 0 }), undef, Value.pointer (some { block := w.heap.size + 1, off := 0 }), Value.nilIface, Value.pointer (some { block := wn.heap.size, off := 0 }), v9, v10, Value.tuple #[Value.agg #[Value.int IntKind.i64 S.fst, Value.int IntKind.i64 S.snd.fst], errV S.snd.snd], Value.slice a0 p.length cap0, Value.agg #[Value.int IntKind.i64 lo, Value.int IntKind.i64 hi], Value.tuple #[Value.agg #[Value.int IntKind.i64 S.fst, Value.int IntKind.i64 S.snd.fst], errV S.snd.snd], Value.agg #[Value.int IntKind.i64 S.fst, Value.int IntKind.i64 S.snd.fst], errV S.snd.snd, errV S.snd.snd, Value.bool false, undef, undef, v21, v22, v23, v24, v25, v26, v27, undef, undef, undef, undef, undef, undef, undef, undef, undef], defers := [] } ∧ Below (W).heap.size (W) W' ∧ (listed.getD 0 false = true → v22 = .agg #[.int .i64 lo, .int .i64 hi]) ∧ (listed.getD 1 false = true → v23 = Value.int IntKind.i64 m) ∧ (listed.getD 2 false = true → v24 = .agg #[.int .i64 m, .int .i64 m]) ∧ (listed.getD 3 false = true → v25 = .tuple #[.agg #[.int .i64 L.1, .int .i64 L.2.1], errV L.2.2]) ∧ (listed.getD 4 false = true → v21 = .tuple #[.agg #[.int .i64 L.1, .int .i64 L.2.1], errV L.2.2]) ∧ (listed.getD 5 false = true → v26 = .agg #[.int .i64 L.1, .int .i64 L.2.1]) ∧ (listed.getD 6 false = true → v27 = errV L.2.2) ∧ (listed.getD 9 false = true → v9 = errV L.2.2) ∧ (listed.getD 7 false = true → ∃ (bn : Nat) (cn dn : Int), v10 = .pointer (some ⟨bn, 0, none⟩) ∧ (W).heap.size ≤ bn ∧ Sp W' bn cn dn ∧ (listed.getD 8 false = true → cn = L.1 ∧ dn = L.2.1)) ∧ (listed.getD 8 false = true → listed.getD 7 false = true)) := ⟨_, fun _ _ _ => Iff.rfl⟩
    have HI := hid hInv
    clear hInv
    refine Free.region hmx (by kernel_rfl) Inv ?s1 ?s2 ?s3
    case s1 =>
      exact (HI.out _ _ _).2 ⟨undef, undef, undef, undef, undef, undef, undef, undef, errV S.snd.snd, rfl, (Below.refl _ _).drew, Free.not_yet, Free.not_yet, Free.not_yet, Free.not_yet, Free.not_yet, Free.not_yet, Free.not_yet, Free.not_yet, Free.not_yet, Free.not_yet⟩
    case s2 =>
      intro i listed aq W1 hix hne hnl hsz hv
      obtain ⟨v22, v23, v24, v25, v21, v26, v27, v10, v9, rfl, hW, l0, l1, l2, l3, l4, l5, l6, l9, ln, lp⟩ := (HI.out _ _ _).1 hv
      clear hv
      replace hix : i < 10 := hix
      replace hsz : listed.size = 10 := hsz
      rcases (by omega : i = 0 ∨ i = 1 ∨ i = 2 ∨ i = 3 ∨ i = 4 ∨ i = 5 ∨ i = 6 ∨ i = 7 ∨ i = 8 ∨ i = 9) with rfl | rfl | rfl | rfl | rfl | rfl | rfl | rfl | rfl | rfl
      · have z1 := ((hF.step hW).at 2 rfl).lo
        have z2 := ((hF.step hW).at 2 rfl).hi
        refine Free.op rfl rfl (fun K hK => ?_)
        go_simp
        exact hK _ _ ((HI.out _ _ _).2 ⟨_, v23, v24, v25, v21, v26, v27, v10, v9, rfl, hW, fun _ => rfl, Free.of_set (by decide) l1, Free.of_set (by decide) l2, Free.of_set (by decide) l3, Free.of_set (by decide) l4, Free.of_set (by decide) l5, Free.of_set (by decide) l6, Free.of_set (by decide) l9, fun e => by obtain ⟨bn, cn, dn, q1, q2, q3, q4⟩ := ln (Free.back (by decide) e); exact ⟨bn, cn, dn, q1, q2, q3, fun e2 => q4 (Free.back (by decide) e2)⟩, fun e => Free.fore (by decide) (lp (Free.back (by decide) e))⟩)
      · refine Free.op rfl rfl (fun K hK => ?_)
        go_simp
        exact hK _ _ ((HI.out _ _ _).2 ⟨v22, _, v24, v25, v21, v26, v27, v10, v9, rfl, hW, Free.of_set (by decide) l0, fun _ => rfl, Free.of_set (by decide) l2, Free.of_set (by decide) l3, Free.of_set (by decide) l4, Free.of_set (by decide) l5, Free.of_set (by decide) l6, Free.of_set (by decide) l9, fun e => by obtain ⟨bn, cn, dn, q1, q2, q3, q4⟩ := ln (Free.back (by decide) e); exact ⟨bn, cn, dn, q1, q2, q3, fun e2 => q4 (Free.back (by decide) e2)⟩, fun e => Free.fore (by decide) (lp (Free.back (by decide) e))⟩)
      · refine Free.op rfl rfl (fun K hK => ?_)
        obtain rfl := l1 (hne 1 (by kernel_rfl))
        go_wp2_with (go_at_call 123; refine (alone_any _ _).mono ?_; rintro e W3 ⟨rfl, rfl⟩)
        exact (HI.out _ _ _).2 ⟨v22, _, _, v25, v21, v26, v27, v10, v9, rfl, hW.alloc hW.size _, Free.of_set (by decide) l0, fun _ => rfl, fun _ => rfl, Free.of_set (by decide) l3, Free.of_set (by decide) l4, Free.of_set (by decide) l5, Free.of_set (by decide) l6, Free.of_set (by decide) l9, fun e => by obtain ⟨bn, cn, dn, q1, q2, q3, q4⟩ := ln (Free.back (by decide) e); exact ⟨bn, cn, dn, q1, q2, (q3.step ((Below.refl _ _).alloc (Nat.le_refl _) _)), fun e2 => q4 (Free.back (by decide) e2)⟩, fun e => Free.fore (by decide) (lp (Free.back (by decide) e))⟩
      · refine Free.op rfl rfl (fun K hK => ?_)
        obtain rfl := l0 (hne 0 (by kernel_rfl))
        obtain rfl := l2 (hne 2 (by kernel_rfl))
        go_wp2_with (go_at_call 58; refine (HL _).out.mono ?_; rintro e W3 ⟨rfl, hb⟩)
        exact (HI.out _ _ _).2 ⟨_, v23, _, _, v21, v26, v27, v10, v9, rfl, hW.trans (hb.mono hW.size), fun _ => rfl, Free.of_set (by decide) l1, fun _ => rfl, fun _ => rfl, Free.of_set (by decide) l4, Free.of_set (by decide) l5, Free.of_set (by decide) l6, Free.of_set (by decide) l9, fun e => by obtain ⟨bn, cn, dn, q1, q2, q3, q4⟩ := ln (Free.back (by decide) e); exact ⟨bn, cn, dn, q1, q2, (q3.step hb), fun e2 => q4 (Free.back (by decide) e2)⟩, fun e => Free.fore (by decide) (lp (Free.back (by decide) e))⟩
      · refine Free.op rfl rfl (fun K hK => ?_)
        obtain rfl := l3 (hne 3 (by kernel_rfl))
        go_simp
        exact hK _ _ ((HI.out _ _ _).2 ⟨v22, v23, v24, _, _, v26, v27, v10, v9, rfl, hW, Free.of_set (by decide) l0, Free.of_set (by decide) l1, Free.of_set (by decide) l2, fun _ => rfl, fun _ => rfl, Free.of_set (by decide) l5, Free.of_set (by decide) l6, Free.of_set (by decide) l9, fun e => by obtain ⟨bn, cn, dn, q1, q2, q3, q4⟩ := ln (Free.back (by decide) e); exact ⟨bn, cn, dn, q1, q2, q3, fun e2 => q4 (Free.back (by decide) e2)⟩, fun e => Free.fore (by decide) (lp (Free.back (by decide) e))⟩)
      · refine Free.op rfl rfl (fun K hK => ?_)
        obtain rfl := l4 (hne 4 (by kernel_rfl))
        go_simp
        exact hK _ _ ((HI.out _ _ _).2 ⟨v22, v23, v24, v25, _, _, v27, v10, v9, rfl, hW, Free.of_set (by decide) l0, Free.of_set (by decide) l1, Free.of_set (by decide) l2, Free.of_set (by decide) l3, fun _ => rfl, fun _ => rfl, Free.of_set (by decide) l6, Free.of_set (by decide) l9, fun e => by obtain ⟨bn, cn, dn, q1, q2, q3, q4⟩ := ln (Free.back (by decide) e); exact ⟨bn, cn, dn, q1, q2, q3, fun e2 => q4 (Free.back (by decide) e2)⟩, fun e => Free.fore (by decide) (lp (Free.back (by decide) e))⟩)
      · refine Free.op rfl rfl (fun K hK => ?_)
        obtain rfl := l4 (hne 4 (by kernel_rfl))
        go_simp
        exact hK _ _ ((HI.out _ _ _).2 ⟨v22, v23, v24, v25, _, v26, _, v10, v9, rfl, hW, Free.of_set (by decide) l0, Free.of_set (by decide) l1, Free.of_set (by decide) l2, Free.of_set (by decide) l3, fun _ => rfl, Free.of_set (by decide) l5, fun _ => rfl, Free.of_set (by decide) l9, fun e => by obtain ⟨bn, cn, dn, q1, q2, q3, q4⟩ := ln (Free.back (by decide) e); exact ⟨bn, cn, dn, q1, q2, q3, fun e2 => q4 (Free.back (by decide) e2)⟩, fun e => Free.fore (by decide) (lp (Free.back (by decide) e))⟩)
      · have hs : listed.getD 8 false = false := by
          cases e : listed.getD 8 false
          · rfl
          · rw [Free.off hnl] at lp; cases lp e
        refine Free.op rfl rfl (fun K hK => ?_)
        go_simp
        exact hK _ _ ((HI.out _ _ _).2 ⟨v22, v23, v24, v25, v21, v26, v27, _, v9, rfl, hW.alloc hW.size _, Free.of_set (by decide) l0, Free.of_set (by decide) l1, Free.of_set (by decide) l2, Free.of_set (by decide) l3, Free.of_set (by decide) l4, Free.of_set (by decide) l5, Free.of_set (by decide) l6, Free.of_set (by decide) l9, fun _ => ⟨_, _, _, rfl, hW.size, Sp.new _ _ _, fun e => by rw [Free.set_other (by decide), hs] at e; cases e⟩, fun e => by rw [Free.set_other (by decide), hs] at e; cases e⟩)
      · have N := hid (hne 7 (by kernel_rfl))
        obtain ⟨bn, cn, dn, q1, q2, q3, q4⟩ := ln N.out
        subst q1
        have y1 := q3.fl
        have y2 := q3.fh
        have y3 := q3.lo
        have y4 := q3.hi
        refine Free.op rfl rfl (fun K hK => ?_)
        obtain rfl := l5 (hne 5 (by kernel_rfl))
        go_simp
        exact hK _ _ ((HI.out _ _ _).2 ⟨v22, v23, v24, v25, v21, _, v27, _, v9, rfl, (hW.setCell q2 _).setCell q2 _, Free.of_set (by decide) l0, Free.of_set (by decide) l1, Free.of_set (by decide) l2, Free.of_set (by decide) l3, Free.of_set (by decide) l4, fun _ => rfl, Free.of_set (by decide) l6, Free.of_set (by decide) l9, fun _ => ⟨_, _, _, rfl, q2, q3.set _ _, fun _ => ⟨rfl, rfl⟩⟩, fun _ => Free.fore (by decide) N.out⟩)
      · refine Free.op rfl rfl (fun K hK => ?_)
        obtain rfl := l6 (hne 6 (by kernel_rfl))
        go_simp
        exact hK _ _ ((HI.out _ _ _).2 ⟨v22, v23, v24, v25, v21, v26, _, v10, _, rfl, hW, Free.of_set (by decide) l0, Free.of_set (by decide) l1, Free.of_set (by decide) l2, Free.of_set (by decide) l3, Free.of_set (by decide) l4, Free.of_set (by decide) l5, fun _ => rfl, fun _ => rfl, fun e => by obtain ⟨bn, cn, dn, q1, q2, q3, q4⟩ := ln (Free.back (by decide) e); exact ⟨bn, cn, dn, q1, q2, q3, fun e2 => q4 (Free.back (by decide) e2)⟩, fun e => Free.fore (by decide) (lp (Free.back (by decide) e))⟩)
    case s3 =>
      intro listed aq W1 hall hsz hv
      obtain ⟨v22, v23, v24, v25, v21, v26, v27, v10, v9, rfl, hW, l0, l1, l2, l3, l4, l5, l6, l9, ln, lp⟩ := (HI.out _ _ _).1 hv
      clear hv HI
      obtain ⟨bn, cn, dn, rfl, hbn, hSn, q4⟩ := ln (Free.listed_of hall hsz 7 (by decide))
      obtain ⟨rfl, rfl⟩ := q4 (Free.listed_of hall hsz 8 (by decide))
      clear ln lp
      obtain rfl := l0 (Free.listed_of hall hsz 0 (by decide))
      obtain rfl := l1 (Free.listed_of hall hsz 1 (by decide))
      obtain rfl := l2 (Free.listed_of hall hsz 2 (by decide))
      obtain rfl := l3 (Free.listed_of hall hsz 3 (by decide))
      obtain rfl := l4 (Free.listed_of hall hsz 4 (by decide))
      obtain rfl := l5 (Free.listed_of hall hsz 5 (by decide))
      obtain rfl := l6 (Free.listed_of hall hsz 6 (by decide))
      obtain rfl := l9 (Free.listed_of hall hsz 9 (by decide))
      clear hall hsz
      have h1 := H1.out
      clear H1
      replace hF := hF.add hW hSn hbn
      by_cases h2 : L.2.2 = 0
      · have k2 : (L.2.2 != 0) = false := by simpa using h2
        have HH : Hid (R = Um.made (Um.stimesR S.1 S.2.1 L.1 L.2.1) S.1 S.2.1 L.1 L.2.1) := by rw [← HR.out, if_pos h1, if_pos h2]; rfl
        clear HR h1 h2 hW hSn hbn
        have x0l := (hF.at 0 rfl).lo
        have x0h := (hF.at 0 rfl).hi
        have x1l := (hF.at 1 rfl).lo
        have x1h := (hF.at 1 rfl).hi
        go_wp2_with (go_at_call 59; refine (hid (stimes_any _ _ _ _ _)).out.mono ?_; rintro e wn ⟨rfl, hb⟩; replace hF := hF.step hb; clear hb; clear x0l x0h x1l x1h; have y1 := (hF.at 2 rfl).fl; have y2 := (hF.at 2 rfl).fh; have y3 := (hF.at 2 rfl).lo; have y4 := (hF.at 2 rfl).hi; have y6 := (hF.at 2 rfl).r0; have y7 := (hF.at 2 rfl).r1)
        refine bodyPost_ret (by simp [results, Tryz.results144, go_sem, y6, y7]; try rfl) rfl ?_
        rw [HH.out]
        exact ⟨rfl, (hF.put 2 rfl _ _ rfl).below⟩
      · have k2 : (L.2.2 != 0) = true := by simpa using h2
        have HH : Hid (R = (0, 0, L.2.2)) := by rw [← HR.out, if_pos h1, if_neg h2]; rfl
        clear HR h1 h2 hW hSn hbn
        have y1 := (hF.at 2 rfl).fl
        have y2 := (hF.at 2 rfl).fh
        have y3 := (hF.at 2 rfl).lo
        have y4 := (hF.at 2 rfl).hi
        have y6 := (hF.at 2 rfl).r0
        have y7 := (hF.at 2 rfl).r1
        go_wp2
        refine bodyPost_ret (by simp [results, Tryz.results144, go_sem, y6, y7]; try rfl) rfl ?_
        rw [HH.out]
        exact ⟨rfl, (hF.put 2 rfl _ _ rfl).below⟩

  · have k1 : (S.2.2 != 0) = true := by simpa using h1
    have HH : Hid (R = (0, 0, S.2.2)) := by rw [← HR.out, if_neg h1]; rfl
    clear HR h1
    obtain ⟨a0, cap0, rfl, -⟩ := (id hl)
    go_enter Tryz.func144, Tryz.ntmps144
    go_wp2_with (first | (go_at_call 122; refine (HS _ (hF.li hl)).out.mono ?_; rintro e wn ⟨rfl, hb⟩; replace hF := hF.step hb; clear hb; clear x1l x1h; have y1 := (hF.at 0 rfl).fl; have y2 := (hF.at 0 rfl).fh; have y3 := (hF.at 0 rfl).lo; have y4 := (hF.at 0 rfl).hi; have y5 := (hF.at 0 rfl).lt; have y6 := (((hF.at 0 rfl).set 0 0).alloc (.cells #[.int .i64 S.1, .int .i64 S.2.1] 29)).lo; have y7 := (((hF.at 0 rfl).set 0 0).alloc (.cells #[.int .i64 S.1, .int .i64 S.2.1] 29)).hi))
    refine bodyPost_ret (by simp [results, Tryz.results144, go_sem, y6, y7]; try rfl) rfl ?_
    rw [HH.out]
    exact ⟨rfl, ((hF.put 0 rfl _ _ rfl).alloc _).below⟩

theorem cent_code {p : List Int} {lo hi : Int} (ho : Um.over p lo hi = 0) : Um.centAll p lo hi =
    if (Um.hornR (Um.midR lo hi) (Um.midR lo hi) p).2.2 = 0 then (if (Um.chgR lo hi p (Um.midR lo hi)).2.2 = 0 then Um.made (Um.addR (Um.hornR (Um.midR lo hi) (Um.midR lo hi) p).1 (Um.hornR (Um.midR lo hi) (Um.midR lo hi) p).2.1 (Um.chgR lo hi p (Um.midR lo hi)).1 (Um.chgR lo hi p (Um.midR lo hi)).2.1) (Um.hornR (Um.midR lo hi) (Um.midR lo hi) p).1 (Um.hornR (Um.midR lo hi) (Um.midR lo hi) p).2.1 (Um.chgR lo hi p (Um.midR lo hi)).1 (Um.chgR lo hi p (Um.midR lo hi)).2.1 else (0, 0, (Um.chgR lo hi p (Um.midR lo hi)).2.2)) else (0, 0, (Um.hornR (Um.midR lo hi) (Um.midR lo hi) p).2.2) := by
  obtain ⟨hp, hc⟩ := Um.over_ok.1 ho
  have hp' := Um.pchk_ok.1 hp
  unfold Um.centAll Um.centR
  rw [if_pos ho]
  by_cases h1 : (Um.hornR (Um.midR lo hi) (Um.midR lo hi) p).2.2 = 0
  · rw [if_pos h1, if_pos h1]
    by_cases h2 : (Um.chgR lo hi p (Um.midR lo hi)).2.2 = 0
    · rw [if_pos h2, if_pos h2, Um.made_good (Um.horn_chk (Int.le_refl _) p hp'.1 hp'.2.2 h1) (Um.chg_chk (Um.chk_ok.1 hc).2.2 h2)]
    · rw [if_neg h2, if_neg h2, (Um.chg_fault lo hi p _).resolve_left h2]
  · rw [if_neg h1, if_neg h1, (Um.horn_fault _ _ p).resolve_left h1]

set_option maxRecDepth 100000 in
set_option maxHeartbeats 4000000 in
theorem range_any (p : List Int) (v : Value) (lo hi : Int) (w : World) (hl : Li w.heap.size w v p) :
    Calls Tryz.prog 121 #[v, .agg #[.int .i64 lo, .int .i64 hi]] w fun e w' => e = .returned (.tuple #[.agg #[.int .i64 (Um.centAll p lo hi).1, .int .i64 (Um.centAll p lo hi).2.1], errV (Um.centAll p lo hi).2.2]) ∧ Below w.heap.size w w' := by
  have q1 := errG
  have q2 := errGn
  have q3 := errE
  have q4 := errN
  have HO := fun w hl => hid (checkOver_any p v lo hi w hl)
  have hF := Fr.two w lo hi
  have x1l := (hF.at 1 rfl).lo
  have x1h := (hF.at 1 rfl).hi
  by_cases ho : Um.over p lo hi = 0
  · have HR := hid (cent_code ho)
    have hc := (Um.over_ok.1 ho).2
    have hm := Um.mid_may hc
    have em : midAll lo hi = (Um.midR lo hi, 0) := by unfold midAll; rw [if_pos hc]
    have HM := fun w => hid (midAll_any lo hi w)
    have HH := fun w hl => hid (horner_any p v (Um.midR lo hi) (Um.midR lo hi) w hl)
    have eh : Um.hornAll p (Um.midR lo hi) (Um.midR lo hi) = Um.hornR (Um.midR lo hi) (Um.midR lo hi) p := by
      unfold Um.hornAll; rw [if_pos (Um.over_ok.2 ⟨(Um.over_ok.1 ho).1, Um.chk_alone hm⟩)]
    have HC := fun w hl => hid (change_any p v lo hi (Um.midR lo hi) w hl ho hm)
    rw [ho] at HO
    rw [em] at HM
    rw [eh] at HH
    clear ho hc hm em eh
    generalize Um.centAll p lo hi = R at *
    generalize Um.chgR lo hi p (Um.midR lo hi) = C at *
    generalize Um.hornR (Um.midR lo hi) (Um.midR lo hi) p = H at *
    generalize Um.midR lo hi = m at *
    by_cases h1 : H.2.2 = 0
    · have k1 : (H.2.2 != 0) = false := by simpa using h1
      by_cases h2 : C.2.2 = 0
      · have k2 : (C.2.2 != 0) = false := by simpa using h2
        have HX : Hid (R = Um.made (Um.addR H.1 H.2.1 C.1 C.2.1) H.1 H.2.1 C.1 C.2.1) := by rw [HR.out, if_pos h1, if_pos h2]; rfl
        clear HR h1 h2
        obtain ⟨a0, cap0, rfl, -⟩ := (id hl)
        go_enter Tryz.func121, Tryz.ntmps121
        go_wp2_with (first | (go_at_call 125; refine (HO _ (hF.li hl)).out.mono ?_; rintro e wn ⟨rfl, hb⟩; replace hF := hF.step hb; clear hb; clear x1l x1h; have x1l := (hF.at 1 rfl).lo; have x1h := (hF.at 1 rfl).hi) | (go_at_call 143; refine (HM _).out.mono ?_; rintro e wn ⟨rfl, hb⟩; replace hF := hF.step hb; clear hb; clear x1l x1h; have x1l := (hF.at 1 rfl).lo; have x1h := (hF.at 1 rfl).hi) | (go_at_call 123; refine (alone_any _ _).mono ?_; rintro e wa ⟨rfl, rfl⟩) | (go_at_call 119; refine (HH _ ((hF.alloc _).li hl)).out.mono ?_; rintro e wn ⟨rfl, hb⟩; replace hF := (hF.alloc _).step hb; clear hb; clear x1l x1h; replace hF := hF.push H.1 H.2.1 rfl; have x2l := (hF.at 2 rfl).lo; have x2h := (hF.at 2 rfl).hi) | (go_at_call 144; refine (HC _ (hF.li hl)).out.mono ?_; rintro e wn ⟨rfl, hb⟩; replace hF := hF.step hb; clear hb; clear x2l x2h; replace hF := hF.push C.1 C.2.1 rfl; have x0l := (hF.at 0 rfl).lo; have x0h := (hF.at 0 rfl).hi; have x1l := (hF.at 1 rfl).lo; have x1h := (hF.at 1 rfl).hi) | (go_at_call 57; refine (hid (add_any _ _ _ _ _)).out.mono ?_; rintro e wn ⟨rfl, hb⟩; replace hF := hF.step hb; clear hb; clear x0l x0h x1l x1h; have y1 := (hF.at 2 rfl).fl; have y2 := (hF.at 2 rfl).fh; have y3 := (hF.at 2 rfl).lo; have y4 := (hF.at 2 rfl).hi; have y6 := (hF.at 2 rfl).r0; have y7 := (hF.at 2 rfl).r1))
        refine bodyPost_ret (by simp [results, Tryz.results121, go_sem, y6, y7]; try rfl) rfl ?_
        rw [HX.out]
        exact ⟨rfl, (hF.put 2 rfl _ _ rfl).below⟩
      · have k2 : (C.2.2 != 0) = true := by simpa using h2
        have HX : Hid (R = (0, 0, C.2.2)) := by rw [HR.out, if_pos h1, if_neg h2]; rfl
        clear HR h1 h2
        obtain ⟨a0, cap0, rfl, -⟩ := (id hl)
        go_enter Tryz.func121, Tryz.ntmps121
        go_wp2_with (first | (go_at_call 125; refine (HO _ (hF.li hl)).out.mono ?_; rintro e wn ⟨rfl, hb⟩; replace hF := hF.step hb; clear hb; clear x1l x1h; have x1l := (hF.at 1 rfl).lo; have x1h := (hF.at 1 rfl).hi) | (go_at_call 143; refine (HM _).out.mono ?_; rintro e wn ⟨rfl, hb⟩; replace hF := hF.step hb; clear hb; clear x1l x1h; have x1l := (hF.at 1 rfl).lo; have x1h := (hF.at 1 rfl).hi) | (go_at_call 123; refine (alone_any _ _).mono ?_; rintro e wa ⟨rfl, rfl⟩) | (go_at_call 119; refine (HH _ ((hF.alloc _).li hl)).out.mono ?_; rintro e wn ⟨rfl, hb⟩; replace hF := (hF.alloc _).step hb; clear hb; clear x1l x1h; replace hF := hF.push H.1 H.2.1 rfl; have x2l := (hF.at 2 rfl).lo; have x2h := (hF.at 2 rfl).hi) | (go_at_call 144; refine (HC _ (hF.li hl)).out.mono ?_; rintro e wn ⟨rfl, hb⟩; replace hF := hF.step hb; clear hb; clear x2l x2h; have y1 := (hF.at 1 rfl).fl; have y2 := (hF.at 1 rfl).fh; have y3 := (hF.at 1 rfl).lo; have y4 := (hF.at 1 rfl).hi; have y5 := (hF.at 1 rfl).lt; have y6 := (((hF.at 1 rfl).set 0 0).alloc (.cells #[.int .i64 C.1, .int .i64 C.2.1] 29)).lo; have y7 := (((hF.at 1 rfl).set 0 0).alloc (.cells #[.int .i64 C.1, .int .i64 C.2.1] 29)).hi))
        refine bodyPost_ret (by simp [results, Tryz.results121, go_sem, y6, y7]; try rfl) rfl ?_
        rw [HX.out]
        exact ⟨rfl, ((hF.put 1 rfl _ _ rfl).alloc _).below⟩
    · have k1 : (H.2.2 != 0) = true := by simpa using h1
      have HX : Hid (R = (0, 0, H.2.2)) := by rw [HR.out, if_neg h1]; rfl
      clear HR h1
      obtain ⟨a0, cap0, rfl, -⟩ := (id hl)
      go_enter Tryz.func121, Tryz.ntmps121
      go_wp2_with (first | (go_at_call 125; refine (HO _ (hF.li hl)).out.mono ?_; rintro e wn ⟨rfl, hb⟩; replace hF := hF.step hb; clear hb; clear x1l x1h; have x1l := (hF.at 1 rfl).lo; have x1h := (hF.at 1 rfl).hi) | (go_at_call 143; refine (HM _).out.mono ?_; rintro e wn ⟨rfl, hb⟩; replace hF := hF.step hb; clear hb; clear x1l x1h; have x1l := (hF.at 1 rfl).lo; have x1h := (hF.at 1 rfl).hi) | (go_at_call 123; refine (alone_any _ _).mono ?_; rintro e wa ⟨rfl, rfl⟩) | (go_at_call 119; refine (HH _ ((hF.alloc _).li hl)).out.mono ?_; rintro e wn ⟨rfl, hb⟩; replace hF := (hF.alloc _).step hb; clear hb; clear x1l x1h; have y1 := (hF.at 0 rfl).fl; have y2 := (hF.at 0 rfl).fh; have y3 := (hF.at 0 rfl).lo; have y4 := (hF.at 0 rfl).hi; have y5 := (hF.at 0 rfl).lt; have y6 := (((hF.at 0 rfl).set 0 0).alloc (.cells #[.int .i64 H.1, .int .i64 H.2.1] 29)).lo; have y7 := (((hF.at 0 rfl).set 0 0).alloc (.cells #[.int .i64 H.1, .int .i64 H.2.1] 29)).hi))
      refine bodyPost_ret (by simp [results, Tryz.results121, go_sem, y6, y7]; try rfl) rfl ?_
      rw [HX.out]
      exact ⟨rfl, ((hF.put 0 rfl _ _ rfl).alloc _).below⟩
  · have HR : Hid (Um.centAll p lo hi = (0, 0, Um.over p lo hi)) := by
      unfold Um.centAll; rw [if_neg ho]; rfl
    have k : (Um.over p lo hi != 0) = true := by simpa using ho
    clear ho
    generalize Um.centAll p lo hi = R at *
    generalize Um.over p lo hi = G at *
    obtain ⟨a0, cap0, rfl, -⟩ := (id hl)
    go_enter Tryz.func121, Tryz.ntmps121
    go_wp2_with (first | (go_at_call 125; refine (HO _ (hF.li hl)).out.mono ?_; rintro e wn ⟨rfl, hb⟩; replace hF := hF.step hb; clear hb; clear x1l x1h; have y1 := (hF.at 0 rfl).fl; have y2 := (hF.at 0 rfl).fh; have y3 := (hF.at 0 rfl).lo; have y4 := (hF.at 0 rfl).hi; have y6 := (hF.at 0 rfl).r0; have y7 := (hF.at 0 rfl).r1))
    refine bodyPost_ret (by simp [results, Tryz.results121, go_sem, y6, y7]; try rfl) rfl ?_
    rw [HR.out]
    exact ⟨rfl, (hF.put 0 rfl _ _ rfl).below⟩

theorem best_code {p : List Int} {lo hi : Int} (h1 : (Um.hornAll p lo hi).2.2 = 0) (h2 : (Um.powsAll p lo hi).2.2 = 0) (h3 : (Um.centAll p lo hi).2.2 = 0) :
    ∃ M : Int × Int × Int, M = Um.made (Um.meetR (Um.hornAll p lo hi).1 (Um.hornAll p lo hi).2.1 (Um.powsAll p lo hi).1 (Um.powsAll p lo hi).2.1) (Um.hornAll p lo hi).1 (Um.hornAll p lo hi).2.1 (Um.powsAll p lo hi).1 (Um.powsAll p lo hi).2.1 ∧ M.2.2 = 0 ∧
      Um.made (Um.meetR M.1 M.2.1 (Um.centAll p lo hi).1 (Um.centAll p lo hi).2.1) M.1 M.2.1 (Um.centAll p lo hi).1 (Um.centAll p lo hi).2.1 = Um.bestAll p lo hi := by
  have ho : Um.over p lo hi = 0 := by
    by_cases ho : Um.over p lo hi = 0
    · exact ho
    · unfold Um.hornAll at h1; rw [if_neg ho] at h1; exact absurd h1 ho
  obtain ⟨hp, hc⟩ := Um.over_ok.1 ho
  have hp' := Um.pchk_ok.1 hp
  have e1 : Um.hornAll p lo hi = Um.hornR lo hi p := by unfold Um.hornAll; rw [if_pos ho]
  have e2 : Um.powsAll p lo hi = Um.powsN lo hi p p.length := by unfold Um.powsAll; rw [if_pos ho]
  have e3 : Um.centAll p lo hi = Um.centR lo hi p := by unfold Um.centAll; rw [if_pos ho]
  have e4 : Um.bestAll p lo hi = Um.bestR lo hi p := by unfold Um.bestAll; rw [if_pos ho]
  rw [e1] at h1 ⊢
  rw [e2] at h2 ⊢
  rw [e3] at h3 ⊢
  rw [e4]
  have c1 := Um.horn_chk (Um.chk_ok.1 hc).2.2 p hp'.1 hp'.2.2 h1
  have c2 := Um.pows_chk hc p p.length hp'.2.1 h2
  have c3 := Um.cent_chk ho h3
  obtain ⟨m1, m2⟩ := Um.best_meets ho h1 h2
  have m3 := m2 h3
  refine ⟨_, rfl, ?_, ?_⟩
  · rw [Um.made_good c1 c2, Um.meet_yes m1]
  · rw [Um.made_good c1 c2, Um.meet_yes m1]
    have c4 : Um.chk (max (Um.hornR lo hi p).1 (Um.powsN lo hi p p.length).1) (min (Um.hornR lo hi p).2.1 (Um.powsN lo hi p p.length).2.1) = 0 := by
      obtain ⟨a1, a2, _⟩ := Um.chk_ok.1 c1
      obtain ⟨a3, a4, _⟩ := Um.chk_ok.1 c2
      refine Um.chk_ok.2 ⟨?_, ?_, m1⟩
      · simp only [Um.may_iff] at *; omega
      · simp only [Um.may_iff] at *; omega
    rw [Um.made_good c4 c3, Um.meet_yes m3]
    unfold Um.bestR
    rw [if_pos h1, if_pos h2, if_pos h3]
theorem best_first {p : List Int} {lo hi : Int} (h1 : ¬ (Um.hornAll p lo hi).2.2 = 0) : Um.bestAll p lo hi = (0, 0, (Um.hornAll p lo hi).2.2) := by
  unfold Um.bestAll Um.hornAll at *
  by_cases ho : Um.over p lo hi = 0
  · rw [if_pos ho] at h1 ⊢
    rw [if_pos ho, (Um.horn_fault lo hi p).resolve_left h1]
    unfold Um.bestR
    rw [if_neg h1]
  · rw [if_neg ho, if_neg ho]
theorem best_second {p : List Int} {lo hi : Int} (h1 : (Um.hornAll p lo hi).2.2 = 0) (h2 : ¬ (Um.powsAll p lo hi).2.2 = 0) : Um.bestAll p lo hi = (0, 0, (Um.powsAll p lo hi).2.2) := by
  unfold Um.bestAll Um.hornAll Um.powsAll at *
  by_cases ho : Um.over p lo hi = 0
  · rw [if_pos ho] at h1 h2 ⊢
    rw [if_pos ho, (Um.pows_fault lo hi p p.length).resolve_left h2]
    unfold Um.bestR
    rw [if_pos h1, if_neg h2]
  · rw [if_neg ho, if_neg ho]
theorem best_third {p : List Int} {lo hi : Int} (h1 : (Um.hornAll p lo hi).2.2 = 0) (h2 : (Um.powsAll p lo hi).2.2 = 0) (h3 : ¬ (Um.centAll p lo hi).2.2 = 0) : Um.bestAll p lo hi = (0, 0, (Um.centAll p lo hi).2.2) := by
  unfold Um.bestAll Um.hornAll Um.powsAll Um.centAll at *
  by_cases ho : Um.over p lo hi = 0
  · rw [if_pos ho] at h1 h2 h3 ⊢
    rw [if_pos ho, (Um.cent_fault lo hi p).resolve_left h3]
    unfold Um.bestR
    rw [if_pos h1, if_pos h2, if_neg h3]
  · rw [if_neg ho, if_neg ho]

set_option maxRecDepth 100000 in
set_option maxHeartbeats 4000000 in
theorem best_any (p : List Int) (v : Value) (lo hi : Int) (w : World) (hl : Li w.heap.size w v p) :
    Calls Tryz.prog 96 #[v, .agg #[.int .i64 lo, .int .i64 hi]] w fun e w' => e = .returned (.tuple #[.agg #[.int .i64 (Um.bestAll p lo hi).1, .int .i64 (Um.bestAll p lo hi).2.1], errV (Um.bestAll p lo hi).2.2]) ∧ Below w.heap.size w w' := by
  have q1 := errG
  have q2 := errGn
  have q3 := errE
  have q4 := errN
  have HH := fun w hl => hid (horner_any p v lo hi w hl)
  have HP := fun w hl => hid (powers_any p v lo hi w hl)
  have HC := fun w hl => hid (range_any p v lo hi w hl)
  have hF := Fr.two w lo hi
  have x1l := (hF.at 1 rfl).lo
  have x1h := (hF.at 1 rfl).hi
  by_cases h1 : (Um.hornAll p lo hi).2.2 = 0
  · have k1 : ((Um.hornAll p lo hi).2.2 != 0) = false := by simpa using h1
    by_cases h2 : (Um.powsAll p lo hi).2.2 = 0
    · have k2 : ((Um.powsAll p lo hi).2.2 != 0) = false := by simpa using h2
      by_cases h3 : (Um.centAll p lo hi).2.2 = 0
      · have k3 : ((Um.centAll p lo hi).2.2 != 0) = false := by simpa using h3
        obtain ⟨M, eM, hM, hR⟩ := best_code h1 h2 h3
        have HR := hid hR
        have k4 : (M.2.2 != 0) = false := by simpa using hM
        have HM := fun w => hid (meet_any (Um.hornAll p lo hi).1 (Um.hornAll p lo hi).2.1 (Um.powsAll p lo hi).1 (Um.powsAll p lo hi).2.1 w)
        rw [← eM] at HM
        have HN := fun w => hid (meet_any M.1 M.2.1 (Um.centAll p lo hi).1 (Um.centAll p lo hi).2.1 w)
        rw [hR] at HN
        clear h1 h2 h3 eM hM hR HR
        generalize Um.bestAll p lo hi = R at *
        generalize Um.hornAll p lo hi = A at *
        generalize Um.powsAll p lo hi = B at *
        generalize Um.centAll p lo hi = C at *
        obtain ⟨a0, cap0, rfl, -⟩ := (id hl)
        go_enter Tryz.func96, Tryz.ntmps96
        go_wp2_with (first | (go_at_call 119; refine (HH _ (hF.li hl)).out.mono ?_; rintro e wn ⟨rfl, hb⟩; replace hF := hF.step hb; clear hb; clear x1l x1h; replace hF := hF.push A.1 A.2.1 rfl; have x2l := (hF.at 2 rfl).lo; have x2h := (hF.at 2 rfl).hi) | (go_at_call 120; refine (HP _ (hF.li hl)).out.mono ?_; rintro e wn ⟨rfl, hb⟩; replace hF := hF.step hb; clear hb; clear x2l x2h; replace hF := hF.push B.1 B.2.1 rfl; have x3l := (hF.at 3 rfl).lo; have x3h := (hF.at 3 rfl).hi) | (go_at_call 121; refine (HC _ (hF.li hl)).out.mono ?_; rintro e wn ⟨rfl, hb⟩; replace hF := hF.step hb; clear hb; clear x3l x3h; replace hF := hF.push C.1 C.2.1 rfl; have x1l := (hF.at 1 rfl).lo; have x1h := (hF.at 1 rfl).hi; have x2l := (hF.at 2 rfl).lo; have x2h := (hF.at 2 rfl).hi) | (go_at_call 61; refine (HM _).out.mono ?_; rintro e wn ⟨rfl, hb⟩; replace hF := hF.step hb; clear hb; clear x1l x1h x2l x2h; clear HM; replace hF := hF.push M.1 M.2.1 rfl; have x0l := (hF.at 0 rfl).lo; have x0h := (hF.at 0 rfl).hi; have x1l := (hF.at 1 rfl).lo; have x1h := (hF.at 1 rfl).hi) | (go_at_call 61; refine (HN _).out.mono ?_; rintro e wn ⟨rfl, hb⟩; replace hF := hF.step hb; clear hb; clear x0l x0h x1l x1h; have y1 := (hF.at 4 rfl).fl; have y2 := (hF.at 4 rfl).fh; have y3 := (hF.at 4 rfl).lo; have y4 := (hF.at 4 rfl).hi; have y6 := (hF.at 4 rfl).r0; have y7 := (hF.at 4 rfl).r1))
        refine bodyPost_ret (by simp [results, Tryz.results96, go_sem, y6, y7]; try rfl) rfl ?_
        exact ⟨rfl, (hF.put 4 rfl _ _ rfl).below⟩
      · have k3 : ((Um.centAll p lo hi).2.2 != 0) = true := by simpa using h3
        have HR := hid (best_third h1 h2 h3)
        clear h1 h2 h3
        generalize Um.bestAll p lo hi = R at *
        generalize Um.hornAll p lo hi = A at *
        generalize Um.powsAll p lo hi = B at *
        generalize Um.centAll p lo hi = C at *
        obtain ⟨a0, cap0, rfl, -⟩ := (id hl)
        go_enter Tryz.func96, Tryz.ntmps96
        go_wp2_with (first | (go_at_call 119; refine (HH _ (hF.li hl)).out.mono ?_; rintro e wn ⟨rfl, hb⟩; replace hF := hF.step hb; clear hb; clear x1l x1h; replace hF := hF.push A.1 A.2.1 rfl; have x2l := (hF.at 2 rfl).lo; have x2h := (hF.at 2 rfl).hi) | (go_at_call 120; refine (HP _ (hF.li hl)).out.mono ?_; rintro e wn ⟨rfl, hb⟩; replace hF := hF.step hb; clear hb; clear x2l x2h; replace hF := hF.push B.1 B.2.1 rfl; have x3l := (hF.at 3 rfl).lo; have x3h := (hF.at 3 rfl).hi) | (go_at_call 121; refine (HC _ (hF.li hl)).out.mono ?_; rintro e wn ⟨rfl, hb⟩; replace hF := hF.step hb; clear hb; clear x3l x3h; have y1 := (hF.at 2 rfl).fl; have y2 := (hF.at 2 rfl).fh; have y3 := (hF.at 2 rfl).lo; have y4 := (hF.at 2 rfl).hi; have y5 := (hF.at 2 rfl).lt; have y6 := (((hF.at 2 rfl).set 0 0).alloc (.cells #[.int .i64 C.1, .int .i64 C.2.1] 29)).lo; have y7 := (((hF.at 2 rfl).set 0 0).alloc (.cells #[.int .i64 C.1, .int .i64 C.2.1] 29)).hi))
        refine bodyPost_ret (by simp [results, Tryz.results96, go_sem, y6, y7]; try rfl) rfl ?_
        rw [HR.out]
        exact ⟨rfl, ((hF.put 2 rfl _ _ rfl).alloc _).below⟩
    · have k2 : ((Um.powsAll p lo hi).2.2 != 0) = true := by simpa using h2
      have HR := hid (best_second h1 h2)
      clear h1 h2
      generalize Um.bestAll p lo hi = R at *
      generalize Um.hornAll p lo hi = A at *
      generalize Um.powsAll p lo hi = B at *
      obtain ⟨a0, cap0, rfl, -⟩ := (id hl)
      go_enter Tryz.func96, Tryz.ntmps96
      go_wp2_with (first | (go_at_call 119; refine (HH _ (hF.li hl)).out.mono ?_; rintro e wn ⟨rfl, hb⟩; replace hF := hF.step hb; clear hb; clear x1l x1h; replace hF := hF.push A.1 A.2.1 rfl; have x2l := (hF.at 2 rfl).lo; have x2h := (hF.at 2 rfl).hi) | (go_at_call 120; refine (HP _ (hF.li hl)).out.mono ?_; rintro e wn ⟨rfl, hb⟩; replace hF := hF.step hb; clear hb; clear x2l x2h; have y1 := (hF.at 1 rfl).fl; have y2 := (hF.at 1 rfl).fh; have y3 := (hF.at 1 rfl).lo; have y4 := (hF.at 1 rfl).hi; have y5 := (hF.at 1 rfl).lt; have y6 := (((hF.at 1 rfl).set 0 0).alloc (.cells #[.int .i64 B.1, .int .i64 B.2.1] 29)).lo; have y7 := (((hF.at 1 rfl).set 0 0).alloc (.cells #[.int .i64 B.1, .int .i64 B.2.1] 29)).hi))
      refine bodyPost_ret (by simp [results, Tryz.results96, go_sem, y6, y7]; try rfl) rfl ?_
      rw [HR.out]
      exact ⟨rfl, ((hF.put 1 rfl _ _ rfl).alloc _).below⟩
  · have k1 : ((Um.hornAll p lo hi).2.2 != 0) = true := by simpa using h1
    have HR := hid (best_first h1)
    clear h1
    generalize Um.bestAll p lo hi = R at *
    generalize Um.hornAll p lo hi = A at *
    obtain ⟨a0, cap0, rfl, -⟩ := (id hl)
    go_enter Tryz.func96, Tryz.ntmps96
    go_wp2_with (first | (go_at_call 119; refine (HH _ (hF.li hl)).out.mono ?_; rintro e wn ⟨rfl, hb⟩; replace hF := hF.step hb; clear hb; clear x1l x1h; have y1 := (hF.at 0 rfl).fl; have y2 := (hF.at 0 rfl).fh; have y3 := (hF.at 0 rfl).lo; have y4 := (hF.at 0 rfl).hi; have y5 := (hF.at 0 rfl).lt; have y6 := (((hF.at 0 rfl).set 0 0).alloc (.cells #[.int .i64 A.1, .int .i64 A.2.1] 29)).lo; have y7 := (((hF.at 0 rfl).set 0 0).alloc (.cells #[.int .i64 A.1, .int .i64 A.2.1] 29)).hi))
    refine bodyPost_ret (by simp [results, Tryz.results96, go_sem, y6, y7]; try rfl) rfl ?_
    rw [HR.out]
    exact ⟨rfl, ((hF.put 0 rfl _ _ rfl).alloc _).below⟩
end Go.Proofs.YtkfalmdckmlneaaGreatDoor
