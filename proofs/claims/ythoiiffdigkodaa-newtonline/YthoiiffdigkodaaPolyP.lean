/-
  What package poly's Powers answers, at every argument.
-/
import Derived.Test.YthoiiffdigkodaaPoly
import Derived.Test.YthoiiffdigkodaaMems
import Derived.Test.YthoiiffdigkodaaPowerOf
namespace Go.Proofs.Ythoiiffdigkodaa
set_option linter.unusedSimpArgs false
open Go.RowKit

/-- Between two rounds: what has been summed up, and what else lies there. -/
structure Pi (w W : World) (S : Nat) (lo hi : Int) (s : Int × Int × Int) : Prop where
  ok : s.2.2 = 0
  sum : Sp W S s.1 s.2.1
  x : Sp W w.heap.size lo hi
  res : Sp W (w.heap.size + 1) 0 0
  below : Below w.heap.size w W
theorem Pi.step {w W W' : World} {S : Nat} {lo hi : Int} {s : Int × Int × Int} (h : Pi w W S lo hi s) (hb : Below W.heap.size W W') : Pi w W' S lo hi s :=
  ⟨h.ok, h.sum.step hb, h.x.step hb, h.res.step hb, h.below.trans (hb.mono h.below.size)⟩
theorem of_pow {lo hi : Int} {k : Nat} (hc : Um.chk lo hi = 0) (hk : k ≤ 4) : Um.ofR lo hi k = Um.powR lo hi k := by
  unfold Um.ofR; rw [if_pos hc, if_neg (by omega)]; simp
theorem pows_next {lo hi : Int} {p : List Int} {k : Nat} (hc : Um.chk lo hi = 0) (hk : k < p.length) (h5 : p.length ≤ 5) (hm : ∀ c ∈ p, Um.may c = true) (h0 : (Um.powsN lo hi p k).2.2 = 0) (hp : (Um.powR lo hi k).2.2 = 0) :
    Um.taR (p[k]?.getD 0) (p[k]?.getD 0) (Um.powR lo hi k).1 (Um.powR lo hi k).2.1 (Um.powsN lo hi p k).1 (Um.powsN lo hi p k).2.1 = Um.powsN lo hi p (k + 1) := by
  rw [Um.ta_pows hc (by omega) (Um.pows_chk hc p k (by omega) h0) h0 (hm _ (Um.at_mem hk)) hp, Um.pows_succ, List.getD_eq_getElem?_getD]
theorem pows_out {lo hi : Int} {p : List Int} {k : Nat} (hk : k < p.length) (h : ¬ (Um.powsN lo hi p (k + 1)).2.2 = 0) : Um.powsN lo hi p p.length = (0, 0, 4) ∧ (Um.powsN lo hi p (k + 1)).2.2 = 4 := by
  have e := Um.pows_stay h (p.length - (k + 1))
  rw [show k + 1 + (p.length - (k + 1)) = p.length by omega] at e
  exact ⟨e, by rw [(Um.pows_fault lo hi p (k + 1)).resolve_left h]⟩
theorem pows_out' {lo hi : Int} {p : List Int} {k : Nat} (hk : k < p.length) (h : ¬ (Um.powR lo hi k).2.2 = 0) : Um.powsN lo hi p p.length = (0, 0, 4) ∧ (Um.powR lo hi k).2.2 = 4 := by
  refine ⟨(pows_out hk (by rw [Um.pows_dead h]; decide)).1, by rw [(Um.pow_fault (lo := lo) (hi := hi) k).resolve_left h]⟩

set_option maxRecDepth 100000 in
set_option maxHeartbeats 8000000 in
theorem powers_right (p : List Int) (v : Value) (lo hi : Int) (w : World) (hl : Li w.heap.size w v p) (h : Um.over p lo hi = 0) :
    Calls Try.prog 39 #[v, .agg #[.int .i64 lo, .int .i64 hi]] w fun e w' => e = .returned (.tuple #[.agg #[.int .i64 (Um.powsN lo hi p p.length).1, .int .i64 (Um.powsN lo hi p p.length).2.1], errV (Um.powsN lo hi p p.length).2.2]) ∧ Below w.heap.size w w' := by
  have q1 := errG
  have q2 := errGn
  have q3 := errE
  have q4 := errN
  have hmx : Try.prog.follows .mixedOrders = true := by kernel_rfl
  have HO := fun w hl => hid (checkOver_any p v lo hi w hl)
  rw [h] at HO
  obtain ⟨hp, hc⟩ := Um.over_ok.1 h
  obtain ⟨h0, h5, hm⟩ := Um.pchk_ok.1 hp
  obtain ⟨b, off, cap, rfl, hlt, hcs⟩ := hl.out h0
  have HC := hid hcs
  have HM := hid hm
  have HK := hid hc
  have hX : Sp ((w.alloc (.cells #[.int .i64 lo, .int .i64 hi] 24)).alloc (.cells #[.int .i64 0, .int .i64 0] 24)) w.heap.size lo hi := (Sp.new w lo hi).alloc _
  have hR : Sp ((w.alloc (.cells #[.int .i64 lo, .int .i64 hi] 24)).alloc (.cells #[.int .i64 0, .int .i64 0] 24)) (w.heap.size + 1) 0 0 := by
    simpa using Sp.new (w.alloc (.cells #[.int .i64 lo, .int .i64 hi] 24)) 0 0
  have hB : Below w.heap.size w ((w.alloc (.cells #[.int .i64 lo, .int .i64 hi] 24)).alloc (.cells #[.int .i64 0, .int .i64 0] 24)) := by go_grown
  have hL := (hl.keep hB).wide hB.size
  clear hcs hm h0 hp hc h hl
  go_enter Try.func39, Try.ntmps39
  go_wp2_with (first | (go_at_call 26; refine (HO _ hL).out.mono ?_; rintro e w1 ⟨rfl, hb⟩; replace hX := hX.step hb; replace hR := hR.step hb; replace hB := hB.trans (hb.mono hB.size); clear hb hL) | (go_at_call 31; refine (alone_any _ _).mono ?_; rintro e w2 ⟨rfl, rfl⟩))
  clear HO
  have hs0 := hB.size
  have hl3 := hX.lt
  have hl4 := hR.lt
  go_loopw [22] (fun i wr => ∃ k : Nat, k ≤ p.length ∧ i = .int .i64 k ∧ Pi w wr (w1.heap.size + 1) lo hi (Um.powsN lo hi p k)) (fun i _ => p.length - (intOf i).toNat)
  case atStart =>
    have hB2 : Below w1.heap.size w1 ((w1.alloc (.cells #[.int .i64 0, .int .i64 0] 24)).alloc (.cells #[.int .i64 0, .int .i64 0] 24)) := by go_grown
    refine ⟨0, by omega, rfl, rfl, ?_, hX.step hB2, hR.step hB2, hB.trans (hB2.mono hs0)⟩
    show Sp _ _ 0 0
    simpa using Sp.new (w1.alloc (.cells #[.int .i64 0, .int .i64 0] 24)) 0 0
  case round =>
    obtain ⟨k, hk, rfl, hI⟩ := hrel
    by_cases hkl : k < p.length
    · have hcx := (hI.below.cell (p := ⟨b, off + k, none⟩) hlt).trans (HC.out k hkl)
      have HO := fun w => hid (of_any lo hi k w)
      have hkk : (k : Int) < (p.length : Int) := by omega
      rw [of_pow HK.out (by omega)] at HO
      have HN := fun hp => hid (pows_next HK.out hkl h5 HM.out hI.ok hp)
      have H1 := fun h => hid (pows_out (lo := lo) (hi := hi) hkl h)
      have H2 := fun h => hid (pows_out' (lo := lo) (hi := hi) hkl h)
      clear HC HM HK
      generalize hcc : p[k]?.getD 0 = c at *
      clear hcc
      generalize Um.powsN lo hi p k = s at *
      generalize hR' : Um.powsN lo hi p (k + 1) = R at HN H1
      have HR := hid hR'
      clear hR'
      generalize Um.powR lo hi k = P at *
      have x1 := hI.x.lo
      have x2 := hI.x.hi
      by_cases hP : P.2.2 = 0
      · have kp : (P.2.2 != 0) = false := by simpa using hP
        have HT := fun w => hid (timesAdd_any c c P.1 P.2.1 s.1 s.2.1 w)
        rw [(HN hP).out] at HT
        clear HN H2
        go_wp2_with (go_at_call 53; refine (HO _).out.mono ?_; rintro e w2 ⟨rfl, hb⟩; replace hI := hI.step hb; clear hb x1 x2)
        clear HO
        obtain ⟨W, hWe⟩ : ∃ W, w2.alloc (.cells #[.int .i64 P.1, .int .i64 P.2.1] 24) = W := ⟨_, rfl⟩
        have hIW : Pi w W (w1.heap.size + 1) lo hi s := by rw [← hWe]; exact hI.step ((Below.refl _ _).alloc (Nat.le_refl _) _)
        have hsp : Sp W w2.heap.size P.1 P.2.1 := by rw [← hWe]; exact Sp.new _ _ _
        rw [hWe]
        clear hWe hI
        obtain ⟨Inv, hInv⟩ : ∃ Inv : Array Bool → Act → World → Prop, ∀ listed a W', Inv listed a W' ↔ (∃ v38 v39 v40 v41 v42 v37 v43 v44 v11 : Value, a = { tmps := #[.slice (some ⟨b, off, none⟩) p.length cap, .agg #[.int .i64 lo, .int .i64 hi], undef, .pointer (some ⟨w.heap.size, 0, none⟩), .pointer (some ⟨w.heap.size + 1, 0, none⟩), u5, errV 0, .pointer (some ⟨w1.heap.size + 1, 0, none⟩), .int .i64 k, .int .i64 c, .pointer (some ⟨w2.heap.size, 0, none⟩), v11, .slice (some ⟨b, off, none⟩) p.length cap, .agg #[.int .i64 lo, .int .i64 hi], errV 0, errV 0, .bool false, undef, undef, .agg #[.int .i64 0, .int .i64 0], .slice (some ⟨b, off, none⟩) p.length cap, .int .i64 p.length, .int .i64 k, .bool true, .int .i64 k, .pointer (some ⟨b, off + k, none⟩), .int .i64 c, .tuple #[.agg #[.int .i64 P.1, .int .i64 P.2.1], errV 0], .agg #[.int .i64 lo, .int .i64 hi], .int .i64 k, .tuple #[.agg #[.int .i64 P.1, .int .i64 P.2.1], errV 0], .agg #[.int .i64 P.1, .int .i64 P.2.1], errV 0, errV 0, .bool false, u35, u36, v37, v38, v39, v40, v41, v42, v43, v44, u45, u46, u47, u48, u49, undef], defers := [] } ∧ (∃ W2 : World, Below W.heap.size W W2 ∧ W' = if listed.getD 8 false = true then ((W2.setCell ⟨w1.heap.size + 1, 0, none⟩ (.int .i64 R.1)).setCell ⟨w1.heap.size + 1, 1, none⟩ (.int .i64 R.2.1)) else W2) ∧ (listed.getD 0 false = true → v38 = .int .i64 c) ∧ (listed.getD 1 false = true → v39 = .agg #[.int .i64 c, .int .i64 c]) ∧ (listed.getD 2 false = true → v40 = .agg #[.int .i64 P.1, .int .i64 P.2.1]) ∧ (listed.getD 3 false = true → v41 = .agg #[.int .i64 s.1, .int .i64 s.2.1]) ∧ (listed.getD 4 false = true → v42 = .tuple #[.agg #[.int .i64 R.1, .int .i64 R.2.1], errV R.2.2]) ∧ (listed.getD 5 false = true → v37 = .tuple #[.agg #[.int .i64 R.1, .int .i64 R.2.1], errV R.2.2]) ∧ (listed.getD 6 false = true → v43 = .agg #[.int .i64 R.1, .int .i64 R.2.1]) ∧ (listed.getD 7 false = true → v44 = errV R.2.2) ∧ (listed.getD 9 false = true → v11 = errV R.2.2) ∧ (listed.getD 8 false = true → listed.getD 1 false = true ∧ listed.getD 2 false = true ∧ listed.getD 3 false = true ∧ listed.getD 4 false = true)) := ⟨_, fun _ _ _ => Iff.rfl⟩
        have HI := hid hInv
        clear hInv
        refine Free.region hmx (by kernel_rfl) Inv ?s1 ?s2 ?s3
        case s1 =>
          exact (HI.out _ _ _).2 ⟨u38, u39, u40, u41, u42, u37, u43, u44, errV 0, rfl, ⟨_, (Below.refl _ _).drew, by rw [Free.none_yet]; rfl⟩, Free.not_yet, Free.not_yet, Free.not_yet, Free.not_yet, Free.not_yet, Free.not_yet, Free.not_yet, Free.not_yet, Free.not_yet, Free.not_yet⟩
        case s2 =>
          intro i listed a W1 hi hne hnl hsz hv
          obtain ⟨v38, v39, v40, v41, v42, v37, v43, v44, v11, rfl, ⟨W2, hW, hWW⟩, l0, l1, l2, l3, l4, l5, l6, l7, l9, l8⟩ := (HI.out _ _ _).1 hv
          have HWW := hid hWW
          clear hv hWW
          replace hi : i < 10 := hi
          replace hsz : listed.size = 10 := hsz
          rcases (by omega : i = 0 ∨ i = 1 ∨ i = 2 ∨ i = 3 ∨ i = 4 ∨ i = 5 ∨ i = 6 ∨ i = 7 ∨ i = 8 ∨ i = 9) with rfl | rfl | rfl | rfl | rfl | rfl | rfl | rfl | rfl | rfl
          · refine Free.op rfl rfl (fun K hK => ?_)
            go_simp
            exact hK _ _ ((HI.out _ _ _).2 ⟨_, v39, v40, v41, v42, v37, v43, v44, v11, rfl, ⟨W2, hW, by rw [Free.set_other (by decide)]; exact HWW.out⟩, fun _ => rfl, Free.of_set (by decide) l1, Free.of_set (by decide) l2, Free.of_set (by decide) l3, Free.of_set (by decide) l4, Free.of_set (by decide) l5, Free.of_set (by decide) l6, Free.of_set (by decide) l7, Free.of_set (by decide) l9, fun e => by rw [Free.set_other (by decide)] at e; rw [Free.set_other (by decide), Free.set_other (by decide), Free.set_other (by decide), Free.set_other (by decide)]; exact l8 e⟩)
          · have hf := Free.off hnl
            have h8 : listed.getD 8 false = false := by
              cases e : listed.getD 8 false
              · rfl
              · rw [(l8 e).1] at hf; cases hf
            have hWW := HWW.out
            rw [h8] at hWW
            obtain rfl : W1 = W2 := hWW
            clear HWW
            refine Free.op rfl rfl (fun K hK => ?_)
            obtain rfl := l0 (hne 0 (by kernel_rfl))
            go_wp2_with (go_at_call 31; refine (alone_any _ _).mono ?_; rintro e W3 ⟨rfl, rfl⟩)
            exact (HI.out _ _ _).2 ⟨_, _, v40, v41, v42, v37, v43, v44, v11, rfl, ⟨_, hW.alloc hW.size _, by rw [Free.set_other (by decide), h8]; rfl⟩, fun _ => rfl, fun _ => rfl, Free.of_set (by decide) l2, Free.of_set (by decide) l3, Free.of_set (by decide) l4, Free.of_set (by decide) l5, Free.of_set (by decide) l6, Free.of_set (by decide) l7, Free.of_set (by decide) l9, fun e => by rw [Free.set_other (by decide), h8] at e; cases e⟩
          · have hf := Free.off hnl
            have h8 : listed.getD 8 false = false := by
              cases e : listed.getD 8 false
              · rfl
              · rw [(l8 e).2.1] at hf; cases hf
            have hWW := HWW.out
            rw [h8] at hWW
            obtain rfl : W1 = W2 := hWW
            clear HWW
            have z1 := (hsp.step hW).lo
            have z2 := (hsp.step hW).hi
            refine Free.op rfl rfl (fun K hK => ?_)
            go_simp
            exact hK _ _ ((HI.out _ _ _).2 ⟨v38, v39, _, v41, v42, v37, v43, v44, v11, rfl, ⟨W1, hW, by rw [Free.set_other (by decide), h8]; rfl⟩, Free.of_set (by decide) l0, Free.of_set (by decide) l1, fun _ => rfl, Free.of_set (by decide) l3, Free.of_set (by decide) l4, Free.of_set (by decide) l5, Free.of_set (by decide) l6, Free.of_set (by decide) l7, Free.of_set (by decide) l9, fun e => by rw [Free.set_other (by decide), h8] at e; cases e⟩)
          · have hf := Free.off hnl
            have h8 : listed.getD 8 false = false := by
              cases e : listed.getD 8 false
              · rfl
              · rw [(l8 e).2.2.1] at hf; cases hf
            have hWW := HWW.out
            rw [h8] at hWW
            obtain rfl : W1 = W2 := hWW
            clear HWW
            have z1 := (hIW.sum.step hW).lo
            have z2 := (hIW.sum.step hW).hi
            refine Free.op rfl rfl (fun K hK => ?_)
            go_simp
            exact hK _ _ ((HI.out _ _ _).2 ⟨v38, v39, v40, _, v42, v37, v43, v44, v11, rfl, ⟨W1, hW, by rw [Free.set_other (by decide), h8]; rfl⟩, Free.of_set (by decide) l0, Free.of_set (by decide) l1, Free.of_set (by decide) l2, fun _ => rfl, Free.of_set (by decide) l4, Free.of_set (by decide) l5, Free.of_set (by decide) l6, Free.of_set (by decide) l7, Free.of_set (by decide) l9, fun e => by rw [Free.set_other (by decide), h8] at e; cases e⟩)
          · have hf := Free.off hnl
            have h8 : listed.getD 8 false = false := by
              cases e : listed.getD 8 false
              · rfl
              · rw [(l8 e).2.2.2] at hf; cases hf
            have hWW := HWW.out
            rw [h8] at hWW
            obtain rfl : W1 = W2 := hWW
            clear HWW
            refine Free.op rfl rfl (fun K hK => ?_)
            obtain rfl := l1 (hne 1 (by kernel_rfl))
            obtain rfl := l2 (hne 2 (by kernel_rfl))
            obtain rfl := l3 (hne 3 (by kernel_rfl))
            go_wp2_with (go_at_call 44; refine (HT _).out.mono ?_; rintro e W3 ⟨rfl, hb⟩)
            exact (HI.out _ _ _).2 ⟨v38, _, _, _, _, v37, v43, v44, v11, rfl, ⟨_, hW.trans (hb.mono hW.size), by rw [Free.set_other (by decide), h8]; rfl⟩, Free.of_set (by decide) l0, fun _ => rfl, fun _ => rfl, fun _ => rfl, fun _ => rfl, Free.of_set (by decide) l5, Free.of_set (by decide) l6, Free.of_set (by decide) l7, Free.of_set (by decide) l9, fun e => by rw [Free.set_other (by decide), h8] at e; cases e⟩
          · refine Free.op rfl rfl (fun K hK => ?_)
            obtain rfl := l4 (hne 4 (by kernel_rfl))
            go_simp
            exact hK _ _ ((HI.out _ _ _).2 ⟨v38, v39, v40, v41, _, _, v43, v44, v11, rfl, ⟨W2, hW, by rw [Free.set_other (by decide)]; exact HWW.out⟩, Free.of_set (by decide) l0, Free.of_set (by decide) l1, Free.of_set (by decide) l2, Free.of_set (by decide) l3, fun _ => rfl, fun _ => rfl, Free.of_set (by decide) l6, Free.of_set (by decide) l7, Free.of_set (by decide) l9, fun e => by rw [Free.set_other (by decide)] at e; rw [Free.set_other (by decide), Free.set_other (by decide), Free.set_other (by decide), Free.set_other (by decide)]; exact l8 e⟩)
          · refine Free.op rfl rfl (fun K hK => ?_)
            obtain rfl := l5 (hne 5 (by kernel_rfl))
            go_simp
            exact hK _ _ ((HI.out _ _ _).2 ⟨v38, v39, v40, v41, v42, _, _, v44, v11, rfl, ⟨W2, hW, by rw [Free.set_other (by decide)]; exact HWW.out⟩, Free.of_set (by decide) l0, Free.of_set (by decide) l1, Free.of_set (by decide) l2, Free.of_set (by decide) l3, Free.of_set (by decide) l4, fun _ => rfl, fun _ => rfl, Free.of_set (by decide) l7, Free.of_set (by decide) l9, fun e => by rw [Free.set_other (by decide)] at e; rw [Free.set_other (by decide), Free.set_other (by decide), Free.set_other (by decide), Free.set_other (by decide)]; exact l8 e⟩)
          · refine Free.op rfl rfl (fun K hK => ?_)
            obtain rfl := l5 (hne 5 (by kernel_rfl))
            go_simp
            exact hK _ _ ((HI.out _ _ _).2 ⟨v38, v39, v40, v41, v42, _, v43, _, v11, rfl, ⟨W2, hW, by rw [Free.set_other (by decide)]; exact HWW.out⟩, Free.of_set (by decide) l0, Free.of_set (by decide) l1, Free.of_set (by decide) l2, Free.of_set (by decide) l3, Free.of_set (by decide) l4, fun _ => rfl, Free.of_set (by decide) l6, fun _ => rfl, Free.of_set (by decide) l9, fun e => by rw [Free.set_other (by decide)] at e; rw [Free.set_other (by decide), Free.set_other (by decide), Free.set_other (by decide), Free.set_other (by decide)]; exact l8 e⟩)
          · have h8 := Free.off hnl
            have N := hid (And.intro (hne 1 (by kernel_rfl)) (And.intro (hne 2 (by kernel_rfl)) (And.intro (hne 3 (by kernel_rfl)) (hne 4 (by kernel_rfl)))))
            have hWW := HWW.out
            rw [h8] at hWW
            obtain rfl : W1 = W2 := hWW
            clear HWW
            have y1 := (hIW.sum.step hW).fl
            have y2 := (hIW.sum.step hW).fh
            have y3 := (hIW.sum.step hW).lo
            have y4 := (hIW.sum.step hW).hi
            refine Free.op rfl rfl (fun K hK => ?_)
            obtain rfl := l6 (hne 6 (by kernel_rfl))
            go_simp
            exact hK _ _ ((HI.out _ _ _).2 ⟨v38, v39, v40, v41, v42, v37, _, v44, v11, rfl, ⟨W1, hW, by rw [Free.set_same (by omega)]; rfl⟩, Free.of_set (by decide) l0, Free.of_set (by decide) l1, Free.of_set (by decide) l2, Free.of_set (by decide) l3, Free.of_set (by decide) l4, Free.of_set (by decide) l5, fun _ => rfl, Free.of_set (by decide) l7, Free.of_set (by decide) l9, fun _ => by rw [Free.set_other (by decide), Free.set_other (by decide), Free.set_other (by decide), Free.set_other (by decide)]; exact N.out⟩)
          · refine Free.op rfl rfl (fun K hK => ?_)
            obtain rfl := l7 (hne 7 (by kernel_rfl))
            go_simp
            exact hK _ _ ((HI.out _ _ _).2 ⟨v38, v39, v40, v41, v42, v37, v43, _, _, rfl, ⟨W2, hW, by rw [Free.set_other (by decide)]; exact HWW.out⟩, Free.of_set (by decide) l0, Free.of_set (by decide) l1, Free.of_set (by decide) l2, Free.of_set (by decide) l3, Free.of_set (by decide) l4, Free.of_set (by decide) l5, Free.of_set (by decide) l6, fun _ => rfl, fun _ => rfl, fun e => by rw [Free.set_other (by decide)] at e; rw [Free.set_other (by decide), Free.set_other (by decide), Free.set_other (by decide), Free.set_other (by decide)]; exact l8 e⟩)
        case s3 =>
          intro listed a W1 hall hsz hv
          obtain ⟨v38, v39, v40, v41, v42, v37, v43, v44, v11, rfl, ⟨W2, hW, hWW⟩, l0, l1, l2, l3, l4, l5, l6, l7, l9, l8⟩ := (HI.out _ _ _).1 hv
          clear hv HI
          rw [Free.listed_of hall hsz 8 (by decide)] at hWW
          obtain rfl : W1 = ((W2.setCell ⟨w1.heap.size + 1, 0, none⟩ (.int .i64 R.1)).setCell ⟨w1.heap.size + 1, 1, none⟩ (.int .i64 R.2.1)) := hWW
          obtain rfl := l9 (Free.listed_of hall hsz 9 (by decide))
          clear l0 l1 l2 l3 l4 l5 l6 l7 l8 l9 hall hsz HT
          have hJ := hIW.step hW
          have hres := (hJ.res.other ⟨w1.heap.size + 1, 0, none⟩ (.int .i64 R.1) (by simp only []; omega)).other ⟨w1.heap.size + 1, 1, none⟩ (.int .i64 R.2.1) (by simp only []; omega)
          by_cases hr : R.2.2 = 0
          · have kr : (R.2.2 != 0) = false := by simpa using hr
            go_wp2
            refine ⟨⟨k + 1, by omega, rfl, ?_⟩, by simp [intOf]; omega⟩
            rw [HR.out]
            exact ⟨hr, hJ.sum.set _ _, (hJ.x.other _ _ (by simp only []; omega)).other _ _ (by simp only []; omega), hres, (hJ.below.setCell (by simp only []; omega) _).setCell (by simp only []; omega) _⟩
          · have kr : (R.2.2 != 0) = true := by simpa using hr
            obtain ⟨t1, t2⟩ := (H1 hr).out
            have T1 := hid t1
            have T2 := hid t2
            clear t1 t2 H1
            have y1 := hres.fl
            have y2 := hres.fh
            have y3 := hres.lo
            have y4 := hres.hi
            have d1 := (hres.set 0 0).lo
            have d2 := (hres.set 0 0).hi
            go_wp2
            refine bodyPost_ret (by simp [results, Try.results39, go_sem, d1, d2]; try rfl) rfl ?_
            rw [T1.out, T2.out]
            exact ⟨rfl, (((hJ.below.setCell (by simp only []; omega) _).setCell (by simp only []; omega) _).setCell (by simp only []; omega) _).setCell (by simp only []; omega) _⟩
      · have kp : (P.2.2 != 0) = true := by simpa using hP
        obtain ⟨t1, t2⟩ := (H2 hP).out
        have T1 := hid t1
        have T2 := hid t2
        clear t1 t2 H2 HN H1
        go_wp2_with (go_at_call 53; refine (HO _).out.mono ?_; rintro e w2 ⟨rfl, hb⟩; replace hI := hI.step hb; clear hb x1 x2 HO; have y1 := hI.res.fl; have y2 := hI.res.fh; have y3 := hI.res.lo; have y4 := hI.res.hi; have y5 := hI.res.lt)
        have hz := hI.below.size
        have d1 := ((hI.res.set 0 0).alloc (.cells #[.int .i64 P.1, .int .i64 P.2.1] 24)).lo
        have d2 := ((hI.res.set 0 0).alloc (.cells #[.int .i64 P.1, .int .i64 P.2.1] 24)).hi
        refine bodyPost_ret (by simp [results, Try.results39, go_sem, d1, d2]; try rfl) rfl ?_
        rw [T1.out, T2.out]
        exact ⟨rfl, ((hI.below.setCell (by simp only []; omega) _).setCell (by simp only []; omega) _).alloc (by simp; omega) _⟩
    · obtain rfl : k = p.length := by omega
      clear HC HM HK
      generalize hR' : Um.powsN lo hi p p.length = R at hI
      have HR := hid hR'
      clear hR'
      have z1 := hI.sum.lo
      have z2 := hI.sum.hi
      have y1 := hI.res.fl
      have y2 := hI.res.fh
      have y3 := hI.res.lo
      have y4 := hI.res.hi
      go_wp2
      have d1 := (hI.res.set R.1 R.2.1).lo
      have d2 := (hI.res.set R.1 R.2.1).hi
      refine bodyPost_ret (by simp [results, Try.results39, go_sem, d1, d2]; try rfl) rfl ?_
      rw [HR.out, hI.ok]
      exact ⟨rfl, (hI.below.setCell (by simp only []; omega) _).setCell (by simp only []; omega) _⟩

set_option maxHeartbeats 1000000 in
theorem powers_wrong (p : List Int) (v : Value) (lo hi : Int) (w : World) (hl : Li w.heap.size w v p) (h : ¬ Um.over p lo hi = 0) :
    Calls Try.prog 39 #[v, .agg #[.int .i64 lo, .int .i64 hi]] w fun e w' => e = .returned (.tuple #[.agg #[.int .i64 0, .int .i64 0], errV (Um.over p lo hi)]) ∧ Below w.heap.size w w' := by
  have q1 := errG
  have q2 := errGn
  have q3 := errE
  have q4 := errN
  have HO := fun w hl => hid (checkOver_any p v lo hi w hl)
  have k : (Um.over p lo hi != 0) = true := by simpa using h
  clear h
  have hR : Sp ((w.alloc (.cells #[.int .i64 lo, .int .i64 hi] 24)).alloc (.cells #[.int .i64 0, .int .i64 0] 24)) (w.heap.size + 1) 0 0 := by
    simpa using Sp.new (w.alloc (.cells #[.int .i64 lo, .int .i64 hi] 24)) 0 0
  have hB : Below w.heap.size w ((w.alloc (.cells #[.int .i64 lo, .int .i64 hi] 24)).alloc (.cells #[.int .i64 0, .int .i64 0] 24)) := by go_grown
  have hL := (hl.keep hB).wide hB.size
  obtain ⟨a, cap, rfl, -⟩ := hl
  generalize Um.over p lo hi = T at *
  go_enter Try.func39, Try.ntmps39
  go_wp2_with (go_at_call 26; refine (HO _ hL).out.mono ?_; rintro e w1 ⟨rfl, hb⟩; replace hR := hR.step hb; replace hB := hB.trans (hb.mono hB.size); clear hb hL; have y1 := hR.fl; have y2 := hR.fh; have y3 := hR.lo; have y4 := hR.hi)
  have d1 := (hR.set 0 0).lo
  have d2 := (hR.set 0 0).hi
  refine bodyPost_ret (by simp [results, Try.results39, go_sem, d1, d2]; try rfl) rfl ?_
  exact ⟨rfl, (hB.setCell (by simp only []; omega) _).setCell (by simp only []; omega) _⟩

/-- At every argument. -/
theorem powers_any (p : List Int) (v : Value) (lo hi : Int) (w : World) (hl : Li w.heap.size w v p) :
    Calls Try.prog 39 #[v, .agg #[.int .i64 lo, .int .i64 hi]] w fun e w' => e = .returned (.tuple #[.agg #[.int .i64 (Um.powsAll p lo hi).1, .int .i64 (Um.powsAll p lo hi).2.1], errV (Um.powsAll p lo hi).2.2]) ∧ Below w.heap.size w w' := by
  unfold Um.powsAll
  by_cases h : Um.over p lo hi = 0
  · rw [if_pos h]; exact powers_right p v lo hi w hl h
  · rw [if_neg h]; exact powers_wrong p v lo hi w hl h
end Go.Proofs.Ythoiiffdigkodaa
