/-
  What the document's answer (package spanref1) to polynomials is: Horner at a right polynomial and a right span.
-/
import Derived.Test.YthoiiffdigkodaaGreatDoorRefSpan
import Derived.Test.YthoiiffdigkodaaGreatDoorRefPoly
import Derived.Test.YthoiiffdigkodaaGreatDoorMems
namespace Go.Proofs.YthoiiffdigkodaaGreatDoor
set_option linter.unusedSimpArgs false
open Go.RowKit

/-- What is summed up, and what else lies there: the span, the result's own block. -/
structure Ri (w W : World) (S : Nat) (lo hi : Int) (s : Int × Int × Int) : Prop where
  ok : s.2.2 = 0
  sum : Sp W S s.1 s.2.1
  x : Sp W w.heap.size lo hi
  res : Sp W (w.heap.size + 1) 0 0
  below : Below w.heap.size w W
theorem Ri.step {w W W' : World} {S : Nat} {lo hi : Int} {s : Int × Int × Int} (h : Ri w W S lo hi s) (hb : Below W.heap.size W W') : Ri w W' S lo hi s :=
  ⟨h.ok, h.sum.step hb, h.x.step hb, h.res.step hb, h.below.trans (hb.mono h.below.size)⟩
theorem Ri.put {w W : World} {S : Nat} {lo hi : Int} {s : Int × Int × Int} (h : Ri w W S lo hi s) (hS : w.heap.size + 1 < S) (t : Int × Int × Int) (ht : t.2.2 = 0) : Ri w ((W.setCell ⟨S, 0, none⟩ (.int .i64 t.1)).setCell ⟨S, 1, none⟩ (.int .i64 t.2.1)) S lo hi t :=
  ⟨ht, h.sum.set _ _, (h.x.other _ _ (by simp only []; omega)).other _ _ (by simp only []; omega), (h.res.other _ _ (by simp only []; omega)).other _ _ (by simp only []; omega), (h.below.setCell (by simp only []; omega) _).setCell (by simp only []; omega) _⟩

theorem drop_step {p : List Int} {j : Nat} (h : j < p.length) : p.drop j = (p[j]?.getD 0) :: p.drop (j + 1) := by
  rw [List.drop_eq_getElem_cons h, List.getElem?_eq_getElem h]; rfl
theorem horn_drop {lo hi : Int} {p : List Int} {j : Nat} (h : j + 1 < p.length) : Um.hornR lo hi (p.drop j) = Um.hstep lo hi (Um.hornR lo hi (p.drop (j + 1))) (p[j]?.getD 0) := by
  rw [drop_step (by omega : j < p.length), Um.horn_cons _ _ _ (by intro e; have := congrArg List.length e; simp at this; omega)]
theorem horn_last {lo hi : Int} {p : List Int} (h : p ≠ []) : Um.hornR lo hi (p.drop (p.length - 1)) = (p[p.length - 1]?.getD 0, p[p.length - 1]?.getD 0, 0) := by
  have hp := List.length_pos_iff.2 h
  rw [drop_step (by omega : p.length - 1 < p.length), show p.length - 1 + 1 = p.length by omega, List.drop_length]
  exact Um.horn_one _ _ _
theorem horn_out {lo hi : Int} {p : List Int} : ∀ {j : Nat}, j < p.length → ¬ (Um.hornR lo hi (p.drop j)).2.2 = 0 → Um.hornR lo hi p = (0, 0, 4)
  | 0, _, h => (Um.horn_fault lo hi p).resolve_left h
  | j + 1, hj, h => horn_out (j := j) (by omega) (by rw [horn_drop hj]; unfold Um.hstep; rw [if_neg h]; decide)
theorem horn_right {lo hi : Int} {p : List Int} {j : Nat} (hc : Um.chk lo hi = 0) (hm : ∀ c ∈ p, Um.may c = true) (hj : j < p.length) (h : (Um.hornR lo hi (p.drop j)).2.2 = 0) : Um.chk (Um.hornR lo hi (p.drop j)).1 (Um.hornR lo hi (p.drop j)).2.1 = 0 :=
  Um.horn_chk (Um.chk_ok.1 hc).2.2 _ (by intro e; have := congrArg List.length e; simp at this; omega) (fun c hcm => hm c (List.mem_of_mem_drop hcm)) h

set_option maxRecDepth 100000 in
set_option maxHeartbeats 8000000 in
theorem rHorner_any (p : List Int) (v : Value) (lo hi : Int) (w : World) (hl : Li w.heap.size w v p) (h : Um.over p lo hi = 0) :
    Calls Tryz.prog 27 #[v, .agg #[.int .i64 lo, .int .i64 hi]] w fun e w' => e = .returned (.tuple #[.agg #[.int .i64 (Um.hornR lo hi p).1, .int .i64 (Um.hornR lo hi p).2.1], .int .i64 (Um.hornR lo hi p).2.2]) ∧ Below w.heap.size w w' := by
  have hmx : Tryz.prog.follows .mixedOrders = true := by kernel_rfl
  obtain ⟨hp, hc⟩ := Um.over_ok.1 h
  obtain ⟨h0, h5, hm⟩ := Um.pchk_ok.1 hp
  obtain ⟨b, off, cap, rfl, hlt, hcs⟩ := hl.out h0
  have hlen : 0 < p.length := List.length_pos_iff.2 h0
  obtain ⟨n, hn⟩ : ∃ n, p.length = n + 1 := ⟨p.length - 1, by omega⟩
  have HC := hid hcs
  have HM := hid hm
  have HK := hid hc
  have HL := hid (horn_last (lo := lo) (hi := hi) h0)
  rw [hn, show n + 1 - 1 = n by omega] at HL
  have c0 := hcs n (by omega)
  have hX : Sp ((w.alloc (.cells #[.int .i64 lo, .int .i64 hi] 24)).alloc (.cells #[.int .i64 0, .int .i64 0] 24)) w.heap.size lo hi := (Sp.new w lo hi).alloc _
  have hR : Sp ((w.alloc (.cells #[.int .i64 lo, .int .i64 hi] 24)).alloc (.cells #[.int .i64 0, .int .i64 0] 24)) (w.heap.size + 1) 0 0 := by
    simpa using Sp.new (w.alloc (.cells #[.int .i64 lo, .int .i64 hi] 24)) 0 0
  have hB : Below w.heap.size w ((w.alloc (.cells #[.int .i64 lo, .int .i64 hi] 24)).alloc (.cells #[.int .i64 0, .int .i64 0] 24)) := by go_grown
  generalize hd : p[n]?.getD 0 = d at c0 HL
  have hnn : (p.length : Int) - 1 = (n : Int) := by omega
  have hn2 : (p.length : Int) - 2 = (n : Int) - 1 := by omega
  have HN := hid hn
  clear hn
  have hlt2 : (n : Int) < (p.length : Int) := by omega
  clear hcs hm h0 hp hc h hl hd
  go_enter Tryz.func27, Tryz.ntmps27
  go_wp2_with (go_at_call 28; refine (rAlone_any _ _).mono ?_; rintro e w1 ⟨rfl, hb⟩; replace hX := hX.step hb; replace hR := hR.step hb; replace hB := hB.trans (hb.mono hB.size); clear hb)
  have hs0 := hB.size
  have hl3 := hX.lt
  have hl4 := hR.lt
  go_loopw [8] (fun i wr => ∃ m : Nat, m ≤ n ∧ i = .int .i64 ((m : Int) - 1) ∧ Ri w wr w1.heap.size lo hi (Um.hornR lo hi (p.drop m))) (fun i _ => (intOf i + 1).toNat)
  case atStart =>
    have hB2 : Below w1.heap.size w1 (w1.alloc (.cells #[.int .i64 d, .int .i64 d] 24)) := by go_grown
    refine ⟨n, Nat.le_refl _, rfl, ?_⟩
    rw [HL.out]
    exact ⟨rfl, Sp.new _ _ _, hX.step hB2, hR.step hB2, hB.trans (hB2.mono hs0)⟩
  case round =>
    obtain ⟨m, hmn, rfl, hI⟩ := hrel
    cases m with
    | zero =>
      have hI' : Ri w wr w1.heap.size lo hi (Um.hornR lo hi p) := hI
      clear hI HC HM HK HL
      generalize hRR : Um.hornR lo hi p = R at hI'
      have HRR := hid hRR
      clear hRR
      have z1 := hI'.sum.lo
      have z2 := hI'.sum.hi
      have y1 := hI'.res.fl
      have y2 := hI'.res.fh
      have y3 := hI'.res.lo
      have y4 := hI'.res.hi
      have d1 := (hI'.res.set R.1 R.2.1).lo
      have d2 := (hI'.res.set R.1 R.2.1).hi
      go_wp2
      refine bodyPost_ret (by simp [results, Tryz.results27, go_sem, d1, d2]; try rfl) rfl ?_
      rw [HRR.out, hI'.ok]
      exact ⟨rfl, (hI'.below.setCell (by simp only []; omega) _).setCell (by simp only []; omega) _⟩
    | succ j =>
      have hnl := HN.out
      have hjl : j + 1 < p.length := by omega
      have ej : ((j + 1 : Nat) : Int) - 1 = (j : Int) := by omega
      rw [ej]
      clear ej
      have hc0 := HC.out j (by omega)
      have hjj : (j : Int) < (p.length : Int) := by omega
      have HD := hid (horn_drop (lo := lo) (hi := hi) hjl)
      have hcs := horn_right HK.out HM.out (by omega : j + 1 < p.length) hI.ok
      have hok := hI.ok
      have RF := hid (Um.horn_fault lo hi (p.drop j))
      have O1 := fun h => hid (horn_out (lo := lo) (hi := hi) (by omega : j < p.length) h)
      have hmc := HM.out _ (Um.at_mem (by omega : j < p.length))
      clear HC HM HL hnl
      obtain ⟨m1, m2, m3⟩ := Um.chk_ok.1 hcs
      obtain ⟨m4, m5, m6⟩ := Um.chk_ok.1 HK.out
      generalize p[j]?.getD 0 = c at *
      generalize hRR : Um.hornR lo hi (p.drop j) = R at *
      have HRR := hid hRR
      clear hRR
      generalize Um.hornR lo hi (p.drop (j + 1)) = s at *
      have HT := fun w => hid (rTimes_um s.1 s.2.1 lo hi w m1 m2 m4 m5)
      have HH : Hid (R = if (Um.stimesR s.1 s.2.1 lo hi).2.2 = 0 then Um.addR (Um.stimesR s.1 s.2.1 lo hi).1 (Um.stimesR s.1 s.2.1 lo hi).2.1 c c else (0, 0, 4)) := by rw [HD.out]; unfold Um.hstep; rw [if_pos hok]; rfl
      have tf := Um.stimes_fault s.1 s.2.1 lo hi
      have tc := fun h => Um.stimes_chk (al := s.1) (ah := s.2.1) (bl := lo) (bh := hi) m3 m6 h
      clear HD hok hcs m1 m2 m3 m4 m5 m6 HK
      generalize Um.stimesR s.1 s.2.1 lo hi = T at *
      have x1 := hI.x.lo
      have x2 := hI.x.hi
      have z1 := hI.sum.lo
      have z2 := hI.sum.hi
      by_cases hT : T.2.2 = 0
      · have kt : (T.2.2 != 0) = false := by simpa using hT
        obtain ⟨m1, m2, m3⟩ := Um.chk_ok.1 (tc hT)
        have HA := fun w => hid (rAdd_any T.1 T.2.1 c c w m1 m2 hmc hmc)
        rw [← (show R = Um.addR T.1 T.2.1 c c by rw [HH.out, if_pos hT])] at HA
        have Tz : Hid (T.2.2 = 0) := hT
        clear HH hmc tc tf m1 m2 m3 hT
        go_wp2_with (go_at_call 47; refine (HT _).out.mono ?_; rintro e w2 ⟨rfl, hb⟩; replace hI := hI.step hb; clear hb x1 x2 z1 z2; have y1 := hI.sum.fl; have y2 := hI.sum.fh; have y3 := hI.sum.lo; have y4 := hI.sum.hi)
        clear y1 y2 y3 y4
        obtain ⟨W, hWe⟩ : ∃ W, ((w2.setCell ⟨w1.heap.size, 0, none⟩ (.int .i64 T.1)).setCell ⟨w1.heap.size, 1, none⟩ (.int .i64 T.2.1)) = W := ⟨_, rfl⟩
        have hIW : Ri w W w1.heap.size lo hi T := by rw [← hWe]; exact hI.put (by omega) T Tz.out
        rw [hWe]
        clear hWe hI
        have hcW := (hIW.below.cell (p := ⟨b, off + j, none⟩) hlt).trans hc0
        have hbW := Nat.lt_of_lt_of_le hlt hIW.below.size
        obtain ⟨Inv, hInv⟩ : ∃ Inv : Array Bool → Act → World → Prop, ∀ listed a W', Inv listed a W' ↔ (∃ v34 v35 v36 v37 v38 v39 v40 v33 v41 v42 v7 : Value, a = { tmps := #[.slice (some ⟨b, off, none⟩) p.length cap, .agg #[.int .i64 lo, .int .i64 hi], undef, .pointer (some ⟨w.heap.size, 0, none⟩), .pointer (some ⟨w.heap.size + 1, 0, none⟩), u5, .pointer (some ⟨w1.heap.size, 0, none⟩), v7, .int .i64 j, .slice (some ⟨b, off, none⟩) p.length cap, .slice (some ⟨b, off, none⟩) p.length cap, .int .i64 p.length, .int .i64 n, .pointer (some ⟨b, off + n, none⟩), .int .i64 d, .agg #[.int .i64 d, .int .i64 d], .slice (some ⟨b, off, none⟩) p.length cap, .int .i64 p.length, .int .i64 ((n : Int) - 1), .int .i64 j, .bool true, u21, u22, .tuple #[.agg #[.int .i64 T.1, .int .i64 T.2.1], .int .i64 T.2.2], .agg #[.int .i64 s.1, .int .i64 s.2.1], .agg #[.int .i64 lo, .int .i64 hi], .tuple #[.agg #[.int .i64 T.1, .int .i64 T.2.1], .int .i64 T.2.2], .agg #[.int .i64 T.1, .int .i64 T.2.1], .int .i64 T.2.2, .int .i64 T.2.2, .bool false, u31, u32, v33, v34, v35, v36, v37, v38, v39, v40, v41, v42, u43, u44, u45, u46, undef], defers := [] } ∧ (∃ W2 : World, Below W.heap.size W W2 ∧ W' = if listed.getD 10 false = true then ((W2.setCell ⟨w1.heap.size, 0, none⟩ (.int .i64 R.1)).setCell ⟨w1.heap.size, 1, none⟩ (.int .i64 R.2.1)) else W2) ∧ (listed.getD 0 false = true → v34 = .agg #[.int .i64 T.1, .int .i64 T.2.1]) ∧ (listed.getD 1 false = true → v35 = .slice (some ⟨b, off, none⟩) p.length cap) ∧ (listed.getD 2 false = true → v36 = .int .i64 j) ∧ (listed.getD 3 false = true → v37 = .pointer (some ⟨b, off + j, none⟩)) ∧ (listed.getD 4 false = true → v38 = .int .i64 c) ∧ (listed.getD 5 false = true → v39 = .agg #[.int .i64 c, .int .i64 c]) ∧ (listed.getD 6 false = true → v40 = .tuple #[.agg #[.int .i64 R.1, .int .i64 R.2.1], .int .i64 R.2.2]) ∧ (listed.getD 7 false = true → v33 = .tuple #[.agg #[.int .i64 R.1, .int .i64 R.2.1], .int .i64 R.2.2]) ∧ (listed.getD 8 false = true → v41 = .agg #[.int .i64 R.1, .int .i64 R.2.1]) ∧ (listed.getD 9 false = true → v42 = .int .i64 R.2.2) ∧ (listed.getD 11 false = true → v7 = .int .i64 R.2.2) ∧ (listed.getD 10 false = true → listed.getD 0 false = true ∧ listed.getD 4 false = true ∧ listed.getD 5 false = true ∧ listed.getD 6 false = true)) := ⟨_, fun _ _ _ => Iff.rfl⟩
        have HI := hid hInv
        clear hInv
        refine Free.region hmx (by kernel_rfl) Inv ?s1 ?s2 ?s3
        case s1 =>
          exact (HI.out _ _ _).2 ⟨u34, u35, u36, u37, u38, u39, u40, u33, u41, u42, .int .i64 T.2.2, rfl, ⟨_, (Below.refl _ _).drew, by rw [Free.none_yet]; rfl⟩, Free.not_yet, Free.not_yet, Free.not_yet, Free.not_yet, Free.not_yet, Free.not_yet, Free.not_yet, Free.not_yet, Free.not_yet, Free.not_yet, Free.not_yet, Free.not_yet⟩
        case s2 =>
          intro i listed a W1 hi hne hnl hsz hv
          obtain ⟨v34, v35, v36, v37, v38, v39, v40, v33, v41, v42, v7, rfl, ⟨W2, hW, hWW⟩, l0, l1, l2, l3, l4, l5, l6, l7, l8, l9, l11, l10⟩ := (HI.out _ _ _).1 hv
          have HWW := hid hWW
          clear hv hWW
          replace hi : i < 12 := hi
          replace hsz : listed.size = 12 := hsz
          rcases (by omega : i = 0 ∨ i = 1 ∨ i = 2 ∨ i = 3 ∨ i = 4 ∨ i = 5 ∨ i = 6 ∨ i = 7 ∨ i = 8 ∨ i = 9 ∨ i = 10 ∨ i = 11) with rfl | rfl | rfl | rfl | rfl | rfl | rfl | rfl | rfl | rfl | rfl | rfl
          · have hf := Free.off hnl
            have hs : listed.getD 10 false = false := by
              cases e : listed.getD 10 false
              · rfl
              · rw [(l10 e).1] at hf; cases hf
            have hWW := HWW.out
            rw [hs] at hWW
            obtain rfl : W1 = W2 := hWW
            clear HWW
            have z1 := (hIW.sum.step hW).lo
            have z2 := (hIW.sum.step hW).hi
            refine Free.op rfl rfl (fun K hK => ?_)
            go_simp
            exact hK _ _ ((HI.out _ _ _).2 ⟨_, v35, v36, v37, v38, v39, v40, v33, v41, v42, v7, rfl, ⟨W1, hW, by rw [Free.set_other (by decide), hs]; rfl⟩, fun _ => rfl, Free.of_set (by decide) l1, Free.of_set (by decide) l2, Free.of_set (by decide) l3, Free.of_set (by decide) l4, Free.of_set (by decide) l5, Free.of_set (by decide) l6, Free.of_set (by decide) l7, Free.of_set (by decide) l8, Free.of_set (by decide) l9, Free.of_set (by decide) l11, fun e => by rw [Free.set_other (by decide), hs] at e; cases e⟩)
          · refine Free.op rfl rfl (fun K hK => ?_)
            go_simp
            exact hK _ _ ((HI.out _ _ _).2 ⟨v34, _, v36, v37, v38, v39, v40, v33, v41, v42, v7, rfl, ⟨W2, hW, by rw [Free.set_other (by decide)]; exact HWW.out⟩, Free.of_set (by decide) l0, fun _ => rfl, Free.of_set (by decide) l2, Free.of_set (by decide) l3, Free.of_set (by decide) l4, Free.of_set (by decide) l5, Free.of_set (by decide) l6, Free.of_set (by decide) l7, Free.of_set (by decide) l8, Free.of_set (by decide) l9, Free.of_set (by decide) l11, fun e => by rw [Free.set_other (by decide)] at e; rw [Free.set_other (by decide), Free.set_other (by decide), Free.set_other (by decide), Free.set_other (by decide)]; exact l10 e⟩)
          · refine Free.op rfl rfl (fun K hK => ?_)
            go_simp
            exact hK _ _ ((HI.out _ _ _).2 ⟨v34, v35, _, v37, v38, v39, v40, v33, v41, v42, v7, rfl, ⟨W2, hW, by rw [Free.set_other (by decide)]; exact HWW.out⟩, Free.of_set (by decide) l0, Free.of_set (by decide) l1, fun _ => rfl, Free.of_set (by decide) l3, Free.of_set (by decide) l4, Free.of_set (by decide) l5, Free.of_set (by decide) l6, Free.of_set (by decide) l7, Free.of_set (by decide) l8, Free.of_set (by decide) l9, Free.of_set (by decide) l11, fun e => by rw [Free.set_other (by decide)] at e; rw [Free.set_other (by decide), Free.set_other (by decide), Free.set_other (by decide), Free.set_other (by decide)]; exact l10 e⟩)
          · refine Free.op rfl rfl (fun K hK => ?_)
            obtain rfl := l1 (hne 1 (by kernel_rfl))
            obtain rfl := l2 (hne 2 (by kernel_rfl))
            go_simp
            exact hK _ _ ((HI.out _ _ _).2 ⟨v34, _, _, _, v38, v39, v40, v33, v41, v42, v7, rfl, ⟨W2, hW, by rw [Free.set_other (by decide)]; exact HWW.out⟩, Free.of_set (by decide) l0, fun _ => rfl, fun _ => rfl, fun _ => rfl, Free.of_set (by decide) l4, Free.of_set (by decide) l5, Free.of_set (by decide) l6, Free.of_set (by decide) l7, Free.of_set (by decide) l8, Free.of_set (by decide) l9, Free.of_set (by decide) l11, fun e => by rw [Free.set_other (by decide)] at e; rw [Free.set_other (by decide), Free.set_other (by decide), Free.set_other (by decide), Free.set_other (by decide)]; exact l10 e⟩)
          · have hf := Free.off hnl
            have hs : listed.getD 10 false = false := by
              cases e : listed.getD 10 false
              · rfl
              · rw [(l10 e).2.1] at hf; cases hf
            have hWW := HWW.out
            rw [hs] at hWW
            obtain rfl : W1 = W2 := hWW
            clear HWW
            have z1 := (hW.cell (p := ⟨b, off + j, none⟩) hbW).trans hcW
            refine Free.op rfl rfl (fun K hK => ?_)
            obtain rfl := l3 (hne 3 (by kernel_rfl))
            go_simp
            exact hK _ _ ((HI.out _ _ _).2 ⟨v34, v35, v36, _, _, v39, v40, v33, v41, v42, v7, rfl, ⟨W1, hW, by rw [Free.set_other (by decide), hs]; rfl⟩, Free.of_set (by decide) l0, Free.of_set (by decide) l1, Free.of_set (by decide) l2, fun _ => rfl, fun _ => rfl, Free.of_set (by decide) l5, Free.of_set (by decide) l6, Free.of_set (by decide) l7, Free.of_set (by decide) l8, Free.of_set (by decide) l9, Free.of_set (by decide) l11, fun e => by rw [Free.set_other (by decide), hs] at e; cases e⟩)
          · have hf := Free.off hnl
            have hs : listed.getD 10 false = false := by
              cases e : listed.getD 10 false
              · rfl
              · rw [(l10 e).2.2.1] at hf; cases hf
            have hWW := HWW.out
            rw [hs] at hWW
            obtain rfl : W1 = W2 := hWW
            clear HWW
            refine Free.op rfl rfl (fun K hK => ?_)
            obtain rfl := l4 (hne 4 (by kernel_rfl))
            go_wp2_with (go_at_call 28; refine (rAlone_any _ _).mono ?_; rintro e W3 ⟨rfl, hb⟩)
            exact (HI.out _ _ _).2 ⟨v34, v35, v36, v37, _, _, v40, v33, v41, v42, v7, rfl, ⟨_, hW.trans (hb.mono hW.size), by rw [Free.set_other (by decide), hs]; rfl⟩, Free.of_set (by decide) l0, Free.of_set (by decide) l1, Free.of_set (by decide) l2, Free.of_set (by decide) l3, fun _ => rfl, fun _ => rfl, Free.of_set (by decide) l6, Free.of_set (by decide) l7, Free.of_set (by decide) l8, Free.of_set (by decide) l9, Free.of_set (by decide) l11, fun e => by rw [Free.set_other (by decide), hs] at e; cases e⟩
          · have hf := Free.off hnl
            have hs : listed.getD 10 false = false := by
              cases e : listed.getD 10 false
              · rfl
              · rw [(l10 e).2.2.2] at hf; cases hf
            have hWW := HWW.out
            rw [hs] at hWW
            obtain rfl : W1 = W2 := hWW
            clear HWW
            refine Free.op rfl rfl (fun K hK => ?_)
            obtain rfl := l0 (hne 0 (by kernel_rfl))
            obtain rfl := l5 (hne 5 (by kernel_rfl))
            go_wp2_with (go_at_call 48; refine (HA _).out.mono ?_; rintro e W3 ⟨rfl, hb⟩)
            exact (HI.out _ _ _).2 ⟨_, v35, v36, v37, v38, _, _, v33, v41, v42, v7, rfl, ⟨_, hW.trans (hb.mono hW.size), by rw [Free.set_other (by decide), hs]; rfl⟩, fun _ => rfl, Free.of_set (by decide) l1, Free.of_set (by decide) l2, Free.of_set (by decide) l3, Free.of_set (by decide) l4, fun _ => rfl, fun _ => rfl, Free.of_set (by decide) l7, Free.of_set (by decide) l8, Free.of_set (by decide) l9, Free.of_set (by decide) l11, fun e => by rw [Free.set_other (by decide), hs] at e; cases e⟩
          · refine Free.op rfl rfl (fun K hK => ?_)
            obtain rfl := l6 (hne 6 (by kernel_rfl))
            go_simp
            exact hK _ _ ((HI.out _ _ _).2 ⟨v34, v35, v36, v37, v38, v39, _, _, v41, v42, v7, rfl, ⟨W2, hW, by rw [Free.set_other (by decide)]; exact HWW.out⟩, Free.of_set (by decide) l0, Free.of_set (by decide) l1, Free.of_set (by decide) l2, Free.of_set (by decide) l3, Free.of_set (by decide) l4, Free.of_set (by decide) l5, fun _ => rfl, fun _ => rfl, Free.of_set (by decide) l8, Free.of_set (by decide) l9, Free.of_set (by decide) l11, fun e => by rw [Free.set_other (by decide)] at e; rw [Free.set_other (by decide), Free.set_other (by decide), Free.set_other (by decide), Free.set_other (by decide)]; exact l10 e⟩)
          · refine Free.op rfl rfl (fun K hK => ?_)
            obtain rfl := l7 (hne 7 (by kernel_rfl))
            go_simp
            exact hK _ _ ((HI.out _ _ _).2 ⟨v34, v35, v36, v37, v38, v39, v40, _, _, v42, v7, rfl, ⟨W2, hW, by rw [Free.set_other (by decide)]; exact HWW.out⟩, Free.of_set (by decide) l0, Free.of_set (by decide) l1, Free.of_set (by decide) l2, Free.of_set (by decide) l3, Free.of_set (by decide) l4, Free.of_set (by decide) l5, Free.of_set (by decide) l6, fun _ => rfl, fun _ => rfl, Free.of_set (by decide) l9, Free.of_set (by decide) l11, fun e => by rw [Free.set_other (by decide)] at e; rw [Free.set_other (by decide), Free.set_other (by decide), Free.set_other (by decide), Free.set_other (by decide)]; exact l10 e⟩)
          · refine Free.op rfl rfl (fun K hK => ?_)
            obtain rfl := l7 (hne 7 (by kernel_rfl))
            go_simp
            exact hK _ _ ((HI.out _ _ _).2 ⟨v34, v35, v36, v37, v38, v39, v40, _, v41, _, v7, rfl, ⟨W2, hW, by rw [Free.set_other (by decide)]; exact HWW.out⟩, Free.of_set (by decide) l0, Free.of_set (by decide) l1, Free.of_set (by decide) l2, Free.of_set (by decide) l3, Free.of_set (by decide) l4, Free.of_set (by decide) l5, Free.of_set (by decide) l6, fun _ => rfl, Free.of_set (by decide) l8, fun _ => rfl, Free.of_set (by decide) l11, fun e => by rw [Free.set_other (by decide)] at e; rw [Free.set_other (by decide), Free.set_other (by decide), Free.set_other (by decide), Free.set_other (by decide)]; exact l10 e⟩)
          · have hs := Free.off hnl
            have N := hid (And.intro (hne 0 (by kernel_rfl)) (And.intro (hne 4 (by kernel_rfl)) (And.intro (hne 5 (by kernel_rfl)) (hne 6 (by kernel_rfl)))))
            have hWW := HWW.out
            rw [hs] at hWW
            obtain rfl : W1 = W2 := hWW
            clear HWW
            have y1 := (hIW.sum.step hW).fl
            have y2 := (hIW.sum.step hW).fh
            have y3 := (hIW.sum.step hW).lo
            have y4 := (hIW.sum.step hW).hi
            refine Free.op rfl rfl (fun K hK => ?_)
            obtain rfl := l8 (hne 8 (by kernel_rfl))
            go_simp
            exact hK _ _ ((HI.out _ _ _).2 ⟨v34, v35, v36, v37, v38, v39, v40, v33, _, v42, v7, rfl, ⟨W1, hW, by rw [Free.set_same (by omega)]; rfl⟩, Free.of_set (by decide) l0, Free.of_set (by decide) l1, Free.of_set (by decide) l2, Free.of_set (by decide) l3, Free.of_set (by decide) l4, Free.of_set (by decide) l5, Free.of_set (by decide) l6, Free.of_set (by decide) l7, fun _ => rfl, Free.of_set (by decide) l9, Free.of_set (by decide) l11, fun _ => by rw [Free.set_other (by decide), Free.set_other (by decide), Free.set_other (by decide), Free.set_other (by decide)]; exact N.out⟩)
          · refine Free.op rfl rfl (fun K hK => ?_)
            obtain rfl := l9 (hne 9 (by kernel_rfl))
            go_simp
            exact hK _ _ ((HI.out _ _ _).2 ⟨v34, v35, v36, v37, v38, v39, v40, v33, v41, _, _, rfl, ⟨W2, hW, by rw [Free.set_other (by decide)]; exact HWW.out⟩, Free.of_set (by decide) l0, Free.of_set (by decide) l1, Free.of_set (by decide) l2, Free.of_set (by decide) l3, Free.of_set (by decide) l4, Free.of_set (by decide) l5, Free.of_set (by decide) l6, Free.of_set (by decide) l7, Free.of_set (by decide) l8, fun _ => rfl, fun _ => rfl, fun e => by rw [Free.set_other (by decide)] at e; rw [Free.set_other (by decide), Free.set_other (by decide), Free.set_other (by decide), Free.set_other (by decide)]; exact l10 e⟩)
        case s3 =>
          intro listed a W1 hall hsz hv
          obtain ⟨v34, v35, v36, v37, v38, v39, v40, v33, v41, v42, v7, rfl, ⟨W2, hW, hWW⟩, l0, l1, l2, l3, l4, l5, l6, l7, l8, l9, l11, l10⟩ := (HI.out _ _ _).1 hv
          clear hv HI
          rw [Free.listed_of hall hsz 10 (by decide)] at hWW
          obtain rfl : W1 = ((W2.setCell ⟨w1.heap.size, 0, none⟩ (.int .i64 R.1)).setCell ⟨w1.heap.size, 1, none⟩ (.int .i64 R.2.1)) := hWW
          obtain rfl := l11 (Free.listed_of hall hsz 11 (by decide))
          clear l0 l1 l2 l3 l4 l5 l6 l7 l8 l9 l10 hall hsz HA
          have hJ := hIW.step hW
          by_cases hr : R.2.2 = 0
          · have kr : (R.2.2 != 0) = false := by simpa using hr
            have hJ2 := hJ.put (by omega) R hr
            have HZ := hid hr
            clear hr
            go_wp2
            refine ⟨⟨j, by omega, rfl, ?_⟩, by simp [intOf] <;> omega⟩
            rw [HRR.out]
            exact hJ2
          · have kr : (R.2.2 != 0) = true := by simpa using hr
            have HO := hid (O1 hr).out
            have hR4 := RF.out.resolve_left hr
            have hres := (hJ.res.other ⟨w1.heap.size, 0, none⟩ (.int .i64 R.1) (by simp only []; omega)).other ⟨w1.heap.size, 1, none⟩ (.int .i64 R.2.1) (by simp only []; omega)
            have H4 : Hid (R.2.2 = 4) := by rw [hR4]; rfl
            clear O1 hR4 hr RF
            have y5 := hres.fl
            have y6 := hres.fh
            have y7 := hres.lo
            have y8 := hres.hi
            have d1 := (hres.set 0 0).lo
            have d2 := (hres.set 0 0).hi
            go_wp2
            refine bodyPost_ret (by simp [results, Tryz.results27, go_sem, d1, d2]; try rfl) rfl ?_
            rw [HO.out, H4.out]
            exact ⟨rfl, (((hJ.below.setCell (by simp only []; omega) _).setCell (by simp only []; omega) _).setCell (by simp only []; omega) _).setCell (by simp only []; omega) _⟩
      · have kt : (T.2.2 != 0) = true := by simpa using hT
        obtain rfl := tf.resolve_left hT
        have O2 := (O1 (by rw [HH.out, if_neg (by decide)]; decide)).out
        have HO := hid O2
        clear O1 O2 HH tc tf hmc hT
        go_wp2_with (go_at_call 47; refine (HT _).out.mono ?_; rintro e w2 ⟨rfl, hb⟩; replace hI := hI.step hb; clear hb x1 x2 z1 z2; have y1 := hI.sum.fl; have y2 := hI.sum.fh; have y3 := hI.sum.lo; have y4 := hI.sum.hi; have hJ := (hI.res.other ⟨w1.heap.size, 0, none⟩ (.int .i64 0) (by simp only []; omega)).other ⟨w1.heap.size, 1, none⟩ (.int .i64 0) (by simp only []; omega); have y5 := hJ.fl; have y6 := hJ.fh; have y7 := hJ.lo; have y8 := hJ.hi; have d1 := (hJ.set 0 0).lo; have d2 := (hJ.set 0 0).hi)
        refine bodyPost_ret (by simp [results, Tryz.results27, go_sem, d1, d2]; try rfl) rfl ?_
        rw [HO.out]
        exact ⟨rfl, (((hI.below.setCell (by simp only []; omega) _).setCell (by simp only []; omega) _).setCell (by simp only []; omega) _).setCell (by simp only []; omega) _⟩
end Go.Proofs.YthoiiffdigkodaaGreatDoor
