/-
  What the document's answer (package spanref1) to polynomials is: Poly, Over at anything.
  What the document's answer (package spanref1) to polynomials is: Horner at a right polynomial and a right span.
  What the document's answer (package spanref1) to polynomials is: Powers at a right polynomial and a right span.
  What the document's answer (package spanref1) to the slope of a right polynomial is.
  What the document's answer (package spanref1) to ranges from the middle is: Slope, Center, Best, of what is right.
  What the document's answer (package spanref1) to going up or down alone is: Way, Range, of what is right.
-/
import Derived.Test.YtkfalmdckmlneaaGreatDoorRefs
import Derived.Test.YtkfalmdckmlneaaGreatDoorPolys
import Derived.LoopTactic
import Derived.Test.YtkfalmdckmlneaaGreatDoorMems
import Derived.Test.YtkfalmdckmlneaaGreatDoorMaths
import Derived.OwnWalk
import Derived.Maps.AppendAt
import Derived.Test.YtkfalmdckmlneaaGreatDoorCenter
import Derived.Deep.DeepCutAuto
import Derived.Test.YtkfalmdckmlneaaGreatDoorMono
namespace Go.Proofs.YtkfalmdckmlneaaGreatDoor
set_option linter.unusedSimpArgs false
open Go.RowKit

set_option maxHeartbeats 1000000 in
theorem rPoly_any (B : Nat) (p : List Int) (v : Value) (w : World) (hl : Li B w v p) :
    Calls Tryz.prog 27 #[v] w fun e w' => e = .returned (.int .i64 (Um.pchk p)) ∧ w' = w := by
  by_cases h0 : p = []
  · subst h0
    obtain ⟨a, cap, rfl, -⟩ := hl
    have z : (([] : List Int).length) = 0 := rfl
    rw [pchk_none, z]
    go_enter Tryz.func27, Tryz.ntmps27
    go_wp2
    go_returns
    exact ⟨rfl, rfl⟩
  have hp : 0 < p.length := List.length_pos_iff.2 h0
  have z : ((p.length : Int) == 0) = false := by simpa using h0
  by_cases h5 : 5 < p.length
  · obtain ⟨a, cap, rfl, -⟩ := hl
    have z2 : decide (5 < (p.length : Int)) = true := by simp; omega
    rw [pchk_full h5]
    clear h0 h5
    go_enter Tryz.func27, Tryz.ntmps27
    go_wp2
    go_returns
    exact ⟨rfl, rfl⟩
  have z2 : decide (5 < (p.length : Int)) = false := by simp; omega
  have HR := hid (pchk_may h0 h5)
  obtain ⟨b, off, cap, rfl, hlt, hc⟩ := hl.out h0
  have HC := hid hc
  clear hc hl h0
  generalize Um.pchk p = T at *
  go_enter Tryz.func27, Tryz.ntmps27
  go_wp2
  go_loop [3] (fun i => ∃ k : Nat, k ≤ p.length ∧ i = .int .i64 k ∧ Hid (∀ j, j < k → Um.may (p[j]?.getD 0) = true)) (fun i => p.length - (intOf i).toNat)
  case atStart => exact ⟨0, Nat.zero_le _, rfl, fun j hj => absurd hj (Nat.not_lt_zero _)⟩
  case round =>
    obtain ⟨k, hk, rfl, hall⟩ := hrel
    by_cases hlt : k < p.length
    · have hcx := HC.out k hlt
      have hin := hid (Um.at_mem hlt)
      have hkk : (k : Int) < (p.length : Int) := by omega
      have HX : Hid (∀ x, p[k]?.getD 0 = x → Um.may x = true → ∀ j, j < k + 1 → Um.may (p[j]?.getD 0) = true) := by
        rintro x rfl hx j hj
        rcases (by omega : j < k ∨ j = k) with h | rfl
        · exact hall.out j h
        · exact hx
      generalize hg : p[k]?.getD 0 = x at hcx hin
      have HG := hid hg
      clear hg HC hall
      cases hm : Um.may x
      · go_wp2_with (go_at_call 46; refine (rMay_any _ _).mono ?_; rintro e w1 ⟨rfl, rfl⟩)
        go_returns
        have : p.all Um.may = false := by
          rw [← Bool.not_eq_true, List.all_eq_true]
          intro h
          rw [h x hin.out] at hm; cases hm
        rw [HR.out, this]
        exact ⟨rfl, rfl⟩
      · go_wp2_with (go_at_call 46; refine (rMay_any _ _).mono ?_; rintro e w1 ⟨rfl, rfl⟩)
        exact ⟨⟨k + 1, by omega, rfl, HX.out x HG.out hm⟩, by simp [intOf]; omega⟩
    · obtain rfl : k = p.length := by omega
      clear HC
      go_wp2
      go_returns
      have : p.all Um.may = true := by
        rw [List.all_eq_true]
        intro c hcm
        obtain ⟨j, hj, rfl⟩ := List.getElem_of_mem hcm
        have := hall.out j hj
        rwa [List.getElem?_eq_getElem hj] at this
      rw [HR.out, this]
      exact ⟨rfl, rfl⟩

end Go.Proofs.YtkfalmdckmlneaaGreatDoor
namespace Go.Proofs.YtkfalmdckmlneaaGreatDoor
set_option linter.unusedSimpArgs false
open Go.RowKit

/-- What is summed up, and what else lies there: the span, the result's own block. -/
structure Ri (w W : World) (S : Nat) (lo hi : Int) (s : Int × Int × Int) : Prop where
  ok : s.2.2 = 0
  sum : Sp W S s.1 s.2.1
  x : Sp W w.heap.size lo hi
  res : Sp W (w.heap.size + 1) 0 0
  below : Below w.heap.size w W
theorem Ri.step {w W W' : World} {S : Nat} {lo hi : Int} {s : Int × Int × Int} (h : Ri w W S lo hi s) (hb : Below W.heap.size W W') : Ri w W' S lo hi s :=
  ⟨h.ok, h.sum.step hb, h.x.step hb, h.res.step hb, h.below.trans (hb.mono h.below.size)⟩
theorem Ri.put {w W : World} {S : Nat} {lo hi : Int} {s : Int × Int × Int} (h : Ri w W S lo hi s) (hS : w.heap.size + 1 < S) (t : Int × Int × Int) (ht : t.2.2 = 0) : Ri w ((W.setCell ⟨S, 0, none⟩ (.int .i64 t.1)).setCell ⟨S, 1, none⟩ (.int .i64 t.2.1)) S lo hi t :=
  ⟨ht, h.sum.set _ _, (h.x.other _ _ (by simp only []; omega)).other _ _ (by simp only []; omega), (h.res.other _ _ (by simp only []; omega)).other _ _ (by simp only []; omega), (h.below.setCell (by simp only []; omega) _).setCell (by simp only []; omega) _⟩

theorem drop_step {p : List Int} {j : Nat} (h : j < p.length) : p.drop j = (p[j]?.getD 0) :: p.drop (j + 1) := by
  rw [List.drop_eq_getElem_cons h, List.getElem?_eq_getElem h]; rfl
theorem horn_drop {lo hi : Int} {p : List Int} {j : Nat} (h : j + 1 < p.length) : Um.hornR lo hi (p.drop j) = Um.hstep lo hi (Um.hornR lo hi (p.drop (j + 1))) (p[j]?.getD 0) := by
  rw [drop_step (by omega : j < p.length), Um.horn_cons _ _ _ (by intro e; have := congrArg List.length e; simp at this; omega)]
theorem horn_last {lo hi : Int} {p : List Int} (h : p ≠ []) : Um.hornR lo hi (p.drop (p.length - 1)) = (p[p.length - 1]?.getD 0, p[p.length - 1]?.getD 0, 0) := by
  have hp := List.length_pos_iff.2 h
  rw [drop_step (by omega : p.length - 1 < p.length), show p.length - 1 + 1 = p.length by omega, List.drop_length]
  exact Um.horn_one _ _ _
theorem horn_out {lo hi : Int} {p : List Int} : ∀ {j : Nat}, j < p.length → ¬ (Um.hornR lo hi (p.drop j)).2.2 = 0 → Um.hornR lo hi p = (0, 0, 4)
  | 0, _, h => (Um.horn_fault lo hi p).resolve_left h
  | j + 1, hj, h => horn_out (j := j) (by omega) (by rw [horn_drop hj]; unfold Um.hstep; rw [if_neg h]; decide)
theorem horn_right {lo hi : Int} {p : List Int} {j : Nat} (hc : Um.chk lo hi = 0) (hm : ∀ c ∈ p, Um.may c = true) (hj : j < p.length) (h : (Um.hornR lo hi (p.drop j)).2.2 = 0) : Um.chk (Um.hornR lo hi (p.drop j)).1 (Um.hornR lo hi (p.drop j)).2.1 = 0 :=
  Um.horn_chk (Um.chk_ok.1 hc).2.2 _ (by intro e; have := congrArg List.length e; simp at this; omega) (fun c hcm => hm c (List.mem_of_mem_drop hcm)) h

set_option maxRecDepth 100000 in
set_option maxHeartbeats 8000000 in
theorem rHorner_any (p : List Int) (v : Value) (lo hi : Int) (w : World) (hl : Li w.heap.size w v p) (h : Um.over p lo hi = 0) :
    Calls Tryz.prog 50 #[v, .agg #[.int .i64 lo, .int .i64 hi]] w fun e w' => e = .returned (.tuple #[.agg #[.int .i64 (Um.hornR lo hi p).1, .int .i64 (Um.hornR lo hi p).2.1], .int .i64 (Um.hornR lo hi p).2.2]) ∧ Below w.heap.size w w' := by
  have hmx : Tryz.prog.follows .mixedOrders = true := by kernel_rfl
  obtain ⟨hp, hc⟩ := Um.over_ok.1 h
  obtain ⟨h0, h5, hm⟩ := Um.pchk_ok.1 hp
  obtain ⟨b, off, cap, rfl, hlt, hcs⟩ := hl.out h0
  have hlen : 0 < p.length := List.length_pos_iff.2 h0
  obtain ⟨n, hn⟩ : ∃ n, p.length = n + 1 := ⟨p.length - 1, by omega⟩
  have HC := hid hcs
  have HM := hid hm
  have HK := hid hc
  have HL := hid (horn_last (lo := lo) (hi := hi) h0)
  rw [hn, show n + 1 - 1 = n by omega] at HL
  have c0 := hcs n (by omega)
  have hX : Sp ((w.alloc (.cells #[.int .i64 lo, .int .i64 hi] 29)).alloc (.cells #[.int .i64 0, .int .i64 0] 29)) w.heap.size lo hi := (Sp.new w lo hi).alloc _
  have hR : Sp ((w.alloc (.cells #[.int .i64 lo, .int .i64 hi] 29)).alloc (.cells #[.int .i64 0, .int .i64 0] 29)) (w.heap.size + 1) 0 0 := by
    simpa using Sp.new (w.alloc (.cells #[.int .i64 lo, .int .i64 hi] 29)) 0 0
  have hB : Below w.heap.size w ((w.alloc (.cells #[.int .i64 lo, .int .i64 hi] 29)).alloc (.cells #[.int .i64 0, .int .i64 0] 29)) := by go_grown
  generalize hd : p[n]?.getD 0 = d at c0 HL
  have hnn : (p.length : Int) - 1 = (n : Int) := by omega
  have hn2 : (p.length : Int) - 2 = (n : Int) - 1 := by omega
  have HN := hid hn
  clear hn
  have hlt2 : (n : Int) < (p.length : Int) := by omega
  clear hcs hm h0 hp hc h hl hd
  go_enter Tryz.func50, Tryz.ntmps50
  go_wp2_with (go_at_call 51; refine (rAlone_any _ _).mono ?_; rintro e w1 ⟨rfl, hb⟩; replace hX := hX.step hb; replace hR := hR.step hb; replace hB := hB.trans (hb.mono hB.size); clear hb)
  have hs0 := hB.size
  have hl3 := hX.lt
  have hl4 := hR.lt
  go_loopw [8] (fun i wr => ∃ m : Nat, m ≤ n ∧ i = .int .i64 ((m : Int) - 1) ∧ Ri w wr w1.heap.size lo hi (Um.hornR lo hi (p.drop m))) (fun i _ => (intOf i + 1).toNat)
  case atStart =>
    have hB2 : Below w1.heap.size w1 (w1.alloc (.cells #[.int .i64 d, .int .i64 d] 29)) := by go_grown
    refine ⟨n, Nat.le_refl _, rfl, ?_⟩
    rw [HL.out]
    exact ⟨rfl, Sp.new _ _ _, hX.step hB2, hR.step hB2, hB.trans (hB2.mono hs0)⟩
  case round =>
    obtain ⟨m, hmn, rfl, hI⟩ := hrel
    cases m with
    | zero =>
      have hI' : Ri w wr w1.heap.size lo hi (Um.hornR lo hi p) := hI
      clear hI HC HM HK HL
      generalize hRR : Um.hornR lo hi p = R at hI'
      have HRR := hid hRR
      clear hRR
      have z1 := hI'.sum.lo
      have z2 := hI'.sum.hi
      have y1 := hI'.res.fl
      have y2 := hI'.res.fh
      have y3 := hI'.res.lo
      have y4 := hI'.res.hi
      have d1 := (hI'.res.set R.1 R.2.1).lo
      have d2 := (hI'.res.set R.1 R.2.1).hi
      go_wp2
      refine bodyPost_ret (by simp [results, Tryz.results50, go_sem, d1, d2]; try rfl) rfl ?_
      rw [HRR.out, hI'.ok]
      exact ⟨rfl, (hI'.below.setCell (by simp only []; omega) _).setCell (by simp only []; omega) _⟩
    | succ j =>
      have hnl := HN.out
      have hjl : j + 1 < p.length := by omega
      have ej : ((j + 1 : Nat) : Int) - 1 = (j : Int) := by omega
      rw [ej]
      clear ej
      have hc0 := HC.out j (by omega)
      have hjj : (j : Int) < (p.length : Int) := by omega
      have HD := hid (horn_drop (lo := lo) (hi := hi) hjl)
      have hcs := horn_right HK.out HM.out (by omega : j + 1 < p.length) hI.ok
      have hok := hI.ok
      have RF := hid (Um.horn_fault lo hi (p.drop j))
      have O1 := fun h => hid (horn_out (lo := lo) (hi := hi) (by omega : j < p.length) h)
      have hmc := HM.out _ (Um.at_mem (by omega : j < p.length))
      clear HC HM HL hnl
      obtain ⟨m1, m2, m3⟩ := Um.chk_ok.1 hcs
      obtain ⟨m4, m5, m6⟩ := Um.chk_ok.1 HK.out
      generalize p[j]?.getD 0 = c at *
      generalize hRR : Um.hornR lo hi (p.drop j) = R at *
      have HRR := hid hRR
      clear hRR
      generalize Um.hornR lo hi (p.drop (j + 1)) = s at *
      have HT := fun w => hid (rTimes_um s.1 s.2.1 lo hi w m1 m2 m4 m5)
      have HH : Hid (R = if (Um.stimesR s.1 s.2.1 lo hi).2.2 = 0 then Um.addR (Um.stimesR s.1 s.2.1 lo hi).1 (Um.stimesR s.1 s.2.1 lo hi).2.1 c c else (0, 0, 4)) := by rw [HD.out]; unfold Um.hstep; rw [if_pos hok]; rfl
      have tf := Um.stimes_fault s.1 s.2.1 lo hi
      have tc := fun h => Um.stimes_chk (al := s.1) (ah := s.2.1) (bl := lo) (bh := hi) m3 m6 h
      clear HD hok hcs m1 m2 m3 m4 m5 m6 HK
      generalize Um.stimesR s.1 s.2.1 lo hi = T at *
      have x1 := hI.x.lo
      have x2 := hI.x.hi
      have z1 := hI.sum.lo
      have z2 := hI.sum.hi
      by_cases hT : T.2.2 = 0
      · have kt : (T.2.2 != 0) = false := by simpa using hT
        obtain ⟨m1, m2, m3⟩ := Um.chk_ok.1 (tc hT)
        have HA := fun w => hid (rAdd_any T.1 T.2.1 c c w m1 m2 hmc hmc)
        rw [← (show R = Um.addR T.1 T.2.1 c c by rw [HH.out, if_pos hT])] at HA
        have Tz : Hid (T.2.2 = 0) := hT
        clear HH hmc tc tf m1 m2 m3 hT
        go_wp2_with (go_at_call 19; refine (HT _).out.mono ?_; rintro e w2 ⟨rfl, hb⟩; replace hI := hI.step hb; clear hb x1 x2 z1 z2; have y1 := hI.sum.fl; have y2 := hI.sum.fh; have y3 := hI.sum.lo; have y4 := hI.sum.hi)
        clear y1 y2 y3 y4
        obtain ⟨W, hWe⟩ : ∃ W, ((w2.setCell ⟨w1.heap.size, 0, none⟩ (.int .i64 T.1)).setCell ⟨w1.heap.size, 1, none⟩ (.int .i64 T.2.1)) = W := ⟨_, rfl⟩
        have hIW : Ri w W w1.heap.size lo hi T := by rw [← hWe]; exact hI.put (by omega) T Tz.out
        rw [hWe]
        clear hWe hI
        have hcW := (hIW.below.cell (p := ⟨b, off + j, none⟩) hlt).trans hc0
        have hbW := Nat.lt_of_lt_of_le hlt hIW.below.size
        obtain ⟨Inv, hInv⟩ : ∃ Inv : Array Bool → Act → World → Prop, ∀ listed a W', Inv listed a W' ↔ (∃ v34 v35 v36 v37 v38 v39 v40 v33 v41 v42 v7 : Value, a = { tmps := #[.slice (some ⟨b, off, none⟩) p.length cap, .agg #[.int .i64 lo, .int .i64 hi], undef, .pointer (some ⟨w.heap.size, 0, none⟩), .pointer (some ⟨w.heap.size + 1, 0, none⟩), u5, .pointer (some ⟨w1.heap.size, 0, none⟩), v7, .int .i64 j, .slice (some ⟨b, off, none⟩) p.length cap, .slice (some ⟨b, off, none⟩) p.length cap, .int .i64 p.length, .int .i64 n, .pointer (some ⟨b, off + n, none⟩), .int .i64 d, .agg #[.int .i64 d, .int .i64 d], .slice (some ⟨b, off, none⟩) p.length cap, .int .i64 p.length, .int .i64 ((n : Int) - 1), .int .i64 j, .bool true, u21, u22, .tuple #[.agg #[.int .i64 T.1, .int .i64 T.2.1], .int .i64 T.2.2], .agg #[.int .i64 s.1, .int .i64 s.2.1], .agg #[.int .i64 lo, .int .i64 hi], .tuple #[.agg #[.int .i64 T.1, .int .i64 T.2.1], .int .i64 T.2.2], .agg #[.int .i64 T.1, .int .i64 T.2.1], .int .i64 T.2.2, .int .i64 T.2.2, .bool false, u31, u32, v33, v34, v35, v36, v37, v38, v39, v40, v41, v42, u43, u44, u45, u46, undef], defers := [] } ∧ (∃ W2 : World, Below W.heap.size W W2 ∧ W' = if listed.getD 10 false = true then ((W2.setCell ⟨w1.heap.size, 0, none⟩ (.int .i64 R.1)).setCell ⟨w1.heap.size, 1, none⟩ (.int .i64 R.2.1)) else W2) ∧ (listed.getD 0 false = true → v34 = .agg #[.int .i64 T.1, .int .i64 T.2.1]) ∧ (listed.getD 1 false = true → v35 = .slice (some ⟨b, off, none⟩) p.length cap) ∧ (listed.getD 2 false = true → v36 = .int .i64 j) ∧ (listed.getD 3 false = true → v37 = .pointer (some ⟨b, off + j, none⟩)) ∧ (listed.getD 4 false = true → v38 = .int .i64 c) ∧ (listed.getD 5 false = true → v39 = .agg #[.int .i64 c, .int .i64 c]) ∧ (listed.getD 6 false = true → v40 = .tuple #[.agg #[.int .i64 R.1, .int .i64 R.2.1], .int .i64 R.2.2]) ∧ (listed.getD 7 false = true → v33 = .tuple #[.agg #[.int .i64 R.1, .int .i64 R.2.1], .int .i64 R.2.2]) ∧ (listed.getD 8 false = true → v41 = .agg #[.int .i64 R.1, .int .i64 R.2.1]) ∧ (listed.getD 9 false = true → v42 = .int .i64 R.2.2) ∧ (listed.getD 11 false = true → v7 = .int .i64 R.2.2) ∧ (listed.getD 10 false = true → listed.getD 0 false = true ∧ listed.getD 4 false = true ∧ listed.getD 5 false = true ∧ listed.getD 6 false = true)) := ⟨_, fun _ _ _ => Iff.rfl⟩
        have HI := hid hInv
        clear hInv
        refine Free.region hmx (by kernel_rfl) Inv ?s1 ?s2 ?s3
        case s1 =>
          exact (HI.out _ _ _).2 ⟨u34, u35, u36, u37, u38, u39, u40, u33, u41, u42, .int .i64 T.2.2, rfl, ⟨_, (Below.refl _ _).drew, by rw [Free.none_yet]; rfl⟩, Free.not_yet, Free.not_yet, Free.not_yet, Free.not_yet, Free.not_yet, Free.not_yet, Free.not_yet, Free.not_yet, Free.not_yet, Free.not_yet, Free.not_yet, Free.not_yet⟩
        case s2 =>
          intro i listed a W1 hi hne hnl hsz hv
          obtain ⟨v34, v35, v36, v37, v38, v39, v40, v33, v41, v42, v7, rfl, ⟨W2, hW, hWW⟩, l0, l1, l2, l3, l4, l5, l6, l7, l8, l9, l11, l10⟩ := (HI.out _ _ _).1 hv
          have HWW := hid hWW
          clear hv hWW
          replace hi : i < 12 := hi
          replace hsz : listed.size = 12 := hsz
          rcases (by omega : i = 0 ∨ i = 1 ∨ i = 2 ∨ i = 3 ∨ i = 4 ∨ i = 5 ∨ i = 6 ∨ i = 7 ∨ i = 8 ∨ i = 9 ∨ i = 10 ∨ i = 11) with rfl | rfl | rfl | rfl | rfl | rfl | rfl | rfl | rfl | rfl | rfl | rfl
          · have hf := Free.off hnl
            have hs : listed.getD 10 false = false := by
              cases e : listed.getD 10 false
              · rfl
              · rw [(l10 e).1] at hf; cases hf
            have hWW := HWW.out
            rw [hs] at hWW
            obtain rfl : W1 = W2 := hWW
            clear HWW
            have z1 := (hIW.sum.step hW).lo
            have z2 := (hIW.sum.step hW).hi
            refine Free.op rfl rfl (fun K hK => ?_)
            go_simp
            exact hK _ _ ((HI.out _ _ _).2 ⟨_, v35, v36, v37, v38, v39, v40, v33, v41, v42, v7, rfl, ⟨W1, hW, by rw [Free.set_other (by decide), hs]; rfl⟩, fun _ => rfl, Free.of_set (by decide) l1, Free.of_set (by decide) l2, Free.of_set (by decide) l3, Free.of_set (by decide) l4, Free.of_set (by decide) l5, Free.of_set (by decide) l6, Free.of_set (by decide) l7, Free.of_set (by decide) l8, Free.of_set (by decide) l9, Free.of_set (by decide) l11, fun e => by rw [Free.set_other (by decide), hs] at e; cases e⟩)
          · refine Free.op rfl rfl (fun K hK => ?_)
            go_simp
            exact hK _ _ ((HI.out _ _ _).2 ⟨v34, _, v36, v37, v38, v39, v40, v33, v41, v42, v7, rfl, ⟨W2, hW, by rw [Free.set_other (by decide)]; exact HWW.out⟩, Free.of_set (by decide) l0, fun _ => rfl, Free.of_set (by decide) l2, Free.of_set (by decide) l3, Free.of_set (by decide) l4, Free.of_set (by decide) l5, Free.of_set (by decide) l6, Free.of_set (by decide) l7, Free.of_set (by decide) l8, Free.of_set (by decide) l9, Free.of_set (by decide) l11, fun e => by rw [Free.set_other (by decide)] at e; rw [Free.set_other (by decide), Free.set_other (by decide), Free.set_other (by decide), Free.set_other (by decide)]; exact l10 e⟩)
          · refine Free.op rfl rfl (fun K hK => ?_)
            go_simp
            exact hK _ _ ((HI.out _ _ _).2 ⟨v34, v35, _, v37, v38, v39, v40, v33, v41, v42, v7, rfl, ⟨W2, hW, by rw [Free.set_other (by decide)]; exact HWW.out⟩, Free.of_set (by decide) l0, Free.of_set (by decide) l1, fun _ => rfl, Free.of_set (by decide) l3, Free.of_set (by decide) l4, Free.of_set (by decide) l5, Free.of_set (by decide) l6, Free.of_set (by decide) l7, Free.of_set (by decide) l8, Free.of_set (by decide) l9, Free.of_set (by decide) l11, fun e => by rw [Free.set_other (by decide)] at e; rw [Free.set_other (by decide), Free.set_other (by decide), Free.set_other (by decide), Free.set_other (by decide)]; exact l10 e⟩)
          · refine Free.op rfl rfl (fun K hK => ?_)
            obtain rfl := l1 (hne 1 (by kernel_rfl))
            obtain rfl := l2 (hne 2 (by kernel_rfl))
            go_simp
            exact hK _ _ ((HI.out _ _ _).2 ⟨v34, _, _, _, v38, v39, v40, v33, v41, v42, v7, rfl, ⟨W2, hW, by rw [Free.set_other (by decide)]; exact HWW.out⟩, Free.of_set (by decide) l0, fun _ => rfl, fun _ => rfl, fun _ => rfl, Free.of_set (by decide) l4, Free.of_set (by decide) l5, Free.of_set (by decide) l6, Free.of_set (by decide) l7, Free.of_set (by decide) l8, Free.of_set (by decide) l9, Free.of_set (by decide) l11, fun e => by rw [Free.set_other (by decide)] at e; rw [Free.set_other (by decide), Free.set_other (by decide), Free.set_other (by decide), Free.set_other (by decide)]; exact l10 e⟩)
          · have hf := Free.off hnl
            have hs : listed.getD 10 false = false := by
              cases e : listed.getD 10 false
              · rfl
              · rw [(l10 e).2.1] at hf; cases hf
            have hWW := HWW.out
            rw [hs] at hWW
            obtain rfl : W1 = W2 := hWW
            clear HWW
            have z1 := (hW.cell (p := ⟨b, off + j, none⟩) hbW).trans hcW
            refine Free.op rfl rfl (fun K hK => ?_)
            obtain rfl := l3 (hne 3 (by kernel_rfl))
            go_simp
            exact hK _ _ ((HI.out _ _ _).2 ⟨v34, v35, v36, _, _, v39, v40, v33, v41, v42, v7, rfl, ⟨W1, hW, by rw [Free.set_other (by decide), hs]; rfl⟩, Free.of_set (by decide) l0, Free.of_set (by decide) l1, Free.of_set (by decide) l2, fun _ => rfl, fun _ => rfl, Free.of_set (by decide) l5, Free.of_set (by decide) l6, Free.of_set (by decide) l7, Free.of_set (by decide) l8, Free.of_set (by decide) l9, Free.of_set (by decide) l11, fun e => by rw [Free.set_other (by decide), hs] at e; cases e⟩)
          · have hf := Free.off hnl
            have hs : listed.getD 10 false = false := by
              cases e : listed.getD 10 false
              · rfl
              · rw [(l10 e).2.2.1] at hf; cases hf
            have hWW := HWW.out
            rw [hs] at hWW
            obtain rfl : W1 = W2 := hWW
            clear HWW
            refine Free.op rfl rfl (fun K hK => ?_)
            obtain rfl := l4 (hne 4 (by kernel_rfl))
            go_wp2_with (go_at_call 51; refine (rAlone_any _ _).mono ?_; rintro e W3 ⟨rfl, hb⟩)
            exact (HI.out _ _ _).2 ⟨v34, v35, v36, v37, _, _, v40, v33, v41, v42, v7, rfl, ⟨_, hW.trans (hb.mono hW.size), by rw [Free.set_other (by decide), hs]; rfl⟩, Free.of_set (by decide) l0, Free.of_set (by decide) l1, Free.of_set (by decide) l2, Free.of_set (by decide) l3, fun _ => rfl, fun _ => rfl, Free.of_set (by decide) l6, Free.of_set (by decide) l7, Free.of_set (by decide) l8, Free.of_set (by decide) l9, Free.of_set (by decide) l11, fun e => by rw [Free.set_other (by decide), hs] at e; cases e⟩
          · have hf := Free.off hnl
            have hs : listed.getD 10 false = false := by
              cases e : listed.getD 10 false
              · rfl
              · rw [(l10 e).2.2.2] at hf; cases hf
            have hWW := HWW.out
            rw [hs] at hWW
            obtain rfl : W1 = W2 := hWW
            clear HWW
            refine Free.op rfl rfl (fun K hK => ?_)
            obtain rfl := l0 (hne 0 (by kernel_rfl))
            obtain rfl := l5 (hne 5 (by kernel_rfl))
            go_wp2_with (go_at_call 17; refine (HA _).out.mono ?_; rintro e W3 ⟨rfl, hb⟩)
            exact (HI.out _ _ _).2 ⟨_, v35, v36, v37, v38, _, _, v33, v41, v42, v7, rfl, ⟨_, hW.trans (hb.mono hW.size), by rw [Free.set_other (by decide), hs]; rfl⟩, fun _ => rfl, Free.of_set (by decide) l1, Free.of_set (by decide) l2, Free.of_set (by decide) l3, Free.of_set (by decide) l4, fun _ => rfl, fun _ => rfl, Free.of_set (by decide) l7, Free.of_set (by decide) l8, Free.of_set (by decide) l9, Free.of_set (by decide) l11, fun e => by rw [Free.set_other (by decide), hs] at e; cases e⟩
          · refine Free.op rfl rfl (fun K hK => ?_)
            obtain rfl := l6 (hne 6 (by kernel_rfl))
            go_simp
            exact hK _ _ ((HI.out _ _ _).2 ⟨v34, v35, v36, v37, v38, v39, _, _, v41, v42, v7, rfl, ⟨W2, hW, by rw [Free.set_other (by decide)]; exact HWW.out⟩, Free.of_set (by decide) l0, Free.of_set (by decide) l1, Free.of_set (by decide) l2, Free.of_set (by decide) l3, Free.of_set (by decide) l4, Free.of_set (by decide) l5, fun _ => rfl, fun _ => rfl, Free.of_set (by decide) l8, Free.of_set (by decide) l9, Free.of_set (by decide) l11, fun e => by rw [Free.set_other (by decide)] at e; rw [Free.set_other (by decide), Free.set_other (by decide), Free.set_other (by decide), Free.set_other (by decide)]; exact l10 e⟩)
          · refine Free.op rfl rfl (fun K hK => ?_)
            obtain rfl := l7 (hne 7 (by kernel_rfl))
            go_simp
            exact hK _ _ ((HI.out _ _ _).2 ⟨v34, v35, v36, v37, v38, v39, v40, _, _, v42, v7, rfl, ⟨W2, hW, by rw [Free.set_other (by decide)]; exact HWW.out⟩, Free.of_set (by decide) l0, Free.of_set (by decide) l1, Free.of_set (by decide) l2, Free.of_set (by decide) l3, Free.of_set (by decide) l4, Free.of_set (by decide) l5, Free.of_set (by decide) l6, fun _ => rfl, fun _ => rfl, Free.of_set (by decide) l9, Free.of_set (by decide) l11, fun e => by rw [Free.set_other (by decide)] at e; rw [Free.set_other (by decide), Free.set_other (by decide), Free.set_other (by decide), Free.set_other (by decide)]; exact l10 e⟩)
          · refine Free.op rfl rfl (fun K hK => ?_)
            obtain rfl := l7 (hne 7 (by kernel_rfl))
            go_simp
            exact hK _ _ ((HI.out _ _ _).2 ⟨v34, v35, v36, v37, v38, v39, v40, _, v41, _, v7, rfl, ⟨W2, hW, by rw [Free.set_other (by decide)]; exact HWW.out⟩, Free.of_set (by decide) l0, Free.of_set (by decide) l1, Free.of_set (by decide) l2, Free.of_set (by decide) l3, Free.of_set (by decide) l4, Free.of_set (by decide) l5, Free.of_set (by decide) l6, fun _ => rfl, Free.of_set (by decide) l8, fun _ => rfl, Free.of_set (by decide) l11, fun e => by rw [Free.set_other (by decide)] at e; rw [Free.set_other (by decide), Free.set_other (by decide), Free.set_other (by decide), Free.set_other (by decide)]; exact l10 e⟩)
          · have hs := Free.off hnl
            have N := hid (And.intro (hne 0 (by kernel_rfl)) (And.intro (hne 4 (by kernel_rfl)) (And.intro (hne 5 (by kernel_rfl)) (hne 6 (by kernel_rfl)))))
            have hWW := HWW.out
            rw [hs] at hWW
            obtain rfl : W1 = W2 := hWW
            clear HWW
            have y1 := (hIW.sum.step hW).fl
            have y2 := (hIW.sum.step hW).fh
            have y3 := (hIW.sum.step hW).lo
            have y4 := (hIW.sum.step hW).hi
            refine Free.op rfl rfl (fun K hK => ?_)
            obtain rfl := l8 (hne 8 (by kernel_rfl))
            go_simp
            exact hK _ _ ((HI.out _ _ _).2 ⟨v34, v35, v36, v37, v38, v39, v40, v33, _, v42, v7, rfl, ⟨W1, hW, by rw [Free.set_same (by omega)]; rfl⟩, Free.of_set (by decide) l0, Free.of_set (by decide) l1, Free.of_set (by decide) l2, Free.of_set (by decide) l3, Free.of_set (by decide) l4, Free.of_set (by decide) l5, Free.of_set (by decide) l6, Free.of_set (by decide) l7, fun _ => rfl, Free.of_set (by decide) l9, Free.of_set (by decide) l11, fun _ => by rw [Free.set_other (by decide), Free.set_other (by decide), Free.set_other (by decide), Free.set_other (by decide)]; exact N.out⟩)
          · refine Free.op rfl rfl (fun K hK => ?_)
            obtain rfl := l9 (hne 9 (by kernel_rfl))
            go_simp
            exact hK _ _ ((HI.out _ _ _).2 ⟨v34, v35, v36, v37, v38, v39, v40, v33, v41, _, _, rfl, ⟨W2, hW, by rw [Free.set_other (by decide)]; exact HWW.out⟩, Free.of_set (by decide) l0, Free.of_set (by decide) l1, Free.of_set (by decide) l2, Free.of_set (by decide) l3, Free.of_set (by decide) l4, Free.of_set (by decide) l5, Free.of_set (by decide) l6, Free.of_set (by decide) l7, Free.of_set (by decide) l8, fun _ => rfl, fun _ => rfl, fun e => by rw [Free.set_other (by decide)] at e; rw [Free.set_other (by decide), Free.set_other (by decide), Free.set_other (by decide), Free.set_other (by decide)]; exact l10 e⟩)
        case s3 =>
          intro listed a W1 hall hsz hv
          obtain ⟨v34, v35, v36, v37, v38, v39, v40, v33, v41, v42, v7, rfl, ⟨W2, hW, hWW⟩, l0, l1, l2, l3, l4, l5, l6, l7, l8, l9, l11, l10⟩ := (HI.out _ _ _).1 hv
          clear hv HI
          rw [Free.listed_of hall hsz 10 (by decide)] at hWW
          obtain rfl : W1 = ((W2.setCell ⟨w1.heap.size, 0, none⟩ (.int .i64 R.1)).setCell ⟨w1.heap.size, 1, none⟩ (.int .i64 R.2.1)) := hWW
          obtain rfl := l11 (Free.listed_of hall hsz 11 (by decide))
          clear l0 l1 l2 l3 l4 l5 l6 l7 l8 l9 l10 hall hsz HA
          have hJ := hIW.step hW
          by_cases hr : R.2.2 = 0
          · have kr : (R.2.2 != 0) = false := by simpa using hr
            have hJ2 := hJ.put (by omega) R hr
            have HZ := hid hr
            clear hr
            go_wp2
            refine ⟨⟨j, by omega, rfl, ?_⟩, by simp [intOf] <;> omega⟩
            rw [HRR.out]
            exact hJ2
          · have kr : (R.2.2 != 0) = true := by simpa using hr
            have HO := hid (O1 hr).out
            have hR4 := RF.out.resolve_left hr
            have hres := (hJ.res.other ⟨w1.heap.size, 0, none⟩ (.int .i64 R.1) (by simp only []; omega)).other ⟨w1.heap.size, 1, none⟩ (.int .i64 R.2.1) (by simp only []; omega)
            have H4 : Hid (R.2.2 = 4) := by rw [hR4]; rfl
            clear O1 hR4 hr RF
            have y5 := hres.fl
            have y6 := hres.fh
            have y7 := hres.lo
            have y8 := hres.hi
            have d1 := (hres.set 0 0).lo
            have d2 := (hres.set 0 0).hi
            go_wp2
            refine bodyPost_ret (by simp [results, Tryz.results50, go_sem, d1, d2]; try rfl) rfl ?_
            rw [HO.out, H4.out]
            exact ⟨rfl, (((hJ.below.setCell (by simp only []; omega) _).setCell (by simp only []; omega) _).setCell (by simp only []; omega) _).setCell (by simp only []; omega) _⟩
      · have kt : (T.2.2 != 0) = true := by simpa using hT
        obtain rfl := tf.resolve_left hT
        have O2 := (O1 (by rw [HH.out, if_neg (by decide)]; decide)).out
        have HO := hid O2
        clear O1 O2 HH tc tf hmc hT
        go_wp2_with (go_at_call 19; refine (HT _).out.mono ?_; rintro e w2 ⟨rfl, hb⟩; replace hI := hI.step hb; clear hb x1 x2 z1 z2; have y1 := hI.sum.fl; have y2 := hI.sum.fh; have y3 := hI.sum.lo; have y4 := hI.sum.hi; have hJ := (hI.res.other ⟨w1.heap.size, 0, none⟩ (.int .i64 0) (by simp only []; omega)).other ⟨w1.heap.size, 1, none⟩ (.int .i64 0) (by simp only []; omega); have y5 := hJ.fl; have y6 := hJ.fh; have y7 := hJ.lo; have y8 := hJ.hi; have d1 := (hJ.set 0 0).lo; have d2 := (hJ.set 0 0).hi)
        refine bodyPost_ret (by simp [results, Tryz.results50, go_sem, d1, d2]; try rfl) rfl ?_
        rw [HO.out]
        exact ⟨rfl, (((hI.below.setCell (by simp only []; omega) _).setCell (by simp only []; omega) _).setCell (by simp only []; omega) _).setCell (by simp only []; omega) _⟩
end Go.Proofs.YtkfalmdckmlneaaGreatDoor
namespace Go.Proofs.YtkfalmdckmlneaaGreatDoor
set_option linter.unusedSimpArgs false
open Go.RowKit

theorem Ri.away {w W : World} {S c : Nat} {lo hi : Int} {s : Int × Int × Int} (h : Ri w W S lo hi s) (h1 : S ≠ c) (h2 : w.heap.size + 1 < c) (x y : Value) : Ri w ((W.setCell ⟨c, 0, none⟩ x).setCell ⟨c, 1, none⟩ y) S lo hi s :=
  ⟨h.ok, (h.sum.other _ _ h1).other _ _ h1, (h.x.other _ _ (by simp only []; omega)).other _ _ (by simp only []; omega), (h.res.other _ _ (by simp only []; omega)).other _ _ (by simp only []; omega), (h.below.setCell (by simp only []; omega) _).setCell (by simp only []; omega) _⟩
theorem pows_is {lo hi : Int} {p : List Int} {k : Nat} (h0 : (Um.powsN lo hi p k).2.2 = 0) (hp : (Um.powR lo hi k).2.2 = 0) :
    Um.powsN lo hi p (k + 1) = if (Um.stimesR (p[k]?.getD 0) (p[k]?.getD 0) (Um.powR lo hi k).1 (Um.powR lo hi k).2.1).2.2 = 0 then Um.addR (Um.powsN lo hi p k).1 (Um.powsN lo hi p k).2.1 (Um.stimesR (p[k]?.getD 0) (p[k]?.getD 0) (Um.powR lo hi k).1 (Um.powR lo hi k).2.1).1 (Um.stimesR (p[k]?.getD 0) (p[k]?.getD 0) (Um.powR lo hi k).1 (Um.powR lo hi k).2.1).2.1 else (0, 0, 4) := by
  rw [Um.pows_succ, List.getD_eq_getElem?_getD]
  unfold Um.pstep
  rw [if_pos h0, if_pos hp]

set_option maxRecDepth 100000 in
set_option maxHeartbeats 8000000 in
theorem rPowers_any (p : List Int) (v : Value) (lo hi : Int) (w : World) (hl : Li w.heap.size w v p) (h : Um.over p lo hi = 0) :
    Calls Tryz.prog 75 #[v, .agg #[.int .i64 lo, .int .i64 hi]] w fun e w' => e = .returned (.tuple #[.agg #[.int .i64 (Um.powsN lo hi p p.length).1, .int .i64 (Um.powsN lo hi p p.length).2.1], .int .i64 (Um.powsN lo hi p p.length).2.2]) ∧ Below w.heap.size w w' := by
  have hmx : Tryz.prog.follows .mixedOrders = true := by kernel_rfl
  obtain ⟨hp, hc⟩ := Um.over_ok.1 h
  obtain ⟨h0, h5, hm⟩ := Um.pchk_ok.1 hp
  obtain ⟨b, off, cap, rfl, hlt, hcs⟩ := hl.out h0
  have HC := hid hcs
  have HM := hid hm
  have HK := hid hc
  have hX : Sp (((w.alloc (.cells #[.int .i64 lo, .int .i64 hi] 29)).alloc (.cells #[.int .i64 0, .int .i64 0] 29)).alloc (.cells #[.int .i64 0, .int .i64 0] 29)) w.heap.size lo hi := ((Sp.new w lo hi).alloc _).alloc _
  have hR : Sp (((w.alloc (.cells #[.int .i64 lo, .int .i64 hi] 29)).alloc (.cells #[.int .i64 0, .int .i64 0] 29)).alloc (.cells #[.int .i64 0, .int .i64 0] 29)) (w.heap.size + 1) 0 0 := by
    simpa using (Sp.new (w.alloc (.cells #[.int .i64 lo, .int .i64 hi] 29)) 0 0).alloc (.cells #[.int .i64 0, .int .i64 0] 29)
  have hS : Sp (((w.alloc (.cells #[.int .i64 lo, .int .i64 hi] 29)).alloc (.cells #[.int .i64 0, .int .i64 0] 29)).alloc (.cells #[.int .i64 0, .int .i64 0] 29)) (w.heap.size + 1 + 1) 0 0 := by
    simpa using Sp.new ((w.alloc (.cells #[.int .i64 lo, .int .i64 hi] 29)).alloc (.cells #[.int .i64 0, .int .i64 0] 29)) 0 0
  have hB : Below w.heap.size w (((w.alloc (.cells #[.int .i64 lo, .int .i64 hi] 29)).alloc (.cells #[.int .i64 0, .int .i64 0] 29)).alloc (.cells #[.int .i64 0, .int .i64 0] 29)) := by go_grown
  clear hcs hm h0 hp hc h hl
  go_enter Tryz.func75, Tryz.ntmps75
  go_wp2
  go_loopw [7] (fun i wr => ∃ k : Nat, k ≤ p.length ∧ i = .int .i64 k ∧ Ri w wr (w.heap.size + 1 + 1) lo hi (Um.powsN lo hi p k)) (fun i _ => p.length - (intOf i).toNat)
  case atStart => exact ⟨0, by omega, rfl, rfl, hS, hX, hR, hB⟩
  case round =>
    obtain ⟨k, hk, rfl, hI⟩ := hrel
    have hsz := hI.below.size
    by_cases hkl : k < p.length
    · have hc0 := HC.out k hkl
      have hkk : (k : Int) < (p.length : Int) := by omega
      have HP := fun w => hid (rPower_any lo hi k k w HK.out rfl (by omega))
      have H1 := fun h => hid (pows_out (lo := lo) (hi := hi) hkl h)
      have H2 := fun h => hid (pows_out' (lo := lo) (hi := hi) hkl h)
      have HN := fun hp => hid (pows_is (p := p) hI.ok hp)
      have hcs := Um.pows_chk HK.out p k (by omega) hI.ok
      have hcp := fun hp => Um.pow_chk HK.out (by omega : k ≤ 4) hp
      have hmc := HM.out _ (Um.at_mem hkl)
      have RF := hid (Um.pows_fault lo hi p (k + 1))
      clear HC HM HK
      generalize p[k]?.getD 0 = c at *
      generalize hRR : Um.powsN lo hi p (k + 1) = R at *
      have HRR := hid hRR
      clear hRR
      generalize Um.powsN lo hi p k = s at *
      generalize Um.powR lo hi k = P at *
      obtain ⟨m1, m2, m3⟩ := Um.chk_ok.1 hcs
      have x1 := hI.x.lo
      have x2 := hI.x.hi
      by_cases hP : P.2.2 = 0
      · have kp : (P.2.2 == 0) = true := by simpa using hP
        obtain ⟨n1, n2, n3⟩ := Um.chk_ok.1 (hcp hP)
        have HT := fun w => hid (rTimes_um c c P.1 P.2.1 w hmc hmc n1 n2)
        have HNN := HN hP
        have tc := fun h => Um.stimes_chk (al := c) (ah := c) (bl := P.1) (bh := P.2.1) (Int.le_refl _) n3 h
        have tf := Um.stimes_fault c c P.1 P.2.1
        generalize Um.stimesR c c P.1 P.2.1 = T at *
        have Pz : Hid (P.2.2 = 0) := hP
        clear HN hcp H2 hP hcs
        go_wp2_with (go_at_call 24; refine (HP _).out.mono ?_; rintro e w2 ⟨rfl, hb⟩; replace hI := hI.step hb; clear hb x1 x2)
        have hslt := hI.sum.lt
        obtain ⟨W, hWe⟩ : ∃ W, w2.alloc (.cells #[.int .i64 P.1, .int .i64 P.2.1] 29) = W := ⟨_, rfl⟩
        have hIW : Ri w W (w.heap.size + 1 + 1) lo hi s := by rw [← hWe]; exact hI.step ((Below.refl _ _).alloc (Nat.le_refl _) _)
        have hsp : Sp W w2.heap.size P.1 P.2.1 := by rw [← hWe]; exact Sp.new _ _ _
        rw [hWe]
        clear hWe hI HP
        have hcW := (hIW.below.cell (p := ⟨b, off + k, none⟩) hlt).trans hc0
        have hbW := Nat.lt_of_lt_of_le hlt hIW.below.size
        obtain ⟨Inv, hInv⟩ : ∃ Inv : Array Bool → Act → World → Prop, ∀ listed a W', Inv listed a W' ↔ (∃ v25 v26 v27 v28 v29 v30 v31 v24 v32 v33 v9 : Value, a = { tmps := #[.slice (some ⟨b, off, none⟩) p.length cap, .agg #[.int .i64 lo, .int .i64 hi], undef, .pointer (some ⟨w.heap.size, 0, none⟩), .pointer (some ⟨w.heap.size + 1, 0, none⟩), u5, .pointer (some ⟨w.heap.size + 1 + 1, 0, none⟩), .int .i64 k, .pointer (some ⟨w2.heap.size, 0, none⟩), v9, .int .i64 k, .slice (some ⟨b, off, none⟩) p.length cap, .int .i64 p.length, .bool true, u14, u15, .tuple #[.agg #[.int .i64 P.1, .int .i64 P.2.1], .int .i64 P.2.2], .agg #[.int .i64 lo, .int .i64 hi], .int .i64 k, .tuple #[.agg #[.int .i64 P.1, .int .i64 P.2.1], .int .i64 P.2.2], .agg #[.int .i64 P.1, .int .i64 P.2.1], .int .i64 P.2.2, .int .i64 P.2.2, .bool true, v24, v25, v26, v27, v28, v29, v30, v31, v32, v33, u34, u35, u36, u37, u38, u39, u40, u41, u42, u43, u44, u45, undef], defers := [] } ∧ (∃ W2 : World, Below W.heap.size W W2 ∧ W' = if listed.getD 10 false = true then ((W2.setCell ⟨w2.heap.size, 0, none⟩ (.int .i64 T.1)).setCell ⟨w2.heap.size, 1, none⟩ (.int .i64 T.2.1)) else W2) ∧ (listed.getD 0 false = true → v25 = .slice (some ⟨b, off, none⟩) p.length cap) ∧ (listed.getD 1 false = true → v26 = .int .i64 k) ∧ (listed.getD 2 false = true → v27 = .pointer (some ⟨b, off + k, none⟩)) ∧ (listed.getD 3 false = true → v28 = .int .i64 c) ∧ (listed.getD 4 false = true → v29 = .agg #[.int .i64 c, .int .i64 c]) ∧ (listed.getD 5 false = true → v30 = .agg #[.int .i64 P.1, .int .i64 P.2.1]) ∧ (listed.getD 6 false = true → v31 = .tuple #[.agg #[.int .i64 T.1, .int .i64 T.2.1], .int .i64 T.2.2]) ∧ (listed.getD 7 false = true → v24 = .tuple #[.agg #[.int .i64 T.1, .int .i64 T.2.1], .int .i64 T.2.2]) ∧ (listed.getD 8 false = true → v32 = .agg #[.int .i64 T.1, .int .i64 T.2.1]) ∧ (listed.getD 9 false = true → v33 = .int .i64 T.2.2) ∧ (listed.getD 11 false = true → v9 = .int .i64 T.2.2) ∧ (listed.getD 10 false = true → listed.getD 3 false = true ∧ listed.getD 4 false = true ∧ listed.getD 5 false = true ∧ listed.getD 6 false = true)) := ⟨_, fun _ _ _ => Iff.rfl⟩
        have HI := hid hInv
        clear hInv
        refine Free.region hmx (by kernel_rfl) Inv ?s1 ?s2 ?s3
        case s1 =>
          exact (HI.out _ _ _).2 ⟨u25, u26, u27, u28, u29, u30, u31, u24, u32, u33, .int .i64 P.2.2, rfl, ⟨_, (Below.refl _ _).drew, by rw [Free.none_yet]; rfl⟩, Free.not_yet, Free.not_yet, Free.not_yet, Free.not_yet, Free.not_yet, Free.not_yet, Free.not_yet, Free.not_yet, Free.not_yet, Free.not_yet, Free.not_yet, Free.not_yet⟩
        case s2 =>
          intro i listed a W1 hi hne hnl hsz hv
          obtain ⟨v25, v26, v27, v28, v29, v30, v31, v24, v32, v33, v9, rfl, ⟨W2, hW, hWW⟩, l0, l1, l2, l3, l4, l5, l6, l7, l8, l9, l11, l10⟩ := (HI.out _ _ _).1 hv
          have HWW := hid hWW
          clear hv hWW
          replace hi : i < 12 := hi
          replace hsz : listed.size = 12 := hsz
          rcases (by omega : i = 0 ∨ i = 1 ∨ i = 2 ∨ i = 3 ∨ i = 4 ∨ i = 5 ∨ i = 6 ∨ i = 7 ∨ i = 8 ∨ i = 9 ∨ i = 10 ∨ i = 11) with rfl | rfl | rfl | rfl | rfl | rfl | rfl | rfl | rfl | rfl | rfl | rfl
          · refine Free.op rfl rfl (fun K hK => ?_)
            go_simp
            exact hK _ _ ((HI.out _ _ _).2 ⟨_, v26, v27, v28, v29, v30, v31, v24, v32, v33, v9, rfl, ⟨W2, hW, by rw [Free.set_other (by decide)]; exact HWW.out⟩, fun _ => rfl, Free.of_set (by decide) l1, Free.of_set (by decide) l2, Free.of_set (by decide) l3, Free.of_set (by decide) l4, Free.of_set (by decide) l5, Free.of_set (by decide) l6, Free.of_set (by decide) l7, Free.of_set (by decide) l8, Free.of_set (by decide) l9, Free.of_set (by decide) l11, fun e => by rw [Free.set_other (by decide)] at e; rw [Free.set_other (by decide), Free.set_other (by decide), Free.set_other (by decide), Free.set_other (by decide)]; exact l10 e⟩)
          · refine Free.op rfl rfl (fun K hK => ?_)
            go_simp
            exact hK _ _ ((HI.out _ _ _).2 ⟨v25, _, v27, v28, v29, v30, v31, v24, v32, v33, v9, rfl, ⟨W2, hW, by rw [Free.set_other (by decide)]; exact HWW.out⟩, Free.of_set (by decide) l0, fun _ => rfl, Free.of_set (by decide) l2, Free.of_set (by decide) l3, Free.of_set (by decide) l4, Free.of_set (by decide) l5, Free.of_set (by decide) l6, Free.of_set (by decide) l7, Free.of_set (by decide) l8, Free.of_set (by decide) l9, Free.of_set (by decide) l11, fun e => by rw [Free.set_other (by decide)] at e; rw [Free.set_other (by decide), Free.set_other (by decide), Free.set_other (by decide), Free.set_other (by decide)]; exact l10 e⟩)
          · refine Free.op rfl rfl (fun K hK => ?_)
            obtain rfl := l0 (hne 0 (by kernel_rfl))
            obtain rfl := l1 (hne 1 (by kernel_rfl))
            go_simp
            exact hK _ _ ((HI.out _ _ _).2 ⟨_, _, _, v28, v29, v30, v31, v24, v32, v33, v9, rfl, ⟨W2, hW, by rw [Free.set_other (by decide)]; exact HWW.out⟩, fun _ => rfl, fun _ => rfl, fun _ => rfl, Free.of_set (by decide) l3, Free.of_set (by decide) l4, Free.of_set (by decide) l5, Free.of_set (by decide) l6, Free.of_set (by decide) l7, Free.of_set (by decide) l8, Free.of_set (by decide) l9, Free.of_set (by decide) l11, fun e => by rw [Free.set_other (by decide)] at e; rw [Free.set_other (by decide), Free.set_other (by decide), Free.set_other (by decide), Free.set_other (by decide)]; exact l10 e⟩)
          · have hf := Free.off hnl
            have hs : listed.getD 10 false = false := by
              cases e : listed.getD 10 false
              · rfl
              · rw [(l10 e).1] at hf; cases hf
            have hWW := HWW.out
            rw [hs] at hWW
            obtain rfl : W1 = W2 := hWW
            clear HWW
            have z1 := (hW.cell (p := ⟨b, off + k, none⟩) hbW).trans hcW
            refine Free.op rfl rfl (fun K hK => ?_)
            obtain rfl := l2 (hne 2 (by kernel_rfl))
            go_simp
            exact hK _ _ ((HI.out _ _ _).2 ⟨v25, v26, _, _, v29, v30, v31, v24, v32, v33, v9, rfl, ⟨W1, hW, by rw [Free.set_other (by decide), hs]; rfl⟩, Free.of_set (by decide) l0, Free.of_set (by decide) l1, fun _ => rfl, fun _ => rfl, Free.of_set (by decide) l4, Free.of_set (by decide) l5, Free.of_set (by decide) l6, Free.of_set (by decide) l7, Free.of_set (by decide) l8, Free.of_set (by decide) l9, Free.of_set (by decide) l11, fun e => by rw [Free.set_other (by decide), hs] at e; cases e⟩)
          · have hf := Free.off hnl
            have hs : listed.getD 10 false = false := by
              cases e : listed.getD 10 false
              · rfl
              · rw [(l10 e).2.1] at hf; cases hf
            have hWW := HWW.out
            rw [hs] at hWW
            obtain rfl : W1 = W2 := hWW
            clear HWW
            refine Free.op rfl rfl (fun K hK => ?_)
            obtain rfl := l3 (hne 3 (by kernel_rfl))
            go_wp2_with (go_at_call 51; refine (rAlone_any _ _).mono ?_; rintro e W3 ⟨rfl, hb⟩)
            exact (HI.out _ _ _).2 ⟨v25, v26, v27, _, _, v30, v31, v24, v32, v33, v9, rfl, ⟨_, hW.trans (hb.mono hW.size), by rw [Free.set_other (by decide), hs]; rfl⟩, Free.of_set (by decide) l0, Free.of_set (by decide) l1, Free.of_set (by decide) l2, fun _ => rfl, fun _ => rfl, Free.of_set (by decide) l5, Free.of_set (by decide) l6, Free.of_set (by decide) l7, Free.of_set (by decide) l8, Free.of_set (by decide) l9, Free.of_set (by decide) l11, fun e => by rw [Free.set_other (by decide), hs] at e; cases e⟩
          · have hf := Free.off hnl
            have hs : listed.getD 10 false = false := by
              cases e : listed.getD 10 false
              · rfl
              · rw [(l10 e).2.2.1] at hf; cases hf
            have hWW := HWW.out
            rw [hs] at hWW
            obtain rfl : W1 = W2 := hWW
            clear HWW
            have z1 := (hsp.step hW).lo
            have z2 := (hsp.step hW).hi
            refine Free.op rfl rfl (fun K hK => ?_)
            go_simp
            exact hK _ _ ((HI.out _ _ _).2 ⟨v25, v26, v27, v28, v29, _, v31, v24, v32, v33, v9, rfl, ⟨W1, hW, by rw [Free.set_other (by decide), hs]; rfl⟩, Free.of_set (by decide) l0, Free.of_set (by decide) l1, Free.of_set (by decide) l2, Free.of_set (by decide) l3, Free.of_set (by decide) l4, fun _ => rfl, Free.of_set (by decide) l6, Free.of_set (by decide) l7, Free.of_set (by decide) l8, Free.of_set (by decide) l9, Free.of_set (by decide) l11, fun e => by rw [Free.set_other (by decide), hs] at e; cases e⟩)
          · have hf := Free.off hnl
            have hs : listed.getD 10 false = false := by
              cases e : listed.getD 10 false
              · rfl
              · rw [(l10 e).2.2.2] at hf; cases hf
            have hWW := HWW.out
            rw [hs] at hWW
            obtain rfl : W1 = W2 := hWW
            clear HWW
            refine Free.op rfl rfl (fun K hK => ?_)
            obtain rfl := l4 (hne 4 (by kernel_rfl))
            obtain rfl := l5 (hne 5 (by kernel_rfl))
            go_wp2_with (go_at_call 19; refine (HT _).out.mono ?_; rintro e W3 ⟨rfl, hb⟩)
            exact (HI.out _ _ _).2 ⟨v25, v26, v27, v28, _, _, _, v24, v32, v33, v9, rfl, ⟨_, hW.trans (hb.mono hW.size), by rw [Free.set_other (by decide), hs]; rfl⟩, Free.of_set (by decide) l0, Free.of_set (by decide) l1, Free.of_set (by decide) l2, Free.of_set (by decide) l3, fun _ => rfl, fun _ => rfl, fun _ => rfl, Free.of_set (by decide) l7, Free.of_set (by decide) l8, Free.of_set (by decide) l9, Free.of_set (by decide) l11, fun e => by rw [Free.set_other (by decide), hs] at e; cases e⟩
          · refine Free.op rfl rfl (fun K hK => ?_)
            obtain rfl := l6 (hne 6 (by kernel_rfl))
            go_simp
            exact hK _ _ ((HI.out _ _ _).2 ⟨v25, v26, v27, v28, v29, v30, _, _, v32, v33, v9, rfl, ⟨W2, hW, by rw [Free.set_other (by decide)]; exact HWW.out⟩, Free.of_set (by decide) l0, Free.of_set (by decide) l1, Free.of_set (by decide) l2, Free.of_set (by decide) l3, Free.of_set (by decide) l4, Free.of_set (by decide) l5, fun _ => rfl, fun _ => rfl, Free.of_set (by decide) l8, Free.of_set (by decide) l9, Free.of_set (by decide) l11, fun e => by rw [Free.set_other (by decide)] at e; rw [Free.set_other (by decide), Free.set_other (by decide), Free.set_other (by decide), Free.set_other (by decide)]; exact l10 e⟩)
          · refine Free.op rfl rfl (fun K hK => ?_)
            obtain rfl := l7 (hne 7 (by kernel_rfl))
            go_simp
            exact hK _ _ ((HI.out _ _ _).2 ⟨v25, v26, v27, v28, v29, v30, v31, _, _, v33, v9, rfl, ⟨W2, hW, by rw [Free.set_other (by decide)]; exact HWW.out⟩, Free.of_set (by decide) l0, Free.of_set (by decide) l1, Free.of_set (by decide) l2, Free.of_set (by decide) l3, Free.of_set (by decide) l4, Free.of_set (by decide) l5, Free.of_set (by decide) l6, fun _ => rfl, fun _ => rfl, Free.of_set (by decide) l9, Free.of_set (by decide) l11, fun e => by rw [Free.set_other (by decide)] at e; rw [Free.set_other (by decide), Free.set_other (by decide), Free.set_other (by decide), Free.set_other (by decide)]; exact l10 e⟩)
          · refine Free.op rfl rfl (fun K hK => ?_)
            obtain rfl := l7 (hne 7 (by kernel_rfl))
            go_simp
            exact hK _ _ ((HI.out _ _ _).2 ⟨v25, v26, v27, v28, v29, v30, v31, _, v32, _, v9, rfl, ⟨W2, hW, by rw [Free.set_other (by decide)]; exact HWW.out⟩, Free.of_set (by decide) l0, Free.of_set (by decide) l1, Free.of_set (by decide) l2, Free.of_set (by decide) l3, Free.of_set (by decide) l4, Free.of_set (by decide) l5, Free.of_set (by decide) l6, fun _ => rfl, Free.of_set (by decide) l8, fun _ => rfl, Free.of_set (by decide) l11, fun e => by rw [Free.set_other (by decide)] at e; rw [Free.set_other (by decide), Free.set_other (by decide), Free.set_other (by decide), Free.set_other (by decide)]; exact l10 e⟩)
          · have hs := Free.off hnl
            have N := hid (And.intro (hne 3 (by kernel_rfl)) (And.intro (hne 4 (by kernel_rfl)) (And.intro (hne 5 (by kernel_rfl)) (hne 6 (by kernel_rfl)))))
            have hWW := HWW.out
            rw [hs] at hWW
            obtain rfl : W1 = W2 := hWW
            clear HWW
            have y1 := (hsp.step hW).fl
            have y2 := (hsp.step hW).fh
            have y3 := (hsp.step hW).lo
            have y4 := (hsp.step hW).hi
            refine Free.op rfl rfl (fun K hK => ?_)
            obtain rfl := l8 (hne 8 (by kernel_rfl))
            go_simp
            exact hK _ _ ((HI.out _ _ _).2 ⟨v25, v26, v27, v28, v29, v30, v31, v24, _, v33, v9, rfl, ⟨W1, hW, by rw [Free.set_same (by omega)]; rfl⟩, Free.of_set (by decide) l0, Free.of_set (by decide) l1, Free.of_set (by decide) l2, Free.of_set (by decide) l3, Free.of_set (by decide) l4, Free.of_set (by decide) l5, Free.of_set (by decide) l6, Free.of_set (by decide) l7, fun _ => rfl, Free.of_set (by decide) l9, Free.of_set (by decide) l11, fun _ => by rw [Free.set_other (by decide), Free.set_other (by decide), Free.set_other (by decide), Free.set_other (by decide)]; exact N.out⟩)
          · refine Free.op rfl rfl (fun K hK => ?_)
            obtain rfl := l9 (hne 9 (by kernel_rfl))
            go_simp
            exact hK _ _ ((HI.out _ _ _).2 ⟨v25, v26, v27, v28, v29, v30, v31, v24, v32, _, _, rfl, ⟨W2, hW, by rw [Free.set_other (by decide)]; exact HWW.out⟩, Free.of_set (by decide) l0, Free.of_set (by decide) l1, Free.of_set (by decide) l2, Free.of_set (by decide) l3, Free.of_set (by decide) l4, Free.of_set (by decide) l5, Free.of_set (by decide) l6, Free.of_set (by decide) l7, Free.of_set (by decide) l8, fun _ => rfl, fun _ => rfl, fun e => by rw [Free.set_other (by decide)] at e; rw [Free.set_other (by decide), Free.set_other (by decide), Free.set_other (by decide), Free.set_other (by decide)]; exact l10 e⟩)
        case s3 =>
          intro listed a W1 hall hsz hv
          obtain ⟨v25, v26, v27, v28, v29, v30, v31, v24, v32, v33, v9, rfl, ⟨W2, hW, hWW⟩, l0, l1, l2, l3, l4, l5, l6, l7, l8, l9, l11, l10⟩ := (HI.out _ _ _).1 hv
          clear hv HI
          rw [Free.listed_of hall hsz 10 (by decide)] at hWW
          obtain rfl : W1 = ((W2.setCell ⟨w2.heap.size, 0, none⟩ (.int .i64 T.1)).setCell ⟨w2.heap.size, 1, none⟩ (.int .i64 T.2.1)) := hWW
          obtain rfl := l11 (Free.listed_of hall hsz 11 (by decide))
          clear l0 l1 l2 l3 l4 l5 l6 l7 l8 l9 l10 hall hsz HT
          have hJ := (hIW.step hW).away (c := w2.heap.size) (by omega) (by omega) (.int .i64 T.1) (.int .i64 T.2.1)
          have hsT := (hsp.step hW).set T.1 T.2.1
          have hj := hJ.below.size
          clear hIW
          generalize ((W2.setCell ⟨w2.heap.size, 0, none⟩ (.int .i64 T.1)).setCell ⟨w2.heap.size, 1, none⟩ (.int .i64 T.2.1)) = W9 at *
          by_cases hT : T.2.2 = 0
          · have kt : (T.2.2 == 0) = true := by simpa using hT
            obtain ⟨o1, o2, o3⟩ := Um.chk_ok.1 (tc hT)
            have HA := fun w => hid (rAdd_any s.1 s.2.1 T.1 T.2.1 w m1 m2 o1 o2)
            rw [← (show R = Um.addR s.1 s.2.1 T.1 T.2.1 by rw [HNN.out, if_pos hT])] at HA
            have z1 := hJ.sum.lo
            have z2 := hJ.sum.hi
            have z3 := hsT.lo
            have z4 := hsT.hi
            clear HNN tc tf hT
            by_cases hr : R.2.2 = 0
            · have kr : (R.2.2 != 0) = false := by simpa using hr
              have HZ := hid hr
              clear hr
              go_wp2_with (go_at_call 17; refine (HA _).out.mono ?_; rintro e w4 ⟨rfl, hb⟩; replace hJ := hJ.step hb; clear hb z1 z2 z3 z4 hsT; have y1 := hJ.sum.fl; have y2 := hJ.sum.fh; have y3 := hJ.sum.lo; have y4 := hJ.sum.hi)
              refine ⟨⟨k + 1, by omega, rfl, ?_⟩, by simp [intOf]; omega⟩
              rw [HRR.out]
              exact hJ.put (by omega) R HZ.out
            · have kr : (R.2.2 != 0) = true := by simpa using hr
              obtain ⟨t1, t2⟩ := (H1 hr).out
              have T1 := hid t1
              have T2 := hid t2
              clear t1 t2 H1 hr
              go_wp2_with (go_at_call 17; refine (HA _).out.mono ?_; rintro e w4 ⟨rfl, hb⟩; replace hJ := hJ.step hb; clear hb z1 z2 z3 z4 hsT; have y1 := hJ.sum.fl; have y2 := hJ.sum.fh; have y3 := hJ.sum.lo; have y4 := hJ.sum.hi; have hres := (hJ.res.other ⟨w.heap.size + 1 + 1, 0, none⟩ (.int .i64 R.1) (by simp only []; omega)).other ⟨w.heap.size + 1 + 1, 1, none⟩ (.int .i64 R.2.1) (by simp only []; omega); have y5 := hres.fl; have y6 := hres.fh; have y7 := hres.lo; have y8 := hres.hi; have d1 := (hres.set 0 0).lo; have d2 := (hres.set 0 0).hi)
              refine bodyPost_ret (by simp [results, Tryz.results75, go_sem, d1, d2]; try rfl) rfl ?_
              rw [T1.out, T2.out]
              exact ⟨rfl, (((hJ.below.setCell (by simp only []; omega) _).setCell (by simp only []; omega) _).setCell (by simp only []; omega) _).setCell (by simp only []; omega) _⟩
          · have kt : (T.2.2 == 0) = false := by simpa using hT
            have kt2 : (T.2.2 != 0) = true := by simpa using hT
            have hT4 := tf.resolve_left hT
            have TZ : Hid (T.2.2 = 4) := by rw [hT4]; rfl
            have T1 := hid (H1 (by rw [HNN.out, if_neg hT]; decide)).out.1
            clear HNN tc tf hT hT4 H1
            have y5 := hJ.res.fl
            have y6 := hJ.res.fh
            have y7 := hJ.res.lo
            have y8 := hJ.res.hi
            have d1 := (hJ.res.set 0 0).lo
            have d2 := (hJ.res.set 0 0).hi
            go_wp2
            refine bodyPost_ret (by simp [results, Tryz.results75, go_sem, d1, d2]; try rfl) rfl ?_
            rw [T1.out, TZ.out]
            exact ⟨rfl, (hJ.below.setCell (by simp only []; omega) _).setCell (by simp only []; omega) _⟩
      · have kp : (P.2.2 == 0) = false := by simpa using hP
        have kq : (P.2.2 != 0) = true := by simpa using hP
        obtain ⟨t1, t2⟩ := (H2 hP).out
        have T1 := hid t1
        have T2 := hid t2
        clear t1 t2 H2 HN H1 hP hcp hcs
        go_wp2_with (go_at_call 24; refine (HP _).out.mono ?_; rintro e w2 ⟨rfl, hb⟩; replace hI := hI.step hb; clear hb x1 x2; have y1 := hI.res.fl; have y2 := hI.res.fh; have y3 := hI.res.lo; have y4 := hI.res.hi; have y5 := hI.res.lt)
        have hz := hI.below.size
        have d1 := ((hI.res.set 0 0).alloc (.cells #[.int .i64 P.1, .int .i64 P.2.1] 29)).lo
        have d2 := ((hI.res.set 0 0).alloc (.cells #[.int .i64 P.1, .int .i64 P.2.1] 29)).hi
        refine bodyPost_ret (by simp [results, Tryz.results75, go_sem, d1, d2]; try rfl) rfl ?_
        rw [T1.out, T2.out]
        exact ⟨rfl, ((hI.below.setCell (by simp only []; omega) _).setCell (by simp only []; omega) _).alloc (by simp; omega) _⟩
    · obtain rfl : k = p.length := by omega
      clear HC HM HK
      generalize hRR : Um.powsN lo hi p p.length = R at hI
      have HRR := hid hRR
      clear hRR
      have z1 := hI.sum.lo
      have z2 := hI.sum.hi
      have y1 := hI.res.fl
      have y2 := hI.res.fh
      have y3 := hI.res.lo
      have y4 := hI.res.hi
      go_wp2
      have d1 := (hI.res.set R.1 R.2.1).lo
      have d2 := (hI.res.set R.1 R.2.1).hi
      refine bodyPost_ret (by simp [results, Tryz.results75, go_sem, d1, d2]; try rfl) rfl ?_
      rw [HRR.out, hI.ok]
      exact ⟨rfl, (hI.below.setCell (by simp only []; omega) _).setCell (by simp only []; omega) _⟩
end Go.Proofs.YtkfalmdckmlneaaGreatDoor
namespace Go.Proofs.YtkfalmdckmlneaaGreatDoor
set_option linter.unusedSimpArgs false
open Go.RowKit

/-- The first k factors of the slope. -/
def dn (p : List Int) (k : Nat) : List Int := (List.range k).map fun i => p.getD (i + 1) 0 * (i + 1 : Nat)
theorem dn_succ (p : List Int) (k : Nat) : dn p (k + 1) = dn p k ++ [p[k + 1]?.getD 0 * ((k : Int) + 1)] := by
  unfold dn
  rw [List.range_succ, List.map_append]
  simp [List.getD_eq_getElem?_getD]
theorem dn_length (p : List Int) (k : Nat) : (dn p k).length = k := by simp [dn]
theorem dn_all {p : List Int} (h : 1 < p.length) : Um.ders p = dn p (p.length - 1) := by unfold Um.ders dn; rw [if_neg (by omega)]
theorem dn_mem {p : List Int} {k m : Nat} (h : k ≤ m) {c : Int} (hc : c ∈ dn p k) : c ∈ dn p m := by
  unfold dn at *
  obtain ⟨i, hi, rfl⟩ := List.mem_map.1 hc
  exact List.mem_map.2 ⟨i, List.mem_range.2 (by have := List.mem_range.1 hi; omega), rfl⟩
theorem der_good {p : List Int} (h : 1 < p.length) (hm : ∀ c ∈ dn p (p.length - 1), Um.may c = true) : Um.derR p = (dn p (p.length - 1), 0) := by
  unfold Um.derR; rw [dn_all h, if_pos (List.all_eq_true.2 hm)]
theorem der_bad {p : List Int} {k : Nat} (h : k + 1 < p.length) (hm : Um.may (p[k + 1]?.getD 0 * ((k : Int) + 1)) = false) : Um.derR p = ([], 4) := by
  unfold Um.derR
  rw [dn_all (by omega), if_neg]
  intro ha
  have := List.all_eq_true.1 ha (p[k + 1]?.getD 0 * ((k : Int) + 1)) (dn_mem (k := k + 1) (by omega) (by rw [dn_succ]; simp))
  rw [hm] at this; cases this
set_option maxRecDepth 100000 in
set_option maxHeartbeats 4000000 in
theorem rDerive_many (p : List Int) (v : Value) (w : World) (hl : Li w.heap.size w v p) (h : Um.pchk p = 0) (h1 : 1 < p.length) :
    Calls Tryz.prog 77 #[v] w fun e w' => ∃ v', e = .returned (.tuple #[v', .int .i64 (Um.derR p).2]) ∧ Li w'.heap.size w' v' (Um.derR p).1 ∧ Below w.heap.size w w' := by
  obtain ⟨h0, h5, hm⟩ := Um.pchk_ok.1 h
  obtain ⟨b, off, cap, rfl, hlt, hcs⟩ := hl.out h0
  obtain ⟨i0, hi, hz0, hz1, hz2⟩ := info_parts info_int
  have HC := hid hcs
  have HM := hid hm
  have z : ((p.length : Int) == 1) = false := by simp; omega
  clear hcs hm h0 h hl
  go_enter Tryz.func77, Tryz.ntmps77
  go_wp2
  go_loopw [4, 5] (fun u i wr => ∃ k : Nat, k + 1 ≤ p.length ∧ i = .int .i64 ((k : Int) + 1) ∧ wr.ownsRow w.heap.size 3 1 u k ((dn p k).map (Value.int .i64)) ∧ Below w.heap.size w wr ∧ Hid (∀ c ∈ dn p k, Um.may c = true)) (fun _ i _ => p.length - (intOf i).toNat)
  case atStart => exact ⟨0, by omega, rfl, World.ownsRow_nil _ _ _ _, Below.refl _ _, fun c hc => by cases hc⟩
  case round =>
    obtain ⟨k, hk, rfl, hown, hB, hall⟩ := hrel
    have hsz := hB.size
    by_cases hkl : k + 1 < p.length
    · have hcx : wr.cell? ⟨b, off + (k + 1), none⟩ = some (.int .i64 (p[k + 1]?.getD 0)) := (hB.cell (p := ⟨b, off + (k + 1), none⟩) hlt).trans (HC.out (k + 1) hkl)
      have hkk : (k : Int) + 1 < (p.length : Int) := by omega
      have HD := fun hm => hid (der_bad hkl hm)
      have HS := hid (dn_succ p k)
      have mb := (Um.may_iff _).1 (HM.out _ (Um.at_mem hkl))
      have bb := Um.mul_by (A := 1000000000) (B := 5) mb.1 mb.2 (show (-5 : Int) ≤ (k : Int) + 1 by omega) (show (k : Int) + 1 ≤ 5 by omega) (by decide)
      obtain ⟨b1, b2⟩ := bb
      generalize p[k + 1]?.getD 0 = x at *
      clear HC HM mb
      cases hy : Um.may (x * ((k : Int) + 1))
      · obtain HR := HD hy
        clear HD HS hall
        go_wp2_with (go_at_call 46; refine (rMay_any _ _).mono ?_; rintro e w1 ⟨rfl, rfl⟩)
        go_returns
        rw [HR.out]
        exact ⟨_, rfl, Li.nil _ _, hB⟩
      · clear HD
        go_wp2_with (first | (go_at_call 46; refine (rMay_any _ _).mono ?_; rintro e w1 ⟨rfl, rfl⟩) | (at_builtin; refine wpList_append_own _ rfl _ _ 52 rfl w.heap.size 3 i0 (.int .i64 0) 1 8 Tryz.underlying52 hi hz0 hz1 hz2 rfl (by decide) _ _ _ rfl (hown.alloc _) _ 1 1 [.int .i64 (x * ((k : Int) + 1))] rfl rfl (cell_one_new _ _ _) (by simp [Value.oneCell']) (by unfold maxLen; omega) (by omega) (by simp; omega) ?_; intro v' w1 hown' hgrow _))
        refine ⟨⟨k + 1, by omega, by simp, ?_, (hB.alloc hsz _).grown hgrow (by simp; omega) (fun j e => own_from hown j e), ?_⟩, by simp [intOf]; omega⟩
        · rw [HS.out, List.map_append]; exact hown'
        · intro c hc
          rw [HS.out, List.mem_append] at hc
          rcases hc with hc | hc
          · exact hall.out c hc
          · rw [List.mem_singleton.1 hc]; exact hy
    · have hkp : k = p.length - 1 := by omega
      have HR := hid (der_good (p := p) h1 (by rw [← hkp]; exact hall.out))
      rw [← hkp] at HR
      have hkk : (k : Int) + 1 = (p.length : Int) := by omega
      clear hall HC HM hkp
      have hli : Li wr.heap.size wr _ (dn p k) := li_owns (by rw [dn_length]; exact hown)
      have HL := hid hli
      clear hown hli
      go_wp2
      go_returns
      rw [HR.out]
      exact ⟨_, rfl, HL.out, hB⟩

set_option maxHeartbeats 1000000 in
theorem rDerive_one (x : Int) (v : Value) (w : World) (hl : Li w.heap.size w v [x]) :
    Calls Tryz.prog 77 #[v] w fun e w' => ∃ v', e = .returned (.tuple #[v', .int .i64 (Um.derR [x]).2]) ∧ Li w'.heap.size w' v' (Um.derR [x]).1 ∧ Below w.heap.size w w' := by
  have HR : Hid (Um.derR [x] = ([0], 0)) := by unfold Um.derR; rfl
  obtain ⟨a, cap, rfl, -⟩ := hl
  have el : [x].length = 1 := rfl
  rw [el] at *
  clear el
  generalize Um.derR [x] = R at *
  go_enter Tryz.func77, Tryz.ntmps77
  go_wp2
  go_returns
  rw [HR.out]
  exact ⟨_, rfl, Li.one w 0 _, by go_grown⟩
theorem rDerive_any (p : List Int) (v : Value) (w : World) (hl : Li w.heap.size w v p) (h : Um.pchk p = 0) :
    Calls Tryz.prog 77 #[v] w fun e w' => ∃ v', e = .returned (.tuple #[v', .int .i64 (Um.derR p).2]) ∧ Li w'.heap.size w' v' (Um.derR p).1 ∧ Below w.heap.size w w' := by
  by_cases h1 : 1 < p.length
  · exact rDerive_many p v w hl h h1
  · match p, (Um.pchk_ok.1 h).1 with
    | [], h0 => exact absurd rfl h0
    | [x], _ => exact rDerive_one x v w hl
    | _ :: _ :: _, _ => simp at h1

end Go.Proofs.YtkfalmdckmlneaaGreatDoor
namespace Go.Proofs.YtkfalmdckmlneaaGreatDoor
set_option linter.unusedSimpArgs false
open Go.RowKit

set_option maxHeartbeats 1000000 in
theorem rSlope_any (p : List Int) (v : Value) (lo hi : Int) (w : World) (hl : Li w.heap.size w v p) (ho : Um.over p lo hi = 0) :
    Calls Tryz.prog 48 #[v, .agg #[.int .i64 lo, .int .i64 hi]] w fun e w' => e = .returned (.tuple #[.agg #[.int .i64 (Um.slopeR lo hi p).1, .int .i64 (Um.slopeR lo hi p).2.1], .int .i64 (Um.slopeR lo hi p).2.2]) ∧ Below w.heap.size w w' := by
  have hp := (Um.over_ok.1 ho).1
  have HD := fun w hl => hid (rDerive_any p v w hl hp)
  have hF := Fr.two w lo hi
  have x1l := (hF.at 1 rfl).lo
  have x1h := (hF.at 1 rfl).hi
  by_cases hd : (Um.derR p).2 = 0
  · have HR : Hid (Um.slopeR lo hi p = Um.hornR lo hi (Um.ders p)) := by unfold Um.slopeR; rw [if_pos hd]; rfl
    have HH := fun v w hl => hid (rHorner_any (Um.ders p) v lo hi w hl (Um.over_ok.2 ⟨Um.der_pchk hp hd, (Um.over_ok.1 ho).2⟩))
    rw [(Um.der_ok hd).1] at HD
    clear ho hd hp
    generalize Um.slopeR lo hi p = Q at *
    generalize Um.hornR lo hi (Um.ders p) = R at *
    generalize Um.ders p = D at *
    obtain ⟨a0, cap0, rfl, -⟩ := (id hl)
    go_enter Tryz.func48, Tryz.ntmps48
    go_wp2_with (first | (go_at_call 77; refine (HD _ (hF.li hl)).out.mono ?_; rintro e wn ⟨v8, rfl, l8, hb⟩; replace hF := hF.step hb; clear hb; clear x1l x1h; have x1l := (hF.at 1 rfl).lo; have x1h := (hF.at 1 rfl).hi) | (go_at_call 50; refine (HH _ _ l8).out.mono ?_; rintro e wn ⟨rfl, hb⟩; replace hF := hF.step hb; clear hb; clear x1l x1h; have y1 := (hF.at 0 rfl).fl; have y2 := (hF.at 0 rfl).fh; have y3 := (hF.at 0 rfl).lo; have y4 := (hF.at 0 rfl).hi; have y6 := (hF.at 0 rfl).r0; have y7 := (hF.at 0 rfl).r1))
    refine bodyPost_ret (by simp [results, Tryz.results48, go_sem, y6, y7]; try rfl) rfl ?_
    rw [HR.out]
    exact ⟨rfl, (hF.put 0 rfl _ _ rfl).below⟩
  · have HR : Hid (Um.slopeR lo hi p = (0, 0, 4)) := by unfold Um.slopeR; rw [if_neg hd]; rfl
    rw [Um.der_no hd] at HD
    clear ho hd hp
    generalize Um.slopeR lo hi p = Q at *
    obtain ⟨a0, cap0, rfl, -⟩ := (id hl)
    go_enter Tryz.func48, Tryz.ntmps48
    go_wp2_with (first | (go_at_call 77; refine (HD _ (hF.li hl)).out.mono ?_; rintro e wn ⟨v8, rfl, l8, hb⟩; replace hF := hF.step hb; clear hb; clear x1l x1h; have y1 := (hF.at 0 rfl).fl; have y2 := (hF.at 0 rfl).fh; have y3 := (hF.at 0 rfl).lo; have y4 := (hF.at 0 rfl).hi; have y6 := (hF.at 0 rfl).r0; have y7 := (hF.at 0 rfl).r1))
    refine bodyPost_ret (by simp [results, Tryz.results48, go_sem, y6, y7]; try rfl) rfl ?_
    rw [HR.out]
    exact ⟨rfl, (hF.put 0 rfl _ _ rfl).below⟩

theorem cent_ref {p : List Int} {lo hi : Int} {H S L T A : Int × Int × Int} (eH : Um.hornR (Um.midR lo hi) (Um.midR lo hi) p = H) (eS : Um.slopeR lo hi p = S) (eL : Um.lessR lo hi (Um.midR lo hi) (Um.midR lo hi) = L) (eT : Um.stimesR S.1 S.2.1 L.1 L.2.1 = T) (eA : Um.addR H.1 H.2.1 T.1 T.2.1 = A) :
    Um.centR lo hi p = if H.2.2 = 0 then (if S.2.2 = 0 then (if L.2.2 = 0 then (if T.2.2 = 0 then (if A.2.2 = 0 then (A.1, A.2.1, 0) else (0, 0, A.2.2)) else (0, 0, T.2.2)) else (0, 0, L.2.2)) else (0, 0, S.2.2)) else (0, 0, H.2.2) := by
  have fH := Um.horn_fault (Um.midR lo hi) (Um.midR lo hi) p
  have fS := Um.slope_fault lo hi p
  have fL := Um.less_fault lo hi (Um.midR lo hi) (Um.midR lo hi)
  have fT := Um.stimes_fault S.1 S.2.1 L.1 L.2.1
  have fA := Um.add_fault H.1 H.2.1 T.1 T.2.1
  rw [eH] at fH
  rw [eS] at fS
  rw [eL] at fL
  rw [eT] at fT
  rw [eA] at fA
  unfold Um.centR Um.chgR
  rw [eH, eS, eL, eT]
  by_cases h1 : H.2.2 = 0
  · rw [if_pos h1, if_pos h1]
    by_cases h2 : S.2.2 = 0
    · rw [if_pos h2, if_pos h2]
      by_cases h3 : L.2.2 = 0
      · rw [if_pos h3, if_pos h3]
        by_cases h4 : T.2.2 = 0
        · rw [if_pos h4, if_pos h4, eA]
          by_cases h5 : A.2.2 = 0
          · rw [if_pos h5]; obtain ⟨a, b, c⟩ := A; simp only at h5; subst h5; rfl
          · rw [if_neg h5, fA.resolve_left h5]
        · rw [if_neg h4, if_neg h4, fT.resolve_left h4]
      · rw [if_neg h3, if_neg h3, fL.resolve_left h3]; rfl
    · rw [if_neg h2, if_neg h2, fS.resolve_left h2]; rfl
  · rw [if_neg h1, if_neg h1, fH.resolve_left h1]

set_option maxRecDepth 100000 in
set_option maxHeartbeats 8000000 in
theorem rCenter_any (p : List Int) (v : Value) (lo hi : Int) (w : World) (hl : Li w.heap.size w v p) (ho : Um.over p lo hi = 0) :
    Calls Tryz.prog 76 #[v, .agg #[.int .i64 lo, .int .i64 hi]] w fun e w' => e = .returned (.tuple #[.agg #[.int .i64 (Um.centR lo hi p).1, .int .i64 (Um.centR lo hi p).2.1], .int .i64 (Um.centR lo hi p).2.2]) ∧ Below w.heap.size w w' := by
  obtain ⟨hp, hc⟩ := Um.over_ok.1 ho
  have hp' := Um.pchk_ok.1 hp
  have hm := Um.mid_may hc
  obtain ⟨m1, m2, hle⟩ := Um.chk_ok.1 hc
  obtain ⟨a1, a2⟩ := (Um.may_iff _).1 m1
  obtain ⟨a3, a4⟩ := (Um.may_iff _).1 m2
  have HM := fun w => hid (rMiddle_any lo hi w a1 a2 a3 a4)
  have HS := fun w hl => hid (rSlope_any p v lo hi w hl ho)
  have HH := fun w hl => hid (rHorner_any p v (Um.midR lo hi) (Um.midR lo hi) w hl (Um.over_ok.2 ⟨hp, Um.chk_alone hm⟩))
  have HL := fun w => hid (rLess_any lo hi (Um.midR lo hi) (Um.midR lo hi) w m1 m2 hm hm)
  have cH := Um.horn_chk (Int.le_refl (Um.midR lo hi)) p hp'.1 hp'.2.2
  have cS := Um.slope_chk (p := p) hle
  have cL := Um.less_chk (m := Um.midR lo hi) hle
  have hF := Fr.two w lo hi
  have x1l := (hF.at 1 rfl).lo
  have x1h := (hF.at 1 rfl).hi
  obtain ⟨T, eT⟩ : ∃ T, Um.stimesR (Um.slopeR lo hi p).1 (Um.slopeR lo hi p).2.1 (Um.lessR lo hi (Um.midR lo hi) (Um.midR lo hi)).1 (Um.lessR lo hi (Um.midR lo hi) (Um.midR lo hi)).2.1 = T := ⟨_, rfl⟩
  obtain ⟨A, eA⟩ : ∃ A, Um.addR (Um.hornR (Um.midR lo hi) (Um.midR lo hi) p).1 (Um.hornR (Um.midR lo hi) (Um.midR lo hi) p).2.1 T.1 T.2.1 = A := ⟨_, rfl⟩
  have HR := hid (cent_ref (p := p) (lo := lo) (hi := hi) rfl rfl rfl eT eA)
  clear ho hp hp' hc hm m1 m2 hle a1 a2 a3 a4
  generalize Um.centR lo hi p = R at *
  generalize Um.hornR (Um.midR lo hi) (Um.midR lo hi) p = H at *
  generalize Um.slopeR lo hi p = S at *
  generalize Um.lessR lo hi (Um.midR lo hi) (Um.midR lo hi) = L at *
  generalize Um.midR lo hi = m at *
  by_cases hH : H.2.2 = 0
  · by_cases hS : S.2.2 = 0
    · by_cases hL : L.2.2 = 0
      · by_cases hT : T.2.2 = 0
        · by_cases hA : A.2.2 = 0
          · have HX : Hid (R = (A.1, A.2.1, 0)) := by rw [HR.out, if_pos hH, if_pos hS, if_pos hL, if_pos hT, if_pos hA]; rfl
            have HT := fun w => hid (rTimes_um S.1 S.2.1 L.1 L.2.1 w (Um.chk_ok.1 (cS hS)).1 (Um.chk_ok.1 (cS hS)).2.1 (Um.chk_ok.1 (cL hL)).1 (Um.chk_ok.1 (cL hL)).2.1)
            rw [eT] at HT
            have cT := Um.stimes_chk (Um.chk_ok.1 (cS hS)).2.2 (Um.chk_ok.1 (cL hL)).2.2 (by rw [eT]; exact hT)
            rw [eT] at cT
            have HA := fun w => hid (rAdd_any H.1 H.2.1 T.1 T.2.1 w (Um.chk_ok.1 (cH hH)).1 (Um.chk_ok.1 (cH hH)).2.1 (Um.chk_ok.1 cT).1 (Um.chk_ok.1 cT).2.1)
            rw [eA] at HA
            clear cT
            have kH : (H.2.2 == 0) = true := by simpa using hH
            have jH : (H.2.2 != 0) = false := by simpa using hH
            have kS : (S.2.2 == 0) = true := by simpa using hS
            have jS : (S.2.2 != 0) = false := by simpa using hS
            have kL : (L.2.2 == 0) = true := by simpa using hL
            have jL : (L.2.2 != 0) = false := by simpa using hL
            have kT : (T.2.2 == 0) = true := by simpa using hT
            have jT : (T.2.2 != 0) = false := by simpa using hT
            have kA : (A.2.2 == 0) = true := by simpa using hA
            have jA : (A.2.2 != 0) = false := by simpa using hA
            clear HR hH hS hL hT hA cH cS cL eT eA
            obtain ⟨a0, cap0, rfl, -⟩ := (id hl)
            go_enter Tryz.func76, Tryz.ntmps76
            go_wp2_with (first | (go_at_call 52; refine (HM _).out.mono ?_; rintro e wn ⟨rfl, rfl⟩) | (go_at_call 51; refine (hid (rAlone_any _ _)).out.mono ?_; rintro e wn ⟨rfl, hb⟩; replace hF := (hF.alloc _).step hb; clear hb; clear x1l x1h; replace hF := hF.push m m rfl; have x0l := (hF.at 0 rfl).lo; have x0h := (hF.at 0 rfl).hi) | (go_at_call 50; refine (HH _ (hF.li hl)).out.mono ?_; rintro e wn ⟨rfl, hb⟩; replace hF := hF.step hb; clear hb; clear x0l x0h; replace hF := ((hF.push H.1 H.2.1 rfl).push 0 0 (b := wn.heap.size + 1) (by simp)).push 0 0 (b := wn.heap.size + 1 + 1) (by simp); have x5l := (hF.at 5 rfl).lo; have x5h := (hF.at 5 rfl).hi) | (go_at_call 48; refine (HS _ (hF.li hl)).out.mono ?_; rintro e wn ⟨rfl, hb⟩; replace hF := hF.step hb; clear hb; clear x5l x5h; have y1 := (hF.at 1 rfl).fl; have y2 := (hF.at 1 rfl).fh; have y3 := (hF.at 1 rfl).lo; have y4 := (hF.at 1 rfl).hi; replace hF := hF.put 1 rfl S.1 S.2.1 rfl; have x3l := (hF.at 3 rfl).lo; have x3h := (hF.at 3 rfl).hi; have x5l := (hF.at 5 rfl).lo; have x5h := (hF.at 5 rfl).hi) | (go_at_call 18; refine (HL _).out.mono ?_; rintro e wn ⟨rfl, hb⟩; replace hF := hF.step hb; clear hb; clear x5l x5h x3l x3h; have y1 := (hF.at 0 rfl).fl; have y2 := (hF.at 0 rfl).fh; have y3 := (hF.at 0 rfl).lo; have y4 := (hF.at 0 rfl).hi; replace hF := hF.put 0 rfl L.1 L.2.1 rfl; have x0l := (hF.at 0 rfl).lo; have x0h := (hF.at 0 rfl).hi; have x1l := (hF.at 1 rfl).lo; have x1h := (hF.at 1 rfl).hi) | (go_at_call 19; refine (HT _).out.mono ?_; rintro e wn ⟨rfl, hb⟩; replace hF := hF.step hb; clear hb; clear x0l x0h x1l x1h; have y1 := (hF.at 1 rfl).fl; have y2 := (hF.at 1 rfl).fh; have y3 := (hF.at 1 rfl).lo; have y4 := (hF.at 1 rfl).hi; replace hF := hF.put 1 rfl T.1 T.2.1 rfl; have x1l := (hF.at 1 rfl).lo; have x1h := (hF.at 1 rfl).hi; have x2l := (hF.at 2 rfl).lo; have x2h := (hF.at 2 rfl).hi) | (go_at_call 17; refine (HA _).out.mono ?_; rintro e wn ⟨rfl, hb⟩; replace hF := hF.step hb; clear hb; clear x1l x1h x2l x2h; have y1 := (hF.at 2 rfl).fl; have y2 := (hF.at 2 rfl).fh; have y3 := (hF.at 2 rfl).lo; have y4 := (hF.at 2 rfl).hi; replace hF := hF.put 2 rfl A.1 A.2.1 rfl; have x2l := (hF.at 2 rfl).lo; have x2h := (hF.at 2 rfl).hi; have s1 := (hF.at 4 rfl).fl; have s2 := (hF.at 4 rfl).fh; have s3 := (hF.at 4 rfl).lo; have s4 := (hF.at 4 rfl).hi; have y6 := (hF.at 4 rfl).r0; have y7 := (hF.at 4 rfl).r1))
            refine bodyPost_ret (by simp [results, Tryz.results76, go_sem, y6, y7]; try rfl) rfl ?_
            rw [HX.out]
            exact ⟨rfl, (hF.put 4 rfl _ _ rfl).below⟩
          · have HX : Hid (R = (0, 0, A.2.2)) := by rw [HR.out, if_pos hH, if_pos hS, if_pos hL, if_pos hT, if_neg hA]; rfl
            have HT := fun w => hid (rTimes_um S.1 S.2.1 L.1 L.2.1 w (Um.chk_ok.1 (cS hS)).1 (Um.chk_ok.1 (cS hS)).2.1 (Um.chk_ok.1 (cL hL)).1 (Um.chk_ok.1 (cL hL)).2.1)
            rw [eT] at HT
            have cT := Um.stimes_chk (Um.chk_ok.1 (cS hS)).2.2 (Um.chk_ok.1 (cL hL)).2.2 (by rw [eT]; exact hT)
            rw [eT] at cT
            have HA := fun w => hid (rAdd_any H.1 H.2.1 T.1 T.2.1 w (Um.chk_ok.1 (cH hH)).1 (Um.chk_ok.1 (cH hH)).2.1 (Um.chk_ok.1 cT).1 (Um.chk_ok.1 cT).2.1)
            rw [eA] at HA
            clear cT
            have kH : (H.2.2 == 0) = true := by simpa using hH
            have jH : (H.2.2 != 0) = false := by simpa using hH
            have kS : (S.2.2 == 0) = true := by simpa using hS
            have jS : (S.2.2 != 0) = false := by simpa using hS
            have kL : (L.2.2 == 0) = true := by simpa using hL
            have jL : (L.2.2 != 0) = false := by simpa using hL
            have kT : (T.2.2 == 0) = true := by simpa using hT
            have jT : (T.2.2 != 0) = false := by simpa using hT
            have kA : (A.2.2 == 0) = false := by simpa using hA
            have jA : (A.2.2 != 0) = true := by simpa using hA
            clear HR hH hS hL hT hA cH cS cL eT eA
            obtain ⟨a0, cap0, rfl, -⟩ := (id hl)
            go_enter Tryz.func76, Tryz.ntmps76
            go_wp2_with (first | (go_at_call 52; refine (HM _).out.mono ?_; rintro e wn ⟨rfl, rfl⟩) | (go_at_call 51; refine (hid (rAlone_any _ _)).out.mono ?_; rintro e wn ⟨rfl, hb⟩; replace hF := (hF.alloc _).step hb; clear hb; clear x1l x1h; replace hF := hF.push m m rfl; have x0l := (hF.at 0 rfl).lo; have x0h := (hF.at 0 rfl).hi) | (go_at_call 50; refine (HH _ (hF.li hl)).out.mono ?_; rintro e wn ⟨rfl, hb⟩; replace hF := hF.step hb; clear hb; clear x0l x0h; replace hF := ((hF.push H.1 H.2.1 rfl).push 0 0 (b := wn.heap.size + 1) (by simp)).push 0 0 (b := wn.heap.size + 1 + 1) (by simp); have x5l := (hF.at 5 rfl).lo; have x5h := (hF.at 5 rfl).hi) | (go_at_call 48; refine (HS _ (hF.li hl)).out.mono ?_; rintro e wn ⟨rfl, hb⟩; replace hF := hF.step hb; clear hb; clear x5l x5h; have y1 := (hF.at 1 rfl).fl; have y2 := (hF.at 1 rfl).fh; have y3 := (hF.at 1 rfl).lo; have y4 := (hF.at 1 rfl).hi; replace hF := hF.put 1 rfl S.1 S.2.1 rfl; have x3l := (hF.at 3 rfl).lo; have x3h := (hF.at 3 rfl).hi; have x5l := (hF.at 5 rfl).lo; have x5h := (hF.at 5 rfl).hi) | (go_at_call 18; refine (HL _).out.mono ?_; rintro e wn ⟨rfl, hb⟩; replace hF := hF.step hb; clear hb; clear x5l x5h x3l x3h; have y1 := (hF.at 0 rfl).fl; have y2 := (hF.at 0 rfl).fh; have y3 := (hF.at 0 rfl).lo; have y4 := (hF.at 0 rfl).hi; replace hF := hF.put 0 rfl L.1 L.2.1 rfl; have x0l := (hF.at 0 rfl).lo; have x0h := (hF.at 0 rfl).hi; have x1l := (hF.at 1 rfl).lo; have x1h := (hF.at 1 rfl).hi) | (go_at_call 19; refine (HT _).out.mono ?_; rintro e wn ⟨rfl, hb⟩; replace hF := hF.step hb; clear hb; clear x0l x0h x1l x1h; have y1 := (hF.at 1 rfl).fl; have y2 := (hF.at 1 rfl).fh; have y3 := (hF.at 1 rfl).lo; have y4 := (hF.at 1 rfl).hi; replace hF := hF.put 1 rfl T.1 T.2.1 rfl; have x1l := (hF.at 1 rfl).lo; have x1h := (hF.at 1 rfl).hi; have x2l := (hF.at 2 rfl).lo; have x2h := (hF.at 2 rfl).hi) | (go_at_call 17; refine (HA _).out.mono ?_; rintro e wn ⟨rfl, hb⟩; replace hF := hF.step hb; clear hb; clear x1l x1h x2l x2h; have y1 := (hF.at 2 rfl).fl; have y2 := (hF.at 2 rfl).fh; have y3 := (hF.at 2 rfl).lo; have y4 := (hF.at 2 rfl).hi; replace hF := hF.put 2 rfl A.1 A.2.1 rfl; have s1 := (hF.at 4 rfl).fl; have s2 := (hF.at 4 rfl).fh; have s3 := (hF.at 4 rfl).lo; have s4 := (hF.at 4 rfl).hi; have y6 := (hF.at 4 rfl).r0; have y7 := (hF.at 4 rfl).r1))
            refine bodyPost_ret (by simp [results, Tryz.results76, go_sem, y6, y7]; try rfl) rfl ?_
            rw [HX.out]
            exact ⟨rfl, (hF.put 4 rfl _ _ rfl).below⟩
        · have HX : Hid (R = (0, 0, T.2.2)) := by rw [HR.out, if_pos hH, if_pos hS, if_pos hL, if_neg hT]; rfl
          have HT := fun w => hid (rTimes_um S.1 S.2.1 L.1 L.2.1 w (Um.chk_ok.1 (cS hS)).1 (Um.chk_ok.1 (cS hS)).2.1 (Um.chk_ok.1 (cL hL)).1 (Um.chk_ok.1 (cL hL)).2.1)
          rw [eT] at HT
          have kH : (H.2.2 == 0) = true := by simpa using hH
          have jH : (H.2.2 != 0) = false := by simpa using hH
          have kS : (S.2.2 == 0) = true := by simpa using hS
          have jS : (S.2.2 != 0) = false := by simpa using hS
          have kL : (L.2.2 == 0) = true := by simpa using hL
          have jL : (L.2.2 != 0) = false := by simpa using hL
          have kT : (T.2.2 == 0) = false := by simpa using hT
          have jT : (T.2.2 != 0) = true := by simpa using hT
          clear HR hH hS hL hT cH cS cL eT eA
          obtain ⟨a0, cap0, rfl, -⟩ := (id hl)
          go_enter Tryz.func76, Tryz.ntmps76
          go_wp2_with (first | (go_at_call 52; refine (HM _).out.mono ?_; rintro e wn ⟨rfl, rfl⟩) | (go_at_call 51; refine (hid (rAlone_any _ _)).out.mono ?_; rintro e wn ⟨rfl, hb⟩; replace hF := (hF.alloc _).step hb; clear hb; clear x1l x1h; replace hF := hF.push m m rfl; have x0l := (hF.at 0 rfl).lo; have x0h := (hF.at 0 rfl).hi) | (go_at_call 50; refine (HH _ (hF.li hl)).out.mono ?_; rintro e wn ⟨rfl, hb⟩; replace hF := hF.step hb; clear hb; clear x0l x0h; replace hF := ((hF.push H.1 H.2.1 rfl).push 0 0 (b := wn.heap.size + 1) (by simp)).push 0 0 (b := wn.heap.size + 1 + 1) (by simp); have x5l := (hF.at 5 rfl).lo; have x5h := (hF.at 5 rfl).hi) | (go_at_call 48; refine (HS _ (hF.li hl)).out.mono ?_; rintro e wn ⟨rfl, hb⟩; replace hF := hF.step hb; clear hb; clear x5l x5h; have y1 := (hF.at 1 rfl).fl; have y2 := (hF.at 1 rfl).fh; have y3 := (hF.at 1 rfl).lo; have y4 := (hF.at 1 rfl).hi; replace hF := hF.put 1 rfl S.1 S.2.1 rfl; have x3l := (hF.at 3 rfl).lo; have x3h := (hF.at 3 rfl).hi; have x5l := (hF.at 5 rfl).lo; have x5h := (hF.at 5 rfl).hi) | (go_at_call 18; refine (HL _).out.mono ?_; rintro e wn ⟨rfl, hb⟩; replace hF := hF.step hb; clear hb; clear x5l x5h x3l x3h; have y1 := (hF.at 0 rfl).fl; have y2 := (hF.at 0 rfl).fh; have y3 := (hF.at 0 rfl).lo; have y4 := (hF.at 0 rfl).hi; replace hF := hF.put 0 rfl L.1 L.2.1 rfl; have x0l := (hF.at 0 rfl).lo; have x0h := (hF.at 0 rfl).hi; have x1l := (hF.at 1 rfl).lo; have x1h := (hF.at 1 rfl).hi) | (go_at_call 19; refine (HT _).out.mono ?_; rintro e wn ⟨rfl, hb⟩; replace hF := hF.step hb; clear hb; clear x0l x0h x1l x1h; have y1 := (hF.at 1 rfl).fl; have y2 := (hF.at 1 rfl).fh; have y3 := (hF.at 1 rfl).lo; have y4 := (hF.at 1 rfl).hi; replace hF := hF.put 1 rfl T.1 T.2.1 rfl; have s1 := (hF.at 4 rfl).fl; have s2 := (hF.at 4 rfl).fh; have s3 := (hF.at 4 rfl).lo; have s4 := (hF.at 4 rfl).hi; have y6 := (hF.at 4 rfl).r0; have y7 := (hF.at 4 rfl).r1))
          refine bodyPost_ret (by simp [results, Tryz.results76, go_sem, y6, y7]; try rfl) rfl ?_
          rw [HX.out]
          exact ⟨rfl, (hF.put 4 rfl _ _ rfl).below⟩
      · have HX : Hid (R = (0, 0, L.2.2)) := by rw [HR.out, if_pos hH, if_pos hS, if_neg hL]; rfl
        have kH : (H.2.2 == 0) = true := by simpa using hH
        have jH : (H.2.2 != 0) = false := by simpa using hH
        have kS : (S.2.2 == 0) = true := by simpa using hS
        have jS : (S.2.2 != 0) = false := by simpa using hS
        have kL : (L.2.2 == 0) = false := by simpa using hL
        have jL : (L.2.2 != 0) = true := by simpa using hL
        clear HR hH hS hL cH cS cL eT eA
        obtain ⟨a0, cap0, rfl, -⟩ := (id hl)
        go_enter Tryz.func76, Tryz.ntmps76
        go_wp2_with (first | (go_at_call 52; refine (HM _).out.mono ?_; rintro e wn ⟨rfl, rfl⟩) | (go_at_call 51; refine (hid (rAlone_any _ _)).out.mono ?_; rintro e wn ⟨rfl, hb⟩; replace hF := (hF.alloc _).step hb; clear hb; clear x1l x1h; replace hF := hF.push m m rfl; have x0l := (hF.at 0 rfl).lo; have x0h := (hF.at 0 rfl).hi) | (go_at_call 50; refine (HH _ (hF.li hl)).out.mono ?_; rintro e wn ⟨rfl, hb⟩; replace hF := hF.step hb; clear hb; clear x0l x0h; replace hF := ((hF.push H.1 H.2.1 rfl).push 0 0 (b := wn.heap.size + 1) (by simp)).push 0 0 (b := wn.heap.size + 1 + 1) (by simp); have x5l := (hF.at 5 rfl).lo; have x5h := (hF.at 5 rfl).hi) | (go_at_call 48; refine (HS _ (hF.li hl)).out.mono ?_; rintro e wn ⟨rfl, hb⟩; replace hF := hF.step hb; clear hb; clear x5l x5h; have y1 := (hF.at 1 rfl).fl; have y2 := (hF.at 1 rfl).fh; have y3 := (hF.at 1 rfl).lo; have y4 := (hF.at 1 rfl).hi; replace hF := hF.put 1 rfl S.1 S.2.1 rfl; have x3l := (hF.at 3 rfl).lo; have x3h := (hF.at 3 rfl).hi; have x5l := (hF.at 5 rfl).lo; have x5h := (hF.at 5 rfl).hi) | (go_at_call 18; refine (HL _).out.mono ?_; rintro e wn ⟨rfl, hb⟩; replace hF := hF.step hb; clear hb; clear x5l x5h x3l x3h; have y1 := (hF.at 0 rfl).fl; have y2 := (hF.at 0 rfl).fh; have y3 := (hF.at 0 rfl).lo; have y4 := (hF.at 0 rfl).hi; replace hF := hF.put 0 rfl L.1 L.2.1 rfl; have s1 := (hF.at 4 rfl).fl; have s2 := (hF.at 4 rfl).fh; have s3 := (hF.at 4 rfl).lo; have s4 := (hF.at 4 rfl).hi; have y6 := (hF.at 4 rfl).r0; have y7 := (hF.at 4 rfl).r1))
        refine bodyPost_ret (by simp [results, Tryz.results76, go_sem, y6, y7]; try rfl) rfl ?_
        rw [HX.out]
        exact ⟨rfl, (hF.put 4 rfl _ _ rfl).below⟩
    · have HX : Hid (R = (0, 0, S.2.2)) := by rw [HR.out, if_pos hH, if_neg hS]; rfl
      have kH : (H.2.2 == 0) = true := by simpa using hH
      have jH : (H.2.2 != 0) = false := by simpa using hH
      have kS : (S.2.2 == 0) = false := by simpa using hS
      have jS : (S.2.2 != 0) = true := by simpa using hS
      clear HR hH hS cH cS cL eT eA
      obtain ⟨a0, cap0, rfl, -⟩ := (id hl)
      go_enter Tryz.func76, Tryz.ntmps76
      go_wp2_with (first | (go_at_call 52; refine (HM _).out.mono ?_; rintro e wn ⟨rfl, rfl⟩) | (go_at_call 51; refine (hid (rAlone_any _ _)).out.mono ?_; rintro e wn ⟨rfl, hb⟩; replace hF := (hF.alloc _).step hb; clear hb; clear x1l x1h; replace hF := hF.push m m rfl; have x0l := (hF.at 0 rfl).lo; have x0h := (hF.at 0 rfl).hi) | (go_at_call 50; refine (HH _ (hF.li hl)).out.mono ?_; rintro e wn ⟨rfl, hb⟩; replace hF := hF.step hb; clear hb; clear x0l x0h; replace hF := ((hF.push H.1 H.2.1 rfl).push 0 0 (b := wn.heap.size + 1) (by simp)).push 0 0 (b := wn.heap.size + 1 + 1) (by simp); have x5l := (hF.at 5 rfl).lo; have x5h := (hF.at 5 rfl).hi) | (go_at_call 48; refine (HS _ (hF.li hl)).out.mono ?_; rintro e wn ⟨rfl, hb⟩; replace hF := hF.step hb; clear hb; clear x5l x5h; have y1 := (hF.at 1 rfl).fl; have y2 := (hF.at 1 rfl).fh; have y3 := (hF.at 1 rfl).lo; have y4 := (hF.at 1 rfl).hi; replace hF := hF.put 1 rfl S.1 S.2.1 rfl; have s1 := (hF.at 4 rfl).fl; have s2 := (hF.at 4 rfl).fh; have s3 := (hF.at 4 rfl).lo; have s4 := (hF.at 4 rfl).hi; have y6 := (hF.at 4 rfl).r0; have y7 := (hF.at 4 rfl).r1))
      refine bodyPost_ret (by simp [results, Tryz.results76, go_sem, y6, y7]; try rfl) rfl ?_
      rw [HX.out]
      exact ⟨rfl, (hF.put 4 rfl _ _ rfl).below⟩
  · have HX : Hid (R = (0, 0, H.2.2)) := by rw [HR.out, if_neg hH]; rfl
    have kH : (H.2.2 == 0) = false := by simpa using hH
    have jH : (H.2.2 != 0) = true := by simpa using hH
    clear HR hH cH cS cL eT eA
    obtain ⟨a0, cap0, rfl, -⟩ := (id hl)
    go_enter Tryz.func76, Tryz.ntmps76
    go_wp2_with (first | (go_at_call 52; refine (HM _).out.mono ?_; rintro e wn ⟨rfl, rfl⟩) | (go_at_call 51; refine (hid (rAlone_any _ _)).out.mono ?_; rintro e wn ⟨rfl, hb⟩; replace hF := (hF.alloc _).step hb; clear hb; clear x1l x1h; replace hF := hF.push m m rfl; have x0l := (hF.at 0 rfl).lo; have x0h := (hF.at 0 rfl).hi) | (go_at_call 50; refine (HH _ (hF.li hl)).out.mono ?_; rintro e wn ⟨rfl, hb⟩; replace hF := hF.step hb; clear hb; clear x0l x0h; replace hF := ((hF.push H.1 H.2.1 rfl).push 0 0 (b := wn.heap.size + 1) (by simp)).push 0 0 (b := wn.heap.size + 1 + 1) (by simp); have y1 := (hF.at 4 rfl).fl; have y2 := (hF.at 4 rfl).fh; have y3 := (hF.at 4 rfl).lo; have y4 := (hF.at 4 rfl).hi; have y6 := (hF.at 4 rfl).r0; have y7 := (hF.at 4 rfl).r1))
    refine bodyPost_ret (by simp [results, Tryz.results76, go_sem, y6, y7]; try rfl) rfl ?_
    rw [HX.out]
    exact ⟨rfl, (hF.put 4 rfl _ _ rfl).below⟩

theorem best_ref {p : List Int} {lo hi : Int} (ho : Um.over p lo hi = 0) {H P C M N : Int × Int × Int} (eH : Um.hornR lo hi p = H) (eP : Um.powsN lo hi p p.length = P) (eC : Um.centR lo hi p = C) (eM : Um.meetR H.1 H.2.1 P.1 P.2.1 = M) (eN : Um.meetR M.1 M.2.1 C.1 C.2.1 = N) :
    (Um.bestR lo hi p = if H.2.2 = 0 then (if P.2.2 = 0 then (if C.2.2 = 0 then (N.1, N.2.1, 0) else (0, 0, C.2.2)) else (0, 0, P.2.2)) else (0, 0, H.2.2)) ∧ (H.2.2 = 0 → P.2.2 = 0 → M.2.2 = 0 ∧ (C.2.2 = 0 → N.2.2 = 0)) := by
  have fH := Um.horn_fault lo hi p
  have fP := Um.pows_fault lo hi p p.length
  have fC := Um.cent_fault lo hi p
  have bm := Um.best_meets (p := p) ho
  unfold Um.bestR
  rw [eH] at fH bm ⊢
  rw [eP] at fP bm ⊢
  rw [eC] at fC bm ⊢
  by_cases h1 : H.2.2 = 0
  · rw [if_pos h1, if_pos h1]
    by_cases h2 : P.2.2 = 0
    · rw [if_pos h2, if_pos h2]
      obtain ⟨m1, m2⟩ := bm h1 h2
      rw [Um.meet_yes m1] at eM
      subst eM
      by_cases h3 : C.2.2 = 0
      · rw [if_pos h3, if_pos h3]
        rw [Um.meet_yes (m2 h3)] at eN
        subst eN
        exact ⟨rfl, fun _ _ => ⟨rfl, fun _ => rfl⟩⟩
      · rw [if_neg h3, if_neg h3]
        exact ⟨by rw [fC.resolve_left h3], fun _ _ => ⟨rfl, fun h => absurd h h3⟩⟩
    · rw [if_neg h2, if_neg h2]
      exact ⟨by rw [fP.resolve_left h2], fun _ h => absurd h h2⟩
  · rw [if_neg h1, if_neg h1]
    exact ⟨by rw [fH.resolve_left h1], fun h => absurd h h1⟩

set_option maxRecDepth 100000 in
set_option maxHeartbeats 8000000 in
theorem rBest_any (p : List Int) (v : Value) (lo hi : Int) (w : World) (hl : Li w.heap.size w v p) (ho : Um.over p lo hi = 0) :
    Calls Tryz.prog 47 #[v, .agg #[.int .i64 lo, .int .i64 hi]] w fun e w' => e = .returned (.tuple #[.agg #[.int .i64 (Um.bestR lo hi p).1, .int .i64 (Um.bestR lo hi p).2.1], .int .i64 (Um.bestR lo hi p).2.2]) ∧ Below w.heap.size w w' := by
  have HH := fun w hl => hid (rHorner_any p v lo hi w hl ho)
  have HP := fun w hl => hid (rPowers_any p v lo hi w hl ho)
  have HC := fun w hl => hid (rCenter_any p v lo hi w hl ho)
  have hF := Fr.two w lo hi
  have x1l := (hF.at 1 rfl).lo
  have x1h := (hF.at 1 rfl).hi
  obtain ⟨M, eM⟩ : ∃ M, Um.meetR (Um.hornR lo hi p).1 (Um.hornR lo hi p).2.1 (Um.powsN lo hi p p.length).1 (Um.powsN lo hi p p.length).2.1 = M := ⟨_, rfl⟩
  obtain ⟨N, eN⟩ : ∃ N, Um.meetR M.1 M.2.1 (Um.centR lo hi p).1 (Um.centR lo hi p).2.1 = N := ⟨_, rfl⟩
  have HM := fun w => hid (rMeet_any (Um.hornR lo hi p).1 (Um.hornR lo hi p).2.1 (Um.powsN lo hi p p.length).1 (Um.powsN lo hi p p.length).2.1 w)
  have HN := fun w => hid (rMeet_any M.1 M.2.1 (Um.centR lo hi p).1 (Um.centR lo hi p).2.1 w)
  obtain ⟨hR, hMN⟩ := best_ref ho rfl rfl rfl eM eN
  have HR := hid hR
  rw [eM] at HM
  rw [eN] at HN
  clear ho hR eM eN
  generalize Um.bestR lo hi p = R at *
  generalize Um.hornR lo hi p = H at *
  generalize Um.powsN lo hi p p.length = P at *
  generalize Um.centR lo hi p = C at *
  by_cases hH : H.2.2 = 0
  · by_cases hP : P.2.2 = 0
    · obtain ⟨hM, hCN⟩ := hMN hH hP
      clear hMN
      by_cases hC : C.2.2 = 0
      · have hN := hCN hC
        clear hCN
        have HX : Hid (R = (N.1, N.2.1, 0)) := by rw [HR.out, if_pos hH, if_pos hP, if_pos hC]; rfl
        have kH : (H.2.2 == 0) = true := by simpa using hH
        have jH : (H.2.2 != 0) = false := by simpa using hH
        have kP : (P.2.2 == 0) = true := by simpa using hP
        have jP : (P.2.2 != 0) = false := by simpa using hP
        have kM : (M.2.2 == 0) = true := by simpa using hM
        have jM : (M.2.2 != 0) = false := by simpa using hM
        have kC : (C.2.2 == 0) = true := by simpa using hC
        have jC : (C.2.2 != 0) = false := by simpa using hC
        have kN : (N.2.2 == 0) = true := by simpa using hN
        have jN : (N.2.2 != 0) = false := by simpa using hN
        clear hH hP hM hC hN HR
        obtain ⟨a0, cap0, rfl, -⟩ := (id hl)
        go_enter Tryz.func47, Tryz.ntmps47
        go_wp2_with (first | (go_at_call 50; refine (HH _ (hF.li hl)).out.mono ?_; rintro e wn ⟨rfl, hb⟩; replace hF := hF.step hb; clear hb; clear x1l x1h; replace hF := ((hF.push H.1 H.2.1 rfl).push 0 0 (b := wn.heap.size + 1) (by simp)).push 0 0 (b := wn.heap.size + 1 + 1) (by simp); have x4l := (hF.at 4 rfl).lo; have x4h := (hF.at 4 rfl).hi) | (go_at_call 75; refine (HP _ (hF.li hl)).out.mono ?_; rintro e wn ⟨rfl, hb⟩; replace hF := hF.step hb; clear hb; clear x4l x4h; have y1 := (hF.at 1 rfl).fl; have y2 := (hF.at 1 rfl).fh; have y3 := (hF.at 1 rfl).lo; have y4 := (hF.at 1 rfl).hi; replace hF := hF.put 1 rfl P.1 P.2.1 rfl; have x1l := (hF.at 1 rfl).lo; have x1h := (hF.at 1 rfl).hi; have x2l := (hF.at 2 rfl).lo; have x2h := (hF.at 2 rfl).hi) | (go_at_call 21; refine (HM _).out.mono ?_; rintro e wn ⟨rfl, hb⟩; replace hF := hF.step hb; clear hb; clear x1l x1h x2l x2h; clear HM; have y1 := (hF.at 2 rfl).fl; have y2 := (hF.at 2 rfl).fh; have y3 := (hF.at 2 rfl).lo; have y4 := (hF.at 2 rfl).hi; replace hF := hF.put 2 rfl M.1 M.2.1 rfl; have x4l := (hF.at 4 rfl).lo; have x4h := (hF.at 4 rfl).hi) | (go_at_call 76; refine (HC _ (hF.li hl)).out.mono ?_; rintro e wn ⟨rfl, hb⟩; replace hF := hF.step hb; clear hb; clear x4l x4h; have y1 := (hF.at 0 rfl).fl; have y2 := (hF.at 0 rfl).fh; have y3 := (hF.at 0 rfl).lo; have y4 := (hF.at 0 rfl).hi; replace hF := hF.put 0 rfl C.1 C.2.1 rfl; have x0l := (hF.at 0 rfl).lo; have x0h := (hF.at 0 rfl).hi; have x2l := (hF.at 2 rfl).lo; have x2h := (hF.at 2 rfl).hi) | (go_at_call 21; refine (HN _).out.mono ?_; rintro e wn ⟨rfl, hb⟩; replace hF := hF.step hb; clear hb; clear x0l x0h x2l x2h; have y1 := (hF.at 2 rfl).fl; have y2 := (hF.at 2 rfl).fh; have y3 := (hF.at 2 rfl).lo; have y4 := (hF.at 2 rfl).hi; replace hF := hF.put 2 rfl N.1 N.2.1 rfl; have x2l := (hF.at 2 rfl).lo; have x2h := (hF.at 2 rfl).hi; have s1 := (hF.at 3 rfl).fl; have s2 := (hF.at 3 rfl).fh; have s3 := (hF.at 3 rfl).lo; have s4 := (hF.at 3 rfl).hi; have y6 := (hF.at 3 rfl).r0; have y7 := (hF.at 3 rfl).r1))
        refine bodyPost_ret (by simp [results, Tryz.results47, go_sem, y6, y7]; try rfl) rfl ?_
        rw [HX.out]
        exact ⟨rfl, (hF.put 3 rfl _ _ rfl).below⟩
      · clear hCN HN
        have HX : Hid (R = (0, 0, C.2.2)) := by rw [HR.out, if_pos hH, if_pos hP, if_neg hC]; rfl
        have kH : (H.2.2 == 0) = true := by simpa using hH
        have jH : (H.2.2 != 0) = false := by simpa using hH
        have kP : (P.2.2 == 0) = true := by simpa using hP
        have jP : (P.2.2 != 0) = false := by simpa using hP
        have kM : (M.2.2 == 0) = true := by simpa using hM
        have jM : (M.2.2 != 0) = false := by simpa using hM
        have kC : (C.2.2 == 0) = false := by simpa using hC
        have jC : (C.2.2 != 0) = true := by simpa using hC
        clear hH hP hM hC HR
        obtain ⟨a0, cap0, rfl, -⟩ := (id hl)
        go_enter Tryz.func47, Tryz.ntmps47
        go_wp2_with (first | (go_at_call 50; refine (HH _ (hF.li hl)).out.mono ?_; rintro e wn ⟨rfl, hb⟩; replace hF := hF.step hb; clear hb; clear x1l x1h; replace hF := ((hF.push H.1 H.2.1 rfl).push 0 0 (b := wn.heap.size + 1) (by simp)).push 0 0 (b := wn.heap.size + 1 + 1) (by simp); have x4l := (hF.at 4 rfl).lo; have x4h := (hF.at 4 rfl).hi) | (go_at_call 75; refine (HP _ (hF.li hl)).out.mono ?_; rintro e wn ⟨rfl, hb⟩; replace hF := hF.step hb; clear hb; clear x4l x4h; have y1 := (hF.at 1 rfl).fl; have y2 := (hF.at 1 rfl).fh; have y3 := (hF.at 1 rfl).lo; have y4 := (hF.at 1 rfl).hi; replace hF := hF.put 1 rfl P.1 P.2.1 rfl; have x1l := (hF.at 1 rfl).lo; have x1h := (hF.at 1 rfl).hi; have x2l := (hF.at 2 rfl).lo; have x2h := (hF.at 2 rfl).hi) | (go_at_call 21; refine (HM _).out.mono ?_; rintro e wn ⟨rfl, hb⟩; replace hF := hF.step hb; clear hb; clear x1l x1h x2l x2h; clear HM; have y1 := (hF.at 2 rfl).fl; have y2 := (hF.at 2 rfl).fh; have y3 := (hF.at 2 rfl).lo; have y4 := (hF.at 2 rfl).hi; replace hF := hF.put 2 rfl M.1 M.2.1 rfl; have x4l := (hF.at 4 rfl).lo; have x4h := (hF.at 4 rfl).hi) | (go_at_call 76; refine (HC _ (hF.li hl)).out.mono ?_; rintro e wn ⟨rfl, hb⟩; replace hF := hF.step hb; clear hb; clear x4l x4h; have y1 := (hF.at 0 rfl).fl; have y2 := (hF.at 0 rfl).fh; have y3 := (hF.at 0 rfl).lo; have y4 := (hF.at 0 rfl).hi; replace hF := hF.put 0 rfl C.1 C.2.1 rfl; have s1 := (hF.at 3 rfl).fl; have s2 := (hF.at 3 rfl).fh; have s3 := (hF.at 3 rfl).lo; have s4 := (hF.at 3 rfl).hi; have y6 := (hF.at 3 rfl).r0; have y7 := (hF.at 3 rfl).r1))
        refine bodyPost_ret (by simp [results, Tryz.results47, go_sem, y6, y7]; try rfl) rfl ?_
        rw [HX.out]
        exact ⟨rfl, (hF.put 3 rfl _ _ rfl).below⟩
    · clear hMN
      have HX : Hid (R = (0, 0, P.2.2)) := by rw [HR.out, if_pos hH, if_neg hP]; rfl
      have kH : (H.2.2 == 0) = true := by simpa using hH
      have jH : (H.2.2 != 0) = false := by simpa using hH
      have kP : (P.2.2 == 0) = false := by simpa using hP
      have jP : (P.2.2 != 0) = true := by simpa using hP
      clear hH hP HR
      obtain ⟨a0, cap0, rfl, -⟩ := (id hl)
      go_enter Tryz.func47, Tryz.ntmps47
      go_wp2_with (first | (go_at_call 50; refine (HH _ (hF.li hl)).out.mono ?_; rintro e wn ⟨rfl, hb⟩; replace hF := hF.step hb; clear hb; clear x1l x1h; replace hF := ((hF.push H.1 H.2.1 rfl).push 0 0 (b := wn.heap.size + 1) (by simp)).push 0 0 (b := wn.heap.size + 1 + 1) (by simp); have x4l := (hF.at 4 rfl).lo; have x4h := (hF.at 4 rfl).hi) | (go_at_call 75; refine (HP _ (hF.li hl)).out.mono ?_; rintro e wn ⟨rfl, hb⟩; replace hF := hF.step hb; clear hb; clear x4l x4h; have y1 := (hF.at 1 rfl).fl; have y2 := (hF.at 1 rfl).fh; have y3 := (hF.at 1 rfl).lo; have y4 := (hF.at 1 rfl).hi; replace hF := hF.put 1 rfl P.1 P.2.1 rfl; have s1 := (hF.at 3 rfl).fl; have s2 := (hF.at 3 rfl).fh; have s3 := (hF.at 3 rfl).lo; have s4 := (hF.at 3 rfl).hi; have y6 := (hF.at 3 rfl).r0; have y7 := (hF.at 3 rfl).r1))
      refine bodyPost_ret (by simp [results, Tryz.results47, go_sem, y6, y7]; try rfl) rfl ?_
      rw [HX.out]
      exact ⟨rfl, (hF.put 3 rfl _ _ rfl).below⟩
  · clear hMN
    have HX : Hid (R = (0, 0, H.2.2)) := by rw [HR.out, if_neg hH]; rfl
    have kH : (H.2.2 == 0) = false := by simpa using hH
    have jH : (H.2.2 != 0) = true := by simpa using hH
    clear hH HR
    obtain ⟨a0, cap0, rfl, -⟩ := (id hl)
    go_enter Tryz.func47, Tryz.ntmps47
    go_wp2_with (first | (go_at_call 50; refine (HH _ (hF.li hl)).out.mono ?_; rintro e wn ⟨rfl, hb⟩; replace hF := hF.step hb; clear hb; clear x1l x1h; replace hF := ((hF.push H.1 H.2.1 rfl).push 0 0 (b := wn.heap.size + 1) (by simp)).push 0 0 (b := wn.heap.size + 1 + 1) (by simp); have y1 := (hF.at 3 rfl).fl; have y2 := (hF.at 3 rfl).fh; have y3 := (hF.at 3 rfl).lo; have y4 := (hF.at 3 rfl).hi; have y6 := (hF.at 3 rfl).r0; have y7 := (hF.at 3 rfl).r1))
    refine bodyPost_ret (by simp [results, Tryz.results47, go_sem, y6, y7]; try rfl) rfl ?_
    rw [HX.out]
    exact ⟨rfl, (hF.put 3 rfl _ _ rfl).below⟩
end Go.Proofs.YtkfalmdckmlneaaGreatDoor
namespace Go.Proofs.YtkfalmdckmlneaaGreatDoor
set_option linter.unusedSimpArgs false
open Go.RowKit

theorem rWay_any (a b : Int) (w : World) :
    Calls Tryz.prog 49 #[.agg #[.int .i64 a, .int .i64 b]] w fun e w' => e = .returned (.int .i64 (Um.wayR a b)) ∧ Below w.heap.size w w' := by
  have hF := (Fr.start w).push a b rfl
  have x0l := (hF.at 0 rfl).lo
  have x0h := (hF.at 0 rfl).hi
  rcases Um.way_cases a b with ⟨u1, e⟩ | ⟨u1, u2, e⟩ | ⟨u1, u2, e⟩
  · have t1 : decide (0 ≤ a) = true := by simpa using u1
    rw [e]
    clear u1 e
    go_enter Tryz.func49, Tryz.ntmps49
    go_wp2
    go_returns
    exact ⟨rfl, hF.below⟩
  · have t1 : decide (0 ≤ a) = false := by simpa using u1
    have t2 : decide (b ≤ 0) = true := by simpa using u2
    rw [e]
    clear u1 u2 e
    go_enter Tryz.func49, Tryz.ntmps49
    go_wp2
    go_returns
    exact ⟨rfl, hF.below⟩
  · have t1 : decide (0 ≤ a) = false := by simpa using u1
    have t2 : decide (b ≤ 0) = false := by simpa using u2
    rw [e]
    clear u1 u2 e
    go_enter Tryz.func49, Tryz.ntmps49
    go_wp2
    go_returns
    exact ⟨rfl, hF.below⟩

theorem mono_ref {p : List Int} {lo hi : Int} (ho : Um.over p lo hi = 0) {B S A C : Int × Int × Int} (eB : Um.bestR lo hi p = B) (eS : Um.slopeR lo hi p = S) (eA : Um.hornR lo lo p = A) (eC : Um.hornR hi hi p = C) :
    (¬ B.2.2 = 0 ∧ Um.monoR lo hi p = (0, 0, B.2.2)) ∨ (B.2.2 = 0 ∧ S.2.2 = 0 ∧ A.2.2 = 0 ∧ C.2.2 = 0 ∧
      ((Um.wayR S.1 S.2.1 = 0 ∧ Um.monoR lo hi p = (B.1, B.2.1, 0)) ∨ (Um.wayR S.1 S.2.1 = -1 ∧ Um.monoR lo hi p = (C.1, A.2.1, 0)) ∨ (Um.wayR S.1 S.2.1 = 1 ∧ Um.monoR lo hi p = (A.1, C.2.1, 0)))) := by
  obtain ⟨hp, hc⟩ := Um.over_ok.1 ho
  have hp' := Um.pchk_ok.1 hp
  have hle := (Um.chk_ok.1 hc).2.2
  have fB := Um.best_fault lo hi p
  unfold Um.monoR
  by_cases h : B.2.2 = 0
  · refine .inr ⟨h, ?_⟩
    rw [eB, if_pos h, eS]
    have h' : (Um.bestR lo hi p).2.2 = 0 := by rw [eB]; exact h
    have hh := (Um.best_ok h').1
    have hs := Um.best_slope h'
    have h1 := (Um.horn_in (Int.le_refl lo) (Int.le_refl lo) hle p hp'.1 hp'.2.2 hh).1
    have h2 := (Um.horn_in hle (Int.le_refl hi) (Int.le_refl hi) p hp'.1 hp'.2.2 hh).1
    have n1 : Um.endsR lo hi p = ((Um.hornR lo lo p).1, (Um.hornR hi hi p).2.1, 0) := by unfold Um.endsR; rw [if_pos h1, if_pos h2]
    have n2 : Um.endsR hi lo p = ((Um.hornR hi hi p).1, (Um.hornR lo lo p).2.1, 0) := by unfold Um.endsR; rw [if_pos h2, if_pos h1]
    rw [eA, eC] at n1
    rw [eA, eC] at n2
    rw [eS] at hs
    rw [eA] at h1
    rw [eC] at h2
    refine ⟨hs, h1, h2, ?_⟩
    rcases Um.way_cases S.1 S.2.1 with ⟨_, e⟩ | ⟨_, _, e⟩ | ⟨_, _, e⟩
    · refine .inr (.inr ⟨e, ?_⟩)
      rw [e, n1]; rfl
    · refine .inr (.inl ⟨e, ?_⟩)
      rw [e, n2]; rfl
    · refine .inl ⟨e, ?_⟩
      rw [e, if_pos rfl]; obtain ⟨x, y, z⟩ := B; simp only at h; subst h; rfl
  · refine .inl ⟨h, ?_⟩
    rw [eB] at fB ⊢
    rw [if_neg h, fB.resolve_left h]

set_option maxRecDepth 100000 in
set_option maxHeartbeats 8000000 in
theorem rRange_any (p : List Int) (v : Value) (lo hi : Int) (w : World) (hl : Li w.heap.size w v p) (ho : Um.over p lo hi = 0) :
    Calls Tryz.prog 28 #[v, .agg #[.int .i64 lo, .int .i64 hi]] w fun e w' => e = .returned (.tuple #[.agg #[.int .i64 (Um.monoR lo hi p).1, .int .i64 (Um.monoR lo hi p).2.1], .int .i64 (Um.monoR lo hi p).2.2]) ∧ Below w.heap.size w w' := by
  obtain ⟨hp, hc⟩ := Um.over_ok.1 ho
  obtain ⟨m1, m2, -⟩ := Um.chk_ok.1 hc
  have HB := fun w hl => hid (rBest_any p v lo hi w hl ho)
  have HS := fun w hl => hid (rSlope_any p v lo hi w hl ho)
  have HA := fun w hl => hid (rHorner_any p v lo lo w hl (Um.over_ok.2 ⟨hp, Um.chk_alone m1⟩))
  have HC := fun w hl => hid (rHorner_any p v hi hi w hl (Um.over_ok.2 ⟨hp, Um.chk_alone m2⟩))
  have HW := fun w => hid (rWay_any (Um.slopeR lo hi p).1 (Um.slopeR lo hi p).2.1 w)
  have hF := Fr.two w lo hi
  have x1l := (hF.at 1 rfl).lo
  have x1h := (hF.at 1 rfl).hi
  have HR := mono_ref ho rfl rfl rfl rfl
  clear ho hp hc m1 m2
  generalize Um.monoR lo hi p = R at *
  generalize Um.bestR lo hi p = B at *
  generalize Um.slopeR lo hi p = S at *
  generalize Um.hornR lo lo p = A at *
  generalize Um.hornR hi hi p = C at *
  rcases HR with ⟨hB, eR⟩ | ⟨hB, hS, hA, hC, ⟨eW, eR⟩ | ⟨eW, eR⟩ | ⟨eW, eR⟩⟩
  · have HX := hid eR
    have kB : (B.2.2 == 0) = false := by simpa using hB
    have jB : (B.2.2 != 0) = true := by simpa using hB
    clear hB eR
    obtain ⟨a0, cap0, rfl, -⟩ := (id hl)
    go_enter Tryz.func28, Tryz.ntmps28
    go_wp2_with (first | (go_at_call 47; refine (HB _ (hF.li hl)).out.mono ?_; rintro e wn ⟨rfl, hb⟩; replace hF := hF.step hb; clear hb; clear x1l x1h; clear HB; replace hF := (hF.push B.1 B.2.1 rfl).push 0 0 (b := wn.heap.size + 1) (by simp); have y1 := (hF.at 2 rfl).fl; have y2 := (hF.at 2 rfl).fh; have y3 := (hF.at 2 rfl).lo; have y4 := (hF.at 2 rfl).hi; have y6 := (hF.at 2 rfl).r0; have y7 := (hF.at 2 rfl).r1))
    refine bodyPost_ret (by simp [results, Tryz.results28, go_sem, y6, y7]; try rfl) rfl ?_
    rw [HX.out]
    exact ⟨rfl, (hF.put 2 rfl _ _ rfl).below⟩
  · rw [eW] at HW
    have HX := hid eR
    have kB : (B.2.2 == 0) = true := by simpa using hB
    have jB : (B.2.2 != 0) = false := by simpa using hB
    have kS : (S.2.2 == 0) = true := by simpa using hS
    have jS : (S.2.2 != 0) = false := by simpa using hS
    have kA : (A.2.2 == 0) = true := by simpa using hA
    have jA : (A.2.2 != 0) = false := by simpa using hA
    have kC : (C.2.2 == 0) = true := by simpa using hC
    have jC : (C.2.2 != 0) = false := by simpa using hC
    clear hB hS hA hC eR eW
    obtain ⟨a0, cap0, rfl, -⟩ := (id hl)
    go_enter Tryz.func28, Tryz.ntmps28
    go_wp2_with (first | (go_at_call 47; refine (HB _ (hF.li hl)).out.mono ?_; rintro e wn ⟨rfl, hb⟩; replace hF := hF.step hb; clear hb; clear x1l x1h; clear HB; replace hF := (hF.push B.1 B.2.1 rfl).push 0 0 (b := wn.heap.size + 1) (by simp); have x3l := (hF.at 3 rfl).lo; have x3h := (hF.at 3 rfl).hi) | (go_at_call 48; refine (HS _ (hF.li hl)).out.mono ?_; rintro e wn ⟨rfl, hb⟩; replace hF := hF.step hb; clear hb; clear x3l x3h; clear HS; have y1 := (hF.at 0 rfl).fl; have y2 := (hF.at 0 rfl).fh; have y3 := (hF.at 0 rfl).lo; have y4 := (hF.at 0 rfl).hi; replace hF := hF.put 0 rfl S.1 S.2.1 rfl; have x0l := (hF.at 0 rfl).lo; have x0h := (hF.at 0 rfl).hi) | (go_at_call 49; refine (HW _).out.mono ?_; rintro e wn ⟨rfl, hb⟩; replace hF := hF.step hb; clear hb; clear x0l x0h; clear HW; have x1l := (hF.at 1 rfl).lo; have x1h := (hF.at 1 rfl).hi; have s1 := (hF.at 2 rfl).fl; have s2 := (hF.at 2 rfl).fh; have s3 := (hF.at 2 rfl).lo; have s4 := (hF.at 2 rfl).hi; have y6 := (hF.at 2 rfl).r0; have y7 := (hF.at 2 rfl).r1))
    refine bodyPost_ret (by simp [results, Tryz.results28, go_sem, y6, y7]; try rfl) rfl ?_
    rw [HX.out]
    exact ⟨rfl, (hF.put 2 rfl _ _ rfl).below⟩
  · rw [eW] at HW
    have HX := hid eR
    have kB : (B.2.2 == 0) = true := by simpa using hB
    have jB : (B.2.2 != 0) = false := by simpa using hB
    have kS : (S.2.2 == 0) = true := by simpa using hS
    have jS : (S.2.2 != 0) = false := by simpa using hS
    have kA : (A.2.2 == 0) = true := by simpa using hA
    have jA : (A.2.2 != 0) = false := by simpa using hA
    have kC : (C.2.2 == 0) = true := by simpa using hC
    have jC : (C.2.2 != 0) = false := by simpa using hC
    clear hB hS hA hC eR eW
    obtain ⟨a0, cap0, rfl, -⟩ := (id hl)
    go_enter Tryz.func28, Tryz.ntmps28
    go_wp2_with (first | (go_at_call 47; refine (HB _ (hF.li hl)).out.mono ?_; rintro e wn ⟨rfl, hb⟩; replace hF := hF.step hb; clear hb; clear x1l x1h; clear HB; replace hF := (hF.push B.1 B.2.1 rfl).push 0 0 (b := wn.heap.size + 1) (by simp); have x3l := (hF.at 3 rfl).lo; have x3h := (hF.at 3 rfl).hi) | (go_at_call 48; refine (HS _ (hF.li hl)).out.mono ?_; rintro e wn ⟨rfl, hb⟩; replace hF := hF.step hb; clear hb; clear x3l x3h; clear HS; have y1 := (hF.at 0 rfl).fl; have y2 := (hF.at 0 rfl).fh; have y3 := (hF.at 0 rfl).lo; have y4 := (hF.at 0 rfl).hi; replace hF := hF.put 0 rfl S.1 S.2.1 rfl; have x0l := (hF.at 0 rfl).lo; have x0h := (hF.at 0 rfl).hi) | (go_at_call 49; refine (HW _).out.mono ?_; rintro e wn ⟨rfl, hb⟩; replace hF := hF.step hb; clear hb; clear x0l x0h; clear HW; have x3l := (hF.at 3 rfl).lo; have x3h := (hF.at 3 rfl).hi) | (go_at_call 51; refine (rAlone_any _ _).mono ?_; rintro e wn ⟨rfl, hb⟩; replace hF := hF.step hb; clear hb; clear x3l x3h; have x3l := (hF.at 3 rfl).lo; have x3h := (hF.at 3 rfl).hi) | (go_at_call 50; refine (HA _ (hF.li hl)).out.mono ?_; rintro e wn ⟨rfl, hb⟩; replace hF := hF.step hb; clear hb; clear x3l x3h; clear HA; replace hF := hF.push A.1 A.2.1 rfl; have x4l := (hF.at 4 rfl).lo; have x4h := (hF.at 4 rfl).hi) | (go_at_call 51; refine (rAlone_any _ _).mono ?_; rintro e wn ⟨rfl, hb⟩; replace hF := hF.step hb; clear hb; clear x4l x4h; have x4l := (hF.at 4 rfl).lo; have x4h := (hF.at 4 rfl).hi) | (go_at_call 50; refine (HC _ (hF.li hl)).out.mono ?_; rintro e wn ⟨rfl, hb⟩; replace hF := hF.step hb; clear hb; clear x4l x4h; clear HC; replace hF := hF.push C.1 C.2.1 rfl; have x0l := (hF.at 0 rfl).lo; have x0h := (hF.at 0 rfl).hi; have x1l := (hF.at 1 rfl).lo; have x1h := (hF.at 1 rfl).hi; have s1 := (hF.at 4 rfl).fl; have s2 := (hF.at 4 rfl).fh; have s3 := (hF.at 4 rfl).lo; have s4 := (hF.at 4 rfl).hi; have y6 := (hF.at 4 rfl).r0; have y7 := (hF.at 4 rfl).r1))
    refine bodyPost_ret (by simp [results, Tryz.results28, go_sem, y6, y7]; try rfl) rfl ?_
    rw [HX.out]
    exact ⟨rfl, (hF.put 4 rfl _ _ rfl).below⟩
  · rw [eW] at HW
    have HX := hid eR
    have kB : (B.2.2 == 0) = true := by simpa using hB
    have jB : (B.2.2 != 0) = false := by simpa using hB
    have kS : (S.2.2 == 0) = true := by simpa using hS
    have jS : (S.2.2 != 0) = false := by simpa using hS
    have kA : (A.2.2 == 0) = true := by simpa using hA
    have jA : (A.2.2 != 0) = false := by simpa using hA
    have kC : (C.2.2 == 0) = true := by simpa using hC
    have jC : (C.2.2 != 0) = false := by simpa using hC
    clear hB hS hA hC eR eW
    obtain ⟨a0, cap0, rfl, -⟩ := (id hl)
    go_enter Tryz.func28, Tryz.ntmps28
    go_wp2_with (first | (go_at_call 47; refine (HB _ (hF.li hl)).out.mono ?_; rintro e wn ⟨rfl, hb⟩; replace hF := hF.step hb; clear hb; clear x1l x1h; clear HB; replace hF := (hF.push B.1 B.2.1 rfl).push 0 0 (b := wn.heap.size + 1) (by simp); have x3l := (hF.at 3 rfl).lo; have x3h := (hF.at 3 rfl).hi) | (go_at_call 48; refine (HS _ (hF.li hl)).out.mono ?_; rintro e wn ⟨rfl, hb⟩; replace hF := hF.step hb; clear hb; clear x3l x3h; clear HS; have y1 := (hF.at 0 rfl).fl; have y2 := (hF.at 0 rfl).fh; have y3 := (hF.at 0 rfl).lo; have y4 := (hF.at 0 rfl).hi; replace hF := hF.put 0 rfl S.1 S.2.1 rfl; have x0l := (hF.at 0 rfl).lo; have x0h := (hF.at 0 rfl).hi) | (go_at_call 49; refine (HW _).out.mono ?_; rintro e wn ⟨rfl, hb⟩; replace hF := hF.step hb; clear hb; clear x0l x0h; clear HW; have x3l := (hF.at 3 rfl).lo; have x3h := (hF.at 3 rfl).hi) | (go_at_call 51; refine (rAlone_any _ _).mono ?_; rintro e wn ⟨rfl, hb⟩; replace hF := hF.step hb; clear hb; clear x3l x3h; have x3l := (hF.at 3 rfl).lo; have x3h := (hF.at 3 rfl).hi) | (go_at_call 50; refine (HA _ (hF.li hl)).out.mono ?_; rintro e wn ⟨rfl, hb⟩; replace hF := hF.step hb; clear hb; clear x3l x3h; clear HA; replace hF := hF.push A.1 A.2.1 rfl; have x4l := (hF.at 4 rfl).lo; have x4h := (hF.at 4 rfl).hi) | (go_at_call 51; refine (rAlone_any _ _).mono ?_; rintro e wn ⟨rfl, hb⟩; replace hF := hF.step hb; clear hb; clear x4l x4h; have x4l := (hF.at 4 rfl).lo; have x4h := (hF.at 4 rfl).hi) | (go_at_call 50; refine (HC _ (hF.li hl)).out.mono ?_; rintro e wn ⟨rfl, hb⟩; replace hF := hF.step hb; clear hb; clear x4l x4h; clear HC; replace hF := hF.push C.1 C.2.1 rfl; have x0l := (hF.at 0 rfl).lo; have x0h := (hF.at 0 rfl).hi; have x1l := (hF.at 1 rfl).lo; have x1h := (hF.at 1 rfl).hi; have s1 := (hF.at 4 rfl).fl; have s2 := (hF.at 4 rfl).fh; have s3 := (hF.at 4 rfl).lo; have s4 := (hF.at 4 rfl).hi; have y6 := (hF.at 4 rfl).r0; have y7 := (hF.at 4 rfl).r1))
    refine bodyPost_ret (by simp [results, Tryz.results28, go_sem, y6, y7]; try rfl) rfl ?_
    rw [HX.out]
    exact ⟨rfl, (hF.put 4 rfl _ _ rfl).below⟩
end Go.Proofs.YtkfalmdckmlneaaGreatDoor
