/-
  The walk over 'spanlaw1.SplitHas': for all p, x, many, n it returns true.
-/
import Derived.Test.YthoiiffdigkodaaSplit
import Derived.Test.YthoiiffdigkodaaMaths
import Derived.Test.YthoiiffdigkodaaRefVal
namespace Go.Proofs.Ythoiiffdigkodaa.PsHas
set_option linter.unusedSimpArgs false
open Go.RowKit

theorem fact1 : Um.pieF 0 10 3 = 0 := by decide +kernel
theorem fact2 : Um.pieR 0 10 3 = [(0, 3), (3, 6), (6, 10)] := by decide +kernel
theorem wrapIn {x : Int} (h1 : -9223372036854775808 ≤ x) (h2 : x ≤ 9223372036854775807) : IntKind.i64.wrap x = x := by rw [IntKind.wrap_i64]; omega
theorem fr_drew {w wr : World} {l : List (Nat × Int × Int)} (h : Fr w wr l) (q : Nat) : Fr w (wr.drewN q) l := h.step (below_drewN (Below.refl _ _) q)

set_option maxRecDepth 100000 in
set_option maxHeartbeats 8000000 in
theorem walk_err (p : List Int) (v : Value) (lo hi many n : Int) (w : World) (hl : Li w.heap.size w v p) (h : ¬ Um.pieF lo hi many = 0) :
    Calls Try.prog 3 #[v, .agg #[.int .i64 lo, .int .i64 hi], .int .i64 many, .int .i64 n] w fun e w' => e = .returned (.bool true) ∧ Below w.heap.size w w' := by
  have v0 := errV_none
  have q1 := errG
  have q2 := errGn
  have q3 := errE
  have q4 := errN
  have HI0 := fun w => hid (pieces_any 0 10 3 w)
  rw [fact1, fact2] at HI0
  have HI := fun w => hid (pieces_any lo hi many w)
  have k : (Um.pieF lo hi many != 0) = true := by simpa using h
  clear h
  generalize Um.pieF lo hi many = G at *
  generalize Um.pieR lo hi many = l at *
  have hF := (Fr.start w).push lo hi rfl
  obtain ⟨ap, capp, rfl, -⟩ := (id hl)
  go_enter Try.func3, Try.ntmps3
  go_wp2_with (first | (go_at_call 7; refine (HI0 _).out.mono ?_; rintro e wn ⟨u, rfl, hs, hb⟩; replace hF := hF.step hb; clear hb; clear HI0; obtain ⟨b0, off0, cap0, rfl, hcap0, hA0⟩ := hs.open (by simp); clear hs; have z0 := hA0.hi 0 rfl (o := off0 + 1) rfl; have z1 := hA0.hi 1 rfl (o := off0 + 2 + 1) rfl; have z2 := hA0.hi 2 rfl (o := off0 + 4 + 1) rfl; have x0l := (hF.at 0 rfl).lo; have x0h := (hF.at 0 rfl).hi) | (go_at_call 7; refine (HI _).out.mono ?_; rintro e wn ⟨u, rfl, hs, hb⟩; replace hF := hF.step hb; clear hb; clear z0 z1 z2; clear x0l x0h; obtain ⟨a1, cap1, rfl, -⟩ := (id hs)))
  go_returns
  exact ⟨rfl, hF.below⟩

set_option maxRecDepth 100000 in
set_option maxHeartbeats 8000000 in
theorem walk_good (p : List Int) (v : Value) (lo hi n : Int) (m : Nat) (w : World) (hl : Li w.heap.size w v p) (hc : Um.chk lo hi = 0) (hm : m < 32) :
    Calls Try.prog 3 #[v, .agg #[.int .i64 lo, .int .i64 hi], .int .i64 ((m : Int) + 1), .int .i64 n] w fun e w' => e = .returned (.bool true) ∧ Below w.heap.size w w' := by
  have v0 := errV_none
  have q1 := errG
  have q2 := errGn
  have q3 := errE
  have q4 := errN
  have HI0 := fun w => hid (pieces_any 0 10 3 w)
  rw [fact1, fact2] at HI0
  have hle := (Um.chk_ok.1 hc).2.2
  have HI := fun w => hid (pieces_any lo hi ((m : Int) + 1) w)
  have e : Um.pieF lo hi ((m : Int) + 1) = 0 := Um.pie_ok.2 ⟨hc, by omega, by omega⟩
  rw [Um.pie_cuts e, e] at HI
  have HN : Hid (Um.cuts lo hi ((m : Int) + 1) (m + 1) ≠ []) := by
    intro e
    have := congrArg List.length e
    rw [Um.cuts_length] at this
    simp at this
  have c0 := Um.cut_zero lo hi ((m : Int) + 1)
  have c1 : Um.cutR lo hi ((m : Int) + 1) (m + 1) = hi := Um.cut_last (k := m + 1) (by omega) (by omega)
  have CG : Hid ((Um.cuts lo hi ((m : Int) + 1) (m + 1))[0]? = some (lo, Um.cutR lo hi ((m : Int) + 1) 1) ∧ (Um.cuts lo hi ((m : Int) + 1) (m + 1))[m]? = some (Um.cutR lo hi ((m : Int) + 1) m, hi)) := by
    refine ⟨?_, ?_⟩
    · rw [Um.cuts_get (by omega), c0]
    · rw [Um.cuts_get (by omega), c1]
  have CA := fun i (h : i < m + 1) => hid (Um.cuts_get (lo := lo) (hi := hi) (many := (m : Int) + 1) h)
  have CM := fun i => hid (Um.cut_mono (lo := lo) (hi := hi) (many := (m : Int) + 1) (by omega) hle (Nat.le_succ i))
  have HA := fun n => hid (Um.has_all (n := n) (m := m) hle)
  clear e c0 c1 hc hle
  have hF := (Fr.start w).push lo hi rfl
  obtain ⟨ap, capp, rfl, -⟩ := (id hl)
  go_enter Try.func3, Try.ntmps3
  go_wp2_with (first | (go_at_call 7; refine (HI0 _).out.mono ?_; rintro e wn ⟨u, rfl, hs, hb⟩; replace hF := hF.step hb; clear hb; clear HI0; obtain ⟨b0, off0, cap0, rfl, hcap0, hA0⟩ := hs.open (by simp); clear hs; have z0 := hA0.hi 0 rfl (o := off0 + 1) rfl; have z1 := hA0.hi 1 rfl (o := off0 + 2 + 1) rfl; have z2 := hA0.hi 2 rfl (o := off0 + 4 + 1) rfl; have x0l := (hF.at 0 rfl).lo; have x0h := (hF.at 0 rfl).hi) | (go_at_call 7; refine (HI _).out.mono ?_; rintro e wn ⟨u, rfl, hs, hb⟩; replace hF := hF.step hb; clear hb; clear z0 z1 z2 HI; clear x0l x0h; obtain ⟨b1, off1, cap1, rfl, hcap1, hA⟩ := hs.open HN.out; clear hs; rw [Um.cuts_length] at *; have z0 := hA.lo 0 CG.out.1 (o := off1) rfl; have z1 := hA.hi m CG.out.2 rfl; have x0l := (hF.at 0 rfl).lo; have x0h := (hF.at 0 rfl).hi))
  have t1 : decide ((m : Int) + 1 < 1) = false := decide_eq_false (by omega)
  have t2 : decide ((m : Int) < 0) = false := decide_eq_false (by omega)
  have w1 : IntKind.i64.wrap ((m : Int) + 1 - 1) = m := by rw [show (m : Int) + 1 - 1 = m by omega]; exact wrapIn (x := m) (by omega) (by omega)
  go_quiet (fail)
  go_wp2
  replace hF := fr_drew hF nq
  replace hA := hA.drewN nq
  clear z0 z1 x0l x0h hA0 CG HN t1 t2 w1
  go_loopw [13, 14] (fun u i wr => ∃ k : Nat, k ≤ m + 1 ∧ i = .int .i64 k ∧ u = .bool (Um.hasR lo hi ((m : Int) + 1) n k) ∧ Fr w wr [(w.heap.size, lo, hi)] ∧ LsAt wr b1 off1 (Um.cuts lo hi ((m : Int) + 1) (m + 1))) (fun _ i _ => m + 1 - (intOf i).toNat)
  case atStart => exact ⟨0, Nat.zero_le _, rfl, rfl, hF, hA⟩
  case round =>
    clear hF hA
    obtain ⟨k, hk, rfl, rfl, hF, hA⟩ := hrel
    by_cases hkl : k < m + 1
    · have HF := hid hF
      have HL := hid hA
      have HB := hid (Um.has_succ lo hi ((m : Int) + 1) n k)
      have hle := (CM k).out
      by_cases hk0 : k = 0
      · subst hk0
        have z0 : wr.cell? ⟨b1, off1, none⟩ = some (.int .i64 (Um.cutR lo hi ((m : Int) + 1) 0)) := hA.lo 0 (CA 0 hkl).out rfl
        have z1 : wr.cell? ⟨b1, off1 + 1, none⟩ = some (.int .i64 (Um.cutR lo hi ((m : Int) + 1) 1)) := hA.hi 0 (CA 0 hkl).out rfl
        clear hF hA HA CA CM
        have e0 : Um.hasR lo hi ((m : Int) + 1) n 0 = false := rfl
        rw [e0] at HB ⊢
        clear e0
        have eC : Um.cutR lo hi ((m : Int) + 1) (0 + 1) = Um.cutR lo hi ((m : Int) + 1) 1 := rfl
        have eD : Um.cutR lo hi ((m : Int) + 1) (Nat.succ 0) = Um.cutR lo hi ((m : Int) + 1) 1 := rfl
        rw [eC] at HB
        rw [eD] at hle
        clear eC eD
        generalize Um.cutR lo hi ((m : Int) + 1) 0 = C0 at *
        generalize Um.cutR lo hi ((m : Int) + 1) 1 = C1 at *
        have t0 : decide (C1 < C0) = false := by simpa using hle
        by_cases u1 : C0 ≤ n
        · have t1 : decide (C0 ≤ n) = true := by simpa using u1
          have t2 : decide (n < C0) = false := by simpa using u1
          by_cases u2 : n ≤ C1
          · have t3 : decide (n ≤ C1) = true := by simpa using u2
            have t4 : decide (C1 < n) = false := by simpa using u2
            rw [t1, t3] at HB
            go_wp2
            go_quiet (fail)
            go_wp2
            exact ⟨⟨0 + 1, by omega, by simp, by first | (rw [HB.out]; done) | (rw [HB.out]; simp), fr_drew HF.out _, HL.out.drewN _⟩, by simp [intOf] <;> omega⟩
          · have t3 : decide (n ≤ C1) = false := by simpa using u2
            have t4 : decide (C1 < n) = true := by simpa using u2
            rw [t1, t3] at HB
            go_wp2
            go_quiet (fail)
            go_wp2
            exact ⟨⟨0 + 1, by omega, by simp, by first | (rw [HB.out]; done) | (rw [HB.out]; simp), fr_drew HF.out _, HL.out.drewN _⟩, by simp [intOf] <;> omega⟩
        · have t1 : decide (C0 ≤ n) = false := by simpa using u1
          have t2 : decide (n < C0) = true := by simpa using u1
          rw [t1] at HB
          go_wp2
          go_quiet (fail)
          go_wp2
          exact ⟨⟨0 + 1, by omega, by simp, by first | (rw [HB.out]; done) | (rw [HB.out]; simp), fr_drew HF.out _, HL.out.drewN _⟩, by simp [intOf] <;> omega⟩
      · obtain ⟨j, rfl⟩ : ∃ j, k = j + 1 := ⟨k - 1, by omega⟩
        have z0 := hA.lo (j + 1) (CA (j + 1) hkl).out rfl
        have z1 := hA.hi (j + 1) (CA (j + 1) hkl).out rfl
        have z2 := hA.hi j (CA j (by omega)).out rfl
        clear hF hA HA CA CM
        have eD : Um.cutR lo hi ((m : Int) + 1) (Nat.succ (j + 1)) = Um.cutR lo hi ((m : Int) + 1) (j + 1 + 1) := rfl
        rw [eD] at hle
        clear eD
        generalize Um.cutR lo hi ((m : Int) + 1) (j + 1) = C0 at *
        generalize Um.cutR lo hi ((m : Int) + 1) (j + 1 + 1) = C1 at *
        have t0 : decide (C1 < C0) = false := by simpa using hle
        have t9 : decide ((0 : Int) < (j : Int) + 1) = true := decide_eq_true (by omega)
        have w1 : IntKind.i64.wrap ((j : Int) + 1 - 1) = j := by rw [show (j : Int) + 1 - 1 = j by omega]; exact wrapIn (x := j) (by omega) (by omega)
        cases hH : Um.hasR lo hi ((m : Int) + 1) n (j + 1)
        · rw [hH] at HB
          by_cases u1 : C0 ≤ n
          · have t1 : decide (C0 ≤ n) = true := by simpa using u1
            have t2 : decide (n < C0) = false := by simpa using u1
            by_cases u2 : n ≤ C1
            · have t3 : decide (n ≤ C1) = true := by simpa using u2
              have t4 : decide (C1 < n) = false := by simpa using u2
              rw [t1, t3] at HB
              go_wp2
              go_quiet (fail)
              go_wp2
              exact ⟨⟨(j + 1) + 1, by omega, by simp, by first | (rw [HB.out]; done) | (rw [HB.out]; simp), fr_drew HF.out _, HL.out.drewN _⟩, by simp [intOf] <;> omega⟩
            · have t3 : decide (n ≤ C1) = false := by simpa using u2
              have t4 : decide (C1 < n) = true := by simpa using u2
              rw [t1, t3] at HB
              go_wp2
              go_quiet (fail)
              go_wp2
              exact ⟨⟨(j + 1) + 1, by omega, by simp, by first | (rw [HB.out]; done) | (rw [HB.out]; simp), fr_drew HF.out _, HL.out.drewN _⟩, by simp [intOf] <;> omega⟩
          · have t1 : decide (C0 ≤ n) = false := by simpa using u1
            have t2 : decide (n < C0) = true := by simpa using u1
            rw [t1] at HB
            go_wp2
            go_quiet (fail)
            go_wp2
            exact ⟨⟨(j + 1) + 1, by omega, by simp, by first | (rw [HB.out]; done) | (rw [HB.out]; simp), fr_drew HF.out _, HL.out.drewN _⟩, by simp [intOf] <;> omega⟩
        · rw [hH, Bool.true_or] at HB
          go_wp2
          go_quiet (fail)
          go_wp2
          exact ⟨⟨(j + 1) + 1, by omega, by simp, by first | (rw [HB.out]; done) | (rw [HB.out]; simp), fr_drew HF.out _, HL.out.drewN _⟩, by simp [intOf] <;> omega⟩
    · obtain rfl : k = m + 1 := by omega
      have x0l := (hF.at 0 rfl).lo
      have x0h := (hF.at 0 rfl).hi
      have HV := fun w hl s1 => hid (rValue_any p (.slice ap p.length capp) n w hl s1)
      have HS := fun w hl => hid (rSmall_any p (.slice ap p.length capp) n w hl)
      have HR := fun w hl => hid (srange_any p (.slice ap p.length capp) lo hi ((m : Int) + 1) w hl)
      have HG := fun h h1 h2 => hid (Um.split_value (p := p) (lo := lo) (hi := hi) (n := n) (m := m) h h1 h2)
      clear CA CM hA
      generalize Um.splitAll p lo hi ((m : Int) + 1) = S at *
      have hH := (HA n).out
      clear HA
      by_cases n1 : lo ≤ n
      · have t1 : decide (lo ≤ n) = true := by simpa using n1
        have t1' : decide (n < lo) = false := by simpa using n1
        by_cases n2 : n ≤ hi
        · have t2 : decide (n ≤ hi) = true := by simpa using n2
          have t2' : decide (hi < n) = false := by simpa using n2
          have hB : Um.hasR lo hi ((m : Int) + 1) n (m + 1) = true := hH.2 ⟨n1, n2⟩
          rw [hB]
          cases s1 : Um.small p n
          · rw [s1] at HS
            clear hH hB s1 n1 n2 HV HG HR
            go_wp2_with (first | (go_at_call 8; refine (HS _ (hF.li hl)).out.mono ?_; rintro e wn ⟨rfl, rfl⟩))
            go_returns
            exact ⟨rfl, hF.below⟩
          · rw [s1] at HS
            by_cases hS : S.2.2 = 0
            · have k1 : (S.2.2 != 0) = false := by simpa using hS
              obtain ⟨g1, g2⟩ := (HG hS n1 n2).out
              replace HV := fun w hl => HV w hl s1
              have k2 : decide (S.1 ≤ Um.fl (Um.exN n p p.length) 1000000000000) = true := by simpa using g1
              have k3 : decide (Um.ce (Um.exN n p p.length) 1000000000000 ≤ S.2.1) = true := by simpa using g2
              clear hH hB s1 n1 n2 HG hS g1 g2
              generalize Um.fl (Um.exN n p p.length) 1000000000000 = U at *
              generalize Um.ce (Um.exN n p p.length) 1000000000000 = V at *
              go_wp2_with (first | (go_at_call 8; refine (HS _ (hF.li hl)).out.mono ?_; rintro e wn ⟨rfl, rfl⟩) | (go_at_call 9; refine (HV _ (hF.li hl)).out.mono ?_; rintro e wn ⟨rfl, rfl⟩) | (go_at_call 10; refine (HR _ (hF.li hl)).out.mono ?_; rintro e wn ⟨rfl, hb⟩; replace hF := hF.step hb; clear hb; clear x0l x0h; replace hF := hF.push S.1 S.2.1 rfl; have x0l := (hF.at 0 rfl).lo; have x0h := (hF.at 0 rfl).hi))
              go_returns
              exact ⟨rfl, hF.below⟩
            · have k1 : (S.2.2 != 0) = true := by simpa using hS
              replace HV := fun w hl => HV w hl s1
              clear hH hB s1 n1 n2 HG hS
              generalize Um.fl (Um.exN n p p.length) 1000000000000 = U at *
              generalize Um.ce (Um.exN n p p.length) 1000000000000 = V at *
              go_wp2_with (first | (go_at_call 8; refine (HS _ (hF.li hl)).out.mono ?_; rintro e wn ⟨rfl, rfl⟩) | (go_at_call 9; refine (HV _ (hF.li hl)).out.mono ?_; rintro e wn ⟨rfl, rfl⟩) | (go_at_call 10; refine (HR _ (hF.li hl)).out.mono ?_; rintro e wn ⟨rfl, hb⟩; replace hF := hF.step hb; clear hb; clear x0l x0h; replace hF := hF.push S.1 S.2.1 rfl; have x0l := (hF.at 0 rfl).lo; have x0h := (hF.at 0 rfl).hi))
              go_returns
              exact ⟨rfl, hF.below⟩
        · have t2 : decide (n ≤ hi) = false := by simpa using n2
          have t2' : decide (hi < n) = true := by simpa using n2
          have hB : Um.hasR lo hi ((m : Int) + 1) n (m + 1) = false := Bool.eq_false_iff.2 fun e => n2 (hH.1 e).2
          rw [hB]
          clear hH hB n1 n2 HV HG HR
          go_wp2_with (first | (go_at_call 8; refine (HS _ (hF.li hl)).out.mono ?_; rintro e wn ⟨rfl, rfl⟩))
          go_returns
          exact ⟨rfl, hF.below⟩
      · have t1 : decide (lo ≤ n) = false := by simpa using n1
        have t1' : decide (n < lo) = true := by simpa using n1
        have hB : Um.hasR lo hi ((m : Int) + 1) n (m + 1) = false := Bool.eq_false_iff.2 fun e => n1 (hH.1 e).1
        rw [hB]
        clear hH hB n1 HV HG HR
        go_wp2_with (first | (go_at_call 8; refine (HS _ (hF.li hl)).out.mono ?_; rintro e wn ⟨rfl, rfl⟩))
        go_returns
        exact ⟨rfl, hF.below⟩

theorem walk (p : List Int) (v : Value) (lo hi many n : Int) (w : World) (hl : Li w.heap.size w v p) :
    Calls Try.prog 3 #[v, .agg #[.int .i64 lo, .int .i64 hi], .int .i64 many, .int .i64 n] w fun e w' => e = .returned (.bool true) ∧ Below w.heap.size w w' := by
  by_cases h : Um.pieF lo hi many = 0
  · obtain ⟨hc, h1, h32⟩ := Um.pie_ok.1 h
    obtain ⟨m, rfl⟩ : ∃ m : Nat, many = (m : Int) + 1 := ⟨(many - 1).toNat, by omega⟩
    exact walk_good p v lo hi n m w hl hc (by omega)
  · exact walk_err p v lo hi many n w hl h
end Go.Proofs.Ythoiiffdigkodaa.PsHas
