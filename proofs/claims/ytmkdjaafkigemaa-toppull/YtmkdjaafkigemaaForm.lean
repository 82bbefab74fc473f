/-
  What package form answers: termAt, down of what is right, At at every argument.
-/
import Derived.Test.YtmkdjaafkigemaaFormR
namespace Go.Proofs.Ytmkdjaafkigemaa
set_option linter.unusedSimpArgs false
open Go.RowKit

theorem down_code {n d : Int} (hd : 0 < d) : Um.fl n d = if n.tmod d < 0 then n.tdiv d - 1 else n.tdiv d := by
  rw [Um.fl_pos hd]
  split
  · exact (Um.pos_down hd ‹_›).1
  · rcases (by omega : n.tmod d = 0 ∨ 0 < n.tmod d) with h | h
    · exact (Um.pos_zero hd h).1
    · exact (Um.pos_up hd h).1
theorem down_any (n d : Int) (w : World) (hd : 0 < d) (h1 : -4000000000000000000 ≤ n) (h2 : n ≤ 4000000000000000000) :
    Calls Try.prog 42 #[.int .i64 n, .int .i64 d] w fun e w' => e = .returned (.int .i64 (Um.fl n d)) ∧ w' = w := by
  have hb := Um.tdiv_le n d 4000000000000000000 h1 h2
  have hz : ¬ d = 0 := by omega
  have HF := hid (down_code (n := n) hd)
  by_cases hr : n.tmod d < 0
  · have hr' : decide (n.tmod d < 0) = true := by simpa using hr
    rw [if_pos hr] at HF
    go_enter Try.func42, Try.ntmps42
    go_wp2
    go_ret
    exact ⟨by rw [HF.out]; rfl, rfl⟩
  · have hr' : decide (n.tmod d < 0) = false := by simpa using hr
    rw [if_neg hr] at HF
    go_enter Try.func42, Try.ntmps42
    go_wp2
    go_ret
    exact ⟨by rw [HF.out]; rfl, rfl⟩
set_option maxHeartbeats 2000000 in
theorem byNot_any (t : Um.Tm) (w : World) :
    Calls Try.prog 40 #[.agg #[.int .i64 t.1, .int .i64 t.2.1, .int .i64 t.2.2.1, .int .i64 t.2.2.2]] w fun e w' => e = .returned (.bool (!Um.litB t.1)) ∧ Below w.heap.size w w' := by
  go_enter Try.func40, Try.ntmps40
  go_wp2_with (go_at_call 38; refine (inReach_any _ _).mono ?_; rintro e w1 ⟨rfl, rfl⟩)
  go_returns
  exact ⟨rfl, by go_grown⟩
/-- May each By be in At? -/
def bysB (f : List Um.Tm) : Bool := f.all fun t => Um.litB t.1
theorem bys_yes {f : List Um.Tm} (h : bysB f = true) : Um.bysP f := fun _ hi => Um.lit_iff.1 (List.all_eq_true.1 h _ (Um.tm_mem hi))
theorem bys_no {f : List Um.Tm} (h : bysB f = false) : ¬ Um.bysP f := by
  intro g
  have : bysB f = true := by
    unfold bysB
    rw [List.all_eq_true]
    intro t ht
    obtain ⟨i, hi, rfl⟩ := List.getElem_of_mem ht
    have := g i hi
    unfold Um.tm at this
    rw [List.getElem?_eq_getElem hi] at this
    exact Um.lit_iff.2 this
  rw [h] at this; cases this
set_option maxRecDepth 100000 in
set_option maxHeartbeats 4000000 in
theorem index_terms (f : List Um.Tm) (v : Value) (w : World) (hl : Lt w.heap.size w v f) (h6 : f.length ≤ 6) :
    Calls Try.prog 56 #[v, .func (.func 40) #[] #[]] w fun e w' => (∃ k : Int, e = .returned (.int .i64 k) ∧ decide (0 ≤ k) = !bysB f) ∧ Below w.heap.size w w' := by
  obtain ⟨a0, cap0, rfl, hcap, hor⟩ := hl
  have HOR := hid hor
  have hF := Fr.start w
  clear hor
  go_enter Try.func56, Try.ntmps56
  go_wp2
  go_loopw [8] (fun i wr => ∃ k : Nat, k ≤ f.length ∧ i = .int .i64 k ∧ Fr w wr [] ∧ Hid (∀ j, j < k → Um.litB (Um.tm f j).1 = true)) (fun i _ => f.length - (intOf i).toNat)
  case atStart => exact ⟨0, Nat.zero_le _, rfl, hF, fun j hj => absurd hj (Nat.not_lt_zero _)⟩
  case round =>
    clear hF
    obtain ⟨n, hn, rfl, hF, hall⟩ := hrel
    by_cases hnl : n < f.length
    · have hnn : (n : Int) < (f.length : Int) := by omega
      rcases HOR.out with e | ⟨b, off, rfl, hlt, hc⟩
      · rw [e] at hnl; simp at hnl
      have hT := (hc n hnl).keep hF.below hlt
      have z0 := hT.1
      have z1 := hT.2.1
      have z2 : wr.cell? ⟨b, off + n * 4 + 2, none⟩ = _ := hT.2.2.1
      have z3 : wr.cell? ⟨b, off + n * 4 + 3, none⟩ = _ := hT.2.2.2
      have HIN := hid (Um.tm_mem hnl)
      have HY : Hid (Um.litB (Um.tm f n).1 = true → ∀ j, j < n + 1 → Um.litB (Um.tm f j).1 = true) := by
        intro h j hj
        rcases (by omega : j < n ∨ j = n) with h2 | rfl
        · exact hall.out j h2
        · exact h
      clear hc HOR hall hT
      generalize Um.tm f n = t at *
      have HC := fun w => hid (byNot_any t w)
      cases hm : Um.litB t.1
      · have HN : Hid (bysB f = false) := by
          refine hid ?_
          unfold bysB
          rw [← Bool.not_eq_true, List.all_eq_true]
          intro h
          rw [h t HIN.out] at hm; cases hm
        rw [hm] at HC
        clear HY HIN hm
        go_wp2_with (go_at_call 40; refine (HC _).out.mono ?_; rintro e wn ⟨rfl, hb⟩; replace hF := hF.step hb; clear hb)
        go_returns
        refine ⟨⟨_, rfl, ?_⟩, hF.below⟩
        rw [HN.out]; simp
      · have HN := hid (HY.out hm)
        rw [hm] at HC
        clear HY HIN hm
        go_wp2_with (go_at_call 40; refine (HC _).out.mono ?_; rintro e wn ⟨rfl, hb⟩; replace hF := hF.step hb; clear hb)
        exact ⟨⟨n + 1, by omega, by simp, hF, HN.out⟩, by simp [intOf]; omega⟩
    · obtain rfl : n = f.length := by omega
      have HN : Hid (bysB f = true) := by
        refine hid ?_
        unfold bysB
        rw [List.all_eq_true]
        intro t ht
        obtain ⟨i, hi, rfl⟩ := List.getElem_of_mem ht
        have := hall.out i hi
        unfold Um.tm at this
        rw [List.getElem?_eq_getElem hi] at this
        exact this
      clear HOR hall
      go_wp2
      go_returns
      refine ⟨⟨_, rfl, ?_⟩, hF.below⟩
      rw [HN.out]; simp
theorem contains_terms (f : List Um.Tm) (v : Value) (w : World) (hl : Lt w.heap.size w v f) (h6 : f.length ≤ 6) :
    Calls Try.prog 39 #[v, .func (.func 40) #[] #[]] w fun e w' => e = .returned (.bool (!bysB f)) ∧ Below w.heap.size w w' := by
  have HI := fun w hl => hid (index_terms f v w hl h6)
  obtain ⟨a0, cap0, rfl, -⟩ := (id hl)
  go_enter Try.func39, Try.ntmps39
  go_wp2_with (go_at_call 56; refine (HI _ hl).out.mono ?_; rintro e w1 ⟨⟨k, rfl, hk⟩, hb⟩)
  go_returns
  rw [← hk]
  exact ⟨rfl, hb⟩
set_option maxRecDepth 100000 in
set_option maxHeartbeats 16000000 in
theorem termAt_any (t : Um.Tm) (x : List Int) (v : Value) (w : World) (hx : Li w.heap.size w v x) (ht : Um.tmP t) (hby : Um.litP t.1) (hl1 : 1 ≤ x.length) (h3 : x.length ≤ 3) (hn : ∀ i, i < x.length → Um.litP (Um.nm x i)) :
    Calls Try.prog 41 #[.agg #[.int .i64 t.1, .int .i64 t.2.1, .int .i64 t.2.2.1, .int .i64 t.2.2.2], v] w fun e w' => e = .returned (.int .i64 (Um.exT t x x.length * 1000 ^ (3 - Um.dgT t x.length))) ∧ Below w.heap.size w w' := by
  obtain ⟨b2, off2, cap2, rfl, hlt2, hc2⟩ := hx.out (by rintro rfl; simp at hl1)
  have hbw : Below w.heap.size w (w.alloc (.cells #[.int .i64 t.1, .int .i64 t.2.1, .int .i64 t.2.2.1, .int .i64 t.2.2.2] 29)) := by go_grown
  have HC2 : Hid (∀ j, j < x.length → (w.alloc (.cells #[.int .i64 t.1, .int .i64 t.2.1, .int .i64 t.2.2.1, .int .i64 t.2.2.2] 29)).cell? ⟨b2, off2 + j, none⟩ = some (.int .i64 (Um.nm x j))) := hid fun j hj => (hbw.cell (p := ⟨b2, off2 + j, none⟩) hlt2).trans (hc2 j hj)
  have hK := Blk.new w 29 #[.int .i64 t.1, .int .i64 t.2.1, .int .i64 t.2.2.1, .int .i64 t.2.2.2]
  have HT0 : Hid (∀ k, k < 3 → (w.alloc (.cells #[.int .i64 t.1, .int .i64 t.2.1, .int .i64 t.2.2.1, .int .i64 t.2.2.2] 29)).cell? ⟨w.heap.size, 1 + k, none⟩ = some (.int .i64 (Um.tmT t k))) := by
    refine hid fun k hk => ?_
    rcases (by omega : k = 0 ∨ k = 1 ∨ k = 2) with rfl | rfl | rfl
    · exact hK.cell 1 rfl
    · exact hK.cell 2 rfl
    · exact hK.cell 3 rfl
  have HDL := hid (fun k (hk : k ≤ 3) => Um.dg_le ht hk)
  have HTT := hid (fun k => Um.tm_times ht k)
  have HWB := hid (fun k j (hk : k < x.length) hj => Um.way_bound ht hby hn h3 (k := k) (j := j) hk hj)
  have HLB := hid (fun m hm => Um.last_bound hby hn (m := m) hm)
  have HBW := hid hbw
  clear ht hby hn hc2 hx hK hl1 hbw
  go_enter Try.func41, Try.ntmps41
  go_wp2
  go_loop [5, 6, 13] (fun m l i => ∃ k : Nat, k ≤ x.length ∧ i = .int .i64 k ∧ m = .int .i64 (Um.exT t x k) ∧ l = .int .i64 (3 - (Um.dgT t k : Int))) (fun _ _ i => x.length - (intOf i).toNat)
  case atStart => exact ⟨0, Nat.zero_le _, rfl, rfl, rfl⟩
  case round =>
    obtain ⟨k, hk, rfl, rfl, rfl⟩ := hrel
    by_cases hkl : k < x.length
    · have hkk : (k : Int) < (x.length : Int) := by omega
      have hk3 : (k : Int) < 3 := by omega
      have z1 := HT0.out k (by omega)
      have z2 := HC2.out k hkl
      have tt := HTT.out k
      have hd := HDL.out k (by omega)
      have hd1 := HDL.out (k + 1) (by omega)
      have HE : Hid (Um.exT t x (k + 1) = Um.exT t x k * Um.nm x k ^ (Um.tmT t k).toNat) := hid rfl
      have HG : Hid (Um.dgT t (k + 1) = Um.dgT t k + (Um.tmT t k).toNat) := hid rfl
      have hd2 : Um.dgT t k + (Um.tmT t k).toNat ≤ 3 := hd1
      have HB := hid (fun j hj => HWB.out k j hkl hj)
      clear HT0 HTT HDL HWB HLB hd1 HC2
      generalize hN : Um.nm x k = N at *
      generalize hQ : Um.tmT t k = Q at *
      clear hN hQ
      obtain ⟨q, rfl⟩ : ∃ q : Nat, Q = q := ⟨Q.toNat, by omega⟩
      rw [Int.toNat_natCast] at *
      go_wp2
      go_loop [5, 6, 22] (fun m l i => ∃ j : Nat, j ≤ q ∧ i = .int .i64 j ∧ m = .int .i64 (Um.exT t x k * N ^ j) ∧ l = .int .i64 (3 - (Um.dgT t k : Int) - j)) (fun _ _ i => q - (intOf i).toNat)
      case atStart => exact ⟨0, Nat.zero_le _, rfl, by simp, by simp⟩
      case round =>
        obtain ⟨j, hj, rfl, rfl, rfl⟩ := hrel
        by_cases hjl : j < q
        · have hjj : decide ((j : Int) < (q : Int)) = true := decide_eq_true (by omega)
          have HP : Hid (Um.exT t x k * N ^ (j + 1) = Um.exT t x k * N ^ j * N) := by rw [Int.pow_succ, ← Int.mul_assoc]; exact hid rfl
          obtain ⟨w1, w2⟩ := HB.out (j + 1) (by omega)
          rw [HP.out] at w1 w2
          clear HB HE HG
          generalize Um.exT t x k * N ^ j = M at *
          go_wp2
          exact ⟨⟨j + 1, by omega, by simp, by rw [HP.out], by congr 1; omega⟩, by simp [intOf]; omega⟩
        · obtain rfl : j = q := by omega
          have hjj : decide ((j : Int) < (j : Int)) = false := decide_eq_false (by omega)
          clear HB
          go_wp2
          exact ⟨⟨k + 1, by omega, by simp, by rw [HE.out], by rw [HG.out]; congr 1; omega⟩, by simp [intOf]; omega⟩
    · obtain rfl : k = x.length := by omega
      have hd := HDL.out x.length h3
      clear HT0 HTT HDL HWB HC2
      generalize hD : Um.dgT t x.length = D at *
      generalize hX : Um.exT t x x.length = X at *
      have HDD := hid hD
      have HXX := hid hX
      clear hD hX
      go_wp2
      go_loop [5, 32] (fun m i => ∃ j : Nat, j + D ≤ 3 ∧ m = .int .i64 (X * 1000 ^ j) ∧ i = .int .i64 j) (fun _ i => 3 - (intOf i).toNat)
      case atStart => exact ⟨0, by omega, by simp, by simp⟩
      case round =>
        obtain ⟨j, hj, rfl, rfl⟩ := hrel
        by_cases hjl : j + D < 3
        · have hjj : decide ((j : Int) < 3 - (D : Int)) = true := decide_eq_true (by omega)
          have HP : Hid (X * 1000 ^ (j + 1) = X * 1000 ^ j * 1000) := by rw [Int.pow_succ, ← Int.mul_assoc]; exact hid rfl
          obtain ⟨w1, w2⟩ := HLB.out (j + 1) (by omega)
          rw [HP.out] at w1 w2
          clear HLB
          generalize X * 1000 ^ j = M at *
          go_wp2
          exact ⟨⟨j + 1, by omega, by rw [HP.out], by simp⟩, by simp [intOf]; omega⟩
        · have hjj : decide ((j : Int) < 3 - (D : Int)) = false := decide_eq_false (by omega)
          obtain rfl : j = 3 - D := by omega
          clear HLB
          generalize hM : X * 1000 ^ (3 - D) = M at *
          have HMM := hid hM
          clear hM
          go_wp2
          go_returns
          refine ⟨?_, HBW.out⟩
          rw [HXX.out, HDD.out, HMM.out]
          rfl

set_option maxRecDepth 100000 in
set_option maxHeartbeats 8000000 in
theorem fat_form (f : List Um.Tm) (u : Value) (x : List Int) (v : Value) (w : World) (hl : Lt w.heap.size w u f) (hx : Li w.heap.size w v x) (h : ¬ Um.formF f x.length = 0) :
    Calls Try.prog 26 #[u, v] w fun e w' => e = .returned (.tuple #[.int .i64 0, errV (Um.formF f x.length)]) ∧ Below w.heap.size w w' := by
  have v0 := errV_none
  have q1 := errG
  have q2 := errGn
  have q3 := errE
  have q4 := errN
  have hF := Fr.start w
  have HC := fun w hl => hid (fcheck_any f x.length u w hl)
  have k : (Um.formF f x.length != 0) = true := by simpa using h
  obtain ⟨a0, ca, rfl, -⟩ := (id hl)
  obtain ⟨b0, cb, rfl, -⟩ := (id hx)
  clear h
  generalize Um.formF f x.length = G at *
  go_enter Try.func26, Try.ntmps26
  go_wp2_with (go_at_call 28; refine (HC _ hl).out.mono ?_; rintro e wn ⟨rfl, hb⟩; replace hF := hF.step hb; replace hx := (hx.keep hb).wide hb.size; replace hl := hl.step hb; clear hb HC)
  go_returns
  exact ⟨rfl, hF.below⟩

set_option maxRecDepth 100000 in
set_option maxHeartbeats 8000000 in
theorem fat_nums (f : List Um.Tm) (u : Value) (x : List Int) (v : Value) (w : World) (hl : Lt w.heap.size w u f) (hx : Li w.heap.size w v x) (h : Um.formF f x.length = 0) (hn : x.all Um.litB = false) :
    Calls Try.prog 26 #[u, v] w fun e w' => e = .returned (.tuple #[.int .i64 0, errV 1]) ∧ Below w.heap.size w w' := by
  have v0 := errV_none
  have q1 := errG
  have q2 := errGn
  have q3 := errE
  have q4 := errN
  have hF := Fr.start w
  have HC := fun w hl => hid (fcheck_any f x.length u w hl)
  have kf : (Um.formF f x.length != 0) = false := by simpa using h
  have h3 : x.length ≤ 3 := by have := (Um.form_ok.1 h).1; omega
  have HN := fun w hx => by
    have := contains_reach x v w hx h3
    rw [hn] at this
    exact hid this
  obtain ⟨a0, ca, rfl, -⟩ := (id hl)
  obtain ⟨b0, cb, rfl, -⟩ := (id hx)
  clear h hn h3
  generalize Um.formF f x.length = G at *
  go_enter Try.func26, Try.ntmps26
  go_wp2_with (first | (go_at_call 28; refine (HC _ hl).out.mono ?_; rintro e wn ⟨rfl, hb⟩; replace hF := hF.step hb; replace hx := (hx.keep hb).wide hb.size; replace hl := hl.step hb; clear hb HC) | (go_at_call 36; refine (HN _ hx).out.mono ?_; rintro e w2 ⟨rfl, hq⟩; subst w2; clear HN))
  go_returns
  exact ⟨rfl, hF.below⟩

set_option maxRecDepth 100000 in
set_option maxHeartbeats 8000000 in
theorem fat_bys (f : List Um.Tm) (u : Value) (x : List Int) (v : Value) (w : World) (hl : Lt w.heap.size w u f) (hx : Li w.heap.size w v x) (h : Um.formF f x.length = 0) (hn : x.all Um.litB = true) (hb : bysB f = false) :
    Calls Try.prog 26 #[u, v] w fun e w' => e = .returned (.tuple #[.int .i64 0, errV 4]) ∧ Below w.heap.size w w' := by
  have v0 := errV_none
  have q1 := errG
  have q2 := errGn
  have q3 := errE
  have q4 := errN
  have hF := Fr.start w
  have HC := fun w hl => hid (fcheck_any f x.length u w hl)
  have kf : (Um.formF f x.length != 0) = false := by simpa using h
  have h3 : x.length ≤ 3 := by have := (Um.form_ok.1 h).1; omega
  have h6 := (Um.form_ok.1 h).2.1
  have HN := fun w hx => by
    have := contains_reach x v w hx h3
    rw [hn] at this
    exact hid this
  have HY := fun w hl => by
    have := contains_terms f u w hl h6
    rw [hb] at this
    exact hid this
  obtain ⟨a0, ca, rfl, -⟩ := (id hl)
  obtain ⟨b0, cb, rfl, -⟩ := (id hx)
  clear h hn h3 hb h6
  generalize Um.formF f x.length = G at *
  go_enter Try.func26, Try.ntmps26
  go_wp2_with (first | (go_at_call 28; refine (HC _ hl).out.mono ?_; rintro e wn ⟨rfl, hb⟩; replace hF := hF.step hb; replace hx := (hx.keep hb).wide hb.size; replace hl := hl.step hb; clear hb HC) | (go_at_call 36; refine (HN _ hx).out.mono ?_; rintro e w2 ⟨rfl, hq⟩; subst w2; clear HN) | (go_at_call 39; refine (HY _ hl).out.mono ?_; rintro e wn ⟨rfl, hb⟩; replace hF := hF.step hb; replace hx := (hx.keep hb).wide hb.size; replace hl := hl.step hb; clear hb HY))
  go_returns
  exact ⟨rfl, hF.below⟩

set_option maxRecDepth 100000 in
set_option maxHeartbeats 8000000 in
theorem fat_right (f : List Um.Tm) (u : Value) (x : List Int) (v : Value) (w : World) (hl : Lt w.heap.size w u f) (hx : Li w.heap.size w v x) (h : Um.formF f x.length = 0) (hn : x.all Um.litB = true) (hb : bysB f = true) :
    Calls Try.prog 26 #[u, v] w fun e w' => e = .returned (.tuple #[.int .i64 (Um.ptR f x).1, errV (Um.ptR f x).2]) ∧ Below w.heap.size w w' := by
  have v0 := errV_none
  have q1 := errG
  have q2 := errGn
  have q3 := errE
  have q4 := errN
  have hF := Fr.start w
  have HC := fun w hl => hid (fcheck_any f x.length u w hl)
  have kf : (Um.formF f x.length != 0) = false := by simpa using h
  have h3 : x.length ≤ 3 := by have := (Um.form_ok.1 h).1; omega
  have h6 := (Um.form_ok.1 h).2.1
  have l1 : 1 ≤ x.length := by have := (Um.form_ok.1 h).1; omega
  have HTM := hid (Um.fr_terms h)
  have HBY := hid (bys_yes hb)
  have hnn : ∀ i, i < x.length → Um.litP (Um.nm x i) := fun i hi => Um.lit_iff.1 (List.all_eq_true.1 hn _ (Um.at_mem hi))
  have HN := fun w hx => by
    have := contains_reach x v w hx h3
    rw [hn] at this
    exact hid this
  have HY := fun w hl => by
    have := contains_terms f u w hl h6
    rw [hb] at this
    exact hid this
  have HTT := fun t w hx ht hby => hid (termAt_any t x v w hx ht hby l1 h3 hnn)
  have HSB := fun n (hl : n ≤ f.length) => hid (Um.exs_bound HTM.out HBY.out hnn h3 (n := n) hl)
  have HPY := fun h => hid (Um.pt_yes (x := x) HBY.out h)
  have HPN := fun h => hid (Um.pt_full (x := x) HBY.out h)
  obtain ⟨b0, cb, rfl, -⟩ := (id hx)
  obtain ⟨a0, ca, rfl, -⟩ := (id hl)
  clear h hn h3 hb hnn l1
  generalize Um.formF f x.length = G at HC kf
  go_enter Try.func26, Try.ntmps26
  go_wp2_with (first | (go_at_call 28; refine (HC _ hl).out.mono ?_; rintro e wn ⟨rfl, hb⟩; replace hF := hF.step hb; replace hx := (hx.keep hb).wide hb.size; replace hl := hl.step hb; clear hb HC) | (go_at_call 36; refine (HN _ hx).out.mono ?_; rintro e w2 ⟨rfl, hq⟩; subst w2; clear HN) | (go_at_call 39; refine (HY _ hl).out.mono ?_; rintro e wn ⟨rfl, hb⟩; replace hF := hF.step hb; replace hx := (hx.keep hb).wide hb.size; replace hl := hl.step hb; clear hb HY))
  clear kf
  have HF0 := hid hF
  have hlw := hl
  have hxw := hx
  obtain ⟨a1, c1, e1, -, hor⟩ := hlw
  cases e1
  have HOR := hid hor
  clear hor hF hl
  have hF := Fr.start wn
  go_loopw [7, 26] (fun s i wr => ∃ n : Nat, n ≤ f.length ∧ i = .int .i64 n ∧ s = .int .i64 (Um.exS f x n) ∧ Fr wn wr []) (fun _ i _ => f.length - (intOf i).toNat)
  case atStart => exact ⟨0, Nat.zero_le _, rfl, rfl, hF⟩
  case round =>
    clear hF
    obtain ⟨n, hn, rfl, rfl, hF⟩ := hrel
    by_cases hnl : n < f.length
    · have hnn : (n : Int) < (f.length : Int) := by omega
      rcases HOR.out with e | ⟨b, off, rfl, hlt, hc⟩
      · rw [e] at hnl; simp at hnl
      have hT := (hc n hnl).keep hF.below hlt
      have z0 := hT.1
      have z1 := hT.2.1
      have z2 : wr.cell? ⟨b, off + n * 4 + 2, none⟩ = _ := hT.2.2.1
      have z3 : wr.cell? ⟨b, off + n * 4 + 3, none⟩ = _ := hT.2.2.2
      have HS : Hid (Um.exS f x (n + 1) = Um.exS f x n + Um.exT (Um.tm f n) x x.length * 1000 ^ (3 - Um.dgT (Um.tm f n) x.length)) := hid rfl
      obtain ⟨s1, s2⟩ := (HSB n hn).out
      obtain ⟨s3, s4⟩ := (HSB (n + 1) (by omega)).out
      rw [HS.out] at s3 s4
      have HT := fun w hx => HTT (Um.tm f n) w hx (HTM.out n hnl) (HBY.out n hnl)
      clear hc HOR HTM hT HBY HTT HSB HPY HPN
      generalize Um.tm f n = t at *
      generalize Um.exT t x x.length * 1000 ^ (3 - Um.dgT t x.length) = Y at *
      generalize Um.exS f x n = X at *
      have hK := Blk.new wr 29 #[.int .i64 t.1, .int .i64 t.2.1, .int .i64 t.2.2.1, .int .i64 t.2.2.2]
      have c0 := hK.cell 0 rfl
      have c1 := hK.cell 1 rfl
      have c2 := hK.cell 2 rfl
      have c3 := hK.cell 3 rfl
      replace hF := hF.alloc (.cells #[.int .i64 t.1, .int .i64 t.2.1, .int .i64 t.2.2.1, .int .i64 t.2.2.2] 29)
      clear hK
      go_wp2_with (go_at_call 41; refine (HT _ (hF.li hx)).out.mono ?_; rintro e wn ⟨rfl, hb⟩; replace hF := hF.step hb; clear hb; clear HT)
      exact ⟨⟨n + 1, by omega, by simp, by rw [HS.out], hF⟩, by simp [intOf]; omega⟩
    · obtain rfl : n = f.length := by omega
      obtain ⟨e1, e2⟩ := (HSB f.length (Nat.le_refl _)).out
      have HD := fun w => hid (down_any (Um.exS f x f.length) 1000000000 w (by decide) (by omega) (by omega))
      have HMy := fun n w => hid (mayBe_any n w)
      clear HOR HTM HBY HTT HSB e1 e2
      generalize Um.exS f x f.length = X at *
      generalize Um.fl X 1000000000 = N at *
      have HM := fun w => HMy N w
      clear HMy
      cases hm : Um.may N
      · have HZ := HPN (by rw [hm]; decide)
        rw [hm] at HM
        clear HPY HPN hm
        go_wp2_with (first | (go_at_call 42; refine (HD _).out.mono ?_; rintro e w9 ⟨rfl, hq⟩; subst w9) | (go_at_call 27; refine (HM _).out.mono ?_; rintro e w9 ⟨rfl, hq⟩; subst w9))
        go_returns
        rw [HZ.out]
        exact ⟨rfl, HF0.out.below.trans (hF.below.mono HF0.out.size)⟩
      · have HZ := HPY hm
        rw [hm] at HM
        clear HPY HPN hm
        go_wp2_with (first | (go_at_call 42; refine (HD _).out.mono ?_; rintro e w9 ⟨rfl, hq⟩; subst w9) | (go_at_call 27; refine (HM _).out.mono ?_; rintro e w9 ⟨rfl, hq⟩; subst w9))
        go_returns
        rw [HZ.out]
        exact ⟨rfl, HF0.out.below.trans (hF.below.mono HF0.out.size)⟩

theorem nums_all {x : List Int} (h : x.all Um.litB = true) : Um.numsF x = 0 := Um.nums_ok.2 fun _ hi => Um.lit_iff.1 (List.all_eq_true.1 h _ (Um.at_mem hi))
theorem nums_not {x : List Int} (h : x.all Um.litB = false) : Um.numsF x = 1 := by
  rcases Um.nums_fault x with e | e
  · have : x.all Um.litB = true := by
      rw [List.all_eq_true]
      intro c hc
      obtain ⟨j, hj, rfl⟩ := List.getElem_of_mem hc
      have := Um.nums_ok.1 e j hj
      unfold Um.nm at this
      rw [List.getElem?_eq_getElem hj] at this
      exact Um.lit_iff.2 this
    rw [h] at this; cases this
  · exact e
theorem fat_any (f : List Um.Tm) (u : Value) (x : List Int) (v : Value) (w : World) (hl : Lt w.heap.size w u f) (hx : Li w.heap.size w v x) :
    Calls Try.prog 26 #[u, v] w fun e w' => e = .returned (.tuple #[.int .i64 (Um.atAll f x).1, errV (Um.atAll f x).2]) ∧ Below w.heap.size w w' := by
  unfold Um.atAll
  by_cases h : Um.formF f x.length = 0
  · cases hn : x.all Um.litB
    · have e : Um.atF f x = 1 := by unfold Um.atF; rw [if_pos h, nums_not hn]
      rw [e, if_neg (by decide)]
      exact fat_nums f u x v w hl hx h hn
    · have e : Um.atF f x = 0 := by unfold Um.atF; rw [if_pos h, nums_all hn]
      rw [e, if_pos rfl]
      cases hb : bysB f
      · have e2 : Um.ptR f x = (0, 4) := by unfold Um.ptR; rw [if_neg (bys_no hb)]
        rw [e2]
        exact fat_bys f u x v w hl hx h hn hb
      · exact fat_right f u x v w hl hx h hn hb
  · have e : Um.atF f x = Um.formF f x.length := by unfold Um.atF; rw [if_neg h]
    rw [e, if_neg h]
    exact fat_form f u x v w hl hx h
end Go.Proofs.Ytmkdjaafkigemaa
