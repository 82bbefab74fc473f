/-
  What the document's answer (package spanref2) to polynomials of some unknowns is: Form, Small, Numbers at every argument; Range, Exact, Point of what is right.
-/
import Derived.Test.YtmkdjaafkigemaaDoorRefSpan
import Derived.Test.YtmkdjaafkigemaaDoorRefPow
import Derived.Test.YtmkdjaafkigemaaDoorMems2
import Derived.Test.YtmkdjaafkigemaaDoorMems
import Derived.Test.YtmkdjaafkigemaaDoorMaths3
namespace Go.Proofs.YtmkdjaafkigemaaDoor
set_option linter.unusedSimpArgs false
open Go.RowKit

set_option maxRecDepth 100000 in
set_option maxHeartbeats 8000000 in
theorem rForm_some (f : List Um.Tm) (sides : Nat) (v : Value) (w : World) (hl : Lt w.heap.size w v f) (h1 : 1 ≤ sides) (h3 : sides ≤ 3) (h6 : f.length ≤ 6) :
    Calls Tryd.prog 4 #[v, .int .i64 (sides : Int)] w fun e w' => e = .returned (.int .i64 (Um.termsF sides f)) ∧ w' = w := by
  have HMy := fun n w => hid (rMay_any n w)
  obtain ⟨a0, cap0, rfl, hcap, hor⟩ := hl
  have HOR := hid hor
  clear hor
  have t1 : decide ((sides : Int) < 1) = false := decide_eq_false (by omega)
  have t2 : decide (3 < (sides : Int)) = false := decide_eq_false (by omega)
  have t3 : decide (6 < (f.length : Int)) = false := decide_eq_false (by omega)
  go_enter Tryd.func4, Tryd.ntmps4
  go_wp2
  go_loop [5] (fun i => ∃ k : Nat, k ≤ f.length ∧ i = .int .i64 k ∧ Hid (∀ j, j < k → Um.termF (Um.tm f j) sides = 0)) (fun i => f.length - (intOf i).toNat)
  case atStart => exact ⟨0, Nat.zero_le _, rfl, fun j hj => absurd hj (Nat.not_lt_zero _)⟩
  case round =>
    obtain ⟨n, hn, rfl, hall⟩ := hrel
    by_cases hnl : n < f.length
    · have hnn : (n : Int) < (f.length : Int) := by omega
      rcases HOR.out with e | ⟨b, off, rfl, hlt, hc⟩
      · rw [e] at hnl; simp at hnl
      have hT := hc n hnl
      have z0 := hT.1
      have HX := fun h => hid (Um.terms_first hnl hall.out h)
      have HY : Hid (Um.termF (Um.tm f n) sides = 0 → ∀ j, j < n + 1 → Um.termF (Um.tm f j) sides = 0) := by
        intro h j hj
        rcases (by omega : j < n ∨ j = n) with h2 | rfl
        · exact hall.out j h2
        · exact h
      have HOL : Hid (f.length ≤ 6) := h6
      clear hc HOR hall
      generalize Um.tm f n = t at *
      have HM := fun w => HMy t.1 w
      clear HMy
      go_wp2_with (go_at_call 14; refine (HM _).out.mono ?_; rintro e wn ⟨rfl, rfl⟩; clear HM z0)
      go_loop [6, 7, 8] (fun o s i => ∃ k : Nat, k ≤ 3 ∧ i = .int .i64 k ∧ o = .bool (Um.okN t k) ∧ s = .int .i64 (Um.allN t k)) (fun _ _ i => 3 - (intOf i).toNat)
      case atStart => exact ⟨0, by decide, rfl, rfl, rfl⟩
      case round =>
        obtain ⟨k, hk, rfl, rfl, rfl⟩ := hrel
        by_cases hkl : k < 3
        · have hkk : (k : Int) < 3 := by omega
          have z1 := hT.times hkl
          obtain ⟨s1, s2⟩ := Um.all_small t k
          by_cases c1 : Um.tmT t k < 0
          · obtain ⟨e1, e2⟩ := Um.ok_out (t := t) (k := k) (by omega)
            have E1 := hid e1
            have E2 := hid e2
            clear e1 e2 hT
            have d1 : decide (Um.tmT t k < 0) = true := decide_eq_true c1
            generalize Um.allN t k = s at *
            generalize Um.okN t k = o at *
            generalize Um.tmT t k = q at *
            clear c1
            go_wp2
            exact ⟨⟨k + 1, by omega, by simp, by rw [E1.out], by rw [E2.out]⟩, by simp [intOf]; omega⟩
          · have d1 : decide (Um.tmT t k < 0) = false := decide_eq_false c1
            by_cases c2 : 3 < Um.tmT t k
            · obtain ⟨e1, e2⟩ := Um.ok_out (t := t) (k := k) (by omega)
              have E1 := hid e1
              have E2 := hid e2
              clear e1 e2 hT
              have d2 : decide (3 < Um.tmT t k) = true := decide_eq_true c2
              generalize Um.allN t k = s at *
              generalize Um.okN t k = o at *
              generalize Um.tmT t k = q at *
              clear c1 c2
              go_wp2
              exact ⟨⟨k + 1, by omega, by simp, by rw [E1.out], by rw [E2.out]⟩, by simp [intOf]; omega⟩
            · obtain ⟨e1, e2⟩ := Um.ok_in (t := t) (k := k) ⟨by omega, by omega⟩
              have E1 := hid e1
              have E2 := hid e2
              clear e1 e2 hT
              have d2 : decide (3 < Um.tmT t k) = false := decide_eq_false c2
              generalize Um.allN t k = s at *
              generalize Um.okN t k = o at *
              generalize Um.tmT t k = q at *
              go_wp2
              exact ⟨⟨k + 1, by omega, by simp, by rw [E1.out], by rw [E2.out]⟩, by simp [intOf]; omega⟩
        · obtain rfl : k = 3 := by omega
          by_cases hp : Um.okN t 3 = true ∧ Um.allN t 3 ≤ 3
          · obtain ⟨p1, p2⟩ := hp
            have HO : Hid (∀ j, sides ≤ j → j < 3 → 0 < Um.tmT t j → Um.termF t sides = 3) := fun j a c d => Um.term_over (sides := sides) (k := j) ⟨p1, p2⟩ h1 a c d
            have HR : Hid ((∀ j, sides ≤ j → j < 3 → ¬ 0 < Um.tmT t j) → Um.termF t sides = 0) := fun h => Um.term_right (sides := sides) ⟨p1, p2⟩ h
            have d1 : decide (3 < Um.allN t 3) = false := decide_eq_false (by omega)
            rw [p1]
            clear p1 p2
            generalize Um.allN t 3 = s at *
            go_wp2
            go_loop [10] (fun i => ∃ m : Nat, sides ≤ m ∧ m ≤ 3 ∧ i = .int .i64 m ∧ Hid (∀ j, sides ≤ j → j < m → ¬ 0 < Um.tmT t j)) (fun i => 3 - (intOf i).toNat)
            case atStart => exact ⟨sides, Nat.le_refl _, h3, rfl, fun j a c => by omega⟩
            case round =>
              obtain ⟨m, hm1, hm, rfl, hno⟩ := hrel
              by_cases hml : m < 3
              · have hmm : (m : Int) < 3 := by omega
                have z1 := hT.times hml
                by_cases c : 0 < Um.tmT t m
                · have HE := hid (HO.out m hm1 hml c)
                  have HF : Hid (Um.termsF sides f = 3) := by
                    have := (HX (by rw [HE.out]; decide)).out
                    rw [HE.out] at this
                    exact this
                  have d2 : decide (0 < Um.tmT t m) = true := decide_eq_true c
                  clear HO HR HX HY hT c hno HE
                  generalize Um.tmT t m = q at *
                  go_wp2
                  go_returns
                  rw [HF.out]
                  exact ⟨rfl, rfl⟩
                · have HN : Hid (∀ j, sides ≤ j → j < m + 1 → ¬ 0 < Um.tmT t j) := by
                    intro j a d
                    rcases (by omega : j < m ∨ j = m) with g | rfl
                    · exact hno.out j a g
                    · exact c
                  have d2 : decide (0 < Um.tmT t m) = false := decide_eq_false c
                  clear HO HR HX HY hT c hno
                  generalize Um.tmT t m = q at *
                  go_wp2
                  exact ⟨⟨m + 1, by omega, by omega, by simp, HN.out⟩, by simp [intOf]; omega⟩
              · obtain rfl : m = 3 := by omega
                have HE := hid (HR.out fun j a c => by have := hno.out j a c; omega)
                have HZ := hid (HY.out HE.out)
                clear HO HR HX HY hT hno HE
                go_wp2
                exact ⟨⟨n + 1, by omega, by simp, HZ.out⟩, by simp [intOf]; omega⟩
          · have HF : Hid (Um.termsF sides f = 1) := by
              have e := Um.term_bad (sides := sides) hp
              have := (HX (by rw [e]; decide)).out
              rw [e] at this
              exact this
            clear HX HY hT
            by_cases p1 : Um.okN t 3 = true
            · have d1 : decide (3 < Um.allN t 3) = true := decide_eq_true (by
                have : ¬ Um.allN t 3 ≤ 3 := fun g => hp ⟨p1, g⟩
                omega)
              rw [p1]
              clear hp p1
              generalize Um.allN t 3 = s at *
              go_wp2
              go_returns
              rw [HF.out]
              exact ⟨rfl, rfl⟩
            · rw [Bool.not_eq_true] at p1
              rw [p1]
              clear hp p1
              generalize Um.allN t 3 = s at *
              go_wp2
              go_returns
              rw [HF.out]
              exact ⟨rfl, rfl⟩
    · obtain rfl : n = f.length := by omega
      have HF : Hid (Um.termsF sides f = 0) := Um.terms_ok.2 fun t ht => by
        obtain ⟨i, hi, rfl⟩ := List.getElem_of_mem ht
        have := hall.out i hi
        unfold Um.tm at this
        rw [List.getElem?_eq_getElem hi] at this
        exact this
      clear HOR hall HMy
      go_wp2
      go_returns
      rw [HF.out]
      exact ⟨rfl, rfl⟩
set_option maxHeartbeats 2000000 in
theorem rForm_any (f : List Um.Tm) (sides : Int) (v : Value) (w : World) (hl : Lt w.heap.size w v f) :
    Calls Tryd.prog 4 #[v, .int .i64 sides] w fun e w' => e = .returned (.int .i64 (Um.formF f sides)) ∧ w' = w := by
  by_cases h : 1 ≤ sides ∧ sides ≤ 3
  · by_cases h6 : 6 < f.length
    · have e : Um.formF f sides = 4 := by unfold Um.formF; rw [if_pos h, if_pos h6]
      rw [e]
      obtain ⟨a0, cap0, rfl, -⟩ := hl
      have t1 : decide (sides < 1) = false := decide_eq_false (by omega)
      have t2 : decide (3 < sides) = false := decide_eq_false (by omega)
      have t3 : decide (6 < (f.length : Int)) = true := decide_eq_true (by omega)
      clear h h6 e
      go_enter Tryd.func4, Tryd.ntmps4
      go_wp2
      go_returns
      exact ⟨rfl, rfl⟩
    · have e : Um.formF f sides = Um.termsF sides f := by unfold Um.formF; rw [if_pos h, if_neg h6]
      rw [e]
      obtain ⟨n, rfl⟩ : ∃ n : Nat, sides = n := ⟨sides.toNat, by omega⟩
      exact rForm_some f n v w hl (by omega) (by omega) (by omega)
  · have e : Um.formF f sides = 1 := by unfold Um.formF; rw [if_neg h]
    rw [e]
    obtain ⟨a0, cap0, rfl, -⟩ := hl
    rcases (by omega : sides < 1 ∨ (¬ sides < 1 ∧ 3 < sides)) with c | ⟨c, d⟩
    · have t1 : decide (sides < 1) = true := decide_eq_true c
      clear h e c
      go_enter Tryd.func4, Tryd.ntmps4
      go_wp2
      go_returns
      exact ⟨rfl, rfl⟩
    · have t1 : decide (sides < 1) = false := decide_eq_false c
      have t2 : decide (3 < sides) = true := decide_eq_true d
      clear h e c d
      go_enter Tryd.func4, Tryd.ntmps4
      go_wp2
      go_returns
      exact ⟨rfl, rfl⟩

theorem fr_bad {f : List Um.Tm} {b : List (Int × Int)} {n : Nat} (hn : n < f.length) (h : ¬ (Um.prodN (Um.tm f n) b b.length).2.2 = 0) : Um.frR f b = (0, 0, 4) := by
  have e : Um.sumN f b (n + 1) = (0, 0, 4) := by
    rw [Um.sum_succ, if_neg h]
    split
    · rfl
    · rfl
  have := Um.sum_stay (f := f) (b := b) (n := n + 1) (by rw [e]; decide) (f.length - (n + 1))
  rwa [show n + 1 + (f.length - (n + 1)) = f.length by omega] at this
theorem fr_bad2 {f : List Um.Tm} {b : List (Int × Int)} {n : Nat} (hn : n < f.length) (h : ¬ (Um.sumN f b (n + 1)).2.2 = 0) : Um.frR f b = (0, 0, 4) := by
  have := Um.sum_stay h (f.length - (n + 1))
  rwa [show n + 1 + (f.length - (n + 1)) = f.length by omega] at this
theorem prod_bad {t : Um.Tm} {b : List (Int × Int)} {k : Nat} (hk : k < b.length) (h : ¬ (Um.prodN t b (k + 1)).2.2 = 0) : ¬ (Um.prodN t b b.length).2.2 = 0 := by
  have := Um.prod_stay h (b.length - (k + 1))
  rw [show k + 1 + (b.length - (k + 1)) = b.length by omega] at this
  rw [this]
  decide
set_option maxRecDepth 100000 in
set_option maxHeartbeats 16000000 in
theorem rFr_any (f : List Um.Tm) (u : Value) (b : List (Int × Int)) (v : Value) (w : World) (hl : Lt w.heap.size w u f) (hs : Ls w.heap.size w v b) (h : Um.frF f b = 0) :
    Calls Tryd.prog 19 #[u, v] w fun e w' => e = .returned (.tuple #[.agg #[.int .i64 (Um.frR f b).1, .int .i64 (Um.frR f b).2.1], .int .i64 (Um.frR f b).2.2]) ∧ Below w.heap.size w w' := by
  have hmx : Tryd.prog.follows .mixedOrders = true := by kernel_rfl
  obtain ⟨hb, hf⟩ := Um.fr_ok.1 h
  have hln := Um.box_len hb
  have h6 := (Um.form_ok.1 hf).2.1
  have HTM := hid (Um.fr_terms hf)
  have HBX := hid hb
  obtain ⟨b2, off2, cap2, rfl, -, hB0⟩ := hs.open (Um.box_ok.1 hb).1
  obtain ⟨a0, cap0, rfl, -, hor⟩ := hl
  have HOR := hid hor
  clear hor hs h hb hf
  have hF := Fr.two w 0 0
  go_enter Tryd.func19, Tryd.ntmps19
  go_wp2
  go_loopw [7] (fun i wr => ∃ n : Nat, n ≤ f.length ∧ i = .int .i64 n ∧ Fr w wr [(w.heap.size + 1, (Um.sumN f b n).1, (Um.sumN f b n).2.1), (w.heap.size, 0, 0)] ∧ Hid ((Um.sumN f b n).2.2 = 0)) (fun i _ => f.length - (intOf i).toNat)
  case atStart => exact ⟨0, Nat.zero_le _, rfl, hF, rfl⟩
  case round =>
    clear hF
    obtain ⟨n, hn, rfl, hF, hZ⟩ := hrel
    by_cases hnl : n < f.length
    · have hnn : (n : Int) < (f.length : Int) := by omega
      rcases HOR.out with e | ⟨b1, off1, rfl, hlt, hc⟩
      · rw [e] at hnl; simp at hnl
      have HT0 := hid (hc n hnl)
      have z0 := (HT0.out.keep hF.below hlt).1
      have HP0 := hid (HTM.out n hnl)
      have HSC := hid (Um.sum_chk HTM.out HBX.out hn hZ.out)
      have HFB := fun h => hid (fr_bad (b := b) hnl h)
      have HFB2 := fun h => hid (fr_bad2 (b := b) hnl h)
      have HSN := fun h => hid (show Um.sumN f b (n + 1) = Um.addR (Um.sumN f b n).1 (Um.sumN f b n).2.1 (Um.prodN (Um.tm f n) b b.length).1 (Um.prodN (Um.tm f n) b b.length).2.1 by rw [Um.sum_succ, if_pos hZ.out, if_pos h])
      clear hc HOR HTM
      generalize Um.tm f n = t at *
      have HAl := fun w => hid (rAlone_any t.1 w)
      go_wp2_with (go_at_call 29; refine (HAl _).out.mono ?_; rintro e wn ⟨rfl, hb⟩; replace hF := hF.step hb; clear hb; clear HAl z0; replace hF := hF.push t.1 t.1 rfl)
      generalize wn.heap.size = B2 at *
      go_loopw [9] (fun i wr => ∃ k : Nat, k ≤ b.length ∧ i = .int .i64 k ∧ Fr w wr [(B2, (Um.prodN t b k).1, (Um.prodN t b k).2.1), (w.heap.size + 1, (Um.sumN f b n).1, (Um.sumN f b n).2.1), (w.heap.size, 0, 0)] ∧ Hid ((Um.prodN t b k).2.2 = 0)) (fun i _ => b.length - (intOf i).toNat)
      case atStart => exact ⟨0, Nat.zero_le _, rfl, hF, rfl⟩
      case round =>
        clear hF
        obtain ⟨k, hk, rfl, hF0, hK⟩ := hrel
        by_cases hkl : k < b.length
        · have hkk : (k : Int) < (b.length : Int) := by omega
          have hk3 : k < 3 := by omega
          have hkq : (k : Int) < 3 := by omega
          have hT := HT0.out.keep hF0.below hlt
          have hTl : b1 < wr.heap.size := Nat.lt_of_lt_of_le hlt hF0.size
          have hB := hB0.step hF0.below
          have HB := hid (Um.sd_some hkl)
          have tt := Um.tm_times HP0.out k
          have hcs := Um.box_side HBX.out hkl
          have HP := fun w => hid (rPower_any (Um.sd b k).1 (Um.sd b k).2 (Um.tmT t k) (Um.tmT t k).toNat w hcs (by omega) (by omega))
          have HQ : Hid (some (Value.int .i64 (Um.tmT t k)) = some (.int .i64 (Um.tmT t k))) := hid rfl
          have HPC := fun h => hid (Um.chk_ok.1 (Um.pow_chk hcs (k := (Um.tmT t k).toNat) (by omega) h))
          have HPF := hid (Um.pow_fault (lo := (Um.sd b k).1) (hi := (Um.sd b k).2) (Um.tmT t k).toNat)
          have HCC := hid (Um.chk_ok.1 (Um.prod_chk HP0.out HBX.out hk hK.out))
          have HPB := fun h => hid (HFB (prod_bad hkl h)).out
          have HPN := fun h => hid (show Um.prodN t b (k + 1) = Um.stimesR (Um.prodN t b k).1 (Um.prodN t b k).2.1 (Um.powR (Um.sd b k).1 (Um.sd b k).2 (Um.tmT t k).toNat).1 (Um.powR (Um.sd b k).1 (Um.sd b k).2 (Um.tmT t k).toNat).2.1 by rw [Um.prod_succ, if_pos hK.out, if_pos h])
          have HP4 := fun (h : ¬ (Um.powR (Um.sd b k).1 (Um.sd b k).2 (Um.tmT t k).toNat).2.2 = 0) => hid (show Um.prodN t b (k + 1) = (0, 0, 4) by rw [Um.prod_succ, if_pos hK.out, if_neg h])
          clear HFB HFB2 HSN HT0 HP0 HBX hcs hB0 tt
          generalize hQ : Um.tmT t k = Q at *
          generalize Um.prodN t b k = Y at *
          generalize Um.sd b k = s2 at *
          obtain ⟨C0, C1⟩ := s2
          simp only at HP HPC HPF HPN HP4
          replace HQ : Hid (some (Value.int .i64 (Um.tmT t k)) = some (.int .i64 Q)) := by rw [hQ]; exact hid rfl
          replace hQ := hid hQ
          generalize Um.powR C0 C1 Q.toNat = P at *
          by_cases c : P.2.2 = 0
          · obtain ⟨m1, m2, -⟩ := (HPC c).out
            obtain ⟨m3, m4, -⟩ := HCC.out
            have HT := fun w => hid (rTimes_um Y.1 Y.2.1 P.1 P.2.1 w m3 m4 m1 m2)
            have HM := HPN c
            have kP : (P.2.2 == 0) = true := by simpa using c
            have HRF := hid (Um.stimes_fault Y.1 Y.2.1 P.1 P.2.1)
            clear HPC HPF HPN HP4 c m1 m2 m3 m4 HCC
            generalize Um.stimesR Y.1 Y.2.1 P.1 P.2.1 = R at *
            by_cases c2 : R.2.2 = 0
            · have kR : (R.2.2 != 0) = false := by simpa using c2
              have HZ := hid c2
              clear HPB HRF c2
              go_wp2
              obtain ⟨Inv, hInv⟩ : ∃ Inv : Array Bool → Act → World → Prop, ∀ listed aq W', Inv listed aq W' ↔ (∃ v32 v33 v34 v35 v36 v37 v38 v39 v40 v41 v42 v43 v31 v44 v45 v10 v11 : Value, aq = { tmps := #[Value.slice (some { block := b1, off := off1 }) f.length cap0, Value.slice (some { block := b2, off := off2 }) b.length cap2, undef, undef, Value.pointer (some { block := w.heap.size, off := 0 }), u5, Value.pointer (some { block := w.heap.size + 1, off := 0 }), Value.int IntKind.i64 ↑n, Value.pointer (some { block := B2, off := 0 }), Value.int IntKind.i64 ↑k, v10, v11, u12, Value.int IntKind.i64 ↑n, Value.slice (some { block := b1, off := off1 }) f.length cap0, Value.int IntKind.i64 ↑f.length, Value.bool true, u17, u18, Value.slice (some { block := b1, off := off1 }) f.length cap0, Value.int IntKind.i64 ↑n, Value.pointer (some { block := b1, off := off1 + n * 4 }), Value.pointer (some { block := b1, off := off1 + n * 4 }), Value.int IntKind.i64 t.fst, Value.agg #[Value.int IntKind.i64 t.fst, Value.int IntKind.i64 t.fst], Value.int IntKind.i64 ↑k, Value.slice (some { block := b2, off := off2 }) b.length cap2, Value.int IntKind.i64 ↑b.length, Value.bool true, u29, u30, v31, v32, v33, v34, v35, v36, v37, v38, v39, v40, v41, v42, v43, v44, v45, u46, u47, u48, u49, u50, u51, u52, u53, u54, u55, u56, u57, u58, u59, u60, u61, u62, u63, u64, u65, u66, u67, undef], defers := [] } ∧ Below (wr).heap.size (wr) W' ∧ (listed.getD 0 false = true → v32 = Value.slice (some { block := b2, off := off2 }) b.length cap2) ∧ (listed.getD 1 false = true → v33 = Value.int IntKind.i64 ↑k) ∧ (listed.getD 2 false = true → v34 = .pointer (some ⟨b2, off2 + k * 2, none⟩)) ∧ (listed.getD 3 false = true → v35 = .agg #[.int .i64 C0, .int .i64 C1]) ∧ (listed.getD 4 false = true → v36 = Value.slice (some { block := b1, off := off1 }) f.length cap0) ∧ (listed.getD 5 false = true → v37 = Value.int IntKind.i64 ↑n) ∧ (listed.getD 6 false = true → v38 = Value.int IntKind.i64 ↑k) ∧ (listed.getD 7 false = true → v39 = .pointer (some ⟨b1, off1 + n * 4, none⟩)) ∧ (listed.getD 8 false = true → v40 = .pointer (some ⟨b1, off1 + n * 4 + 1, none⟩)) ∧ (listed.getD 9 false = true → v41 = .pointer (some ⟨b1, off1 + n * 4 + 1 + k, none⟩)) ∧ (listed.getD 10 false = true → v42 = .int .i64 (Q)) ∧ (listed.getD 11 false = true → v43 = (.tuple #[.agg #[.int .i64 P.1, .int .i64 P.2.1], .int .i64 P.2.2])) ∧ (listed.getD 12 false = true → v31 = (.tuple #[.agg #[.int .i64 P.1, .int .i64 P.2.1], .int .i64 P.2.2])) ∧ (listed.getD 13 false = true → v44 = .agg #[.int .i64 P.1, .int .i64 P.2.1]) ∧ (listed.getD 14 false = true → v45 = .int .i64 P.2.2) ∧ (listed.getD 17 false = true → v11 = .int .i64 P.2.2) ∧ (listed.getD 15 false = true → ∃ (bn : Nat) (cn dn : Int), v10 = .pointer (some ⟨bn, 0, none⟩) ∧ (wr).heap.size ≤ bn ∧ Sp W' bn cn dn ∧ (listed.getD 16 false = true → cn = P.1 ∧ dn = P.2.1)) ∧ (listed.getD 16 false = true → listed.getD 15 false = true)) := ⟨_, fun _ _ _ => Iff.rfl⟩
              have HI := hid hInv
              clear hInv
              refine Free.region hmx (by kernel_rfl) Inv ?s1 ?s2 ?s3
              case s1 =>
                exact (HI.out _ _ _).2 ⟨u32, u33, u34, u35, u36, u37, u38, u39, u40, u41, u42, u43, u31, u44, u45, u10, u11, rfl, (Below.refl _ _).drew, Free.not_yet, Free.not_yet, Free.not_yet, Free.not_yet, Free.not_yet, Free.not_yet, Free.not_yet, Free.not_yet, Free.not_yet, Free.not_yet, Free.not_yet, Free.not_yet, Free.not_yet, Free.not_yet, Free.not_yet, Free.not_yet, Free.not_yet, Free.not_yet⟩
              case s2 =>
                intro i listed aq W1 hix hne hnl hsz hv
                obtain ⟨v32, v33, v34, v35, v36, v37, v38, v39, v40, v41, v42, v43, v31, v44, v45, v10, v11, rfl, hW, l0, l1, l2, l3, l4, l5, l6, l7, l8, l9, l10, l11, l12, l13, l14, l17, ln, lp⟩ := (HI.out _ _ _).1 hv
                clear hv
                replace hix : i < 18 := hix
                replace hsz : listed.size = 18 := hsz
                rcases (by omega : i = 0 ∨ i = 1 ∨ i = 2 ∨ i = 3 ∨ i = 4 ∨ i = 5 ∨ i = 6 ∨ i = 7 ∨ i = 8 ∨ i = 9 ∨ i = 10 ∨ i = 11 ∨ i = 12 ∨ i = 13 ∨ i = 14 ∨ i = 15 ∨ i = 16 ∨ i = 17) with rfl | rfl | rfl | rfl | rfl | rfl | rfl | rfl | rfl | rfl | rfl | rfl | rfl | rfl | rfl | rfl | rfl | rfl
                · refine Free.op rfl rfl (fun K hK => ?_)
                  go_simp
                  exact hK _ _ ((HI.out _ _ _).2 ⟨_, v33, v34, v35, v36, v37, v38, v39, v40, v41, v42, v43, v31, v44, v45, v10, v11, rfl, hW, fun _ => rfl, Free.of_set (by decide) l1, Free.of_set (by decide) l2, Free.of_set (by decide) l3, Free.of_set (by decide) l4, Free.of_set (by decide) l5, Free.of_set (by decide) l6, Free.of_set (by decide) l7, Free.of_set (by decide) l8, Free.of_set (by decide) l9, Free.of_set (by decide) l10, Free.of_set (by decide) l11, Free.of_set (by decide) l12, Free.of_set (by decide) l13, Free.of_set (by decide) l14, Free.of_set (by decide) l17, fun e => by obtain ⟨bn, cn, dn, q1, q2, q3, q4⟩ := ln (Free.back (by decide) e); exact ⟨bn, cn, dn, q1, q2, q3, fun e2 => q4 (Free.back (by decide) e2)⟩, fun e => Free.fore (by decide) (lp (Free.back (by decide) e))⟩)
                · refine Free.op rfl rfl (fun K hK => ?_)
                  go_simp
                  exact hK _ _ ((HI.out _ _ _).2 ⟨v32, _, v34, v35, v36, v37, v38, v39, v40, v41, v42, v43, v31, v44, v45, v10, v11, rfl, hW, Free.of_set (by decide) l0, fun _ => rfl, Free.of_set (by decide) l2, Free.of_set (by decide) l3, Free.of_set (by decide) l4, Free.of_set (by decide) l5, Free.of_set (by decide) l6, Free.of_set (by decide) l7, Free.of_set (by decide) l8, Free.of_set (by decide) l9, Free.of_set (by decide) l10, Free.of_set (by decide) l11, Free.of_set (by decide) l12, Free.of_set (by decide) l13, Free.of_set (by decide) l14, Free.of_set (by decide) l17, fun e => by obtain ⟨bn, cn, dn, q1, q2, q3, q4⟩ := ln (Free.back (by decide) e); exact ⟨bn, cn, dn, q1, q2, q3, fun e2 => q4 (Free.back (by decide) e2)⟩, fun e => Free.fore (by decide) (lp (Free.back (by decide) e))⟩)
                · refine Free.op rfl rfl (fun K hK => ?_)
                  obtain rfl := l0 (hne 0 (by kernel_rfl))
                  obtain rfl := l1 (hne 1 (by kernel_rfl))
                  go_simp
                  exact hK _ _ ((HI.out _ _ _).2 ⟨_, _, _, v35, v36, v37, v38, v39, v40, v41, v42, v43, v31, v44, v45, v10, v11, rfl, hW, fun _ => rfl, fun _ => rfl, fun _ => rfl, Free.of_set (by decide) l3, Free.of_set (by decide) l4, Free.of_set (by decide) l5, Free.of_set (by decide) l6, Free.of_set (by decide) l7, Free.of_set (by decide) l8, Free.of_set (by decide) l9, Free.of_set (by decide) l10, Free.of_set (by decide) l11, Free.of_set (by decide) l12, Free.of_set (by decide) l13, Free.of_set (by decide) l14, Free.of_set (by decide) l17, fun e => by obtain ⟨bn, cn, dn, q1, q2, q3, q4⟩ := ln (Free.back (by decide) e); exact ⟨bn, cn, dn, q1, q2, q3, fun e2 => q4 (Free.back (by decide) e2)⟩, fun e => Free.fore (by decide) (lp (Free.back (by decide) e))⟩)
                · have z0 := (hB.step hW).lo k HB.out rfl
                  have z1 := (hB.step hW).hi k HB.out rfl
                  refine Free.op rfl rfl (fun K hK => ?_)
                  obtain rfl := l2 (hne 2 (by kernel_rfl))
                  go_simp
                  exact hK _ _ ((HI.out _ _ _).2 ⟨v32, v33, _, _, v36, v37, v38, v39, v40, v41, v42, v43, v31, v44, v45, v10, v11, rfl, hW, Free.of_set (by decide) l0, Free.of_set (by decide) l1, fun _ => rfl, fun _ => rfl, Free.of_set (by decide) l4, Free.of_set (by decide) l5, Free.of_set (by decide) l6, Free.of_set (by decide) l7, Free.of_set (by decide) l8, Free.of_set (by decide) l9, Free.of_set (by decide) l10, Free.of_set (by decide) l11, Free.of_set (by decide) l12, Free.of_set (by decide) l13, Free.of_set (by decide) l14, Free.of_set (by decide) l17, fun e => by obtain ⟨bn, cn, dn, q1, q2, q3, q4⟩ := ln (Free.back (by decide) e); exact ⟨bn, cn, dn, q1, q2, q3, fun e2 => q4 (Free.back (by decide) e2)⟩, fun e => Free.fore (by decide) (lp (Free.back (by decide) e))⟩)
                · refine Free.op rfl rfl (fun K hK => ?_)
                  go_simp
                  exact hK _ _ ((HI.out _ _ _).2 ⟨v32, v33, v34, v35, _, v37, v38, v39, v40, v41, v42, v43, v31, v44, v45, v10, v11, rfl, hW, Free.of_set (by decide) l0, Free.of_set (by decide) l1, Free.of_set (by decide) l2, Free.of_set (by decide) l3, fun _ => rfl, Free.of_set (by decide) l5, Free.of_set (by decide) l6, Free.of_set (by decide) l7, Free.of_set (by decide) l8, Free.of_set (by decide) l9, Free.of_set (by decide) l10, Free.of_set (by decide) l11, Free.of_set (by decide) l12, Free.of_set (by decide) l13, Free.of_set (by decide) l14, Free.of_set (by decide) l17, fun e => by obtain ⟨bn, cn, dn, q1, q2, q3, q4⟩ := ln (Free.back (by decide) e); exact ⟨bn, cn, dn, q1, q2, q3, fun e2 => q4 (Free.back (by decide) e2)⟩, fun e => Free.fore (by decide) (lp (Free.back (by decide) e))⟩)
                · refine Free.op rfl rfl (fun K hK => ?_)
                  go_simp
                  exact hK _ _ ((HI.out _ _ _).2 ⟨v32, v33, v34, v35, v36, _, v38, v39, v40, v41, v42, v43, v31, v44, v45, v10, v11, rfl, hW, Free.of_set (by decide) l0, Free.of_set (by decide) l1, Free.of_set (by decide) l2, Free.of_set (by decide) l3, Free.of_set (by decide) l4, fun _ => rfl, Free.of_set (by decide) l6, Free.of_set (by decide) l7, Free.of_set (by decide) l8, Free.of_set (by decide) l9, Free.of_set (by decide) l10, Free.of_set (by decide) l11, Free.of_set (by decide) l12, Free.of_set (by decide) l13, Free.of_set (by decide) l14, Free.of_set (by decide) l17, fun e => by obtain ⟨bn, cn, dn, q1, q2, q3, q4⟩ := ln (Free.back (by decide) e); exact ⟨bn, cn, dn, q1, q2, q3, fun e2 => q4 (Free.back (by decide) e2)⟩, fun e => Free.fore (by decide) (lp (Free.back (by decide) e))⟩)
                · refine Free.op rfl rfl (fun K hK => ?_)
                  go_simp
                  exact hK _ _ ((HI.out _ _ _).2 ⟨v32, v33, v34, v35, v36, v37, _, v39, v40, v41, v42, v43, v31, v44, v45, v10, v11, rfl, hW, Free.of_set (by decide) l0, Free.of_set (by decide) l1, Free.of_set (by decide) l2, Free.of_set (by decide) l3, Free.of_set (by decide) l4, Free.of_set (by decide) l5, fun _ => rfl, Free.of_set (by decide) l7, Free.of_set (by decide) l8, Free.of_set (by decide) l9, Free.of_set (by decide) l10, Free.of_set (by decide) l11, Free.of_set (by decide) l12, Free.of_set (by decide) l13, Free.of_set (by decide) l14, Free.of_set (by decide) l17, fun e => by obtain ⟨bn, cn, dn, q1, q2, q3, q4⟩ := ln (Free.back (by decide) e); exact ⟨bn, cn, dn, q1, q2, q3, fun e2 => q4 (Free.back (by decide) e2)⟩, fun e => Free.fore (by decide) (lp (Free.back (by decide) e))⟩)
                · refine Free.op rfl rfl (fun K hK => ?_)
                  obtain rfl := l4 (hne 4 (by kernel_rfl))
                  obtain rfl := l5 (hne 5 (by kernel_rfl))
                  go_simp
                  exact hK _ _ ((HI.out _ _ _).2 ⟨v32, v33, v34, v35, _, _, v38, _, v40, v41, v42, v43, v31, v44, v45, v10, v11, rfl, hW, Free.of_set (by decide) l0, Free.of_set (by decide) l1, Free.of_set (by decide) l2, Free.of_set (by decide) l3, fun _ => rfl, fun _ => rfl, Free.of_set (by decide) l6, fun _ => rfl, Free.of_set (by decide) l8, Free.of_set (by decide) l9, Free.of_set (by decide) l10, Free.of_set (by decide) l11, Free.of_set (by decide) l12, Free.of_set (by decide) l13, Free.of_set (by decide) l14, Free.of_set (by decide) l17, fun e => by obtain ⟨bn, cn, dn, q1, q2, q3, q4⟩ := ln (Free.back (by decide) e); exact ⟨bn, cn, dn, q1, q2, q3, fun e2 => q4 (Free.back (by decide) e2)⟩, fun e => Free.fore (by decide) (lp (Free.back (by decide) e))⟩)
                · refine Free.op rfl rfl (fun K hK => ?_)
                  obtain rfl := l7 (hne 7 (by kernel_rfl))
                  go_simp
                  exact hK _ _ ((HI.out _ _ _).2 ⟨v32, v33, v34, v35, v36, v37, v38, _, _, v41, v42, v43, v31, v44, v45, v10, v11, rfl, hW, Free.of_set (by decide) l0, Free.of_set (by decide) l1, Free.of_set (by decide) l2, Free.of_set (by decide) l3, Free.of_set (by decide) l4, Free.of_set (by decide) l5, Free.of_set (by decide) l6, fun _ => rfl, fun _ => rfl, Free.of_set (by decide) l9, Free.of_set (by decide) l10, Free.of_set (by decide) l11, Free.of_set (by decide) l12, Free.of_set (by decide) l13, Free.of_set (by decide) l14, Free.of_set (by decide) l17, fun e => by obtain ⟨bn, cn, dn, q1, q2, q3, q4⟩ := ln (Free.back (by decide) e); exact ⟨bn, cn, dn, q1, q2, q3, fun e2 => q4 (Free.back (by decide) e2)⟩, fun e => Free.fore (by decide) (lp (Free.back (by decide) e))⟩)
                · refine Free.op rfl rfl (fun K hK => ?_)
                  obtain rfl := l6 (hne 6 (by kernel_rfl))
                  obtain rfl := l8 (hne 8 (by kernel_rfl))
                  go_simp
                  exact hK _ _ ((HI.out _ _ _).2 ⟨v32, v33, v34, v35, v36, v37, _, v39, _, _, v42, v43, v31, v44, v45, v10, v11, rfl, hW, Free.of_set (by decide) l0, Free.of_set (by decide) l1, Free.of_set (by decide) l2, Free.of_set (by decide) l3, Free.of_set (by decide) l4, Free.of_set (by decide) l5, fun _ => rfl, Free.of_set (by decide) l7, fun _ => rfl, fun _ => rfl, Free.of_set (by decide) l10, Free.of_set (by decide) l11, Free.of_set (by decide) l12, Free.of_set (by decide) l13, Free.of_set (by decide) l14, Free.of_set (by decide) l17, fun e => by obtain ⟨bn, cn, dn, q1, q2, q3, q4⟩ := ln (Free.back (by decide) e); exact ⟨bn, cn, dn, q1, q2, q3, fun e2 => q4 (Free.back (by decide) e2)⟩, fun e => Free.fore (by decide) (lp (Free.back (by decide) e))⟩)
                · have z0 := ((hT.keep hW hTl).times hk3).trans HQ.out
                  refine Free.op rfl rfl (fun K hK => ?_)
                  obtain rfl := l9 (hne 9 (by kernel_rfl))
                  go_simp
                  exact hK _ _ ((HI.out _ _ _).2 ⟨v32, v33, v34, v35, v36, v37, v38, v39, v40, _, _, v43, v31, v44, v45, v10, v11, rfl, hW, Free.of_set (by decide) l0, Free.of_set (by decide) l1, Free.of_set (by decide) l2, Free.of_set (by decide) l3, Free.of_set (by decide) l4, Free.of_set (by decide) l5, Free.of_set (by decide) l6, Free.of_set (by decide) l7, Free.of_set (by decide) l8, fun _ => rfl, fun _ => rfl, Free.of_set (by decide) l11, Free.of_set (by decide) l12, Free.of_set (by decide) l13, Free.of_set (by decide) l14, Free.of_set (by decide) l17, fun e => by obtain ⟨bn, cn, dn, q1, q2, q3, q4⟩ := ln (Free.back (by decide) e); exact ⟨bn, cn, dn, q1, q2, q3, fun e2 => q4 (Free.back (by decide) e2)⟩, fun e => Free.fore (by decide) (lp (Free.back (by decide) e))⟩)
                · refine Free.op rfl rfl (fun K hK => ?_)
                  obtain rfl := l3 (hne 3 (by kernel_rfl))
                  obtain rfl := l10 (hne 10 (by kernel_rfl))
                  go_wp2_with (go_at_call 30; refine (HP _).out.mono ?_; rintro e W3 ⟨rfl, hb⟩)
                  exact (HI.out _ _ _).2 ⟨v32, v33, v34, _, v36, v37, v38, v39, v40, v41, _, _, v31, v44, v45, v10, v11, rfl, hW.trans (hb.mono hW.size), Free.of_set (by decide) l0, Free.of_set (by decide) l1, Free.of_set (by decide) l2, fun _ => rfl, Free.of_set (by decide) l4, Free.of_set (by decide) l5, Free.of_set (by decide) l6, Free.of_set (by decide) l7, Free.of_set (by decide) l8, Free.of_set (by decide) l9, fun _ => rfl, fun _ => rfl, Free.of_set (by decide) l12, Free.of_set (by decide) l13, Free.of_set (by decide) l14, Free.of_set (by decide) l17, fun e => by obtain ⟨bn, cn, dn, q1, q2, q3, q4⟩ := ln (Free.back (by decide) e); exact ⟨bn, cn, dn, q1, q2, (q3.step hb), fun e2 => q4 (Free.back (by decide) e2)⟩, fun e => Free.fore (by decide) (lp (Free.back (by decide) e))⟩
                · refine Free.op rfl rfl (fun K hK => ?_)
                  obtain rfl := l11 (hne 11 (by kernel_rfl))
                  go_simp
                  exact hK _ _ ((HI.out _ _ _).2 ⟨v32, v33, v34, v35, v36, v37, v38, v39, v40, v41, v42, _, _, v44, v45, v10, v11, rfl, hW, Free.of_set (by decide) l0, Free.of_set (by decide) l1, Free.of_set (by decide) l2, Free.of_set (by decide) l3, Free.of_set (by decide) l4, Free.of_set (by decide) l5, Free.of_set (by decide) l6, Free.of_set (by decide) l7, Free.of_set (by decide) l8, Free.of_set (by decide) l9, Free.of_set (by decide) l10, fun _ => rfl, fun _ => rfl, Free.of_set (by decide) l13, Free.of_set (by decide) l14, Free.of_set (by decide) l17, fun e => by obtain ⟨bn, cn, dn, q1, q2, q3, q4⟩ := ln (Free.back (by decide) e); exact ⟨bn, cn, dn, q1, q2, q3, fun e2 => q4 (Free.back (by decide) e2)⟩, fun e => Free.fore (by decide) (lp (Free.back (by decide) e))⟩)
                · refine Free.op rfl rfl (fun K hK => ?_)
                  obtain rfl := l12 (hne 12 (by kernel_rfl))
                  go_simp
                  exact hK _ _ ((HI.out _ _ _).2 ⟨v32, v33, v34, v35, v36, v37, v38, v39, v40, v41, v42, v43, _, _, v45, v10, v11, rfl, hW, Free.of_set (by decide) l0, Free.of_set (by decide) l1, Free.of_set (by decide) l2, Free.of_set (by decide) l3, Free.of_set (by decide) l4, Free.of_set (by decide) l5, Free.of_set (by decide) l6, Free.of_set (by decide) l7, Free.of_set (by decide) l8, Free.of_set (by decide) l9, Free.of_set (by decide) l10, Free.of_set (by decide) l11, fun _ => rfl, fun _ => rfl, Free.of_set (by decide) l14, Free.of_set (by decide) l17, fun e => by obtain ⟨bn, cn, dn, q1, q2, q3, q4⟩ := ln (Free.back (by decide) e); exact ⟨bn, cn, dn, q1, q2, q3, fun e2 => q4 (Free.back (by decide) e2)⟩, fun e => Free.fore (by decide) (lp (Free.back (by decide) e))⟩)
                · refine Free.op rfl rfl (fun K hK => ?_)
                  obtain rfl := l12 (hne 12 (by kernel_rfl))
                  go_simp
                  exact hK _ _ ((HI.out _ _ _).2 ⟨v32, v33, v34, v35, v36, v37, v38, v39, v40, v41, v42, v43, _, v44, _, v10, v11, rfl, hW, Free.of_set (by decide) l0, Free.of_set (by decide) l1, Free.of_set (by decide) l2, Free.of_set (by decide) l3, Free.of_set (by decide) l4, Free.of_set (by decide) l5, Free.of_set (by decide) l6, Free.of_set (by decide) l7, Free.of_set (by decide) l8, Free.of_set (by decide) l9, Free.of_set (by decide) l10, Free.of_set (by decide) l11, fun _ => rfl, Free.of_set (by decide) l13, fun _ => rfl, Free.of_set (by decide) l17, fun e => by obtain ⟨bn, cn, dn, q1, q2, q3, q4⟩ := ln (Free.back (by decide) e); exact ⟨bn, cn, dn, q1, q2, q3, fun e2 => q4 (Free.back (by decide) e2)⟩, fun e => Free.fore (by decide) (lp (Free.back (by decide) e))⟩)
                · have hs : listed.getD 16 false = false := by
                    cases e : listed.getD 16 false
                    · rfl
                    · rw [Free.off hnl] at lp; cases lp e
                  refine Free.op rfl rfl (fun K hK => ?_)
                  go_simp
                  exact hK _ _ ((HI.out _ _ _).2 ⟨v32, v33, v34, v35, v36, v37, v38, v39, v40, v41, v42, v43, v31, v44, v45, _, v11, rfl, hW.alloc hW.size _, Free.of_set (by decide) l0, Free.of_set (by decide) l1, Free.of_set (by decide) l2, Free.of_set (by decide) l3, Free.of_set (by decide) l4, Free.of_set (by decide) l5, Free.of_set (by decide) l6, Free.of_set (by decide) l7, Free.of_set (by decide) l8, Free.of_set (by decide) l9, Free.of_set (by decide) l10, Free.of_set (by decide) l11, Free.of_set (by decide) l12, Free.of_set (by decide) l13, Free.of_set (by decide) l14, Free.of_set (by decide) l17, fun _ => ⟨_, _, _, rfl, hW.size, Sp.new _ _ _, fun e => by rw [Free.set_other (by decide), hs] at e; cases e⟩, fun e => by rw [Free.set_other (by decide), hs] at e; cases e⟩)
                · have N := hid (hne 15 (by kernel_rfl))
                  obtain ⟨bn, cn, dn, q1, q2, q3, q4⟩ := ln N.out
                  subst q1
                  have y1 := q3.fl
                  have y2 := q3.fh
                  have y3 := q3.lo
                  have y4 := q3.hi
                  refine Free.op rfl rfl (fun K hK => ?_)
                  obtain rfl := l13 (hne 13 (by kernel_rfl))
                  go_simp
                  exact hK _ _ ((HI.out _ _ _).2 ⟨v32, v33, v34, v35, v36, v37, v38, v39, v40, v41, v42, v43, v31, _, v45, _, v11, rfl, (hW.setCell q2 _).setCell q2 _, Free.of_set (by decide) l0, Free.of_set (by decide) l1, Free.of_set (by decide) l2, Free.of_set (by decide) l3, Free.of_set (by decide) l4, Free.of_set (by decide) l5, Free.of_set (by decide) l6, Free.of_set (by decide) l7, Free.of_set (by decide) l8, Free.of_set (by decide) l9, Free.of_set (by decide) l10, Free.of_set (by decide) l11, Free.of_set (by decide) l12, fun _ => rfl, Free.of_set (by decide) l14, Free.of_set (by decide) l17, fun _ => ⟨_, _, _, rfl, q2, q3.set _ _, fun _ => ⟨rfl, rfl⟩⟩, fun _ => Free.fore (by decide) N.out⟩)
                · refine Free.op rfl rfl (fun K hK => ?_)
                  obtain rfl := l14 (hne 14 (by kernel_rfl))
                  go_simp
                  exact hK _ _ ((HI.out _ _ _).2 ⟨v32, v33, v34, v35, v36, v37, v38, v39, v40, v41, v42, v43, v31, v44, _, v10, _, rfl, hW, Free.of_set (by decide) l0, Free.of_set (by decide) l1, Free.of_set (by decide) l2, Free.of_set (by decide) l3, Free.of_set (by decide) l4, Free.of_set (by decide) l5, Free.of_set (by decide) l6, Free.of_set (by decide) l7, Free.of_set (by decide) l8, Free.of_set (by decide) l9, Free.of_set (by decide) l10, Free.of_set (by decide) l11, Free.of_set (by decide) l12, Free.of_set (by decide) l13, fun _ => rfl, fun _ => rfl, fun e => by obtain ⟨bn, cn, dn, q1, q2, q3, q4⟩ := ln (Free.back (by decide) e); exact ⟨bn, cn, dn, q1, q2, q3, fun e2 => q4 (Free.back (by decide) e2)⟩, fun e => Free.fore (by decide) (lp (Free.back (by decide) e))⟩)
              case s3 =>
                intro listed aq W1 hall hsz hv
                obtain ⟨v32, v33, v34, v35, v36, v37, v38, v39, v40, v41, v42, v43, v31, v44, v45, v10, v11, rfl, hW, l0, l1, l2, l3, l4, l5, l6, l7, l8, l9, l10, l11, l12, l13, l14, l17, ln, lp⟩ := (HI.out _ _ _).1 hv
                clear hv HI
                obtain ⟨bn, cn, dn, rfl, hbn, hSn, q4⟩ := ln (Free.listed_of hall hsz 15 (by decide))
                obtain ⟨rfl, rfl⟩ := q4 (Free.listed_of hall hsz 16 (by decide))
                clear ln lp
                obtain rfl := l0 (Free.listed_of hall hsz 0 (by decide))
                obtain rfl := l1 (Free.listed_of hall hsz 1 (by decide))
                obtain rfl := l2 (Free.listed_of hall hsz 2 (by decide))
                obtain rfl := l3 (Free.listed_of hall hsz 3 (by decide))
                obtain rfl := l4 (Free.listed_of hall hsz 4 (by decide))
                obtain rfl := l5 (Free.listed_of hall hsz 5 (by decide))
                obtain rfl := l6 (Free.listed_of hall hsz 6 (by decide))
                obtain rfl := l7 (Free.listed_of hall hsz 7 (by decide))
                obtain rfl := l8 (Free.listed_of hall hsz 8 (by decide))
                obtain rfl := l9 (Free.listed_of hall hsz 9 (by decide))
                obtain rfl := l10 (Free.listed_of hall hsz 10 (by decide))
                obtain rfl := l11 (Free.listed_of hall hsz 11 (by decide))
                obtain rfl := l12 (Free.listed_of hall hsz 12 (by decide))
                obtain rfl := l13 (Free.listed_of hall hsz 13 (by decide))
                obtain rfl := l14 (Free.listed_of hall hsz 14 (by decide))
                obtain rfl := l17 (Free.listed_of hall hsz 17 (by decide))
                clear hall hsz
                have hF := hF0.add hW hSn hbn
                clear hF0 hW hSn hT hB
                have x0l := (hF.at 0 rfl).lo
                have x0h := (hF.at 0 rfl).hi
                have x1l := (hF.at 1 rfl).lo
                have x1h := (hF.at 1 rfl).hi
                go_wp2_with (go_at_call 31; refine (HT _).out.mono ?_; rintro e wn ⟨rfl, hb⟩; replace hF := hF.step hb; clear hb; clear HT; clear x0l x0h x1l x1h; have y1 := (hF.at 1 rfl).fl; have y2 := (hF.at 1 rfl).fh; have y3 := (hF.at 1 rfl).lo; have y4 := (hF.at 1 rfl).hi; have y6 := (hF.at 1 rfl).r0; have y7 := (hF.at 1 rfl).r1)
                exact ⟨⟨k + 1, by omega, by simp, by rw [HM.out]; exact (hF.put 1 rfl _ _ rfl).drop, by rw [HM.out]; exact HZ.out⟩, by simp [intOf]; omega⟩

            · have kR : (R.2.2 != 0) = true := by simpa using c2
              have e4 : R.2.2 = 4 := by rw [HRF.out.resolve_left c2]
              have HM2 := HPB (by rw [HM.out]; exact c2)
              have HM3 : Hid (Um.frR f b = (0, 0, R.2.2)) := by rw [HM2.out, e4]; exact hid rfl
              clear HPB HRF c2 HM HM2 e4
              have HM := HM3
              clear HM3
              go_wp2
              obtain ⟨Inv, hInv⟩ : ∃ Inv : Array Bool → Act → World → Prop, ∀ listed aq W', Inv listed aq W' ↔ (∃ v32 v33 v34 v35 v36 v37 v38 v39 v40 v41 v42 v43 v31 v44 v45 v10 v11 : Value, aq = { tmps := #[Value.slice (some { block := b1, off := off1 }) f.length cap0, Value.slice (some { block := b2, off := off2 }) b.length cap2, undef, undef, Value.pointer (some { block := w.heap.size, off := 0 }), u5, Value.pointer (some { block := w.heap.size + 1, off := 0 }), Value.int IntKind.i64 ↑n, Value.pointer (some { block := B2, off := 0 }), Value.int IntKind.i64 ↑k, v10, v11, u12, Value.int IntKind.i64 ↑n, Value.slice (some { block := b1, off := off1 }) f.length cap0, Value.int IntKind.i64 ↑f.length, Value.bool true, u17, u18, Value.slice (some { block := b1, off := off1 }) f.length cap0, Value.int IntKind.i64 ↑n, Value.pointer (some { block := b1, off := off1 + n * 4 }), Value.pointer (some { block := b1, off := off1 + n * 4 }), Value.int IntKind.i64 t.fst, Value.agg #[Value.int IntKind.i64 t.fst, Value.int IntKind.i64 t.fst], Value.int IntKind.i64 ↑k, Value.slice (some { block := b2, off := off2 }) b.length cap2, Value.int IntKind.i64 ↑b.length, Value.bool true, u29, u30, v31, v32, v33, v34, v35, v36, v37, v38, v39, v40, v41, v42, v43, v44, v45, u46, u47, u48, u49, u50, u51, u52, u53, u54, u55, u56, u57, u58, u59, u60, u61, u62, u63, u64, u65, u66, u67, undef], defers := [] } ∧ Below (wr).heap.size (wr) W' ∧ (listed.getD 0 false = true → v32 = Value.slice (some { block := b2, off := off2 }) b.length cap2) ∧ (listed.getD 1 false = true → v33 = Value.int IntKind.i64 ↑k) ∧ (listed.getD 2 false = true → v34 = .pointer (some ⟨b2, off2 + k * 2, none⟩)) ∧ (listed.getD 3 false = true → v35 = .agg #[.int .i64 C0, .int .i64 C1]) ∧ (listed.getD 4 false = true → v36 = Value.slice (some { block := b1, off := off1 }) f.length cap0) ∧ (listed.getD 5 false = true → v37 = Value.int IntKind.i64 ↑n) ∧ (listed.getD 6 false = true → v38 = Value.int IntKind.i64 ↑k) ∧ (listed.getD 7 false = true → v39 = .pointer (some ⟨b1, off1 + n * 4, none⟩)) ∧ (listed.getD 8 false = true → v40 = .pointer (some ⟨b1, off1 + n * 4 + 1, none⟩)) ∧ (listed.getD 9 false = true → v41 = .pointer (some ⟨b1, off1 + n * 4 + 1 + k, none⟩)) ∧ (listed.getD 10 false = true → v42 = .int .i64 (Q)) ∧ (listed.getD 11 false = true → v43 = (.tuple #[.agg #[.int .i64 P.1, .int .i64 P.2.1], .int .i64 P.2.2])) ∧ (listed.getD 12 false = true → v31 = (.tuple #[.agg #[.int .i64 P.1, .int .i64 P.2.1], .int .i64 P.2.2])) ∧ (listed.getD 13 false = true → v44 = .agg #[.int .i64 P.1, .int .i64 P.2.1]) ∧ (listed.getD 14 false = true → v45 = .int .i64 P.2.2) ∧ (listed.getD 17 false = true → v11 = .int .i64 P.2.2) ∧ (listed.getD 15 false = true → ∃ (bn : Nat) (cn dn : Int), v10 = .pointer (some ⟨bn, 0, none⟩) ∧ (wr).heap.size ≤ bn ∧ Sp W' bn cn dn ∧ (listed.getD 16 false = true → cn = P.1 ∧ dn = P.2.1)) ∧ (listed.getD 16 false = true → listed.getD 15 false = true)) := ⟨_, fun _ _ _ => Iff.rfl⟩
              have HI := hid hInv
              clear hInv
              refine Free.region hmx (by kernel_rfl) Inv ?s1 ?s2 ?s3
              case s1 =>
                exact (HI.out _ _ _).2 ⟨u32, u33, u34, u35, u36, u37, u38, u39, u40, u41, u42, u43, u31, u44, u45, u10, u11, rfl, (Below.refl _ _).drew, Free.not_yet, Free.not_yet, Free.not_yet, Free.not_yet, Free.not_yet, Free.not_yet, Free.not_yet, Free.not_yet, Free.not_yet, Free.not_yet, Free.not_yet, Free.not_yet, Free.not_yet, Free.not_yet, Free.not_yet, Free.not_yet, Free.not_yet, Free.not_yet⟩
              case s2 =>
                intro i listed aq W1 hix hne hnl hsz hv
                obtain ⟨v32, v33, v34, v35, v36, v37, v38, v39, v40, v41, v42, v43, v31, v44, v45, v10, v11, rfl, hW, l0, l1, l2, l3, l4, l5, l6, l7, l8, l9, l10, l11, l12, l13, l14, l17, ln, lp⟩ := (HI.out _ _ _).1 hv
                clear hv
                replace hix : i < 18 := hix
                replace hsz : listed.size = 18 := hsz
                rcases (by omega : i = 0 ∨ i = 1 ∨ i = 2 ∨ i = 3 ∨ i = 4 ∨ i = 5 ∨ i = 6 ∨ i = 7 ∨ i = 8 ∨ i = 9 ∨ i = 10 ∨ i = 11 ∨ i = 12 ∨ i = 13 ∨ i = 14 ∨ i = 15 ∨ i = 16 ∨ i = 17) with rfl | rfl | rfl | rfl | rfl | rfl | rfl | rfl | rfl | rfl | rfl | rfl | rfl | rfl | rfl | rfl | rfl | rfl
                · refine Free.op rfl rfl (fun K hK => ?_)
                  go_simp
                  exact hK _ _ ((HI.out _ _ _).2 ⟨_, v33, v34, v35, v36, v37, v38, v39, v40, v41, v42, v43, v31, v44, v45, v10, v11, rfl, hW, fun _ => rfl, Free.of_set (by decide) l1, Free.of_set (by decide) l2, Free.of_set (by decide) l3, Free.of_set (by decide) l4, Free.of_set (by decide) l5, Free.of_set (by decide) l6, Free.of_set (by decide) l7, Free.of_set (by decide) l8, Free.of_set (by decide) l9, Free.of_set (by decide) l10, Free.of_set (by decide) l11, Free.of_set (by decide) l12, Free.of_set (by decide) l13, Free.of_set (by decide) l14, Free.of_set (by decide) l17, fun e => by obtain ⟨bn, cn, dn, q1, q2, q3, q4⟩ := ln (Free.back (by decide) e); exact ⟨bn, cn, dn, q1, q2, q3, fun e2 => q4 (Free.back (by decide) e2)⟩, fun e => Free.fore (by decide) (lp (Free.back (by decide) e))⟩)
                · refine Free.op rfl rfl (fun K hK => ?_)
                  go_simp
                  exact hK _ _ ((HI.out _ _ _).2 ⟨v32, _, v34, v35, v36, v37, v38, v39, v40, v41, v42, v43, v31, v44, v45, v10, v11, rfl, hW, Free.of_set (by decide) l0, fun _ => rfl, Free.of_set (by decide) l2, Free.of_set (by decide) l3, Free.of_set (by decide) l4, Free.of_set (by decide) l5, Free.of_set (by decide) l6, Free.of_set (by decide) l7, Free.of_set (by decide) l8, Free.of_set (by decide) l9, Free.of_set (by decide) l10, Free.of_set (by decide) l11, Free.of_set (by decide) l12, Free.of_set (by decide) l13, Free.of_set (by decide) l14, Free.of_set (by decide) l17, fun e => by obtain ⟨bn, cn, dn, q1, q2, q3, q4⟩ := ln (Free.back (by decide) e); exact ⟨bn, cn, dn, q1, q2, q3, fun e2 => q4 (Free.back (by decide) e2)⟩, fun e => Free.fore (by decide) (lp (Free.back (by decide) e))⟩)
                · refine Free.op rfl rfl (fun K hK => ?_)
                  obtain rfl := l0 (hne 0 (by kernel_rfl))
                  obtain rfl := l1 (hne 1 (by kernel_rfl))
                  go_simp
                  exact hK _ _ ((HI.out _ _ _).2 ⟨_, _, _, v35, v36, v37, v38, v39, v40, v41, v42, v43, v31, v44, v45, v10, v11, rfl, hW, fun _ => rfl, fun _ => rfl, fun _ => rfl, Free.of_set (by decide) l3, Free.of_set (by decide) l4, Free.of_set (by decide) l5, Free.of_set (by decide) l6, Free.of_set (by decide) l7, Free.of_set (by decide) l8, Free.of_set (by decide) l9, Free.of_set (by decide) l10, Free.of_set (by decide) l11, Free.of_set (by decide) l12, Free.of_set (by decide) l13, Free.of_set (by decide) l14, Free.of_set (by decide) l17, fun e => by obtain ⟨bn, cn, dn, q1, q2, q3, q4⟩ := ln (Free.back (by decide) e); exact ⟨bn, cn, dn, q1, q2, q3, fun e2 => q4 (Free.back (by decide) e2)⟩, fun e => Free.fore (by decide) (lp (Free.back (by decide) e))⟩)
                · have z0 := (hB.step hW).lo k HB.out rfl
                  have z1 := (hB.step hW).hi k HB.out rfl
                  refine Free.op rfl rfl (fun K hK => ?_)
                  obtain rfl := l2 (hne 2 (by kernel_rfl))
                  go_simp
                  exact hK _ _ ((HI.out _ _ _).2 ⟨v32, v33, _, _, v36, v37, v38, v39, v40, v41, v42, v43, v31, v44, v45, v10, v11, rfl, hW, Free.of_set (by decide) l0, Free.of_set (by decide) l1, fun _ => rfl, fun _ => rfl, Free.of_set (by decide) l4, Free.of_set (by decide) l5, Free.of_set (by decide) l6, Free.of_set (by decide) l7, Free.of_set (by decide) l8, Free.of_set (by decide) l9, Free.of_set (by decide) l10, Free.of_set (by decide) l11, Free.of_set (by decide) l12, Free.of_set (by decide) l13, Free.of_set (by decide) l14, Free.of_set (by decide) l17, fun e => by obtain ⟨bn, cn, dn, q1, q2, q3, q4⟩ := ln (Free.back (by decide) e); exact ⟨bn, cn, dn, q1, q2, q3, fun e2 => q4 (Free.back (by decide) e2)⟩, fun e => Free.fore (by decide) (lp (Free.back (by decide) e))⟩)
                · refine Free.op rfl rfl (fun K hK => ?_)
                  go_simp
                  exact hK _ _ ((HI.out _ _ _).2 ⟨v32, v33, v34, v35, _, v37, v38, v39, v40, v41, v42, v43, v31, v44, v45, v10, v11, rfl, hW, Free.of_set (by decide) l0, Free.of_set (by decide) l1, Free.of_set (by decide) l2, Free.of_set (by decide) l3, fun _ => rfl, Free.of_set (by decide) l5, Free.of_set (by decide) l6, Free.of_set (by decide) l7, Free.of_set (by decide) l8, Free.of_set (by decide) l9, Free.of_set (by decide) l10, Free.of_set (by decide) l11, Free.of_set (by decide) l12, Free.of_set (by decide) l13, Free.of_set (by decide) l14, Free.of_set (by decide) l17, fun e => by obtain ⟨bn, cn, dn, q1, q2, q3, q4⟩ := ln (Free.back (by decide) e); exact ⟨bn, cn, dn, q1, q2, q3, fun e2 => q4 (Free.back (by decide) e2)⟩, fun e => Free.fore (by decide) (lp (Free.back (by decide) e))⟩)
                · refine Free.op rfl rfl (fun K hK => ?_)
                  go_simp
                  exact hK _ _ ((HI.out _ _ _).2 ⟨v32, v33, v34, v35, v36, _, v38, v39, v40, v41, v42, v43, v31, v44, v45, v10, v11, rfl, hW, Free.of_set (by decide) l0, Free.of_set (by decide) l1, Free.of_set (by decide) l2, Free.of_set (by decide) l3, Free.of_set (by decide) l4, fun _ => rfl, Free.of_set (by decide) l6, Free.of_set (by decide) l7, Free.of_set (by decide) l8, Free.of_set (by decide) l9, Free.of_set (by decide) l10, Free.of_set (by decide) l11, Free.of_set (by decide) l12, Free.of_set (by decide) l13, Free.of_set (by decide) l14, Free.of_set (by decide) l17, fun e => by obtain ⟨bn, cn, dn, q1, q2, q3, q4⟩ := ln (Free.back (by decide) e); exact ⟨bn, cn, dn, q1, q2, q3, fun e2 => q4 (Free.back (by decide) e2)⟩, fun e => Free.fore (by decide) (lp (Free.back (by decide) e))⟩)
                · refine Free.op rfl rfl (fun K hK => ?_)
                  go_simp
                  exact hK _ _ ((HI.out _ _ _).2 ⟨v32, v33, v34, v35, v36, v37, _, v39, v40, v41, v42, v43, v31, v44, v45, v10, v11, rfl, hW, Free.of_set (by decide) l0, Free.of_set (by decide) l1, Free.of_set (by decide) l2, Free.of_set (by decide) l3, Free.of_set (by decide) l4, Free.of_set (by decide) l5, fun _ => rfl, Free.of_set (by decide) l7, Free.of_set (by decide) l8, Free.of_set (by decide) l9, Free.of_set (by decide) l10, Free.of_set (by decide) l11, Free.of_set (by decide) l12, Free.of_set (by decide) l13, Free.of_set (by decide) l14, Free.of_set (by decide) l17, fun e => by obtain ⟨bn, cn, dn, q1, q2, q3, q4⟩ := ln (Free.back (by decide) e); exact ⟨bn, cn, dn, q1, q2, q3, fun e2 => q4 (Free.back (by decide) e2)⟩, fun e => Free.fore (by decide) (lp (Free.back (by decide) e))⟩)
                · refine Free.op rfl rfl (fun K hK => ?_)
                  obtain rfl := l4 (hne 4 (by kernel_rfl))
                  obtain rfl := l5 (hne 5 (by kernel_rfl))
                  go_simp
                  exact hK _ _ ((HI.out _ _ _).2 ⟨v32, v33, v34, v35, _, _, v38, _, v40, v41, v42, v43, v31, v44, v45, v10, v11, rfl, hW, Free.of_set (by decide) l0, Free.of_set (by decide) l1, Free.of_set (by decide) l2, Free.of_set (by decide) l3, fun _ => rfl, fun _ => rfl, Free.of_set (by decide) l6, fun _ => rfl, Free.of_set (by decide) l8, Free.of_set (by decide) l9, Free.of_set (by decide) l10, Free.of_set (by decide) l11, Free.of_set (by decide) l12, Free.of_set (by decide) l13, Free.of_set (by decide) l14, Free.of_set (by decide) l17, fun e => by obtain ⟨bn, cn, dn, q1, q2, q3, q4⟩ := ln (Free.back (by decide) e); exact ⟨bn, cn, dn, q1, q2, q3, fun e2 => q4 (Free.back (by decide) e2)⟩, fun e => Free.fore (by decide) (lp (Free.back (by decide) e))⟩)
                · refine Free.op rfl rfl (fun K hK => ?_)
                  obtain rfl := l7 (hne 7 (by kernel_rfl))
                  go_simp
                  exact hK _ _ ((HI.out _ _ _).2 ⟨v32, v33, v34, v35, v36, v37, v38, _, _, v41, v42, v43, v31, v44, v45, v10, v11, rfl, hW, Free.of_set (by decide) l0, Free.of_set (by decide) l1, Free.of_set (by decide) l2, Free.of_set (by decide) l3, Free.of_set (by decide) l4, Free.of_set (by decide) l5, Free.of_set (by decide) l6, fun _ => rfl, fun _ => rfl, Free.of_set (by decide) l9, Free.of_set (by decide) l10, Free.of_set (by decide) l11, Free.of_set (by decide) l12, Free.of_set (by decide) l13, Free.of_set (by decide) l14, Free.of_set (by decide) l17, fun e => by obtain ⟨bn, cn, dn, q1, q2, q3, q4⟩ := ln (Free.back (by decide) e); exact ⟨bn, cn, dn, q1, q2, q3, fun e2 => q4 (Free.back (by decide) e2)⟩, fun e => Free.fore (by decide) (lp (Free.back (by decide) e))⟩)
                · refine Free.op rfl rfl (fun K hK => ?_)
                  obtain rfl := l6 (hne 6 (by kernel_rfl))
                  obtain rfl := l8 (hne 8 (by kernel_rfl))
                  go_simp
                  exact hK _ _ ((HI.out _ _ _).2 ⟨v32, v33, v34, v35, v36, v37, _, v39, _, _, v42, v43, v31, v44, v45, v10, v11, rfl, hW, Free.of_set (by decide) l0, Free.of_set (by decide) l1, Free.of_set (by decide) l2, Free.of_set (by decide) l3, Free.of_set (by decide) l4, Free.of_set (by decide) l5, fun _ => rfl, Free.of_set (by decide) l7, fun _ => rfl, fun _ => rfl, Free.of_set (by decide) l10, Free.of_set (by decide) l11, Free.of_set (by decide) l12, Free.of_set (by decide) l13, Free.of_set (by decide) l14, Free.of_set (by decide) l17, fun e => by obtain ⟨bn, cn, dn, q1, q2, q3, q4⟩ := ln (Free.back (by decide) e); exact ⟨bn, cn, dn, q1, q2, q3, fun e2 => q4 (Free.back (by decide) e2)⟩, fun e => Free.fore (by decide) (lp (Free.back (by decide) e))⟩)
                · have z0 := ((hT.keep hW hTl).times hk3).trans HQ.out
                  refine Free.op rfl rfl (fun K hK => ?_)
                  obtain rfl := l9 (hne 9 (by kernel_rfl))
                  go_simp
                  exact hK _ _ ((HI.out _ _ _).2 ⟨v32, v33, v34, v35, v36, v37, v38, v39, v40, _, _, v43, v31, v44, v45, v10, v11, rfl, hW, Free.of_set (by decide) l0, Free.of_set (by decide) l1, Free.of_set (by decide) l2, Free.of_set (by decide) l3, Free.of_set (by decide) l4, Free.of_set (by decide) l5, Free.of_set (by decide) l6, Free.of_set (by decide) l7, Free.of_set (by decide) l8, fun _ => rfl, fun _ => rfl, Free.of_set (by decide) l11, Free.of_set (by decide) l12, Free.of_set (by decide) l13, Free.of_set (by decide) l14, Free.of_set (by decide) l17, fun e => by obtain ⟨bn, cn, dn, q1, q2, q3, q4⟩ := ln (Free.back (by decide) e); exact ⟨bn, cn, dn, q1, q2, q3, fun e2 => q4 (Free.back (by decide) e2)⟩, fun e => Free.fore (by decide) (lp (Free.back (by decide) e))⟩)
                · refine Free.op rfl rfl (fun K hK => ?_)
                  obtain rfl := l3 (hne 3 (by kernel_rfl))
                  obtain rfl := l10 (hne 10 (by kernel_rfl))
                  go_wp2_with (go_at_call 30; refine (HP _).out.mono ?_; rintro e W3 ⟨rfl, hb⟩)
                  exact (HI.out _ _ _).2 ⟨v32, v33, v34, _, v36, v37, v38, v39, v40, v41, _, _, v31, v44, v45, v10, v11, rfl, hW.trans (hb.mono hW.size), Free.of_set (by decide) l0, Free.of_set (by decide) l1, Free.of_set (by decide) l2, fun _ => rfl, Free.of_set (by decide) l4, Free.of_set (by decide) l5, Free.of_set (by decide) l6, Free.of_set (by decide) l7, Free.of_set (by decide) l8, Free.of_set (by decide) l9, fun _ => rfl, fun _ => rfl, Free.of_set (by decide) l12, Free.of_set (by decide) l13, Free.of_set (by decide) l14, Free.of_set (by decide) l17, fun e => by obtain ⟨bn, cn, dn, q1, q2, q3, q4⟩ := ln (Free.back (by decide) e); exact ⟨bn, cn, dn, q1, q2, (q3.step hb), fun e2 => q4 (Free.back (by decide) e2)⟩, fun e => Free.fore (by decide) (lp (Free.back (by decide) e))⟩
                · refine Free.op rfl rfl (fun K hK => ?_)
                  obtain rfl := l11 (hne 11 (by kernel_rfl))
                  go_simp
                  exact hK _ _ ((HI.out _ _ _).2 ⟨v32, v33, v34, v35, v36, v37, v38, v39, v40, v41, v42, _, _, v44, v45, v10, v11, rfl, hW, Free.of_set (by decide) l0, Free.of_set (by decide) l1, Free.of_set (by decide) l2, Free.of_set (by decide) l3, Free.of_set (by decide) l4, Free.of_set (by decide) l5, Free.of_set (by decide) l6, Free.of_set (by decide) l7, Free.of_set (by decide) l8, Free.of_set (by decide) l9, Free.of_set (by decide) l10, fun _ => rfl, fun _ => rfl, Free.of_set (by decide) l13, Free.of_set (by decide) l14, Free.of_set (by decide) l17, fun e => by obtain ⟨bn, cn, dn, q1, q2, q3, q4⟩ := ln (Free.back (by decide) e); exact ⟨bn, cn, dn, q1, q2, q3, fun e2 => q4 (Free.back (by decide) e2)⟩, fun e => Free.fore (by decide) (lp (Free.back (by decide) e))⟩)
                · refine Free.op rfl rfl (fun K hK => ?_)
                  obtain rfl := l12 (hne 12 (by kernel_rfl))
                  go_simp
                  exact hK _ _ ((HI.out _ _ _).2 ⟨v32, v33, v34, v35, v36, v37, v38, v39, v40, v41, v42, v43, _, _, v45, v10, v11, rfl, hW, Free.of_set (by decide) l0, Free.of_set (by decide) l1, Free.of_set (by decide) l2, Free.of_set (by decide) l3, Free.of_set (by decide) l4, Free.of_set (by decide) l5, Free.of_set (by decide) l6, Free.of_set (by decide) l7, Free.of_set (by decide) l8, Free.of_set (by decide) l9, Free.of_set (by decide) l10, Free.of_set (by decide) l11, fun _ => rfl, fun _ => rfl, Free.of_set (by decide) l14, Free.of_set (by decide) l17, fun e => by obtain ⟨bn, cn, dn, q1, q2, q3, q4⟩ := ln (Free.back (by decide) e); exact ⟨bn, cn, dn, q1, q2, q3, fun e2 => q4 (Free.back (by decide) e2)⟩, fun e => Free.fore (by decide) (lp (Free.back (by decide) e))⟩)
                · refine Free.op rfl rfl (fun K hK => ?_)
                  obtain rfl := l12 (hne 12 (by kernel_rfl))
                  go_simp
                  exact hK _ _ ((HI.out _ _ _).2 ⟨v32, v33, v34, v35, v36, v37, v38, v39, v40, v41, v42, v43, _, v44, _, v10, v11, rfl, hW, Free.of_set (by decide) l0, Free.of_set (by decide) l1, Free.of_set (by decide) l2, Free.of_set (by decide) l3, Free.of_set (by decide) l4, Free.of_set (by decide) l5, Free.of_set (by decide) l6, Free.of_set (by decide) l7, Free.of_set (by decide) l8, Free.of_set (by decide) l9, Free.of_set (by decide) l10, Free.of_set (by decide) l11, fun _ => rfl, Free.of_set (by decide) l13, fun _ => rfl, Free.of_set (by decide) l17, fun e => by obtain ⟨bn, cn, dn, q1, q2, q3, q4⟩ := ln (Free.back (by decide) e); exact ⟨bn, cn, dn, q1, q2, q3, fun e2 => q4 (Free.back (by decide) e2)⟩, fun e => Free.fore (by decide) (lp (Free.back (by decide) e))⟩)
                · have hs : listed.getD 16 false = false := by
                    cases e : listed.getD 16 false
                    · rfl
                    · rw [Free.off hnl] at lp; cases lp e
                  refine Free.op rfl rfl (fun K hK => ?_)
                  go_simp
                  exact hK _ _ ((HI.out _ _ _).2 ⟨v32, v33, v34, v35, v36, v37, v38, v39, v40, v41, v42, v43, v31, v44, v45, _, v11, rfl, hW.alloc hW.size _, Free.of_set (by decide) l0, Free.of_set (by decide) l1, Free.of_set (by decide) l2, Free.of_set (by decide) l3, Free.of_set (by decide) l4, Free.of_set (by decide) l5, Free.of_set (by decide) l6, Free.of_set (by decide) l7, Free.of_set (by decide) l8, Free.of_set (by decide) l9, Free.of_set (by decide) l10, Free.of_set (by decide) l11, Free.of_set (by decide) l12, Free.of_set (by decide) l13, Free.of_set (by decide) l14, Free.of_set (by decide) l17, fun _ => ⟨_, _, _, rfl, hW.size, Sp.new _ _ _, fun e => by rw [Free.set_other (by decide), hs] at e; cases e⟩, fun e => by rw [Free.set_other (by decide), hs] at e; cases e⟩)
                · have N := hid (hne 15 (by kernel_rfl))
                  obtain ⟨bn, cn, dn, q1, q2, q3, q4⟩ := ln N.out
                  subst q1
                  have y1 := q3.fl
                  have y2 := q3.fh
                  have y3 := q3.lo
                  have y4 := q3.hi
                  refine Free.op rfl rfl (fun K hK => ?_)
                  obtain rfl := l13 (hne 13 (by kernel_rfl))
                  go_simp
                  exact hK _ _ ((HI.out _ _ _).2 ⟨v32, v33, v34, v35, v36, v37, v38, v39, v40, v41, v42, v43, v31, _, v45, _, v11, rfl, (hW.setCell q2 _).setCell q2 _, Free.of_set (by decide) l0, Free.of_set (by decide) l1, Free.of_set (by decide) l2, Free.of_set (by decide) l3, Free.of_set (by decide) l4, Free.of_set (by decide) l5, Free.of_set (by decide) l6, Free.of_set (by decide) l7, Free.of_set (by decide) l8, Free.of_set (by decide) l9, Free.of_set (by decide) l10, Free.of_set (by decide) l11, Free.of_set (by decide) l12, fun _ => rfl, Free.of_set (by decide) l14, Free.of_set (by decide) l17, fun _ => ⟨_, _, _, rfl, q2, q3.set _ _, fun _ => ⟨rfl, rfl⟩⟩, fun _ => Free.fore (by decide) N.out⟩)
                · refine Free.op rfl rfl (fun K hK => ?_)
                  obtain rfl := l14 (hne 14 (by kernel_rfl))
                  go_simp
                  exact hK _ _ ((HI.out _ _ _).2 ⟨v32, v33, v34, v35, v36, v37, v38, v39, v40, v41, v42, v43, v31, v44, _, v10, _, rfl, hW, Free.of_set (by decide) l0, Free.of_set (by decide) l1, Free.of_set (by decide) l2, Free.of_set (by decide) l3, Free.of_set (by decide) l4, Free.of_set (by decide) l5, Free.of_set (by decide) l6, Free.of_set (by decide) l7, Free.of_set (by decide) l8, Free.of_set (by decide) l9, Free.of_set (by decide) l10, Free.of_set (by decide) l11, Free.of_set (by decide) l12, Free.of_set (by decide) l13, fun _ => rfl, fun _ => rfl, fun e => by obtain ⟨bn, cn, dn, q1, q2, q3, q4⟩ := ln (Free.back (by decide) e); exact ⟨bn, cn, dn, q1, q2, q3, fun e2 => q4 (Free.back (by decide) e2)⟩, fun e => Free.fore (by decide) (lp (Free.back (by decide) e))⟩)
              case s3 =>
                intro listed aq W1 hall hsz hv
                obtain ⟨v32, v33, v34, v35, v36, v37, v38, v39, v40, v41, v42, v43, v31, v44, v45, v10, v11, rfl, hW, l0, l1, l2, l3, l4, l5, l6, l7, l8, l9, l10, l11, l12, l13, l14, l17, ln, lp⟩ := (HI.out _ _ _).1 hv
                clear hv HI
                obtain ⟨bn, cn, dn, rfl, hbn, hSn, q4⟩ := ln (Free.listed_of hall hsz 15 (by decide))
                obtain ⟨rfl, rfl⟩ := q4 (Free.listed_of hall hsz 16 (by decide))
                clear ln lp
                obtain rfl := l0 (Free.listed_of hall hsz 0 (by decide))
                obtain rfl := l1 (Free.listed_of hall hsz 1 (by decide))
                obtain rfl := l2 (Free.listed_of hall hsz 2 (by decide))
                obtain rfl := l3 (Free.listed_of hall hsz 3 (by decide))
                obtain rfl := l4 (Free.listed_of hall hsz 4 (by decide))
                obtain rfl := l5 (Free.listed_of hall hsz 5 (by decide))
                obtain rfl := l6 (Free.listed_of hall hsz 6 (by decide))
                obtain rfl := l7 (Free.listed_of hall hsz 7 (by decide))
                obtain rfl := l8 (Free.listed_of hall hsz 8 (by decide))
                obtain rfl := l9 (Free.listed_of hall hsz 9 (by decide))
                obtain rfl := l10 (Free.listed_of hall hsz 10 (by decide))
                obtain rfl := l11 (Free.listed_of hall hsz 11 (by decide))
                obtain rfl := l12 (Free.listed_of hall hsz 12 (by decide))
                obtain rfl := l13 (Free.listed_of hall hsz 13 (by decide))
                obtain rfl := l14 (Free.listed_of hall hsz 14 (by decide))
                obtain rfl := l17 (Free.listed_of hall hsz 17 (by decide))
                clear hall hsz
                have hF := hF0.add hW hSn hbn
                clear hF0 hW hSn hT hB
                have x0l := (hF.at 0 rfl).lo
                have x0h := (hF.at 0 rfl).hi
                have x1l := (hF.at 1 rfl).lo
                have x1h := (hF.at 1 rfl).hi
                go_wp2_with (go_at_call 31; refine (HT _).out.mono ?_; rintro e wn ⟨rfl, hb⟩; replace hF := hF.step hb; clear hb; clear HT; clear x0l x0h x1l x1h; have y1 := (hF.at 1 rfl).fl; have y2 := (hF.at 1 rfl).fh; have y3 := (hF.at 1 rfl).lo; have y4 := (hF.at 1 rfl).hi; have y6 := (hF.at 1 rfl).r0; have y7 := (hF.at 1 rfl).r1; replace hF := hF.put 1 rfl R.1 R.2.1 rfl; have w1 := (hF.at 3 rfl).fl; have w2 := (hF.at 3 rfl).fh; have w3 := (hF.at 3 rfl).lo; have w4 := (hF.at 3 rfl).hi; have w6 := (hF.at 3 rfl).r0; have w7 := (hF.at 3 rfl).r1)
                refine bodyPost_ret (by simp [results, Tryd.results19, go_sem, w6, w7]; try rfl) rfl ?_
                rw [HM.out]
                exact ⟨rfl, (hF.put 3 rfl _ _ rfl).below⟩

          · have e4 : P.2.2 = 4 := by rw [HPF.out.resolve_left c]
            have HM2 := HPB (by rw [(HP4 c).out]; decide)
            have HM : Hid (Um.frR f b = (0, 0, P.2.2)) := by rw [HM2.out, e4]; exact hid rfl
            have kP : (P.2.2 == 0) = false := by simpa using c
            have kP2 : (P.2.2 != 0) = true := by simpa using c
            clear HPB HPC HPF HPN HP4 c HM2 e4 HCC
            go_wp2
            obtain ⟨Inv, hInv⟩ : ∃ Inv : Array Bool → Act → World → Prop, ∀ listed aq W', Inv listed aq W' ↔ (∃ v32 v33 v34 v35 v36 v37 v38 v39 v40 v41 v42 v43 v31 v44 v45 v10 v11 : Value, aq = { tmps := #[Value.slice (some { block := b1, off := off1 }) f.length cap0, Value.slice (some { block := b2, off := off2 }) b.length cap2, undef, undef, Value.pointer (some { block := w.heap.size, off := 0 }), u5, Value.pointer (some { block := w.heap.size + 1, off := 0 }), Value.int IntKind.i64 ↑n, Value.pointer (some { block := B2, off := 0 }), Value.int IntKind.i64 ↑k, v10, v11, u12, Value.int IntKind.i64 ↑n, Value.slice (some { block := b1, off := off1 }) f.length cap0, Value.int IntKind.i64 ↑f.length, Value.bool true, u17, u18, Value.slice (some { block := b1, off := off1 }) f.length cap0, Value.int IntKind.i64 ↑n, Value.pointer (some { block := b1, off := off1 + n * 4 }), Value.pointer (some { block := b1, off := off1 + n * 4 }), Value.int IntKind.i64 t.fst, Value.agg #[Value.int IntKind.i64 t.fst, Value.int IntKind.i64 t.fst], Value.int IntKind.i64 ↑k, Value.slice (some { block := b2, off := off2 }) b.length cap2, Value.int IntKind.i64 ↑b.length, Value.bool true, u29, u30, v31, v32, v33, v34, v35, v36, v37, v38, v39, v40, v41, v42, v43, v44, v45, u46, u47, u48, u49, u50, u51, u52, u53, u54, u55, u56, u57, u58, u59, u60, u61, u62, u63, u64, u65, u66, u67, undef], defers := [] } ∧ Below (wr).heap.size (wr) W' ∧ (listed.getD 0 false = true → v32 = Value.slice (some { block := b2, off := off2 }) b.length cap2) ∧ (listed.getD 1 false = true → v33 = Value.int IntKind.i64 ↑k) ∧ (listed.getD 2 false = true → v34 = .pointer (some ⟨b2, off2 + k * 2, none⟩)) ∧ (listed.getD 3 false = true → v35 = .agg #[.int .i64 C0, .int .i64 C1]) ∧ (listed.getD 4 false = true → v36 = Value.slice (some { block := b1, off := off1 }) f.length cap0) ∧ (listed.getD 5 false = true → v37 = Value.int IntKind.i64 ↑n) ∧ (listed.getD 6 false = true → v38 = Value.int IntKind.i64 ↑k) ∧ (listed.getD 7 false = true → v39 = .pointer (some ⟨b1, off1 + n * 4, none⟩)) ∧ (listed.getD 8 false = true → v40 = .pointer (some ⟨b1, off1 + n * 4 + 1, none⟩)) ∧ (listed.getD 9 false = true → v41 = .pointer (some ⟨b1, off1 + n * 4 + 1 + k, none⟩)) ∧ (listed.getD 10 false = true → v42 = .int .i64 (Q)) ∧ (listed.getD 11 false = true → v43 = (.tuple #[.agg #[.int .i64 P.1, .int .i64 P.2.1], .int .i64 P.2.2])) ∧ (listed.getD 12 false = true → v31 = (.tuple #[.agg #[.int .i64 P.1, .int .i64 P.2.1], .int .i64 P.2.2])) ∧ (listed.getD 13 false = true → v44 = .agg #[.int .i64 P.1, .int .i64 P.2.1]) ∧ (listed.getD 14 false = true → v45 = .int .i64 P.2.2) ∧ (listed.getD 17 false = true → v11 = .int .i64 P.2.2) ∧ (listed.getD 15 false = true → ∃ (bn : Nat) (cn dn : Int), v10 = .pointer (some ⟨bn, 0, none⟩) ∧ (wr).heap.size ≤ bn ∧ Sp W' bn cn dn ∧ (listed.getD 16 false = true → cn = P.1 ∧ dn = P.2.1)) ∧ (listed.getD 16 false = true → listed.getD 15 false = true)) := ⟨_, fun _ _ _ => Iff.rfl⟩
            have HI := hid hInv
            clear hInv
            refine Free.region hmx (by kernel_rfl) Inv ?s1 ?s2 ?s3
            case s1 =>
              exact (HI.out _ _ _).2 ⟨u32, u33, u34, u35, u36, u37, u38, u39, u40, u41, u42, u43, u31, u44, u45, u10, u11, rfl, (Below.refl _ _).drew, Free.not_yet, Free.not_yet, Free.not_yet, Free.not_yet, Free.not_yet, Free.not_yet, Free.not_yet, Free.not_yet, Free.not_yet, Free.not_yet, Free.not_yet, Free.not_yet, Free.not_yet, Free.not_yet, Free.not_yet, Free.not_yet, Free.not_yet, Free.not_yet⟩
            case s2 =>
              intro i listed aq W1 hix hne hnl hsz hv
              obtain ⟨v32, v33, v34, v35, v36, v37, v38, v39, v40, v41, v42, v43, v31, v44, v45, v10, v11, rfl, hW, l0, l1, l2, l3, l4, l5, l6, l7, l8, l9, l10, l11, l12, l13, l14, l17, ln, lp⟩ := (HI.out _ _ _).1 hv
              clear hv
              replace hix : i < 18 := hix
              replace hsz : listed.size = 18 := hsz
              rcases (by omega : i = 0 ∨ i = 1 ∨ i = 2 ∨ i = 3 ∨ i = 4 ∨ i = 5 ∨ i = 6 ∨ i = 7 ∨ i = 8 ∨ i = 9 ∨ i = 10 ∨ i = 11 ∨ i = 12 ∨ i = 13 ∨ i = 14 ∨ i = 15 ∨ i = 16 ∨ i = 17) with rfl | rfl | rfl | rfl | rfl | rfl | rfl | rfl | rfl | rfl | rfl | rfl | rfl | rfl | rfl | rfl | rfl | rfl
              · refine Free.op rfl rfl (fun K hK => ?_)
                go_simp
                exact hK _ _ ((HI.out _ _ _).2 ⟨_, v33, v34, v35, v36, v37, v38, v39, v40, v41, v42, v43, v31, v44, v45, v10, v11, rfl, hW, fun _ => rfl, Free.of_set (by decide) l1, Free.of_set (by decide) l2, Free.of_set (by decide) l3, Free.of_set (by decide) l4, Free.of_set (by decide) l5, Free.of_set (by decide) l6, Free.of_set (by decide) l7, Free.of_set (by decide) l8, Free.of_set (by decide) l9, Free.of_set (by decide) l10, Free.of_set (by decide) l11, Free.of_set (by decide) l12, Free.of_set (by decide) l13, Free.of_set (by decide) l14, Free.of_set (by decide) l17, fun e => by obtain ⟨bn, cn, dn, q1, q2, q3, q4⟩ := ln (Free.back (by decide) e); exact ⟨bn, cn, dn, q1, q2, q3, fun e2 => q4 (Free.back (by decide) e2)⟩, fun e => Free.fore (by decide) (lp (Free.back (by decide) e))⟩)
              · refine Free.op rfl rfl (fun K hK => ?_)
                go_simp
                exact hK _ _ ((HI.out _ _ _).2 ⟨v32, _, v34, v35, v36, v37, v38, v39, v40, v41, v42, v43, v31, v44, v45, v10, v11, rfl, hW, Free.of_set (by decide) l0, fun _ => rfl, Free.of_set (by decide) l2, Free.of_set (by decide) l3, Free.of_set (by decide) l4, Free.of_set (by decide) l5, Free.of_set (by decide) l6, Free.of_set (by decide) l7, Free.of_set (by decide) l8, Free.of_set (by decide) l9, Free.of_set (by decide) l10, Free.of_set (by decide) l11, Free.of_set (by decide) l12, Free.of_set (by decide) l13, Free.of_set (by decide) l14, Free.of_set (by decide) l17, fun e => by obtain ⟨bn, cn, dn, q1, q2, q3, q4⟩ := ln (Free.back (by decide) e); exact ⟨bn, cn, dn, q1, q2, q3, fun e2 => q4 (Free.back (by decide) e2)⟩, fun e => Free.fore (by decide) (lp (Free.back (by decide) e))⟩)
              · refine Free.op rfl rfl (fun K hK => ?_)
                obtain rfl := l0 (hne 0 (by kernel_rfl))
                obtain rfl := l1 (hne 1 (by kernel_rfl))
                go_simp
                exact hK _ _ ((HI.out _ _ _).2 ⟨_, _, _, v35, v36, v37, v38, v39, v40, v41, v42, v43, v31, v44, v45, v10, v11, rfl, hW, fun _ => rfl, fun _ => rfl, fun _ => rfl, Free.of_set (by decide) l3, Free.of_set (by decide) l4, Free.of_set (by decide) l5, Free.of_set (by decide) l6, Free.of_set (by decide) l7, Free.of_set (by decide) l8, Free.of_set (by decide) l9, Free.of_set (by decide) l10, Free.of_set (by decide) l11, Free.of_set (by decide) l12, Free.of_set (by decide) l13, Free.of_set (by decide) l14, Free.of_set (by decide) l17, fun e => by obtain ⟨bn, cn, dn, q1, q2, q3, q4⟩ := ln (Free.back (by decide) e); exact ⟨bn, cn, dn, q1, q2, q3, fun e2 => q4 (Free.back (by decide) e2)⟩, fun e => Free.fore (by decide) (lp (Free.back (by decide) e))⟩)
              · have z0 := (hB.step hW).lo k HB.out rfl
                have z1 := (hB.step hW).hi k HB.out rfl
                refine Free.op rfl rfl (fun K hK => ?_)
                obtain rfl := l2 (hne 2 (by kernel_rfl))
                go_simp
                exact hK _ _ ((HI.out _ _ _).2 ⟨v32, v33, _, _, v36, v37, v38, v39, v40, v41, v42, v43, v31, v44, v45, v10, v11, rfl, hW, Free.of_set (by decide) l0, Free.of_set (by decide) l1, fun _ => rfl, fun _ => rfl, Free.of_set (by decide) l4, Free.of_set (by decide) l5, Free.of_set (by decide) l6, Free.of_set (by decide) l7, Free.of_set (by decide) l8, Free.of_set (by decide) l9, Free.of_set (by decide) l10, Free.of_set (by decide) l11, Free.of_set (by decide) l12, Free.of_set (by decide) l13, Free.of_set (by decide) l14, Free.of_set (by decide) l17, fun e => by obtain ⟨bn, cn, dn, q1, q2, q3, q4⟩ := ln (Free.back (by decide) e); exact ⟨bn, cn, dn, q1, q2, q3, fun e2 => q4 (Free.back (by decide) e2)⟩, fun e => Free.fore (by decide) (lp (Free.back (by decide) e))⟩)
              · refine Free.op rfl rfl (fun K hK => ?_)
                go_simp
                exact hK _ _ ((HI.out _ _ _).2 ⟨v32, v33, v34, v35, _, v37, v38, v39, v40, v41, v42, v43, v31, v44, v45, v10, v11, rfl, hW, Free.of_set (by decide) l0, Free.of_set (by decide) l1, Free.of_set (by decide) l2, Free.of_set (by decide) l3, fun _ => rfl, Free.of_set (by decide) l5, Free.of_set (by decide) l6, Free.of_set (by decide) l7, Free.of_set (by decide) l8, Free.of_set (by decide) l9, Free.of_set (by decide) l10, Free.of_set (by decide) l11, Free.of_set (by decide) l12, Free.of_set (by decide) l13, Free.of_set (by decide) l14, Free.of_set (by decide) l17, fun e => by obtain ⟨bn, cn, dn, q1, q2, q3, q4⟩ := ln (Free.back (by decide) e); exact ⟨bn, cn, dn, q1, q2, q3, fun e2 => q4 (Free.back (by decide) e2)⟩, fun e => Free.fore (by decide) (lp (Free.back (by decide) e))⟩)
              · refine Free.op rfl rfl (fun K hK => ?_)
                go_simp
                exact hK _ _ ((HI.out _ _ _).2 ⟨v32, v33, v34, v35, v36, _, v38, v39, v40, v41, v42, v43, v31, v44, v45, v10, v11, rfl, hW, Free.of_set (by decide) l0, Free.of_set (by decide) l1, Free.of_set (by decide) l2, Free.of_set (by decide) l3, Free.of_set (by decide) l4, fun _ => rfl, Free.of_set (by decide) l6, Free.of_set (by decide) l7, Free.of_set (by decide) l8, Free.of_set (by decide) l9, Free.of_set (by decide) l10, Free.of_set (by decide) l11, Free.of_set (by decide) l12, Free.of_set (by decide) l13, Free.of_set (by decide) l14, Free.of_set (by decide) l17, fun e => by obtain ⟨bn, cn, dn, q1, q2, q3, q4⟩ := ln (Free.back (by decide) e); exact ⟨bn, cn, dn, q1, q2, q3, fun e2 => q4 (Free.back (by decide) e2)⟩, fun e => Free.fore (by decide) (lp (Free.back (by decide) e))⟩)
              · refine Free.op rfl rfl (fun K hK => ?_)
                go_simp
                exact hK _ _ ((HI.out _ _ _).2 ⟨v32, v33, v34, v35, v36, v37, _, v39, v40, v41, v42, v43, v31, v44, v45, v10, v11, rfl, hW, Free.of_set (by decide) l0, Free.of_set (by decide) l1, Free.of_set (by decide) l2, Free.of_set (by decide) l3, Free.of_set (by decide) l4, Free.of_set (by decide) l5, fun _ => rfl, Free.of_set (by decide) l7, Free.of_set (by decide) l8, Free.of_set (by decide) l9, Free.of_set (by decide) l10, Free.of_set (by decide) l11, Free.of_set (by decide) l12, Free.of_set (by decide) l13, Free.of_set (by decide) l14, Free.of_set (by decide) l17, fun e => by obtain ⟨bn, cn, dn, q1, q2, q3, q4⟩ := ln (Free.back (by decide) e); exact ⟨bn, cn, dn, q1, q2, q3, fun e2 => q4 (Free.back (by decide) e2)⟩, fun e => Free.fore (by decide) (lp (Free.back (by decide) e))⟩)
              · refine Free.op rfl rfl (fun K hK => ?_)
                obtain rfl := l4 (hne 4 (by kernel_rfl))
                obtain rfl := l5 (hne 5 (by kernel_rfl))
                go_simp
                exact hK _ _ ((HI.out _ _ _).2 ⟨v32, v33, v34, v35, _, _, v38, _, v40, v41, v42, v43, v31, v44, v45, v10, v11, rfl, hW, Free.of_set (by decide) l0, Free.of_set (by decide) l1, Free.of_set (by decide) l2, Free.of_set (by decide) l3, fun _ => rfl, fun _ => rfl, Free.of_set (by decide) l6, fun _ => rfl, Free.of_set (by decide) l8, Free.of_set (by decide) l9, Free.of_set (by decide) l10, Free.of_set (by decide) l11, Free.of_set (by decide) l12, Free.of_set (by decide) l13, Free.of_set (by decide) l14, Free.of_set (by decide) l17, fun e => by obtain ⟨bn, cn, dn, q1, q2, q3, q4⟩ := ln (Free.back (by decide) e); exact ⟨bn, cn, dn, q1, q2, q3, fun e2 => q4 (Free.back (by decide) e2)⟩, fun e => Free.fore (by decide) (lp (Free.back (by decide) e))⟩)
              · refine Free.op rfl rfl (fun K hK => ?_)
                obtain rfl := l7 (hne 7 (by kernel_rfl))
                go_simp
                exact hK _ _ ((HI.out _ _ _).2 ⟨v32, v33, v34, v35, v36, v37, v38, _, _, v41, v42, v43, v31, v44, v45, v10, v11, rfl, hW, Free.of_set (by decide) l0, Free.of_set (by decide) l1, Free.of_set (by decide) l2, Free.of_set (by decide) l3, Free.of_set (by decide) l4, Free.of_set (by decide) l5, Free.of_set (by decide) l6, fun _ => rfl, fun _ => rfl, Free.of_set (by decide) l9, Free.of_set (by decide) l10, Free.of_set (by decide) l11, Free.of_set (by decide) l12, Free.of_set (by decide) l13, Free.of_set (by decide) l14, Free.of_set (by decide) l17, fun e => by obtain ⟨bn, cn, dn, q1, q2, q3, q4⟩ := ln (Free.back (by decide) e); exact ⟨bn, cn, dn, q1, q2, q3, fun e2 => q4 (Free.back (by decide) e2)⟩, fun e => Free.fore (by decide) (lp (Free.back (by decide) e))⟩)
              · refine Free.op rfl rfl (fun K hK => ?_)
                obtain rfl := l6 (hne 6 (by kernel_rfl))
                obtain rfl := l8 (hne 8 (by kernel_rfl))
                go_simp
                exact hK _ _ ((HI.out _ _ _).2 ⟨v32, v33, v34, v35, v36, v37, _, v39, _, _, v42, v43, v31, v44, v45, v10, v11, rfl, hW, Free.of_set (by decide) l0, Free.of_set (by decide) l1, Free.of_set (by decide) l2, Free.of_set (by decide) l3, Free.of_set (by decide) l4, Free.of_set (by decide) l5, fun _ => rfl, Free.of_set (by decide) l7, fun _ => rfl, fun _ => rfl, Free.of_set (by decide) l10, Free.of_set (by decide) l11, Free.of_set (by decide) l12, Free.of_set (by decide) l13, Free.of_set (by decide) l14, Free.of_set (by decide) l17, fun e => by obtain ⟨bn, cn, dn, q1, q2, q3, q4⟩ := ln (Free.back (by decide) e); exact ⟨bn, cn, dn, q1, q2, q3, fun e2 => q4 (Free.back (by decide) e2)⟩, fun e => Free.fore (by decide) (lp (Free.back (by decide) e))⟩)
              · have z0 := ((hT.keep hW hTl).times hk3).trans HQ.out
                refine Free.op rfl rfl (fun K hK => ?_)
                obtain rfl := l9 (hne 9 (by kernel_rfl))
                go_simp
                exact hK _ _ ((HI.out _ _ _).2 ⟨v32, v33, v34, v35, v36, v37, v38, v39, v40, _, _, v43, v31, v44, v45, v10, v11, rfl, hW, Free.of_set (by decide) l0, Free.of_set (by decide) l1, Free.of_set (by decide) l2, Free.of_set (by decide) l3, Free.of_set (by decide) l4, Free.of_set (by decide) l5, Free.of_set (by decide) l6, Free.of_set (by decide) l7, Free.of_set (by decide) l8, fun _ => rfl, fun _ => rfl, Free.of_set (by decide) l11, Free.of_set (by decide) l12, Free.of_set (by decide) l13, Free.of_set (by decide) l14, Free.of_set (by decide) l17, fun e => by obtain ⟨bn, cn, dn, q1, q2, q3, q4⟩ := ln (Free.back (by decide) e); exact ⟨bn, cn, dn, q1, q2, q3, fun e2 => q4 (Free.back (by decide) e2)⟩, fun e => Free.fore (by decide) (lp (Free.back (by decide) e))⟩)
              · refine Free.op rfl rfl (fun K hK => ?_)
                obtain rfl := l3 (hne 3 (by kernel_rfl))
                obtain rfl := l10 (hne 10 (by kernel_rfl))
                go_wp2_with (go_at_call 30; refine (HP _).out.mono ?_; rintro e W3 ⟨rfl, hb⟩)
                exact (HI.out _ _ _).2 ⟨v32, v33, v34, _, v36, v37, v38, v39, v40, v41, _, _, v31, v44, v45, v10, v11, rfl, hW.trans (hb.mono hW.size), Free.of_set (by decide) l0, Free.of_set (by decide) l1, Free.of_set (by decide) l2, fun _ => rfl, Free.of_set (by decide) l4, Free.of_set (by decide) l5, Free.of_set (by decide) l6, Free.of_set (by decide) l7, Free.of_set (by decide) l8, Free.of_set (by decide) l9, fun _ => rfl, fun _ => rfl, Free.of_set (by decide) l12, Free.of_set (by decide) l13, Free.of_set (by decide) l14, Free.of_set (by decide) l17, fun e => by obtain ⟨bn, cn, dn, q1, q2, q3, q4⟩ := ln (Free.back (by decide) e); exact ⟨bn, cn, dn, q1, q2, (q3.step hb), fun e2 => q4 (Free.back (by decide) e2)⟩, fun e => Free.fore (by decide) (lp (Free.back (by decide) e))⟩
              · refine Free.op rfl rfl (fun K hK => ?_)
                obtain rfl := l11 (hne 11 (by kernel_rfl))
                go_simp
                exact hK _ _ ((HI.out _ _ _).2 ⟨v32, v33, v34, v35, v36, v37, v38, v39, v40, v41, v42, _, _, v44, v45, v10, v11, rfl, hW, Free.of_set (by decide) l0, Free.of_set (by decide) l1, Free.of_set (by decide) l2, Free.of_set (by decide) l3, Free.of_set (by decide) l4, Free.of_set (by decide) l5, Free.of_set (by decide) l6, Free.of_set (by decide) l7, Free.of_set (by decide) l8, Free.of_set (by decide) l9, Free.of_set (by decide) l10, fun _ => rfl, fun _ => rfl, Free.of_set (by decide) l13, Free.of_set (by decide) l14, Free.of_set (by decide) l17, fun e => by obtain ⟨bn, cn, dn, q1, q2, q3, q4⟩ := ln (Free.back (by decide) e); exact ⟨bn, cn, dn, q1, q2, q3, fun e2 => q4 (Free.back (by decide) e2)⟩, fun e => Free.fore (by decide) (lp (Free.back (by decide) e))⟩)
              · refine Free.op rfl rfl (fun K hK => ?_)
                obtain rfl := l12 (hne 12 (by kernel_rfl))
                go_simp
                exact hK _ _ ((HI.out _ _ _).2 ⟨v32, v33, v34, v35, v36, v37, v38, v39, v40, v41, v42, v43, _, _, v45, v10, v11, rfl, hW, Free.of_set (by decide) l0, Free.of_set (by decide) l1, Free.of_set (by decide) l2, Free.of_set (by decide) l3, Free.of_set (by decide) l4, Free.of_set (by decide) l5, Free.of_set (by decide) l6, Free.of_set (by decide) l7, Free.of_set (by decide) l8, Free.of_set (by decide) l9, Free.of_set (by decide) l10, Free.of_set (by decide) l11, fun _ => rfl, fun _ => rfl, Free.of_set (by decide) l14, Free.of_set (by decide) l17, fun e => by obtain ⟨bn, cn, dn, q1, q2, q3, q4⟩ := ln (Free.back (by decide) e); exact ⟨bn, cn, dn, q1, q2, q3, fun e2 => q4 (Free.back (by decide) e2)⟩, fun e => Free.fore (by decide) (lp (Free.back (by decide) e))⟩)
              · refine Free.op rfl rfl (fun K hK => ?_)
                obtain rfl := l12 (hne 12 (by kernel_rfl))
                go_simp
                exact hK _ _ ((HI.out _ _ _).2 ⟨v32, v33, v34, v35, v36, v37, v38, v39, v40, v41, v42, v43, _, v44, _, v10, v11, rfl, hW, Free.of_set (by decide) l0, Free.of_set (by decide) l1, Free.of_set (by decide) l2, Free.of_set (by decide) l3, Free.of_set (by decide) l4, Free.of_set (by decide) l5, Free.of_set (by decide) l6, Free.of_set (by decide) l7, Free.of_set (by decide) l8, Free.of_set (by decide) l9, Free.of_set (by decide) l10, Free.of_set (by decide) l11, fun _ => rfl, Free.of_set (by decide) l13, fun _ => rfl, Free.of_set (by decide) l17, fun e => by obtain ⟨bn, cn, dn, q1, q2, q3, q4⟩ := ln (Free.back (by decide) e); exact ⟨bn, cn, dn, q1, q2, q3, fun e2 => q4 (Free.back (by decide) e2)⟩, fun e => Free.fore (by decide) (lp (Free.back (by decide) e))⟩)
              · have hs : listed.getD 16 false = false := by
                  cases e : listed.getD 16 false
                  · rfl
                  · rw [Free.off hnl] at lp; cases lp e
                refine Free.op rfl rfl (fun K hK => ?_)
                go_simp
                exact hK _ _ ((HI.out _ _ _).2 ⟨v32, v33, v34, v35, v36, v37, v38, v39, v40, v41, v42, v43, v31, v44, v45, _, v11, rfl, hW.alloc hW.size _, Free.of_set (by decide) l0, Free.of_set (by decide) l1, Free.of_set (by decide) l2, Free.of_set (by decide) l3, Free.of_set (by decide) l4, Free.of_set (by decide) l5, Free.of_set (by decide) l6, Free.of_set (by decide) l7, Free.of_set (by decide) l8, Free.of_set (by decide) l9, Free.of_set (by decide) l10, Free.of_set (by decide) l11, Free.of_set (by decide) l12, Free.of_set (by decide) l13, Free.of_set (by decide) l14, Free.of_set (by decide) l17, fun _ => ⟨_, _, _, rfl, hW.size, Sp.new _ _ _, fun e => by rw [Free.set_other (by decide), hs] at e; cases e⟩, fun e => by rw [Free.set_other (by decide), hs] at e; cases e⟩)
              · have N := hid (hne 15 (by kernel_rfl))
                obtain ⟨bn, cn, dn, q1, q2, q3, q4⟩ := ln N.out
                subst q1
                have y1 := q3.fl
                have y2 := q3.fh
                have y3 := q3.lo
                have y4 := q3.hi
                refine Free.op rfl rfl (fun K hK => ?_)
                obtain rfl := l13 (hne 13 (by kernel_rfl))
                go_simp
                exact hK _ _ ((HI.out _ _ _).2 ⟨v32, v33, v34, v35, v36, v37, v38, v39, v40, v41, v42, v43, v31, _, v45, _, v11, rfl, (hW.setCell q2 _).setCell q2 _, Free.of_set (by decide) l0, Free.of_set (by decide) l1, Free.of_set (by decide) l2, Free.of_set (by decide) l3, Free.of_set (by decide) l4, Free.of_set (by decide) l5, Free.of_set (by decide) l6, Free.of_set (by decide) l7, Free.of_set (by decide) l8, Free.of_set (by decide) l9, Free.of_set (by decide) l10, Free.of_set (by decide) l11, Free.of_set (by decide) l12, fun _ => rfl, Free.of_set (by decide) l14, Free.of_set (by decide) l17, fun _ => ⟨_, _, _, rfl, q2, q3.set _ _, fun _ => ⟨rfl, rfl⟩⟩, fun _ => Free.fore (by decide) N.out⟩)
              · refine Free.op rfl rfl (fun K hK => ?_)
                obtain rfl := l14 (hne 14 (by kernel_rfl))
                go_simp
                exact hK _ _ ((HI.out _ _ _).2 ⟨v32, v33, v34, v35, v36, v37, v38, v39, v40, v41, v42, v43, v31, v44, _, v10, _, rfl, hW, Free.of_set (by decide) l0, Free.of_set (by decide) l1, Free.of_set (by decide) l2, Free.of_set (by decide) l3, Free.of_set (by decide) l4, Free.of_set (by decide) l5, Free.of_set (by decide) l6, Free.of_set (by decide) l7, Free.of_set (by decide) l8, Free.of_set (by decide) l9, Free.of_set (by decide) l10, Free.of_set (by decide) l11, Free.of_set (by decide) l12, Free.of_set (by decide) l13, fun _ => rfl, fun _ => rfl, fun e => by obtain ⟨bn, cn, dn, q1, q2, q3, q4⟩ := ln (Free.back (by decide) e); exact ⟨bn, cn, dn, q1, q2, q3, fun e2 => q4 (Free.back (by decide) e2)⟩, fun e => Free.fore (by decide) (lp (Free.back (by decide) e))⟩)
            case s3 =>
              intro listed aq W1 hall hsz hv
              obtain ⟨v32, v33, v34, v35, v36, v37, v38, v39, v40, v41, v42, v43, v31, v44, v45, v10, v11, rfl, hW, l0, l1, l2, l3, l4, l5, l6, l7, l8, l9, l10, l11, l12, l13, l14, l17, ln, lp⟩ := (HI.out _ _ _).1 hv
              clear hv HI
              obtain ⟨bn, cn, dn, rfl, hbn, hSn, q4⟩ := ln (Free.listed_of hall hsz 15 (by decide))
              obtain ⟨rfl, rfl⟩ := q4 (Free.listed_of hall hsz 16 (by decide))
              clear ln lp
              obtain rfl := l0 (Free.listed_of hall hsz 0 (by decide))
              obtain rfl := l1 (Free.listed_of hall hsz 1 (by decide))
              obtain rfl := l2 (Free.listed_of hall hsz 2 (by decide))
              obtain rfl := l3 (Free.listed_of hall hsz 3 (by decide))
              obtain rfl := l4 (Free.listed_of hall hsz 4 (by decide))
              obtain rfl := l5 (Free.listed_of hall hsz 5 (by decide))
              obtain rfl := l6 (Free.listed_of hall hsz 6 (by decide))
              obtain rfl := l7 (Free.listed_of hall hsz 7 (by decide))
              obtain rfl := l8 (Free.listed_of hall hsz 8 (by decide))
              obtain rfl := l9 (Free.listed_of hall hsz 9 (by decide))
              obtain rfl := l10 (Free.listed_of hall hsz 10 (by decide))
              obtain rfl := l11 (Free.listed_of hall hsz 11 (by decide))
              obtain rfl := l12 (Free.listed_of hall hsz 12 (by decide))
              obtain rfl := l13 (Free.listed_of hall hsz 13 (by decide))
              obtain rfl := l14 (Free.listed_of hall hsz 14 (by decide))
              obtain rfl := l17 (Free.listed_of hall hsz 17 (by decide))
              clear hall hsz
              have hF := hF0.add hW hSn hbn
              clear hF0 hW hSn hT hB
              have y1 := (hF.at 3 rfl).fl
              have y2 := (hF.at 3 rfl).fh
              have y3 := (hF.at 3 rfl).lo
              have y4 := (hF.at 3 rfl).hi
              have y6 := (hF.at 3 rfl).r0
              have y7 := (hF.at 3 rfl).r1
              go_wp2
              refine bodyPost_ret (by simp [results, Tryd.results19, go_sem, y6, y7]; try rfl) rfl ?_
              rw [HM.out]
              exact ⟨rfl, (hF.put 3 rfl _ _ rfl).below⟩

        · obtain rfl : k = b.length := by omega
          have HCC := hid (Um.chk_ok.1 (Um.prod_chk HP0.out HBX.out (Nat.le_refl _) hK.out))
          have HM := HSN hK.out
          have HAF := hid (Um.add_fault (Um.sumN f b n).1 (Um.sumN f b n).2.1 (Um.prodN t b b.length).1 (Um.prodN t b b.length).2.1)
          obtain ⟨m1, m2, -⟩ := HCC.out
          obtain ⟨m3, m4, -⟩ := Um.chk_ok.1 HSC.out
          have HD := fun w => hid (rAdd_any (Um.sumN f b n).1 (Um.sumN f b n).2.1 (Um.prodN t b b.length).1 (Um.prodN t b b.length).2.1 w m3 m4 m1 m2)
          have hF := hF0
          clear HFB HSN HT0 HP0 HBX hB0 m1 m2 m3 m4 HCC HSC hF0 hK hZ
          generalize Um.sumN f b n = X at *
          generalize Um.prodN t b b.length = Y at *
          have x0l := (hF.at 0 rfl).lo
          have x0h := (hF.at 0 rfl).hi
          have x1l := (hF.at 1 rfl).lo
          have x1h := (hF.at 1 rfl).hi
          generalize Um.addR X.1 X.2.1 Y.1 Y.2.1 = R at *
          by_cases c : R.2.2 = 0
          · have kR : (R.2.2 != 0) = false := by simpa using c
            have HZ := hid c
            clear HFB2 HAF c
            go_wp2_with (go_at_call 23; refine (HD _).out.mono ?_; rintro e wn ⟨rfl, hb⟩; replace hF := hF.step hb; clear hb; clear HD; clear x0l x0h x1l x1h; have y1 := (hF.at 1 rfl).fl; have y2 := (hF.at 1 rfl).fh; have y3 := (hF.at 1 rfl).lo; have y4 := (hF.at 1 rfl).hi; have y6 := (hF.at 1 rfl).r0; have y7 := (hF.at 1 rfl).r1)
            exact ⟨⟨n + 1, by omega, by simp, by rw [HM.out]; exact (hF.put 1 rfl _ _ rfl).drop, by rw [HM.out]; exact HZ.out⟩, by simp [intOf]; omega⟩
          · have kR : (R.2.2 != 0) = true := by simpa using c
            have e4 : R.2.2 = 4 := by rw [HAF.out.resolve_left c]
            have HM2 := HFB2 (by rw [HM.out]; exact c)
            have HM3 : Hid (Um.frR f b = (0, 0, R.2.2)) := by rw [HM2.out, e4]; exact hid rfl
            clear HFB2 HAF c HM HM2 e4
            go_wp2_with (go_at_call 23; refine (HD _).out.mono ?_; rintro e wn ⟨rfl, hb⟩; replace hF := hF.step hb; clear hb; clear HD; clear x0l x0h x1l x1h; have y1 := (hF.at 1 rfl).fl; have y2 := (hF.at 1 rfl).fh; have y3 := (hF.at 1 rfl).lo; have y4 := (hF.at 1 rfl).hi; have y6 := (hF.at 1 rfl).r0; have y7 := (hF.at 1 rfl).r1; replace hF := hF.put 1 rfl R.1 R.2.1 rfl; have w1 := (hF.at 2 rfl).fl; have w2 := (hF.at 2 rfl).fh; have w3 := (hF.at 2 rfl).lo; have w4 := (hF.at 2 rfl).hi; have w6 := (hF.at 2 rfl).r0; have w7 := (hF.at 2 rfl).r1)
            refine bodyPost_ret (by simp [results, Tryd.results19, go_sem, w6, w7]; try rfl) rfl ?_
            rw [HM3.out]
            exact ⟨rfl, (hF.put 2 rfl _ _ rfl).below⟩
    · obtain rfl : n = f.length := by omega
      have HM : Hid (Um.frR f b = ((Um.sumN f b f.length).1, (Um.sumN f b f.length).2.1, 0)) := by rw [← hZ.out]; exact hid rfl
      clear HOR HTM HBX hB0 hZ
      have x0l := (hF.at 0 rfl).lo
      have x0h := (hF.at 0 rfl).hi
      have y1 := (hF.at 1 rfl).fl
      have y2 := (hF.at 1 rfl).fh
      have y3 := (hF.at 1 rfl).lo
      have y4 := (hF.at 1 rfl).hi
      have y6 := (hF.at 1 rfl).r0
      have y7 := (hF.at 1 rfl).r1
      go_wp2
      refine bodyPost_ret (by simp [results, Tryd.results19, go_sem, y6, y7]; try rfl) rfl ?_
      rw [HM.out]
      exact ⟨rfl, (hF.put 1 rfl _ _ rfl).below⟩
end Go.Proofs.YtmkdjaafkigemaaDoor
