/-
  What package run reads: a span, a polynomial with its span; and how spans are written.
-/
import Derived.Test.YtkfalmdckmlneaaGreatDoorRunN
import Derived.Test.YtkfalmdckmlneaaGreatDoorSpans
import Derived.Test.YtkfalmdckmlneaaGreatDoorMems
namespace Go.Proofs.YtkfalmdckmlneaaGreatDoor
set_option linter.unusedSimpArgs false
open Go.RowKit

theorem sp_parts {l : List UInt8} (h : Um.numsOk l = true) (h2 : (Um.numsL l).length = 2) : Um.chk (Um.spL l).1 (Um.spL l).2 = 0 ↔ Um.spOk l = true := by
  constructor
  · intro hc
    unfold Um.spOk
    rw [h, Bool.true_and]
    exact decide_eq_true ⟨h2, (Um.chk_ok.1 hc).2.2⟩
  · exact Um.sp_right
theorem sp_few {l : List UInt8} (h : Um.numsOk l = false) : Um.spOk l = false := by unfold Um.spOk; rw [h]; rfl
theorem sp_two {l : List UInt8} (h2 : ¬ (Um.numsL l).length = 2) : Um.spOk l = false := by
  unfold Um.spOk
  rw [decide_eq_false (fun h => h2 h.1), Bool.and_false]

/-- A span that can be read, or none. -/
def SpTold (l : List UInt8) (w : World) (e : Ending) (w' : World) : Prop :=
  Below w.heap.size w w' ∧ (Um.spOk l = true → e = .returned (.tuple #[.agg #[.int .i64 (Um.spL l).1, .int .i64 (Um.spL l).2], .nilIface])) ∧ (Um.spOk l = false → ∃ k, e = .returned (.tuple #[.agg #[.int .i64 0, .int .i64 0], unV k]))
set_option maxRecDepth 100000 in
set_option maxHeartbeats 4000000 in
theorem span_some (t : ByteArray) (w : World) (ht : t.size ≤ 3000) (hm : HasLen w) (hok : Um.numsOk t.data.toList = true) :
    Calls Tryz.prog 79 #[.string t] w fun e w' => SpTold t.data.toList w e w' := by
  have q1 := errG
  have q2 := errGn
  have q3 := errE
  have q4 := errN
  have hB0 : Below w.heap.size w (w.alloc (.cells #[.int .i64 0, .int .i64 0] 29)) := by go_grown
  have HN := hid (numbers_any t (w.alloc (.cells #[.int .i64 0, .int .i64 0] 29)) ht (hm.below hB0 hm.size))
  have hF := Fr.push (Fr.start w) 0 0 (b := w.heap.size) rfl
  by_cases h2 : (Um.numsL t.data.toList).length = 2
  · have HK := hid hok
    clear hok hB0 hm
    have HQ := hid (sp_parts HK.out h2)
    have hc0 : ∀ w v, Li w.heap.size w v (Um.numsL t.data.toList) → ∃ b off cap, v = .slice (some ⟨b, off, none⟩) 2 cap ∧ b < w.heap.size ∧ w.cell? ⟨b, off, none⟩ = some (.int .i64 (Um.spL t.data.toList).1) ∧ w.cell? ⟨b, off + 1, none⟩ = some (.int .i64 (Um.spL t.data.toList).2) := fun w v hl => by
      obtain ⟨b, off, cap, rfl, hb, hc⟩ := hl.out (fun e => by rw [e] at h2; cases h2)
      exact ⟨b, off, cap, by rw [h2], hb, hc 0 (by omega), hc 1 (by omega)⟩
    have HC := hid hc0
    clear hc0 h2
    have HS := hid (show Um.spL t.data.toList = Um.spL t.data.toList from rfl)
    generalize hS : Um.spL t.data.toList = S at *
    replace hS := hid hS
    by_cases hc : Um.chk S.1 S.2 = 0
    · have HCk : ∀ w, Hid (Calls Tryz.prog 112 #[.agg #[.int .i64 S.1, .int .i64 S.2]] w fun e w' => e = .returned .nilIface ∧ Below w.heap.size w w') := fun w => hid ((check_any S.1 S.2 w).mono fun e w' h => ⟨by rw [h.1, hc]; rfl, by rw [h.2]; exact (Below.refl _ _).alloc (Nat.le_refl _) _⟩)
      have HT := hid (HQ.out.1 hc)
      clear hc HQ
      go_enter Tryz.func79, Tryz.ntmps79
      go_upto_region 6 with (go_at_call 111; refine HN.out.mono ?_; rintro e w1 ⟨hb, h1, -⟩; obtain ⟨v, rfl, ho⟩ := h1 HK.out; have hl := li_owns ho; clear ho; obtain ⟨b, off, cap, rfl, hlt, c0, c1⟩ := HC.out _ _ hl; replace hF := hF.step hb; clear hb hl h1)
      go_region
      replace hF := (hF.push S.1 S.2 (b := w1.heap.size) rfl).step (Below.refl _ _).drew
      generalize (w1.alloc (.cells #[.int .i64 S.1, .int .i64 S.2] 29)).drew = X at *
      generalize w1.heap.size = B at *
      clear c0 c1 hlt
      have x0l := (hF.at 0 rfl).lo
      have x0h := (hF.at 0 rfl).hi
      go_wp2_with (go_at_call 112; refine (HCk _).out.mono ?_; rintro e w2 ⟨rfl, hb⟩; replace hF := hF.step hb; clear hb; have x0l := (hF.at 0 rfl).lo; have x0h := (hF.at 0 rfl).hi; have y1 := (hF.at 1 rfl).fl; have y2 := (hF.at 1 rfl).fh; have y3 := (hF.at 1 rfl).lo; have y4 := (hF.at 1 rfl).hi; have y6 := (hF.at 1 rfl).r0; have y7 := (hF.at 1 rfl).r1)
      refine bodyPost_ret (by simp [results, Tryz.results79, go_sem, y6, y7]; try rfl) rfl ?_
      unfold SpTold
      refine ⟨(hF.put 1 rfl _ _ rfl).below, fun _ => by rw [hS.out], fun h => ?_⟩
      rw [HT.out] at h; cases h
    · have HCk : ∀ w, Hid (Calls Tryz.prog 112 #[.agg #[.int .i64 S.1, .int .i64 S.2]] w fun e w' => e = .returned (.iface 85 (.int .i64 (Um.chk S.1 S.2))) ∧ Below w.heap.size w w') := fun w => hid ((check_any S.1 S.2 w).mono fun e w' h => ⟨by rw [h.1, errV_some hc], by rw [h.2]; exact (Below.refl _ _).alloc (Nat.le_refl _) _⟩)
      have HT := hid (fun h => hc (HQ.out.2 h))
      clear hc HQ
      go_enter Tryz.func79, Tryz.ntmps79
      go_upto_region 6 with (go_at_call 111; refine HN.out.mono ?_; rintro e w1 ⟨hb, h1, -⟩; obtain ⟨v, rfl, ho⟩ := h1 HK.out; have hl := li_owns ho; clear ho; obtain ⟨b, off, cap, rfl, hlt, c0, c1⟩ := HC.out _ _ hl; replace hF := hF.step hb; clear hb hl h1)
      go_region
      replace hF := (hF.push S.1 S.2 (b := w1.heap.size) rfl).step (Below.refl _ _).drew
      generalize (w1.alloc (.cells #[.int .i64 S.1, .int .i64 S.2] 29)).drew = X at *
      generalize w1.heap.size = B at *
      clear c0 c1 hlt
      have x0l := (hF.at 0 rfl).lo
      have x0h := (hF.at 0 rfl).hi
      go_wp2_with (go_at_call 112; refine (HCk _).out.mono ?_; rintro e w2 ⟨rfl, hb⟩; replace hF := hF.step hb; clear hb; have x0l := (hF.at 0 rfl).lo; have x0h := (hF.at 0 rfl).hi; have y1 := (hF.at 1 rfl).fl; have y2 := (hF.at 1 rfl).fh; have y3 := (hF.at 1 rfl).lo; have y4 := (hF.at 1 rfl).hi; have y6 := (hF.at 1 rfl).r0; have y7 := (hF.at 1 rfl).r1)
      refine bodyPost_ret (by simp [results, Tryz.results79, go_sem, y6, y7]; try rfl) rfl ?_
      unfold SpTold
      exact ⟨(hF.put 1 rfl _ _ rfl).below, fun h => absurd h HT.out, fun _ => ⟨_, rfl⟩⟩
  · have HK := hid hok
    have n2 : (((Um.numsL t.data.toList).length : Int) != 2) = true := by simp; omega
    have HT := hid (sp_two h2)
    have h3 : ¬ ((Um.numsL t.data.toList).length : Int) = 2 := by omega
    clear hok hB0 hm
    generalize Um.numsL t.data.toList = P at *
    go_enter Tryz.func79, Tryz.ntmps79
    go_wp2_with (go_at_call 111; refine HN.out.mono ?_; rintro e w1 ⟨hb, h1, -⟩; obtain ⟨v, rfl, ho⟩ := h1 HK.out; obtain ⟨a, cap, rfl⟩ := owns_slice ho; clear ho; replace hF := hF.step hb; clear hb h1; have y1 := (hF.at 0 rfl).fl; have y2 := (hF.at 0 rfl).fh; have y3 := (hF.at 0 rfl).lo; have y4 := (hF.at 0 rfl).hi; have y6 := (hF.at 0 rfl).r0; have y7 := (hF.at 0 rfl).r1)
    refine bodyPost_ret (by simp [results, Tryz.results79, go_sem, y6, y7]; try rfl) rfl ?_
    unfold SpTold
    refine ⟨(hF.put 0 rfl _ _ rfl).below, fun h => ?_, fun _ => ⟨_, rfl⟩⟩
    rw [HT.out] at h; cases h
set_option maxHeartbeats 4000000 in
theorem span_none (t : ByteArray) (w : World) (ht : t.size ≤ 3000) (hm : HasLen w) (hno : Um.numsOk t.data.toList = false) :
    Calls Tryz.prog 79 #[.string t] w fun e w' => SpTold t.data.toList w e w' := by
  have hB0 : Below w.heap.size w (w.alloc (.cells #[.int .i64 0, .int .i64 0] 29)) := by go_grown
  have HN := hid (numbers_any t (w.alloc (.cells #[.int .i64 0, .int .i64 0] 29)) ht (hm.below hB0 hm.size))
  have hF := Fr.push (Fr.start w) 0 0 (b := w.heap.size) rfl
  have HK := hid hno
  clear hno hB0 hm
  go_enter Tryz.func79, Tryz.ntmps79
  go_wp2_with (go_at_call 111; refine HN.out.mono ?_; rintro e w1 ⟨hb, -, h1⟩; obtain ⟨k, rfl⟩ := h1 HK.out; replace hF := hF.step hb; clear hb h1; have y1 := (hF.at 0 rfl).fl; have y2 := (hF.at 0 rfl).fh; have y3 := (hF.at 0 rfl).lo; have y4 := (hF.at 0 rfl).hi; have y6 := (hF.at 0 rfl).r0; have y7 := (hF.at 0 rfl).r1)
  refine bodyPost_ret (by simp [results, Tryz.results79, go_sem, y6, y7]; try rfl) rfl ?_
  unfold SpTold
  refine ⟨(hF.put 0 rfl _ _ rfl).below, fun h => ?_, fun _ => ⟨k, rfl⟩⟩
  rw [sp_few HK.out] at h; cases h
theorem span_any (t : ByteArray) (w : World) (ht : t.size ≤ 3000) (hm : HasLen w) :
    Calls Tryz.prog 79 #[.string t] w fun e w' => SpTold t.data.toList w e w' := by
  cases h : Um.numsOk t.data.toList
  · exact span_none t w ht hm h
  · exact span_some t w ht hm h
end Go.Proofs.YtkfalmdckmlneaaGreatDoor
