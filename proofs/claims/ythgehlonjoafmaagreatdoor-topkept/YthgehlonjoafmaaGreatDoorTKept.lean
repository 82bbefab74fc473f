/-
  The walk over 'spantop.TopKept': for all s, b, steps, fail, keep it returns true.
-/
import Derived.Test.YthgehlonjoafmaaGreatDoorLogC
import Derived.Test.YthgehlonjoafmaaGreatDoorLogR
import Derived.Test.YthgehlonjoafmaaGreatDoorFlow
import Derived.Test.YthgehlonjoafmaaGreatDoorStep
import Derived.Test.YthgehlonjoafmaaGreatDoorBoxH
import Derived.Test.YthgehlonjoafmaaGreatDoorBSame
import Derived.Test.YthgehlonjoafmaaGreatDoorRefSplit
import Derived.Test.YthgehlonjoafmaaGreatDoorTopOne
import Derived.Test.YthgehlonjoafmaaGreatDoorSame
import Derived.Test.YthgehlonjoafmaaGreatDoorMems2
import Derived.Test.YthgehlonjoafmaaGreatDoorMaths3
import Derived.LoopTactic
import Derived.Deep.CutRange
namespace Go.Proofs.YthgehlonjoafmaaGreatDoor.TKept
set_option linter.unusedSimpArgs false
open Go.RowKit

/-- What is known of a tube that was told. -/
theorem tube_facts {s : List (List Um.Tm)} {p b : List (Int × Int)} {n : Int} (h : (Um.tubeAll s p b n).2 = 0) : Um.boxF b = 0 ∧ 0 < (Um.tubeAll s p b n).1.length ∧ (∀ c ∈ (Um.tubeAll s p b n).1, Um.boxF c = 0 ∧ c.length = b.length) ∧ (∀ i, i + 1 < (Um.tubeAll s p b n).1.length → (Um.ofAll s p ((Um.tubeAll s p b n).1[i]?.getD [])).2 = 0 ∧ (Um.ofAll s p ((Um.tubeAll s p b n).1[i]?.getD [])).1 = (Um.tubeAll s p b n).1[i + 1]?.getD []) := by
  obtain ⟨k, rfl, hk, hr, ht, e⟩ := Um.tubeAll_good h
  rw [e]
  have key : ∀ i, i < k + 1 → Um.readyF s p (Um.tubeN s p b i).1 = 0 := fun i hi => Um.tube_ready hr (Um.tube_down ht (show i ≤ k by omega))
  refine ⟨(Um.ready_ok.1 hr).2.1, by show 0 < (Um.tubes s p b (k + 1)).length; rw [Um.tubes_length]; omega, fun c hc => ?_, fun i hi => ?_⟩
  · obtain ⟨i, hi, rfl⟩ := List.getElem_of_mem hc
    have hi' : i < k + 1 := by have := hi; rwa [show (Um.tubes s p b (k + 1), (0 : Int)).1 = Um.tubes s p b (k + 1) from rfl, Um.tubes_length] at this
    have g := Um.tubes_get (s := s) (p := p) (b := b) hi'
    rw [List.getElem?_eq_getElem hi] at g
    replace g : (Um.tubes s p b (k + 1))[i] = (Um.tubeN s p b i).1 := g
    show Um.boxF (Um.tubes s p b (k + 1))[i] = 0 ∧ ((Um.tubes s p b (k + 1))[i]).length = b.length
    rw [g]
    have r1 := Um.ready_ok.1 (key i hi')
    have r2 := Um.ready_ok.1 hr
    exact ⟨r1.2.1, by have := r1.2.2; have := r2.2.2; omega⟩
  · have hi' : i + 1 < k + 1 := by have := hi; rwa [show (Um.tubes s p b (k + 1), (0 : Int)).1 = Um.tubes s p b (k + 1) from rfl, Um.tubes_length] at this
    show (Um.ofAll s p ((Um.tubes s p b (k + 1))[i]?.getD [])).2 = 0 ∧ (Um.ofAll s p ((Um.tubes s p b (k + 1))[i]?.getD [])).1 = (Um.tubes s p b (k + 1))[i + 1]?.getD []
    rw [Um.tubes_get (by omega), Um.tubes_get hi', Um.ofAll_yes (key i (by omega))]
    obtain ⟨t1, t2⟩ := Um.tube_step (Um.tube_down ht (show i + 1 ≤ k by omega))
    rw [← t2]
    exact ⟨Um.tube_down ht (show i + 1 ≤ k by omega), rfl⟩
/-- Of the first ones of right boxes the hull has each. -/
theorem hull_has {l : List (List (Int × Int))} {n : Nat} (h : ∀ c ∈ l, Um.boxF c = 0 ∧ c.length = n) : ∀ m, m < l.length → ∀ i, i ≤ m → Um.withinP (l[i]?.getD []) (Um.hullTo l m)
  | 0, hm, i, hi => by
    obtain rfl : i = 0 := by omega
    intro j hj
    exact ⟨Int.le_refl _, Int.le_refl _⟩
  | m + 1, hm, i, hi => by
    have hb := Um.hullTo_two h hm
    obtain ⟨q1, q2, q3⟩ := Um.hull_box hb
    have r0 := Um.hullTo_ok h m (by omega)
    rcases (by omega : i ≤ m ∨ i = m + 1) with c | rfl
    · have ih := hull_has h m (by omega) i c
      intro j hj
      have hl : (l[i]?.getD []).length = n := by rw [List.getElem?_eq_getElem (show i < l.length by omega)]; exact (h _ (List.getElem_mem _)).2
      obtain ⟨z1, z2⟩ := ih j hj
      obtain ⟨z3, z4⟩ := q2 j (by rw [r0.2, ← hl]; exact hj)
      exact ⟨Int.le_trans z3 z1, Int.le_trans z2 z4⟩
    · exact q3
theorem hull_in {l : List (List (Int × Int))} {n : Nat} (h : ∀ c ∈ l, Um.boxF c = 0 ∧ c.length = n) (h0 : l ≠ []) {i : Nat} (hi : i < l.length) : Um.boxesF (l[i]?.getD []) (Um.hullF l) = 0 ∧ withinA (l[i]?.getD []) (Um.hullF l) = true := by
  have hp : 0 < l.length := List.length_pos_iff.2 h0
  rw [(Um.hullF_some h0).1]
  have r0 := Um.hullTo_ok h (l.length - 1) (by omega)
  have r1 : Um.boxF (l[i]?.getD []) = 0 ∧ (l[i]?.getD []).length = n := by rw [List.getElem?_eq_getElem hi]; exact h _ (List.getElem_mem hi)
  have e : Um.boxesF (l[i]?.getD []) (Um.hullTo l (l.length - 1)) = 0 := Um.boxes_ok.2 ⟨r1.1, r0.1, by omega⟩
  refine ⟨e, ?_⟩
  unfold withinA
  rw [decide_eq_true e]
  simp only [Bool.true_and]
  exact decide_eq_true (hull_has h (l.length - 1) (by omega) i (by omega))
theorem lb_take {B : Nat} {w : World} {a : Option Addr} {n q c : Nat} {l : List (List (Int × Int))} (h : Lb B w (.slice a n c) l) (hq : q ≤ l.length) : Lb B w (.slice a q c) (l.take q) := by
  obtain ⟨a2, c2, e, hc, h2⟩ := h
  cases e
  have hl : (l.take q).length = q := by rw [List.length_take]; omega
  refine ⟨a, c, by rw [hl], by omega, ?_⟩
  rcases h2 with h2 | ⟨b, off, e2, hlt, hh⟩
  · exact .inl (by rw [h2, List.take_nil])
  · refine .inr ⟨b, off, e2, hlt, fun j hj => ?_⟩
    rw [List.getElem?_take_of_lt (by omega)]
    exact hh j (by omega)
/-- A Log that has the first ones of a tube. -/
structure Kp (l : List (List (Int × Int))) (n j : Nat) (s : Um.LogS) : Prop where
  sides : s.sides = n
  done : s.done = l.take j
theorem Kp.put {l : List (List (Int × Int))} {n i : Nat} {s : Um.LogS} (h : Kp l n i s) (hl : ∀ c ∈ l, Um.boxF c = 0 ∧ c.length = n) (h20 : l.length ≤ 20) (hi : i < l.length) (hs : s.stop = false) :
    (Um.putF s (l[i]?.getD []) = 0 ∧ Kp l n (i + 1) (Um.putS s (l[i]?.getD [])) ∧ (Um.putS s (l[i]?.getD [])).stop = false) ∨ (Um.putF s (l[i]?.getD []) = 6 ∧ Kp l n i (Um.putS s (l[i]?.getD []))) := by
  have hb : Um.boxF (l[i]?.getD []) = 0 ∧ (l[i]?.getD []).length = n := by rw [List.getElem?_eq_getElem hi]; exact hl _ (List.getElem_mem hi)
  have hr : Um.refF s (l[i]?.getD []) = 0 := Um.ref_ok.2 ⟨hs, by rw [h.done, List.length_take]; omega, hb.1, by rw [hb.2, h.sides]⟩
  by_cases h0 : s.left = 0
  · obtain ⟨e1, e2⟩ := Um.put_stop hr h0
    exact .inr ⟨e1, by rw [e2]; exact ⟨h.sides, h.done⟩⟩
  · obtain ⟨e1, e2⟩ := Um.put_yes hr h0
    have hd : s.done ++ [l[i]?.getD []] = l.take (i + 1) := by
      rw [h.done, List.take_add_one, List.getElem?_eq_getElem hi]
      rfl
    exact .inl ⟨e1, by rw [e2]; exact ⟨h.sides, hd⟩, by rw [e2]; exact hs⟩
theorem Kp.sync {l : List (List (Int × Int))} {n i : Nat} {s : Um.LogS} (h : Kp l n i s) (hs : s.stop = false) : (Um.syncF s = 0 ∧ Kp l n i (Um.syncS s) ∧ (Um.syncS s).stop = false) ∨ (Um.syncF s = 6 ∧ Kp l n i (Um.syncS s)) := by
  have hst : ¬ s.stop = true := by rw [hs]; decide
  unfold Um.syncF Um.syncS Um.stepF
  rw [if_neg hst, if_neg hst]
  by_cases h0 : s.left = 0
  · rw [if_pos h0, if_pos h0]; exact .inr ⟨rfl, h.sides, h.done⟩
  · rw [if_neg h0, if_neg h0]; exact .inl ⟨rfl, ⟨h.sides, h.done⟩, hs⟩
theorem Kp.crash {l : List (List (Int × Int))} {n i : Nat} {s : Um.LogS} (h : Kp l n i s) (hi : i ≤ l.length) (keep : Int) : ∃ q, q ≤ l.length ∧ (Um.crashS s keep).done = l.take q := by
  refine ⟨min (Um.leftN s keep) i, by omega, ?_⟩
  show s.done.take _ = _
  rw [h.done, List.take_take]

set_option maxRecDepth 100000 in
set_option maxHeartbeats 16000000 in
theorem walk_early (s : List (List Um.Tm)) (v0 : Value) (p : List (Int × Int)) (v1 : Value) (b : List (Int × Int)) (v : Value) (n fail keep : Int) (w : World) (hf : Lf w.heap.size w v0 s) (hp : Ls w.heap.size w v1 p) (hs : Ls w.heap.size w v b) (h : ¬ (Um.tubeAll s p b n).2 = 0) :
    Calls Tryz.prog 3 #[.agg #[v0, v1], v, .int .i64 n, .int .i64 fail, .int .i64 keep] w fun e w' => e = .returned (.bool true) ∧ Below w.heap.size w w' := by
  have ve := errV_none
  have q1 := errG
  have q2 := errGn
  have q3 := errE
  have q4 := errN
  obtain ⟨a0, cap0, rfl, -⟩ := (id hf)
  obtain ⟨a1, cap1, rfl, -⟩ := (id hp)
  obtain ⟨a2, cap2, rfl, -⟩ := (id hs)
  have h1 : w.heap.size < (w.alloc (.cells #[.slice a0 s.length cap0, .slice a1 p.length cap1] 25)).heap.size := by simp
  have hBW : Below w.heap.size w (w.alloc (.cells #[.slice a0 s.length cap0, .slice a1 p.length cap1] 25)) := by go_grown
  obtain ⟨c0, c1⟩ := sys_cells w (.slice a0 s.length cap0) (.slice a1 p.length cap1) 25
  have hF := Fr.start (w.alloc (.cells #[.slice a0 s.length cap0, .slice a1 p.length cap1] 25))
  have hf2 := hf.step hBW
  have hp2 := hp.step hBW
  have hb2 := hs.step hBW
  have HRU := fun w h1 h2 h3 => hid (flRun_any s (.slice a0 s.length cap0) p (.slice a1 p.length cap1) b (.slice a2 b.length cap2) n w h1 h2 h3)
  clear hf hp hs
  have y0 := c0
  have y1 := c1
  have k : ((Um.tubeAll s p b n).2 != 0) = true := by simpa using h
  clear h
  generalize Um.tubeAll s p b n = TA at *
  go_enter Tryz.func3, Tryz.ntmps3
  go_upto_region 4 with (go_at_call 4; refine (hid (one_any _)).out.mono ?_; rintro e wn ⟨rfl, hb⟩; replace hF := hF.step hb; clear hb; clear y0 y1; have y0 := (hF.below.cell (p := ⟨w.heap.size, 0, none⟩) h1).trans c0; have y1 := (hF.below.cell (p := ⟨w.heap.size, 1, none⟩) h1).trans c1)
  go_wp2_with (go_at_call 5; refine (HRU _ (hF.lf hf2) (hF.ls hp2) (hF.ls hb2)).out.mono ?_; rintro e wn ⟨r1, rfl, htb, hb⟩; replace hF := hF.step hb; clear hb; clear y0 y1; have y0 := (hF.below.cell (p := ⟨w.heap.size, 0, none⟩) h1).trans c0; have y1 := (hF.below.cell (p := ⟨w.heap.size, 1, none⟩) h1).trans c1; obtain ⟨s1, tc, rfl, -⟩ := (id htb); clear HRU)
  go_returns
  exact ⟨rfl, hBW.trans (hF.below.mono hBW.size)⟩

set_option maxRecDepth 100000 in
set_option maxHeartbeats 16000000 in
theorem walk_many (s : List (List Um.Tm)) (v0 : Value) (p : List (Int × Int)) (v1 : Value) (b : List (Int × Int)) (v : Value) (n fail keep : Int) (w : World) (hf : Lf w.heap.size w v0 s) (hp : Ls w.heap.size w v1 p) (hs : Ls w.heap.size w v b) (h : (Um.tubeAll s p b n).2 = 0) (h20 : 20 < (Um.tubeAll s p b n).1.length) :
    Calls Tryz.prog 3 #[.agg #[v0, v1], v, .int .i64 n, .int .i64 fail, .int .i64 keep] w fun e w' => e = .returned (.bool true) ∧ Below w.heap.size w w' := by
  have ve := errV_none
  have q1 := errG
  have q2 := errGn
  have q3 := errE
  have q4 := errN
  obtain ⟨a0, cap0, rfl, -⟩ := (id hf)
  obtain ⟨a1, cap1, rfl, -⟩ := (id hp)
  obtain ⟨a2, cap2, rfl, -⟩ := (id hs)
  have h1 : w.heap.size < (w.alloc (.cells #[.slice a0 s.length cap0, .slice a1 p.length cap1] 25)).heap.size := by simp
  have hBW : Below w.heap.size w (w.alloc (.cells #[.slice a0 s.length cap0, .slice a1 p.length cap1] 25)) := by go_grown
  obtain ⟨c0, c1⟩ := sys_cells w (.slice a0 s.length cap0) (.slice a1 p.length cap1) 25
  have hF := Fr.start (w.alloc (.cells #[.slice a0 s.length cap0, .slice a1 p.length cap1] 25))
  have hf2 := hf.step hBW
  have hp2 := hp.step hBW
  have hb2 := hs.step hBW
  have HRU := fun w h1 h2 h3 => hid (flRun_any s (.slice a0 s.length cap0) p (.slice a1 p.length cap1) b (.slice a2 b.length cap2) n w h1 h2 h3)
  clear hf hp hs
  have y0 := c0
  have y1 := c1
  obtain ⟨f1, -, -, -⟩ := tube_facts h
  obtain ⟨K, hK⟩ : ∃ K : Int, K = 0 := ⟨_, rfl⟩
  have HNW := fun W => hid (logNew_yes b.length K W (Um.box_len f1).1 (Um.box_len f1).2 hK)
  have kK : (K != 0) = false := by simpa using hK
  have kK2 : (K == 0) = true := by simpa using hK
  have kT : ((Um.tubeAll s p b n).2 != 0) = false := by simpa using h
  have HB3 := hid (Um.box_len f1).2
  clear hK h f1
  generalize Um.tubeAll s p b n = TA at *
  obtain ⟨l, z⟩ := TA
  simp only at h20 kT
  have d1 : decide ((20 : Int) < (l.length : Int)) = true := decide_eq_true (by omega)
  go_enter Tryz.func3, Tryz.ntmps3
  go_upto_region 4 with (go_at_call 4; refine (hid (one_any _)).out.mono ?_; rintro e wn ⟨rfl, hb⟩; replace hF := hF.step hb; clear hb; clear y0 y1; have y0 := (hF.below.cell (p := ⟨w.heap.size, 0, none⟩) h1).trans c0; have y1 := (hF.below.cell (p := ⟨w.heap.size, 1, none⟩) h1).trans c1)
  go_upto_region 5 with (go_at_call 5; refine (HRU _ (hF.lf hf2) (hF.ls hp2) (hF.ls hb2)).out.mono ?_; rintro e wn ⟨r1, rfl, htb, hb⟩; replace hF := hF.step hb; clear hb; clear y0 y1; have y0 := (hF.below.cell (p := ⟨w.heap.size, 0, none⟩) h1).trans c0; have y1 := (hF.below.cell (p := ⟨w.heap.size, 1, none⟩) h1).trans c1; obtain ⟨s1, tc, rfl, -⟩ := (id htb); clear HRU)
  go_wp2_with (go_at_call 6; refine (HNW _).out.mono ?_; rintro e wm ⟨pp, rfl, hpp, hL, hB⟩; clear HNW)
  go_returns
  exact ⟨rfl, (hBW.trans (hF.below.mono hBW.size)).trans (hB.mono (Nat.le_trans hBW.size hF.size))⟩

set_option maxRecDepth 100000 in
set_option maxHeartbeats 32000000 in
theorem walk_main (s : List (List Um.Tm)) (v0 : Value) (p : List (Int × Int)) (v1 : Value) (b : List (Int × Int)) (v : Value) (n fail keep : Int) (w : World) (hg : HasErr w) (hf : Lf w.heap.size w v0 s) (hp : Ls w.heap.size w v1 p) (hs : Ls w.heap.size w v b) (hfl : fail ≤ 9223372036854775807) (h : (Um.tubeAll s p b n).2 = 0) (h20 : (Um.tubeAll s p b n).1.length ≤ 20) :
    Calls Tryz.prog 3 #[.agg #[v0, v1], v, .int .i64 n, .int .i64 fail, .int .i64 keep] w fun e w' => e = .returned (.bool true) ∧ Below w.heap.size w w' := by
  have ve := errV_none
  have q1 := errG
  have q2 := errGn
  have q3 := errE
  have q4 := errN
  obtain ⟨a0, cap0, rfl, -⟩ := (id hf)
  obtain ⟨a1, cap1, rfl, -⟩ := (id hp)
  obtain ⟨a2, cap2, rfl, -⟩ := (id hs)
  have h1 : w.heap.size < (w.alloc (.cells #[.slice a0 s.length cap0, .slice a1 p.length cap1] 25)).heap.size := by simp
  have hBW : Below w.heap.size w (w.alloc (.cells #[.slice a0 s.length cap0, .slice a1 p.length cap1] 25)) := by go_grown
  obtain ⟨c0, c1⟩ := sys_cells w (.slice a0 s.length cap0) (.slice a1 p.length cap1) 25
  have hF := Fr.start (w.alloc (.cells #[.slice a0 s.length cap0, .slice a1 p.length cap1] 25))
  have hf2 := hf.step hBW
  have hp2 := hp.step hBW
  have hb2 := hs.step hBW
  have HRU := fun w h1 h2 h3 => hid (flRun_any s (.slice a0 s.length cap0) p (.slice a1 p.length cap1) b (.slice a2 b.length cap2) n w h1 h2 h3)
  clear hf hp hs
  have y0 := c0
  have y1 := c1
  obtain ⟨f1, f0, f2, f3⟩ := tube_facts h
  obtain ⟨K, hK⟩ : ∃ K : Int, K = 0 := ⟨_, rfl⟩
  have HNW := fun W => hid (logNew_yes b.length K W (Um.box_len f1).1 (Um.box_len f1).2 hK)
  have kK : (K != 0) = false := by simpa using hK
  have kK2 : (K == 0) = true := by simpa using hK
  have kT : ((Um.tubeAll s p b n).2 != 0) = false := by simpa using h
  have HB3 := hid (Um.box_len f1).2
  clear hK h f1
  generalize Um.tubeAll s p b n = TA at *
  obtain ⟨l, z⟩ := TA
  simp only at f0 f2 f3 h20 kT
  have hmx : Tryz.prog.follows .mixedOrders = true := by kernel_rfl
  have HG := hid hg
  have HF2 := hid f2
  have HF3 := hid f3
  have d1 : decide ((20 : Int) < (l.length : Int)) = false := decide_eq_false (by omega)
  clear hg f2 f3
  generalize hnb : b.length = nb at *
  clear hnb
  go_enter Tryz.func3, Tryz.ntmps3
  go_upto_region 4 with (go_at_call 4; refine (hid (one_any _)).out.mono ?_; rintro e wn ⟨rfl, hb⟩; replace hF := hF.step hb; clear hb; clear y0 y1; have y0 := (hF.below.cell (p := ⟨w.heap.size, 0, none⟩) h1).trans c0; have y1 := (hF.below.cell (p := ⟨w.heap.size, 1, none⟩) h1).trans c1)
  go_upto_region 5 with (go_at_call 5; refine (HRU _ (hF.lf hf2) (hF.ls hp2) (hF.ls hb2)).out.mono ?_; rintro e wn ⟨r1, rfl, htb, hb⟩; replace hF := hF.step hb; clear hb; clear y0 y1; have y0 := (hF.below.cell (p := ⟨w.heap.size, 0, none⟩) h1).trans c0; have y1 := (hF.below.cell (p := ⟨w.heap.size, 1, none⟩) h1).trans c1; obtain ⟨s1, tc, rfl, -⟩ := (id htb); clear HRU)
  obtain ⟨b6, o6, c6, e6', hcap, m6, n6⟩ := htb.open (fun e => by rw [e] at f0; exact absurd f0 (by decide))
  cases e6'
  have HTB := hid htb
  have HN6 := hid n6
  clear n6
  have HLF := hid (hF.lf hf2)
  have HLP := hid (hF.ls hp2)
  have HBX := hid (hBW.trans (hF.below.mono hBW.size))
  have HSZ : Hid (w.heap.size ≤ wn.heap.size) := hid (Nat.le_trans hBW.size hF.size)
  have HY0 := hid y0
  have HY1 := hid y1
  have HWX : Hid (w.heap.size < wn.heap.size) := hid (Nat.lt_of_lt_of_le h1 hF.size)
  clear htb hf2 hp2 hb2 hF c0 c1 h1 hBW y0 y1
  go_wp2_with fail
  refine (HNW _).out.mono ?_
  rintro e wm ⟨pp, rfl, hpp, hL, hB⟩
  clear HNW
  have HFA := hid (lgFail wn.heap.size pp none _ fail wm hL hfl)
  go_wp2_with fail
  refine HFA.out.mono ?_
  rintro e wf ⟨rfl, hL2, hW⟩
  have hB2 := hB.trans (hL.below hW)
  have HK0 : Hid (Kp l nb 0 (Um.failS (Um.newS nb) fail)) := hid ⟨rfl, rfl⟩
  clear HFA hL hW hB
  go_wp2
  go_loopw [15] (fun x wr => ∃ i : Nat, i ≤ l.length ∧ x = .int .i64 i ∧ ∃ sg k, Lg wn.heap.size wr pp k sg ∧ Kp l nb i sg ∧ sg.stop = false ∧ Below wn.heap.size wn wr) (fun x _ => l.length - (intOf x).toNat)
  case atStart => exact ⟨0, Nat.zero_le _, rfl, _, _, hL2, HK0.out, rfl, hB2⟩
  case round =>
    clear HK0 hL2 hB2
    obtain ⟨i, hi, rfl, sg, k, hL, hK, hst, hB⟩ := hrel
    by_cases hil : i < l.length
    · have hii : (i : Int) < (l.length : Int) := by omega
      obtain ⟨x6, p6, e6⟩ := HN6.out i hil
      have y6 := (hB.cell (p := ⟨b6, o6 + i, none⟩) m6).trans p6
      replace e6 := (e6.keep hB).wide hB.size
      obtain ⟨ax, cx, ex, -⟩ := (id e6)
      obtain ⟨nx, hnx⟩ : ∃ nx, nx = (l[i]?.getD []).length := ⟨_, rfl⟩
      rw [← hnx] at ex
      subst ex
      have HPU := hid (lgPut wn.heap.size pp k sg (l[i]?.getD []) (.slice ax nx cx) wr hL e6)
      clear hnx p6 e6
      rcases hK.put HF2.out h20 hil hst with ⟨e1, hK2, hst2⟩ | ⟨e1, hK2⟩
      · have kP : (Um.putF sg (l[i]?.getD []) != 0) = false := by rw [e1]; rfl
        clear e1 hK hst
        generalize Um.putF sg (l[i]?.getD []) = P at *
        generalize Um.putS sg (l[i]?.getD []) = sg2 at *
        go_wp2_with fail
        refine HPU.out.mono ?_
        rintro e wp ⟨k2, rfl, hL2, hW⟩
        replace hB := hB.trans (hL.below hW)
        clear HPU hL hW y6
        by_cases hi2 : i = 2
        · have d3 : ((i : Int) == 2) = true := by rw [hi2]; rfl
          have HSY := hid (lgSync wn.heap.size pp k2 sg2 wp hL2)
          rcases hK2.sync hst2 with ⟨e1, hK3, hst3⟩ | ⟨e1, hK3⟩
          · have kY : (Um.syncF sg2 != 0) = false := by rw [e1]; rfl
            clear e1 hK2 hst2 hi2
            generalize Um.syncF sg2 = P2 at *
            generalize Um.syncS sg2 = sg3 at *
            go_wp2_with fail
            refine HSY.out.mono ?_
            rintro e wy ⟨rfl, hL3, hW⟩
            replace hB := hB.trans (hL2.below hW)
            clear HSY hL2 hW
            go_wp2
            exact ⟨⟨i + 1, hil, by simp, sg3, k2, hL3, hK3, hst3, hB⟩, by simp [intOf]; omega⟩
          · have kY : (Um.syncF sg2 != 0) = true := by rw [e1]; rfl
            clear e1 hK2 hst2 hi2
            generalize Um.syncF sg2 = P2 at *
            generalize Um.syncS sg2 = sg at *
            go_wp2_with fail
            refine HSY.out.mono ?_
            rintro e wy ⟨rfl, hL3, hW⟩
            replace hB := hB.trans (hL2.below hW)
            clear HSY hL2 hW
            have hL := hL3
            have hK := hK3
            have hj : i + 1 ≤ l.length := hil
            clear hL3 hK3
            obtain ⟨q, hq, hdq⟩ := hK.crash hj keep
            have HCR := hid (lgCrash wn.heap.size pp k2 sg keep wy hL)
            have HLS := hid hL
            go_wp2_with fail
            refine HCR.out.mono ?_
            rintro e wc ⟨kc, rfl, hLc, hWc⟩
            replace hB := hB.trans (HLS.out.below hWc)
            have HAL := hid (lgAll wn.heap.size pp kc _ wc hLc)
            have HHU := fun W h => hid (lgHull wn.heap.size pp kc (Um.crashS sg keep) W h)
            rw [hdq] at HAL HHU
            clear HCR hL hWc HLS hK hj hdq
            go_wp2_with fail
            refine HAL.out.mono ?_
            rintro e wd ⟨r, rfl, hr, hb⟩
            replace hLc := hLc.step hb
            replace hB := hB.trans (hb.mono hB.size)
            have HLQ : Hid ((l.take q).length = q) := hid (by rw [List.length_take]; omega)
            obtain ⟨aa, ca, ea, -⟩ := (id hr)
            rw [HLQ.out] at ea
            subst ea
            clear hb HAL
            have d1 : decide ((l.length : Int) < (q : Int)) = false := decide_eq_false (by omega)
            have d2 : decide (l.length < q) = false := decide_eq_false (by omega)
            have hq9 : q ≤ tc := Nat.le_trans hq hcap
            have HBS := fun W h1 h2 => hid (boxes_same (l.take q) (.slice aa q ca) (.slice (some ⟨b6, o6, none⟩) q tc) W h1 h2 (by rw [HLQ.out]; omega) (fun j hj => by
              rw [HLQ.out] at hj
              rw [List.getElem?_take_of_lt hj, List.getElem?_eq_getElem (by omega)]
              have := (HF2.out _ (List.getElem_mem (show j < l.length by omega))).2
              have := HB3.out
              simp only [Option.getD_some]
              omega))
            have HRQ := hid hr
            clear hr
            go_wp2_with fail
            refine (HBS _ HRQ.out (((lb_take HTB.out hq).keep hB).wide hB.size)).out.mono ?_
            rintro e we ⟨rfl, hb⟩
            have HR2 := hid (HRQ.out.step hb)
            replace hLc := hLc.step hb
            replace hB := hB.trans (hb.mono hB.size)
            clear hb HBS HRQ
            have HHE : Hid (q = 0 → Um.hullE (l.take q) = 5) := hid (fun e => by rw [e]; rfl)
            have HHF : Hid (¬ q = 0 → Um.hullE (l.take q) = 0 ∧ ∀ i, i < q → Um.boxesF ((l.take q)[i]?.getD []) (Um.hullF (l.take q)) = 0 ∧ withinA ((l.take q)[i]?.getD []) (Um.hullF (l.take q)) = true) := hid (fun e => by
              have hne : l.take q ≠ [] := fun h => by have := HLQ.out; rw [h] at this; exact e this.symm
              refine ⟨(Um.hullF_some hne).2, fun i hi => hull_in (n := nb) (fun c hc => HF2.out c (List.mem_of_mem_take hc)) hne (by rw [HLQ.out]; exact hi)⟩)
            go_wp2_with fail
            refine (HHU _ hLc).out.mono ?_
            rintro e wh ⟨rh, rfl, hrh, hb⟩
            obtain ⟨ah, ch, eh, -⟩ := (id hrh)
            obtain ⟨nh, hnh⟩ : ∃ nh, nh = (Um.hullF (l.take q)).length := ⟨_, rfl⟩
            rw [← hnh] at eh
            subst eh
            have HR3 := hid (HR2.out.step hb)
            replace hB := hB.trans (hb.mono hB.size)
            clear hb HHU HR2 hLc hnh
            by_cases hq0 : q = 0
            · have e5 := HHE.out hq0
              have kE : (Um.hullE (l.take q) == 5) = true := by rw [e5]; rfl
              have kQ : ((q : Int) == 0) = true := by rw [hq0]; rfl
              clear e5 HHE HHF
              generalize Um.hullE (l.take q) = Z at *
              go_wp2_with fail
              refine (same_any _ _ _ (HG.out.below (B := w.heap.size) (HBX.out.trans (hB.mono HSZ.out)) HG.out.size)).mono ?_
              rintro e wz ⟨rfl, hb⟩
              replace hB := hB.trans (hb.mono hB.size)
              clear hb
              go_wp2
              go_returns
              exact ⟨rfl, HBX.out.trans (hB.mono HSZ.out)⟩
            · obtain ⟨e0, hin⟩ := HHF.out hq0
              have kE : (Um.hullE (l.take q) == 0) = true := by rw [e0]; rfl
              have kQ : ((q : Int) == 0) = false := beq_false_of_ne (by omega)
              have HIN := hid hin
              clear e0 hin HHE HHF
              generalize Um.hullE (l.take q) = Z at *
              have hne : l.take q ≠ [] := fun h => by have := HLQ.out; rw [h] at this; exact hq0 this.symm
              obtain ⟨b7, o7, c7, e7, -, m7, n7⟩ := HR3.out.open hne
              rw [HLQ.out] at e7
              cases e7
              have HN7 := hid n7
              have HRH := hid hrh
              clear n7 hne hrh
              go_wp2
              go_loopw [18] (fun x wq => ∃ i : Nat, i ≤ q ∧ x = .int .i64 i ∧ Below wh.heap.size wh wq) (fun x _ => q - (intOf x).toNat)
              case atStart => exact ⟨0, Nat.zero_le _, rfl, Below.refl _ _⟩
              case round =>
                obtain ⟨i7, hi7, rfl, hB7⟩ := hrel
                by_cases hil7 : i7 < q
                · have hii7 : (i7 : Int) < (q : Int) := by omega
                  obtain ⟨x7, p7, e7⟩ := HN7.out i7 (by rw [HLQ.out]; exact hil7)
                  have y7 := (hB7.cell (p := ⟨b7, o7 + i7, none⟩) m7).trans p7
                  replace e7 := (e7.keep hB7).wide hB7.size
                  have hh7 := (HRH.out.keep hB7).wide hB7.size
                  obtain ⟨g1, g2⟩ := HIN.out i7 hil7
                  obtain ⟨ax7, cx7, ex7, -⟩ := (id e7)
                  obtain ⟨nx7, hnx7⟩ : ∃ nx, nx = ((l.take q)[i7]?.getD []).length := ⟨_, rfl⟩
                  rw [← hnx7] at ex7
                  subst ex7
                  have HWI := hid (bwithin_any ((l.take q)[i7]?.getD []) (.slice ax7 nx7 cx7) (Um.hullF (l.take q)) (.slice ah nh ch) _ e7 hh7)
                  have kW : (Um.boxesF ((l.take q)[i7]?.getD []) (Um.hullF (l.take q)) != 0) = false := by rw [g1]; rfl
                  rw [g2] at HWI
                  clear g1 g2 hnx7 p7 e7 hh7
                  generalize Um.boxesF ((l.take q)[i7]?.getD []) (Um.hullF (l.take q)) = Z7 at *
                  go_wp2_with fail
                  refine HWI.out.mono ?_
                  rintro e wi ⟨rfl, hb⟩
                  replace hB7 := hB7.trans (hb.mono hB7.size)
                  clear hb HWI y7
                  go_wp2
                  exact ⟨⟨i7 + 1, hil7, by simp, hB7⟩, by simp [intOf]; omega⟩
                · obtain rfl : q = i7 := by omega
                  obtain ⟨q1, hq1⟩ : ∃ q1, q = q1 + 1 := ⟨q - 1, by omega⟩
                  obtain ⟨x9, p9, e9⟩ := HN7.out q1 (by rw [HLQ.out]; omega)
                  have y9 := (hB7.cell (p := ⟨b7, o7 + q1, none⟩) m7).trans p9
                  have lx9 := Nat.lt_of_lt_of_le m7 hB7.size
                  replace e9 := (e9.keep hB7).wide hB7.size
                  have hgl : (l.take q)[q1]?.getD [] = l[q1]?.getD [] := by rw [List.getElem?_take_of_lt (by omega)]
                  rw [hgl] at e9
                  obtain ⟨a9, c9, ex9, -⟩ := (id e9)
                  obtain ⟨n9, hn9⟩ : ∃ n9, n9 = (l[q1]?.getD []).length := ⟨_, rfl⟩
                  rw [← hn9] at ex9
                  subst ex9
                  have HOF := fun W h1 h2 h3 => hid (sof_any s (.slice a0 s.length cap0) p (.slice a1 p.length cap1) (l[q1]?.getD []) (.slice a9 n9 c9) W h1 h2 h3)
                  have hBB : Below wn.heap.size wn wr := hB.trans (hB7.mono hB.size)
                  have hLF := (HLF.out.keep hBB).wide hBB.size
                  have hLP := (HLP.out.keep hBB).wide hBB.size
                  have z0 := (hBB.cell (p := ⟨w.heap.size, 0, none⟩) HWX.out).trans HY0.out
                  have z1 := (hBB.cell (p := ⟨w.heap.size, 1, none⟩) HWX.out).trans HY1.out
                  have lz := Nat.lt_of_lt_of_le HWX.out hBB.size
                  have HNX := hid (HF3.out q1)
                  have HQ1 := hid hq1
                  have hqp : 0 < q := by omega
                  have HBB := hid hBB
                  clear hn9 hgl p9 hq1 HN7 HRH HIN hB7 hB HR3 hq0 hBB
                  generalize Um.ofAll s p (l[q1]?.getD []) = OF at *
                  go_wp2
                  obtain ⟨Inv, hInv⟩ : ∃ Inv : Array Bool → Act → World → Prop, ∀ listed aq W', Inv listed aq W' ↔ (∃ rr v124 v125 v126 v127 v128 v129 v130 v131 v123 v132 v133 v21 v22 : Value, aq = { tmps := #[Value.agg #[Value.slice a0 s.length cap0, Value.slice a1 p.length cap1], Value.slice a2 nb cap2, Value.int IntKind.i64 n, Value.int IntKind.i64 fail, Value.int IntKind.i64 keep, Value.pointer (some { block := w.heap.size, off := 0 }), undef, undef, undef, undef, u10, Value.bool true, Value.slice (some { block := b6, off := o6 }) l.length tc, errV Z, Value.pointer (some { block := pp, off := 0 }), Value.int IntKind.i64 ↑i, Value.slice (some { block := b7, off := o7 }) q ca, Value.slice ah nh ch, Value.int IntKind.i64 ↑q, u19, u20, v21, v22, Value.bool true, Value.bool true, Value.bool false, Value.tuple #[Value.slice (some { block := b6, off := o6 }) l.length tc, errV z], Value.agg #[Value.slice a0 s.length cap0, Value.slice a1 p.length cap1], Value.slice a2 nb cap2, Value.int IntKind.i64 n, Value.tuple #[Value.slice (some { block := b6, off := o6 }) l.length tc, errV z], Value.slice (some { block := b6, off := o6 }) l.length tc, errV z, errV z, Value.bool false, Value.tuple #[Value.pointer (some { block := pp, off := 0 }), errV K], Value.slice a2 nb cap2, Value.int IntKind.i64 ↑nb, Value.tuple #[Value.pointer (some { block := pp, off := 0 }), errV K], Value.pointer (some { block := pp, off := 0 }), errV K, errV K, Value.bool false, Value.bool false, Value.slice (some { block := b6, off := o6 }) l.length tc, Value.int IntKind.i64 ↑l.length, Value.bool false, Value.bool false, undef, undef, Value.pointer (some { block := pp, off := 0 }), Value.int IntKind.i64 fail, Value.tuple #[], Value.int IntKind.i64 ↑i, Value.slice (some { block := b6, off := o6 }) l.length tc, Value.int IntKind.i64 ↑l.length, Value.bool true, u57, u58, Value.pointer (some { block := pp, off := 0 }), Value.slice (some { block := b6, off := o6 }) l.length tc, Value.int IntKind.i64 ↑i, Value.pointer (some { block := b6, off := o6 + i }), Value.slice ax nx cx, errV P, Value.bool false, Value.int IntKind.i64 ↑i, Value.bool true, Value.bool true, Value.pointer (some { block := pp, off := 0 }), errV P2, Value.bool true, Value.bool true, Value.pointer (some { block := pp, off := 0 }), Value.int IntKind.i64 keep, Value.tuple #[], Value.pointer (some { block := pp, off := 0 }), Value.slice (some { block := b7, off := o7 }) q ca, Value.slice (some { block := b7, off := o7 }) q ca, Value.int IntKind.i64 ↑q, Value.slice (some { block := b6, off := o6 }) l.length tc, Value.int IntKind.i64 ↑l.length, Value.bool false, Value.bool false, Value.slice (some { block := b7, off := o7 }) q ca, Value.slice (some { block := b6, off := o6 }) l.length tc, Value.slice (some { block := b7, off := o7 }) q ca, Value.int IntKind.i64 ↑q, Value.slice (some { block := b6, off := o6 }) q tc, Value.bool true, Value.bool false, Value.bool false, Value.tuple #[Value.slice ah nh ch, errV Z], Value.pointer (some { block := pp, off := 0 }), Value.tuple #[Value.slice ah nh ch, errV Z], Value.slice ah nh ch, errV Z, Value.slice (some { block := b7, off := o7 }) q ca, Value.int IntKind.i64 ↑q, Value.bool false, undef, undef, Value.int IntKind.i64 ↑q, Value.slice (some { block := b7, off := o7 }) q ca, Value.int IntKind.i64 ↑q, Value.bool false, u106, u107, u108, u109, u110, u111, u112, u113, u114, u115, u116, u117, u118, u119, u120, u121, u122, v123, v124, v125, v126, v127, v128, v129, v130, v131, v132, v133, undef, undef, undef, undef, undef, undef, undef, undef, undef, undef, undef, undef, undef, undef, undef, undef, undef, undef, undef, undef, undef, undef], defers := [] } ∧ Below (wr).heap.size (wr) W' ∧ (listed.getD 0 false = true → v124 = .agg #[.slice a0 s.length cap0, .slice a1 p.length cap1]) ∧ (listed.getD 1 false = true → v125 = Value.slice (some { block := b7, off := o7 }) q ca) ∧ (listed.getD 2 false = true → v126 = Value.slice (some { block := b7, off := o7 }) q ca) ∧ (listed.getD 3 false = true → v127 = .int .i64 (q : Int)) ∧ (listed.getD 4 false = true → v128 = .int .i64 (q1 : Int)) ∧ (listed.getD 5 false = true → v129 = .pointer (some ⟨b7, o7 + q1, none⟩)) ∧ (listed.getD 6 false = true → v130 = .slice a9 n9 c9) ∧ (listed.getD 7 false = true → v131 = (.tuple #[rr, errV OF.2])) ∧ (listed.getD 8 false = true → v123 = (.tuple #[rr, errV OF.2])) ∧ (listed.getD 9 false = true → v132 = rr) ∧ (listed.getD 10 false = true → v133 = errV OF.2) ∧ (listed.getD 11 false = true → v21 = rr) ∧ (listed.getD 12 false = true → v22 = errV OF.2) ∧ (listed.getD 7 false = true → Ls W'.heap.size W' rr OF.1) ∧ (listed.getD 8 false = true → listed.getD 7 false = true) ∧ (listed.getD 9 false = true → listed.getD 7 false = true) ∧ (listed.getD 10 false = true → listed.getD 7 false = true) ∧ (listed.getD 11 false = true → listed.getD 7 false = true) ∧ (listed.getD 12 false = true → listed.getD 7 false = true)) := ⟨_, fun _ _ _ => Iff.rfl⟩
                  have HI := hid hInv
                  clear hInv
                  refine Free.region hmx (by kernel_rfl) Inv ?s1 ?s2 ?s3
                  case s1 =>
                    exact (HI.out _ _ _).2 ⟨undef, undef, undef, undef, undef, undef, undef, undef, undef, undef, undef, undef, undef, undef, rfl, (Below.refl _ _).drew, Free.not_yet, Free.not_yet, Free.not_yet, Free.not_yet, Free.not_yet, Free.not_yet, Free.not_yet, Free.not_yet, Free.not_yet, Free.not_yet, Free.not_yet, Free.not_yet, Free.not_yet, Free.not_yet, Free.not_yet, Free.not_yet, Free.not_yet, Free.not_yet, Free.not_yet⟩
                  case s2 =>
                    intro i listed aq W1 hix hne hnl hsz hv
                    obtain ⟨rr, v124, v125, v126, v127, v128, v129, v130, v131, v123, v132, v133, v21, v22, rfl, hW, l0, l1, l2, l3, l4, l5, l6, l7, l8, l9, l10, l11, l12, lq, ld8, ld9, ld10, ld11, ld12⟩ := (HI.out _ _ _).1 hv
                    clear hv
                    replace hix : i < 13 := hix
                    replace hsz : listed.size = 13 := hsz
                    rcases (by omega : i = 0 ∨ i = 1 ∨ i = 2 ∨ i = 3 ∨ i = 4 ∨ i = 5 ∨ i = 6 ∨ i = 7 ∨ i = 8 ∨ i = 9 ∨ i = 10 ∨ i = 11 ∨ i = 12) with rfl | rfl | rfl | rfl | rfl | rfl | rfl | rfl | rfl | rfl | rfl | rfl | rfl
                    · have z2 := (hW.cell (p := ⟨w.heap.size, 0, none⟩) lz).trans z0
                      have z3 := (hW.cell (p := ⟨w.heap.size, 1, none⟩) lz).trans z1
                      refine Free.op rfl rfl (fun K hK => ?_)
                      go_simp
                      exact hK _ _ ((HI.out _ _ _).2 ⟨rr, _, v125, v126, v127, v128, v129, v130, v131, v123, v132, v133, v21, v22, rfl, hW, fun _ => rfl, Free.of_set (by decide) l1, Free.of_set (by decide) l2, Free.of_set (by decide) l3, Free.of_set (by decide) l4, Free.of_set (by decide) l5, Free.of_set (by decide) l6, Free.of_set (by decide) l7, Free.of_set (by decide) l8, Free.of_set (by decide) l9, Free.of_set (by decide) l10, Free.of_set (by decide) l11, Free.of_set (by decide) l12, Free.of_set (by decide) lq, fun e => Free.fore (by decide) (ld8 (Free.back (by decide) e)), fun e => Free.fore (by decide) (ld9 (Free.back (by decide) e)), fun e => Free.fore (by decide) (ld10 (Free.back (by decide) e)), fun e => Free.fore (by decide) (ld11 (Free.back (by decide) e)), fun e => Free.fore (by decide) (ld12 (Free.back (by decide) e))⟩)
                    · refine Free.op rfl rfl (fun K hK => ?_)
                      go_simp
                      exact hK _ _ ((HI.out _ _ _).2 ⟨rr, v124, _, v126, v127, v128, v129, v130, v131, v123, v132, v133, v21, v22, rfl, hW, Free.of_set (by decide) l0, fun _ => rfl, Free.of_set (by decide) l2, Free.of_set (by decide) l3, Free.of_set (by decide) l4, Free.of_set (by decide) l5, Free.of_set (by decide) l6, Free.of_set (by decide) l7, Free.of_set (by decide) l8, Free.of_set (by decide) l9, Free.of_set (by decide) l10, Free.of_set (by decide) l11, Free.of_set (by decide) l12, Free.of_set (by decide) lq, fun e => Free.fore (by decide) (ld8 (Free.back (by decide) e)), fun e => Free.fore (by decide) (ld9 (Free.back (by decide) e)), fun e => Free.fore (by decide) (ld10 (Free.back (by decide) e)), fun e => Free.fore (by decide) (ld11 (Free.back (by decide) e)), fun e => Free.fore (by decide) (ld12 (Free.back (by decide) e))⟩)
                    · refine Free.op rfl rfl (fun K hK => ?_)
                      go_simp
                      exact hK _ _ ((HI.out _ _ _).2 ⟨rr, v124, v125, _, v127, v128, v129, v130, v131, v123, v132, v133, v21, v22, rfl, hW, Free.of_set (by decide) l0, Free.of_set (by decide) l1, fun _ => rfl, Free.of_set (by decide) l3, Free.of_set (by decide) l4, Free.of_set (by decide) l5, Free.of_set (by decide) l6, Free.of_set (by decide) l7, Free.of_set (by decide) l8, Free.of_set (by decide) l9, Free.of_set (by decide) l10, Free.of_set (by decide) l11, Free.of_set (by decide) l12, Free.of_set (by decide) lq, fun e => Free.fore (by decide) (ld8 (Free.back (by decide) e)), fun e => Free.fore (by decide) (ld9 (Free.back (by decide) e)), fun e => Free.fore (by decide) (ld10 (Free.back (by decide) e)), fun e => Free.fore (by decide) (ld11 (Free.back (by decide) e)), fun e => Free.fore (by decide) (ld12 (Free.back (by decide) e))⟩)
                    · refine Free.op rfl rfl (fun K hK => ?_)
                      obtain rfl := l2 (hne 2 (by kernel_rfl))
                      go_simp
                      exact hK _ _ ((HI.out _ _ _).2 ⟨rr, v124, v125, _, _, v128, v129, v130, v131, v123, v132, v133, v21, v22, rfl, hW, Free.of_set (by decide) l0, Free.of_set (by decide) l1, fun _ => rfl, fun _ => rfl, Free.of_set (by decide) l4, Free.of_set (by decide) l5, Free.of_set (by decide) l6, Free.of_set (by decide) l7, Free.of_set (by decide) l8, Free.of_set (by decide) l9, Free.of_set (by decide) l10, Free.of_set (by decide) l11, Free.of_set (by decide) l12, Free.of_set (by decide) lq, fun e => Free.fore (by decide) (ld8 (Free.back (by decide) e)), fun e => Free.fore (by decide) (ld9 (Free.back (by decide) e)), fun e => Free.fore (by decide) (ld10 (Free.back (by decide) e)), fun e => Free.fore (by decide) (ld11 (Free.back (by decide) e)), fun e => Free.fore (by decide) (ld12 (Free.back (by decide) e))⟩)
                    · have q4 : (q : Int) - 1 = (q1 : Int) := by have := HQ1.out; omega
                      have qW : IntKind.i64.wrap (q1 : Int) = (q1 : Int) := by have := HQ1.out; rw [IntKind.wrap_i64]; omega
                      refine Free.op rfl rfl (fun K hK => ?_)
                      obtain rfl := l3 (hne 3 (by kernel_rfl))
                      go_simp
                      exact hK _ _ ((HI.out _ _ _).2 ⟨rr, v124, v125, v126, _, _, v129, v130, v131, v123, v132, v133, v21, v22, rfl, hW, Free.of_set (by decide) l0, Free.of_set (by decide) l1, Free.of_set (by decide) l2, fun _ => rfl, fun _ => rfl, Free.of_set (by decide) l5, Free.of_set (by decide) l6, Free.of_set (by decide) l7, Free.of_set (by decide) l8, Free.of_set (by decide) l9, Free.of_set (by decide) l10, Free.of_set (by decide) l11, Free.of_set (by decide) l12, Free.of_set (by decide) lq, fun e => Free.fore (by decide) (ld8 (Free.back (by decide) e)), fun e => Free.fore (by decide) (ld9 (Free.back (by decide) e)), fun e => Free.fore (by decide) (ld10 (Free.back (by decide) e)), fun e => Free.fore (by decide) (ld11 (Free.back (by decide) e)), fun e => Free.fore (by decide) (ld12 (Free.back (by decide) e))⟩)
                    · have q5 : (q1 : Int) < (q : Int) := by have := HQ1.out; omega
                      refine Free.op rfl rfl (fun K hK => ?_)
                      obtain rfl := l1 (hne 1 (by kernel_rfl))
                      obtain rfl := l4 (hne 4 (by kernel_rfl))
                      go_simp
                      exact hK _ _ ((HI.out _ _ _).2 ⟨rr, v124, _, v126, v127, _, _, v130, v131, v123, v132, v133, v21, v22, rfl, hW, Free.of_set (by decide) l0, fun _ => rfl, Free.of_set (by decide) l2, Free.of_set (by decide) l3, fun _ => rfl, fun _ => rfl, Free.of_set (by decide) l6, Free.of_set (by decide) l7, Free.of_set (by decide) l8, Free.of_set (by decide) l9, Free.of_set (by decide) l10, Free.of_set (by decide) l11, Free.of_set (by decide) l12, Free.of_set (by decide) lq, fun e => Free.fore (by decide) (ld8 (Free.back (by decide) e)), fun e => Free.fore (by decide) (ld9 (Free.back (by decide) e)), fun e => Free.fore (by decide) (ld10 (Free.back (by decide) e)), fun e => Free.fore (by decide) (ld11 (Free.back (by decide) e)), fun e => Free.fore (by decide) (ld12 (Free.back (by decide) e))⟩)
                    · have z9 := (hW.cell (p := ⟨b7, o7 + q1, none⟩) lx9).trans y9
                      refine Free.op rfl rfl (fun K hK => ?_)
                      obtain rfl := l5 (hne 5 (by kernel_rfl))
                      go_simp
                      exact hK _ _ ((HI.out _ _ _).2 ⟨rr, v124, v125, v126, v127, v128, _, _, v131, v123, v132, v133, v21, v22, rfl, hW, Free.of_set (by decide) l0, Free.of_set (by decide) l1, Free.of_set (by decide) l2, Free.of_set (by decide) l3, Free.of_set (by decide) l4, fun _ => rfl, fun _ => rfl, Free.of_set (by decide) l7, Free.of_set (by decide) l8, Free.of_set (by decide) l9, Free.of_set (by decide) l10, Free.of_set (by decide) l11, Free.of_set (by decide) l12, Free.of_set (by decide) lq, fun e => Free.fore (by decide) (ld8 (Free.back (by decide) e)), fun e => Free.fore (by decide) (ld9 (Free.back (by decide) e)), fun e => Free.fore (by decide) (ld10 (Free.back (by decide) e)), fun e => Free.fore (by decide) (ld11 (Free.back (by decide) e)), fun e => Free.fore (by decide) (ld12 (Free.back (by decide) e))⟩)
                    · refine Free.op rfl rfl (fun K hK => ?_)
                      obtain rfl := l0 (hne 0 (by kernel_rfl))
                      obtain rfl := l6 (hne 6 (by kernel_rfl))
                      go_wp2_with (go_at_call 16; refine (HOF _ (hLF.step hW) (hLP.step hW) (e9.step hW)).out.mono ?_; rintro e W3 ⟨r, rfl, hq1, hb⟩)
                      exact (HI.out _ _ _).2 ⟨_, _, v125, v126, v127, v128, v129, _, _, v123, v132, v133, v21, v22, rfl, hW.trans (hb.mono hW.size), fun _ => rfl, Free.of_set (by decide) l1, Free.of_set (by decide) l2, Free.of_set (by decide) l3, Free.of_set (by decide) l4, Free.of_set (by decide) l5, fun _ => rfl, fun _ => rfl, Free.never ld8 hnl (by decide), Free.never ld9 hnl (by decide), Free.never ld10 hnl (by decide), Free.never ld11 hnl (by decide), Free.never ld12 hnl (by decide), fun _ => hq1, Free.never ld8 hnl (by decide), Free.never ld9 hnl (by decide), Free.never ld10 hnl (by decide), Free.never ld11 hnl (by decide), Free.never ld12 hnl (by decide)⟩
                    · refine Free.op rfl rfl (fun K hK => ?_)
                      obtain rfl := l7 (hne 7 (by kernel_rfl))
                      go_simp
                      exact hK _ _ ((HI.out _ _ _).2 ⟨rr, v124, v125, v126, v127, v128, v129, v130, _, _, v132, v133, v21, v22, rfl, hW, Free.of_set (by decide) l0, Free.of_set (by decide) l1, Free.of_set (by decide) l2, Free.of_set (by decide) l3, Free.of_set (by decide) l4, Free.of_set (by decide) l5, Free.of_set (by decide) l6, fun _ => rfl, fun _ => rfl, Free.of_set (by decide) l9, Free.of_set (by decide) l10, Free.of_set (by decide) l11, Free.of_set (by decide) l12, Free.of_set (by decide) lq, fun _ => Free.fore (by decide) (hne 7 (by kernel_rfl)), fun e => Free.fore (by decide) (ld9 (Free.back (by decide) e)), fun e => Free.fore (by decide) (ld10 (Free.back (by decide) e)), fun e => Free.fore (by decide) (ld11 (Free.back (by decide) e)), fun e => Free.fore (by decide) (ld12 (Free.back (by decide) e))⟩)
                    · refine Free.op rfl rfl (fun K hK => ?_)
                      obtain rfl := l8 (hne 8 (by kernel_rfl))
                      go_simp
                      exact hK _ _ ((HI.out _ _ _).2 ⟨rr, v124, v125, v126, v127, v128, v129, v130, v131, _, _, v133, v21, v22, rfl, hW, Free.of_set (by decide) l0, Free.of_set (by decide) l1, Free.of_set (by decide) l2, Free.of_set (by decide) l3, Free.of_set (by decide) l4, Free.of_set (by decide) l5, Free.of_set (by decide) l6, Free.of_set (by decide) l7, fun _ => rfl, fun _ => rfl, Free.of_set (by decide) l10, Free.of_set (by decide) l11, Free.of_set (by decide) l12, Free.of_set (by decide) lq, fun e => Free.fore (by decide) (ld8 (Free.back (by decide) e)), fun _ => Free.fore (by decide) (ld8 (hne 8 (by kernel_rfl))), fun e => Free.fore (by decide) (ld10 (Free.back (by decide) e)), fun e => Free.fore (by decide) (ld11 (Free.back (by decide) e)), fun e => Free.fore (by decide) (ld12 (Free.back (by decide) e))⟩)
                    · refine Free.op rfl rfl (fun K hK => ?_)
                      obtain rfl := l8 (hne 8 (by kernel_rfl))
                      go_simp
                      exact hK _ _ ((HI.out _ _ _).2 ⟨rr, v124, v125, v126, v127, v128, v129, v130, v131, _, v132, _, v21, v22, rfl, hW, Free.of_set (by decide) l0, Free.of_set (by decide) l1, Free.of_set (by decide) l2, Free.of_set (by decide) l3, Free.of_set (by decide) l4, Free.of_set (by decide) l5, Free.of_set (by decide) l6, Free.of_set (by decide) l7, fun _ => rfl, Free.of_set (by decide) l9, fun _ => rfl, Free.of_set (by decide) l11, Free.of_set (by decide) l12, Free.of_set (by decide) lq, fun e => Free.fore (by decide) (ld8 (Free.back (by decide) e)), fun e => Free.fore (by decide) (ld9 (Free.back (by decide) e)), fun _ => Free.fore (by decide) (ld8 (hne 8 (by kernel_rfl))), fun e => Free.fore (by decide) (ld11 (Free.back (by decide) e)), fun e => Free.fore (by decide) (ld12 (Free.back (by decide) e))⟩)
                    · refine Free.op rfl rfl (fun K hK => ?_)
                      obtain rfl := (l9 (hne 9 (by kernel_rfl))).symm
                      go_simp
                      exact hK _ _ ((HI.out _ _ _).2 ⟨rr, v124, v125, v126, v127, v128, v129, v130, v131, v123, _, v133, _, v22, rfl, hW, Free.of_set (by decide) l0, Free.of_set (by decide) l1, Free.of_set (by decide) l2, Free.of_set (by decide) l3, Free.of_set (by decide) l4, Free.of_set (by decide) l5, Free.of_set (by decide) l6, Free.of_set (by decide) l7, Free.of_set (by decide) l8, fun _ => rfl, Free.of_set (by decide) l10, fun _ => rfl, Free.of_set (by decide) l12, Free.of_set (by decide) lq, fun e => Free.fore (by decide) (ld8 (Free.back (by decide) e)), fun e => Free.fore (by decide) (ld9 (Free.back (by decide) e)), fun e => Free.fore (by decide) (ld10 (Free.back (by decide) e)), fun _ => Free.fore (by decide) (ld9 (hne 9 (by kernel_rfl))), fun e => Free.fore (by decide) (ld12 (Free.back (by decide) e))⟩)
                    · refine Free.op rfl rfl (fun K hK => ?_)
                      obtain rfl := l10 (hne 10 (by kernel_rfl))
                      go_simp
                      exact hK _ _ ((HI.out _ _ _).2 ⟨rr, v124, v125, v126, v127, v128, v129, v130, v131, v123, v132, _, v21, _, rfl, hW, Free.of_set (by decide) l0, Free.of_set (by decide) l1, Free.of_set (by decide) l2, Free.of_set (by decide) l3, Free.of_set (by decide) l4, Free.of_set (by decide) l5, Free.of_set (by decide) l6, Free.of_set (by decide) l7, Free.of_set (by decide) l8, Free.of_set (by decide) l9, fun _ => rfl, Free.of_set (by decide) l11, fun _ => rfl, Free.of_set (by decide) lq, fun e => Free.fore (by decide) (ld8 (Free.back (by decide) e)), fun e => Free.fore (by decide) (ld9 (Free.back (by decide) e)), fun e => Free.fore (by decide) (ld10 (Free.back (by decide) e)), fun e => Free.fore (by decide) (ld11 (Free.back (by decide) e)), fun _ => Free.fore (by decide) (ld10 (hne 10 (by kernel_rfl)))⟩)
                  case s3 =>
                    intro listed aq W1 hall hsz hv
                    obtain ⟨rr, v124, v125, v126, v127, v128, v129, v130, v131, v123, v132, v133, v21, v22, rfl, hW, l0, l1, l2, l3, l4, l5, l6, l7, l8, l9, l10, l11, l12, lq, ld8, ld9, ld10, ld11, ld12⟩ := (HI.out _ _ _).1 hv
                    clear hv HI
                    obtain rfl := l0 (Free.listed_of hall hsz 0 (by decide))
                    obtain rfl := l1 (Free.listed_of hall hsz 1 (by decide))
                    obtain rfl := l2 (Free.listed_of hall hsz 2 (by decide))
                    obtain rfl := l3 (Free.listed_of hall hsz 3 (by decide))
                    obtain rfl := l4 (Free.listed_of hall hsz 4 (by decide))
                    obtain rfl := l5 (Free.listed_of hall hsz 5 (by decide))
                    obtain rfl := l6 (Free.listed_of hall hsz 6 (by decide))
                    obtain rfl := l7 (Free.listed_of hall hsz 7 (by decide))
                    obtain rfl := l8 (Free.listed_of hall hsz 8 (by decide))
                    obtain rfl := (l9 (Free.listed_of hall hsz 9 (by decide))).symm
                    obtain rfl := l10 (Free.listed_of hall hsz 10 (by decide))
                    obtain rfl := (l11 (Free.listed_of hall hsz 11 (by decide))).symm
                    obtain rfl := l12 (Free.listed_of hall hsz 12 (by decide))
                    have hq := lq (Free.listed_of hall hsz 7 (by decide))
                    clear lq ld8 ld9 ld10 ld11 ld12
                    clear hall hsz
                    obtain ⟨ar9, cr9, er9, -⟩ := (id hq)
                    obtain ⟨nr9, hnr9⟩ : ∃ nr9, nr9 = OF.1.length := ⟨_, rfl⟩
                    rw [← hnr9] at er9
                    subst er9
                    have hBB := HBB.out.trans (hW.mono HBB.out.size)
                    clear hnr9 hW HOF hLF hLP e9 y9 z0 z1 lx9 lz
                    by_cases ho : OF.2 = 0
                    · have kO : (OF.2 != 0) = false := by simpa using ho
                      by_cases hql : q = l.length
                      · have kL : ((q : Int) == (l.length : Int)) = true := by simp; omega
                        have kL2 : (q == l.length) = true := by simp; omega
                        clear hql ho
                        go_wp2
                        go_returns
                        exact ⟨rfl, HBX.out.trans (hBB.mono HSZ.out)⟩
                      · have kL : ((q : Int) == (l.length : Int)) = false := beq_false_of_ne (by omega)
                        have kL2 : (q == l.length) = false := beq_false_of_ne (by omega)
                        have hqlt : q < l.length := by omega
                        have hqi : (q : Int) < (l.length : Int) := by omega
                        obtain ⟨x5, p5, e5⟩ := HN6.out q hqlt
                        have y5 := (hBB.cell (p := ⟨b6, o6 + q, none⟩) m6).trans p5
                        replace e5 := (e5.keep hBB).wide hBB.size
                        obtain ⟨a5, c5, ex5, -⟩ := (id e5)
                        obtain ⟨n5, hn5⟩ : ∃ n5, n5 = (l[q]?.getD []).length := ⟨_, rfl⟩
                        rw [← hn5] at ex5
                        subst ex5
                        have e8 : OF.1 = l[q]?.getD [] := by have := (HNX.out (by have := HQ1.out; omega)).2; rw [← HQ1.out] at this; exact this
                        rw [e8] at hq
                        have HBM := hid (box_same (l[q]?.getD []) _ _ _ hq e5 (by
                          rw [List.getElem?_eq_getElem hqlt]
                          have := (HF2.out _ (List.getElem_mem hqlt)).2
                          have := HB3.out
                          simp only [Option.getD_some]
                          omega))
                        clear e8 hn5 p5 e5 hq hql ho
                        go_wp2_with fail
                        refine HBM.out.mono ?_
                        rintro e wy ⟨rfl, hb⟩
                        replace hBB := hBB.trans (hb.mono hBB.size)
                        go_wp2
                        go_returns
                        exact ⟨rfl, HBX.out.trans (hBB.mono HSZ.out)⟩
                    · have kO : (OF.2 != 0) = true := by simpa using ho
                      clear ho
                      go_wp2
                      go_returns
                      exact ⟨rfl, HBX.out.trans (hBB.mono HSZ.out)⟩
        · have d3 : ((i : Int) == 2) = false := beq_false_of_ne (by omega)
          go_wp2
          exact ⟨⟨i + 1, hil, by simp, sg2, k2, hL2, hK2, hst2, hB⟩, by simp [intOf]; omega⟩
      · have kP : (Um.putF sg (l[i]?.getD []) != 0) = true := by rw [e1]; rfl
        clear e1 hK hst
        generalize Um.putF sg (l[i]?.getD []) = P at *
        generalize hsg : Um.putS sg (l[i]?.getD []) = sg2 at *
        clear hsg
        go_wp2_with fail
        refine HPU.out.mono ?_
        rintro e wp ⟨k2, rfl, hL2, hW⟩
        replace hB := hB.trans (hL.below hW)
        clear HPU hL hW y6
        have hL := hL2
        have hK := hK2
        have hj : i ≤ l.length := hi
        clear hL2 hK2
        obtain ⟨q, hq, hdq⟩ := hK.crash hj keep
        have HCR := hid (lgCrash wn.heap.size pp k2 sg2 keep wp hL)
        have HLS := hid hL
        go_wp2_with fail
        refine HCR.out.mono ?_
        rintro e wc ⟨kc, rfl, hLc, hWc⟩
        replace hB := hB.trans (HLS.out.below hWc)
        have HAL := hid (lgAll wn.heap.size pp kc _ wc hLc)
        have HHU := fun W h => hid (lgHull wn.heap.size pp kc (Um.crashS sg2 keep) W h)
        rw [hdq] at HAL HHU
        clear HCR hL hWc HLS hK hj hdq
        go_wp2_with fail
        refine HAL.out.mono ?_
        rintro e wd ⟨r, rfl, hr, hb⟩
        replace hLc := hLc.step hb
        replace hB := hB.trans (hb.mono hB.size)
        have HLQ : Hid ((l.take q).length = q) := hid (by rw [List.length_take]; omega)
        obtain ⟨aa, ca, ea, -⟩ := (id hr)
        rw [HLQ.out] at ea
        subst ea
        clear hb HAL
        have d1 : decide ((l.length : Int) < (q : Int)) = false := decide_eq_false (by omega)
        have d2 : decide (l.length < q) = false := decide_eq_false (by omega)
        have hq9 : q ≤ tc := Nat.le_trans hq hcap
        have HBS := fun W h1 h2 => hid (boxes_same (l.take q) (.slice aa q ca) (.slice (some ⟨b6, o6, none⟩) q tc) W h1 h2 (by rw [HLQ.out]; omega) (fun j hj => by
          rw [HLQ.out] at hj
          rw [List.getElem?_take_of_lt hj, List.getElem?_eq_getElem (by omega)]
          have := (HF2.out _ (List.getElem_mem (show j < l.length by omega))).2
          have := HB3.out
          simp only [Option.getD_some]
          omega))
        have HRQ := hid hr
        clear hr
        go_wp2_with fail
        refine (HBS _ HRQ.out (((lb_take HTB.out hq).keep hB).wide hB.size)).out.mono ?_
        rintro e we ⟨rfl, hb⟩
        have HR2 := hid (HRQ.out.step hb)
        replace hLc := hLc.step hb
        replace hB := hB.trans (hb.mono hB.size)
        clear hb HBS HRQ
        have HHE : Hid (q = 0 → Um.hullE (l.take q) = 5) := hid (fun e => by rw [e]; rfl)
        have HHF : Hid (¬ q = 0 → Um.hullE (l.take q) = 0 ∧ ∀ i, i < q → Um.boxesF ((l.take q)[i]?.getD []) (Um.hullF (l.take q)) = 0 ∧ withinA ((l.take q)[i]?.getD []) (Um.hullF (l.take q)) = true) := hid (fun e => by
          have hne : l.take q ≠ [] := fun h => by have := HLQ.out; rw [h] at this; exact e this.symm
          refine ⟨(Um.hullF_some hne).2, fun i hi => hull_in (n := nb) (fun c hc => HF2.out c (List.mem_of_mem_take hc)) hne (by rw [HLQ.out]; exact hi)⟩)
        go_wp2_with fail
        refine (HHU _ hLc).out.mono ?_
        rintro e wh ⟨rh, rfl, hrh, hb⟩
        obtain ⟨ah, ch, eh, -⟩ := (id hrh)
        obtain ⟨nh, hnh⟩ : ∃ nh, nh = (Um.hullF (l.take q)).length := ⟨_, rfl⟩
        rw [← hnh] at eh
        subst eh
        have HR3 := hid (HR2.out.step hb)
        replace hB := hB.trans (hb.mono hB.size)
        clear hb HHU HR2 hLc hnh
        by_cases hq0 : q = 0
        · have e5 := HHE.out hq0
          have kE : (Um.hullE (l.take q) == 5) = true := by rw [e5]; rfl
          have kQ : ((q : Int) == 0) = true := by rw [hq0]; rfl
          clear e5 HHE HHF
          generalize Um.hullE (l.take q) = Z at *
          go_wp2_with fail
          refine (same_any _ _ _ (HG.out.below (B := w.heap.size) (HBX.out.trans (hB.mono HSZ.out)) HG.out.size)).mono ?_
          rintro e wz ⟨rfl, hb⟩
          replace hB := hB.trans (hb.mono hB.size)
          clear hb
          go_wp2
          go_returns
          exact ⟨rfl, HBX.out.trans (hB.mono HSZ.out)⟩
        · obtain ⟨e0, hin⟩ := HHF.out hq0
          have kE : (Um.hullE (l.take q) == 0) = true := by rw [e0]; rfl
          have kQ : ((q : Int) == 0) = false := beq_false_of_ne (by omega)
          have HIN := hid hin
          clear e0 hin HHE HHF
          generalize Um.hullE (l.take q) = Z at *
          have hne : l.take q ≠ [] := fun h => by have := HLQ.out; rw [h] at this; exact hq0 this.symm
          obtain ⟨b7, o7, c7, e7, -, m7, n7⟩ := HR3.out.open hne
          rw [HLQ.out] at e7
          cases e7
          have HN7 := hid n7
          have HRH := hid hrh
          clear n7 hne hrh
          go_wp2
          go_loopw [18] (fun x wq => ∃ i : Nat, i ≤ q ∧ x = .int .i64 i ∧ Below wh.heap.size wh wq) (fun x _ => q - (intOf x).toNat)
          case atStart => exact ⟨0, Nat.zero_le _, rfl, Below.refl _ _⟩
          case round =>
            obtain ⟨i7, hi7, rfl, hB7⟩ := hrel
            by_cases hil7 : i7 < q
            · have hii7 : (i7 : Int) < (q : Int) := by omega
              obtain ⟨x7, p7, e7⟩ := HN7.out i7 (by rw [HLQ.out]; exact hil7)
              have y7 := (hB7.cell (p := ⟨b7, o7 + i7, none⟩) m7).trans p7
              replace e7 := (e7.keep hB7).wide hB7.size
              have hh7 := (HRH.out.keep hB7).wide hB7.size
              obtain ⟨g1, g2⟩ := HIN.out i7 hil7
              obtain ⟨ax7, cx7, ex7, -⟩ := (id e7)
              obtain ⟨nx7, hnx7⟩ : ∃ nx, nx = ((l.take q)[i7]?.getD []).length := ⟨_, rfl⟩
              rw [← hnx7] at ex7
              subst ex7
              have HWI := hid (bwithin_any ((l.take q)[i7]?.getD []) (.slice ax7 nx7 cx7) (Um.hullF (l.take q)) (.slice ah nh ch) _ e7 hh7)
              have kW : (Um.boxesF ((l.take q)[i7]?.getD []) (Um.hullF (l.take q)) != 0) = false := by rw [g1]; rfl
              rw [g2] at HWI
              clear g1 g2 hnx7 p7 e7 hh7
              generalize Um.boxesF ((l.take q)[i7]?.getD []) (Um.hullF (l.take q)) = Z7 at *
              go_wp2_with fail
              refine HWI.out.mono ?_
              rintro e wi ⟨rfl, hb⟩
              replace hB7 := hB7.trans (hb.mono hB7.size)
              clear hb HWI y7
              go_wp2
              exact ⟨⟨i7 + 1, hil7, by simp, hB7⟩, by simp [intOf]; omega⟩
            · obtain rfl : q = i7 := by omega
              obtain ⟨q1, hq1⟩ : ∃ q1, q = q1 + 1 := ⟨q - 1, by omega⟩
              obtain ⟨x9, p9, e9⟩ := HN7.out q1 (by rw [HLQ.out]; omega)
              have y9 := (hB7.cell (p := ⟨b7, o7 + q1, none⟩) m7).trans p9
              have lx9 := Nat.lt_of_lt_of_le m7 hB7.size
              replace e9 := (e9.keep hB7).wide hB7.size
              have hgl : (l.take q)[q1]?.getD [] = l[q1]?.getD [] := by rw [List.getElem?_take_of_lt (by omega)]
              rw [hgl] at e9
              obtain ⟨a9, c9, ex9, -⟩ := (id e9)
              obtain ⟨n9, hn9⟩ : ∃ n9, n9 = (l[q1]?.getD []).length := ⟨_, rfl⟩
              rw [← hn9] at ex9
              subst ex9
              have HOF := fun W h1 h2 h3 => hid (sof_any s (.slice a0 s.length cap0) p (.slice a1 p.length cap1) (l[q1]?.getD []) (.slice a9 n9 c9) W h1 h2 h3)
              have hBB : Below wn.heap.size wn wr := hB.trans (hB7.mono hB.size)
              have hLF := (HLF.out.keep hBB).wide hBB.size
              have hLP := (HLP.out.keep hBB).wide hBB.size
              have z0 := (hBB.cell (p := ⟨w.heap.size, 0, none⟩) HWX.out).trans HY0.out
              have z1 := (hBB.cell (p := ⟨w.heap.size, 1, none⟩) HWX.out).trans HY1.out
              have lz := Nat.lt_of_lt_of_le HWX.out hBB.size
              have HNX := hid (HF3.out q1)
              have HQ1 := hid hq1
              have hqp : 0 < q := by omega
              have HBB := hid hBB
              clear hn9 hgl p9 hq1 HN7 HRH HIN hB7 hB HR3 hq0 hBB
              generalize Um.ofAll s p (l[q1]?.getD []) = OF at *
              go_wp2
              obtain ⟨Inv, hInv⟩ : ∃ Inv : Array Bool → Act → World → Prop, ∀ listed aq W', Inv listed aq W' ↔ (∃ rr v124 v125 v126 v127 v128 v129 v130 v131 v123 v132 v133 v21 v22 : Value, aq = { tmps := #[Value.agg #[Value.slice a0 s.length cap0, Value.slice a1 p.length cap1], Value.slice a2 nb cap2, Value.int IntKind.i64 n, Value.int IntKind.i64 fail, Value.int IntKind.i64 keep, Value.pointer (some { block := w.heap.size, off := 0 }), undef, undef, undef, undef, u10, Value.bool true, Value.slice (some { block := b6, off := o6 }) l.length tc, errV Z, Value.pointer (some { block := pp, off := 0 }), Value.int IntKind.i64 ↑i, Value.slice (some { block := b7, off := o7 }) q ca, Value.slice ah nh ch, Value.int IntKind.i64 ↑q, u19, u20, v21, v22, Value.bool true, Value.bool true, Value.bool false, Value.tuple #[Value.slice (some { block := b6, off := o6 }) l.length tc, errV z], Value.agg #[Value.slice a0 s.length cap0, Value.slice a1 p.length cap1], Value.slice a2 nb cap2, Value.int IntKind.i64 n, Value.tuple #[Value.slice (some { block := b6, off := o6 }) l.length tc, errV z], Value.slice (some { block := b6, off := o6 }) l.length tc, errV z, errV z, Value.bool false, Value.tuple #[Value.pointer (some { block := pp, off := 0 }), errV K], Value.slice a2 nb cap2, Value.int IntKind.i64 ↑nb, Value.tuple #[Value.pointer (some { block := pp, off := 0 }), errV K], Value.pointer (some { block := pp, off := 0 }), errV K, errV K, Value.bool false, Value.bool false, Value.slice (some { block := b6, off := o6 }) l.length tc, Value.int IntKind.i64 ↑l.length, Value.bool false, Value.bool false, undef, undef, Value.pointer (some { block := pp, off := 0 }), Value.int IntKind.i64 fail, Value.tuple #[], Value.int IntKind.i64 ↑i, Value.slice (some { block := b6, off := o6 }) l.length tc, Value.int IntKind.i64 ↑l.length, Value.bool true, u57, u58, Value.pointer (some { block := pp, off := 0 }), Value.slice (some { block := b6, off := o6 }) l.length tc, Value.int IntKind.i64 ↑i, Value.pointer (some { block := b6, off := o6 + i }), Value.slice ax nx cx, errV P, Value.bool true, u66, u67, u68, u69, u70, u71, u72, Value.pointer (some { block := pp, off := 0 }), Value.int IntKind.i64 keep, Value.tuple #[], Value.pointer (some { block := pp, off := 0 }), Value.slice (some { block := b7, off := o7 }) q ca, Value.slice (some { block := b7, off := o7 }) q ca, Value.int IntKind.i64 ↑q, Value.slice (some { block := b6, off := o6 }) l.length tc, Value.int IntKind.i64 ↑l.length, Value.bool false, Value.bool false, Value.slice (some { block := b7, off := o7 }) q ca, Value.slice (some { block := b6, off := o6 }) l.length tc, Value.slice (some { block := b7, off := o7 }) q ca, Value.int IntKind.i64 ↑q, Value.slice (some { block := b6, off := o6 }) q tc, Value.bool true, Value.bool false, Value.bool false, Value.tuple #[Value.slice ah nh ch, errV Z], Value.pointer (some { block := pp, off := 0 }), Value.tuple #[Value.slice ah nh ch, errV Z], Value.slice ah nh ch, errV Z, Value.slice (some { block := b7, off := o7 }) q ca, Value.int IntKind.i64 ↑q, Value.bool false, undef, undef, Value.int IntKind.i64 ↑q, Value.slice (some { block := b7, off := o7 }) q ca, Value.int IntKind.i64 ↑q, Value.bool false, u106, u107, u108, u109, u110, u111, u112, u113, u114, u115, u116, u117, u118, u119, u120, u121, u122, v123, v124, v125, v126, v127, v128, v129, v130, v131, v132, v133, undef, undef, undef, undef, undef, undef, undef, undef, undef, undef, undef, undef, undef, undef, undef, undef, undef, undef, undef, undef, undef, undef], defers := [] } ∧ Below (wr).heap.size (wr) W' ∧ (listed.getD 0 false = true → v124 = .agg #[.slice a0 s.length cap0, .slice a1 p.length cap1]) ∧ (listed.getD 1 false = true → v125 = Value.slice (some { block := b7, off := o7 }) q ca) ∧ (listed.getD 2 false = true → v126 = Value.slice (some { block := b7, off := o7 }) q ca) ∧ (listed.getD 3 false = true → v127 = .int .i64 (q : Int)) ∧ (listed.getD 4 false = true → v128 = .int .i64 (q1 : Int)) ∧ (listed.getD 5 false = true → v129 = .pointer (some ⟨b7, o7 + q1, none⟩)) ∧ (listed.getD 6 false = true → v130 = .slice a9 n9 c9) ∧ (listed.getD 7 false = true → v131 = (.tuple #[rr, errV OF.2])) ∧ (listed.getD 8 false = true → v123 = (.tuple #[rr, errV OF.2])) ∧ (listed.getD 9 false = true → v132 = rr) ∧ (listed.getD 10 false = true → v133 = errV OF.2) ∧ (listed.getD 11 false = true → v21 = rr) ∧ (listed.getD 12 false = true → v22 = errV OF.2) ∧ (listed.getD 7 false = true → Ls W'.heap.size W' rr OF.1) ∧ (listed.getD 8 false = true → listed.getD 7 false = true) ∧ (listed.getD 9 false = true → listed.getD 7 false = true) ∧ (listed.getD 10 false = true → listed.getD 7 false = true) ∧ (listed.getD 11 false = true → listed.getD 7 false = true) ∧ (listed.getD 12 false = true → listed.getD 7 false = true)) := ⟨_, fun _ _ _ => Iff.rfl⟩
              have HI := hid hInv
              clear hInv
              refine Free.region hmx (by kernel_rfl) Inv ?s1 ?s2 ?s3
              case s1 =>
                exact (HI.out _ _ _).2 ⟨undef, undef, undef, undef, undef, undef, undef, undef, undef, undef, undef, undef, undef, undef, rfl, (Below.refl _ _).drew, Free.not_yet, Free.not_yet, Free.not_yet, Free.not_yet, Free.not_yet, Free.not_yet, Free.not_yet, Free.not_yet, Free.not_yet, Free.not_yet, Free.not_yet, Free.not_yet, Free.not_yet, Free.not_yet, Free.not_yet, Free.not_yet, Free.not_yet, Free.not_yet, Free.not_yet⟩
              case s2 =>
                intro i listed aq W1 hix hne hnl hsz hv
                obtain ⟨rr, v124, v125, v126, v127, v128, v129, v130, v131, v123, v132, v133, v21, v22, rfl, hW, l0, l1, l2, l3, l4, l5, l6, l7, l8, l9, l10, l11, l12, lq, ld8, ld9, ld10, ld11, ld12⟩ := (HI.out _ _ _).1 hv
                clear hv
                replace hix : i < 13 := hix
                replace hsz : listed.size = 13 := hsz
                rcases (by omega : i = 0 ∨ i = 1 ∨ i = 2 ∨ i = 3 ∨ i = 4 ∨ i = 5 ∨ i = 6 ∨ i = 7 ∨ i = 8 ∨ i = 9 ∨ i = 10 ∨ i = 11 ∨ i = 12) with rfl | rfl | rfl | rfl | rfl | rfl | rfl | rfl | rfl | rfl | rfl | rfl | rfl
                · have z2 := (hW.cell (p := ⟨w.heap.size, 0, none⟩) lz).trans z0
                  have z3 := (hW.cell (p := ⟨w.heap.size, 1, none⟩) lz).trans z1
                  refine Free.op rfl rfl (fun K hK => ?_)
                  go_simp
                  exact hK _ _ ((HI.out _ _ _).2 ⟨rr, _, v125, v126, v127, v128, v129, v130, v131, v123, v132, v133, v21, v22, rfl, hW, fun _ => rfl, Free.of_set (by decide) l1, Free.of_set (by decide) l2, Free.of_set (by decide) l3, Free.of_set (by decide) l4, Free.of_set (by decide) l5, Free.of_set (by decide) l6, Free.of_set (by decide) l7, Free.of_set (by decide) l8, Free.of_set (by decide) l9, Free.of_set (by decide) l10, Free.of_set (by decide) l11, Free.of_set (by decide) l12, Free.of_set (by decide) lq, fun e => Free.fore (by decide) (ld8 (Free.back (by decide) e)), fun e => Free.fore (by decide) (ld9 (Free.back (by decide) e)), fun e => Free.fore (by decide) (ld10 (Free.back (by decide) e)), fun e => Free.fore (by decide) (ld11 (Free.back (by decide) e)), fun e => Free.fore (by decide) (ld12 (Free.back (by decide) e))⟩)
                · refine Free.op rfl rfl (fun K hK => ?_)
                  go_simp
                  exact hK _ _ ((HI.out _ _ _).2 ⟨rr, v124, _, v126, v127, v128, v129, v130, v131, v123, v132, v133, v21, v22, rfl, hW, Free.of_set (by decide) l0, fun _ => rfl, Free.of_set (by decide) l2, Free.of_set (by decide) l3, Free.of_set (by decide) l4, Free.of_set (by decide) l5, Free.of_set (by decide) l6, Free.of_set (by decide) l7, Free.of_set (by decide) l8, Free.of_set (by decide) l9, Free.of_set (by decide) l10, Free.of_set (by decide) l11, Free.of_set (by decide) l12, Free.of_set (by decide) lq, fun e => Free.fore (by decide) (ld8 (Free.back (by decide) e)), fun e => Free.fore (by decide) (ld9 (Free.back (by decide) e)), fun e => Free.fore (by decide) (ld10 (Free.back (by decide) e)), fun e => Free.fore (by decide) (ld11 (Free.back (by decide) e)), fun e => Free.fore (by decide) (ld12 (Free.back (by decide) e))⟩)
                · refine Free.op rfl rfl (fun K hK => ?_)
                  go_simp
                  exact hK _ _ ((HI.out _ _ _).2 ⟨rr, v124, v125, _, v127, v128, v129, v130, v131, v123, v132, v133, v21, v22, rfl, hW, Free.of_set (by decide) l0, Free.of_set (by decide) l1, fun _ => rfl, Free.of_set (by decide) l3, Free.of_set (by decide) l4, Free.of_set (by decide) l5, Free.of_set (by decide) l6, Free.of_set (by decide) l7, Free.of_set (by decide) l8, Free.of_set (by decide) l9, Free.of_set (by decide) l10, Free.of_set (by decide) l11, Free.of_set (by decide) l12, Free.of_set (by decide) lq, fun e => Free.fore (by decide) (ld8 (Free.back (by decide) e)), fun e => Free.fore (by decide) (ld9 (Free.back (by decide) e)), fun e => Free.fore (by decide) (ld10 (Free.back (by decide) e)), fun e => Free.fore (by decide) (ld11 (Free.back (by decide) e)), fun e => Free.fore (by decide) (ld12 (Free.back (by decide) e))⟩)
                · refine Free.op rfl rfl (fun K hK => ?_)
                  obtain rfl := l2 (hne 2 (by kernel_rfl))
                  go_simp
                  exact hK _ _ ((HI.out _ _ _).2 ⟨rr, v124, v125, _, _, v128, v129, v130, v131, v123, v132, v133, v21, v22, rfl, hW, Free.of_set (by decide) l0, Free.of_set (by decide) l1, fun _ => rfl, fun _ => rfl, Free.of_set (by decide) l4, Free.of_set (by decide) l5, Free.of_set (by decide) l6, Free.of_set (by decide) l7, Free.of_set (by decide) l8, Free.of_set (by decide) l9, Free.of_set (by decide) l10, Free.of_set (by decide) l11, Free.of_set (by decide) l12, Free.of_set (by decide) lq, fun e => Free.fore (by decide) (ld8 (Free.back (by decide) e)), fun e => Free.fore (by decide) (ld9 (Free.back (by decide) e)), fun e => Free.fore (by decide) (ld10 (Free.back (by decide) e)), fun e => Free.fore (by decide) (ld11 (Free.back (by decide) e)), fun e => Free.fore (by decide) (ld12 (Free.back (by decide) e))⟩)
                · have q4 : (q : Int) - 1 = (q1 : Int) := by have := HQ1.out; omega
                  have qW : IntKind.i64.wrap (q1 : Int) = (q1 : Int) := by have := HQ1.out; rw [IntKind.wrap_i64]; omega
                  refine Free.op rfl rfl (fun K hK => ?_)
                  obtain rfl := l3 (hne 3 (by kernel_rfl))
                  go_simp
                  exact hK _ _ ((HI.out _ _ _).2 ⟨rr, v124, v125, v126, _, _, v129, v130, v131, v123, v132, v133, v21, v22, rfl, hW, Free.of_set (by decide) l0, Free.of_set (by decide) l1, Free.of_set (by decide) l2, fun _ => rfl, fun _ => rfl, Free.of_set (by decide) l5, Free.of_set (by decide) l6, Free.of_set (by decide) l7, Free.of_set (by decide) l8, Free.of_set (by decide) l9, Free.of_set (by decide) l10, Free.of_set (by decide) l11, Free.of_set (by decide) l12, Free.of_set (by decide) lq, fun e => Free.fore (by decide) (ld8 (Free.back (by decide) e)), fun e => Free.fore (by decide) (ld9 (Free.back (by decide) e)), fun e => Free.fore (by decide) (ld10 (Free.back (by decide) e)), fun e => Free.fore (by decide) (ld11 (Free.back (by decide) e)), fun e => Free.fore (by decide) (ld12 (Free.back (by decide) e))⟩)
                · have q5 : (q1 : Int) < (q : Int) := by have := HQ1.out; omega
                  refine Free.op rfl rfl (fun K hK => ?_)
                  obtain rfl := l1 (hne 1 (by kernel_rfl))
                  obtain rfl := l4 (hne 4 (by kernel_rfl))
                  go_simp
                  exact hK _ _ ((HI.out _ _ _).2 ⟨rr, v124, _, v126, v127, _, _, v130, v131, v123, v132, v133, v21, v22, rfl, hW, Free.of_set (by decide) l0, fun _ => rfl, Free.of_set (by decide) l2, Free.of_set (by decide) l3, fun _ => rfl, fun _ => rfl, Free.of_set (by decide) l6, Free.of_set (by decide) l7, Free.of_set (by decide) l8, Free.of_set (by decide) l9, Free.of_set (by decide) l10, Free.of_set (by decide) l11, Free.of_set (by decide) l12, Free.of_set (by decide) lq, fun e => Free.fore (by decide) (ld8 (Free.back (by decide) e)), fun e => Free.fore (by decide) (ld9 (Free.back (by decide) e)), fun e => Free.fore (by decide) (ld10 (Free.back (by decide) e)), fun e => Free.fore (by decide) (ld11 (Free.back (by decide) e)), fun e => Free.fore (by decide) (ld12 (Free.back (by decide) e))⟩)
                · have z9 := (hW.cell (p := ⟨b7, o7 + q1, none⟩) lx9).trans y9
                  refine Free.op rfl rfl (fun K hK => ?_)
                  obtain rfl := l5 (hne 5 (by kernel_rfl))
                  go_simp
                  exact hK _ _ ((HI.out _ _ _).2 ⟨rr, v124, v125, v126, v127, v128, _, _, v131, v123, v132, v133, v21, v22, rfl, hW, Free.of_set (by decide) l0, Free.of_set (by decide) l1, Free.of_set (by decide) l2, Free.of_set (by decide) l3, Free.of_set (by decide) l4, fun _ => rfl, fun _ => rfl, Free.of_set (by decide) l7, Free.of_set (by decide) l8, Free.of_set (by decide) l9, Free.of_set (by decide) l10, Free.of_set (by decide) l11, Free.of_set (by decide) l12, Free.of_set (by decide) lq, fun e => Free.fore (by decide) (ld8 (Free.back (by decide) e)), fun e => Free.fore (by decide) (ld9 (Free.back (by decide) e)), fun e => Free.fore (by decide) (ld10 (Free.back (by decide) e)), fun e => Free.fore (by decide) (ld11 (Free.back (by decide) e)), fun e => Free.fore (by decide) (ld12 (Free.back (by decide) e))⟩)
                · refine Free.op rfl rfl (fun K hK => ?_)
                  obtain rfl := l0 (hne 0 (by kernel_rfl))
                  obtain rfl := l6 (hne 6 (by kernel_rfl))
                  go_wp2_with (go_at_call 16; refine (HOF _ (hLF.step hW) (hLP.step hW) (e9.step hW)).out.mono ?_; rintro e W3 ⟨r, rfl, hq1, hb⟩)
                  exact (HI.out _ _ _).2 ⟨_, _, v125, v126, v127, v128, v129, _, _, v123, v132, v133, v21, v22, rfl, hW.trans (hb.mono hW.size), fun _ => rfl, Free.of_set (by decide) l1, Free.of_set (by decide) l2, Free.of_set (by decide) l3, Free.of_set (by decide) l4, Free.of_set (by decide) l5, fun _ => rfl, fun _ => rfl, Free.never ld8 hnl (by decide), Free.never ld9 hnl (by decide), Free.never ld10 hnl (by decide), Free.never ld11 hnl (by decide), Free.never ld12 hnl (by decide), fun _ => hq1, Free.never ld8 hnl (by decide), Free.never ld9 hnl (by decide), Free.never ld10 hnl (by decide), Free.never ld11 hnl (by decide), Free.never ld12 hnl (by decide)⟩
                · refine Free.op rfl rfl (fun K hK => ?_)
                  obtain rfl := l7 (hne 7 (by kernel_rfl))
                  go_simp
                  exact hK _ _ ((HI.out _ _ _).2 ⟨rr, v124, v125, v126, v127, v128, v129, v130, _, _, v132, v133, v21, v22, rfl, hW, Free.of_set (by decide) l0, Free.of_set (by decide) l1, Free.of_set (by decide) l2, Free.of_set (by decide) l3, Free.of_set (by decide) l4, Free.of_set (by decide) l5, Free.of_set (by decide) l6, fun _ => rfl, fun _ => rfl, Free.of_set (by decide) l9, Free.of_set (by decide) l10, Free.of_set (by decide) l11, Free.of_set (by decide) l12, Free.of_set (by decide) lq, fun _ => Free.fore (by decide) (hne 7 (by kernel_rfl)), fun e => Free.fore (by decide) (ld9 (Free.back (by decide) e)), fun e => Free.fore (by decide) (ld10 (Free.back (by decide) e)), fun e => Free.fore (by decide) (ld11 (Free.back (by decide) e)), fun e => Free.fore (by decide) (ld12 (Free.back (by decide) e))⟩)
                · refine Free.op rfl rfl (fun K hK => ?_)
                  obtain rfl := l8 (hne 8 (by kernel_rfl))
                  go_simp
                  exact hK _ _ ((HI.out _ _ _).2 ⟨rr, v124, v125, v126, v127, v128, v129, v130, v131, _, _, v133, v21, v22, rfl, hW, Free.of_set (by decide) l0, Free.of_set (by decide) l1, Free.of_set (by decide) l2, Free.of_set (by decide) l3, Free.of_set (by decide) l4, Free.of_set (by decide) l5, Free.of_set (by decide) l6, Free.of_set (by decide) l7, fun _ => rfl, fun _ => rfl, Free.of_set (by decide) l10, Free.of_set (by decide) l11, Free.of_set (by decide) l12, Free.of_set (by decide) lq, fun e => Free.fore (by decide) (ld8 (Free.back (by decide) e)), fun _ => Free.fore (by decide) (ld8 (hne 8 (by kernel_rfl))), fun e => Free.fore (by decide) (ld10 (Free.back (by decide) e)), fun e => Free.fore (by decide) (ld11 (Free.back (by decide) e)), fun e => Free.fore (by decide) (ld12 (Free.back (by decide) e))⟩)
                · refine Free.op rfl rfl (fun K hK => ?_)
                  obtain rfl := l8 (hne 8 (by kernel_rfl))
                  go_simp
                  exact hK _ _ ((HI.out _ _ _).2 ⟨rr, v124, v125, v126, v127, v128, v129, v130, v131, _, v132, _, v21, v22, rfl, hW, Free.of_set (by decide) l0, Free.of_set (by decide) l1, Free.of_set (by decide) l2, Free.of_set (by decide) l3, Free.of_set (by decide) l4, Free.of_set (by decide) l5, Free.of_set (by decide) l6, Free.of_set (by decide) l7, fun _ => rfl, Free.of_set (by decide) l9, fun _ => rfl, Free.of_set (by decide) l11, Free.of_set (by decide) l12, Free.of_set (by decide) lq, fun e => Free.fore (by decide) (ld8 (Free.back (by decide) e)), fun e => Free.fore (by decide) (ld9 (Free.back (by decide) e)), fun _ => Free.fore (by decide) (ld8 (hne 8 (by kernel_rfl))), fun e => Free.fore (by decide) (ld11 (Free.back (by decide) e)), fun e => Free.fore (by decide) (ld12 (Free.back (by decide) e))⟩)
                · refine Free.op rfl rfl (fun K hK => ?_)
                  obtain rfl := (l9 (hne 9 (by kernel_rfl))).symm
                  go_simp
                  exact hK _ _ ((HI.out _ _ _).2 ⟨rr, v124, v125, v126, v127, v128, v129, v130, v131, v123, _, v133, _, v22, rfl, hW, Free.of_set (by decide) l0, Free.of_set (by decide) l1, Free.of_set (by decide) l2, Free.of_set (by decide) l3, Free.of_set (by decide) l4, Free.of_set (by decide) l5, Free.of_set (by decide) l6, Free.of_set (by decide) l7, Free.of_set (by decide) l8, fun _ => rfl, Free.of_set (by decide) l10, fun _ => rfl, Free.of_set (by decide) l12, Free.of_set (by decide) lq, fun e => Free.fore (by decide) (ld8 (Free.back (by decide) e)), fun e => Free.fore (by decide) (ld9 (Free.back (by decide) e)), fun e => Free.fore (by decide) (ld10 (Free.back (by decide) e)), fun _ => Free.fore (by decide) (ld9 (hne 9 (by kernel_rfl))), fun e => Free.fore (by decide) (ld12 (Free.back (by decide) e))⟩)
                · refine Free.op rfl rfl (fun K hK => ?_)
                  obtain rfl := l10 (hne 10 (by kernel_rfl))
                  go_simp
                  exact hK _ _ ((HI.out _ _ _).2 ⟨rr, v124, v125, v126, v127, v128, v129, v130, v131, v123, v132, _, v21, _, rfl, hW, Free.of_set (by decide) l0, Free.of_set (by decide) l1, Free.of_set (by decide) l2, Free.of_set (by decide) l3, Free.of_set (by decide) l4, Free.of_set (by decide) l5, Free.of_set (by decide) l6, Free.of_set (by decide) l7, Free.of_set (by decide) l8, Free.of_set (by decide) l9, fun _ => rfl, Free.of_set (by decide) l11, fun _ => rfl, Free.of_set (by decide) lq, fun e => Free.fore (by decide) (ld8 (Free.back (by decide) e)), fun e => Free.fore (by decide) (ld9 (Free.back (by decide) e)), fun e => Free.fore (by decide) (ld10 (Free.back (by decide) e)), fun e => Free.fore (by decide) (ld11 (Free.back (by decide) e)), fun _ => Free.fore (by decide) (ld10 (hne 10 (by kernel_rfl)))⟩)
              case s3 =>
                intro listed aq W1 hall hsz hv
                obtain ⟨rr, v124, v125, v126, v127, v128, v129, v130, v131, v123, v132, v133, v21, v22, rfl, hW, l0, l1, l2, l3, l4, l5, l6, l7, l8, l9, l10, l11, l12, lq, ld8, ld9, ld10, ld11, ld12⟩ := (HI.out _ _ _).1 hv
                clear hv HI
                obtain rfl := l0 (Free.listed_of hall hsz 0 (by decide))
                obtain rfl := l1 (Free.listed_of hall hsz 1 (by decide))
                obtain rfl := l2 (Free.listed_of hall hsz 2 (by decide))
                obtain rfl := l3 (Free.listed_of hall hsz 3 (by decide))
                obtain rfl := l4 (Free.listed_of hall hsz 4 (by decide))
                obtain rfl := l5 (Free.listed_of hall hsz 5 (by decide))
                obtain rfl := l6 (Free.listed_of hall hsz 6 (by decide))
                obtain rfl := l7 (Free.listed_of hall hsz 7 (by decide))
                obtain rfl := l8 (Free.listed_of hall hsz 8 (by decide))
                obtain rfl := (l9 (Free.listed_of hall hsz 9 (by decide))).symm
                obtain rfl := l10 (Free.listed_of hall hsz 10 (by decide))
                obtain rfl := (l11 (Free.listed_of hall hsz 11 (by decide))).symm
                obtain rfl := l12 (Free.listed_of hall hsz 12 (by decide))
                have hq := lq (Free.listed_of hall hsz 7 (by decide))
                clear lq ld8 ld9 ld10 ld11 ld12
                clear hall hsz
                obtain ⟨ar9, cr9, er9, -⟩ := (id hq)
                obtain ⟨nr9, hnr9⟩ : ∃ nr9, nr9 = OF.1.length := ⟨_, rfl⟩
                rw [← hnr9] at er9
                subst er9
                have hBB := HBB.out.trans (hW.mono HBB.out.size)
                clear hnr9 hW HOF hLF hLP e9 y9 z0 z1 lx9 lz
                by_cases ho : OF.2 = 0
                · have kO : (OF.2 != 0) = false := by simpa using ho
                  by_cases hql : q = l.length
                  · have kL : ((q : Int) == (l.length : Int)) = true := by simp; omega
                    have kL2 : (q == l.length) = true := by simp; omega
                    clear hql ho
                    go_wp2
                    go_returns
                    exact ⟨rfl, HBX.out.trans (hBB.mono HSZ.out)⟩
                  · have kL : ((q : Int) == (l.length : Int)) = false := beq_false_of_ne (by omega)
                    have kL2 : (q == l.length) = false := beq_false_of_ne (by omega)
                    have hqlt : q < l.length := by omega
                    have hqi : (q : Int) < (l.length : Int) := by omega
                    obtain ⟨x5, p5, e5⟩ := HN6.out q hqlt
                    have y5 := (hBB.cell (p := ⟨b6, o6 + q, none⟩) m6).trans p5
                    replace e5 := (e5.keep hBB).wide hBB.size
                    obtain ⟨a5, c5, ex5, -⟩ := (id e5)
                    obtain ⟨n5, hn5⟩ : ∃ n5, n5 = (l[q]?.getD []).length := ⟨_, rfl⟩
                    rw [← hn5] at ex5
                    subst ex5
                    have e8 : OF.1 = l[q]?.getD [] := by have := (HNX.out (by have := HQ1.out; omega)).2; rw [← HQ1.out] at this; exact this
                    rw [e8] at hq
                    have HBM := hid (box_same (l[q]?.getD []) _ _ _ hq e5 (by
                      rw [List.getElem?_eq_getElem hqlt]
                      have := (HF2.out _ (List.getElem_mem hqlt)).2
                      have := HB3.out
                      simp only [Option.getD_some]
                      omega))
                    clear e8 hn5 p5 e5 hq hql ho
                    go_wp2_with fail
                    refine HBM.out.mono ?_
                    rintro e wy ⟨rfl, hb⟩
                    replace hBB := hBB.trans (hb.mono hBB.size)
                    go_wp2
                    go_returns
                    exact ⟨rfl, HBX.out.trans (hBB.mono HSZ.out)⟩
                · have kO : (OF.2 != 0) = true := by simpa using ho
                  clear ho
                  go_wp2
                  go_returns
                  exact ⟨rfl, HBX.out.trans (hBB.mono HSZ.out)⟩
    · obtain rfl : i = l.length := by omega
      have hj := hi
      clear hst
      obtain ⟨q, hq, hdq⟩ := hK.crash hj keep
      have HCR := hid (lgCrash wn.heap.size pp k sg keep wr hL)
      have HLS := hid hL
      go_wp2_with fail
      refine HCR.out.mono ?_
      rintro e wc ⟨kc, rfl, hLc, hWc⟩
      replace hB := hB.trans (HLS.out.below hWc)
      have HAL := hid (lgAll wn.heap.size pp kc _ wc hLc)
      have HHU := fun W h => hid (lgHull wn.heap.size pp kc (Um.crashS sg keep) W h)
      rw [hdq] at HAL HHU
      clear HCR hL hWc HLS hK hj hdq
      go_wp2_with fail
      refine HAL.out.mono ?_
      rintro e wd ⟨r, rfl, hr, hb⟩
      replace hLc := hLc.step hb
      replace hB := hB.trans (hb.mono hB.size)
      have HLQ : Hid ((l.take q).length = q) := hid (by rw [List.length_take]; omega)
      obtain ⟨aa, ca, ea, -⟩ := (id hr)
      rw [HLQ.out] at ea
      subst ea
      clear hb HAL
      have d1 : decide ((l.length : Int) < (q : Int)) = false := decide_eq_false (by omega)
      have d2 : decide (l.length < q) = false := decide_eq_false (by omega)
      have hq9 : q ≤ tc := Nat.le_trans hq hcap
      have HBS := fun W h1 h2 => hid (boxes_same (l.take q) (.slice aa q ca) (.slice (some ⟨b6, o6, none⟩) q tc) W h1 h2 (by rw [HLQ.out]; omega) (fun j hj => by
        rw [HLQ.out] at hj
        rw [List.getElem?_take_of_lt hj, List.getElem?_eq_getElem (by omega)]
        have := (HF2.out _ (List.getElem_mem (show j < l.length by omega))).2
        have := HB3.out
        simp only [Option.getD_some]
        omega))
      have HRQ := hid hr
      clear hr
      go_wp2_with fail
      refine (HBS _ HRQ.out (((lb_take HTB.out hq).keep hB).wide hB.size)).out.mono ?_
      rintro e we ⟨rfl, hb⟩
      have HR2 := hid (HRQ.out.step hb)
      replace hLc := hLc.step hb
      replace hB := hB.trans (hb.mono hB.size)
      clear hb HBS HRQ
      have HHE : Hid (q = 0 → Um.hullE (l.take q) = 5) := hid (fun e => by rw [e]; rfl)
      have HHF : Hid (¬ q = 0 → Um.hullE (l.take q) = 0 ∧ ∀ i, i < q → Um.boxesF ((l.take q)[i]?.getD []) (Um.hullF (l.take q)) = 0 ∧ withinA ((l.take q)[i]?.getD []) (Um.hullF (l.take q)) = true) := hid (fun e => by
        have hne : l.take q ≠ [] := fun h => by have := HLQ.out; rw [h] at this; exact e this.symm
        refine ⟨(Um.hullF_some hne).2, fun i hi => hull_in (n := nb) (fun c hc => HF2.out c (List.mem_of_mem_take hc)) hne (by rw [HLQ.out]; exact hi)⟩)
      go_wp2_with fail
      refine (HHU _ hLc).out.mono ?_
      rintro e wh ⟨rh, rfl, hrh, hb⟩
      obtain ⟨ah, ch, eh, -⟩ := (id hrh)
      obtain ⟨nh, hnh⟩ : ∃ nh, nh = (Um.hullF (l.take q)).length := ⟨_, rfl⟩
      rw [← hnh] at eh
      subst eh
      have HR3 := hid (HR2.out.step hb)
      replace hB := hB.trans (hb.mono hB.size)
      clear hb HHU HR2 hLc hnh
      by_cases hq0 : q = 0
      · have e5 := HHE.out hq0
        have kE : (Um.hullE (l.take q) == 5) = true := by rw [e5]; rfl
        have kQ : ((q : Int) == 0) = true := by rw [hq0]; rfl
        clear e5 HHE HHF
        generalize Um.hullE (l.take q) = Z at *
        go_wp2_with fail
        refine (same_any _ _ _ (HG.out.below (B := w.heap.size) (HBX.out.trans (hB.mono HSZ.out)) HG.out.size)).mono ?_
        rintro e wz ⟨rfl, hb⟩
        replace hB := hB.trans (hb.mono hB.size)
        clear hb
        go_wp2
        go_returns
        exact ⟨rfl, HBX.out.trans (hB.mono HSZ.out)⟩
      · obtain ⟨e0, hin⟩ := HHF.out hq0
        have kE : (Um.hullE (l.take q) == 0) = true := by rw [e0]; rfl
        have kQ : ((q : Int) == 0) = false := beq_false_of_ne (by omega)
        have HIN := hid hin
        clear e0 hin HHE HHF
        generalize Um.hullE (l.take q) = Z at *
        have hne : l.take q ≠ [] := fun h => by have := HLQ.out; rw [h] at this; exact hq0 this.symm
        obtain ⟨b7, o7, c7, e7, -, m7, n7⟩ := HR3.out.open hne
        rw [HLQ.out] at e7
        cases e7
        have HN7 := hid n7
        have HRH := hid hrh
        clear n7 hne hrh
        go_wp2
        go_loopw [18] (fun x wq => ∃ i : Nat, i ≤ q ∧ x = .int .i64 i ∧ Below wh.heap.size wh wq) (fun x _ => q - (intOf x).toNat)
        case atStart => exact ⟨0, Nat.zero_le _, rfl, Below.refl _ _⟩
        case round =>
          obtain ⟨i7, hi7, rfl, hB7⟩ := hrel
          by_cases hil7 : i7 < q
          · have hii7 : (i7 : Int) < (q : Int) := by omega
            obtain ⟨x7, p7, e7⟩ := HN7.out i7 (by rw [HLQ.out]; exact hil7)
            have y7 := (hB7.cell (p := ⟨b7, o7 + i7, none⟩) m7).trans p7
            replace e7 := (e7.keep hB7).wide hB7.size
            have hh7 := (HRH.out.keep hB7).wide hB7.size
            obtain ⟨g1, g2⟩ := HIN.out i7 hil7
            obtain ⟨ax7, cx7, ex7, -⟩ := (id e7)
            obtain ⟨nx7, hnx7⟩ : ∃ nx, nx = ((l.take q)[i7]?.getD []).length := ⟨_, rfl⟩
            rw [← hnx7] at ex7
            subst ex7
            have HWI := hid (bwithin_any ((l.take q)[i7]?.getD []) (.slice ax7 nx7 cx7) (Um.hullF (l.take q)) (.slice ah nh ch) _ e7 hh7)
            have kW : (Um.boxesF ((l.take q)[i7]?.getD []) (Um.hullF (l.take q)) != 0) = false := by rw [g1]; rfl
            rw [g2] at HWI
            clear g1 g2 hnx7 p7 e7 hh7
            generalize Um.boxesF ((l.take q)[i7]?.getD []) (Um.hullF (l.take q)) = Z7 at *
            go_wp2_with fail
            refine HWI.out.mono ?_
            rintro e wi ⟨rfl, hb⟩
            replace hB7 := hB7.trans (hb.mono hB7.size)
            clear hb HWI y7
            go_wp2
            exact ⟨⟨i7 + 1, hil7, by simp, hB7⟩, by simp [intOf]; omega⟩
          · obtain rfl : q = i7 := by omega
            obtain ⟨q1, hq1⟩ : ∃ q1, q = q1 + 1 := ⟨q - 1, by omega⟩
            obtain ⟨x9, p9, e9⟩ := HN7.out q1 (by rw [HLQ.out]; omega)
            have y9 := (hB7.cell (p := ⟨b7, o7 + q1, none⟩) m7).trans p9
            have lx9 := Nat.lt_of_lt_of_le m7 hB7.size
            replace e9 := (e9.keep hB7).wide hB7.size
            have hgl : (l.take q)[q1]?.getD [] = l[q1]?.getD [] := by rw [List.getElem?_take_of_lt (by omega)]
            rw [hgl] at e9
            obtain ⟨a9, c9, ex9, -⟩ := (id e9)
            obtain ⟨n9, hn9⟩ : ∃ n9, n9 = (l[q1]?.getD []).length := ⟨_, rfl⟩
            rw [← hn9] at ex9
            subst ex9
            have HOF := fun W h1 h2 h3 => hid (sof_any s (.slice a0 s.length cap0) p (.slice a1 p.length cap1) (l[q1]?.getD []) (.slice a9 n9 c9) W h1 h2 h3)
            have hBB : Below wn.heap.size wn wr := hB.trans (hB7.mono hB.size)
            have hLF := (HLF.out.keep hBB).wide hBB.size
            have hLP := (HLP.out.keep hBB).wide hBB.size
            have z0 := (hBB.cell (p := ⟨w.heap.size, 0, none⟩) HWX.out).trans HY0.out
            have z1 := (hBB.cell (p := ⟨w.heap.size, 1, none⟩) HWX.out).trans HY1.out
            have lz := Nat.lt_of_lt_of_le HWX.out hBB.size
            have HNX := hid (HF3.out q1)
            have HQ1 := hid hq1
            have hqp : 0 < q := by omega
            have HBB := hid hBB
            clear hn9 hgl p9 hq1 HN7 HRH HIN hB7 hB HR3 hq0 hBB
            generalize Um.ofAll s p (l[q1]?.getD []) = OF at *
            go_wp2
            obtain ⟨Inv, hInv⟩ : ∃ Inv : Array Bool → Act → World → Prop, ∀ listed aq W', Inv listed aq W' ↔ (∃ rr v124 v125 v126 v127 v128 v129 v130 v131 v123 v132 v133 v21 v22 : Value, aq = { tmps := #[Value.agg #[Value.slice a0 s.length cap0, Value.slice a1 p.length cap1], Value.slice a2 nb cap2, Value.int IntKind.i64 n, Value.int IntKind.i64 fail, Value.int IntKind.i64 keep, Value.pointer (some { block := w.heap.size, off := 0 }), undef, undef, undef, undef, u10, Value.bool true, Value.slice (some { block := b6, off := o6 }) l.length tc, errV Z, Value.pointer (some { block := pp, off := 0 }), Value.int IntKind.i64 ↑l.length, Value.slice (some { block := b7, off := o7 }) q ca, Value.slice ah nh ch, Value.int IntKind.i64 ↑q, u19, u20, v21, v22, Value.bool true, Value.bool true, Value.bool false, Value.tuple #[Value.slice (some { block := b6, off := o6 }) l.length tc, errV z], Value.agg #[Value.slice a0 s.length cap0, Value.slice a1 p.length cap1], Value.slice a2 nb cap2, Value.int IntKind.i64 n, Value.tuple #[Value.slice (some { block := b6, off := o6 }) l.length tc, errV z], Value.slice (some { block := b6, off := o6 }) l.length tc, errV z, errV z, Value.bool false, Value.tuple #[Value.pointer (some { block := pp, off := 0 }), errV K], Value.slice a2 nb cap2, Value.int IntKind.i64 ↑nb, Value.tuple #[Value.pointer (some { block := pp, off := 0 }), errV K], Value.pointer (some { block := pp, off := 0 }), errV K, errV K, Value.bool false, Value.bool false, Value.slice (some { block := b6, off := o6 }) l.length tc, Value.int IntKind.i64 ↑l.length, Value.bool false, Value.bool false, undef, undef, Value.pointer (some { block := pp, off := 0 }), Value.int IntKind.i64 fail, Value.tuple #[], Value.int IntKind.i64 ↑l.length, Value.slice (some { block := b6, off := o6 }) l.length tc, Value.int IntKind.i64 ↑l.length, Value.bool false, u57, u58, u59, u60, u61, u62, u63, u64, u65, u66, u67, u68, u69, u70, u71, u72, Value.pointer (some { block := pp, off := 0 }), Value.int IntKind.i64 keep, Value.tuple #[], Value.pointer (some { block := pp, off := 0 }), Value.slice (some { block := b7, off := o7 }) q ca, Value.slice (some { block := b7, off := o7 }) q ca, Value.int IntKind.i64 ↑q, Value.slice (some { block := b6, off := o6 }) l.length tc, Value.int IntKind.i64 ↑l.length, Value.bool false, Value.bool false, Value.slice (some { block := b7, off := o7 }) q ca, Value.slice (some { block := b6, off := o6 }) l.length tc, Value.slice (some { block := b7, off := o7 }) q ca, Value.int IntKind.i64 ↑q, Value.slice (some { block := b6, off := o6 }) q tc, Value.bool true, Value.bool false, Value.bool false, Value.tuple #[Value.slice ah nh ch, errV Z], Value.pointer (some { block := pp, off := 0 }), Value.tuple #[Value.slice ah nh ch, errV Z], Value.slice ah nh ch, errV Z, Value.slice (some { block := b7, off := o7 }) q ca, Value.int IntKind.i64 ↑q, Value.bool false, undef, undef, Value.int IntKind.i64 ↑q, Value.slice (some { block := b7, off := o7 }) q ca, Value.int IntKind.i64 ↑q, Value.bool false, u106, u107, u108, u109, u110, u111, u112, u113, u114, u115, u116, u117, u118, u119, u120, u121, u122, v123, v124, v125, v126, v127, v128, v129, v130, v131, v132, v133, undef, undef, undef, undef, undef, undef, undef, undef, undef, undef, undef, undef, undef, undef, undef, undef, undef, undef, undef, undef, undef, undef], defers := [] } ∧ Below (wr).heap.size (wr) W' ∧ (listed.getD 0 false = true → v124 = .agg #[.slice a0 s.length cap0, .slice a1 p.length cap1]) ∧ (listed.getD 1 false = true → v125 = Value.slice (some { block := b7, off := o7 }) q ca) ∧ (listed.getD 2 false = true → v126 = Value.slice (some { block := b7, off := o7 }) q ca) ∧ (listed.getD 3 false = true → v127 = .int .i64 (q : Int)) ∧ (listed.getD 4 false = true → v128 = .int .i64 (q1 : Int)) ∧ (listed.getD 5 false = true → v129 = .pointer (some ⟨b7, o7 + q1, none⟩)) ∧ (listed.getD 6 false = true → v130 = .slice a9 n9 c9) ∧ (listed.getD 7 false = true → v131 = (.tuple #[rr, errV OF.2])) ∧ (listed.getD 8 false = true → v123 = (.tuple #[rr, errV OF.2])) ∧ (listed.getD 9 false = true → v132 = rr) ∧ (listed.getD 10 false = true → v133 = errV OF.2) ∧ (listed.getD 11 false = true → v21 = rr) ∧ (listed.getD 12 false = true → v22 = errV OF.2) ∧ (listed.getD 7 false = true → Ls W'.heap.size W' rr OF.1) ∧ (listed.getD 8 false = true → listed.getD 7 false = true) ∧ (listed.getD 9 false = true → listed.getD 7 false = true) ∧ (listed.getD 10 false = true → listed.getD 7 false = true) ∧ (listed.getD 11 false = true → listed.getD 7 false = true) ∧ (listed.getD 12 false = true → listed.getD 7 false = true)) := ⟨_, fun _ _ _ => Iff.rfl⟩
            have HI := hid hInv
            clear hInv
            refine Free.region hmx (by kernel_rfl) Inv ?s1 ?s2 ?s3
            case s1 =>
              exact (HI.out _ _ _).2 ⟨undef, undef, undef, undef, undef, undef, undef, undef, undef, undef, undef, undef, undef, undef, rfl, (Below.refl _ _).drew, Free.not_yet, Free.not_yet, Free.not_yet, Free.not_yet, Free.not_yet, Free.not_yet, Free.not_yet, Free.not_yet, Free.not_yet, Free.not_yet, Free.not_yet, Free.not_yet, Free.not_yet, Free.not_yet, Free.not_yet, Free.not_yet, Free.not_yet, Free.not_yet, Free.not_yet⟩
            case s2 =>
              intro i listed aq W1 hix hne hnl hsz hv
              obtain ⟨rr, v124, v125, v126, v127, v128, v129, v130, v131, v123, v132, v133, v21, v22, rfl, hW, l0, l1, l2, l3, l4, l5, l6, l7, l8, l9, l10, l11, l12, lq, ld8, ld9, ld10, ld11, ld12⟩ := (HI.out _ _ _).1 hv
              clear hv
              replace hix : i < 13 := hix
              replace hsz : listed.size = 13 := hsz
              rcases (by omega : i = 0 ∨ i = 1 ∨ i = 2 ∨ i = 3 ∨ i = 4 ∨ i = 5 ∨ i = 6 ∨ i = 7 ∨ i = 8 ∨ i = 9 ∨ i = 10 ∨ i = 11 ∨ i = 12) with rfl | rfl | rfl | rfl | rfl | rfl | rfl | rfl | rfl | rfl | rfl | rfl | rfl
              · have z2 := (hW.cell (p := ⟨w.heap.size, 0, none⟩) lz).trans z0
                have z3 := (hW.cell (p := ⟨w.heap.size, 1, none⟩) lz).trans z1
                refine Free.op rfl rfl (fun K hK => ?_)
                go_simp
                exact hK _ _ ((HI.out _ _ _).2 ⟨rr, _, v125, v126, v127, v128, v129, v130, v131, v123, v132, v133, v21, v22, rfl, hW, fun _ => rfl, Free.of_set (by decide) l1, Free.of_set (by decide) l2, Free.of_set (by decide) l3, Free.of_set (by decide) l4, Free.of_set (by decide) l5, Free.of_set (by decide) l6, Free.of_set (by decide) l7, Free.of_set (by decide) l8, Free.of_set (by decide) l9, Free.of_set (by decide) l10, Free.of_set (by decide) l11, Free.of_set (by decide) l12, Free.of_set (by decide) lq, fun e => Free.fore (by decide) (ld8 (Free.back (by decide) e)), fun e => Free.fore (by decide) (ld9 (Free.back (by decide) e)), fun e => Free.fore (by decide) (ld10 (Free.back (by decide) e)), fun e => Free.fore (by decide) (ld11 (Free.back (by decide) e)), fun e => Free.fore (by decide) (ld12 (Free.back (by decide) e))⟩)
              · refine Free.op rfl rfl (fun K hK => ?_)
                go_simp
                exact hK _ _ ((HI.out _ _ _).2 ⟨rr, v124, _, v126, v127, v128, v129, v130, v131, v123, v132, v133, v21, v22, rfl, hW, Free.of_set (by decide) l0, fun _ => rfl, Free.of_set (by decide) l2, Free.of_set (by decide) l3, Free.of_set (by decide) l4, Free.of_set (by decide) l5, Free.of_set (by decide) l6, Free.of_set (by decide) l7, Free.of_set (by decide) l8, Free.of_set (by decide) l9, Free.of_set (by decide) l10, Free.of_set (by decide) l11, Free.of_set (by decide) l12, Free.of_set (by decide) lq, fun e => Free.fore (by decide) (ld8 (Free.back (by decide) e)), fun e => Free.fore (by decide) (ld9 (Free.back (by decide) e)), fun e => Free.fore (by decide) (ld10 (Free.back (by decide) e)), fun e => Free.fore (by decide) (ld11 (Free.back (by decide) e)), fun e => Free.fore (by decide) (ld12 (Free.back (by decide) e))⟩)
              · refine Free.op rfl rfl (fun K hK => ?_)
                go_simp
                exact hK _ _ ((HI.out _ _ _).2 ⟨rr, v124, v125, _, v127, v128, v129, v130, v131, v123, v132, v133, v21, v22, rfl, hW, Free.of_set (by decide) l0, Free.of_set (by decide) l1, fun _ => rfl, Free.of_set (by decide) l3, Free.of_set (by decide) l4, Free.of_set (by decide) l5, Free.of_set (by decide) l6, Free.of_set (by decide) l7, Free.of_set (by decide) l8, Free.of_set (by decide) l9, Free.of_set (by decide) l10, Free.of_set (by decide) l11, Free.of_set (by decide) l12, Free.of_set (by decide) lq, fun e => Free.fore (by decide) (ld8 (Free.back (by decide) e)), fun e => Free.fore (by decide) (ld9 (Free.back (by decide) e)), fun e => Free.fore (by decide) (ld10 (Free.back (by decide) e)), fun e => Free.fore (by decide) (ld11 (Free.back (by decide) e)), fun e => Free.fore (by decide) (ld12 (Free.back (by decide) e))⟩)
              · refine Free.op rfl rfl (fun K hK => ?_)
                obtain rfl := l2 (hne 2 (by kernel_rfl))
                go_simp
                exact hK _ _ ((HI.out _ _ _).2 ⟨rr, v124, v125, _, _, v128, v129, v130, v131, v123, v132, v133, v21, v22, rfl, hW, Free.of_set (by decide) l0, Free.of_set (by decide) l1, fun _ => rfl, fun _ => rfl, Free.of_set (by decide) l4, Free.of_set (by decide) l5, Free.of_set (by decide) l6, Free.of_set (by decide) l7, Free.of_set (by decide) l8, Free.of_set (by decide) l9, Free.of_set (by decide) l10, Free.of_set (by decide) l11, Free.of_set (by decide) l12, Free.of_set (by decide) lq, fun e => Free.fore (by decide) (ld8 (Free.back (by decide) e)), fun e => Free.fore (by decide) (ld9 (Free.back (by decide) e)), fun e => Free.fore (by decide) (ld10 (Free.back (by decide) e)), fun e => Free.fore (by decide) (ld11 (Free.back (by decide) e)), fun e => Free.fore (by decide) (ld12 (Free.back (by decide) e))⟩)
              · have q4 : (q : Int) - 1 = (q1 : Int) := by have := HQ1.out; omega
                have qW : IntKind.i64.wrap (q1 : Int) = (q1 : Int) := by have := HQ1.out; rw [IntKind.wrap_i64]; omega
                refine Free.op rfl rfl (fun K hK => ?_)
                obtain rfl := l3 (hne 3 (by kernel_rfl))
                go_simp
                exact hK _ _ ((HI.out _ _ _).2 ⟨rr, v124, v125, v126, _, _, v129, v130, v131, v123, v132, v133, v21, v22, rfl, hW, Free.of_set (by decide) l0, Free.of_set (by decide) l1, Free.of_set (by decide) l2, fun _ => rfl, fun _ => rfl, Free.of_set (by decide) l5, Free.of_set (by decide) l6, Free.of_set (by decide) l7, Free.of_set (by decide) l8, Free.of_set (by decide) l9, Free.of_set (by decide) l10, Free.of_set (by decide) l11, Free.of_set (by decide) l12, Free.of_set (by decide) lq, fun e => Free.fore (by decide) (ld8 (Free.back (by decide) e)), fun e => Free.fore (by decide) (ld9 (Free.back (by decide) e)), fun e => Free.fore (by decide) (ld10 (Free.back (by decide) e)), fun e => Free.fore (by decide) (ld11 (Free.back (by decide) e)), fun e => Free.fore (by decide) (ld12 (Free.back (by decide) e))⟩)
              · have q5 : (q1 : Int) < (q : Int) := by have := HQ1.out; omega
                refine Free.op rfl rfl (fun K hK => ?_)
                obtain rfl := l1 (hne 1 (by kernel_rfl))
                obtain rfl := l4 (hne 4 (by kernel_rfl))
                go_simp
                exact hK _ _ ((HI.out _ _ _).2 ⟨rr, v124, _, v126, v127, _, _, v130, v131, v123, v132, v133, v21, v22, rfl, hW, Free.of_set (by decide) l0, fun _ => rfl, Free.of_set (by decide) l2, Free.of_set (by decide) l3, fun _ => rfl, fun _ => rfl, Free.of_set (by decide) l6, Free.of_set (by decide) l7, Free.of_set (by decide) l8, Free.of_set (by decide) l9, Free.of_set (by decide) l10, Free.of_set (by decide) l11, Free.of_set (by decide) l12, Free.of_set (by decide) lq, fun e => Free.fore (by decide) (ld8 (Free.back (by decide) e)), fun e => Free.fore (by decide) (ld9 (Free.back (by decide) e)), fun e => Free.fore (by decide) (ld10 (Free.back (by decide) e)), fun e => Free.fore (by decide) (ld11 (Free.back (by decide) e)), fun e => Free.fore (by decide) (ld12 (Free.back (by decide) e))⟩)
              · have z9 := (hW.cell (p := ⟨b7, o7 + q1, none⟩) lx9).trans y9
                refine Free.op rfl rfl (fun K hK => ?_)
                obtain rfl := l5 (hne 5 (by kernel_rfl))
                go_simp
                exact hK _ _ ((HI.out _ _ _).2 ⟨rr, v124, v125, v126, v127, v128, _, _, v131, v123, v132, v133, v21, v22, rfl, hW, Free.of_set (by decide) l0, Free.of_set (by decide) l1, Free.of_set (by decide) l2, Free.of_set (by decide) l3, Free.of_set (by decide) l4, fun _ => rfl, fun _ => rfl, Free.of_set (by decide) l7, Free.of_set (by decide) l8, Free.of_set (by decide) l9, Free.of_set (by decide) l10, Free.of_set (by decide) l11, Free.of_set (by decide) l12, Free.of_set (by decide) lq, fun e => Free.fore (by decide) (ld8 (Free.back (by decide) e)), fun e => Free.fore (by decide) (ld9 (Free.back (by decide) e)), fun e => Free.fore (by decide) (ld10 (Free.back (by decide) e)), fun e => Free.fore (by decide) (ld11 (Free.back (by decide) e)), fun e => Free.fore (by decide) (ld12 (Free.back (by decide) e))⟩)
              · refine Free.op rfl rfl (fun K hK => ?_)
                obtain rfl := l0 (hne 0 (by kernel_rfl))
                obtain rfl := l6 (hne 6 (by kernel_rfl))
                go_wp2_with (go_at_call 16; refine (HOF _ (hLF.step hW) (hLP.step hW) (e9.step hW)).out.mono ?_; rintro e W3 ⟨r, rfl, hq1, hb⟩)
                exact (HI.out _ _ _).2 ⟨_, _, v125, v126, v127, v128, v129, _, _, v123, v132, v133, v21, v22, rfl, hW.trans (hb.mono hW.size), fun _ => rfl, Free.of_set (by decide) l1, Free.of_set (by decide) l2, Free.of_set (by decide) l3, Free.of_set (by decide) l4, Free.of_set (by decide) l5, fun _ => rfl, fun _ => rfl, Free.never ld8 hnl (by decide), Free.never ld9 hnl (by decide), Free.never ld10 hnl (by decide), Free.never ld11 hnl (by decide), Free.never ld12 hnl (by decide), fun _ => hq1, Free.never ld8 hnl (by decide), Free.never ld9 hnl (by decide), Free.never ld10 hnl (by decide), Free.never ld11 hnl (by decide), Free.never ld12 hnl (by decide)⟩
              · refine Free.op rfl rfl (fun K hK => ?_)
                obtain rfl := l7 (hne 7 (by kernel_rfl))
                go_simp
                exact hK _ _ ((HI.out _ _ _).2 ⟨rr, v124, v125, v126, v127, v128, v129, v130, _, _, v132, v133, v21, v22, rfl, hW, Free.of_set (by decide) l0, Free.of_set (by decide) l1, Free.of_set (by decide) l2, Free.of_set (by decide) l3, Free.of_set (by decide) l4, Free.of_set (by decide) l5, Free.of_set (by decide) l6, fun _ => rfl, fun _ => rfl, Free.of_set (by decide) l9, Free.of_set (by decide) l10, Free.of_set (by decide) l11, Free.of_set (by decide) l12, Free.of_set (by decide) lq, fun _ => Free.fore (by decide) (hne 7 (by kernel_rfl)), fun e => Free.fore (by decide) (ld9 (Free.back (by decide) e)), fun e => Free.fore (by decide) (ld10 (Free.back (by decide) e)), fun e => Free.fore (by decide) (ld11 (Free.back (by decide) e)), fun e => Free.fore (by decide) (ld12 (Free.back (by decide) e))⟩)
              · refine Free.op rfl rfl (fun K hK => ?_)
                obtain rfl := l8 (hne 8 (by kernel_rfl))
                go_simp
                exact hK _ _ ((HI.out _ _ _).2 ⟨rr, v124, v125, v126, v127, v128, v129, v130, v131, _, _, v133, v21, v22, rfl, hW, Free.of_set (by decide) l0, Free.of_set (by decide) l1, Free.of_set (by decide) l2, Free.of_set (by decide) l3, Free.of_set (by decide) l4, Free.of_set (by decide) l5, Free.of_set (by decide) l6, Free.of_set (by decide) l7, fun _ => rfl, fun _ => rfl, Free.of_set (by decide) l10, Free.of_set (by decide) l11, Free.of_set (by decide) l12, Free.of_set (by decide) lq, fun e => Free.fore (by decide) (ld8 (Free.back (by decide) e)), fun _ => Free.fore (by decide) (ld8 (hne 8 (by kernel_rfl))), fun e => Free.fore (by decide) (ld10 (Free.back (by decide) e)), fun e => Free.fore (by decide) (ld11 (Free.back (by decide) e)), fun e => Free.fore (by decide) (ld12 (Free.back (by decide) e))⟩)
              · refine Free.op rfl rfl (fun K hK => ?_)
                obtain rfl := l8 (hne 8 (by kernel_rfl))
                go_simp
                exact hK _ _ ((HI.out _ _ _).2 ⟨rr, v124, v125, v126, v127, v128, v129, v130, v131, _, v132, _, v21, v22, rfl, hW, Free.of_set (by decide) l0, Free.of_set (by decide) l1, Free.of_set (by decide) l2, Free.of_set (by decide) l3, Free.of_set (by decide) l4, Free.of_set (by decide) l5, Free.of_set (by decide) l6, Free.of_set (by decide) l7, fun _ => rfl, Free.of_set (by decide) l9, fun _ => rfl, Free.of_set (by decide) l11, Free.of_set (by decide) l12, Free.of_set (by decide) lq, fun e => Free.fore (by decide) (ld8 (Free.back (by decide) e)), fun e => Free.fore (by decide) (ld9 (Free.back (by decide) e)), fun _ => Free.fore (by decide) (ld8 (hne 8 (by kernel_rfl))), fun e => Free.fore (by decide) (ld11 (Free.back (by decide) e)), fun e => Free.fore (by decide) (ld12 (Free.back (by decide) e))⟩)
              · refine Free.op rfl rfl (fun K hK => ?_)
                obtain rfl := (l9 (hne 9 (by kernel_rfl))).symm
                go_simp
                exact hK _ _ ((HI.out _ _ _).2 ⟨rr, v124, v125, v126, v127, v128, v129, v130, v131, v123, _, v133, _, v22, rfl, hW, Free.of_set (by decide) l0, Free.of_set (by decide) l1, Free.of_set (by decide) l2, Free.of_set (by decide) l3, Free.of_set (by decide) l4, Free.of_set (by decide) l5, Free.of_set (by decide) l6, Free.of_set (by decide) l7, Free.of_set (by decide) l8, fun _ => rfl, Free.of_set (by decide) l10, fun _ => rfl, Free.of_set (by decide) l12, Free.of_set (by decide) lq, fun e => Free.fore (by decide) (ld8 (Free.back (by decide) e)), fun e => Free.fore (by decide) (ld9 (Free.back (by decide) e)), fun e => Free.fore (by decide) (ld10 (Free.back (by decide) e)), fun _ => Free.fore (by decide) (ld9 (hne 9 (by kernel_rfl))), fun e => Free.fore (by decide) (ld12 (Free.back (by decide) e))⟩)
              · refine Free.op rfl rfl (fun K hK => ?_)
                obtain rfl := l10 (hne 10 (by kernel_rfl))
                go_simp
                exact hK _ _ ((HI.out _ _ _).2 ⟨rr, v124, v125, v126, v127, v128, v129, v130, v131, v123, v132, _, v21, _, rfl, hW, Free.of_set (by decide) l0, Free.of_set (by decide) l1, Free.of_set (by decide) l2, Free.of_set (by decide) l3, Free.of_set (by decide) l4, Free.of_set (by decide) l5, Free.of_set (by decide) l6, Free.of_set (by decide) l7, Free.of_set (by decide) l8, Free.of_set (by decide) l9, fun _ => rfl, Free.of_set (by decide) l11, fun _ => rfl, Free.of_set (by decide) lq, fun e => Free.fore (by decide) (ld8 (Free.back (by decide) e)), fun e => Free.fore (by decide) (ld9 (Free.back (by decide) e)), fun e => Free.fore (by decide) (ld10 (Free.back (by decide) e)), fun e => Free.fore (by decide) (ld11 (Free.back (by decide) e)), fun _ => Free.fore (by decide) (ld10 (hne 10 (by kernel_rfl)))⟩)
            case s3 =>
              intro listed aq W1 hall hsz hv
              obtain ⟨rr, v124, v125, v126, v127, v128, v129, v130, v131, v123, v132, v133, v21, v22, rfl, hW, l0, l1, l2, l3, l4, l5, l6, l7, l8, l9, l10, l11, l12, lq, ld8, ld9, ld10, ld11, ld12⟩ := (HI.out _ _ _).1 hv
              clear hv HI
              obtain rfl := l0 (Free.listed_of hall hsz 0 (by decide))
              obtain rfl := l1 (Free.listed_of hall hsz 1 (by decide))
              obtain rfl := l2 (Free.listed_of hall hsz 2 (by decide))
              obtain rfl := l3 (Free.listed_of hall hsz 3 (by decide))
              obtain rfl := l4 (Free.listed_of hall hsz 4 (by decide))
              obtain rfl := l5 (Free.listed_of hall hsz 5 (by decide))
              obtain rfl := l6 (Free.listed_of hall hsz 6 (by decide))
              obtain rfl := l7 (Free.listed_of hall hsz 7 (by decide))
              obtain rfl := l8 (Free.listed_of hall hsz 8 (by decide))
              obtain rfl := (l9 (Free.listed_of hall hsz 9 (by decide))).symm
              obtain rfl := l10 (Free.listed_of hall hsz 10 (by decide))
              obtain rfl := (l11 (Free.listed_of hall hsz 11 (by decide))).symm
              obtain rfl := l12 (Free.listed_of hall hsz 12 (by decide))
              have hq := lq (Free.listed_of hall hsz 7 (by decide))
              clear lq ld8 ld9 ld10 ld11 ld12
              clear hall hsz
              obtain ⟨ar9, cr9, er9, -⟩ := (id hq)
              obtain ⟨nr9, hnr9⟩ : ∃ nr9, nr9 = OF.1.length := ⟨_, rfl⟩
              rw [← hnr9] at er9
              subst er9
              have hBB := HBB.out.trans (hW.mono HBB.out.size)
              clear hnr9 hW HOF hLF hLP e9 y9 z0 z1 lx9 lz
              by_cases ho : OF.2 = 0
              · have kO : (OF.2 != 0) = false := by simpa using ho
                by_cases hql : q = l.length
                · have kL : ((q : Int) == (l.length : Int)) = true := by simp; omega
                  have kL2 : (q == l.length) = true := by simp; omega
                  clear hql ho
                  go_wp2
                  go_returns
                  exact ⟨rfl, HBX.out.trans (hBB.mono HSZ.out)⟩
                · have kL : ((q : Int) == (l.length : Int)) = false := beq_false_of_ne (by omega)
                  have kL2 : (q == l.length) = false := beq_false_of_ne (by omega)
                  have hqlt : q < l.length := by omega
                  have hqi : (q : Int) < (l.length : Int) := by omega
                  obtain ⟨x5, p5, e5⟩ := HN6.out q hqlt
                  have y5 := (hBB.cell (p := ⟨b6, o6 + q, none⟩) m6).trans p5
                  replace e5 := (e5.keep hBB).wide hBB.size
                  obtain ⟨a5, c5, ex5, -⟩ := (id e5)
                  obtain ⟨n5, hn5⟩ : ∃ n5, n5 = (l[q]?.getD []).length := ⟨_, rfl⟩
                  rw [← hn5] at ex5
                  subst ex5
                  have e8 : OF.1 = l[q]?.getD [] := by have := (HNX.out (by have := HQ1.out; omega)).2; rw [← HQ1.out] at this; exact this
                  rw [e8] at hq
                  have HBM := hid (box_same (l[q]?.getD []) _ _ _ hq e5 (by
                    rw [List.getElem?_eq_getElem hqlt]
                    have := (HF2.out _ (List.getElem_mem hqlt)).2
                    have := HB3.out
                    simp only [Option.getD_some]
                    omega))
                  clear e8 hn5 p5 e5 hq hql ho
                  go_wp2_with fail
                  refine HBM.out.mono ?_
                  rintro e wy ⟨rfl, hb⟩
                  replace hBB := hBB.trans (hb.mono hBB.size)
                  go_wp2
                  go_returns
                  exact ⟨rfl, HBX.out.trans (hBB.mono HSZ.out)⟩
              · have kO : (OF.2 != 0) = true := by simpa using ho
                clear ho
                go_wp2
                go_returns
                exact ⟨rfl, HBX.out.trans (hBB.mono HSZ.out)⟩

theorem wide {n : Int} (r : (Lit.int .i64 n).wf = true) : -9223372036854775808 ≤ n ∧ n ≤ 9223372036854775807 := by
  simp [Lit.wf] at r
  have a : IntKind.i64.min = -9223372036854775808 := rfl
  have b : IntKind.i64.max = 9223372036854775807 := rfl
  omega
theorem walk (s : List (List Um.Tm)) (v0 : Value) (p : List (Int × Int)) (v1 : Value) (b : List (Int × Int)) (v : Value) (n fail keep : Int) (w : World) (hg : HasErr w) (hf : Lf w.heap.size w v0 s) (hp : Ls w.heap.size w v1 p) (hs : Ls w.heap.size w v b) (r : (Lit.int .i64 fail).wf = true) :
    Calls Tryz.prog 3 #[.agg #[v0, v1], v, .int .i64 n, .int .i64 fail, .int .i64 keep] w fun e w' => e = .returned (.bool true) ∧ Below w.heap.size w w' := by
  by_cases h : (Um.tubeAll s p b n).2 = 0
  · by_cases h20 : (Um.tubeAll s p b n).1.length ≤ 20
    · exact walk_main s v0 p v1 b v n fail keep w hg hf hp hs (wide r).2 h h20
    · exact walk_many s v0 p v1 b v n fail keep w hf hp hs h (by omega)
  · exact walk_early s v0 p v1 b v n fail keep w hf hp hs h
end Go.Proofs.YthgehlonjoafmaaGreatDoor.TKept
