/-
  What package safe answers: When, Clear at every argument.
-/
import Derived.Test.YtkeoafbkbblnaaaDoorFlow
import Derived.Test.YtkeoafbkbblnaaaDoorBoxC
import Derived.Test.YtkeoafbkbblnaaaDoorBoxM
import Derived.Test.YtkeoafbkbblnaaaDoorMems2
import Derived.Test.YtkeoafbkbblnaaaDoorMaths3
namespace Um
/-- The place of the first from the k-th on that has something in common; -1: none has. -/
def firK (d : List (Int × Int)) (l : List (List (Int × Int))) (k : Nat) : Int := if (whenK d l k).2 = 0 then (whenK d l k).1 else -1
theorem firK_end (d : List (Int × Int)) (l : List (List (Int × Int))) : firK d l l.length = -1 := by
  unfold firK
  rw [whenK_end, if_neg (by decide)]
theorem firK_yes {d : List (Int × Int)} {l : List (List (Int × Int))} {k : Nat} (hk : k < l.length) (h : metB (l[k]?.getD []) d = true) : firK d l k = (k : Int) := by
  unfold firK
  rw [whenK_yes hk h, if_pos rfl]
theorem firK_no {d : List (Int × Int)} {l : List (List (Int × Int))} {k : Nat} (hk : k < l.length) (h : metB (l[k]?.getD []) d = false) : firK d l k = firK d l (k + 1) := by
  unfold firK
  rw [whenK_no hk h]
theorem firK_zero (d : List (Int × Int)) (l : List (List (Int × Int))) : firK d l 0 = if (whenL d l).2 = 0 then (whenL d l).1 else -1 := by
  unfold firK
  rw [whenK_zero]
theorem fir_found {d : List (Int × Int)} {l : List (List (Int × Int))} (h : (whenL d l).2 = 0) : firK d l 0 = (whenL d l).1 ∧ 0 ≤ (whenL d l).1 := by
  refine ⟨by rw [firK_zero, if_pos h], ?_⟩
  rcases when_fault d l with ⟨_, h1, _⟩ | e
  · exact h1
  · rw [e] at h; exact absurd h (by decide)
theorem fir_none {d : List (Int × Int)} {l : List (List (Int × Int))} (h : ¬ (whenL d l).2 = 0) : firK d l 0 = -1 ∧ whenL d l = (0, 5) := by
  refine ⟨by rw [firK_zero, if_neg h], ?_⟩
  rcases when_fault d l with ⟨h0, _⟩ | e
  · exact absurd h0 h
  · exact e
/-- What firstThere tells. -/
def firAll (s : List (List Tm)) (p b d : List (Int × Int)) (n : Int) : Int := if safeF s p b d n = 0 then firK d (tubeAll s p b n).1 0 else 0
theorem firAll_yes {s : List (List Tm)} {p b d : List (Int × Int)} {n : Int} (h : safeF s p b d n = 0) : firAll s p b d n = firK d (tubeAll s p b n).1 0 := by unfold firAll; rw [if_pos h]
theorem firAll_not {s : List (List Tm)} {p b d : List (Int × Int)} {n : Int} (h : ¬ safeF s p b d n = 0) : firAll s p b d n = 0 := by unfold firAll; rw [if_neg h]
theorem safe_box {s : List (List Tm)} {p b d : List (Int × Int)} {n : Int} (h : ¬ boxF d = 0) : safeF s p b d n = boxF d := by unfold safeF; rw [if_neg h]
theorem safe_run {s : List (List Tm)} {p b d : List (Int × Int)} {n : Int} (h : boxF d = 0) (h2 : ¬ (tubeAll s p b n).2 = 0) : safeF s p b d n = (tubeAll s p b n).2 := by unfold safeF; rw [if_pos h, if_neg h2]
theorem safe_shape {s : List (List Tm)} {p b d : List (Int × Int)} {n : Int} (h : boxF d = 0) (h2 : (tubeAll s p b n).2 = 0) (h3 : ¬ d.length = b.length) : safeF s p b d n = 3 := by unfold safeF; rw [if_pos h, if_pos h2, if_neg h3]
end Um
namespace Go.Proofs.YtkeoafbkbblnaaaDoor
set_option linter.unusedSimpArgs false
open Go.RowKit

theorem meet_is {c d : List (Int × Int)} (h : Um.boxesF c d = 0) : decide ((meetA c d).2 = 0) = Um.metB c d := by
  unfold meetA Um.metB
  rw [if_pos h]

set_option maxRecDepth 100000 in
set_option maxHeartbeats 8000000 in
theorem sfMeets_any (c d : List (Int × Int)) (u t : Value) (w : World) (hc : Ls w.heap.size w u c) (hd : Ls w.heap.size w t d) (h : Um.boxesF c d = 0) :
    Calls Tryd.prog 68 #[u, t] w fun e w' => e = .returned (.bool (Um.metB c d)) ∧ Below w.heap.size w w' := by
  have ve := errV_none
  have q1 := errG
  have q2 := errGn
  have q3 := errE
  have q4 := errN
  have HM := fun w h1 h2 => hid (bmeet_any c d u t w h1 h2)
  have HZ := hid (meet_is h)
  obtain ⟨a0, cap0, rfl, -⟩ := (id hc)
  obtain ⟨a1, cap1, rfl, -⟩ := (id hd)
  clear h
  generalize meetA c d = R at *
  generalize Um.metB c d = M at *
  go_enter Tryd.func68, Tryd.ntmps68
  go_wp2_with (go_at_call 98; refine (HM _ hc hd).out.mono ?_; rintro e wn ⟨r, rfl, hr, hb⟩; obtain ⟨a8, c8, rfl, -⟩ := (id hr); clear HM hr)
  go_returns
  rw [← HZ.out]
  exact ⟨rfl, hb⟩

set_option maxRecDepth 100000 in
set_option maxHeartbeats 8000000 in
theorem sfOne_any (c d : List (Int × Int)) (u t : Value) (B : Nat) (w : World) (hc : Ls w.heap.size w u c) (hd : Ls w.heap.size w t d) (h : Um.boxesF c d = 0) (c1 : w.cell? ⟨B, 0, none⟩ = some t) :
    Calls Tryd.prog 67 #[u, .pointer (some ⟨B, 0, none⟩)] w fun e w' => e = .returned (.bool (Um.metB c d)) ∧ Below w.heap.size w w' := by
  have ve := errV_none
  have q1 := errG
  have q2 := errGn
  have q3 := errE
  have q4 := errN
  have HM := fun w h1 h2 => hid (sfMeets_any c d u t w h1 h2 h)
  obtain ⟨a0, cap0, rfl, -⟩ := (id hc)
  obtain ⟨a1, cap1, rfl, -⟩ := (id hd)
  clear h
  generalize Um.metB c d = M at *
  go_enter Tryd.func67, Tryd.ntmps67
  go_wp2_with (go_at_call 68; refine (HM _ hc hd).out.mono ?_; rintro e wn ⟨rfl, hb⟩; clear HM)
  go_returns
  exact ⟨rfl, hb⟩

set_option maxRecDepth 100000 in
set_option maxHeartbeats 8000000 in
theorem sfIndex_any (l : List (List (Int × Int))) (x : Value) (d : List (Int × Int)) (t : Value) (B : Nat) (w : World) (hl : Lb w.heap.size w x l) (hd : Ls w.heap.size w t d) (h21 : l.length ≤ 21) (h : ∀ k, k < l.length → Um.boxesF (l[k]?.getD []) d = 0) (h1 : B < w.heap.size) (c1 : w.cell? ⟨B, 0, none⟩ = some t) :
    Calls Tryd.prog 66 #[x, .func (.func 67) #[] #[.pointer (some ⟨B, 0, none⟩)]] w fun e w' => e = .returned (.int .i64 (Um.firK d l 0)) ∧ Below w.heap.size w w' := by
  have ve := errV_none
  have q1 := errG
  have q2 := errGn
  have q3 := errE
  have q4 := errN
  have hF := Fr.start w
  have HL := hid hl
  have HB := hid h
  obtain ⟨a0, cap0, rfl, -⟩ := (id hl)
  clear hl h
  go_enter Tryd.func66, Tryd.ntmps66
  go_wp2
  go_loopw [8] (fun i wr => ∃ k : Nat, k ≤ l.length ∧ i = .int .i64 k ∧ Fr w wr [] ∧ Hid (Um.firK d l 0 = Um.firK d l k)) (fun i _ => l.length - (intOf i).toNat)
  case atStart => exact ⟨0, Nat.zero_le _, rfl, hF, hid rfl⟩
  case round =>
    clear hF
    obtain ⟨k, hk, rfl, hF, hall⟩ := hrel
    by_cases hkl : k < l.length
    · have hkk : (k : Int) < (l.length : Int) := by omega
      obtain ⟨b6, o6, c6, e6', -, m6, n6⟩ := HL.out.open (by intro e; rw [e] at hkl; simp at hkl)
      cases e6'
      obtain ⟨x6, p6, e6⟩ := n6 k hkl
      have y6 := (hF.below.cell (p := ⟨b6, o6 + k, none⟩) m6).trans p6
      replace e6 := (e6.keep hF.below).wide hF.size
      have hd2 := (hd.keep hF.below).wide hF.size
      have c2 := (hF.below.cell (p := ⟨B, 0, none⟩) h1).trans c1
      have HQ0 := fun x6 wz hz hd c => hid (sfOne_any (l[k]?.getD []) d x6 t B wz hz hd (HB.out k hkl) c)
      have HYE : Hid (Um.metB (l[k]?.getD []) d = true → Um.firK d l 0 = (k : Int)) := fun h => hall.out.trans (Um.firK_yes hkl h)
      have HNO : Hid (Um.metB (l[k]?.getD []) d = false → Um.firK d l 0 = Um.firK d l (k + 1)) := fun h => hall.out.trans (Um.firK_no hkl h)
      clear n6 HL p6 HB hall
      generalize l[k]?.getD [] = bk at *
      obtain ⟨a7, c7, rfl, -⟩ := (id e6)
      have HQ := hid (HQ0 _ _ e6 hd2 c2).out
      clear HQ0 hd hd2 c2 c1 h1
      cases hm : Um.metB bk d
      · have HM := hid (HNO.out hm)
        rw [hm] at HQ
        clear HYE HNO hm
        go_wp2_with (go_at_call 67; refine HQ.out.mono ?_; rintro e wn ⟨rfl, hb⟩; replace hF := hF.step hb; clear hb HQ e6)
        exact ⟨⟨k + 1, by omega, by simp, hF, HM⟩, by simp [intOf]; omega⟩
      · have HM := hid (HYE.out hm)
        rw [hm] at HQ
        clear HYE HNO hm
        go_wp2_with (go_at_call 67; refine HQ.out.mono ?_; rintro e wn ⟨rfl, hb⟩; replace hF := hF.step hb; clear hb HQ e6)
        go_returns
        rw [HM.out]
        exact ⟨rfl, hF.below⟩
    · obtain rfl : k = l.length := by omega
      have HM := hid (hall.out.trans (Um.firK_end d l))
      clear hall HB HL
      go_wp2
      go_returns
      rw [HM.out]
      exact ⟨rfl, hF.below⟩

set_option maxRecDepth 100000 in
set_option maxHeartbeats 8000000 in
theorem sfFirst_box (s : List (List Um.Tm)) (v0 : Value) (p : List (Int × Int)) (v1 : Value) (b : List (Int × Int)) (v : Value) (d : List (Int × Int)) (t : Value) (n : Int) (w : World) (hf : Lf w.heap.size w v0 s) (hp : Ls w.heap.size w v1 p) (hs : Ls w.heap.size w v b) (hd : Ls w.heap.size w t d) (h : ¬ Um.boxF d = 0) :
    Calls Tryd.prog 44 #[.agg #[v0, v1], v, t, .int .i64 n] w fun e w' => e = .returned (.tuple #[.int .i64 (Um.firAll s p b d n), errV (Um.safeF s p b d n)]) ∧ Below w.heap.size w w' := by
  have ve := errV_none
  have q1 := errG
  have q2 := errGn
  have q3 := errE
  have q4 := errN
  obtain ⟨a0, cap0, rfl, -⟩ := (id hf)
  obtain ⟨a1, cap1, rfl, -⟩ := (id hp)
  obtain ⟨a2, cap2, rfl, -⟩ := (id hs)
  obtain ⟨a3, cap3, rfl, -⟩ := (id hd)
  have h1 : w.heap.size < ((w.alloc (.cells #[.slice a0 s.length cap0, .slice a1 p.length cap1] 25)).alloc (.cells #[.slice a3 d.length cap3] 23)).heap.size := by simp <;> omega
  have h2 : w.heap.size + 1 < ((w.alloc (.cells #[.slice a0 s.length cap0, .slice a1 p.length cap1] 25)).alloc (.cells #[.slice a3 d.length cap3] 23)).heap.size := by simp <;> omega
  have hBW : Below w.heap.size w ((w.alloc (.cells #[.slice a0 s.length cap0, .slice a1 p.length cap1] 25)).alloc (.cells #[.slice a3 d.length cap3] 23)) := by go_grown
  obtain ⟨d0, d1⟩ := sys_cells w (.slice a0 s.length cap0) (.slice a1 p.length cap1) 25
  have c0 : ((w.alloc (.cells #[.slice a0 s.length cap0, .slice a1 p.length cap1] 25)).alloc (.cells #[.slice a3 d.length cap3] 23)).cell? ⟨w.heap.size, 0, none⟩ = some (.slice a0 s.length cap0) := cell_old _ _ _ (by simp) d0
  have c1 : ((w.alloc (.cells #[.slice a0 s.length cap0, .slice a1 p.length cap1] 25)).alloc (.cells #[.slice a3 d.length cap3] 23)).cell? ⟨w.heap.size, 1, none⟩ = some (.slice a1 p.length cap1) := cell_old _ _ _ (by simp) d1
  have c2 : ((w.alloc (.cells #[.slice a0 s.length cap0, .slice a1 p.length cap1] 25)).alloc (.cells #[.slice a3 d.length cap3] 23)).cell? ⟨w.heap.size + 1, 0, none⟩ = some (.slice a3 d.length cap3) := cell_new _ _ _ (by simp)
  clear d0 d1
  have hF := Fr.start ((w.alloc (.cells #[.slice a0 s.length cap0, .slice a1 p.length cap1] 25)).alloc (.cells #[.slice a3 d.length cap3] 23))
  replace hf := hf.step hBW
  replace hp := hp.step hBW
  replace hs := hs.step hBW
  replace hd := hd.step hBW
  have HCK := fun w h1 => hid (bcheck_any d (.slice a3 d.length cap3) w h1)
  have HRU := fun w h1 h2 h3 => hid (flRun_any s (.slice a0 s.length cap0) p (.slice a1 p.length cap1) b (.slice a2 b.length cap2) n w h1 h2 h3)
  have y0 := c0
  have y1 := c1
  have y2 := c2
  rw [Um.firAll_not (by rw [Um.safe_box h]; exact h), Um.safe_box h]
  have k0 : (Um.boxF d != 0) = true := by simpa using h
  clear h HRU
  generalize Um.tubeAll s p b n = O at *
  generalize Um.boxF d = D at *
  go_enter Tryd.func44, Tryd.ntmps44
  go_wp2_with (go_at_call 30; refine (HCK _ (hF.ls hd)).out.mono ?_; rintro e wn ⟨rfl, hb⟩; replace hF := hF.step hb; clear hb y0 y1 y2; have y0 := (hF.below.cell (p := ⟨w.heap.size, 0, none⟩) h1).trans c0; have y1 := (hF.below.cell (p := ⟨w.heap.size, 1, none⟩) h1).trans c1; have y2 := (hF.below.cell (p := ⟨w.heap.size + 1, 0, none⟩) h2).trans c2; clear HCK)
  go_returns
  exact ⟨rfl, hBW.trans (hF.below.mono hBW.size)⟩

set_option maxRecDepth 100000 in
set_option maxHeartbeats 8000000 in
theorem sfFirst_run (s : List (List Um.Tm)) (v0 : Value) (p : List (Int × Int)) (v1 : Value) (b : List (Int × Int)) (v : Value) (d : List (Int × Int)) (t : Value) (n : Int) (w : World) (hf : Lf w.heap.size w v0 s) (hp : Ls w.heap.size w v1 p) (hs : Ls w.heap.size w v b) (hd : Ls w.heap.size w t d) (h : Um.boxF d = 0) (h3 : ¬ (Um.tubeAll s p b n).2 = 0) :
    Calls Tryd.prog 44 #[.agg #[v0, v1], v, t, .int .i64 n] w fun e w' => e = .returned (.tuple #[.int .i64 (Um.firAll s p b d n), errV (Um.safeF s p b d n)]) ∧ Below w.heap.size w w' := by
  have ve := errV_none
  have q1 := errG
  have q2 := errGn
  have q3 := errE
  have q4 := errN
  obtain ⟨a0, cap0, rfl, -⟩ := (id hf)
  obtain ⟨a1, cap1, rfl, -⟩ := (id hp)
  obtain ⟨a2, cap2, rfl, -⟩ := (id hs)
  obtain ⟨a3, cap3, rfl, -⟩ := (id hd)
  have h1 : w.heap.size < ((w.alloc (.cells #[.slice a0 s.length cap0, .slice a1 p.length cap1] 25)).alloc (.cells #[.slice a3 d.length cap3] 23)).heap.size := by simp <;> omega
  have h2 : w.heap.size + 1 < ((w.alloc (.cells #[.slice a0 s.length cap0, .slice a1 p.length cap1] 25)).alloc (.cells #[.slice a3 d.length cap3] 23)).heap.size := by simp <;> omega
  have hBW : Below w.heap.size w ((w.alloc (.cells #[.slice a0 s.length cap0, .slice a1 p.length cap1] 25)).alloc (.cells #[.slice a3 d.length cap3] 23)) := by go_grown
  obtain ⟨d0, d1⟩ := sys_cells w (.slice a0 s.length cap0) (.slice a1 p.length cap1) 25
  have c0 : ((w.alloc (.cells #[.slice a0 s.length cap0, .slice a1 p.length cap1] 25)).alloc (.cells #[.slice a3 d.length cap3] 23)).cell? ⟨w.heap.size, 0, none⟩ = some (.slice a0 s.length cap0) := cell_old _ _ _ (by simp) d0
  have c1 : ((w.alloc (.cells #[.slice a0 s.length cap0, .slice a1 p.length cap1] 25)).alloc (.cells #[.slice a3 d.length cap3] 23)).cell? ⟨w.heap.size, 1, none⟩ = some (.slice a1 p.length cap1) := cell_old _ _ _ (by simp) d1
  have c2 : ((w.alloc (.cells #[.slice a0 s.length cap0, .slice a1 p.length cap1] 25)).alloc (.cells #[.slice a3 d.length cap3] 23)).cell? ⟨w.heap.size + 1, 0, none⟩ = some (.slice a3 d.length cap3) := cell_new _ _ _ (by simp)
  clear d0 d1
  have hF := Fr.start ((w.alloc (.cells #[.slice a0 s.length cap0, .slice a1 p.length cap1] 25)).alloc (.cells #[.slice a3 d.length cap3] 23))
  replace hf := hf.step hBW
  replace hp := hp.step hBW
  replace hs := hs.step hBW
  replace hd := hd.step hBW
  have HCK := fun w h1 => hid (bcheck_any d (.slice a3 d.length cap3) w h1)
  have HRU := fun w h1 h2 h3 => hid (flRun_any s (.slice a0 s.length cap0) p (.slice a1 p.length cap1) b (.slice a2 b.length cap2) n w h1 h2 h3)
  have y0 := c0
  have y1 := c1
  have y2 := c2
  rw [Um.firAll_not (by rw [Um.safe_run h h3]; exact h3), Um.safe_run h h3]
  have k0 : (Um.boxF d != 0) = false := by simpa using h
  have k1 : ((Um.tubeAll s p b n).2 != 0) = true := by simpa using h3
  clear h h3
  generalize Um.tubeAll s p b n = O at *
  generalize Um.boxF d = D at *
  go_enter Tryd.func44, Tryd.ntmps44
  go_wp2_with (first | (go_at_call 30; refine (HCK _ (hF.ls hd)).out.mono ?_; rintro e wn ⟨rfl, hb⟩; replace hF := hF.step hb; clear hb y0 y1 y2; have y0 := (hF.below.cell (p := ⟨w.heap.size, 0, none⟩) h1).trans c0; have y1 := (hF.below.cell (p := ⟨w.heap.size, 1, none⟩) h1).trans c1; have y2 := (hF.below.cell (p := ⟨w.heap.size + 1, 0, none⟩) h2).trans c2; clear HCK) | (go_at_call 65; refine (HRU _ (hF.lf hf) (hF.ls hp) (hF.ls hs)).out.mono ?_; rintro e wn ⟨r, rfl, hr, hb⟩; replace hF := hF.step hb; clear hb y0 y1 y2; have y0 := (hF.below.cell (p := ⟨w.heap.size, 0, none⟩) h1).trans c0; have y1 := (hF.below.cell (p := ⟨w.heap.size, 1, none⟩) h1).trans c1; have y2 := (hF.below.cell (p := ⟨w.heap.size + 1, 0, none⟩) h2).trans c2; obtain ⟨a8, c8, rfl, -⟩ := (id hr); clear HRU))
  go_returns
  exact ⟨rfl, hBW.trans (hF.below.mono hBW.size)⟩

set_option maxRecDepth 100000 in
set_option maxHeartbeats 8000000 in
theorem sfFirst_shape (s : List (List Um.Tm)) (v0 : Value) (p : List (Int × Int)) (v1 : Value) (b : List (Int × Int)) (v : Value) (d : List (Int × Int)) (t : Value) (n : Int) (w : World) (hf : Lf w.heap.size w v0 s) (hp : Ls w.heap.size w v1 p) (hs : Ls w.heap.size w v b) (hd : Ls w.heap.size w t d) (h : Um.boxF d = 0) (h3 : (Um.tubeAll s p b n).2 = 0) (h4 : ¬ d.length = b.length) :
    Calls Tryd.prog 44 #[.agg #[v0, v1], v, t, .int .i64 n] w fun e w' => e = .returned (.tuple #[.int .i64 (Um.firAll s p b d n), errV (Um.safeF s p b d n)]) ∧ Below w.heap.size w w' := by
  have ve := errV_none
  have q1 := errG
  have q2 := errGn
  have q3 := errE
  have q4 := errN
  obtain ⟨a0, cap0, rfl, -⟩ := (id hf)
  obtain ⟨a1, cap1, rfl, -⟩ := (id hp)
  obtain ⟨a2, cap2, rfl, -⟩ := (id hs)
  obtain ⟨a3, cap3, rfl, -⟩ := (id hd)
  have h1 : w.heap.size < ((w.alloc (.cells #[.slice a0 s.length cap0, .slice a1 p.length cap1] 25)).alloc (.cells #[.slice a3 d.length cap3] 23)).heap.size := by simp <;> omega
  have h2 : w.heap.size + 1 < ((w.alloc (.cells #[.slice a0 s.length cap0, .slice a1 p.length cap1] 25)).alloc (.cells #[.slice a3 d.length cap3] 23)).heap.size := by simp <;> omega
  have hBW : Below w.heap.size w ((w.alloc (.cells #[.slice a0 s.length cap0, .slice a1 p.length cap1] 25)).alloc (.cells #[.slice a3 d.length cap3] 23)) := by go_grown
  obtain ⟨d0, d1⟩ := sys_cells w (.slice a0 s.length cap0) (.slice a1 p.length cap1) 25
  have c0 : ((w.alloc (.cells #[.slice a0 s.length cap0, .slice a1 p.length cap1] 25)).alloc (.cells #[.slice a3 d.length cap3] 23)).cell? ⟨w.heap.size, 0, none⟩ = some (.slice a0 s.length cap0) := cell_old _ _ _ (by simp) d0
  have c1 : ((w.alloc (.cells #[.slice a0 s.length cap0, .slice a1 p.length cap1] 25)).alloc (.cells #[.slice a3 d.length cap3] 23)).cell? ⟨w.heap.size, 1, none⟩ = some (.slice a1 p.length cap1) := cell_old _ _ _ (by simp) d1
  have c2 : ((w.alloc (.cells #[.slice a0 s.length cap0, .slice a1 p.length cap1] 25)).alloc (.cells #[.slice a3 d.length cap3] 23)).cell? ⟨w.heap.size + 1, 0, none⟩ = some (.slice a3 d.length cap3) := cell_new _ _ _ (by simp)
  clear d0 d1
  have hF := Fr.start ((w.alloc (.cells #[.slice a0 s.length cap0, .slice a1 p.length cap1] 25)).alloc (.cells #[.slice a3 d.length cap3] 23))
  replace hf := hf.step hBW
  replace hp := hp.step hBW
  replace hs := hs.step hBW
  replace hd := hd.step hBW
  have HCK := fun w h1 => hid (bcheck_any d (.slice a3 d.length cap3) w h1)
  have HRU := fun w h1 h2 h3 => hid (flRun_any s (.slice a0 s.length cap0) p (.slice a1 p.length cap1) b (.slice a2 b.length cap2) n w h1 h2 h3)
  have y0 := c0
  have y1 := c1
  have y2 := c2
  rw [Um.firAll_not (by rw [Um.safe_shape h h3 h4]; decide), Um.safe_shape h h3 h4]
  have k0 : (Um.boxF d != 0) = false := by simpa using h
  have k1 : ((Um.tubeAll s p b n).2 != 0) = false := by simpa using h3
  have k2 : ((d.length : Int) != (b.length : Int)) = true := bne_iff_ne.2 (by omega)
  clear h h3 h4
  generalize Um.tubeAll s p b n = O at *
  generalize Um.boxF d = D at *
  go_enter Tryd.func44, Tryd.ntmps44
  go_wp2_with (first | (go_at_call 30; refine (HCK _ (hF.ls hd)).out.mono ?_; rintro e wn ⟨rfl, hb⟩; replace hF := hF.step hb; clear hb y0 y1 y2; have y0 := (hF.below.cell (p := ⟨w.heap.size, 0, none⟩) h1).trans c0; have y1 := (hF.below.cell (p := ⟨w.heap.size, 1, none⟩) h1).trans c1; have y2 := (hF.below.cell (p := ⟨w.heap.size + 1, 0, none⟩) h2).trans c2; clear HCK) | (go_at_call 65; refine (HRU _ (hF.lf hf) (hF.ls hp) (hF.ls hs)).out.mono ?_; rintro e wn ⟨r, rfl, hr, hb⟩; replace hF := hF.step hb; clear hb y0 y1 y2; have y0 := (hF.below.cell (p := ⟨w.heap.size, 0, none⟩) h1).trans c0; have y1 := (hF.below.cell (p := ⟨w.heap.size, 1, none⟩) h1).trans c1; have y2 := (hF.below.cell (p := ⟨w.heap.size + 1, 0, none⟩) h2).trans c2; obtain ⟨a8, c8, rfl, -⟩ := (id hr); clear HRU))
  go_returns
  exact ⟨rfl, hBW.trans (hF.below.mono hBW.size)⟩

set_option maxRecDepth 100000 in
set_option maxHeartbeats 8000000 in
theorem sfFirst_yes (s : List (List Um.Tm)) (v0 : Value) (p : List (Int × Int)) (v1 : Value) (b : List (Int × Int)) (v : Value) (d : List (Int × Int)) (t : Value) (n : Int) (w : World) (hf : Lf w.heap.size w v0 s) (hp : Ls w.heap.size w v1 p) (hs : Ls w.heap.size w v b) (hd : Ls w.heap.size w t d) (h : Um.safeF s p b d n = 0) :
    Calls Tryd.prog 44 #[.agg #[v0, v1], v, t, .int .i64 n] w fun e w' => e = .returned (.tuple #[.int .i64 (Um.firAll s p b d n), errV (Um.safeF s p b d n)]) ∧ Below w.heap.size w w' := by
  have ve := errV_none
  have q1 := errG
  have q2 := errGn
  have q3 := errE
  have q4 := errN
  obtain ⟨a0, cap0, rfl, -⟩ := (id hf)
  obtain ⟨a1, cap1, rfl, -⟩ := (id hp)
  obtain ⟨a2, cap2, rfl, -⟩ := (id hs)
  obtain ⟨a3, cap3, rfl, -⟩ := (id hd)
  have h1 : w.heap.size < ((w.alloc (.cells #[.slice a0 s.length cap0, .slice a1 p.length cap1] 25)).alloc (.cells #[.slice a3 d.length cap3] 23)).heap.size := by simp <;> omega
  have h2 : w.heap.size + 1 < ((w.alloc (.cells #[.slice a0 s.length cap0, .slice a1 p.length cap1] 25)).alloc (.cells #[.slice a3 d.length cap3] 23)).heap.size := by simp <;> omega
  have hBW : Below w.heap.size w ((w.alloc (.cells #[.slice a0 s.length cap0, .slice a1 p.length cap1] 25)).alloc (.cells #[.slice a3 d.length cap3] 23)) := by go_grown
  obtain ⟨d0, d1⟩ := sys_cells w (.slice a0 s.length cap0) (.slice a1 p.length cap1) 25
  have c0 : ((w.alloc (.cells #[.slice a0 s.length cap0, .slice a1 p.length cap1] 25)).alloc (.cells #[.slice a3 d.length cap3] 23)).cell? ⟨w.heap.size, 0, none⟩ = some (.slice a0 s.length cap0) := cell_old _ _ _ (by simp) d0
  have c1 : ((w.alloc (.cells #[.slice a0 s.length cap0, .slice a1 p.length cap1] 25)).alloc (.cells #[.slice a3 d.length cap3] 23)).cell? ⟨w.heap.size, 1, none⟩ = some (.slice a1 p.length cap1) := cell_old _ _ _ (by simp) d1
  have c2 : ((w.alloc (.cells #[.slice a0 s.length cap0, .slice a1 p.length cap1] 25)).alloc (.cells #[.slice a3 d.length cap3] 23)).cell? ⟨w.heap.size + 1, 0, none⟩ = some (.slice a3 d.length cap3) := cell_new _ _ _ (by simp)
  clear d0 d1
  have hF := Fr.start ((w.alloc (.cells #[.slice a0 s.length cap0, .slice a1 p.length cap1] 25)).alloc (.cells #[.slice a3 d.length cap3] 23))
  replace hf := hf.step hBW
  replace hp := hp.step hBW
  replace hs := hs.step hBW
  replace hd := hd.step hBW
  have HCK := fun w h1 => hid (bcheck_any d (.slice a3 d.length cap3) w h1)
  have HRU := fun w h1 h2 h3 => hid (flRun_any s (.slice a0 s.length cap0) p (.slice a1 p.length cap1) b (.slice a2 b.length cap2) n w h1 h2 h3)
  have y0 := c0
  have y1 := c1
  have y2 := c2
  rw [Um.firAll_yes h, h]
  obtain ⟨g1, g2, g3⟩ := Um.safe_ok.1 h
  have k0 : (Um.boxF d != 0) = false := by simpa using g1
  have k1 : ((Um.tubeAll s p b n).2 != 0) = false := by simpa using g2
  have k2 : ((d.length : Int) != (b.length : Int)) = false := by rw [g3]; simp
  have HIX := fun x wz h1 h2 h3 h4 => hid (sfIndex_any (Um.tubeAll s p b n).1 x d (.slice a3 d.length cap3) (w.heap.size + 1) wz h1 h2 (Um.tubeAll_most s p b n).1 (fun k hk => Um.safe_boxes h hk) h3 h4)
  clear h g1 g2 g3
  generalize Um.tubeAll s p b n = O at *
  generalize Um.boxF d = D at *
  go_enter Tryd.func44, Tryd.ntmps44
  go_wp2_with (first | (go_at_call 30; refine (HCK _ (hF.ls hd)).out.mono ?_; rintro e wn ⟨rfl, hb⟩; replace hF := hF.step hb; clear hb y0 y1 y2; have y0 := (hF.below.cell (p := ⟨w.heap.size, 0, none⟩) h1).trans c0; have y1 := (hF.below.cell (p := ⟨w.heap.size, 1, none⟩) h1).trans c1; have y2 := (hF.below.cell (p := ⟨w.heap.size + 1, 0, none⟩) h2).trans c2; clear HCK) | (go_at_call 65; refine (HRU _ (hF.lf hf) (hF.ls hp) (hF.ls hs)).out.mono ?_; rintro e wn ⟨r, rfl, hr, hb⟩; replace hF := hF.step hb; clear hb y0 y1 y2; have y0 := (hF.below.cell (p := ⟨w.heap.size, 0, none⟩) h1).trans c0; have y1 := (hF.below.cell (p := ⟨w.heap.size, 1, none⟩) h1).trans c1; have y2 := (hF.below.cell (p := ⟨w.heap.size + 1, 0, none⟩) h2).trans c2; obtain ⟨a8, c8, rfl, -⟩ := (id hr); clear HRU) | (go_at_call 66; refine (HIX _ _ hr (hF.ls hd) (Nat.lt_of_lt_of_le h2 hF.size) y2).out.mono ?_; rintro e wk ⟨rfl, hb⟩; replace hF := hF.step hb; clear hb HIX hr))
  go_returns
  exact ⟨rfl, hBW.trans (hF.below.mono hBW.size)⟩

theorem sfFirst_any (s : List (List Um.Tm)) (v0 : Value) (p : List (Int × Int)) (v1 : Value) (b : List (Int × Int)) (v : Value) (d : List (Int × Int)) (t : Value) (n : Int) (w : World) (hf : Lf w.heap.size w v0 s) (hp : Ls w.heap.size w v1 p) (hs : Ls w.heap.size w v b) (hd : Ls w.heap.size w t d) :
    Calls Tryd.prog 44 #[.agg #[v0, v1], v, t, .int .i64 n] w fun e w' => e = .returned (.tuple #[.int .i64 (Um.firAll s p b d n), errV (Um.safeF s p b d n)]) ∧ Below w.heap.size w w' := by
  by_cases h : Um.boxF d = 0
  · by_cases h3 : (Um.tubeAll s p b n).2 = 0
    · by_cases h4 : d.length = b.length
      · exact sfFirst_yes s v0 p v1 b v d t n w hf hp hs hd (Um.safe_ok.2 ⟨h, h3, h4⟩)
      · exact sfFirst_shape s v0 p v1 b v d t n w hf hp hs hd h h3 h4
    · exact sfFirst_run s v0 p v1 b v d t n w hf hp hs hd h h3
  · exact sfFirst_box s v0 p v1 b v d t n w hf hp hs hd h

set_option maxRecDepth 100000 in
set_option maxHeartbeats 8000000 in
theorem sfWhen_not (s : List (List Um.Tm)) (v0 : Value) (p : List (Int × Int)) (v1 : Value) (b : List (Int × Int)) (v : Value) (d : List (Int × Int)) (t : Value) (n : Int) (w : World) (hf : Lf w.heap.size w v0 s) (hp : Ls w.heap.size w v1 p) (hs : Ls w.heap.size w v b) (hd : Ls w.heap.size w t d) (h : ¬ Um.safeF s p b d n = 0) :
    Calls Tryd.prog 24 #[.agg #[v0, v1], v, t, .int .i64 n] w fun e w' => e = .returned (.tuple #[.int .i64 (Um.whenAll s p b d n).1, errV (Um.whenAll s p b d n).2]) ∧ Below w.heap.size w w' := by
  have ve := errV_none
  have q1 := errG
  have q2 := errGn
  have q3 := errE
  have q4 := errN
  obtain ⟨a0, cap0, rfl, -⟩ := (id hf)
  obtain ⟨a1, cap1, rfl, -⟩ := (id hp)
  obtain ⟨a2, cap2, rfl, -⟩ := (id hs)
  obtain ⟨a3, cap3, rfl, -⟩ := (id hd)
  have hBW : Below w.heap.size w (w.alloc (.cells #[.slice a0 s.length cap0, .slice a1 p.length cap1] 25)) := by go_grown
  obtain ⟨y0, y1⟩ := sys_cells w (.slice a0 s.length cap0) (.slice a1 p.length cap1) 25
  replace hf := hf.step hBW
  replace hp := hp.step hBW
  replace hs := hs.step hBW
  replace hd := hd.step hBW
  have HFT := fun w h1 h2 h3 h4 => hid (sfFirst_any s (.slice a0 s.length cap0) p (.slice a1 p.length cap1) b (.slice a2 b.length cap2) d (.slice a3 d.length cap3) n w h1 h2 h3 h4)
  rw [Um.whenAll_not h]
  have k0 : (Um.safeF s p b d n != 0) = true := by simpa using h
  clear h
  generalize Um.firAll s p b d n = I at *
  generalize Um.safeF s p b d n = E at *
  go_enter Tryd.func24, Tryd.ntmps24
  go_wp2_with (go_at_call 44; refine (HFT _ hf hp hs hd).out.mono ?_; rintro e wn ⟨rfl, hb⟩; replace hb := hBW.trans (hb.mono hBW.size); clear HFT hf hp hs hd hBW y0 y1)
  go_returns
  exact ⟨rfl, hb⟩

set_option maxRecDepth 100000 in
set_option maxHeartbeats 8000000 in
theorem sfWhen_some (s : List (List Um.Tm)) (v0 : Value) (p : List (Int × Int)) (v1 : Value) (b : List (Int × Int)) (v : Value) (d : List (Int × Int)) (t : Value) (n : Int) (w : World) (hf : Lf w.heap.size w v0 s) (hp : Ls w.heap.size w v1 p) (hs : Ls w.heap.size w v b) (hd : Ls w.heap.size w t d) (h : Um.safeF s p b d n = 0) (g : (Um.whenL d (Um.tubeAll s p b n).1).2 = 0) :
    Calls Tryd.prog 24 #[.agg #[v0, v1], v, t, .int .i64 n] w fun e w' => e = .returned (.tuple #[.int .i64 (Um.whenAll s p b d n).1, errV (Um.whenAll s p b d n).2]) ∧ Below w.heap.size w w' := by
  have ve := errV_none
  have q1 := errG
  have q2 := errGn
  have q3 := errE
  have q4 := errN
  obtain ⟨a0, cap0, rfl, -⟩ := (id hf)
  obtain ⟨a1, cap1, rfl, -⟩ := (id hp)
  obtain ⟨a2, cap2, rfl, -⟩ := (id hs)
  obtain ⟨a3, cap3, rfl, -⟩ := (id hd)
  have hBW : Below w.heap.size w (w.alloc (.cells #[.slice a0 s.length cap0, .slice a1 p.length cap1] 25)) := by go_grown
  obtain ⟨y0, y1⟩ := sys_cells w (.slice a0 s.length cap0) (.slice a1 p.length cap1) 25
  replace hf := hf.step hBW
  replace hp := hp.step hBW
  replace hs := hs.step hBW
  replace hd := hd.step hBW
  have HFT := fun w h1 h2 h3 h4 => hid (sfFirst_any s (.slice a0 s.length cap0) p (.slice a1 p.length cap1) b (.slice a2 b.length cap2) d (.slice a3 d.length cap3) n w h1 h2 h3 h4)
  obtain ⟨g1, g2⟩ := Um.fir_found g
  have HI := hid ((Um.firAll_yes h).trans g1)
  have k1 : (Um.firAll s p b d n == -1) = false := by rw [Um.firAll_yes h, g1]; exact beq_false_of_ne (by omega)
  rw [Um.whenAll_yes h, g, ← g1, ← Um.firAll_yes h]
  have k0 : (Um.safeF s p b d n != 0) = false := by simpa using h
  clear h g g1 g2 HI
  generalize Um.firAll s p b d n = I at *
  generalize Um.safeF s p b d n = E at *
  go_enter Tryd.func24, Tryd.ntmps24
  go_wp2_with (go_at_call 44; refine (HFT _ hf hp hs hd).out.mono ?_; rintro e wn ⟨rfl, hb⟩; replace hb := hBW.trans (hb.mono hBW.size); clear HFT hf hp hs hd hBW y0 y1)
  go_returns
  exact ⟨rfl, hb⟩

set_option maxRecDepth 100000 in
set_option maxHeartbeats 8000000 in
theorem sfWhen_none (s : List (List Um.Tm)) (v0 : Value) (p : List (Int × Int)) (v1 : Value) (b : List (Int × Int)) (v : Value) (d : List (Int × Int)) (t : Value) (n : Int) (w : World) (hf : Lf w.heap.size w v0 s) (hp : Ls w.heap.size w v1 p) (hs : Ls w.heap.size w v b) (hd : Ls w.heap.size w t d) (h : Um.safeF s p b d n = 0) (g : ¬ (Um.whenL d (Um.tubeAll s p b n).1).2 = 0) :
    Calls Tryd.prog 24 #[.agg #[v0, v1], v, t, .int .i64 n] w fun e w' => e = .returned (.tuple #[.int .i64 (Um.whenAll s p b d n).1, errV (Um.whenAll s p b d n).2]) ∧ Below w.heap.size w w' := by
  have ve := errV_none
  have q1 := errG
  have q2 := errGn
  have q3 := errE
  have q4 := errN
  obtain ⟨a0, cap0, rfl, -⟩ := (id hf)
  obtain ⟨a1, cap1, rfl, -⟩ := (id hp)
  obtain ⟨a2, cap2, rfl, -⟩ := (id hs)
  obtain ⟨a3, cap3, rfl, -⟩ := (id hd)
  have hBW : Below w.heap.size w (w.alloc (.cells #[.slice a0 s.length cap0, .slice a1 p.length cap1] 25)) := by go_grown
  obtain ⟨y0, y1⟩ := sys_cells w (.slice a0 s.length cap0) (.slice a1 p.length cap1) 25
  replace hf := hf.step hBW
  replace hp := hp.step hBW
  replace hs := hs.step hBW
  replace hd := hd.step hBW
  have HFT := fun w h1 h2 h3 h4 => hid (sfFirst_any s (.slice a0 s.length cap0) p (.slice a1 p.length cap1) b (.slice a2 b.length cap2) d (.slice a3 d.length cap3) n w h1 h2 h3 h4)
  obtain ⟨g1, g2⟩ := Um.fir_none g
  have k1 : (Um.firAll s p b d n == -1) = true := by rw [Um.firAll_yes h, g1]; rfl
  rw [Um.whenAll_yes h, g2]
  have k0 : (Um.safeF s p b d n != 0) = false := by simpa using h
  clear h g g1 g2
  generalize Um.firAll s p b d n = I at *
  generalize Um.safeF s p b d n = E at *
  go_enter Tryd.func24, Tryd.ntmps24
  go_wp2_with (go_at_call 44; refine (HFT _ hf hp hs hd).out.mono ?_; rintro e wn ⟨rfl, hb⟩; replace hb := hBW.trans (hb.mono hBW.size); clear HFT hf hp hs hd hBW y0 y1)
  go_returns
  exact ⟨rfl, hb⟩

set_option maxRecDepth 100000 in
set_option maxHeartbeats 8000000 in
theorem sfClear_not (s : List (List Um.Tm)) (v0 : Value) (p : List (Int × Int)) (v1 : Value) (b : List (Int × Int)) (v : Value) (d : List (Int × Int)) (t : Value) (n : Int) (w : World) (hf : Lf w.heap.size w v0 s) (hp : Ls w.heap.size w v1 p) (hs : Ls w.heap.size w v b) (hd : Ls w.heap.size w t d) (h : ¬ Um.safeF s p b d n = 0) :
    Calls Tryd.prog 25 #[.agg #[v0, v1], v, t, .int .i64 n] w fun e w' => e = .returned (.tuple #[.bool (Um.clearB s p b d n), errV (Um.safeF s p b d n)]) ∧ Below w.heap.size w w' := by
  have ve := errV_none
  have q1 := errG
  have q2 := errGn
  have q3 := errE
  have q4 := errN
  obtain ⟨a0, cap0, rfl, -⟩ := (id hf)
  obtain ⟨a1, cap1, rfl, -⟩ := (id hp)
  obtain ⟨a2, cap2, rfl, -⟩ := (id hs)
  obtain ⟨a3, cap3, rfl, -⟩ := (id hd)
  have hBW : Below w.heap.size w (w.alloc (.cells #[.slice a0 s.length cap0, .slice a1 p.length cap1] 25)) := by go_grown
  obtain ⟨y0, y1⟩ := sys_cells w (.slice a0 s.length cap0) (.slice a1 p.length cap1) 25
  replace hf := hf.step hBW
  replace hp := hp.step hBW
  replace hs := hs.step hBW
  replace hd := hd.step hBW
  have HFT := fun w h1 h2 h3 h4 => hid (sfFirst_any s (.slice a0 s.length cap0) p (.slice a1 p.length cap1) b (.slice a2 b.length cap2) d (.slice a3 d.length cap3) n w h1 h2 h3 h4)
  rw [Um.clear_not h]
  have k0 : (Um.safeF s p b d n != 0) = true := by simpa using h
  clear h
  generalize Um.firAll s p b d n = I at *
  generalize Um.safeF s p b d n = E at *
  go_enter Tryd.func25, Tryd.ntmps25
  go_wp2_with (go_at_call 44; refine (HFT _ hf hp hs hd).out.mono ?_; rintro e wn ⟨rfl, hb⟩; replace hb := hBW.trans (hb.mono hBW.size); clear HFT hf hp hs hd hBW y0 y1)
  go_returns
  exact ⟨rfl, hb⟩

set_option maxRecDepth 100000 in
set_option maxHeartbeats 8000000 in
theorem sfClear_some (s : List (List Um.Tm)) (v0 : Value) (p : List (Int × Int)) (v1 : Value) (b : List (Int × Int)) (v : Value) (d : List (Int × Int)) (t : Value) (n : Int) (w : World) (hf : Lf w.heap.size w v0 s) (hp : Ls w.heap.size w v1 p) (hs : Ls w.heap.size w v b) (hd : Ls w.heap.size w t d) (h : Um.safeF s p b d n = 0) (g : (Um.whenL d (Um.tubeAll s p b n).1).2 = 0) :
    Calls Tryd.prog 25 #[.agg #[v0, v1], v, t, .int .i64 n] w fun e w' => e = .returned (.tuple #[.bool (Um.clearB s p b d n), errV (Um.safeF s p b d n)]) ∧ Below w.heap.size w w' := by
  have ve := errV_none
  have q1 := errG
  have q2 := errGn
  have q3 := errE
  have q4 := errN
  obtain ⟨a0, cap0, rfl, -⟩ := (id hf)
  obtain ⟨a1, cap1, rfl, -⟩ := (id hp)
  obtain ⟨a2, cap2, rfl, -⟩ := (id hs)
  obtain ⟨a3, cap3, rfl, -⟩ := (id hd)
  have hBW : Below w.heap.size w (w.alloc (.cells #[.slice a0 s.length cap0, .slice a1 p.length cap1] 25)) := by go_grown
  obtain ⟨y0, y1⟩ := sys_cells w (.slice a0 s.length cap0) (.slice a1 p.length cap1) 25
  replace hf := hf.step hBW
  replace hp := hp.step hBW
  replace hs := hs.step hBW
  replace hd := hd.step hBW
  have HFT := fun w h1 h2 h3 h4 => hid (sfFirst_any s (.slice a0 s.length cap0) p (.slice a1 p.length cap1) b (.slice a2 b.length cap2) d (.slice a3 d.length cap3) n w h1 h2 h3 h4)
  obtain ⟨g1, g2⟩ := Um.fir_found g
  have HI := hid ((Um.firAll_yes h).trans g1)
  have k1 : (Um.firAll s p b d n == -1) = false := by rw [Um.firAll_yes h, g1]; exact beq_false_of_ne (by omega)
  rw [Um.clear_yes h, Um.whenAll_yes h, g, h]
  have k0 : (Um.safeF s p b d n != 0) = false := by simpa using h
  clear h g g1 g2 HI
  generalize Um.firAll s p b d n = I at *
  generalize Um.safeF s p b d n = E at *
  go_enter Tryd.func25, Tryd.ntmps25
  go_wp2_with (go_at_call 44; refine (HFT _ hf hp hs hd).out.mono ?_; rintro e wn ⟨rfl, hb⟩; replace hb := hBW.trans (hb.mono hBW.size); clear HFT hf hp hs hd hBW y0 y1)
  go_returns
  exact ⟨rfl, hb⟩

set_option maxRecDepth 100000 in
set_option maxHeartbeats 8000000 in
theorem sfClear_none (s : List (List Um.Tm)) (v0 : Value) (p : List (Int × Int)) (v1 : Value) (b : List (Int × Int)) (v : Value) (d : List (Int × Int)) (t : Value) (n : Int) (w : World) (hf : Lf w.heap.size w v0 s) (hp : Ls w.heap.size w v1 p) (hs : Ls w.heap.size w v b) (hd : Ls w.heap.size w t d) (h : Um.safeF s p b d n = 0) (g : ¬ (Um.whenL d (Um.tubeAll s p b n).1).2 = 0) :
    Calls Tryd.prog 25 #[.agg #[v0, v1], v, t, .int .i64 n] w fun e w' => e = .returned (.tuple #[.bool (Um.clearB s p b d n), errV (Um.safeF s p b d n)]) ∧ Below w.heap.size w w' := by
  have ve := errV_none
  have q1 := errG
  have q2 := errGn
  have q3 := errE
  have q4 := errN
  obtain ⟨a0, cap0, rfl, -⟩ := (id hf)
  obtain ⟨a1, cap1, rfl, -⟩ := (id hp)
  obtain ⟨a2, cap2, rfl, -⟩ := (id hs)
  obtain ⟨a3, cap3, rfl, -⟩ := (id hd)
  have hBW : Below w.heap.size w (w.alloc (.cells #[.slice a0 s.length cap0, .slice a1 p.length cap1] 25)) := by go_grown
  obtain ⟨y0, y1⟩ := sys_cells w (.slice a0 s.length cap0) (.slice a1 p.length cap1) 25
  replace hf := hf.step hBW
  replace hp := hp.step hBW
  replace hs := hs.step hBW
  replace hd := hd.step hBW
  have HFT := fun w h1 h2 h3 h4 => hid (sfFirst_any s (.slice a0 s.length cap0) p (.slice a1 p.length cap1) b (.slice a2 b.length cap2) d (.slice a3 d.length cap3) n w h1 h2 h3 h4)
  obtain ⟨g1, g2⟩ := Um.fir_none g
  have k1 : (Um.firAll s p b d n == -1) = true := by rw [Um.firAll_yes h, g1]; rfl
  rw [Um.clear_yes h, Um.whenAll_yes h, decide_eq_false g, h]
  have k0 : (Um.safeF s p b d n != 0) = false := by simpa using h
  clear h g g1 g2
  generalize Um.firAll s p b d n = I at *
  generalize Um.safeF s p b d n = E at *
  go_enter Tryd.func25, Tryd.ntmps25
  go_wp2_with (go_at_call 44; refine (HFT _ hf hp hs hd).out.mono ?_; rintro e wn ⟨rfl, hb⟩; replace hb := hBW.trans (hb.mono hBW.size); clear HFT hf hp hs hd hBW y0 y1)
  go_returns
  exact ⟨rfl, hb⟩

theorem sfWhen_any (s : List (List Um.Tm)) (v0 : Value) (p : List (Int × Int)) (v1 : Value) (b : List (Int × Int)) (v : Value) (d : List (Int × Int)) (t : Value) (n : Int) (w : World) (hf : Lf w.heap.size w v0 s) (hp : Ls w.heap.size w v1 p) (hs : Ls w.heap.size w v b) (hd : Ls w.heap.size w t d) :
    Calls Tryd.prog 24 #[.agg #[v0, v1], v, t, .int .i64 n] w fun e w' => e = .returned (.tuple #[.int .i64 (Um.whenAll s p b d n).1, errV (Um.whenAll s p b d n).2]) ∧ Below w.heap.size w w' := by
  by_cases h : Um.safeF s p b d n = 0
  · by_cases g : (Um.whenL d (Um.tubeAll s p b n).1).2 = 0
    · exact sfWhen_some s v0 p v1 b v d t n w hf hp hs hd h g
    · exact sfWhen_none s v0 p v1 b v d t n w hf hp hs hd h g
  · exact sfWhen_not s v0 p v1 b v d t n w hf hp hs hd h

theorem sfClear_any (s : List (List Um.Tm)) (v0 : Value) (p : List (Int × Int)) (v1 : Value) (b : List (Int × Int)) (v : Value) (d : List (Int × Int)) (t : Value) (n : Int) (w : World) (hf : Lf w.heap.size w v0 s) (hp : Ls w.heap.size w v1 p) (hs : Ls w.heap.size w v b) (hd : Ls w.heap.size w t d) :
    Calls Tryd.prog 25 #[.agg #[v0, v1], v, t, .int .i64 n] w fun e w' => e = .returned (.tuple #[.bool (Um.clearB s p b d n), errV (Um.safeF s p b d n)]) ∧ Below w.heap.size w w' := by
  by_cases h : Um.safeF s p b d n = 0
  · by_cases g : (Um.whenL d (Um.tubeAll s p b n).1).2 = 0
    · exact sfClear_some s v0 p v1 b v d t n w hf hp hs hd h g
    · exact sfClear_none s v0 p v1 b v d t n w hf hp hs hd h g
  · exact sfClear_not s v0 p v1 b v d t n w hf hp hs hd h
end Go.Proofs.YtkeoafbkbblnaaaDoor
