/-
  The walk over 'spanlaw3.LogStops': for all after, many, keep it returns true.
-/
import Derived.Test.YthgehlonjoafmaaDoorLogC
import Derived.Test.YthgehlonjoafmaaDoorLogR
import Derived.Test.YthgehlonjoafmaaDoorSame
import Derived.LoopTactic
import Derived.Deep.CutRange
namespace Go.Proofs.YthgehlonjoafmaaDoor.LgStops
set_option linter.unusedSimpArgs false
open Go.RowKit

/-- What a Log is that stops at step A, behind t steps. -/
structure St (A t : Nat) (s : Um.LogS) : Prop where
  sides : s.sides = 1
  few : s.done.length ≤ 15
  on : t ≤ A → s.stop = false ∧ s.left = (A : Int) - t
  off : A < t → s.stop = true
theorem box7 : Um.boxF [((-7 : Int), (7 : Int))] = 0 := by decide +kernel
theorem box34 : Um.boxF [((3 : Int), (4 : Int))] = 0 := by decide +kernel
theorem St.nil_on {A t : Nat} {s : Um.LogS} (h : St A t s) (ht : t ≤ A) : Um.putF s [] = 5 ∧ Um.putS s [] = s := by
  have hr : Um.refF s [] = 5 := by
    unfold Um.refF
    rw [if_neg (by rw [(h.on ht).1]; decide), if_neg (by have := h.few; omega)]
    rfl
  obtain ⟨e1, e2⟩ := Um.put_not (s := s) (b := []) (by rw [hr]; decide)
  exact ⟨by rw [e1, hr], e2⟩
theorem St.any_off {A t : Nat} {s : Um.LogS} (h : St A t s) (ht : A < t) (b : List (Int × Int)) : Um.putF s b = 6 ∧ Um.putS s b = s := by
  have hr : Um.refF s b = 6 := by
    unfold Um.refF
    rw [if_pos (h.off ht)]
  obtain ⟨e1, e2⟩ := Um.put_not (s := s) (b := b) (by rw [hr]; decide)
  exact ⟨by rw [e1, hr], e2⟩
theorem St.ref {A t : Nat} {s : Um.LogS} (h : St A t s) (ht : t ≤ A) : Um.refF s [((-7 : Int), (7 : Int))] = 0 := Um.ref_ok.2 ⟨(h.on ht).1, by have := h.few; omega, box7, by rw [h.sides]; rfl⟩
theorem St.put {A t : Nat} {s : Um.LogS} (h : St A t s) (ht : t < A) (h15 : s.done.length < 15) : Um.putF s [((-7 : Int), (7 : Int))] = 0 ∧ St A (t + 1) (Um.putS s [((-7 : Int), (7 : Int))]) ∧ (Um.putS s [((-7 : Int), (7 : Int))]).done.length = s.done.length + 1 := by
  have hl := (h.on (by omega)).2
  obtain ⟨e1, e2⟩ := Um.put_yes (h.ref (by omega)) (by omega)
  refine ⟨e1, ?_, ?_⟩
  · rw [e2]
    refine ⟨h.sides, ?_, fun h2 => ⟨(h.on (by omega)).1, ?_⟩, fun h2 => by omega⟩
    · show (s.done ++ [_]).length ≤ 15
      rw [List.length_append]; simp only [List.length_cons, List.length_nil]; omega
    · show (if 0 < s.left then s.left - 1 else s.left) = _
      rw [if_pos (by omega)]; omega
  · rw [e2]
    show (s.done ++ [_]).length = _
    rw [List.length_append]; rfl
theorem St.last {A : Nat} {s : Um.LogS} (h : St A A s) : Um.putF s [((-7 : Int), (7 : Int))] = 6 ∧ St A (A + 1) (Um.putS s [((-7 : Int), (7 : Int))]) ∧ (Um.putS s [((-7 : Int), (7 : Int))]).done.length = s.done.length := by
  have hl := (h.on (by omega)).2
  obtain ⟨e1, e2⟩ := Um.put_stop (h.ref (by omega)) (by omega)
  refine ⟨e1, ?_, by rw [e2]⟩
  rw [e2]
  exact ⟨h.sides, h.few, fun h2 => by omega, fun _ => rfl⟩
theorem St.sync {A t : Nat} {s : Um.LogS} (h : St A t s) (ht : t < A) : Um.syncF s = 0 ∧ St A (t + 1) (Um.syncS s) := by
  have hl := h.on (by omega)
  have hs : ¬ s.stop = true := by rw [hl.1]; decide
  have hz : ¬ s.left = 0 := by have := hl.2; omega
  unfold Um.syncF Um.syncS Um.stepF
  rw [if_neg hs, if_neg hs, if_neg hz, if_neg hz]
  refine ⟨rfl, h.sides, h.few, fun h2 => ⟨hl.1, ?_⟩, fun h2 => by omega⟩
  show (if 0 < s.left then s.left - 1 else s.left) = _
  have := hl.2
  rw [if_pos (by omega)]; omega
theorem St.synced {A : Nat} {s : Um.LogS} (h : St A A s) : Um.syncF s = 6 ∧ St A (A + 1) (Um.syncS s) := by
  have hl := h.on (by omega)
  have hs : ¬ s.stop = true := by rw [hl.1]; decide
  have hz : s.left = 0 := by have := hl.2; omega
  unfold Um.syncF Um.syncS Um.stepF
  rw [if_neg hs, if_neg hs, if_pos hz, if_pos hz]
  exact ⟨rfl, h.sides, h.few, fun h2 => by omega, fun _ => rfl⟩
theorem St.sync_off {A t : Nat} {s : Um.LogS} (h : St A t s) (ht : A < t) : Um.syncF s = 6 ∧ Um.syncS s = s := by
  unfold Um.syncF Um.syncS
  rw [if_pos (h.off ht), if_pos (h.off ht)]
  exact ⟨rfl, rfl⟩
/-- Behind a crash all goes on. -/
theorem goes_on {s : Um.LogS} (h1 : s.sides = 1) (h15 : s.done.length ≤ 15) (keep : Int) : Um.putF (Um.crashS s keep) [((3 : Int), (4 : Int))] = 0 ∧ (Um.putS (Um.crashS s keep) [(3, 4)]).done = (Um.crashS s keep).done ++ [[(3, 4)]] ∧ Um.syncF (Um.putS (Um.crashS s keep) [(3, 4)]) = 0 ∧ (Um.syncS (Um.putS (Um.crashS s keep) [(3, 4)])).done = (Um.crashS s keep).done ++ [[(3, 4)]] ∧ (Um.syncS (Um.putS (Um.crashS s keep) [(3, 4)])).safe = (Um.syncS (Um.putS (Um.crashS s keep) [(3, 4)])).bytes.length := by
  have hd : (Um.crashS s keep).done.length ≤ 15 := by show (s.done.take _).length ≤ 15; rw [List.length_take]; omega
  have hr : Um.refF (Um.crashS s keep) [((3 : Int), (4 : Int))] = 0 := Um.ref_ok.2 ⟨rfl, by omega, box34, by show 1 = s.sides; omega⟩
  obtain ⟨e1, e2⟩ := Um.put_yes hr (show ¬ (Um.crashS s keep).left = 0 by show ¬ (-1 : Int) = 0; decide)
  have hs : ¬ (Um.putS (Um.crashS s keep) [(3, 4)]).stop = true := by rw [e2]; show ¬ false = true; decide
  have hz : ¬ (Um.putS (Um.crashS s keep) [(3, 4)]).left = 0 := by rw [e2]; show ¬ (if (0 : Int) < -1 then (-1 : Int) - 1 else -1) = 0; decide
  have e3 : Um.syncF (Um.putS (Um.crashS s keep) [(3, 4)]) = 0 := by unfold Um.syncF Um.stepF; rw [if_neg hs, if_neg hz]
  refine ⟨e1, by rw [e2], e3, ?_, ?_⟩
  · unfold Um.syncS
    rw [if_neg hs, if_neg hz]
    show (Um.putS (Um.crashS s keep) [(3, 4)]).done = _
    rw [e2]
  · unfold Um.syncS
    rw [if_neg hs, if_neg hz]
    rfl
theorem ls_sp {w : World} {c cap : Nat} {lo hi : Int} (h : Sp w c lo hi) (hc : 1 ≤ cap) : Ls w.heap.size w (.slice (some ⟨c, 0, none⟩) 1 cap) [(lo, hi)] := by
  refine ⟨_, cap, rfl, hc, .inr ⟨c, 0, rfl, h.lt, fun j hj => ?_⟩⟩
  obtain rfl : j = 0 := by simpa using hj
  exact ⟨h.lo, h.hi⟩
theorem sp_other {w w' : World} {p c : Nat} {k k' : Option Nat} {lo hi : Int} (h : Sp w c lo hi) (hW : Wrote w w' p k k') (hp : c ≠ p) (hk : k ≠ some c) : Sp w' c lo hi ∧ k' ≠ some c := by
  obtain ⟨e1, e2⟩ := hW.other h.lt hp hk
  refine ⟨?_, e2⟩
  unfold Sp at *
  rw [e1]; exact h
/-- What is carried along: the Log, the box, what was there. -/
structure Cy (w wr : World) (p c : Nat) (s : Um.LogS) : Prop where
  log : ∃ k, Lg w.heap.size wr p k s ∧ k ≠ some c
  sp : Sp wr c (-7) 7
  below : Below w.heap.size w wr
theorem Cy.step {w wr w' : World} {p c : Nat} {s : Um.LogS} (h : Cy w wr p c s) (hb : Below wr.heap.size wr w') : Cy w w' p c s := by
  obtain ⟨k, hL, hk⟩ := h.log
  exact ⟨⟨k, hL.step hb, hk⟩, h.sp.step hb, h.below.trans (hb.mono h.below.size)⟩
theorem Cy.wrote {w wr w' : World} {p c : Nat} {k k' : Option Nat} {s s' : Um.LogS} (h : Cy w wr p c s) (hcp : c ≠ p) (hL : Lg w.heap.size wr p k s) (hk : k ≠ some c) (hW : Wrote wr w' p k k') (hL' : Lg w.heap.size w' p k' s') : Cy w w' p c s' := by
  obtain ⟨e1, e2⟩ := sp_other h.sp hW hcp hk
  exact ⟨⟨k', hL', e2⟩, e1, h.below.trans (hL.below hW)⟩
theorem Cy.put {w wr : World} {p c : Nat} {s : Um.LogS} (h : Cy w wr p c s) (hcp : c ≠ p) (b : List (Int × Int)) (v : Value) (hs : Ls wr.heap.size wr v b) :
    Calls Tryd.prog 8 #[.pointer (some ⟨p, 0, none⟩), v] wr fun e w' => e = .returned (errV (Um.putF s b)) ∧ Cy w w' p c (Um.putS s b) := by
  obtain ⟨k, hL, hk⟩ := h.log
  refine (lgPut w.heap.size p k s b v wr hL hs).mono ?_
  rintro e w' ⟨k', rfl, hL', hW⟩
  exact ⟨rfl, h.wrote hcp hL hk hW hL'⟩
theorem Cy.sync {w wr : World} {p c : Nat} {s : Um.LogS} (h : Cy w wr p c s) (hcp : c ≠ p) :
    Calls Tryd.prog 10 #[.pointer (some ⟨p, 0, none⟩)] wr fun e w' => e = .returned (errV (Um.syncF s)) ∧ Cy w w' p c (Um.syncS s) := by
  obtain ⟨k, hL, hk⟩ := h.log
  refine (lgSync w.heap.size p k s wr hL).mono ?_
  rintro e w' ⟨rfl, hL', hW⟩
  exact ⟨rfl, h.wrote hcp hL hk hW hL'⟩
theorem Cy.fail {w wr : World} {p c : Nat} {s : Um.LogS} (h : Cy w wr p c s) (hcp : c ≠ p) (n : Int) (hn : n ≤ 9223372036854775807) :
    Calls Tryd.prog 7 #[.pointer (some ⟨p, 0, none⟩), .int .i64 n] wr fun e w' => e = .returned (.tuple #[]) ∧ Cy w w' p c (Um.failS s n) := by
  obtain ⟨k, hL, hk⟩ := h.log
  refine (lgFail w.heap.size p k s n wr hL hn).mono ?_
  rintro e w' ⟨rfl, hL', hW⟩
  exact ⟨rfl, h.wrote hcp hL hk hW hL'⟩
theorem Cy.crash {w wr : World} {p c : Nat} {s : Um.LogS} (h : Cy w wr p c s) (hcp : c ≠ p) (n : Int) :
    Calls Tryd.prog 11 #[.pointer (some ⟨p, 0, none⟩), .int .i64 n] wr fun e w' => e = .returned (.tuple #[]) ∧ Cy w w' p c (Um.crashS s n) := by
  obtain ⟨k, hL, hk⟩ := h.log
  refine (lgCrash w.heap.size p k s n wr hL).mono ?_
  rintro e w' ⟨k', rfl, hL', hW⟩
  exact ⟨rfl, h.wrote hcp hL hk hW hL'⟩
theorem Cy.all {w wr : World} {p c : Nat} {s : Um.LogS} (h : Cy w wr p c s) :
    Calls Tryd.prog 12 #[.pointer (some ⟨p, 0, none⟩)] wr fun e w' => ∃ r, e = .returned r ∧ Lb w'.heap.size w' r s.done ∧ Below wr.heap.size wr w' := by
  obtain ⟨k, hL, hk⟩ := h.log
  exact lgAll w.heap.size p k s wr hL
theorem Cy.bytes {w wr : World} {p c : Nat} {s : Um.LogS} (h : Cy w wr p c s) :
    Calls Tryd.prog 15 #[.pointer (some ⟨p, 0, none⟩)] wr fun e w' => e = .returned (.int .i64 (s.bytes.length : Int)) ∧ w' = wr := by
  obtain ⟨k, hL, hk⟩ := h.log
  exact lgBytes w.heap.size p k s wr hL
theorem Cy.safe {w wr : World} {p c : Nat} {s : Um.LogS} (h : Cy w wr p c s) :
    Calls Tryd.prog 14 #[.pointer (some ⟨p, 0, none⟩)] wr fun e w' => e = .returned (.int .i64 (s.safe : Int)) ∧ w' = wr := by
  obtain ⟨k, hL, hk⟩ := h.log
  exact lgSafe w.heap.size p k s wr hL

set_option maxRecDepth 100000 in
set_option maxHeartbeats 16000000 in
theorem walk_out (a m keep : Int) (w : World) (h : a < 0 ∨ 15 < a ∨ m < 0 ∨ 15 < m) :
    Calls Tryd.prog 3 #[.int .i64 a, .int .i64 m, .int .i64 keep] w fun e w' => e = .returned (.bool true) ∧ Below w.heap.size w w' := by
  have ve := errV_none
  have q1 := errG
  have q2 := errGn
  have q3 := errE
  have q4 := errN
  obtain ⟨K, hK⟩ : ∃ K : Int, K = 0 := ⟨_, rfl⟩
  have HNW := hid (logNew_yes 1 K w (by decide) (by decide) hK)
  have kK : (K != 0) = false := by simpa using hK
  have kK2 : (K == 0) = true := by simpa using hK
  clear hK
  by_cases g0 : a < 0
  · have d0 : decide (a < 0) = true := decide_eq_true g0
    clear h
    go_enter Tryd.func3, Tryd.ntmps3
    go_wp2_with fail
    refine HNW.out.mono ?_
    rintro e wn ⟨p, rfl, hp, hL, hB⟩
    clear HNW
    go_wp2
    go_returns
    exact ⟨rfl, hB⟩
  · have d0 : decide (a < 0) = false := decide_eq_false g0
    by_cases g1 : 15 < a
    · have d1 : decide (15 < a) = true := decide_eq_true g1
      clear h
      go_enter Tryd.func3, Tryd.ntmps3
      go_wp2_with fail
      refine HNW.out.mono ?_
      rintro e wn ⟨p, rfl, hp, hL, hB⟩
      clear HNW
      go_wp2
      go_returns
      exact ⟨rfl, hB⟩
    · have d1 : decide (15 < a) = false := decide_eq_false g1
      by_cases g2 : m < 0
      · have d2 : decide (m < 0) = true := decide_eq_true g2
        clear h
        go_enter Tryd.func3, Tryd.ntmps3
        go_wp2_with fail
        refine HNW.out.mono ?_
        rintro e wn ⟨p, rfl, hp, hL, hB⟩
        clear HNW
        go_wp2
        go_returns
        exact ⟨rfl, hB⟩
      · have d2 : decide (m < 0) = false := decide_eq_false g2
        have d3 : decide (15 < m) = true := decide_eq_true (by omega)
        clear h
        go_enter Tryd.func3, Tryd.ntmps3
        go_wp2_with fail
        refine HNW.out.mono ?_
        rintro e wn ⟨p, rfl, hp, hL, hB⟩
        clear HNW
        go_wp2
        go_returns
        exact ⟨rfl, hB⟩

set_option maxRecDepth 100000 in
set_option maxHeartbeats 32000000 in
theorem walk_in (A n : Nat) (keep : Int) (w : World) (hg : HasErr w) (hA : A ≤ 15) (hn : n ≤ 15) :
    Calls Tryd.prog 3 #[.int .i64 A, .int .i64 n, .int .i64 keep] w fun e w' => e = .returned (.bool true) ∧ Below w.heap.size w w' := by
  have ve := errV_none
  have q1 := errG
  have q2 := errGn
  have q3 := errE
  have q4 := errN
  obtain ⟨K, hK⟩ : ∃ K : Int, K = 0 := ⟨_, rfl⟩
  have HNW := hid (logNew_yes 1 K w (by decide) (by decide) hK)
  have kK : (K != 0) = false := by simpa using hK
  have kK2 : (K == 0) = true := by simpa using hK
  clear hK
  have d0 : decide ((A : Int) < 0) = false := decide_eq_false (by omega)
  have d1 : decide ((15 : Int) < (A : Int)) = false := decide_eq_false (by omega)
  have d2 : decide ((n : Int) < 0) = false := decide_eq_false (by omega)
  have d3 : decide ((15 : Int) < (n : Int)) = false := decide_eq_false (by omega)
  go_enter Tryd.func3, Tryd.ntmps3
  go_wp2_with fail
  refine HNW.out.mono ?_
  rintro e wn ⟨p, rfl, hp, hL, hB⟩
  clear HNW
  obtain ⟨c, hc⟩ : ∃ c, c = wn.heap.size := ⟨_, rfl⟩
  have hcp : c ≠ p := by have := hL.lt; omega
  have hC : Cy w (wn.alloc (.cells #[.int .i64 (-7), .int .i64 7] 28)) p c (Um.newS 1) := ⟨⟨none, hL.step ((Below.refl _ _).alloc (Nat.le_refl _) _), by simp⟩, by rw [hc]; exact Sp.new _ _ _, hB.alloc hB.size _⟩
  have HFA := hid (hC.fail hcp (A : Int) (by omega))
  have hS : St A 0 (Um.failS (Um.newS 1) (A : Int)) := ⟨rfl, by show 0 ≤ 15; decide, fun _ => ⟨rfl, by show max (A : Int) (-1) = _; omega⟩, fun h => by omega⟩
  clear hL hB
  go_wp2_with fail
  refine HFA.out.mono ?_
  rintro e wf ⟨rfl, hC1⟩
  clear HFA hC
  rw [← hc]
  clear hc
  go_wp2
  go_loopw [10, 11] (fun x y wr => ∃ t : Nat, t ≤ n ∧ x = .int .i64 t ∧ y = .int .i64 t ∧ ∃ s, Cy w wr p c s ∧ St A t s ∧ s.done.length ≤ t) (fun _ y _ => n - (intOf y).toNat)
  case atStart => exact ⟨0, Nat.zero_le _, rfl, rfl, _, hC1, hS, Nat.le_refl _⟩
  case round =>
    clear hC1 hS
    obtain ⟨t, ht, rfl, rfl, s, hC, hS, hdl⟩ := hrel
    by_cases hil : t < n
    · have hii : (t : Int) < (n : Int) := by omega
      have HPN := hid (hC.put hcp [] (.slice none 0 0) (Ls.nil _ _))
      by_cases hta : t < A
      · obtain ⟨b1, b2⟩ := hS.nil_on (by omega)
        obtain ⟨b3, hS2, hlen⟩ := hS.put hta (by omega)
        have kN6 : (Um.putF s [] == 6) = false := by rw [b1]; rfl
        have kN5 : (Um.putF s [] == 5) = true := by rw [b1]; rfl
        have kB6 : (Um.putF s [((-7 : Int), (7 : Int))] == 6) = false := by rw [b3]; rfl
        have kB0 : (Um.putF s [((-7 : Int), (7 : Int))] != 0) = false := by rw [b3]; rfl
        have HB2 := hid b2

        have HS2 := hid hS2
        have HLN := hid hlen
        have d0 : decide ((A : Int) < (t : Int)) = false := decide_eq_false (by omega)
        have d1 : decide ((t : Int) ≤ (A : Int)) = true := decide_eq_true (by omega)
        have d2 : ((t : Int) == (A : Int)) = false := beq_false_of_ne (by omega)
        have d3 : decide ((t : Int) < (A : Int)) = true := decide_eq_true (by omega)
        have d4 : decide (A < t) = false := decide_eq_false (by omega)
        have d5 : decide (t ≤ A) = true := decide_eq_true (by omega)
        have d6 : (t == A) = false := beq_false_of_ne (by omega)
        have d7 : decide (t < A) = true := decide_eq_true (by omega)
        clear b1 b2 b3 hS2 hlen hta
        generalize Um.putF s [] = N1 at *
        go_wp2_with fail
        refine HPN.out.mono ?_
        rintro e wa ⟨rfl, hC1⟩
        rw [HB2.out] at hC1
        clear HPN hC
        have hC := hC1
        clear hC1
        have HPB := hid (hC.put hcp [((-7 : Int), (7 : Int))] (.slice (some ⟨c, 0, none⟩) 1 1) (ls_sp hC.sp (by decide)))
        generalize hN2 : Um.putF s [((-7 : Int), (7 : Int))] = N2 at *
        clear hN2
        go_wp2_with fail
        refine HPB.out.mono ?_
        rintro e wb ⟨rfl, hC1⟩
        clear HPB hC
        have hC := hC1
        clear hC1
        go_wp2_with fail
        refine (same_any _ _ _ (hg.below (B := w.heap.size) hC.below hg.size)).mono ?_
        rintro e wn ⟨rfl, hb⟩
        replace hC := hC.step hb
        clear hb
        go_wp2_with fail
        refine (same_any _ _ _ (hg.below (B := w.heap.size) hC.below hg.size)).mono ?_
        rintro e wn ⟨rfl, hb⟩
        replace hC := hC.step hb
        clear hb
        go_wp2_with fail
        refine (same_any _ _ _ (hg.below (B := w.heap.size) hC.below hg.size)).mono ?_
        rintro e wn ⟨rfl, hb⟩
        replace hC := hC.step hb
        clear hb
        go_wp2
        exact ⟨⟨t + 1, hil, by simp, by simp, Um.putS s [((-7 : Int), (7 : Int))], hC, HS2.out, by rw [HLN.out]; omega⟩, by simp [intOf]; omega⟩
      · by_cases hta : t = A
        · obtain ⟨b1, b2⟩ := hS.nil_on (by omega)
          obtain ⟨b3, hS2, hlen⟩ := (show St A A s by have := hS; rw [hta] at this; exact this).last
          have kN6 : (Um.putF s [] == 6) = false := by rw [b1]; rfl
          have kN5 : (Um.putF s [] == 5) = true := by rw [b1]; rfl
          have kB6 : (Um.putF s [((-7 : Int), (7 : Int))] == 6) = true := by rw [b3]; rfl
          have kB0 : (Um.putF s [((-7 : Int), (7 : Int))] != 0) = true := by rw [b3]; rfl
          have HB2 := hid b2

          have HS2 := hid (show St A (t + 1) (Um.putS s [((-7 : Int), (7 : Int))]) from by rw [hta]; exact hS2)
          have HLN := hid hlen
          have d0 : decide ((A : Int) < (t : Int)) = false := decide_eq_false (by omega)
          have d1 : decide ((t : Int) ≤ (A : Int)) = true := decide_eq_true (by omega)
          have d2 : ((t : Int) == (A : Int)) = true := by simp; omega
          have d3 : decide ((t : Int) < (A : Int)) = false := decide_eq_false (by omega)
          have d4 : decide (A < t) = false := decide_eq_false (by omega)
          have d5 : decide (t ≤ A) = true := decide_eq_true (by omega)
          have d6 : (t == A) = true := by simp; omega
          have d7 : decide (t < A) = false := decide_eq_false (by omega)
          clear b1 b2 b3 hS2 hlen hta
          generalize Um.putF s [] = N1 at *
          go_wp2_with fail
          refine HPN.out.mono ?_
          rintro e wa ⟨rfl, hC1⟩
          rw [HB2.out] at hC1
          clear HPN hC
          have hC := hC1
          clear hC1
          have HPB := hid (hC.put hcp [((-7 : Int), (7 : Int))] (.slice (some ⟨c, 0, none⟩) 1 1) (ls_sp hC.sp (by decide)))
          generalize hN2 : Um.putF s [((-7 : Int), (7 : Int))] = N2 at *
          clear hN2
          go_wp2_with fail
          refine HPB.out.mono ?_
          rintro e wb ⟨rfl, hC1⟩
          clear HPB hC
          have hC := hC1
          clear hC1
          go_wp2_with fail
          refine (same_any _ _ _ (hg.below (B := w.heap.size) hC.below hg.size)).mono ?_
          rintro e wn ⟨rfl, hb⟩
          replace hC := hC.step hb
          clear hb
          go_wp2_with fail
          refine (same_any _ _ _ (hg.below (B := w.heap.size) hC.below hg.size)).mono ?_
          rintro e wn ⟨rfl, hb⟩
          replace hC := hC.step hb
          clear hb
          go_wp2_with fail
          refine (same_any _ _ _ (hg.below (B := w.heap.size) hC.below hg.size)).mono ?_
          rintro e wn ⟨rfl, hb⟩
          replace hC := hC.step hb
          clear hb
          go_wp2
          exact ⟨⟨t + 1, hil, by simp, by simp, Um.putS s [((-7 : Int), (7 : Int))], hC, HS2.out, by rw [HLN.out]; omega⟩, by simp [intOf]; omega⟩
        · replace hta : A < t := by omega
          obtain ⟨b1, b2⟩ := hS.any_off hta []
          obtain ⟨b3, b4⟩ := hS.any_off hta [((-7 : Int), (7 : Int))]
          have kN6 : (Um.putF s [] == 6) = true := by rw [b1]; rfl
          have kN5 : (Um.putF s [] == 5) = false := by rw [b1]; rfl
          have kB6 : (Um.putF s [((-7 : Int), (7 : Int))] == 6) = true := by rw [b3]; rfl
          have kB0 : (Um.putF s [((-7 : Int), (7 : Int))] != 0) = true := by rw [b3]; rfl
          have HB2 := hid b2
          have HB4 := hid b4
          have HS2 : Hid (St A (t + 1) s) := hid ⟨hS.sides, hS.few, fun h => by omega, fun _ => hS.off hta⟩

          have d0 : decide ((A : Int) < (t : Int)) = true := decide_eq_true (by omega)
          have d1 : decide ((t : Int) ≤ (A : Int)) = false := decide_eq_false (by omega)
          have d2 : ((t : Int) == (A : Int)) = false := beq_false_of_ne (by omega)
          have d3 : decide ((t : Int) < (A : Int)) = false := decide_eq_false (by omega)
          have d4 : decide (A < t) = true := decide_eq_true (by omega)
          have d5 : decide (t ≤ A) = false := decide_eq_false (by omega)
          have d6 : (t == A) = false := beq_false_of_ne (by omega)
          have d7 : decide (t < A) = false := decide_eq_false (by omega)
          clear b1 b2 b3 b4 hta
          generalize Um.putF s [] = N1 at *
          go_wp2_with fail
          refine HPN.out.mono ?_
          rintro e wa ⟨rfl, hC1⟩
          rw [HB2.out] at hC1
          clear HPN hC
          have hC := hC1
          clear hC1
          have HPB := hid (hC.put hcp [((-7 : Int), (7 : Int))] (.slice (some ⟨c, 0, none⟩) 1 1) (ls_sp hC.sp (by decide)))
          generalize hN2 : Um.putF s [((-7 : Int), (7 : Int))] = N2 at *
          clear hN2
          go_wp2_with fail
          refine HPB.out.mono ?_
          rintro e wb ⟨rfl, hC1⟩
          clear HPB hC
          have hC := hC1
          clear hC1
          rw [HB4.out] at hC
          go_wp2_with fail
          refine (same_any _ _ _ (hg.below (B := w.heap.size) hC.below hg.size)).mono ?_
          rintro e wn ⟨rfl, hb⟩
          replace hC := hC.step hb
          clear hb
          go_wp2_with fail
          refine (same_any _ _ _ (hg.below (B := w.heap.size) hC.below hg.size)).mono ?_
          rintro e wn ⟨rfl, hb⟩
          replace hC := hC.step hb
          clear hb
          go_wp2_with fail
          refine (same_any _ _ _ (hg.below (B := w.heap.size) hC.below hg.size)).mono ?_
          rintro e wn ⟨rfl, hb⟩
          replace hC := hC.step hb
          clear hb
          go_wp2
          exact ⟨⟨t + 1, hil, by simp, by simp, s, hC, HS2.out, by omega⟩, by simp [intOf]; omega⟩
    · obtain rfl : t = n := by omega
      clear hdl
      have HC0 := hid hC
      have HS0 := hid hS
      clear hC hS
      go_wp2
      go_loopw [10] (fun x wr => ∃ u : Nat, u ≤ 16 ∧ x = .int .i64 u ∧ ∃ s, Cy w wr p c s ∧ St A u s) (fun x _ => 17 - (intOf x).toNat)
      case atStart => exact ⟨t, by omega, rfl, s, HC0.out, HS0.out⟩
      case round =>
        clear HC0 HS0
        obtain ⟨u, hu, rfl, s, hC, hS⟩ := hrel
        by_cases hua : u ≤ A
        · have g0 : decide ((u : Int) ≤ (A : Int)) = true := decide_eq_true (by omega)
          have g1 : decide (u ≤ A) = true := decide_eq_true hua
          have HSY := hid (hC.sync hcp)
          by_cases hul : u < A
          · obtain ⟨b1, hS2⟩ := hS.sync hul
            have kY : (Um.syncF s != 0) = false := by rw [b1]; rfl
            have g2 : ((u : Int) == (A : Int)) = false := beq_false_of_ne (by omega)
            have g3 : (u == A) = false := beq_false_of_ne (by omega)
            have HS2 := hid hS2
            clear b1 hS2 hS
            generalize Um.syncF s = N1 at *
            go_wp2_with fail
            refine HSY.out.mono ?_
            rintro e wa ⟨rfl, hC1⟩
            clear HSY hC
            go_wp2
            exact ⟨⟨u + 1, by omega, by simp, _, hC1, HS2.out⟩, by simp [intOf]; omega⟩
          · obtain ⟨b1, hS2⟩ := (show St A A s by have := hS; rw [show u = A by omega] at this; exact this).synced
            have kY : (Um.syncF s != 0) = true := by rw [b1]; rfl
            have g2 : ((u : Int) == (A : Int)) = true := by simp; omega
            have g3 : (u == A) = true := by simp; omega
            have HS2 : Hid (St A (u + 1) (Um.syncS s)) := hid (by rw [show u = A by omega]; exact hS2)
            clear b1 hS2 hS
            generalize Um.syncF s = N1 at *
            go_wp2_with fail
            refine HSY.out.mono ?_
            rintro e wa ⟨rfl, hC1⟩
            clear HSY hC
            go_wp2
            exact ⟨⟨u + 1, by omega, by simp, _, hC1, HS2.out⟩, by simp [intOf]; omega⟩
        · have g0 : decide ((u : Int) ≤ (A : Int)) = false := decide_eq_false (by omega)
          have g1 : decide (u ≤ A) = false := decide_eq_false (by omega)
          have hlt : A < u := by omega
          obtain ⟨b1, b2⟩ := hS.sync_off hlt
          obtain ⟨b3, b4⟩ := hS.any_off hlt [((-7 : Int), (7 : Int))]
          have kY : (Um.syncF s == 6) = true := by rw [b1]; rfl
          have kP : (Um.putF s [((-7 : Int), (7 : Int))] == 6) = true := by rw [b3]; rfl
          obtain ⟨f1, f2, f3, f4, f5⟩ := goes_on hS.sides hS.few keep
          have HB2 := hid b2
          have HB4 := hid b4
          have hfew := hS.few
          have HDL : Hid ((Um.crashS s keep).done.length ≤ 15) := hid (by show (s.done.take _).length ≤ 15; rw [List.length_take]; omega)
          have HSY := hid (hC.sync hcp)
          clear b1 b2 b3 b4 hS hfew
          generalize Um.syncF s = N1 at *
          go_wp2_with fail
          refine HSY.out.mono ?_
          rintro e wa ⟨rfl, hC1⟩
          rw [HB2.out] at hC1
          clear HSY hC
          have hC := hC1
          clear hC1
          have HPB := hid (hC.put hcp [((-7 : Int), (7 : Int))] (.slice (some ⟨c, 0, none⟩) 1 1) (ls_sp hC.sp (by decide)))
          generalize Um.putF s [((-7 : Int), (7 : Int))] = N2 at *
          go_wp2_with fail
          refine HPB.out.mono ?_
          rintro e wb ⟨rfl, hC1⟩
          rw [HB4.out] at hC1
          clear HPB hC
          have hC := hC1
          clear hC1
          go_wp2_with fail
          refine (same_any _ _ _ (hg.below (B := w.heap.size) hC.below hg.size)).mono ?_
          rintro e wx ⟨rfl, hb⟩
          replace hC := hC.step hb
          clear hb
          go_wp2_with fail
          refine (same_any _ _ _ (hg.below (B := w.heap.size) hC.below hg.size)).mono ?_
          rintro e wx ⟨rfl, hb⟩
          replace hC := hC.step hb
          clear hb
          have HCR := hid (hC.crash hcp keep)
          obtain ⟨sc, hsc⟩ : ∃ sc, sc = Um.crashS s keep := ⟨_, rfl⟩
          rw [← hsc] at HCR f1 f2 f3 f4 f5 HDL
          obtain ⟨s3, hs3⟩ : ∃ s3, s3 = Um.putS sc [(3, 4)] := ⟨_, rfl⟩
          rw [← hs3] at f2 f3 f4 f5
          obtain ⟨s4, hs4⟩ : ∃ s4, s4 = Um.syncS s3 := ⟨_, rfl⟩
          rw [← hs4] at f4 f5
          have kF1 : (Um.putF sc [(3, 4)] == 0) = true := by rw [f1]; rfl
          have kF3 : (Um.syncF s3 == 0) = true := by rw [f3]; rfl
          have HF4 := hid f4
          have HF5 := hid f5
          have HS3 := hid hs3
          have HS4 := hid hs4
          clear f1 f2 f3 f4 f5 hsc hs3 hs4
          go_wp2_with fail
          refine HCR.out.mono ?_
          rintro e wc ⟨rfl, hC1⟩
          clear HCR hC
          have hC := hC1
          clear hC1
          go_wp2_with fail
          refine hC.all.mono ?_
          rintro e wd ⟨r, rfl, hr, hb⟩
          obtain ⟨a8, c8, e8, -⟩ := (id hr)
          obtain ⟨d, hd⟩ : ∃ d, d = sc.done.length := ⟨_, rfl⟩
          rw [← hd] at e8 HDL
          subst e8
          have HD := hid hd
          have hd15 := HDL.out
          replace hC := (hC.step hb).step ((Below.refl _ _).alloc (Nat.le_refl _) (.cells #[.int .i64 3, .int .i64 4] 28))
          have HP3 := hid (hC.put hcp [(3, 4)] (.slice (some ⟨wd.heap.size, 0, none⟩) 1 1) (ls_sp (Sp.new _ _ _) (by decide)))
          rw [← HS3.out] at HP3
          clear hb hr hd HDL
          generalize Um.putF sc [(3, 4)] = N3 at *
          go_wp2_with fail
          refine HP3.out.mono ?_
          rintro e we ⟨rfl, hC1⟩
          clear HP3 hC
          have HSY := hid (hC1.sync hcp)
          rw [← HS4.out] at HSY
          generalize Um.syncF s3 = N4 at *
          go_wp2_with fail
          refine HSY.out.mono ?_
          rintro e wg ⟨rfl, hC⟩
          clear HSY hC1
          go_wp2_with fail
          refine hC.all.mono ?_
          rintro e wh ⟨r2, rfl, hr2, hb⟩
          rw [HF4.out] at hr2
          replace hC := hC.step hb
          have HLN : Hid ((sc.done ++ [[((3 : Int), (4 : Int))]]).length = d + 1) := hid (by rw [List.length_append, ← HD.out]; rfl)
          obtain ⟨b6, o6, c6, e6, hc6, m6, n6⟩ := hr2.open (by simp)
          rw [HLN.out] at e6 hc6
          subst e6
          obtain ⟨x6, p6, h6⟩ := n6 d (by rw [HLN.out]; omega)
          have e7 : (sc.done ++ [[((3 : Int), (4 : Int))]])[d]?.getD [] = [(3, 4)] := by rw [HD.out, List.getElem?_append_right (Nat.le_refl _), Nat.sub_self]; rfl
          rw [e7] at h6
          obtain ⟨b7, o7, c7, e8, -, hA⟩ := h6.open (by simp)
          replace e8 : x6 = .slice (some ⟨b7, o7, none⟩) 1 c7 := e8
          subst e8
          have HCK := fun W hs => hid (bcheck_any [((3 : Int), (4 : Int))] (.slice (some ⟨b7, o7, none⟩) 1 c7) W hs)
          have kC : (Um.boxF [((3 : Int), (4 : Int))] == 0) = true := by rw [box34]; rfl
          generalize Um.boxF [((3 : Int), (4 : Int))] = N5 at *
          have HSF := fun W (hC : Cy w W p c s4) => hid hC.safe
          have HBY := fun W (hC : Cy w W p c s4) => hid hC.bytes
          rw [HF5.out] at HSF
          generalize s4.bytes.length = NB at *
          have hmd : (d : Int) < (d : Int) + 1 := by omega
          have kE : ((d : Int) + 1 == (d : Int) + 1) = true := by simp
          have kN : ((NB : Int) == (NB : Int)) = true := by simp
          clear hr2 n6 e7 hb
          go_wp2_with (first | (go_at_call 13; refine (HCK _ h6).out.mono ?_; rintro e wi ⟨rfl, hb⟩; have y6 := (hb.cell (p := ⟨b6, o6 + d, none⟩) m6).trans p6; have y7 := (hA.step hb).lo 0 rfl (o := o7) rfl; replace hC := hC.step hb; clear hb HCK) | (go_at_call 14; refine (HSF _ hC).out.mono ?_; rintro e wj ⟨rfl, hq⟩; subst wj; clear HSF) | (go_at_call 15; refine (HBY _ hC).out.mono ?_; rintro e wj ⟨rfl, hq⟩; subst wj; clear HBY))
          go_returns
          exact ⟨rfl, hC.below⟩

theorem walk (a m keep : Int) (w : World) (hg : HasErr w) :
    Calls Tryd.prog 3 #[.int .i64 a, .int .i64 m, .int .i64 keep] w fun e w' => e = .returned (.bool true) ∧ Below w.heap.size w w' := by
  by_cases h : a < 0 ∨ 15 < a ∨ m < 0 ∨ 15 < m
  · exact walk_out a m keep w h
  · obtain ⟨A, rfl⟩ := Int.eq_ofNat_of_zero_le (show 0 ≤ a by omega)
    obtain ⟨n, rfl⟩ := Int.eq_ofNat_of_zero_le (show 0 ≤ m by omega)
    exact walk_in A n keep w hg (by omega) (by omega)
end Go.Proofs.YthgehlonjoafmaaDoor.LgStops
