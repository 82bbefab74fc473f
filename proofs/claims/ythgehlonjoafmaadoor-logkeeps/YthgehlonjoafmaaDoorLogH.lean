/-
  What package log answers: Hull of two boxes and more lies in new memory.
-/
import Derived.Test.YthgehlonjoafmaaDoorLogR
namespace Go.Proofs.YthgehlonjoafmaaDoor
set_option linter.unusedSimpArgs false
open Go.RowKit

theorem bhull_new (a b c : List (Int × Int)) (u v : Value) (Z : Int) (w : World) (hs1 : Ls w.heap.size w u a) (hs2 : Ls w.heap.size w v b) (h : Um.boxesF a b = 0) (hZ : Z = 0) (hc : c = Um.hullN a b a.length) :
    Calls Tryd.prog 29 #[u, v] w fun e w' => ∃ r, e = .returned (.tuple #[r, errV Z]) ∧ Ls w'.heap.size w' r c ∧ Below w.heap.size w w' ∧ ∀ g, r.ownBlock = some g → w.heap.size ≤ g := by
  subst hZ hc
  refine (bhull_own a b u v w hs1 hs2 h).mono ?_
  rintro e w' ⟨r, h1, h2, h3⟩
  exact ⟨r, h1, ls_owns h2, h3, fun g hg => owns_from h2 g hg⟩

set_option maxRecDepth 100000 in
set_option maxHeartbeats 16000000 in
theorem lgHull_two (base p : Nat) (k : Option Nat) (s : Um.LogS) (w : World) (hL : Lg base w p k s) (h2 : 2 ≤ s.done.length) :
    Calls Tryd.prog 16 #[.pointer (some ⟨p, 0, none⟩)] w fun e w' => ∃ r, e = .returned (.tuple #[r, errV (Um.hullE s.done)]) ∧ Ls w'.heap.size w' r (Um.hullF s.done) ∧ Below w.heap.size w w' ∧ ∀ g, r.ownBlock = some g → w.heap.size ≤ g := by
  have ve := errV_none
  have q1 := errG
  have q2 := errGn
  have q3 := errE
  have q4 := errN
  have HAL := hid (lgAll base p k s w hL)
  have HF := hid (Um.hullF_some (l := s.done) (fun e => by rw [e] at h2; exact absurd h2 (by decide)))
  have HBX := hid hL.ok.box
  have h20 := hL.ok.many
  have hp : 0 < s.done.length := by omega
  generalize s.sides = sn at *
  generalize s.done = ds at *
  clear hL
  go_enter Tryd.func16, Tryd.ntmps16
  go_wp2_with fail
  refine HAL.out.mono ?_
  rintro e wn ⟨r, rfl, hr, hB0⟩
  obtain ⟨b6, o6, c6, e6, hc6, m6, n6⟩ := hr.open (fun e => by rw [e] at hp; exact absurd hp (by decide))
  subst e6
  obtain ⟨x0, p0, e0⟩ := n6 0 hp
  have HN6 := hid n6
  replace p0 : wn.cell? ⟨b6, o6, none⟩ = some x0 := p0
  obtain ⟨a1, c1, e1, -⟩ := (id e0)
  obtain ⟨n1, hn1⟩ : ∃ n1, n1 = (ds[0]?.getD []).length := ⟨_, rfl⟩
  rw [← hn1] at e1
  subst e1
  have HE0 : Hid (Ls wn.heap.size wn (.slice a1 n1 c1) (Um.hullTo ds 0)) := hid e0
  clear HAL hr e0 hn1 n6
  have HTW := fun m (hm : m + 1 < ds.length) => hid (Um.hullTo_two HBX.out hm)
  obtain ⟨D, hD⟩ : ∃ D, D + 1 = ds.length := ⟨ds.length - 1, by omega⟩
  have HD := hid hD
  rw [← hD] at hp h20 hc6 h2 ⊢
  have k0 : ((D : Int) + 1 == 0) = false := beq_false_of_ne (by omega)
  have hq : ¬ c6 = 1 := by omega
  have hDp : 0 < D := by omega
  obtain ⟨Z, hZ⟩ : ∃ Z : Int, Z = 0 := ⟨_, rfl⟩
  have kZ : (Z != 0) = false := by rw [hZ]; rfl
  have HZ := hid hZ
  have HHN := fun m (hm : m + 1 < ds.length) H1 (e : H1 = Um.hullTo ds (m + 1)) u v w h1 h2 => hid (bhull_new (Um.hullTo ds m) (ds[m + 1]?.getD []) H1 u v Z w h1 h2 (HTW m hm).out HZ.out e)
  clear hD hZ h2
  go_wp2
  go_loopw [5, 22] (fun u i wq => ∃ m : Nat, m ≤ D ∧ i = .int .i64 m ∧ Ls wq.heap.size wq u (Um.hullTo ds m) ∧ Below wn.heap.size wn wq ∧ Hid (0 < m → ∀ g, u.ownBlock = some g → w.heap.size ≤ g)) (fun _ i _ => D - (intOf i).toNat)
  case atStart => exact ⟨0, Nat.zero_le _, rfl, HE0.out, Below.refl _ _, fun h => absurd h (Nat.lt_irrefl _)⟩
  case round =>
    clear HE0
    obtain ⟨m, hm, rfl, hu, hB, hnw⟩ := hrel
    obtain ⟨a2, c2, e2, -⟩ := (id hu)
    obtain ⟨n2, hn2⟩ : ∃ n2, n2 = (Um.hullTo ds m).length := ⟨_, rfl⟩
    rw [← hn2] at e2
    subst e2
    clear hn2
    by_cases hml : m < D
    · have hmm : (m : Int) < (D : Int) := by omega
      have hm1 : m + 1 < ds.length := by rw [← HD.out]; omega
      obtain ⟨x6, p6, e6⟩ := HN6.out (m + 1) hm1
      rw [show o6 + (m + 1) = o6 + 1 + m by omega] at p6
      have y6 := (hB.cell (p := ⟨b6, o6 + 1 + m, none⟩) m6).trans p6
      have hbx := (e6.keep hB).wide hB.size
      obtain ⟨H1, hH1⟩ : ∃ H1, H1 = Um.hullTo ds (m + 1) := ⟨_, rfl⟩
      have HHU := HHN m hm1 H1 hH1
      have HH1 := hid hH1
      generalize ds[m + 1]?.getD [] = bx at *
      obtain ⟨a9, c9, e9, -⟩ := (id hbx)
      obtain ⟨n9, hn9⟩ : ∃ n9, n9 = bx.length := ⟨_, rfl⟩
      rw [← hn9] at e9
      subst e9
      clear HTW p6 hn9 e6 hH1 HHN hnw
      go_wp2_with (go_at_call 29; refine (HHU _ _ _ hu hbx).out.mono ?_; rintro e wk ⟨r2, rfl, hr2, hb2, hn2⟩; obtain ⟨a3, c3, e3, -⟩ := (id hr2); subst e3; have HN2 := hid (fun g eg => Nat.le_trans (Nat.le_trans hB0.size hB.size) (hn2 g eg)); replace hB := hB.trans (hb2.mono hB.size); clear HHU y6 hn2)
      refine ⟨⟨m + 1, hml, by simp, ?_, hB, fun _ => HN2.out⟩, by simp [intOf]; omega⟩
      rw [← HH1.out]
      exact hr2
    · obtain rfl : m = D := by omega
      have HU := hid hu
      clear hu HHN HTW HN6
      go_wp2
      go_returns
      rw [HF.out.1, HF.out.2, ← HD.out]
      exact ⟨_, by rw [errV_none]; rfl, HU.out, hB0.trans (hB.mono hB0.size), hnw.out hDp⟩
end Go.Proofs.YthgehlonjoafmaaDoor
