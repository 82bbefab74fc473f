/-
  What package run makes of the words of a line: where a polynomial may be nought.
-/
import Derived.Test.YtkfalmdckmlneaaGreatDoorRunP
namespace Go.Proofs.YtkfalmdckmlneaaGreatDoor
set_option linter.unusedSimpArgs false
open Go.RowKit Go.Shelf

theorem lx_three {w : World} {v : Value} {x y z : List UInt8} (h : Lx w.heap.size w v [x, y, z]) : ∃ b off cap, v = .slice (some ⟨b, off, none⟩) 3 cap ∧ 3 ≤ cap ∧ b < w.heap.size ∧ w.cell? ⟨b, off, none⟩ = some (strV x) ∧ w.cell? ⟨b, off + 1, none⟩ = some (strV y) ∧ w.cell? ⟨b, off + 2, none⟩ = some (strV z) := by
  obtain ⟨b, off, cap, rfl, hc, hb, hh⟩ := h.open (by simp)
  exact ⟨b, off, cap, rfl, hc, hb, hh 0 (by simp), hh 1 (by simp), hh 2 (by simp)⟩
theorem number_l_yes (u : List UInt8) (w : World) (hu : u.length ≤ 3000) (hm : HasLen w) (h : (Um.parseR u).2 = 0) : Calls Tryz.prog 99 #[strV u] w fun e w' => e = .returned (.tuple #[.int .i64 (Um.parseR u).1, .nilIface]) ∧ Below w.heap.size w w' := by
  have := number_yes ⟨u.toArray⟩ w (by rw [str_size]; exact hu) hm (by simpa using h)
  simpa using this
theorem number_l_no (u : List UInt8) (w : World) (hu : u.length ≤ 3000) (hm : HasLen w) (h : ¬ (Um.parseR u).2 = 0) : Calls Tryz.prog 99 #[strV u] w fun e w' => ∃ k, e = .returned (.tuple #[.int .i64 0, unV k]) ∧ Below w.heap.size w w' :=
  number_no ⟨u.toArray⟩ w (by rw [str_size]; exact hu) hm (by simpa using h)
theorem rootsOf_len (v : Value) (g : List (List UInt8)) (w : World) (hl : Lx w.heap.size w v g) (h : ¬ g.length = 3) :
    Calls Tryz.prog 66 #[v] w fun e w' => AskTold (Um.askRoots g) w e w' := by
  have ho : Um.askRoots g = none := by unfold Um.askRoots; split <;> simp_all
  obtain ⟨a, cap, rfl⟩ := lx_slice hl
  have n2 : ((g.length : Int) != 3) = true := by simp; omega
  have h3 : ¬ (g.length : Int) = 3 := by omega
  have HO := hid ho
  clear hl ho
  generalize g.length = n at *
  go_enter Tryz.func66, Tryz.ntmps66
  go_wp2
  go_ret2
  exact ask_not HO.out (Below.refl _ _)
set_option maxRecDepth 100000 in
set_option maxHeartbeats 8000000 in
theorem rootsOf_three (v : Value) (p x u : List UInt8) (w : World) (hl : Lx w.heap.size w v [p, x, u]) (hp : p.length ≤ 3000) (hx : x.length ≤ 3000) (hu : u.length ≤ 3000) (hm : HasLen w) :
    Calls Tryz.prog 66 #[v] w fun e w' => AskTold (Um.askRoots [p, x, u]) w e w' := by
  have q1 := errG
  have q2 := errGn
  have q3 := errE
  have q4 := errN
  have ho : Um.askRoots [p, x, u] = if PoOk p x = true ∧ (Um.parseR u).2 = 0 then some (Um.findAll (Um.numsL p) (Um.spL x).1 (Um.spL x).2 (Um.parseR u).1) else none := by
    show (if Um.numsOk p = true ∧ Um.spOk x = true ∧ (Um.parseR u).2 = 0 then _ else _) = _
    unfold PoOk
    simp only [Bool.and_eq_true, and_assoc]
  obtain ⟨b, off, cap, rfl, hcap, hlt, c0, c1, c2⟩ := lx_three hl
  have HP := fun W (hW : Below w.heap.size w W) => hid (poly_res p x W hp hx (hm.below hW hm.size))
  have HO := hid ho
  have HT := fun rr w hl => hid (find_any (Um.numsL p) rr (Um.spL x).1 (Um.spL x).2 (Um.parseR u).1 w hl)
  have HM := hid hm
  have C2 := hid c2
  have HU := hid hu
  clear hl ho hp hx hm c2 hu
  go_enter Tryz.func66, Tryz.ntmps66
  go_upto_region 3 with fail
  go_cut [4, 5, 6] from 14 to 24 (fun v6 v7 v8 wr => ∃ c lo hi, v7 = .pointer (some ⟨c, 0, none⟩) ∧ Fr w wr [(c, lo, hi)] ∧ PoRes p x w.heap.size v6 lo hi v8 wr)
  case first =>
    go_region_with (go_at_call 95; first | (refine (HP _ (show Below w.heap.size w (w.alloc (.cells #[.int .i64 0, .int .i64 0] 29)).drew by go_grown)).out.mono ?_; rintro e w1 ⟨rr, lo, hi, er, rfl, hb, hr⟩; have hF := Fr.step (show Fr w (w.alloc (.cells #[.int .i64 0, .int .i64 0] 29)).drew [(w.heap.size, 0, 0)] from (Fr.push (Fr.start w) 0 0 (b := w.heap.size) rfl).step (Below.refl _ _).drew) hb; have hS := hF.at 0 rfl; have y1 := hS.fl; have y2 := hS.fh; have y3 := hS.lo; have y4 := hS.hi) | (refine (HP _ (show Below w.heap.size w w.drew by go_grown)).out.mono ?_; rintro e w1 ⟨rr, lo, hi, er, rfl, hb, hr⟩; have hF := Fr.step (show Fr w w.drew [] from (Fr.start w).step (Below.refl _ _).drew) hb))
    all_goals go_wp2
    all_goals go_meet
    all_goals first
      | (case rel => exact ⟨_, lo, hi, rfl, hF.push lo hi rfl, hr.alloc (Nat.le_refl _) _⟩)
      | (case rel => exact ⟨_, lo, hi, rfl, hF.put 0 rfl lo hi rfl, hr.put (by simp) (by simp) _ _⟩)
  case rest =>
    obtain ⟨c, lo, hi, rfl, hF, hr⟩ := hcut
    have x0l := (hF.at 0 rfl).lo; have x0h := (hF.at 0 rfl).hi
    cases hok : PoOk p x
    · obtain ⟨k, rfl⟩ := hr.2 hok
      have HN := hid (HO.out.trans (if_neg (by rw [hok]; simp)))
      clear hr hok HP HT
      go_wp2
      go_ret2
      exact ask_not HN.out hF.below
    · obtain ⟨rfl, rfl, rfl, hro⟩ := hr.1 hok
      have c2 := (hF.below.cell (p := ⟨b, off + 2, none⟩) hlt).trans C2.out
      have hmW := HM.out.below hF.below HM.out.size
      by_cases h0 : (Um.parseR u).2 = 0
      · have HN := hid (HO.out.trans (if_pos ⟨hok, h0⟩))
        have HY := hid (number_l_yes u _ HU.out hmW h0)
        have hli := li_owns hro
        clear hr hok HP HO h0 hro
        generalize Um.findAll (Um.numsL p) (Um.spL x).1 (Um.spL x).2 (Um.parseR u).1 = r at *
        generalize (Um.parseR u).1 = least at *
        go_wp2_with (first | (go_at_call 99; refine HY.out.mono ?_; rintro e w3 ⟨rfl, hb⟩; replace hF := hF.step hb; replace hli := (hli.keep hb).wide hb.size; clear hb; have x0l := (hF.at 0 rfl).lo; have x0h := (hF.at 0 rfl).hi) | (go_at_call 100; refine (HT _ _ hli).out.mono ?_; rintro e w4 ⟨z, rfl, hz, hb⟩; replace hF := hF.step hb; clear hb))
        go_ret2
        exact ask_yes HN.out hF.below hz
      · have HN := hid (HO.out.trans (if_neg (fun h => h0 h.2)))
        have HY := hid (number_l_no u _ HU.out hmW h0)
        clear hr hok HP HO h0 hro HT
        go_wp2_with (go_at_call 99; refine HY.out.mono ?_; rintro e w3 ⟨k, rfl, hb⟩; replace hF := hF.step hb; clear hb)
        go_ret2
        exact ask_not HN.out hF.below
theorem rootsOf_any (v : Value) (g : List (List UInt8)) (w : World) (hl : Lx w.heap.size w v g) (hg : ∀ x ∈ g, x.length ≤ 3000) (hm : HasLen w) :
    Calls Tryz.prog 66 #[v] w fun e w' => AskTold (Um.askRoots g) w e w' := by
  by_cases h : g.length = 3
  · obtain ⟨x, y, z, rfl⟩ := len_three h
    exact rootsOf_three v x y z w hl (hg x (by simp)) (hg y (by simp)) (hg z (by simp)) hm
  · exact rootsOf_len v g w hl h
end Go.Proofs.YtkfalmdckmlneaaGreatDoor
