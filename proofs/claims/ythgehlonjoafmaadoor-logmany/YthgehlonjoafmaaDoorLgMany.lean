/-
  The walk over 'spanlaw4.LogMany': for all n it returns true.
-/
import Derived.Test.YthgehlonjoafmaaDoorLogC
import Derived.Test.YthgehlonjoafmaaDoorLogR
import Derived.Test.YthgehlonjoafmaaDoorSame
import Derived.LoopTactic
import Derived.Deep.CutRange
namespace Go.Proofs.YthgehlonjoafmaaDoor.LgMany
set_option linter.unusedSimpArgs false
open Go.RowKit

def manyD (i : Nat) : List (List (Int × Int)) := (List.range (min i 20)).map (fun (j : Nat) => [((j : Int), (j : Int))])
def manyS (i : Nat) : Um.LogS := ⟨1, manyD i, [], 0, -1, false⟩
theorem many_len (i : Nat) : (manyD i).length = min i 20 := by unfold manyD; rw [List.length_map, List.length_range]
theorem many_yes {i : Nat} (h : i < 20) : Um.putF (manyS i) [((i : Int), (i : Int))] = 0 ∧ Um.putS (manyS i) [((i : Int), (i : Int))] = manyS (i + 1) := by
  have hb : Um.boxF [((i : Int), (i : Int))] = 0 := Um.box_of (by simp) (by simp) (fun j hj => by
    obtain rfl : j = 0 := by simpa using hj
    show Um.chk (i : Int) (i : Int) = 0
    refine Um.chk_ok.2 ⟨?_, ?_, Int.le_refl _⟩ <;> (unfold Um.may; rw [decide_eq_true (by omega), decide_eq_true (by omega)]; rfl))
  have hr : Um.refF (manyS i) [((i : Int), (i : Int))] = 0 := Um.ref_ok.2 ⟨rfl, by show (manyD i).length < 20; rw [many_len]; omega, hb, rfl⟩
  obtain ⟨e1, e2⟩ := Um.put_yes hr (show ¬ (manyS i).left = 0 by show ¬ (-1 : Int) = 0; decide)
  refine ⟨e1, ?_⟩
  rw [e2]
  unfold manyS
  have e3 : manyD (i + 1) = manyD i ++ [[((i : Int), (i : Int))]] := by
    unfold manyD
    rw [show min (i + 1) 20 = min i 20 + 1 by omega, List.range_succ, List.map_append, show min i 20 = i by omega]
    rfl
  rw [e3]
  rfl
theorem many_no {i : Nat} (h : 20 ≤ i) : Um.putF (manyS i) [((i : Int), (i : Int))] = 4 ∧ Um.putS (manyS i) [((i : Int), (i : Int))] = manyS (i + 1) := by
  have hl : (manyS i).done.length = 20 := by show (manyD i).length = 20; rw [many_len]; omega
  have hr : Um.refF (manyS i) [((i : Int), (i : Int))] = 4 := by
    unfold Um.refF
    rw [if_neg (show ¬ (manyS i).stop = true by show ¬ false = true; decide), if_pos (by rw [hl]; decide)]
  obtain ⟨e1, e2⟩ := Um.put_not (s := manyS i) (b := [((i : Int), (i : Int))]) (by rw [hr]; decide)
  refine ⟨by rw [e1, hr], ?_⟩
  rw [e2]
  unfold manyS manyD
  rw [show min (i + 1) 20 = min i 20 by omega]
theorem many_hull : ∀ n, n < 31 → 0 < n → Um.hullF (manyD n) = [(0, ((min n 20 : Nat) : Int) - 1)] ∧ Um.hullE (manyD n) = 0 := by decide +kernel
theorem ls_lit {w : World} {b cap : Nat} {T : TypeId} (lo hi : Int) (hb : b = w.heap.size) (hc : 1 ≤ cap) : Ls (w.alloc (.cells #[.int .i64 lo, .int .i64 hi] T)).heap.size (w.alloc (.cells #[.int .i64 lo, .int .i64 hi] T)) (.slice (some ⟨b, 0, none⟩) 1 cap) [(lo, hi)] := by
  subst hb
  have h := Blk.new w T #[.int .i64 lo, .int .i64 hi]
  refine ⟨_, cap, rfl, hc, .inr ⟨w.heap.size, 0, rfl, h.lt, fun j hj => ?_⟩⟩
  obtain rfl : j = 0 := by simpa using hj
  exact ⟨h.cell 0 rfl, h.cell 1 rfl⟩

set_option maxRecDepth 100000 in
set_option maxHeartbeats 16000000 in
theorem walk_out (n : Int) (w : World) (h : n < 0 ∨ 30 < n) :
    Calls Tryd.prog 4 #[.int .i64 n] w fun e w' => e = .returned (.bool true) ∧ Below w.heap.size w w' := by
  have ve := errV_none
  have q1 := errG
  have q2 := errGn
  have q3 := errE
  have q4 := errN
  obtain ⟨K, hK⟩ : ∃ K : Int, K = 0 := ⟨_, rfl⟩
  have HNW := hid (logNew_yes 1 K w (by decide) (by decide) hK)
  have kK : (K != 0) = false := by simpa using hK
  have kK2 : (K == 0) = true := by simpa using hK
  clear hK
  have d0 : (decide (n < 0) || decide (30 < n)) = true := by
    rcases h with h | h
    · rw [decide_eq_true h]; rfl
    · rw [decide_eq_true h, Bool.or_true]
  by_cases h0 : n < 0
  · have d1 : decide (n < 0) = true := decide_eq_true h0
    clear d0 h
    go_enter Tryd.func4, Tryd.ntmps4
    go_wp2_with fail
    refine HNW.out.mono ?_
    rintro e wn ⟨p, rfl, hp, hL, hB⟩
    clear HNW
    go_wp2
    go_returns
    exact ⟨rfl, hB⟩
  · have d1 : decide (n < 0) = false := decide_eq_false h0
    have d2 : decide (30 < n) = true := decide_eq_true (by omega)
    clear d0 h
    go_enter Tryd.func4, Tryd.ntmps4
    go_wp2_with fail
    refine HNW.out.mono ?_
    rintro e wn ⟨p, rfl, hp, hL, hB⟩
    clear HNW
    go_wp2
    go_returns
    exact ⟨rfl, hB⟩

set_option maxRecDepth 100000 in
set_option maxHeartbeats 16000000 in
theorem walk_in (n : Nat) (w : World) (hg : HasErr w) (h : n ≤ 30) :
    Calls Tryd.prog 4 #[.int .i64 n] w fun e w' => e = .returned (.bool true) ∧ Below w.heap.size w w' := by
  have ve := errV_none
  have q1 := errG
  have q2 := errGn
  have q3 := errE
  have q4 := errN
  obtain ⟨K, hK⟩ : ∃ K : Int, K = 0 := ⟨_, rfl⟩
  have HNW := hid (logNew_yes 1 K w (by decide) (by decide) hK)
  have kK : (K != 0) = false := by simpa using hK
  have kK2 : (K == 0) = true := by simpa using hK
  clear hK
  have d1 : decide ((n : Int) < 0) = false := decide_eq_false (by omega)
  have d2 : decide ((30 : Int) < (n : Int)) = false := decide_eq_false (by omega)
  go_enter Tryd.func4, Tryd.ntmps4
  go_wp2_with fail
  refine HNW.out.mono ?_
  rintro e wn ⟨p, rfl, hp, hL, hB⟩
  clear HNW
  go_wp2
  have HL0 : Hid (∃ k, Lg w.heap.size wn p k (manyS 0)) := hid ⟨_, hL⟩
  clear hL
  go_loopw [5] (fun j wr => ∃ i : Nat, i ≤ n ∧ j = .int .i64 i ∧ (∃ k, Lg w.heap.size wr p k (manyS i)) ∧ Below w.heap.size w wr) (fun j _ => n - (intOf j).toNat)
  case atStart => exact ⟨0, Nat.zero_le _, rfl, HL0.out, hB⟩
  case round =>
    clear HL0 hB
    obtain ⟨i, hi, rfl, ⟨k, hL⟩, hB⟩ := hrel
    by_cases hil : i < n
    · have hii : (i : Int) < (n : Int) := by omega
      have HPU := fun v W hL hs => hid (lgPut w.heap.size p k (manyS i) [((i : Int), (i : Int))] v W hL hs)
      have hL2 := hL.step ((Below.refl _ _).alloc (Nat.le_refl _) (.cells #[.int .i64 (i : Int), .int .i64 (i : Int)] 28))
      clear hL
      by_cases h20 : i < 20
      · obtain ⟨e1, e2⟩ := many_yes h20
        have kP : (Um.putF (manyS i) [((i : Int), (i : Int))] == 0) = true := by rw [e1]; rfl
        have kP2 : (Um.putF (manyS i) [((i : Int), (i : Int))] != 0) = false := by rw [e1]; rfl
        have d3 : decide ((i : Int) < 20) = true := decide_eq_true (by omega)
        have HE2 := hid e2
        clear e1 e2
        generalize Um.putF (manyS i) [((i : Int), (i : Int))] = P at *
        go_wp2_with fail
        refine (HPU _ _ hL2 (ls_lit (i : Int) (i : Int) rfl (by decide))).out.mono ?_
        rintro e wp ⟨k2, rfl, hL3, hW⟩
        replace hB := (hB.alloc hB.size _).trans (hL2.below hW)
        rw [HE2.out] at hL3
        clear HPU hL2 hW
        go_wp2
        exact ⟨⟨i + 1, hil, by simp, ⟨k2, hL3⟩, hB⟩, by simp [intOf]; omega⟩
      · obtain ⟨e1, e2⟩ := many_no (show 20 ≤ i by omega)
        have kP : (Um.putF (manyS i) [((i : Int), (i : Int))] == 0) = false := by rw [e1]; rfl
        have kP2 : (Um.putF (manyS i) [((i : Int), (i : Int))] != 0) = true := by rw [e1]; rfl
        have kP4 : (Um.putF (manyS i) [((i : Int), (i : Int))] == 4) = true := by rw [e1]; rfl
        have d3 : decide ((i : Int) < 20) = false := decide_eq_false (by omega)
        have HE2 := hid e2
        clear e1 e2
        generalize Um.putF (manyS i) [((i : Int), (i : Int))] = P at *
        go_wp2_with fail
        refine (HPU _ _ hL2 (ls_lit (i : Int) (i : Int) rfl (by decide))).out.mono ?_
        rintro e wp ⟨k2, rfl, hL3, hW⟩
        replace hB := (hB.alloc hB.size _).trans (hL2.below hW)
        rw [HE2.out] at hL3
        clear HPU hL2 hW
        go_wp2_with (go_at_call 9; refine (hid (same_any _ _ _ (hg.below (B := w.heap.size) hB hg.size))).out.mono ?_; rintro e wq ⟨rfl, hb⟩; replace hL3 := hL3.step hb; replace hB := hB.trans (hb.mono hB.size); clear hb)
        exact ⟨⟨i + 1, hil, by simp, ⟨k2, hL3⟩, hB⟩, by simp [intOf]; omega⟩
    · obtain rfl : i = n := by omega
      have HHU := fun W hL => hid (lgHull w.heap.size p k (manyS i) W hL)
      have HBY := fun W hL => hid (lgBytes w.heap.size p k (manyS i) W hL)
      have HAL := fun W hL => hid (lgAll w.heap.size p k (manyS i) W hL)
      rw [show (manyS i).done = manyD i from rfl] at HHU HAL
      by_cases h0 : i = 0
      · subst h0
        have e5 : Um.hullE (manyD 0) = 5 := rfl
        have kE : (Um.hullE (manyD 0) == 5) = true := by rw [e5]; rfl
        have HBZ : Hid ((manyS 0).bytes.length = 0) := hid rfl
        clear e5 HAL
        generalize Um.hullE (manyD 0) = Z at *
        go_wp2_with fail
        refine (HHU _ hL).out.mono ?_
        rintro e wh ⟨r, rfl, hr, hb⟩
        obtain ⟨ar, cr, er, -⟩ := (id hr)
        replace er : r = .slice ar 0 cr := er
        subst er
        have hL3 := hL.step hb
        replace hB := hB.trans (hb.mono hB.size)
        clear hb HHU hL hr
        go_wp2_with (first | (go_at_call 9; refine (hid (same_any _ _ _ (hg.below (B := w.heap.size) hB hg.size))).out.mono ?_; rintro e wq ⟨rfl, hb⟩; replace hL3 := hL3.step hb; replace hB := hB.trans (hb.mono hB.size); clear hb) | (go_at_call 15; refine (HBY _ hL3).out.mono ?_; rintro e wz ⟨rfl, hq⟩; subst wz; rw [HBZ.out]; clear HBY))
        go_returns
        exact ⟨rfl, hB⟩
      · obtain ⟨e1, e2⟩ := many_hull i (by omega) (by omega)
        have kE : (Um.hullE (manyD i) == 0) = true := by rw [e2]; rfl
        have HE1 := hid e1
        have HLN := hid (many_len i)
        have d0 : ((i : Int) == 0) = false := beq_false_of_ne (by omega)
        clear e1 e2 HBY
        generalize Um.hullE (manyD i) = Z at *
        obtain ⟨k9, hk9⟩ : ∃ k9, k9 = min i 20 := ⟨_, rfl⟩
        rw [← hk9] at HE1 HLN
        go_wp2_with fail
        refine (HHU _ hL).out.mono ?_
        rintro e wh ⟨r, rfl, hr, hb⟩
        rw [HE1.out] at hr
        obtain ⟨bh, oh, ch, eh, -, hA⟩ := hr.open (by simp)
        replace eh : r = .slice (some ⟨bh, oh, none⟩) 1 ch := eh
        subst eh
        have y0 := hA.lo 0 rfl rfl
        have y1 := hA.hi 0 rfl rfl
        simp only [Nat.zero_mul, Nat.add_zero] at y0 y1
        have hL3 := hL.step hb
        replace hB := hB.trans (hb.mono hB.size)
        clear hb HHU hL hr hA
        by_cases h20 : 20 < i
        · have d3 : decide ((20 : Int) < (i : Int)) = true := decide_eq_true (by omega)
          obtain rfl : k9 = 20 := by omega
          clear hk9
          go_wp2_with (go_at_call 12; refine (HAL _ hL3).out.mono ?_; rintro e wz ⟨r2, rfl, hr2, hb⟩; replace hB := hB.trans (hb.mono hB.size); obtain ⟨a2, c2, e2, -⟩ := (id hr2); rw [HLN.out] at e2; subst e2; clear HAL hb)
          go_returns
          exact ⟨rfl, hB⟩
        · have d3 : decide ((20 : Int) < (i : Int)) = false := decide_eq_false (by omega)
          obtain rfl : k9 = i := by omega
          clear hk9
          go_wp2_with (go_at_call 12; refine (HAL _ hL3).out.mono ?_; rintro e wz ⟨r2, rfl, hr2, hb⟩; replace hB := hB.trans (hb.mono hB.size); obtain ⟨a2, c2, e2, -⟩ := (id hr2); rw [HLN.out] at e2; subst e2; clear HAL hb)
          go_returns
          exact ⟨rfl, hB⟩

theorem walk (n : Int) (w : World) (hg : HasErr w) :
    Calls Tryd.prog 4 #[.int .i64 n] w fun e w' => e = .returned (.bool true) ∧ Below w.heap.size w w' := by
  by_cases h : n < 0 ∨ 30 < n
  · exact walk_out n w h
  · obtain ⟨m, rfl⟩ := Int.eq_ofNat_of_zero_le (show 0 ≤ n by omega)
    exact walk_in m w hg (by omega)
end Go.Proofs.YthgehlonjoafmaaDoor.LgMany
