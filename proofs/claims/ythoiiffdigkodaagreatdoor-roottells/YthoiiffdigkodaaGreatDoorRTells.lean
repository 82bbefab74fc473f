/-
  The walk over 'spanlaw1.RootTells': for all p, x, least it returns true.
-/
import Derived.Test.YthoiiffdigkodaaGreatDoorRefRoot
import Derived.Test.YthoiiffdigkodaaGreatDoorRefPoly
import Derived.Test.YthoiiffdigkodaaGreatDoorRefSplit
import Derived.Test.YthoiiffdigkodaaGreatDoorRootF
import Derived.Test.YthoiiffdigkodaaGreatDoorSame
namespace Go.Proofs.YthoiiffdigkodaaGreatDoor.RTells
set_option linter.unusedSimpArgs false
open Go.RowKit

theorem not_over {p : List Int} {lo hi : Int} (h : ¬ Um.over p lo hi = 0) : Um.monoAll p lo hi = (0, 0, Um.over p lo hi) ∧ Um.mayB p lo hi = false ∧ Um.sureB p lo hi = false := by
  have e : Um.monoAll p lo hi = (0, 0, Um.over p lo hi) := by unfold Um.monoAll; rw [if_neg h]
  refine ⟨e, ?_, ?_⟩
  · unfold Um.mayB; rw [e]; simp [h]
  · unfold Um.sureB; rw [e]; simp [h]

set_option maxRecDepth 100000 in
set_option maxHeartbeats 8000000 in
theorem walk_over (p : List Int) (v : Value) (lo hi least : Int) (w : World) (hl : Li w.heap.size w v p) (hg : HasErr w) (ho : ¬ Um.over p lo hi = 0) :
    Calls Tryz.prog 4 #[v, .agg #[.int .i64 lo, .int .i64 hi], .int .i64 least] w fun e w' => e = .returned (.bool true) ∧ Below w.heap.size w w' := by
  have v0 := errV_none
  have q1 := errG
  have q2 := errGn
  have q3 := errE
  have q4 := errN
  have HO := fun w hl => hid (rOver_any p v lo hi w hl)
  have HM := fun w hl => hid (may_any p v lo hi w hl)
  have HF := fun w hl => hid (find_any p v lo hi least w hl)
  have HU := fun w hl => hid (sure_any p v lo hi w hl)
  obtain ⟨e1, e2, e3⟩ := not_over ho
  rw [e1, e2] at HM
  rw [e1, e3] at HU
  rw [Um.find_over ho] at HF
  have k : (Um.over p lo hi == 0) = false := by simpa using ho
  clear ho e1 e2 e3
  generalize Um.over p lo hi = G at *
  have hF := (Fr.start w).push lo hi rfl
  have x0l := (hF.at 0 rfl).lo
  have x0h := (hF.at 0 rfl).hi
  obtain ⟨a0, cap0, rfl, -⟩ := (id hl)
  go_enter Tryz.func4, Tryz.ntmps4
  go_wp2_with (first | (go_at_call 10; refine (HO _ (hF.li hl)).out.mono ?_; rintro e wn ⟨rfl, hb⟩; replace hF := hF.step hb; (first | (replace hs := hs.step hb; replace hs2 := hs2.step hb) | (replace hs2 := hs2.step hb) | (replace hs := hs.step hb) | skip); clear hb; clear x0l x0h; have x0l := (hF.at 0 rfl).lo; have x0h := (hF.at 0 rfl).hi) | (go_at_call 15; refine (HM _ (hF.li hl)).out.mono ?_; rintro e wn ⟨rfl, hb⟩; replace hF := hF.step hb; (first | (replace hs := hs.step hb; replace hs2 := hs2.step hb) | (replace hs2 := hs2.step hb) | (replace hs := hs.step hb) | skip); clear hb; clear x0l x0h; have x0l := (hF.at 0 rfl).lo; have x0h := (hF.at 0 rfl).hi) | (go_at_call 8; refine (hid (same_any _ _ _ (hg.below (B := w.heap.size) hF.below hg.size))).out.mono ?_; rintro e wn ⟨rfl, hb⟩; replace hF := hF.step hb; (first | (replace hs := hs.step hb; replace hs2 := hs2.step hb) | (replace hs2 := hs2.step hb) | (replace hs := hs.step hb) | skip); clear hb; clear x0l x0h; have x0l := (hF.at 0 rfl).lo; have x0h := (hF.at 0 rfl).hi) | (go_at_call 17; refine (HF _ (hF.li hl)).out.mono ?_; rintro e wn ⟨u2, rfl, hs2, hb⟩; replace hF := hF.step hb; (first | (replace hs := hs.step hb) | skip); clear hb; clear x0l x0h; have x0l := (hF.at 0 rfl).lo; have x0h := (hF.at 0 rfl).hi; obtain ⟨a2, cap2, rfl, -⟩ := (id hs2)) | (go_at_call 9; refine (hid (box_same [] _ _ _ hs2 (Ls.nil _ _) (by simp))).out.mono ?_; rintro e wn ⟨rfl, hb⟩; clear hs2; replace hF := hF.step hb; (first | (replace hs := hs.step hb; replace hs2 := hs2.step hb) | (replace hs2 := hs2.step hb) | (replace hs := hs.step hb) | skip); clear hb; clear x0l x0h; have x0l := (hF.at 0 rfl).lo; have x0h := (hF.at 0 rfl).hi) | (go_at_call 19; refine (HU _ (hF.li hl)).out.mono ?_; rintro e wn ⟨rfl, hb⟩; replace hF := hF.step hb; (first | (replace hs := hs.step hb; replace hs2 := hs2.step hb) | (replace hs2 := hs2.step hb) | (replace hs := hs.step hb) | skip); clear hb; clear x0l x0h; have x0l := (hF.at 0 rfl).lo; have x0h := (hF.at 0 rfl).hi))
  go_returns
  exact ⟨rfl, hF.below⟩

set_option maxRecDepth 100000 in
set_option maxHeartbeats 8000000 in
theorem walk_yes_low (p : List Int) (v : Value) (lo hi least : Int) (w : World) (hl : Li w.heap.size w v p) (hg : HasErr w) (ho : Um.over p lo hi = 0) (hm : (Um.monoR lo hi p).2.2 = 0) (h1 : least < 1) :
    Calls Tryz.prog 4 #[v, .agg #[.int .i64 lo, .int .i64 hi], .int .i64 least] w fun e w' => e = .returned (.bool true) ∧ Below w.heap.size w w' := by
  have v0 := errV_none
  have q1 := errG
  have q2 := errGn
  have q3 := errE
  have q4 := errN
  have HO := fun w hl => hid (rOver_any p v lo hi w hl)
  have HM := fun w hl => hid (may_any p v lo hi w hl)
  have HF := fun w hl => hid (find_any p v lo hi least w hl)
  have HU := fun w hl => hid (sure_any p v lo hi w hl)
  have HR := fun w hl => hid (rRange_any p v lo hi w hl ho)
  have HV := fun w hl => hid (rSure_any p v lo hi w hl ho)
  have eM : Um.monoAll p lo hi = Um.monoR lo hi p := by unfold Um.monoAll; rw [if_pos ho]
  have eB : Um.mayB p lo hi = (decide ((Um.monoR lo hi p).2.2 = 0) && (decide ((Um.monoR lo hi p).1 ≤ 0) && decide (0 ≤ (Um.monoR lo hi p).2.1))) := by unfold Um.mayB; rw [eM]
  have HZ := fun w => hid (rZero_any (Um.monoR lo hi p).1 (Um.monoR lo hi p).2.1 w)
  rw [hm, show decide ((0 : Int) = 0) = true from rfl, Bool.true_and] at eB
  have km : ((Um.monoR lo hi p).2.2 == 0) = true := by simpa using hm
  rw [eM, eB] at HM
  rw [eM] at HU
  rw [Um.find_least ho (by omega)] at HF
  have t1 : decide (least < 1) = true := by simpa using h1
  have HG : Hid (Um.over p lo hi = 0) := ho
  have kG : (Um.over p lo hi == 0) = true := by simpa using ho
  clear hm ho eM eB h1
  generalize Um.over p lo hi = G at *
  generalize (decide ((Um.monoR lo hi p).1 ≤ 0) && decide (0 ≤ (Um.monoR lo hi p).2.1)) = Y at *
  generalize Um.monoR lo hi p = M at *
  generalize Um.sureB p lo hi = Z at *
  have hF := (Fr.start w).push lo hi rfl
  have x0l := (hF.at 0 rfl).lo
  have x0h := (hF.at 0 rfl).hi
  obtain ⟨a0, cap0, rfl, -⟩ := (id hl)
  go_enter Tryz.func4, Tryz.ntmps4
  go_wp2_with (first | (go_at_call 10; refine (HO _ (hF.li hl)).out.mono ?_; rintro e wn ⟨rfl, hb⟩; replace hF := hF.step hb; (first | (replace hs := hs.step hb; replace hs2 := hs2.step hb) | (replace hs2 := hs2.step hb) | (replace hs := hs.step hb) | skip); clear hb; clear x0l x0h; have x0l := (hF.at 0 rfl).lo; have x0h := (hF.at 0 rfl).hi) | (go_at_call 11; refine (HR _ (hF.li hl)).out.mono ?_; rintro e wn ⟨rfl, hb⟩; replace hF := hF.step hb; clear hb; clear x0l x0h; replace hF := hF.push M.1 M.2.1 rfl; have x0l := (hF.at 0 rfl).lo; have x0h := (hF.at 0 rfl).hi; have x1l := (hF.at 1 rfl).lo; have x1h := (hF.at 1 rfl).hi) | (go_at_call 14; refine (HZ _).out.mono ?_; rintro e wa ⟨rfl, rfl⟩; replace hF := hF.alloc (.cells #[.int .i64 M.1, .int .i64 M.2.1] 24); clear x0l x0h x1l x1h; have x1l := (hF.at 1 rfl).lo; have x1h := (hF.at 1 rfl).hi) | (go_at_call 15; refine (HM _ (hF.li hl)).out.mono ?_; rintro e wn ⟨rfl, hb⟩; replace hF := hF.step hb; (first | (replace hs := hs.step hb; replace hs2 := hs2.step hb) | (replace hs2 := hs2.step hb) | (replace hs := hs.step hb) | skip); clear hb; clear x1l x1h; have x1l := (hF.at 1 rfl).lo; have x1h := (hF.at 1 rfl).hi) | (go_at_call 8; refine (hid (same_any _ _ _ (hg.below (B := w.heap.size) hF.below hg.size))).out.mono ?_; rintro e wn ⟨rfl, hb⟩; replace hF := hF.step hb; (first | (replace hs := hs.step hb; replace hs2 := hs2.step hb) | (replace hs2 := hs2.step hb) | (replace hs := hs.step hb) | skip); clear hb; clear x1l x1h; have x1l := (hF.at 1 rfl).lo; have x1h := (hF.at 1 rfl).hi) | (go_at_call 17; refine (HF _ (hF.li hl)).out.mono ?_; rintro e wn ⟨u2, rfl, hs2, hb⟩; replace hF := hF.step hb; (first | (replace hs := hs.step hb) | skip); clear hb; clear x1l x1h; have x1l := (hF.at 1 rfl).lo; have x1h := (hF.at 1 rfl).hi; obtain ⟨a2, cap2, rfl, -⟩ := (id hs2)) | (go_at_call 9; refine (hid (box_same [] _ _ _ hs2 (Ls.nil _ _) (by simp))).out.mono ?_; rintro e wn ⟨rfl, hb⟩; clear hs2; replace hF := hF.step hb; (first | (replace hs := hs.step hb; replace hs2 := hs2.step hb) | (replace hs2 := hs2.step hb) | (replace hs := hs.step hb) | skip); clear hb; clear x1l x1h; have x1l := (hF.at 1 rfl).lo; have x1h := (hF.at 1 rfl).hi) | (go_at_call 18; refine (HV _ (hF.li hl)).out.mono ?_; rintro e wn ⟨rfl, hb⟩; replace hF := hF.step hb; (first | (replace hs := hs.step hb; replace hs2 := hs2.step hb) | (replace hs2 := hs2.step hb) | (replace hs := hs.step hb) | skip); clear hb; clear x1l x1h; have x1l := (hF.at 1 rfl).lo; have x1h := (hF.at 1 rfl).hi) | (go_at_call 19; refine (HU _ (hF.li hl)).out.mono ?_; rintro e wn ⟨rfl, hb⟩; replace hF := hF.step hb; (first | (replace hs := hs.step hb; replace hs2 := hs2.step hb) | (replace hs2 := hs2.step hb) | (replace hs := hs.step hb) | skip); clear hb; clear x1l x1h; have x1l := (hF.at 1 rfl).lo; have x1h := (hF.at 1 rfl).hi))
  go_returns
  exact ⟨rfl, hF.below⟩

set_option maxRecDepth 100000 in
set_option maxHeartbeats 8000000 in
theorem walk_yes_high (p : List Int) (v : Value) (lo hi least : Int) (w : World) (hl : Li w.heap.size w v p) (hg : HasErr w) (ho : Um.over p lo hi = 0) (hm : (Um.monoR lo hi p).2.2 = 0) (h1 : ¬ least < 1) (h2 : 1000000000 < least) :
    Calls Tryz.prog 4 #[v, .agg #[.int .i64 lo, .int .i64 hi], .int .i64 least] w fun e w' => e = .returned (.bool true) ∧ Below w.heap.size w w' := by
  have v0 := errV_none
  have q1 := errG
  have q2 := errGn
  have q3 := errE
  have q4 := errN
  have HO := fun w hl => hid (rOver_any p v lo hi w hl)
  have HM := fun w hl => hid (may_any p v lo hi w hl)
  have HF := fun w hl => hid (find_any p v lo hi least w hl)
  have HU := fun w hl => hid (sure_any p v lo hi w hl)
  have HR := fun w hl => hid (rRange_any p v lo hi w hl ho)
  have HV := fun w hl => hid (rSure_any p v lo hi w hl ho)
  have eM : Um.monoAll p lo hi = Um.monoR lo hi p := by unfold Um.monoAll; rw [if_pos ho]
  have eB : Um.mayB p lo hi = (decide ((Um.monoR lo hi p).2.2 = 0) && (decide ((Um.monoR lo hi p).1 ≤ 0) && decide (0 ≤ (Um.monoR lo hi p).2.1))) := by unfold Um.mayB; rw [eM]
  have HZ := fun w => hid (rZero_any (Um.monoR lo hi p).1 (Um.monoR lo hi p).2.1 w)
  rw [hm, show decide ((0 : Int) = 0) = true from rfl, Bool.true_and] at eB
  have km : ((Um.monoR lo hi p).2.2 == 0) = true := by simpa using hm
  rw [eM, eB] at HM
  rw [eM] at HU
  rw [Um.find_least ho (by omega)] at HF
  have t1 : decide (least < 1) = false := by simpa using h1
  have t2 : decide (1000000000 < least) = true := by simpa using h2
  have HG : Hid (Um.over p lo hi = 0) := ho
  have kG : (Um.over p lo hi == 0) = true := by simpa using ho
  clear hm ho eM eB h1 h2
  generalize Um.over p lo hi = G at *
  generalize (decide ((Um.monoR lo hi p).1 ≤ 0) && decide (0 ≤ (Um.monoR lo hi p).2.1)) = Y at *
  generalize Um.monoR lo hi p = M at *
  generalize Um.sureB p lo hi = Z at *
  have hF := (Fr.start w).push lo hi rfl
  have x0l := (hF.at 0 rfl).lo
  have x0h := (hF.at 0 rfl).hi
  obtain ⟨a0, cap0, rfl, -⟩ := (id hl)
  go_enter Tryz.func4, Tryz.ntmps4
  go_wp2_with (first | (go_at_call 10; refine (HO _ (hF.li hl)).out.mono ?_; rintro e wn ⟨rfl, hb⟩; replace hF := hF.step hb; (first | (replace hs := hs.step hb; replace hs2 := hs2.step hb) | (replace hs2 := hs2.step hb) | (replace hs := hs.step hb) | skip); clear hb; clear x0l x0h; have x0l := (hF.at 0 rfl).lo; have x0h := (hF.at 0 rfl).hi) | (go_at_call 11; refine (HR _ (hF.li hl)).out.mono ?_; rintro e wn ⟨rfl, hb⟩; replace hF := hF.step hb; clear hb; clear x0l x0h; replace hF := hF.push M.1 M.2.1 rfl; have x0l := (hF.at 0 rfl).lo; have x0h := (hF.at 0 rfl).hi; have x1l := (hF.at 1 rfl).lo; have x1h := (hF.at 1 rfl).hi) | (go_at_call 14; refine (HZ _).out.mono ?_; rintro e wa ⟨rfl, rfl⟩; replace hF := hF.alloc (.cells #[.int .i64 M.1, .int .i64 M.2.1] 24); clear x0l x0h x1l x1h; have x1l := (hF.at 1 rfl).lo; have x1h := (hF.at 1 rfl).hi) | (go_at_call 15; refine (HM _ (hF.li hl)).out.mono ?_; rintro e wn ⟨rfl, hb⟩; replace hF := hF.step hb; (first | (replace hs := hs.step hb; replace hs2 := hs2.step hb) | (replace hs2 := hs2.step hb) | (replace hs := hs.step hb) | skip); clear hb; clear x1l x1h; have x1l := (hF.at 1 rfl).lo; have x1h := (hF.at 1 rfl).hi) | (go_at_call 8; refine (hid (same_any _ _ _ (hg.below (B := w.heap.size) hF.below hg.size))).out.mono ?_; rintro e wn ⟨rfl, hb⟩; replace hF := hF.step hb; (first | (replace hs := hs.step hb; replace hs2 := hs2.step hb) | (replace hs2 := hs2.step hb) | (replace hs := hs.step hb) | skip); clear hb; clear x1l x1h; have x1l := (hF.at 1 rfl).lo; have x1h := (hF.at 1 rfl).hi) | (go_at_call 17; refine (HF _ (hF.li hl)).out.mono ?_; rintro e wn ⟨u2, rfl, hs2, hb⟩; replace hF := hF.step hb; (first | (replace hs := hs.step hb) | skip); clear hb; clear x1l x1h; have x1l := (hF.at 1 rfl).lo; have x1h := (hF.at 1 rfl).hi; obtain ⟨a2, cap2, rfl, -⟩ := (id hs2)) | (go_at_call 9; refine (hid (box_same [] _ _ _ hs2 (Ls.nil _ _) (by simp))).out.mono ?_; rintro e wn ⟨rfl, hb⟩; clear hs2; replace hF := hF.step hb; (first | (replace hs := hs.step hb; replace hs2 := hs2.step hb) | (replace hs2 := hs2.step hb) | (replace hs := hs.step hb) | skip); clear hb; clear x1l x1h; have x1l := (hF.at 1 rfl).lo; have x1h := (hF.at 1 rfl).hi) | (go_at_call 18; refine (HV _ (hF.li hl)).out.mono ?_; rintro e wn ⟨rfl, hb⟩; replace hF := hF.step hb; (first | (replace hs := hs.step hb; replace hs2 := hs2.step hb) | (replace hs2 := hs2.step hb) | (replace hs := hs.step hb) | skip); clear hb; clear x1l x1h; have x1l := (hF.at 1 rfl).lo; have x1h := (hF.at 1 rfl).hi) | (go_at_call 19; refine (HU _ (hF.li hl)).out.mono ?_; rintro e wn ⟨rfl, hb⟩; replace hF := hF.step hb; (first | (replace hs := hs.step hb; replace hs2 := hs2.step hb) | (replace hs2 := hs2.step hb) | (replace hs := hs.step hb) | skip); clear hb; clear x1l x1h; have x1l := (hF.at 1 rfl).lo; have x1h := (hF.at 1 rfl).hi))
  go_returns
  exact ⟨rfl, hF.below⟩

set_option maxRecDepth 100000 in
set_option maxHeartbeats 8000000 in
theorem walk_yes_ok (p : List Int) (v : Value) (lo hi least : Int) (w : World) (hl : Li w.heap.size w v p) (hg : HasErr w) (ho : Um.over p lo hi = 0) (hm : (Um.monoR lo hi p).2.2 = 0) (h1 : ¬ least < 1) (h2 : ¬ 1000000000 < least) :
    Calls Tryz.prog 4 #[v, .agg #[.int .i64 lo, .int .i64 hi], .int .i64 least] w fun e w' => e = .returned (.bool true) ∧ Below w.heap.size w w' := by
  have v0 := errV_none
  have q1 := errG
  have q2 := errGn
  have q3 := errE
  have q4 := errN
  have HO := fun w hl => hid (rOver_any p v lo hi w hl)
  have HM := fun w hl => hid (may_any p v lo hi w hl)
  have HF := fun w hl => hid (find_any p v lo hi least w hl)
  have HU := fun w hl => hid (sure_any p v lo hi w hl)
  have HR := fun w hl => hid (rRange_any p v lo hi w hl ho)
  have HV := fun w hl => hid (rSure_any p v lo hi w hl ho)
  have eM : Um.monoAll p lo hi = Um.monoR lo hi p := by unfold Um.monoAll; rw [if_pos ho]
  have eB : Um.mayB p lo hi = (decide ((Um.monoR lo hi p).2.2 = 0) && (decide ((Um.monoR lo hi p).1 ≤ 0) && decide (0 ≤ (Um.monoR lo hi p).2.1))) := by unfold Um.mayB; rw [eM]
  have HZ := fun w => hid (rZero_any (Um.monoR lo hi p).1 (Um.monoR lo hi p).2.1 w)
  rw [hm, show decide ((0 : Int) = 0) = true from rfl, Bool.true_and] at eB
  have km : ((Um.monoR lo hi p).2.2 == 0) = true := by simpa using hm
  rw [eM, eB] at HM
  rw [eM] at HU
  have HD := fun w hl => hid (rFind_any p v lo hi least w hl ho (by omega))
  rw [Um.find_good ho (by omega) (by omega)] at HF
  have h32 : (Um.findR p lo hi least).1.length ≤ 1000 := Nat.le_trans (Um.find_length 32 lo hi [] (by simp)) (by decide)
  have t1 : decide (least < 1) = false := by simpa using h1
  have t2 : decide (1000000000 < least) = false := by simpa using h2
  have HG : Hid (Um.over p lo hi = 0) := ho
  have kG : (Um.over p lo hi == 0) = true := by simpa using ho
  clear hm ho eM eB h1 h2
  generalize Um.over p lo hi = G at *
  generalize (decide ((Um.monoR lo hi p).1 ≤ 0) && decide (0 ≤ (Um.monoR lo hi p).2.1)) = Y at *
  generalize Um.monoR lo hi p = M at *
  generalize Um.sureB p lo hi = Z at *
  generalize Um.findR p lo hi least = R at *
  have hF := (Fr.start w).push lo hi rfl
  have x0l := (hF.at 0 rfl).lo
  have x0h := (hF.at 0 rfl).hi
  obtain ⟨a0, cap0, rfl, -⟩ := (id hl)
  go_enter Tryz.func4, Tryz.ntmps4
  go_wp2_with (first | (go_at_call 10; refine (HO _ (hF.li hl)).out.mono ?_; rintro e wn ⟨rfl, hb⟩; replace hF := hF.step hb; (first | (replace hs := hs.step hb; replace hs2 := hs2.step hb) | (replace hs2 := hs2.step hb) | (replace hs := hs.step hb) | skip); clear hb; clear x0l x0h; have x0l := (hF.at 0 rfl).lo; have x0h := (hF.at 0 rfl).hi) | (go_at_call 11; refine (HR _ (hF.li hl)).out.mono ?_; rintro e wn ⟨rfl, hb⟩; replace hF := hF.step hb; clear hb; clear x0l x0h; replace hF := hF.push M.1 M.2.1 rfl; have x0l := (hF.at 0 rfl).lo; have x0h := (hF.at 0 rfl).hi; have x1l := (hF.at 1 rfl).lo; have x1h := (hF.at 1 rfl).hi) | (go_at_call 14; refine (HZ _).out.mono ?_; rintro e wa ⟨rfl, rfl⟩; replace hF := hF.alloc (.cells #[.int .i64 M.1, .int .i64 M.2.1] 24); clear x0l x0h x1l x1h; have x1l := (hF.at 1 rfl).lo; have x1h := (hF.at 1 rfl).hi) | (go_at_call 15; refine (HM _ (hF.li hl)).out.mono ?_; rintro e wn ⟨rfl, hb⟩; replace hF := hF.step hb; (first | (replace hs := hs.step hb; replace hs2 := hs2.step hb) | (replace hs2 := hs2.step hb) | (replace hs := hs.step hb) | skip); clear hb; clear x1l x1h; have x1l := (hF.at 1 rfl).lo; have x1h := (hF.at 1 rfl).hi) | (go_at_call 8; refine (hid (same_any _ _ _ (hg.below (B := w.heap.size) hF.below hg.size))).out.mono ?_; rintro e wn ⟨rfl, hb⟩; replace hF := hF.step hb; (first | (replace hs := hs.step hb; replace hs2 := hs2.step hb) | (replace hs2 := hs2.step hb) | (replace hs := hs.step hb) | skip); clear hb; clear x1l x1h; have x1l := (hF.at 1 rfl).lo; have x1h := (hF.at 1 rfl).hi) | (go_at_call 16; refine (HD _ (hF.li hl)).out.mono ?_; rintro e wn ⟨u1, rfl, hs, hb⟩; replace hF := hF.step hb; clear hb; clear x1l x1h; have x1l := (hF.at 1 rfl).lo; have x1h := (hF.at 1 rfl).hi; obtain ⟨a1, cap1, rfl, -⟩ := (id hs)) | (go_at_call 17; refine (HF _ (hF.li hl)).out.mono ?_; rintro e wn ⟨u2, rfl, hs2, hb⟩; replace hF := hF.step hb; (first | (replace hs := hs.step hb) | skip); clear hb; clear x1l x1h; have x1l := (hF.at 1 rfl).lo; have x1h := (hF.at 1 rfl).hi; obtain ⟨a2, cap2, rfl, -⟩ := (id hs2)) | (go_at_call 9; refine (hid (box_same R.1 _ _ _ hs2 hs h32)).out.mono ?_; rintro e wn ⟨rfl, hb⟩; clear hs hs2; replace hF := hF.step hb; (first | (replace hs := hs.step hb; replace hs2 := hs2.step hb) | (replace hs2 := hs2.step hb) | (replace hs := hs.step hb) | skip); clear hb; clear x1l x1h; have x1l := (hF.at 1 rfl).lo; have x1h := (hF.at 1 rfl).hi) | (go_at_call 18; refine (HV _ (hF.li hl)).out.mono ?_; rintro e wn ⟨rfl, hb⟩; replace hF := hF.step hb; (first | (replace hs := hs.step hb; replace hs2 := hs2.step hb) | (replace hs2 := hs2.step hb) | (replace hs := hs.step hb) | skip); clear hb; clear x1l x1h; have x1l := (hF.at 1 rfl).lo; have x1h := (hF.at 1 rfl).hi) | (go_at_call 19; refine (HU _ (hF.li hl)).out.mono ?_; rintro e wn ⟨rfl, hb⟩; replace hF := hF.step hb; (first | (replace hs := hs.step hb; replace hs2 := hs2.step hb) | (replace hs2 := hs2.step hb) | (replace hs := hs.step hb) | skip); clear hb; clear x1l x1h; have x1l := (hF.at 1 rfl).lo; have x1h := (hF.at 1 rfl).hi))
  go_returns
  exact ⟨rfl, hF.below⟩

set_option maxRecDepth 100000 in
set_option maxHeartbeats 8000000 in
theorem walk_no_low (p : List Int) (v : Value) (lo hi least : Int) (w : World) (hl : Li w.heap.size w v p) (hg : HasErr w) (ho : Um.over p lo hi = 0) (hm : ¬ (Um.monoR lo hi p).2.2 = 0) (h1 : least < 1) :
    Calls Tryz.prog 4 #[v, .agg #[.int .i64 lo, .int .i64 hi], .int .i64 least] w fun e w' => e = .returned (.bool true) ∧ Below w.heap.size w w' := by
  have v0 := errV_none
  have q1 := errG
  have q2 := errGn
  have q3 := errE
  have q4 := errN
  have HO := fun w hl => hid (rOver_any p v lo hi w hl)
  have HM := fun w hl => hid (may_any p v lo hi w hl)
  have HF := fun w hl => hid (find_any p v lo hi least w hl)
  have HU := fun w hl => hid (sure_any p v lo hi w hl)
  have HR := fun w hl => hid (rRange_any p v lo hi w hl ho)
  have HV := fun w hl => hid (rSure_any p v lo hi w hl ho)
  have eM : Um.monoAll p lo hi = Um.monoR lo hi p := by unfold Um.monoAll; rw [if_pos ho]
  have eB : Um.mayB p lo hi = (decide ((Um.monoR lo hi p).2.2 = 0) && (decide ((Um.monoR lo hi p).1 ≤ 0) && decide (0 ≤ (Um.monoR lo hi p).2.1))) := by unfold Um.mayB; rw [eM]
  rw [show decide ((Um.monoR lo hi p).2.2 = 0) = false by simpa using hm, Bool.false_and] at eB
  have km : ((Um.monoR lo hi p).2.2 == 0) = false := by simpa using hm
  rw [eM, eB] at HM
  rw [eM] at HU
  rw [Um.find_least ho (by omega)] at HF
  have t1 : decide (least < 1) = true := by simpa using h1
  have HG : Hid (Um.over p lo hi = 0) := ho
  have kG : (Um.over p lo hi == 0) = true := by simpa using ho
  clear hm ho eM eB h1
  generalize Um.over p lo hi = G at *
  generalize Um.monoR lo hi p = M at *
  generalize Um.sureB p lo hi = Z at *
  have hF := (Fr.start w).push lo hi rfl
  have x0l := (hF.at 0 rfl).lo
  have x0h := (hF.at 0 rfl).hi
  obtain ⟨a0, cap0, rfl, -⟩ := (id hl)
  go_enter Tryz.func4, Tryz.ntmps4
  go_wp2_with (first | (go_at_call 10; refine (HO _ (hF.li hl)).out.mono ?_; rintro e wn ⟨rfl, hb⟩; replace hF := hF.step hb; (first | (replace hs := hs.step hb; replace hs2 := hs2.step hb) | (replace hs2 := hs2.step hb) | (replace hs := hs.step hb) | skip); clear hb; clear x0l x0h; have x0l := (hF.at 0 rfl).lo; have x0h := (hF.at 0 rfl).hi) | (go_at_call 11; refine (HR _ (hF.li hl)).out.mono ?_; rintro e wn ⟨rfl, hb⟩; replace hF := hF.step hb; clear hb; clear x0l x0h; replace hF := hF.push M.1 M.2.1 rfl; have x1l := (hF.at 1 rfl).lo; have x1h := (hF.at 1 rfl).hi) | (go_at_call 15; refine (HM _ (hF.li hl)).out.mono ?_; rintro e wn ⟨rfl, hb⟩; replace hF := hF.step hb; (first | (replace hs := hs.step hb; replace hs2 := hs2.step hb) | (replace hs2 := hs2.step hb) | (replace hs := hs.step hb) | skip); clear hb; clear x1l x1h; have x1l := (hF.at 1 rfl).lo; have x1h := (hF.at 1 rfl).hi) | (go_at_call 8; refine (hid (same_any _ _ _ (hg.below (B := w.heap.size) hF.below hg.size))).out.mono ?_; rintro e wn ⟨rfl, hb⟩; replace hF := hF.step hb; (first | (replace hs := hs.step hb; replace hs2 := hs2.step hb) | (replace hs2 := hs2.step hb) | (replace hs := hs.step hb) | skip); clear hb; clear x1l x1h; have x1l := (hF.at 1 rfl).lo; have x1h := (hF.at 1 rfl).hi) | (go_at_call 17; refine (HF _ (hF.li hl)).out.mono ?_; rintro e wn ⟨u2, rfl, hs2, hb⟩; replace hF := hF.step hb; (first | (replace hs := hs.step hb) | skip); clear hb; clear x1l x1h; have x1l := (hF.at 1 rfl).lo; have x1h := (hF.at 1 rfl).hi; obtain ⟨a2, cap2, rfl, -⟩ := (id hs2)) | (go_at_call 9; refine (hid (box_same [] _ _ _ hs2 (Ls.nil _ _) (by simp))).out.mono ?_; rintro e wn ⟨rfl, hb⟩; clear hs2; replace hF := hF.step hb; (first | (replace hs := hs.step hb; replace hs2 := hs2.step hb) | (replace hs2 := hs2.step hb) | (replace hs := hs.step hb) | skip); clear hb; clear x1l x1h; have x1l := (hF.at 1 rfl).lo; have x1h := (hF.at 1 rfl).hi) | (go_at_call 18; refine (HV _ (hF.li hl)).out.mono ?_; rintro e wn ⟨rfl, hb⟩; replace hF := hF.step hb; (first | (replace hs := hs.step hb; replace hs2 := hs2.step hb) | (replace hs2 := hs2.step hb) | (replace hs := hs.step hb) | skip); clear hb; clear x1l x1h; have x1l := (hF.at 1 rfl).lo; have x1h := (hF.at 1 rfl).hi) | (go_at_call 19; refine (HU _ (hF.li hl)).out.mono ?_; rintro e wn ⟨rfl, hb⟩; replace hF := hF.step hb; (first | (replace hs := hs.step hb; replace hs2 := hs2.step hb) | (replace hs2 := hs2.step hb) | (replace hs := hs.step hb) | skip); clear hb; clear x1l x1h; have x1l := (hF.at 1 rfl).lo; have x1h := (hF.at 1 rfl).hi))
  go_returns
  exact ⟨rfl, hF.below⟩

set_option maxRecDepth 100000 in
set_option maxHeartbeats 8000000 in
theorem walk_no_high (p : List Int) (v : Value) (lo hi least : Int) (w : World) (hl : Li w.heap.size w v p) (hg : HasErr w) (ho : Um.over p lo hi = 0) (hm : ¬ (Um.monoR lo hi p).2.2 = 0) (h1 : ¬ least < 1) (h2 : 1000000000 < least) :
    Calls Tryz.prog 4 #[v, .agg #[.int .i64 lo, .int .i64 hi], .int .i64 least] w fun e w' => e = .returned (.bool true) ∧ Below w.heap.size w w' := by
  have v0 := errV_none
  have q1 := errG
  have q2 := errGn
  have q3 := errE
  have q4 := errN
  have HO := fun w hl => hid (rOver_any p v lo hi w hl)
  have HM := fun w hl => hid (may_any p v lo hi w hl)
  have HF := fun w hl => hid (find_any p v lo hi least w hl)
  have HU := fun w hl => hid (sure_any p v lo hi w hl)
  have HR := fun w hl => hid (rRange_any p v lo hi w hl ho)
  have HV := fun w hl => hid (rSure_any p v lo hi w hl ho)
  have eM : Um.monoAll p lo hi = Um.monoR lo hi p := by unfold Um.monoAll; rw [if_pos ho]
  have eB : Um.mayB p lo hi = (decide ((Um.monoR lo hi p).2.2 = 0) && (decide ((Um.monoR lo hi p).1 ≤ 0) && decide (0 ≤ (Um.monoR lo hi p).2.1))) := by unfold Um.mayB; rw [eM]
  rw [show decide ((Um.monoR lo hi p).2.2 = 0) = false by simpa using hm, Bool.false_and] at eB
  have km : ((Um.monoR lo hi p).2.2 == 0) = false := by simpa using hm
  rw [eM, eB] at HM
  rw [eM] at HU
  rw [Um.find_least ho (by omega)] at HF
  have t1 : decide (least < 1) = false := by simpa using h1
  have t2 : decide (1000000000 < least) = true := by simpa using h2
  have HG : Hid (Um.over p lo hi = 0) := ho
  have kG : (Um.over p lo hi == 0) = true := by simpa using ho
  clear hm ho eM eB h1 h2
  generalize Um.over p lo hi = G at *
  generalize Um.monoR lo hi p = M at *
  generalize Um.sureB p lo hi = Z at *
  have hF := (Fr.start w).push lo hi rfl
  have x0l := (hF.at 0 rfl).lo
  have x0h := (hF.at 0 rfl).hi
  obtain ⟨a0, cap0, rfl, -⟩ := (id hl)
  go_enter Tryz.func4, Tryz.ntmps4
  go_wp2_with (first | (go_at_call 10; refine (HO _ (hF.li hl)).out.mono ?_; rintro e wn ⟨rfl, hb⟩; replace hF := hF.step hb; (first | (replace hs := hs.step hb; replace hs2 := hs2.step hb) | (replace hs2 := hs2.step hb) | (replace hs := hs.step hb) | skip); clear hb; clear x0l x0h; have x0l := (hF.at 0 rfl).lo; have x0h := (hF.at 0 rfl).hi) | (go_at_call 11; refine (HR _ (hF.li hl)).out.mono ?_; rintro e wn ⟨rfl, hb⟩; replace hF := hF.step hb; clear hb; clear x0l x0h; replace hF := hF.push M.1 M.2.1 rfl; have x1l := (hF.at 1 rfl).lo; have x1h := (hF.at 1 rfl).hi) | (go_at_call 15; refine (HM _ (hF.li hl)).out.mono ?_; rintro e wn ⟨rfl, hb⟩; replace hF := hF.step hb; (first | (replace hs := hs.step hb; replace hs2 := hs2.step hb) | (replace hs2 := hs2.step hb) | (replace hs := hs.step hb) | skip); clear hb; clear x1l x1h; have x1l := (hF.at 1 rfl).lo; have x1h := (hF.at 1 rfl).hi) | (go_at_call 8; refine (hid (same_any _ _ _ (hg.below (B := w.heap.size) hF.below hg.size))).out.mono ?_; rintro e wn ⟨rfl, hb⟩; replace hF := hF.step hb; (first | (replace hs := hs.step hb; replace hs2 := hs2.step hb) | (replace hs2 := hs2.step hb) | (replace hs := hs.step hb) | skip); clear hb; clear x1l x1h; have x1l := (hF.at 1 rfl).lo; have x1h := (hF.at 1 rfl).hi) | (go_at_call 17; refine (HF _ (hF.li hl)).out.mono ?_; rintro e wn ⟨u2, rfl, hs2, hb⟩; replace hF := hF.step hb; (first | (replace hs := hs.step hb) | skip); clear hb; clear x1l x1h; have x1l := (hF.at 1 rfl).lo; have x1h := (hF.at 1 rfl).hi; obtain ⟨a2, cap2, rfl, -⟩ := (id hs2)) | (go_at_call 9; refine (hid (box_same [] _ _ _ hs2 (Ls.nil _ _) (by simp))).out.mono ?_; rintro e wn ⟨rfl, hb⟩; clear hs2; replace hF := hF.step hb; (first | (replace hs := hs.step hb; replace hs2 := hs2.step hb) | (replace hs2 := hs2.step hb) | (replace hs := hs.step hb) | skip); clear hb; clear x1l x1h; have x1l := (hF.at 1 rfl).lo; have x1h := (hF.at 1 rfl).hi) | (go_at_call 18; refine (HV _ (hF.li hl)).out.mono ?_; rintro e wn ⟨rfl, hb⟩; replace hF := hF.step hb; (first | (replace hs := hs.step hb; replace hs2 := hs2.step hb) | (replace hs2 := hs2.step hb) | (replace hs := hs.step hb) | skip); clear hb; clear x1l x1h; have x1l := (hF.at 1 rfl).lo; have x1h := (hF.at 1 rfl).hi) | (go_at_call 19; refine (HU _ (hF.li hl)).out.mono ?_; rintro e wn ⟨rfl, hb⟩; replace hF := hF.step hb; (first | (replace hs := hs.step hb; replace hs2 := hs2.step hb) | (replace hs2 := hs2.step hb) | (replace hs := hs.step hb) | skip); clear hb; clear x1l x1h; have x1l := (hF.at 1 rfl).lo; have x1h := (hF.at 1 rfl).hi))
  go_returns
  exact ⟨rfl, hF.below⟩

set_option maxRecDepth 100000 in
set_option maxHeartbeats 8000000 in
theorem walk_no_ok (p : List Int) (v : Value) (lo hi least : Int) (w : World) (hl : Li w.heap.size w v p) (hg : HasErr w) (ho : Um.over p lo hi = 0) (hm : ¬ (Um.monoR lo hi p).2.2 = 0) (h1 : ¬ least < 1) (h2 : ¬ 1000000000 < least) :
    Calls Tryz.prog 4 #[v, .agg #[.int .i64 lo, .int .i64 hi], .int .i64 least] w fun e w' => e = .returned (.bool true) ∧ Below w.heap.size w w' := by
  have v0 := errV_none
  have q1 := errG
  have q2 := errGn
  have q3 := errE
  have q4 := errN
  have HO := fun w hl => hid (rOver_any p v lo hi w hl)
  have HM := fun w hl => hid (may_any p v lo hi w hl)
  have HF := fun w hl => hid (find_any p v lo hi least w hl)
  have HU := fun w hl => hid (sure_any p v lo hi w hl)
  have HR := fun w hl => hid (rRange_any p v lo hi w hl ho)
  have HV := fun w hl => hid (rSure_any p v lo hi w hl ho)
  have eM : Um.monoAll p lo hi = Um.monoR lo hi p := by unfold Um.monoAll; rw [if_pos ho]
  have eB : Um.mayB p lo hi = (decide ((Um.monoR lo hi p).2.2 = 0) && (decide ((Um.monoR lo hi p).1 ≤ 0) && decide (0 ≤ (Um.monoR lo hi p).2.1))) := by unfold Um.mayB; rw [eM]
  rw [show decide ((Um.monoR lo hi p).2.2 = 0) = false by simpa using hm, Bool.false_and] at eB
  have km : ((Um.monoR lo hi p).2.2 == 0) = false := by simpa using hm
  rw [eM, eB] at HM
  rw [eM] at HU
  have HD := fun w hl => hid (rFind_any p v lo hi least w hl ho (by omega))
  rw [Um.find_good ho (by omega) (by omega)] at HF
  have h32 : (Um.findR p lo hi least).1.length ≤ 1000 := Nat.le_trans (Um.find_length 32 lo hi [] (by simp)) (by decide)
  have t1 : decide (least < 1) = false := by simpa using h1
  have t2 : decide (1000000000 < least) = false := by simpa using h2
  have HG : Hid (Um.over p lo hi = 0) := ho
  have kG : (Um.over p lo hi == 0) = true := by simpa using ho
  clear hm ho eM eB h1 h2
  generalize Um.over p lo hi = G at *
  generalize Um.monoR lo hi p = M at *
  generalize Um.sureB p lo hi = Z at *
  generalize Um.findR p lo hi least = R at *
  have hF := (Fr.start w).push lo hi rfl
  have x0l := (hF.at 0 rfl).lo
  have x0h := (hF.at 0 rfl).hi
  obtain ⟨a0, cap0, rfl, -⟩ := (id hl)
  go_enter Tryz.func4, Tryz.ntmps4
  go_wp2_with (first | (go_at_call 10; refine (HO _ (hF.li hl)).out.mono ?_; rintro e wn ⟨rfl, hb⟩; replace hF := hF.step hb; (first | (replace hs := hs.step hb; replace hs2 := hs2.step hb) | (replace hs2 := hs2.step hb) | (replace hs := hs.step hb) | skip); clear hb; clear x0l x0h; have x0l := (hF.at 0 rfl).lo; have x0h := (hF.at 0 rfl).hi) | (go_at_call 11; refine (HR _ (hF.li hl)).out.mono ?_; rintro e wn ⟨rfl, hb⟩; replace hF := hF.step hb; clear hb; clear x0l x0h; replace hF := hF.push M.1 M.2.1 rfl; have x1l := (hF.at 1 rfl).lo; have x1h := (hF.at 1 rfl).hi) | (go_at_call 15; refine (HM _ (hF.li hl)).out.mono ?_; rintro e wn ⟨rfl, hb⟩; replace hF := hF.step hb; (first | (replace hs := hs.step hb; replace hs2 := hs2.step hb) | (replace hs2 := hs2.step hb) | (replace hs := hs.step hb) | skip); clear hb; clear x1l x1h; have x1l := (hF.at 1 rfl).lo; have x1h := (hF.at 1 rfl).hi) | (go_at_call 8; refine (hid (same_any _ _ _ (hg.below (B := w.heap.size) hF.below hg.size))).out.mono ?_; rintro e wn ⟨rfl, hb⟩; replace hF := hF.step hb; (first | (replace hs := hs.step hb; replace hs2 := hs2.step hb) | (replace hs2 := hs2.step hb) | (replace hs := hs.step hb) | skip); clear hb; clear x1l x1h; have x1l := (hF.at 1 rfl).lo; have x1h := (hF.at 1 rfl).hi) | (go_at_call 16; refine (HD _ (hF.li hl)).out.mono ?_; rintro e wn ⟨u1, rfl, hs, hb⟩; replace hF := hF.step hb; clear hb; clear x1l x1h; have x1l := (hF.at 1 rfl).lo; have x1h := (hF.at 1 rfl).hi; obtain ⟨a1, cap1, rfl, -⟩ := (id hs)) | (go_at_call 17; refine (HF _ (hF.li hl)).out.mono ?_; rintro e wn ⟨u2, rfl, hs2, hb⟩; replace hF := hF.step hb; (first | (replace hs := hs.step hb) | skip); clear hb; clear x1l x1h; have x1l := (hF.at 1 rfl).lo; have x1h := (hF.at 1 rfl).hi; obtain ⟨a2, cap2, rfl, -⟩ := (id hs2)) | (go_at_call 9; refine (hid (box_same R.1 _ _ _ hs2 hs h32)).out.mono ?_; rintro e wn ⟨rfl, hb⟩; clear hs hs2; replace hF := hF.step hb; (first | (replace hs := hs.step hb; replace hs2 := hs2.step hb) | (replace hs2 := hs2.step hb) | (replace hs := hs.step hb) | skip); clear hb; clear x1l x1h; have x1l := (hF.at 1 rfl).lo; have x1h := (hF.at 1 rfl).hi) | (go_at_call 18; refine (HV _ (hF.li hl)).out.mono ?_; rintro e wn ⟨rfl, hb⟩; replace hF := hF.step hb; (first | (replace hs := hs.step hb; replace hs2 := hs2.step hb) | (replace hs2 := hs2.step hb) | (replace hs := hs.step hb) | skip); clear hb; clear x1l x1h; have x1l := (hF.at 1 rfl).lo; have x1h := (hF.at 1 rfl).hi) | (go_at_call 19; refine (HU _ (hF.li hl)).out.mono ?_; rintro e wn ⟨rfl, hb⟩; replace hF := hF.step hb; (first | (replace hs := hs.step hb; replace hs2 := hs2.step hb) | (replace hs2 := hs2.step hb) | (replace hs := hs.step hb) | skip); clear hb; clear x1l x1h; have x1l := (hF.at 1 rfl).lo; have x1h := (hF.at 1 rfl).hi))
  go_returns
  exact ⟨rfl, hF.below⟩

theorem walk (p : List Int) (v : Value) (lo hi least : Int) (w : World) (hg : HasErr w) (hl : Li w.heap.size w v p) :
    Calls Tryz.prog 4 #[v, .agg #[.int .i64 lo, .int .i64 hi], .int .i64 least] w fun e w' => e = .returned (.bool true) ∧ Below w.heap.size w w' := by
  by_cases ho : Um.over p lo hi = 0
  · by_cases hm : (Um.monoR lo hi p).2.2 = 0
    · by_cases h1 : least < 1
      · exact walk_yes_low p v lo hi least w hl hg ho hm h1
      · by_cases h2 : 1000000000 < least
        · exact walk_yes_high p v lo hi least w hl hg ho hm h1 h2
        · exact walk_yes_ok p v lo hi least w hl hg ho hm h1 h2
    · by_cases h1 : least < 1
      · exact walk_no_low p v lo hi least w hl hg ho hm h1
      · by_cases h2 : 1000000000 < least
        · exact walk_no_high p v lo hi least w hl hg ho hm h1 h2
        · exact walk_no_ok p v lo hi least w hl hg ho hm h1 h2
  · exact walk_over p v lo hi least w hl hg ho
end Go.Proofs.YthoiiffdigkodaaGreatDoor.RTells
