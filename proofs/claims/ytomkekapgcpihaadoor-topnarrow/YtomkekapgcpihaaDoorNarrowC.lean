/-
  What package narrow answers: meeting, unlessZero and what they answer with, nothing, together, Sum, Times, at every argument.
-/
import Derived.Test.YtomkekapgcpihaaDoorSpanAdd
import Derived.Test.YtomkekapgcpihaaDoorSpanHull
import Derived.Test.YtomkekapgcpihaaDoorSpanTimes
import Derived.Test.YtomkekapgcpihaaDoorSpanBy
import Derived.Test.YtomkekapgcpihaaDoorSpanC
import Derived.Test.YtomkekapgcpihaaDoorMems
import Derived.Test.YtomkekapgcpihaaDoorOcode
import Derived.Deep.CutRange
namespace Go.Proofs.YtomkekapgcpihaaDoor
set_option linter.unusedSimpArgs false
open Go.RowKit

/-- A function in block B. -/
structure FuAt (w : World) (B : Nat) (v : Value) : Prop where
  lt : B < w.heap.size
  c : w.cell? ⟨B, 0, none⟩ = some v
theorem FuAt.step {w w' : World} {B : Nat} {v : Value} (h : FuAt w B v) (hb : Below w.heap.size w w') : FuAt w' B v :=
  ⟨Nat.lt_of_lt_of_le h.lt hb.size, (hb.cell (p := ⟨B, 0, none⟩) h.lt).trans h.c⟩
theorem FuAt.new (w : World) (v : Value) (T : TypeId) {B : Nat} (hB : B = w.heap.size) : FuAt (w.alloc (.cells #[v] T)) B v := by
  subst hB
  exact ⟨(Blk.new w T #[v]).lt, (Blk.new w T #[v]).cell 0 rfl⟩
theorem FuAt.other {w : World} {B : Nat} {v : Value} (h : FuAt w B v) (p : Addr) (x : Value) (hp : B ≠ p.block) : FuAt (w.setCell p x) B v := by
  refine ⟨by simpa using h.lt, ?_⟩
  have := h.c
  unfold World.cell? at *
  rw [Below.heap_setCell _ _ _ _ hp]; exact this
theorem lit_ls3 {w : World} {b : Nat} {T : TypeId} (xl xh yl yh zl zh : Int) (hb : b = w.heap.size) : Ls (w.alloc (.cells #[.int .i64 xl, .int .i64 xh, .int .i64 yl, .int .i64 yh, .int .i64 zl, .int .i64 zh] T)).heap.size (w.alloc (.cells #[.int .i64 xl, .int .i64 xh, .int .i64 yl, .int .i64 yh, .int .i64 zl, .int .i64 zh] T)) (.slice (some ⟨b, 0, none⟩) 3 3) [(xl, xh), (yl, yh), (zl, zh)] := by
  subst hb
  have h := Blk.new w T #[.int .i64 xl, .int .i64 xh, .int .i64 yl, .int .i64 yh, .int .i64 zl, .int .i64 zh]
  refine ⟨_, 3, rfl, Nat.le_refl _, .inr ⟨w.heap.size, 0, rfl, h.lt, fun j hj => ?_⟩⟩
  rcases (by simp at hj; omega : j = 0 ∨ j = 1 ∨ j = 2) with rfl | rfl | rfl
  · exact ⟨h.cell 0 rfl, h.cell 1 rfl⟩
  · exact ⟨h.cell 2 rfl, h.cell 3 rfl⟩
  · exact ⟨h.cell 4 rfl, h.cell 5 rfl⟩
theorem checkThree (xl xh yl yh zl zh : Int) (w : World) {b : Nat} (hb : b = w.heap.size) :
    Calls Tryd.prog 47 #[.slice (some ⟨b, 0, none⟩) 3 3] (w.alloc (.cells #[.int .i64 xl, .int .i64 xh, .int .i64 yl, .int .i64 yh, .int .i64 zl, .int .i64 zh] 23)) fun e w' => e = .returned (errV (Um.narF xl xh yl yh zl zh)) ∧ Below w.heap.size w w' := by
  have h := checkAll_some [(xl, xh), (yl, yh), (zl, zh)] (.slice (some ⟨b, 0, none⟩) 3 3) _ (lit_ls3 (T := 23) xl xh yl yh zl zh hb) (by simp) (by simp)
  rw [Um.nar_sides] at h
  refine h.mono ?_
  rintro e w' ⟨rfl, hb'⟩
  exact ⟨rfl, ((Below.refl _ _).alloc (Nat.le_refl _) _).trans (hb'.mono (by simp))⟩

theorem nwMeeting_any (fn : Fn) (cap : Array Value) (w : World) :
    Calls Tryd.prog 24 #[.func fn #[] cap] w fun e w' => ∃ b : Nat, e = .returned (.func (.func 49) #[] #[.pointer (some ⟨b, 0, none⟩)]) ∧ w.heap.size ≤ b ∧ FuAt w' b (.func fn #[] cap) ∧ Below w.heap.size w w' := by
  have hmf : ∀ (fn : Fn) (first cap : Array Value) (w : World), (Instr.makeFunc fn first cap).run Tryd.prog w = .ok (.func fn first cap) w := fun _ _ _ _ => rfl
  go_enter Tryd.func24, Tryd.ntmps24
  go_wp2
  go_returns
  exact ⟨_, rfl, Nat.le_refl _, FuAt.new _ _ _ rfl, by go_grown⟩

theorem nwUnless_any (fn : Fn) (cap : Array Value) (w : World) :
    Calls Tryd.prog 31 #[.func fn #[] cap] w fun e w' => ∃ b : Nat, e = .returned (.func (.func 59) #[] #[.pointer (some ⟨b, 0, none⟩)]) ∧ w.heap.size ≤ b ∧ FuAt w' b (.func fn #[] cap) ∧ Below w.heap.size w w' := by
  have hmf : ∀ (fn : Fn) (first cap : Array Value) (w : World), (Instr.makeFunc fn first cap).run Tryd.prog w = .ok (.func fn first cap) w := fun _ _ _ _ => rfl
  go_enter Tryd.func31, Tryd.ntmps31
  go_wp2
  go_returns
  exact ⟨_, rfl, Nat.le_refl _, FuAt.new _ _ _ rfl, by go_grown⟩

theorem nwNothing_any (k : Int) (w : World) :
    Calls Tryd.prog 48 #[errV k] w fun e w' => e = .returned (.tuple #[.agg #[.int .i64 0, .int .i64 0], .agg #[.int .i64 0, .int .i64 0], .agg #[.int .i64 0, .int .i64 0], errV k]) ∧ Below w.heap.size w w' := by
  go_enter Tryd.func48, Tryd.ntmps48
  go_wp2
  go_returns
  exact ⟨rfl, by go_grown⟩

set_option maxHeartbeats 2000000 in
theorem nwMeet_add (ol oh al ah bl bh : Int) (B : Nat) (w : World) (hv : FuAt w B (.func (.func 25) #[] #[])) :
    Calls Tryd.prog 49 #[.agg #[.int .i64 ol, .int .i64 oh], .agg #[.int .i64 al, .int .i64 ah], .agg #[.int .i64 bl, .int .i64 bh], .pointer (some ⟨B, 0, none⟩)] w fun e w' => e = .returned (.tuple #[.agg #[.int .i64 (Um.mAdd ol oh al ah bl bh).1, .int .i64 (Um.mAdd ol oh al ah bl bh).2.1], errV (Um.mAdd ol oh al ah bl bh).2.2]) ∧ Below w.heap.size w w' := by
  have v0 := errV_none
  have q1 := errG
  have q2 := errGn
  have q3 := errE
  have q4 := errN
  have hF := ((((Fr.start w).push ol oh rfl).push (b := w.heap.size + 1) al ah (by simp)).push (b := w.heap.size + 1 + 1) bl bh (by simp)).push (b := w.heap.size + 1 + 1 + 1) 0 0 (by simp)
  have yf := (hv.step hF.below).c
  have x1l := (hF.at 1 rfl).lo
  have x1h := (hF.at 1 rfl).hi
  have x2l := (hF.at 2 rfl).lo
  have x2h := (hF.at 2 rfl).hi
  have HD := fun w => hid (add_any al ah bl bh w)
  have HR : Hid (Um.mAdd ol oh al ah bl bh = Um.metR ol oh (Um.made (Um.addR al ah bl bh) al ah bl bh)) := hid rfl
  generalize Um.mAdd ol oh al ah bl bh = R at *
  generalize Um.made (Um.addR al ah bl bh) al ah bl bh = M at *
  clear hv
  by_cases h : M.2.2 = 0
  · have k : (M.2.2 != 0) = false := by simpa using h
    rw [Um.met_yes h] at HR
    have HM := fun w => hid (meet_any ol oh M.1 M.2.1 w)
    clear h
    generalize Um.made (Um.meetR ol oh M.1 M.2.1) ol oh M.1 M.2.1 = N at *
    go_enter Tryd.func49, Tryd.ntmps49
    go_wp2_with (first | (go_at_call 25; refine (HD _).out.mono ?_; rintro e wn ⟨rfl, hb⟩; replace hF := hF.step hb; clear hb; clear x1l x1h x2l x2h; clear yf; replace hF := hF.push M.1 M.2.1 rfl; have x0l := (hF.at 0 rfl).lo; have x0h := (hF.at 0 rfl).hi; have x4l := (hF.at 4 rfl).lo; have x4h := (hF.at 4 rfl).hi) | (go_at_call 50; refine (HM _).out.mono ?_; rintro e wn ⟨rfl, hb⟩; replace hF := hF.step hb; clear hb; clear x0l x0h x4l x4h; have y1 := (hF.at 1 rfl).fl; have y2 := (hF.at 1 rfl).fh; have y3 := (hF.at 1 rfl).lo; have y4 := (hF.at 1 rfl).hi; have y6 := (hF.at 1 rfl).r0; have y7 := (hF.at 1 rfl).r1))
    refine bodyPost_ret (by simp [results, Tryd.results49, go_sem, y6, y7]; try rfl) rfl ?_
    rw [HR.out]
    exact ⟨rfl, (hF.put 1 rfl _ _ rfl).below⟩
  · have k : (M.2.2 != 0) = true := by simpa using h
    rw [Um.met_not h] at HR
    clear h
    go_enter Tryd.func49, Tryd.ntmps49
    go_wp2_with (go_at_call 25; refine (HD _).out.mono ?_; rintro e wn ⟨rfl, hb⟩; replace hF := hF.step hb; clear hb; clear x1l x1h x2l x2h; clear yf; replace hF := hF.push M.1 M.2.1 rfl; have y1 := (hF.at 1 rfl).fl; have y2 := (hF.at 1 rfl).fh; have y3 := (hF.at 1 rfl).lo; have y4 := (hF.at 1 rfl).hi; have y6 := (hF.at 1 rfl).r0; have y7 := (hF.at 1 rfl).r1)
    refine bodyPost_ret (by simp [results, Tryd.results49, go_sem, y6, y7]; try rfl) rfl ?_
    rw [HR.out]
    exact ⟨rfl, (hF.put 1 rfl _ _ rfl).below⟩

set_option maxHeartbeats 2000000 in
theorem nwMeet_less (ol oh al ah bl bh : Int) (B : Nat) (w : World) (hv : FuAt w B (.func (.func 26) #[] #[])) :
    Calls Tryd.prog 49 #[.agg #[.int .i64 ol, .int .i64 oh], .agg #[.int .i64 al, .int .i64 ah], .agg #[.int .i64 bl, .int .i64 bh], .pointer (some ⟨B, 0, none⟩)] w fun e w' => e = .returned (.tuple #[.agg #[.int .i64 (Um.mLess ol oh al ah bl bh).1, .int .i64 (Um.mLess ol oh al ah bl bh).2.1], errV (Um.mLess ol oh al ah bl bh).2.2]) ∧ Below w.heap.size w w' := by
  have v0 := errV_none
  have q1 := errG
  have q2 := errGn
  have q3 := errE
  have q4 := errN
  have hF := ((((Fr.start w).push ol oh rfl).push (b := w.heap.size + 1) al ah (by simp)).push (b := w.heap.size + 1 + 1) bl bh (by simp)).push (b := w.heap.size + 1 + 1 + 1) 0 0 (by simp)
  have yf := (hv.step hF.below).c
  have x1l := (hF.at 1 rfl).lo
  have x1h := (hF.at 1 rfl).hi
  have x2l := (hF.at 2 rfl).lo
  have x2h := (hF.at 2 rfl).hi
  have HD := fun w => hid (less_any al ah bl bh w)
  have HR : Hid (Um.mLess ol oh al ah bl bh = Um.metR ol oh (Um.made (Um.lessR al ah bl bh) al ah bl bh)) := hid rfl
  generalize Um.mLess ol oh al ah bl bh = R at *
  generalize Um.made (Um.lessR al ah bl bh) al ah bl bh = M at *
  clear hv
  by_cases h : M.2.2 = 0
  · have k : (M.2.2 != 0) = false := by simpa using h
    rw [Um.met_yes h] at HR
    have HM := fun w => hid (meet_any ol oh M.1 M.2.1 w)
    clear h
    generalize Um.made (Um.meetR ol oh M.1 M.2.1) ol oh M.1 M.2.1 = N at *
    go_enter Tryd.func49, Tryd.ntmps49
    go_wp2_with (first | (go_at_call 26; refine (HD _).out.mono ?_; rintro e wn ⟨rfl, hb⟩; replace hF := hF.step hb; clear hb; clear x1l x1h x2l x2h; clear yf; replace hF := hF.push M.1 M.2.1 rfl; have x0l := (hF.at 0 rfl).lo; have x0h := (hF.at 0 rfl).hi; have x4l := (hF.at 4 rfl).lo; have x4h := (hF.at 4 rfl).hi) | (go_at_call 50; refine (HM _).out.mono ?_; rintro e wn ⟨rfl, hb⟩; replace hF := hF.step hb; clear hb; clear x0l x0h x4l x4h; have y1 := (hF.at 1 rfl).fl; have y2 := (hF.at 1 rfl).fh; have y3 := (hF.at 1 rfl).lo; have y4 := (hF.at 1 rfl).hi; have y6 := (hF.at 1 rfl).r0; have y7 := (hF.at 1 rfl).r1))
    refine bodyPost_ret (by simp [results, Tryd.results49, go_sem, y6, y7]; try rfl) rfl ?_
    rw [HR.out]
    exact ⟨rfl, (hF.put 1 rfl _ _ rfl).below⟩
  · have k : (M.2.2 != 0) = true := by simpa using h
    rw [Um.met_not h] at HR
    clear h
    go_enter Tryd.func49, Tryd.ntmps49
    go_wp2_with (go_at_call 26; refine (HD _).out.mono ?_; rintro e wn ⟨rfl, hb⟩; replace hF := hF.step hb; clear hb; clear x1l x1h x2l x2h; clear yf; replace hF := hF.push M.1 M.2.1 rfl; have y1 := (hF.at 1 rfl).fl; have y2 := (hF.at 1 rfl).fh; have y3 := (hF.at 1 rfl).lo; have y4 := (hF.at 1 rfl).hi; have y6 := (hF.at 1 rfl).r0; have y7 := (hF.at 1 rfl).r1)
    refine bodyPost_ret (by simp [results, Tryd.results49, go_sem, y6, y7]; try rfl) rfl ?_
    rw [HR.out]
    exact ⟨rfl, (hF.put 1 rfl _ _ rfl).below⟩

set_option maxHeartbeats 2000000 in
theorem nwMeet_stimes (ol oh al ah bl bh : Int) (B : Nat) (w : World) (hv : FuAt w B (.func (.func 30) #[] #[])) :
    Calls Tryd.prog 49 #[.agg #[.int .i64 ol, .int .i64 oh], .agg #[.int .i64 al, .int .i64 ah], .agg #[.int .i64 bl, .int .i64 bh], .pointer (some ⟨B, 0, none⟩)] w fun e w' => e = .returned (.tuple #[.agg #[.int .i64 (Um.mTimes ol oh al ah bl bh).1, .int .i64 (Um.mTimes ol oh al ah bl bh).2.1], errV (Um.mTimes ol oh al ah bl bh).2.2]) ∧ Below w.heap.size w w' := by
  have v0 := errV_none
  have q1 := errG
  have q2 := errGn
  have q3 := errE
  have q4 := errN
  have hF := ((((Fr.start w).push ol oh rfl).push (b := w.heap.size + 1) al ah (by simp)).push (b := w.heap.size + 1 + 1) bl bh (by simp)).push (b := w.heap.size + 1 + 1 + 1) 0 0 (by simp)
  have yf := (hv.step hF.below).c
  have x1l := (hF.at 1 rfl).lo
  have x1h := (hF.at 1 rfl).hi
  have x2l := (hF.at 2 rfl).lo
  have x2h := (hF.at 2 rfl).hi
  have HD := fun w => hid (stimes_any al ah bl bh w)
  have HR : Hid (Um.mTimes ol oh al ah bl bh = Um.metR ol oh (Um.made (Um.stimesR al ah bl bh) al ah bl bh)) := hid rfl
  generalize Um.mTimes ol oh al ah bl bh = R at *
  generalize Um.made (Um.stimesR al ah bl bh) al ah bl bh = M at *
  clear hv
  by_cases h : M.2.2 = 0
  · have k : (M.2.2 != 0) = false := by simpa using h
    rw [Um.met_yes h] at HR
    have HM := fun w => hid (meet_any ol oh M.1 M.2.1 w)
    clear h
    generalize Um.made (Um.meetR ol oh M.1 M.2.1) ol oh M.1 M.2.1 = N at *
    go_enter Tryd.func49, Tryd.ntmps49
    go_wp2_with (first | (go_at_call 30; refine (HD _).out.mono ?_; rintro e wn ⟨rfl, hb⟩; replace hF := hF.step hb; clear hb; clear x1l x1h x2l x2h; clear yf; replace hF := hF.push M.1 M.2.1 rfl; have x0l := (hF.at 0 rfl).lo; have x0h := (hF.at 0 rfl).hi; have x4l := (hF.at 4 rfl).lo; have x4h := (hF.at 4 rfl).hi) | (go_at_call 50; refine (HM _).out.mono ?_; rintro e wn ⟨rfl, hb⟩; replace hF := hF.step hb; clear hb; clear x0l x0h x4l x4h; have y1 := (hF.at 1 rfl).fl; have y2 := (hF.at 1 rfl).fh; have y3 := (hF.at 1 rfl).lo; have y4 := (hF.at 1 rfl).hi; have y6 := (hF.at 1 rfl).r0; have y7 := (hF.at 1 rfl).r1))
    refine bodyPost_ret (by simp [results, Tryd.results49, go_sem, y6, y7]; try rfl) rfl ?_
    rw [HR.out]
    exact ⟨rfl, (hF.put 1 rfl _ _ rfl).below⟩
  · have k : (M.2.2 != 0) = true := by simpa using h
    rw [Um.met_not h] at HR
    clear h
    go_enter Tryd.func49, Tryd.ntmps49
    go_wp2_with (go_at_call 30; refine (HD _).out.mono ?_; rintro e wn ⟨rfl, hb⟩; replace hF := hF.step hb; clear hb; clear x1l x1h x2l x2h; clear yf; replace hF := hF.push M.1 M.2.1 rfl; have y1 := (hF.at 1 rfl).fl; have y2 := (hF.at 1 rfl).fh; have y3 := (hF.at 1 rfl).lo; have y4 := (hF.at 1 rfl).hi; have y6 := (hF.at 1 rfl).r0; have y7 := (hF.at 1 rfl).r1)
    refine bodyPost_ret (by simp [results, Tryd.results49, go_sem, y6, y7]; try rfl) rfl ?_
    rw [HR.out]
    exact ⟨rfl, (hF.put 1 rfl _ _ rfl).below⟩

set_option maxHeartbeats 2000000 in
theorem nwMeet_sby (ol oh al ah bl bh : Int) (B : Nat) (w : World) (hv : FuAt w B (.func (.func 32) #[] #[])) :
    Calls Tryd.prog 49 #[.agg #[.int .i64 ol, .int .i64 oh], .agg #[.int .i64 al, .int .i64 ah], .agg #[.int .i64 bl, .int .i64 bh], .pointer (some ⟨B, 0, none⟩)] w fun e w' => e = .returned (.tuple #[.agg #[.int .i64 (Um.mBy ol oh al ah bl bh).1, .int .i64 (Um.mBy ol oh al ah bl bh).2.1], errV (Um.mBy ol oh al ah bl bh).2.2]) ∧ Below w.heap.size w w' := by
  have v0 := errV_none
  have q1 := errG
  have q2 := errGn
  have q3 := errE
  have q4 := errN
  have hF := ((((Fr.start w).push ol oh rfl).push (b := w.heap.size + 1) al ah (by simp)).push (b := w.heap.size + 1 + 1) bl bh (by simp)).push (b := w.heap.size + 1 + 1 + 1) 0 0 (by simp)
  have yf := (hv.step hF.below).c
  have x1l := (hF.at 1 rfl).lo
  have x1h := (hF.at 1 rfl).hi
  have x2l := (hF.at 2 rfl).lo
  have x2h := (hF.at 2 rfl).hi
  have HD := fun w => hid (sby_any al ah bl bh w)
  have HR : Hid (Um.mBy ol oh al ah bl bh = Um.metR ol oh (Um.made (Um.sbyR al ah bl bh) al ah bl bh)) := hid rfl
  generalize Um.mBy ol oh al ah bl bh = R at *
  generalize Um.made (Um.sbyR al ah bl bh) al ah bl bh = M at *
  clear hv
  by_cases h : M.2.2 = 0
  · have k : (M.2.2 != 0) = false := by simpa using h
    rw [Um.met_yes h] at HR
    have HM := fun w => hid (meet_any ol oh M.1 M.2.1 w)
    clear h
    generalize Um.made (Um.meetR ol oh M.1 M.2.1) ol oh M.1 M.2.1 = N at *
    go_enter Tryd.func49, Tryd.ntmps49
    go_wp2_with (first | (go_at_call 32; refine (HD _).out.mono ?_; rintro e wn ⟨rfl, hb⟩; replace hF := hF.step hb; clear hb; clear x1l x1h x2l x2h; clear yf; replace hF := hF.push M.1 M.2.1 rfl; have x0l := (hF.at 0 rfl).lo; have x0h := (hF.at 0 rfl).hi; have x4l := (hF.at 4 rfl).lo; have x4h := (hF.at 4 rfl).hi) | (go_at_call 50; refine (HM _).out.mono ?_; rintro e wn ⟨rfl, hb⟩; replace hF := hF.step hb; clear hb; clear x0l x0h x4l x4h; have y1 := (hF.at 1 rfl).fl; have y2 := (hF.at 1 rfl).fh; have y3 := (hF.at 1 rfl).lo; have y4 := (hF.at 1 rfl).hi; have y6 := (hF.at 1 rfl).r0; have y7 := (hF.at 1 rfl).r1))
    refine bodyPost_ret (by simp [results, Tryd.results49, go_sem, y6, y7]; try rfl) rfl ?_
    rw [HR.out]
    exact ⟨rfl, (hF.put 1 rfl _ _ rfl).below⟩
  · have k : (M.2.2 != 0) = true := by simpa using h
    rw [Um.met_not h] at HR
    clear h
    go_enter Tryd.func49, Tryd.ntmps49
    go_wp2_with (go_at_call 32; refine (HD _).out.mono ?_; rintro e wn ⟨rfl, hb⟩; replace hF := hF.step hb; clear hb; clear x1l x1h x2l x2h; clear yf; replace hF := hF.push M.1 M.2.1 rfl; have y1 := (hF.at 1 rfl).fl; have y2 := (hF.at 1 rfl).fh; have y3 := (hF.at 1 rfl).lo; have y4 := (hF.at 1 rfl).hi; have y6 := (hF.at 1 rfl).r0; have y7 := (hF.at 1 rfl).r1)
    refine bodyPost_ret (by simp [results, Tryd.results49, go_sem, y6, y7]; try rfl) rfl ?_
    rw [HR.out]
    exact ⟨rfl, (hF.put 1 rfl _ _ rfl).below⟩

set_option maxHeartbeats 2000000 in
theorem nwUn_by (ol oh al ah bl bh : Int) (B B2 : Nat) (w : World) (hv : FuAt w B (.func (.func 49) #[] #[.pointer (some ⟨B2, 0, none⟩)])) (hv2 : FuAt w B2 (.func (.func 32) #[] #[])) :
    Calls Tryd.prog 59 #[.agg #[.int .i64 ol, .int .i64 oh], .agg #[.int .i64 al, .int .i64 ah], .agg #[.int .i64 bl, .int .i64 bh], .pointer (some ⟨B, 0, none⟩)] w fun e w' => e = .returned (.tuple #[.agg #[.int .i64 (Um.unR Um.mBy ol oh al ah bl bh).1, .int .i64 (Um.unR Um.mBy ol oh al ah bl bh).2.1], errV (Um.unR Um.mBy ol oh al ah bl bh).2.2]) ∧ Below w.heap.size w w' := by
  have v0 := errV_none
  have q1 := errG
  have q2 := errGn
  have q3 := errE
  have q4 := errN
  have hF := ((((Fr.start w).push ol oh rfl).push (b := w.heap.size + 1) al ah (by simp)).push (b := w.heap.size + 1 + 1) bl bh (by simp)).push (b := w.heap.size + 1 + 1 + 1) 0 0 (by simp)
  have HH := fun w => hid (has_any bl bh 0 w)
  have x1l := (hF.at 1 rfl).lo
  have x1h := (hF.at 1 rfl).hi
  by_cases z : bl ≤ 0 ∧ 0 ≤ bh
  · have z1 : (decide (bl ≤ 0) && decide (0 ≤ bh)) = true := by simp [z.1, z.2]
    have HR := hid (Um.un_yes (R := Um.mBy) (ol := ol) (oh := oh) (al := al) (ah := ah) z)
    rw [z1] at HH
    clear z z1 hv hv2
    generalize Um.unR Um.mBy ol oh al ah bl bh = R at *
    go_enter Tryd.func59, Tryd.ntmps59
    go_wp2_with (go_at_call 60; refine (HH _).out.mono ?_; rintro e wn ⟨rfl, rfl⟩; replace hF := hF.alloc (.cells #[.int .i64 bl, .int .i64 bh] 23); clear x1l x1h; have x3l := (hF.at 3 rfl).lo; have x3h := (hF.at 3 rfl).hi; have y1 := (hF.at 0 rfl).fl; have y2 := (hF.at 0 rfl).fh; have y3 := (hF.at 0 rfl).lo; have y4 := (hF.at 0 rfl).hi; have y6 := (hF.at 0 rfl).r0; have y7 := (hF.at 0 rfl).r1)
    refine bodyPost_ret (by simp [results, Tryd.results59, go_sem, y6, y7]; try rfl) rfl ?_
    rw [HR.out, errV_none]
    exact ⟨rfl, by go_grown⟩
  · have z1 : (decide (bl ≤ 0) && decide (0 ≤ bh)) = false := by
      rcases (by omega : ¬ bl ≤ 0 ∨ ¬ 0 ≤ bh) with h | h <;> simp [h]
    have HR := hid (Um.un_not (R := Um.mBy) (ol := ol) (oh := oh) (al := al) (ah := ah) z)
    rw [z1] at HH
    have HB := fun w hv => hid (nwMeet_sby ol oh al ah bl bh B2 w hv)
    clear z z1
    generalize Um.unR Um.mBy ol oh al ah bl bh = R at *
    generalize Um.mBy ol oh al ah bl bh = N at *
    go_enter Tryd.func59, Tryd.ntmps59
    go_wp2_with (first | (go_at_call 60; refine (HH _).out.mono ?_; rintro e wn ⟨rfl, rfl⟩; replace hF := hF.alloc (.cells #[.int .i64 bl, .int .i64 bh] 23); clear x1l x1h; have x1l := (hF.at 1 rfl).lo; have x1h := (hF.at 1 rfl).hi; have x2l := (hF.at 2 rfl).lo; have x2h := (hF.at 2 rfl).hi; have x3l := (hF.at 3 rfl).lo; have x3h := (hF.at 3 rfl).hi; have yf := (hv.step hF.below).c) | (go_at_call 49; refine (HB _ (hv2.step hF.below)).out.mono ?_; rintro e wn ⟨rfl, hb⟩; replace hF := hF.step hb; clear hb; clear x1l x1h x2l x2h x3l x3h; clear yf; have y1 := (hF.at 0 rfl).fl; have y2 := (hF.at 0 rfl).fh; have y3 := (hF.at 0 rfl).lo; have y4 := (hF.at 0 rfl).hi; have y6 := (hF.at 0 rfl).r0; have y7 := (hF.at 0 rfl).r1))
    refine bodyPost_ret (by simp [results, Tryd.results59, go_sem, y6, y7]; try rfl) rfl ?_
    rw [HR.out]
    exact ⟨rfl, (hF.put 0 rfl _ _ rfl).below⟩
end Go.Proofs.YtomkekapgcpihaaDoor
