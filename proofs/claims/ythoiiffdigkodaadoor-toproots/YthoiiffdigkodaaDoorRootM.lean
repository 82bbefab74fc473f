/-
  What package root answers: May, Sure, at every argument.
-/
import Derived.Test.YthoiiffdigkodaaDoorMono
import Derived.Test.YthoiiffdigkodaaDoorMaths
namespace Go.Proofs.YthoiiffdigkodaaDoor
set_option linter.unusedSimpArgs false
open Go.RowKit

set_option maxHeartbeats 4000000 in
theorem may_any (p : List Int) (v : Value) (lo hi : Int) (w : World) (hl : Li w.heap.size w v p) :
    Calls Tryd.prog 49 #[v, .agg #[.int .i64 lo, .int .i64 hi]] w fun e w' => e = .returned (.tuple #[.bool (Um.mayB p lo hi), errV (Um.monoAll p lo hi).2.2]) ∧ Below w.heap.size w w' := by
  have v0 := errV_none
  have q1 := errG
  have q2 := errGn
  have q3 := errE
  have q4 := errN
  have HM := fun w hl => hid (mrange_any p v lo hi w hl)
  have hF := (Fr.start w).push lo hi rfl
  have x0l := (hF.at 0 rfl).lo
  have x0h := (hF.at 0 rfl).hi
  have HX : Hid (Um.mayB p lo hi = (decide ((Um.monoAll p lo hi).2.2 = 0) && (decide ((Um.monoAll p lo hi).1 ≤ 0) && decide (0 ≤ (Um.monoAll p lo hi).2.1)))) := hid rfl
  generalize Um.mayB p lo hi = B at *
  generalize Um.monoAll p lo hi = M at *
  by_cases h : M.2.2 = 0
  · have k : (M.2.2 != 0) = false := by simpa using h
    have HZ := hid h
    clear h
    obtain ⟨a0, cap0, rfl, -⟩ := (id hl)
    go_enter Tryd.func49, Tryd.ntmps49
    go_wp2_with (first | (go_at_call 20; refine (HM _ (hF.li hl)).out.mono ?_; rintro e wn ⟨rfl, hb⟩; replace hF := hF.step hb; clear hb; clear x0l x0h; replace hF := hF.push M.1 M.2.1 rfl; have x0l := (hF.at 0 rfl).lo; have x0h := (hF.at 0 rfl).hi) | (go_at_call 25; refine (has_any _ _ _ _).mono ?_; rintro e wa ⟨rfl, rfl⟩))
    go_returns
    rw [HX.out, HZ.out]
    exact ⟨rfl, (hF.alloc _).below⟩
  · have k : (M.2.2 != 0) = true := by simpa using h
    have HZ : Hid (decide (M.2.2 = 0) = false) := hid (by simpa using h)
    clear h
    obtain ⟨a0, cap0, rfl, -⟩ := (id hl)
    go_enter Tryd.func49, Tryd.ntmps49
    go_wp2_with (first | (go_at_call 20; refine (HM _ (hF.li hl)).out.mono ?_; rintro e wn ⟨rfl, hb⟩; replace hF := hF.step hb; clear hb; clear x0l x0h))
    go_returns
    rw [HX.out, HZ.out]
    exact ⟨rfl, (hF.alloc _).below⟩

theorem above_any (al ah bl bh : Int) (w : World) :
    Calls Tryd.prog 28 #[.agg #[.int .i64 al, .int .i64 ah], .agg #[.int .i64 bl, .int .i64 bh]] w fun e w' => e = .returned (.bool (decide (0 ≤ al) && decide (bh ≤ 0))) ∧ Below w.heap.size w w' := by
  by_cases h : 0 ≤ al
  · have h' : decide (0 ≤ al) = true := by simpa using h
    go_enter Tryd.func28, Tryd.ntmps28
    go_wp2
    go_returns
    exact ⟨by rw [h']; rfl, by go_grown⟩
  · have h' : decide (0 ≤ al) = false := by simpa using h
    go_enter Tryd.func28, Tryd.ntmps28
    go_wp2
    go_returns
    exact ⟨rfl, by go_grown⟩

set_option maxRecDepth 100000 in
set_option maxHeartbeats 8000000 in
theorem sure_any (p : List Int) (v : Value) (lo hi : Int) (w : World) (hl : Li w.heap.size w v p) :
    Calls Tryd.prog 9 #[v, .agg #[.int .i64 lo, .int .i64 hi]] w fun e w' => e = .returned (.tuple #[.bool (Um.sureB p lo hi), errV (Um.monoAll p lo hi).2.2]) ∧ Below w.heap.size w w' := by
  have v0 := errV_none
  have q1 := errG
  have q2 := errGn
  have q3 := errE
  have q4 := errN
  have HM := fun w hl => hid (mrange_any p v lo hi w hl)
  have hF := (Fr.start w).push lo hi rfl
  have x0l := (hF.at 0 rfl).lo
  have x0h := (hF.at 0 rfl).hi
  by_cases h : (Um.monoAll p lo hi).2.2 = 0
  · have k : ((Um.monoAll p lo hi).2.2 != 0) = false := by simpa using h
    obtain ⟨e1, kS, e2, kA, e3, kC⟩ := Um.sure_parts h
    have HX := hid (Um.sure_is h)
    have HZ := hid h
    have HS := fun w hl => hid (slope_any p v lo hi w hl)
    have HA := fun w hl => hid (horner_any p v lo lo w hl)
    have HC := fun w hl => hid (horner_any p v hi hi w hl)
    rw [e1] at HS
    rw [e2] at HA
    rw [e3] at HC
    have jS : ((Um.slopeR lo hi p).2.2 != 0) = false := by simpa using kS
    have jA : ((Um.hornR lo lo p).2.2 != 0) = false := by simpa using kA
    have jC : ((Um.hornR hi hi p).2.2 != 0) = false := by simpa using kC
    clear h e1 e2 e3 kS kA kC
    generalize Um.monoAll p lo hi = M at *
    generalize Um.slopeR lo hi p = S at *
    generalize Um.hornR lo lo p = A at *
    generalize Um.hornR hi hi p = C at *
    generalize Um.sureB p lo hi = B at *
    cases z : (decide (S.1 ≤ 0) && decide (0 ≤ S.2.1))
    · rw [z] at HX
      cases z1 : (decide (0 ≤ A.1) && decide (C.2.1 ≤ 0))
      · rw [z1] at HX
        obtain ⟨a0, cap0, rfl, -⟩ := (id hl)
        go_enter Tryd.func9, Tryd.ntmps9
        go_wp2_with (first | (go_at_call 20; refine (HM _ (hF.li hl)).out.mono ?_; rintro e wn ⟨rfl, hb⟩; replace hF := hF.step hb; clear hb; clear x0l x0h; replace hF := hF.push M.1 M.2.1 rfl; have x1l := (hF.at 1 rfl).lo; have x1h := (hF.at 1 rfl).hi) | (go_at_call 24; refine (HS _ (hF.li hl)).out.mono ?_; rintro e wn ⟨rfl, hb⟩; replace hF := hF.step hb; clear hb; clear x1l x1h; clear HS; replace hF := hF.push S.1 S.2.1 rfl; have x0l := (hF.at 0 rfl).lo; have x0h := (hF.at 0 rfl).hi) | (go_at_call 25; refine (has_any _ _ _ _).mono ?_; rintro e wa ⟨rfl, rfl⟩; replace hF := hF.alloc (.cells #[.int .i64 S.1, .int .i64 S.2.1] 28); clear x0l x0h; have x2l := (hF.at 2 rfl).lo; have x2h := (hF.at 2 rfl).hi) | (go_at_call 27; refine (alone_any _ _).mono ?_; rintro e wa ⟨rfl, rfl⟩) | (go_at_call 26; refine (HA _ ((hF.alloc _).li hl)).out.mono ?_; rintro e wn ⟨rfl, hb⟩; replace hF := (hF.alloc _).step hb; clear hb; clear HA; clear x2l x2h; replace hF := hF.push A.1 A.2.1 rfl; have x3l := (hF.at 3 rfl).lo; have x3h := (hF.at 3 rfl).hi) | (go_at_call 26; refine (HC _ ((hF.alloc _).li hl)).out.mono ?_; rintro e wn ⟨rfl, hb⟩; replace hF := (hF.alloc _).step hb; clear hb; clear HC; clear x3l x3h; replace hF := hF.push C.1 C.2.1 rfl; have x0l := (hF.at 0 rfl).lo; have x0h := (hF.at 0 rfl).hi; have x1l := (hF.at 1 rfl).lo; have x1h := (hF.at 1 rfl).hi) | (go_at_call 28; refine (above_any _ _ _ _ _).mono ?_; rintro e wn ⟨rfl, hb⟩; replace hF := hF.step hb; clear hb; clear x0l x0h x1l x1h; have x0l := (hF.at 0 rfl).lo; have x0h := (hF.at 0 rfl).hi; have x1l := (hF.at 1 rfl).lo; have x1h := (hF.at 1 rfl).hi))
        go_returns
        rw [HX.out, HZ.out]
        exact ⟨rfl, hF.below⟩
      · rw [z1] at HX
        obtain ⟨a0, cap0, rfl, -⟩ := (id hl)
        go_enter Tryd.func9, Tryd.ntmps9
        go_wp2_with (first | (go_at_call 20; refine (HM _ (hF.li hl)).out.mono ?_; rintro e wn ⟨rfl, hb⟩; replace hF := hF.step hb; clear hb; clear x0l x0h; replace hF := hF.push M.1 M.2.1 rfl; have x1l := (hF.at 1 rfl).lo; have x1h := (hF.at 1 rfl).hi) | (go_at_call 24; refine (HS _ (hF.li hl)).out.mono ?_; rintro e wn ⟨rfl, hb⟩; replace hF := hF.step hb; clear hb; clear x1l x1h; clear HS; replace hF := hF.push S.1 S.2.1 rfl; have x0l := (hF.at 0 rfl).lo; have x0h := (hF.at 0 rfl).hi) | (go_at_call 25; refine (has_any _ _ _ _).mono ?_; rintro e wa ⟨rfl, rfl⟩; replace hF := hF.alloc (.cells #[.int .i64 S.1, .int .i64 S.2.1] 28); clear x0l x0h; have x2l := (hF.at 2 rfl).lo; have x2h := (hF.at 2 rfl).hi) | (go_at_call 27; refine (alone_any _ _).mono ?_; rintro e wa ⟨rfl, rfl⟩) | (go_at_call 26; refine (HA _ ((hF.alloc _).li hl)).out.mono ?_; rintro e wn ⟨rfl, hb⟩; replace hF := (hF.alloc _).step hb; clear hb; clear HA; clear x2l x2h; replace hF := hF.push A.1 A.2.1 rfl; have x3l := (hF.at 3 rfl).lo; have x3h := (hF.at 3 rfl).hi) | (go_at_call 26; refine (HC _ ((hF.alloc _).li hl)).out.mono ?_; rintro e wn ⟨rfl, hb⟩; replace hF := (hF.alloc _).step hb; clear hb; clear HC; clear x3l x3h; replace hF := hF.push C.1 C.2.1 rfl; have x0l := (hF.at 0 rfl).lo; have x0h := (hF.at 0 rfl).hi; have x1l := (hF.at 1 rfl).lo; have x1h := (hF.at 1 rfl).hi) | (go_at_call 28; refine (above_any _ _ _ _ _).mono ?_; rintro e wn ⟨rfl, hb⟩; replace hF := hF.step hb; clear hb; clear x0l x0h x1l x1h; have x0l := (hF.at 0 rfl).lo; have x0h := (hF.at 0 rfl).hi; have x1l := (hF.at 1 rfl).lo; have x1h := (hF.at 1 rfl).hi))
        go_returns
        rw [HX.out, HZ.out]
        exact ⟨rfl, hF.below⟩
    · rw [z] at HX
      obtain ⟨a0, cap0, rfl, -⟩ := (id hl)
      go_enter Tryd.func9, Tryd.ntmps9
      go_wp2_with (first | (go_at_call 20; refine (HM _ (hF.li hl)).out.mono ?_; rintro e wn ⟨rfl, hb⟩; replace hF := hF.step hb; clear hb; clear x0l x0h; replace hF := hF.push M.1 M.2.1 rfl; have x1l := (hF.at 1 rfl).lo; have x1h := (hF.at 1 rfl).hi) | (go_at_call 24; refine (HS _ (hF.li hl)).out.mono ?_; rintro e wn ⟨rfl, hb⟩; replace hF := hF.step hb; clear hb; clear x1l x1h; clear HS; replace hF := hF.push S.1 S.2.1 rfl; have x0l := (hF.at 0 rfl).lo; have x0h := (hF.at 0 rfl).hi) | (go_at_call 25; refine (has_any _ _ _ _).mono ?_; rintro e wa ⟨rfl, rfl⟩))
      go_returns
      rw [HX.out, HZ.out]
      exact ⟨rfl, (hF.alloc _).below⟩
  · have k : ((Um.monoAll p lo hi).2.2 != 0) = true := by simpa using h
    have HX : Hid (Um.sureB p lo hi = false) := hid (by unfold Um.sureB; simp [h])
    clear h
    generalize Um.sureB p lo hi = B at *
    generalize Um.monoAll p lo hi = M at *
    obtain ⟨a0, cap0, rfl, -⟩ := (id hl)
    go_enter Tryd.func9, Tryd.ntmps9
    go_wp2_with (first | (go_at_call 20; refine (HM _ (hF.li hl)).out.mono ?_; rintro e wn ⟨rfl, hb⟩; replace hF := hF.step hb; clear hb; clear x0l x0h))
    go_returns
    rw [HX.out]
    exact ⟨rfl, (hF.alloc _).below⟩
end Go.Proofs.YthoiiffdigkodaaDoor
