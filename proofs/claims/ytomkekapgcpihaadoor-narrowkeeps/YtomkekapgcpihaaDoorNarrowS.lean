/-
  What package narrow answers: together as a sum, Sum, at every argument.
-/
import Derived.Test.YtomkekapgcpihaaDoorNarrowC
namespace Go.Proofs.YtomkekapgcpihaaDoor
set_option linter.unusedSimpArgs false
open Go.RowKit

set_option maxRecDepth 100000 in
set_option maxHeartbeats 4000000 in
theorem togS_bad (xl xh yl yh zl zh : Int) (p1 p2 : Nat) (w : World) (_hv1 : FuAt w p1 (.func (.func 25) #[] #[])) (_hv2 : FuAt w p2 (.func (.func 26) #[] #[])) (h : ¬ Um.narF xl xh yl yh zl zh = 0) :
    Calls Tryd.prog 23 #[.agg #[.int .i64 xl, .int .i64 xh], .agg #[.int .i64 yl, .int .i64 yh], .agg #[.int .i64 zl, .int .i64 zh], .func (.func 49) #[] #[.pointer (some ⟨p1, 0, none⟩)], .func (.func 49) #[] #[.pointer (some ⟨p2, 0, none⟩)]] w fun e w' => e = .returned (.tuple #[.agg #[.int .i64 (Um.togR Um.mAdd Um.mLess xl xh yl yh zl zh).1.1, .int .i64 (Um.togR Um.mAdd Um.mLess xl xh yl yh zl zh).1.2], .agg #[.int .i64 (Um.togR Um.mAdd Um.mLess xl xh yl yh zl zh).2.1.1, .int .i64 (Um.togR Um.mAdd Um.mLess xl xh yl yh zl zh).2.1.2], .agg #[.int .i64 (Um.togR Um.mAdd Um.mLess xl xh yl yh zl zh).2.2.1.1, .int .i64 (Um.togR Um.mAdd Um.mLess xl xh yl yh zl zh).2.2.1.2], errV (Um.togR Um.mAdd Um.mLess xl xh yl yh zl zh).2.2.2]) ∧ Below w.heap.size w w' := by
  have v0 := errV_none
  have q1 := errG
  have q2 := errGn
  have q3 := errE
  have q4 := errN
  have hF := ((((((Fr.start w).push xl xh rfl).push (b := w.heap.size + 1) yl yh (by simp)).push (b := w.heap.size + 1 + 1) zl zh (by simp)).push (b := w.heap.size + 1 + 1 + 1) 0 0 (by simp)).push (b := w.heap.size + 1 + 1 + 1 + 1) 0 0 (by simp)).push (b := w.heap.size + 1 + 1 + 1 + 1 + 1) 0 0 (by simp)
  have x3l := (hF.at 3 rfl).lo
  have x3h := (hF.at 3 rfl).hi
  have x4l := (hF.at 4 rfl).lo
  have x4h := (hF.at 4 rfl).hi
  have x5l := (hF.at 5 rfl).lo
  have x5h := (hF.at 5 rfl).hi
  have HCA := fun w {b : Nat} (hb : b = w.heap.size) => hid (checkThree xl xh yl yh zl zh w hb)
  have HR := hid (Um.tog_bad (R1 := Um.mAdd) (R2 := Um.mLess) h)
  have k : (Um.narF xl xh yl yh zl zh != 0) = true := by simpa using h
  clear h
  generalize Um.togR Um.mAdd Um.mLess xl xh yl yh zl zh = R at *
  generalize Um.narF xl xh yl yh zl zh = G at *
  have HN := fun w => hid (nwNothing_any G w)
  go_enter Tryd.func23, Tryd.ntmps23
  go_wp2_with (first | (go_at_call 47; refine (HCA _ (by simp)).out.mono ?_; rintro e wn ⟨rfl, hb⟩; replace hF := hF.step hb; clear hb; clear x3l x3h x4l x4h x5l x5h; skip) | (go_at_call 48; refine (HN _).out.mono ?_; rintro e wn ⟨rfl, hb⟩; replace hF := hF.step hb; clear hb; have y1 := (hF.at 2 rfl).fl; have y2 := (hF.at 2 rfl).fh; have y3 := (hF.at 2 rfl).lo; have y4 := (hF.at 2 rfl).hi; have hF0 := hF.put 2 rfl 0 0 rfl; have y5 := (hF0.at 1 rfl).fl; have y6 := (hF0.at 1 rfl).fh; have y7 := (hF0.at 1 rfl).lo; have y8 := (hF0.at 1 rfl).hi; have hF1 := hF0.put 1 rfl 0 0 rfl; have y9 := (hF1.at 0 rfl).fl; have y10 := (hF1.at 0 rfl).fh; have y11 := (hF1.at 0 rfl).lo; have y12 := (hF1.at 0 rfl).hi; replace hF := hF1.put 0 rfl 0 0 rfl; clear hF0 hF1; have z1 := (hF.at 2 rfl).lo; have z2 := (hF.at 2 rfl).hi; have z3 := (hF.at 1 rfl).lo; have z4 := (hF.at 1 rfl).hi; have z5 := (hF.at 0 rfl).lo; have z6 := (hF.at 0 rfl).hi))
  refine bodyPost_ret (by simp [results, Tryd.results23, go_sem, z1, z2, z3, z4, z5, z6]; try rfl) rfl ?_
  rw [HR.out]
  exact ⟨rfl, hF.below⟩

set_option maxRecDepth 100000 in
set_option maxHeartbeats 4000000 in
theorem togS_c (xl xh yl yh zl zh : Int) (p1 p2 : Nat) (w : World) (hv1 : FuAt w p1 (.func (.func 25) #[] #[])) (_hv2 : FuAt w p2 (.func (.func 26) #[] #[])) (h : Um.narF xl xh yl yh zl zh = 0) {C A B : Int × Int × Int} (eC : Um.mAdd zl zh xl xh yl yh = C) (eA : Um.mLess xl xh C.1 C.2.1 yl yh = A) (eB : Um.mLess yl yh C.1 C.2.1 A.1 A.2.1 = B) (hC : ¬ C.2.2 = 0) :
    Calls Tryd.prog 23 #[.agg #[.int .i64 xl, .int .i64 xh], .agg #[.int .i64 yl, .int .i64 yh], .agg #[.int .i64 zl, .int .i64 zh], .func (.func 49) #[] #[.pointer (some ⟨p1, 0, none⟩)], .func (.func 49) #[] #[.pointer (some ⟨p2, 0, none⟩)]] w fun e w' => e = .returned (.tuple #[.agg #[.int .i64 (Um.togR Um.mAdd Um.mLess xl xh yl yh zl zh).1.1, .int .i64 (Um.togR Um.mAdd Um.mLess xl xh yl yh zl zh).1.2], .agg #[.int .i64 (Um.togR Um.mAdd Um.mLess xl xh yl yh zl zh).2.1.1, .int .i64 (Um.togR Um.mAdd Um.mLess xl xh yl yh zl zh).2.1.2], .agg #[.int .i64 (Um.togR Um.mAdd Um.mLess xl xh yl yh zl zh).2.2.1.1, .int .i64 (Um.togR Um.mAdd Um.mLess xl xh yl yh zl zh).2.2.1.2], errV (Um.togR Um.mAdd Um.mLess xl xh yl yh zl zh).2.2.2]) ∧ Below w.heap.size w w' := by
  have v0 := errV_none
  have q1 := errG
  have q2 := errGn
  have q3 := errE
  have q4 := errN
  have hF := ((((((Fr.start w).push xl xh rfl).push (b := w.heap.size + 1) yl yh (by simp)).push (b := w.heap.size + 1 + 1) zl zh (by simp)).push (b := w.heap.size + 1 + 1 + 1) 0 0 (by simp)).push (b := w.heap.size + 1 + 1 + 1 + 1) 0 0 (by simp)).push (b := w.heap.size + 1 + 1 + 1 + 1 + 1) 0 0 (by simp)
  have x3l := (hF.at 3 rfl).lo
  have x3h := (hF.at 3 rfl).hi
  have x4l := (hF.at 4 rfl).lo
  have x4h := (hF.at 4 rfl).hi
  have x5l := (hF.at 5 rfl).lo
  have x5h := (hF.at 5 rfl).hi
  have HCA := fun w {b : Nat} (hb : b = w.heap.size) => hid (checkThree xl xh yl yh zl zh w hb)
  have HR := hid (Um.tog_is (R1 := Um.mAdd) (R2 := Um.mLess) h eC eA eB)
  rw [if_neg hC] at HR
  have k : (Um.narF xl xh yl yh zl zh != 0) = false := by simpa using h
  have HC := fun w hv => hid (nwMeet_add zl zh xl xh yl yh p1 w hv)
  rw [eC] at HC
  have kC : (C.2.2 != 0) = true := by simpa using hC
  clear h eA eB eC hC
  generalize Um.togR Um.mAdd Um.mLess xl xh yl yh zl zh = R at *
  generalize Um.narF xl xh yl yh zl zh = G at *
  have HN := fun w => hid (nwNothing_any C.2.2 w)
  go_enter Tryd.func23, Tryd.ntmps23
  go_wp2_with (first | (go_at_call 47; refine (HCA _ (by simp)).out.mono ?_; rintro e wn ⟨rfl, hb⟩; replace hF := hF.step hb; clear hb; clear x3l x3h x4l x4h x5l x5h; have x3l := (hF.at 3 rfl).lo; have x3h := (hF.at 3 rfl).hi; have x4l := (hF.at 4 rfl).lo; have x4h := (hF.at 4 rfl).hi; have x5l := (hF.at 5 rfl).lo; have x5h := (hF.at 5 rfl).hi) | (go_at_call 49; refine (HC _ (hv1.step hF.below)).out.mono ?_; rintro e wc ⟨rfl, hb⟩; replace hF := hF.step hb; clear hb; clear x3l x3h x4l x4h x5l x5h; clear HC; replace hF := hF.push C.1 C.2.1 rfl; skip) | (go_at_call 48; refine (HN _).out.mono ?_; rintro e wn ⟨rfl, hb⟩; replace hF := hF.step hb; clear hb; have y1 := (hF.at 3 rfl).fl; have y2 := (hF.at 3 rfl).fh; have y3 := (hF.at 3 rfl).lo; have y4 := (hF.at 3 rfl).hi; have hF0 := hF.put 3 rfl 0 0 rfl; have y5 := (hF0.at 2 rfl).fl; have y6 := (hF0.at 2 rfl).fh; have y7 := (hF0.at 2 rfl).lo; have y8 := (hF0.at 2 rfl).hi; have hF1 := hF0.put 2 rfl 0 0 rfl; have y9 := (hF1.at 1 rfl).fl; have y10 := (hF1.at 1 rfl).fh; have y11 := (hF1.at 1 rfl).lo; have y12 := (hF1.at 1 rfl).hi; replace hF := hF1.put 1 rfl 0 0 rfl; clear hF0 hF1; have z1 := (hF.at 3 rfl).lo; have z2 := (hF.at 3 rfl).hi; have z3 := (hF.at 2 rfl).lo; have z4 := (hF.at 2 rfl).hi; have z5 := (hF.at 1 rfl).lo; have z6 := (hF.at 1 rfl).hi))
  refine bodyPost_ret (by simp [results, Tryd.results23, go_sem, z1, z2, z3, z4, z5, z6]; try rfl) rfl ?_
  rw [HR.out]
  exact ⟨rfl, hF.below⟩

set_option maxRecDepth 100000 in
set_option maxHeartbeats 4000000 in
theorem togS_a (xl xh yl yh zl zh : Int) (p1 p2 : Nat) (w : World) (hv1 : FuAt w p1 (.func (.func 25) #[] #[])) (hv2 : FuAt w p2 (.func (.func 26) #[] #[])) (h : Um.narF xl xh yl yh zl zh = 0) {C A B : Int × Int × Int} (eC : Um.mAdd zl zh xl xh yl yh = C) (eA : Um.mLess xl xh C.1 C.2.1 yl yh = A) (eB : Um.mLess yl yh C.1 C.2.1 A.1 A.2.1 = B) (hC : C.2.2 = 0) (hA : ¬ A.2.2 = 0) :
    Calls Tryd.prog 23 #[.agg #[.int .i64 xl, .int .i64 xh], .agg #[.int .i64 yl, .int .i64 yh], .agg #[.int .i64 zl, .int .i64 zh], .func (.func 49) #[] #[.pointer (some ⟨p1, 0, none⟩)], .func (.func 49) #[] #[.pointer (some ⟨p2, 0, none⟩)]] w fun e w' => e = .returned (.tuple #[.agg #[.int .i64 (Um.togR Um.mAdd Um.mLess xl xh yl yh zl zh).1.1, .int .i64 (Um.togR Um.mAdd Um.mLess xl xh yl yh zl zh).1.2], .agg #[.int .i64 (Um.togR Um.mAdd Um.mLess xl xh yl yh zl zh).2.1.1, .int .i64 (Um.togR Um.mAdd Um.mLess xl xh yl yh zl zh).2.1.2], .agg #[.int .i64 (Um.togR Um.mAdd Um.mLess xl xh yl yh zl zh).2.2.1.1, .int .i64 (Um.togR Um.mAdd Um.mLess xl xh yl yh zl zh).2.2.1.2], errV (Um.togR Um.mAdd Um.mLess xl xh yl yh zl zh).2.2.2]) ∧ Below w.heap.size w w' := by
  have v0 := errV_none
  have q1 := errG
  have q2 := errGn
  have q3 := errE
  have q4 := errN
  have hF := ((((((Fr.start w).push xl xh rfl).push (b := w.heap.size + 1) yl yh (by simp)).push (b := w.heap.size + 1 + 1) zl zh (by simp)).push (b := w.heap.size + 1 + 1 + 1) 0 0 (by simp)).push (b := w.heap.size + 1 + 1 + 1 + 1) 0 0 (by simp)).push (b := w.heap.size + 1 + 1 + 1 + 1 + 1) 0 0 (by simp)
  have x3l := (hF.at 3 rfl).lo
  have x3h := (hF.at 3 rfl).hi
  have x4l := (hF.at 4 rfl).lo
  have x4h := (hF.at 4 rfl).hi
  have x5l := (hF.at 5 rfl).lo
  have x5h := (hF.at 5 rfl).hi
  have HCA := fun w {b : Nat} (hb : b = w.heap.size) => hid (checkThree xl xh yl yh zl zh w hb)
  have HR := hid (Um.tog_is (R1 := Um.mAdd) (R2 := Um.mLess) h eC eA eB)
  rw [if_pos hC, if_neg hA] at HR
  have k : (Um.narF xl xh yl yh zl zh != 0) = false := by simpa using h
  have HC := fun w hv => hid (nwMeet_add zl zh xl xh yl yh p1 w hv)
  rw [eC] at HC
  have HA := fun w hv => hid (nwMeet_less xl xh C.1 C.2.1 yl yh p2 w hv)
  rw [eA] at HA
  have kC : (C.2.2 != 0) = false := by simpa using hC
  have kA : (A.2.2 != 0) = true := by simpa using hA
  clear h eA eB eC hC hA
  generalize Um.togR Um.mAdd Um.mLess xl xh yl yh zl zh = R at *
  generalize Um.narF xl xh yl yh zl zh = G at *
  have HN := fun w => hid (nwNothing_any A.2.2 w)
  go_enter Tryd.func23, Tryd.ntmps23
  go_wp2_with (first | (go_at_call 47; refine (HCA _ (by simp)).out.mono ?_; rintro e wn ⟨rfl, hb⟩; replace hF := hF.step hb; clear hb; clear x3l x3h x4l x4h x5l x5h; have x3l := (hF.at 3 rfl).lo; have x3h := (hF.at 3 rfl).hi; have x4l := (hF.at 4 rfl).lo; have x4h := (hF.at 4 rfl).hi; have x5l := (hF.at 5 rfl).lo; have x5h := (hF.at 5 rfl).hi) | (go_at_call 49; refine (HC _ (hv1.step hF.below)).out.mono ?_; rintro e wc ⟨rfl, hb⟩; replace hF := hF.step hb; clear hb; clear x3l x3h x4l x4h x5l x5h; clear HC; replace hF := hF.push C.1 C.2.1 rfl; have x0l := (hF.at 0 rfl).lo; have x0h := (hF.at 0 rfl).hi; have x5l := (hF.at 5 rfl).lo; have x5h := (hF.at 5 rfl).hi; have x6l := (hF.at 6 rfl).lo; have x6h := (hF.at 6 rfl).hi) | (go_at_call 49; refine (HA _ (hv2.step hF.below)).out.mono ?_; rintro e wa ⟨rfl, hb⟩; replace hF := hF.step hb; clear hb; clear x0l x0h x5l x5h x6l x6h; clear HA; replace hF := hF.push A.1 A.2.1 rfl; skip) | (go_at_call 48; refine (HN _).out.mono ?_; rintro e wn ⟨rfl, hb⟩; replace hF := hF.step hb; clear hb; have y1 := (hF.at 4 rfl).fl; have y2 := (hF.at 4 rfl).fh; have y3 := (hF.at 4 rfl).lo; have y4 := (hF.at 4 rfl).hi; have hF0 := hF.put 4 rfl 0 0 rfl; have y5 := (hF0.at 3 rfl).fl; have y6 := (hF0.at 3 rfl).fh; have y7 := (hF0.at 3 rfl).lo; have y8 := (hF0.at 3 rfl).hi; have hF1 := hF0.put 3 rfl 0 0 rfl; have y9 := (hF1.at 2 rfl).fl; have y10 := (hF1.at 2 rfl).fh; have y11 := (hF1.at 2 rfl).lo; have y12 := (hF1.at 2 rfl).hi; replace hF := hF1.put 2 rfl 0 0 rfl; clear hF0 hF1; have z1 := (hF.at 4 rfl).lo; have z2 := (hF.at 4 rfl).hi; have z3 := (hF.at 3 rfl).lo; have z4 := (hF.at 3 rfl).hi; have z5 := (hF.at 2 rfl).lo; have z6 := (hF.at 2 rfl).hi))
  refine bodyPost_ret (by simp [results, Tryd.results23, go_sem, z1, z2, z3, z4, z5, z6]; try rfl) rfl ?_
  rw [HR.out]
  exact ⟨rfl, hF.below⟩

set_option maxRecDepth 100000 in
set_option maxHeartbeats 4000000 in
theorem togS_b (xl xh yl yh zl zh : Int) (p1 p2 : Nat) (w : World) (hv1 : FuAt w p1 (.func (.func 25) #[] #[])) (hv2 : FuAt w p2 (.func (.func 26) #[] #[])) (h : Um.narF xl xh yl yh zl zh = 0) {C A B : Int × Int × Int} (eC : Um.mAdd zl zh xl xh yl yh = C) (eA : Um.mLess xl xh C.1 C.2.1 yl yh = A) (eB : Um.mLess yl yh C.1 C.2.1 A.1 A.2.1 = B) (hC : C.2.2 = 0) (hA : A.2.2 = 0) (hB : ¬ B.2.2 = 0) :
    Calls Tryd.prog 23 #[.agg #[.int .i64 xl, .int .i64 xh], .agg #[.int .i64 yl, .int .i64 yh], .agg #[.int .i64 zl, .int .i64 zh], .func (.func 49) #[] #[.pointer (some ⟨p1, 0, none⟩)], .func (.func 49) #[] #[.pointer (some ⟨p2, 0, none⟩)]] w fun e w' => e = .returned (.tuple #[.agg #[.int .i64 (Um.togR Um.mAdd Um.mLess xl xh yl yh zl zh).1.1, .int .i64 (Um.togR Um.mAdd Um.mLess xl xh yl yh zl zh).1.2], .agg #[.int .i64 (Um.togR Um.mAdd Um.mLess xl xh yl yh zl zh).2.1.1, .int .i64 (Um.togR Um.mAdd Um.mLess xl xh yl yh zl zh).2.1.2], .agg #[.int .i64 (Um.togR Um.mAdd Um.mLess xl xh yl yh zl zh).2.2.1.1, .int .i64 (Um.togR Um.mAdd Um.mLess xl xh yl yh zl zh).2.2.1.2], errV (Um.togR Um.mAdd Um.mLess xl xh yl yh zl zh).2.2.2]) ∧ Below w.heap.size w w' := by
  have v0 := errV_none
  have q1 := errG
  have q2 := errGn
  have q3 := errE
  have q4 := errN
  have hF := ((((((Fr.start w).push xl xh rfl).push (b := w.heap.size + 1) yl yh (by simp)).push (b := w.heap.size + 1 + 1) zl zh (by simp)).push (b := w.heap.size + 1 + 1 + 1) 0 0 (by simp)).push (b := w.heap.size + 1 + 1 + 1 + 1) 0 0 (by simp)).push (b := w.heap.size + 1 + 1 + 1 + 1 + 1) 0 0 (by simp)
  have x3l := (hF.at 3 rfl).lo
  have x3h := (hF.at 3 rfl).hi
  have x4l := (hF.at 4 rfl).lo
  have x4h := (hF.at 4 rfl).hi
  have x5l := (hF.at 5 rfl).lo
  have x5h := (hF.at 5 rfl).hi
  have HCA := fun w {b : Nat} (hb : b = w.heap.size) => hid (checkThree xl xh yl yh zl zh w hb)
  have HR := hid (Um.tog_is (R1 := Um.mAdd) (R2 := Um.mLess) h eC eA eB)
  rw [if_pos hC, if_pos hA, if_neg hB] at HR
  have k : (Um.narF xl xh yl yh zl zh != 0) = false := by simpa using h
  have HC := fun w hv => hid (nwMeet_add zl zh xl xh yl yh p1 w hv)
  rw [eC] at HC
  have HA := fun w hv => hid (nwMeet_less xl xh C.1 C.2.1 yl yh p2 w hv)
  rw [eA] at HA
  have HB := fun w hv => hid (nwMeet_less yl yh C.1 C.2.1 A.1 A.2.1 p2 w hv)
  rw [eB] at HB
  have kC : (C.2.2 != 0) = false := by simpa using hC
  have kA : (A.2.2 != 0) = false := by simpa using hA
  have kB : (B.2.2 != 0) = true := by simpa using hB
  clear h eA eB eC hC hA hB
  generalize Um.togR Um.mAdd Um.mLess xl xh yl yh zl zh = R at *
  generalize Um.narF xl xh yl yh zl zh = G at *
  have HN := fun w => hid (nwNothing_any B.2.2 w)
  go_enter Tryd.func23, Tryd.ntmps23
  go_wp2_with (first | (go_at_call 47; refine (HCA _ (by simp)).out.mono ?_; rintro e wn ⟨rfl, hb⟩; replace hF := hF.step hb; clear hb; clear x3l x3h x4l x4h x5l x5h; have x3l := (hF.at 3 rfl).lo; have x3h := (hF.at 3 rfl).hi; have x4l := (hF.at 4 rfl).lo; have x4h := (hF.at 4 rfl).hi; have x5l := (hF.at 5 rfl).lo; have x5h := (hF.at 5 rfl).hi) | (go_at_call 49; refine (HC _ (hv1.step hF.below)).out.mono ?_; rintro e wc ⟨rfl, hb⟩; replace hF := hF.step hb; clear hb; clear x3l x3h x4l x4h x5l x5h; clear HC; replace hF := hF.push C.1 C.2.1 rfl; have x0l := (hF.at 0 rfl).lo; have x0h := (hF.at 0 rfl).hi; have x5l := (hF.at 5 rfl).lo; have x5h := (hF.at 5 rfl).hi; have x6l := (hF.at 6 rfl).lo; have x6h := (hF.at 6 rfl).hi) | (go_at_call 49; refine (HA _ (hv2.step hF.below)).out.mono ?_; rintro e wa ⟨rfl, hb⟩; replace hF := hF.step hb; clear hb; clear x0l x0h x5l x5h x6l x6h; clear HA; replace hF := hF.push A.1 A.2.1 rfl; have x0l := (hF.at 0 rfl).lo; have x0h := (hF.at 0 rfl).hi; have x1l := (hF.at 1 rfl).lo; have x1h := (hF.at 1 rfl).hi; have x6l := (hF.at 6 rfl).lo; have x6h := (hF.at 6 rfl).hi) | (go_at_call 49; refine (HB _ (hv2.step hF.below)).out.mono ?_; rintro e wb ⟨rfl, hb⟩; replace hF := hF.step hb; clear hb; clear x0l x0h x1l x1h x6l x6h; clear HB; replace hF := hF.push B.1 B.2.1 rfl; skip) | (go_at_call 48; refine (HN _).out.mono ?_; rintro e wn ⟨rfl, hb⟩; replace hF := hF.step hb; clear hb; have y1 := (hF.at 5 rfl).fl; have y2 := (hF.at 5 rfl).fh; have y3 := (hF.at 5 rfl).lo; have y4 := (hF.at 5 rfl).hi; have hF0 := hF.put 5 rfl 0 0 rfl; have y5 := (hF0.at 4 rfl).fl; have y6 := (hF0.at 4 rfl).fh; have y7 := (hF0.at 4 rfl).lo; have y8 := (hF0.at 4 rfl).hi; have hF1 := hF0.put 4 rfl 0 0 rfl; have y9 := (hF1.at 3 rfl).fl; have y10 := (hF1.at 3 rfl).fh; have y11 := (hF1.at 3 rfl).lo; have y12 := (hF1.at 3 rfl).hi; replace hF := hF1.put 3 rfl 0 0 rfl; clear hF0 hF1; have z1 := (hF.at 5 rfl).lo; have z2 := (hF.at 5 rfl).hi; have z3 := (hF.at 4 rfl).lo; have z4 := (hF.at 4 rfl).hi; have z5 := (hF.at 3 rfl).lo; have z6 := (hF.at 3 rfl).hi))
  refine bodyPost_ret (by simp [results, Tryd.results23, go_sem, z1, z2, z3, z4, z5, z6]; try rfl) rfl ?_
  rw [HR.out]
  exact ⟨rfl, hF.below⟩

set_option maxRecDepth 100000 in
set_option maxHeartbeats 4000000 in
theorem togS_yes (xl xh yl yh zl zh : Int) (p1 p2 : Nat) (w : World) (hv1 : FuAt w p1 (.func (.func 25) #[] #[])) (hv2 : FuAt w p2 (.func (.func 26) #[] #[])) (h : Um.narF xl xh yl yh zl zh = 0) {C A B : Int × Int × Int} (eC : Um.mAdd zl zh xl xh yl yh = C) (eA : Um.mLess xl xh C.1 C.2.1 yl yh = A) (eB : Um.mLess yl yh C.1 C.2.1 A.1 A.2.1 = B) (hC : C.2.2 = 0) (hA : A.2.2 = 0) (hB : B.2.2 = 0) :
    Calls Tryd.prog 23 #[.agg #[.int .i64 xl, .int .i64 xh], .agg #[.int .i64 yl, .int .i64 yh], .agg #[.int .i64 zl, .int .i64 zh], .func (.func 49) #[] #[.pointer (some ⟨p1, 0, none⟩)], .func (.func 49) #[] #[.pointer (some ⟨p2, 0, none⟩)]] w fun e w' => e = .returned (.tuple #[.agg #[.int .i64 (Um.togR Um.mAdd Um.mLess xl xh yl yh zl zh).1.1, .int .i64 (Um.togR Um.mAdd Um.mLess xl xh yl yh zl zh).1.2], .agg #[.int .i64 (Um.togR Um.mAdd Um.mLess xl xh yl yh zl zh).2.1.1, .int .i64 (Um.togR Um.mAdd Um.mLess xl xh yl yh zl zh).2.1.2], .agg #[.int .i64 (Um.togR Um.mAdd Um.mLess xl xh yl yh zl zh).2.2.1.1, .int .i64 (Um.togR Um.mAdd Um.mLess xl xh yl yh zl zh).2.2.1.2], errV (Um.togR Um.mAdd Um.mLess xl xh yl yh zl zh).2.2.2]) ∧ Below w.heap.size w w' := by
  have v0 := errV_none
  have q1 := errG
  have q2 := errGn
  have q3 := errE
  have q4 := errN
  have hF := ((((((Fr.start w).push xl xh rfl).push (b := w.heap.size + 1) yl yh (by simp)).push (b := w.heap.size + 1 + 1) zl zh (by simp)).push (b := w.heap.size + 1 + 1 + 1) 0 0 (by simp)).push (b := w.heap.size + 1 + 1 + 1 + 1) 0 0 (by simp)).push (b := w.heap.size + 1 + 1 + 1 + 1 + 1) 0 0 (by simp)
  have x3l := (hF.at 3 rfl).lo
  have x3h := (hF.at 3 rfl).hi
  have x4l := (hF.at 4 rfl).lo
  have x4h := (hF.at 4 rfl).hi
  have x5l := (hF.at 5 rfl).lo
  have x5h := (hF.at 5 rfl).hi
  have HCA := fun w {b : Nat} (hb : b = w.heap.size) => hid (checkThree xl xh yl yh zl zh w hb)
  have HR := hid (Um.tog_is (R1 := Um.mAdd) (R2 := Um.mLess) h eC eA eB)
  rw [if_pos hC, if_pos hA, if_pos hB] at HR
  have k : (Um.narF xl xh yl yh zl zh != 0) = false := by simpa using h
  have HC := fun w hv => hid (nwMeet_add zl zh xl xh yl yh p1 w hv)
  rw [eC] at HC
  have HA := fun w hv => hid (nwMeet_less xl xh C.1 C.2.1 yl yh p2 w hv)
  rw [eA] at HA
  have HB := fun w hv => hid (nwMeet_less yl yh C.1 C.2.1 A.1 A.2.1 p2 w hv)
  rw [eB] at HB
  have kC : (C.2.2 != 0) = false := by simpa using hC
  have kA : (A.2.2 != 0) = false := by simpa using hA
  have kB : (B.2.2 != 0) = false := by simpa using hB
  clear h eA eB eC hC hA hB
  generalize Um.togR Um.mAdd Um.mLess xl xh yl yh zl zh = R at *
  generalize Um.narF xl xh yl yh zl zh = G at *
  go_enter Tryd.func23, Tryd.ntmps23
  have hmx : Tryd.prog.follows .mixedOrders = true := by kernel_rfl
  go_upto_region 13 with (first | (go_at_call 47; refine (HCA _ (by simp)).out.mono ?_; rintro e wn ⟨rfl, hb⟩; replace hF := hF.step hb; clear hb; clear x3l x3h x4l x4h x5l x5h; have x3l := (hF.at 3 rfl).lo; have x3h := (hF.at 3 rfl).hi; have x4l := (hF.at 4 rfl).lo; have x4h := (hF.at 4 rfl).hi; have x5l := (hF.at 5 rfl).lo; have x5h := (hF.at 5 rfl).hi) | (go_at_call 49; refine (HC _ (hv1.step hF.below)).out.mono ?_; rintro e wc ⟨rfl, hb⟩; replace hF := hF.step hb; clear hb; clear x3l x3h x4l x4h x5l x5h; clear HC; replace hF := hF.push C.1 C.2.1 rfl; have x0l := (hF.at 0 rfl).lo; have x0h := (hF.at 0 rfl).hi; have x5l := (hF.at 5 rfl).lo; have x5h := (hF.at 5 rfl).hi; have x6l := (hF.at 6 rfl).lo; have x6h := (hF.at 6 rfl).hi) | (go_at_call 49; refine (HA _ (hv2.step hF.below)).out.mono ?_; rintro e wa ⟨rfl, hb⟩; replace hF := hF.step hb; clear hb; clear x0l x0h x5l x5h x6l x6h; clear HA; replace hF := hF.push A.1 A.2.1 rfl; have x0l := (hF.at 0 rfl).lo; have x0h := (hF.at 0 rfl).hi; have x1l := (hF.at 1 rfl).lo; have x1h := (hF.at 1 rfl).hi; have x6l := (hF.at 6 rfl).lo; have x6h := (hF.at 6 rfl).hi) | (go_at_call 49; refine (HB _ (hv2.step hF.below)).out.mono ?_; rintro e wb ⟨rfl, hb⟩; replace hF := hF.step hb; clear hb; clear x0l x0h x1l x1h x6l x6h; clear HB; replace hF := hF.push B.1 B.2.1 rfl; skip))
  clear HCA
  generalize wb.alloc (.cells #[.int .i64 B.1, .int .i64 B.2.1] 23) = W at *
  generalize Value.func (.func 49) #[] #[.pointer (some ⟨p1, 0, none⟩)] = vt at *
  try generalize Value.func (.func 49) #[] #[.pointer (some ⟨p2, 0, none⟩)] = vb at *
  obtain ⟨Inv, hInv⟩ : ∃ Inv : Array Bool → Act → World → Prop, ∀ listed aq W', Inv listed aq W' ↔ (∃ (c5 d5 c4 d4 c3 d3 : Int) (v80 v81 v82 v13 : Value), aq = { tmps := #[Value.agg #[Value.int IntKind.i64 xl, Value.int IntKind.i64 xh], Value.agg #[Value.int IntKind.i64 yl, Value.int IntKind.i64 yh], Value.agg #[Value.int IntKind.i64 zl, Value.int IntKind.i64 zh], vt, vb, Value.pointer (some { block := w.heap.size, off := 0 }), Value.pointer (some { block := w.heap.size + 1, off := 0 }), Value.pointer (some { block := w.heap.size + 1 + 1, off := 0 }), undef, undef, Value.pointer (some { block := w.heap.size + 1 + 1 + 1, off := 0 }), Value.pointer (some { block := w.heap.size + 1 + 1 + 1 + 1, off := 0 }), Value.pointer (some { block := w.heap.size + 1 + 1 + 1 + 1 + 1, off := 0 }), v13, errV G, Value.pointer (some { block := wc.heap.size, off := 0 }), errV B.snd.snd, Value.pointer (some { block := wa.heap.size, off := 0 }), Value.pointer (some { block := wb.heap.size, off := 0 }), Value.agg #[Value.int IntKind.i64 xl, Value.int IntKind.i64 xh], Value.agg #[Value.int IntKind.i64 yl, Value.int IntKind.i64 yh], Value.agg #[Value.int IntKind.i64 zl, Value.int IntKind.i64 zh], Value.slice (some { block := w.heap.size + 1 + 1 + 1 + 1 + 1 + 1, off := 0 }) 3 3, errV G, errV G, Value.bool false, undef, undef, undef, undef, undef, undef, Value.tuple #[Value.agg #[Value.int IntKind.i64 C.fst, Value.int IntKind.i64 C.snd.fst], errV C.snd.snd], vt, Value.agg #[Value.int IntKind.i64 zl, Value.int IntKind.i64 zh], Value.agg #[Value.int IntKind.i64 xl, Value.int IntKind.i64 xh], Value.agg #[Value.int IntKind.i64 yl, Value.int IntKind.i64 yh], Value.tuple #[Value.agg #[Value.int IntKind.i64 C.fst, Value.int IntKind.i64 C.snd.fst], errV C.snd.snd], Value.agg #[Value.int IntKind.i64 C.fst, Value.int IntKind.i64 C.snd.fst], errV C.snd.snd, errV C.snd.snd, Value.bool false, undef, undef, undef, undef, undef, undef, Value.tuple #[Value.agg #[Value.int IntKind.i64 A.fst, Value.int IntKind.i64 A.snd.fst], errV A.snd.snd], vb, Value.agg #[Value.int IntKind.i64 xl, Value.int IntKind.i64 xh], Value.agg #[Value.int IntKind.i64 C.fst, Value.int IntKind.i64 C.snd.fst], Value.agg #[Value.int IntKind.i64 yl, Value.int IntKind.i64 yh], Value.tuple #[Value.agg #[Value.int IntKind.i64 A.fst, Value.int IntKind.i64 A.snd.fst], errV A.snd.snd], Value.agg #[Value.int IntKind.i64 A.fst, Value.int IntKind.i64 A.snd.fst], errV A.snd.snd, errV A.snd.snd, Value.bool false, undef, undef, undef, undef, undef, undef, Value.tuple #[Value.agg #[Value.int IntKind.i64 B.fst, Value.int IntKind.i64 B.snd.fst], errV B.snd.snd], vb, Value.agg #[Value.int IntKind.i64 yl, Value.int IntKind.i64 yh], Value.agg #[Value.int IntKind.i64 C.fst, Value.int IntKind.i64 C.snd.fst], Value.agg #[Value.int IntKind.i64 A.fst, Value.int IntKind.i64 A.snd.fst], Value.tuple #[Value.agg #[Value.int IntKind.i64 B.fst, Value.int IntKind.i64 B.snd.fst], errV B.snd.snd], Value.agg #[Value.int IntKind.i64 B.fst, Value.int IntKind.i64 B.snd.fst], errV B.snd.snd, errV B.snd.snd, Value.bool false, undef, undef, undef, undef, undef, undef, v80, v81, v82], defers := [] } ∧ Fr (w) W' [(wb.heap.size, B.1, B.2.1), (wa.heap.size, A.1, A.2.1), (wc.heap.size, C.1, C.2.1), (w.heap.size + 1 + 1 + 1 + 1 + 1, c3, d3), (w.heap.size + 1 + 1 + 1 + 1, c4, d4), (w.heap.size + 1 + 1 + 1, c5, d5), (w.heap.size + 1 + 1, zl, zh), (w.heap.size + 1, yl, yh), (w.heap.size, xl, xh)] ∧ (W).heap.size ≤ W'.heap.size ∧ (listed.getD 0 false = true → v80 = .agg #[.int .i64 A.1, .int .i64 A.2.1]) ∧ (listed.getD 1 false = true → v81 = .agg #[.int .i64 B.1, .int .i64 B.2.1]) ∧ (listed.getD 2 false = true → v82 = .agg #[.int .i64 C.1, .int .i64 C.2.1]) ∧ (listed.getD 6 false = true → v13 = Value.nilIface) ∧ (listed.getD 3 false = true → c5 = A.1 ∧ d5 = A.2.1) ∧ (listed.getD 4 false = true → c4 = B.1 ∧ d4 = B.2.1) ∧ (listed.getD 5 false = true → c3 = C.1 ∧ d3 = C.2.1)) := ⟨_, fun _ _ _ => Iff.rfl⟩
  have HI := hid hInv
  clear hInv
  refine Free.region hmx (by kernel_rfl) Inv ?s1 ?s2 ?s3
  case s1 =>
    exact (HI.out _ _ _).2 ⟨0, 0, 0, 0, 0, 0, undef, undef, undef, Value.nilIface, rfl, hF.step (Below.refl _ _).drew, (Below.refl (W).heap.size (W)).drew.size, Free.not_yet, Free.not_yet, Free.not_yet, Free.not_yet, Free.not_yet, Free.not_yet, Free.not_yet⟩
  case s2 =>
    clear hF
    intro i listed aq W1 hix hne hnl hsz hv
    obtain ⟨c5, d5, c4, d4, c3, d3, v80, v81, v82, v13, rfl, hF, hS, l0, l1, l2, l6, lp3, lp4, lp5⟩ := (HI.out _ _ _).1 hv
    clear hv
    replace hix : i < 7 := hix
    replace hsz : listed.size = 7 := hsz
    rcases (by omega : i = 0 ∨ i = 1 ∨ i = 2 ∨ i = 3 ∨ i = 4 ∨ i = 5 ∨ i = 6) with rfl | rfl | rfl | rfl | rfl | rfl | rfl
    · have z1 := (hF.at 1 rfl).lo
      have z2 := (hF.at 1 rfl).hi
      refine Free.op rfl rfl (fun K hK => ?_)
      go_simp
      exact hK _ _ ((HI.out _ _ _).2 ⟨c5, d5, c4, d4, c3, d3, _, v81, v82, v13, rfl, hF, hS, fun _ => rfl, Free.of_set (by decide) l1, Free.of_set (by decide) l2, Free.of_set (by decide) l6, Free.of_set (by decide) lp3, Free.of_set (by decide) lp4, Free.of_set (by decide) lp5⟩)
    · have z1 := (hF.at 0 rfl).lo
      have z2 := (hF.at 0 rfl).hi
      refine Free.op rfl rfl (fun K hK => ?_)
      go_simp
      exact hK _ _ ((HI.out _ _ _).2 ⟨c5, d5, c4, d4, c3, d3, v80, _, v82, v13, rfl, hF, hS, Free.of_set (by decide) l0, fun _ => rfl, Free.of_set (by decide) l2, Free.of_set (by decide) l6, Free.of_set (by decide) lp3, Free.of_set (by decide) lp4, Free.of_set (by decide) lp5⟩)
    · have z1 := (hF.at 2 rfl).lo
      have z2 := (hF.at 2 rfl).hi
      refine Free.op rfl rfl (fun K hK => ?_)
      go_simp
      exact hK _ _ ((HI.out _ _ _).2 ⟨c5, d5, c4, d4, c3, d3, v80, v81, _, v13, rfl, hF, hS, Free.of_set (by decide) l0, Free.of_set (by decide) l1, fun _ => rfl, Free.of_set (by decide) l6, Free.of_set (by decide) lp3, Free.of_set (by decide) lp4, Free.of_set (by decide) lp5⟩)
    · have y1 := (hF.at 5 rfl).fl
      have y2 := (hF.at 5 rfl).fh
      have y3 := (hF.at 5 rfl).lo
      have y4 := (hF.at 5 rfl).hi
      refine Free.op rfl rfl (fun K hK => ?_)
      obtain rfl := l0 (hne 0 (by kernel_rfl))
      go_simp
      exact hK _ _ ((HI.out _ _ _).2 ⟨_, _, c4, d4, c3, d3, _, v81, v82, v13, rfl, hF.put 5 rfl _ _ rfl, by simpa using hS, fun _ => rfl, Free.of_set (by decide) l1, Free.of_set (by decide) l2, Free.of_set (by decide) l6, fun _ => ⟨rfl, rfl⟩, Free.of_set (by decide) lp4, Free.of_set (by decide) lp5⟩)
    · have y1 := (hF.at 4 rfl).fl
      have y2 := (hF.at 4 rfl).fh
      have y3 := (hF.at 4 rfl).lo
      have y4 := (hF.at 4 rfl).hi
      refine Free.op rfl rfl (fun K hK => ?_)
      obtain rfl := l1 (hne 1 (by kernel_rfl))
      go_simp
      exact hK _ _ ((HI.out _ _ _).2 ⟨c5, d5, _, _, c3, d3, v80, _, v82, v13, rfl, hF.put 4 rfl _ _ rfl, by simpa using hS, Free.of_set (by decide) l0, fun _ => rfl, Free.of_set (by decide) l2, Free.of_set (by decide) l6, Free.of_set (by decide) lp3, fun _ => ⟨rfl, rfl⟩, Free.of_set (by decide) lp5⟩)
    · have y1 := (hF.at 3 rfl).fl
      have y2 := (hF.at 3 rfl).fh
      have y3 := (hF.at 3 rfl).lo
      have y4 := (hF.at 3 rfl).hi
      refine Free.op rfl rfl (fun K hK => ?_)
      obtain rfl := l2 (hne 2 (by kernel_rfl))
      go_simp
      exact hK _ _ ((HI.out _ _ _).2 ⟨c5, d5, c4, d4, _, _, v80, v81, _, v13, rfl, hF.put 3 rfl _ _ rfl, by simpa using hS, Free.of_set (by decide) l0, Free.of_set (by decide) l1, fun _ => rfl, Free.of_set (by decide) l6, Free.of_set (by decide) lp3, Free.of_set (by decide) lp4, fun _ => ⟨rfl, rfl⟩⟩)
    · refine Free.op rfl rfl (fun K hK => ?_)
      go_simp
      exact hK _ _ ((HI.out _ _ _).2 ⟨c5, d5, c4, d4, c3, d3, v80, v81, v82, _, rfl, hF, hS, Free.of_set (by decide) l0, Free.of_set (by decide) l1, Free.of_set (by decide) l2, fun _ => rfl, Free.of_set (by decide) lp3, Free.of_set (by decide) lp4, Free.of_set (by decide) lp5⟩)
  case s3 =>
    clear hF
    intro listed aq W1 hall hsz hv
    obtain ⟨c5, d5, c4, d4, c3, d3, v80, v81, v82, v13, rfl, hF, hS, l0, l1, l2, l6, lp3, lp4, lp5⟩ := (HI.out _ _ _).1 hv
    clear hv HI
    obtain rfl := l0 (Free.listed_of hall hsz 0 (by decide))
    obtain rfl := l1 (Free.listed_of hall hsz 1 (by decide))
    obtain rfl := l2 (Free.listed_of hall hsz 2 (by decide))
    obtain rfl := l6 (Free.listed_of hall hsz 6 (by decide))
    obtain ⟨rfl, rfl⟩ := lp3 (Free.listed_of hall hsz 3 (by decide))
    obtain ⟨rfl, rfl⟩ := lp4 (Free.listed_of hall hsz 4 (by decide))
    obtain ⟨rfl, rfl⟩ := lp5 (Free.listed_of hall hsz 5 (by decide))
    clear hall hsz 
    have z1 := (hF.at 5 rfl).lo
    have z2 := (hF.at 5 rfl).hi
    have z3 := (hF.at 4 rfl).lo
    have z4 := (hF.at 4 rfl).hi
    have z5 := (hF.at 3 rfl).lo
    have z6 := (hF.at 3 rfl).hi
    go_wp2
    refine bodyPost_ret (by simp [results, Tryd.results23, go_sem, z1, z2, z3, z4, z5, z6]; try rfl) rfl ?_
    rw [HR.out, errV_none]
    exact ⟨rfl, hF.below⟩

theorem togS_any (xl xh yl yh zl zh : Int) (p1 p2 : Nat) (w : World) (hv1 : FuAt w p1 (.func (.func 25) #[] #[])) (hv2 : FuAt w p2 (.func (.func 26) #[] #[])) :
    Calls Tryd.prog 23 #[.agg #[.int .i64 xl, .int .i64 xh], .agg #[.int .i64 yl, .int .i64 yh], .agg #[.int .i64 zl, .int .i64 zh], .func (.func 49) #[] #[.pointer (some ⟨p1, 0, none⟩)], .func (.func 49) #[] #[.pointer (some ⟨p2, 0, none⟩)]] w fun e w' => e = .returned (.tuple #[.agg #[.int .i64 (Um.togR Um.mAdd Um.mLess xl xh yl yh zl zh).1.1, .int .i64 (Um.togR Um.mAdd Um.mLess xl xh yl yh zl zh).1.2], .agg #[.int .i64 (Um.togR Um.mAdd Um.mLess xl xh yl yh zl zh).2.1.1, .int .i64 (Um.togR Um.mAdd Um.mLess xl xh yl yh zl zh).2.1.2], .agg #[.int .i64 (Um.togR Um.mAdd Um.mLess xl xh yl yh zl zh).2.2.1.1, .int .i64 (Um.togR Um.mAdd Um.mLess xl xh yl yh zl zh).2.2.1.2], errV (Um.togR Um.mAdd Um.mLess xl xh yl yh zl zh).2.2.2]) ∧ Below w.heap.size w w' := by
  by_cases h : Um.narF xl xh yl yh zl zh = 0
  · by_cases hC : (Um.mAdd zl zh xl xh yl yh).2.2 = 0
    · by_cases hA : (Um.mLess xl xh (Um.mAdd zl zh xl xh yl yh).1 (Um.mAdd zl zh xl xh yl yh).2.1 yl yh).2.2 = 0
      · by_cases hB : (Um.mLess yl yh (Um.mAdd zl zh xl xh yl yh).1 (Um.mAdd zl zh xl xh yl yh).2.1 (Um.mLess xl xh (Um.mAdd zl zh xl xh yl yh).1 (Um.mAdd zl zh xl xh yl yh).2.1 yl yh).1 (Um.mLess xl xh (Um.mAdd zl zh xl xh yl yh).1 (Um.mAdd zl zh xl xh yl yh).2.1 yl yh).2.1).2.2 = 0
        · exact togS_yes xl xh yl yh zl zh p1 p2 w hv1 hv2 h rfl rfl rfl hC hA hB
        · exact togS_b xl xh yl yh zl zh p1 p2 w hv1 hv2 h rfl rfl rfl hC hA hB
      · exact togS_a xl xh yl yh zl zh p1 p2 w hv1 hv2 h rfl rfl rfl hC hA
    · exact togS_c xl xh yl yh zl zh p1 p2 w hv1 hv2 h rfl rfl rfl hC
  · exact togS_bad xl xh yl yh zl zh p1 p2 w hv1 hv2 h

theorem togS_told (xl xh yl yh zl zh : Int) (p1 p2 : Nat) (w : World) (hv1 : FuAt w p1 (.func (.func 25) #[] #[])) (hv2 : FuAt w p2 (.func (.func 26) #[] #[])) :
    Calls Tryd.prog 23 #[.agg #[.int .i64 xl, .int .i64 xh], .agg #[.int .i64 yl, .int .i64 yh], .agg #[.int .i64 zl, .int .i64 zh], .func (.func 49) #[] #[.pointer (some ⟨p1, 0, none⟩)], .func (.func 49) #[] #[.pointer (some ⟨p2, 0, none⟩)]] w fun e w' => e = .returned (.tuple #[.agg #[.int .i64 (Um.nsumAll xl xh yl yh zl zh).1.1, .int .i64 (Um.nsumAll xl xh yl yh zl zh).1.2], .agg #[.int .i64 (Um.nsumAll xl xh yl yh zl zh).2.1.1, .int .i64 (Um.nsumAll xl xh yl yh zl zh).2.1.2], .agg #[.int .i64 (Um.nsumAll xl xh yl yh zl zh).2.2.1.1, .int .i64 (Um.nsumAll xl xh yl yh zl zh).2.2.1.2], errV (Um.nsumAll xl xh yl yh zl zh).2.2.2]) ∧ Below w.heap.size w w' := by
  rw [← Um.tog_sum]
  exact togS_any xl xh yl yh zl zh p1 p2 w hv1 hv2

set_option maxRecDepth 100000 in
set_option maxHeartbeats 4000000 in
theorem nwSum_any (xl xh yl yh zl zh : Int) (w : World) :
    Calls Tryd.prog 11 #[.agg #[.int .i64 xl, .int .i64 xh], .agg #[.int .i64 yl, .int .i64 yh], .agg #[.int .i64 zl, .int .i64 zh]] w fun e w' => e = .returned (.tuple #[.agg #[.int .i64 (Um.nsumAll xl xh yl yh zl zh).1.1, .int .i64 (Um.nsumAll xl xh yl yh zl zh).1.2], .agg #[.int .i64 (Um.nsumAll xl xh yl yh zl zh).2.1.1, .int .i64 (Um.nsumAll xl xh yl yh zl zh).2.1.2], .agg #[.int .i64 (Um.nsumAll xl xh yl yh zl zh).2.2.1.1, .int .i64 (Um.nsumAll xl xh yl yh zl zh).2.2.1.2], errV (Um.nsumAll xl xh yl yh zl zh).2.2.2]) ∧ Below w.heap.size w w' := by
  have v0 := errV_none
  have q1 := errG
  have q2 := errGn
  have q3 := errE
  have q4 := errN
  have hF := ((((((Fr.start w).push xl xh rfl).push (b := w.heap.size + 1) yl yh (by simp)).push (b := w.heap.size + 1 + 1) zl zh (by simp)).push (b := w.heap.size + 1 + 1 + 1) 0 0 (by simp)).push (b := w.heap.size + 1 + 1 + 1 + 1) 0 0 (by simp)).push (b := w.heap.size + 1 + 1 + 1 + 1 + 1) 0 0 (by simp)
  have hmx : Tryd.prog.follows .mixedOrders = true := by kernel_rfl
  have HT := fun p1 p2 w hv1 hv2 => hid (togS_told xl xh yl yh zl zh p1 p2 w hv1 hv2)
  generalize Um.nsumAll xl xh yl yh zl zh = S at *
  go_enter Tryd.func11, Tryd.ntmps11
  go_upto_region 1 with fail
  generalize (((((w.alloc (.cells #[.int .i64 xl, .int .i64 xh] 23)).alloc (.cells #[.int .i64 yl, .int .i64 yh] 23)).alloc (.cells #[.int .i64 zl, .int .i64 zh] 23)).alloc (.cells #[.int .i64 0, .int .i64 0] 23)).alloc (.cells #[.int .i64 0, .int .i64 0] 23)).alloc (.cells #[.int .i64 0, .int .i64 0] 23) = W at *
  obtain ⟨Inv, hInv⟩ : ∃ Inv : Array Bool → Act → World → Prop, ∀ listed aq W', Inv listed aq W' ↔ (∃ (r1 r2 : Nat) (c2 d2 c1 d1 c0 d0 : Int) (v10 v11 v12 v13 v14 v15 v16 v17 v18 v19 v9 : Value), aq = { tmps := #[Value.agg #[Value.int IntKind.i64 xl, Value.int IntKind.i64 xh], Value.agg #[Value.int IntKind.i64 yl, Value.int IntKind.i64 yh], Value.agg #[Value.int IntKind.i64 zl, Value.int IntKind.i64 zh], Value.pointer (some { block := w.heap.size, off := 0 }), Value.pointer (some { block := w.heap.size + 1, off := 0 }), Value.pointer (some { block := w.heap.size + 1 + 1, off := 0 }), Value.pointer (some { block := w.heap.size + 1 + 1 + 1, off := 0 }), Value.pointer (some { block := w.heap.size + 1 + 1 + 1 + 1, off := 0 }), Value.pointer (some { block := w.heap.size + 1 + 1 + 1 + 1 + 1, off := 0 }), v9, v10, v11, v12, v13, v14, v15, v16, v17, v18, v19], defers := [] } ∧ Fr (w) W' [(w.heap.size + 1 + 1 + 1 + 1 + 1, c0, d0), (w.heap.size + 1 + 1 + 1 + 1, c1, d1), (w.heap.size + 1 + 1 + 1, c2, d2), (w.heap.size + 1 + 1, zl, zh), (w.heap.size + 1, yl, yh), (w.heap.size, xl, xh)] ∧ (W).heap.size ≤ W'.heap.size ∧ (listed.getD 0 false = true → v10 = .agg #[.int .i64 xl, .int .i64 xh]) ∧ (listed.getD 1 false = true → v11 = .agg #[.int .i64 yl, .int .i64 yh]) ∧ (listed.getD 2 false = true → v12 = .agg #[.int .i64 zl, .int .i64 zh]) ∧ (listed.getD 3 false = true → v13 = Value.func (.func 49) #[] #[.pointer (some ⟨r1, 0, none⟩)]) ∧ (listed.getD 4 false = true → v14 = Value.func (.func 49) #[] #[.pointer (some ⟨r2, 0, none⟩)]) ∧ (listed.getD 5 false = true → v15 = Value.tuple #[.agg #[.int .i64 S.1.1, .int .i64 S.1.2], .agg #[.int .i64 S.2.1.1, .int .i64 S.2.1.2], .agg #[.int .i64 S.2.2.1.1, .int .i64 S.2.2.1.2], errV S.2.2.2]) ∧ (listed.getD 6 false = true → v16 = .agg #[.int .i64 S.1.1, .int .i64 S.1.2]) ∧ (listed.getD 7 false = true → v17 = .agg #[.int .i64 S.2.1.1, .int .i64 S.2.1.2]) ∧ (listed.getD 8 false = true → v18 = .agg #[.int .i64 S.2.2.1.1, .int .i64 S.2.2.1.2]) ∧ (listed.getD 9 false = true → v19 = errV S.2.2.2) ∧ (listed.getD 13 false = true → v9 = errV S.2.2.2) ∧ (listed.getD 3 false = true → (W).heap.size ≤ r1 ∧ FuAt W' r1 (.func (.func 25) #[] #[])) ∧ (listed.getD 4 false = true → (W).heap.size ≤ r2 ∧ FuAt W' r2 (.func (.func 26) #[] #[])) ∧ (listed.getD 10 false = true → c2 = S.1.1 ∧ d2 = S.1.2) ∧ (listed.getD 11 false = true → c1 = S.2.1.1 ∧ d1 = S.2.1.2) ∧ (listed.getD 12 false = true → c0 = S.2.2.1.1 ∧ d0 = S.2.2.1.2)) := ⟨_, fun _ _ _ => Iff.rfl⟩
  have HI := hid hInv
  clear hInv
  have LB2 := hid ((hF.at 2 rfl).lt)
  have LB1 := hid ((hF.at 1 rfl).lt)
  have LB0 := hid ((hF.at 0 rfl).lt)
  refine Free.region hmx (by kernel_rfl) Inv ?s1 ?s2 ?s3
  case s1 =>
    exact (HI.out _ _ _).2 ⟨0, 0, 0, 0, 0, 0, 0, 0, undef, undef, undef, undef, undef, undef, undef, undef, undef, undef, Value.nilIface, rfl, hF.step (Below.refl _ _).drew, (Below.refl (W).heap.size (W)).drew.size, Free.not_yet, Free.not_yet, Free.not_yet, Free.not_yet, Free.not_yet, Free.not_yet, Free.not_yet, Free.not_yet, Free.not_yet, Free.not_yet, Free.not_yet, Free.not_yet, Free.not_yet, Free.not_yet, Free.not_yet, Free.not_yet⟩
  case s2 =>
    clear hF
    intro i listed aq W1 hix hne hnl hsz hv
    obtain ⟨r1, r2, c2, d2, c1, d1, c0, d0, v10, v11, v12, v13, v14, v15, v16, v17, v18, v19, v9, rfl, hF, hS, l0, l1, l2, l3, l4, l5, l6, l7, l8, l9, l13, lq3, lq4, lp10, lp11, lp12⟩ := (HI.out _ _ _).1 hv
    clear hv
    replace hix : i < 14 := hix
    replace hsz : listed.size = 14 := hsz
    rcases (by omega : i = 0 ∨ i = 1 ∨ i = 2 ∨ i = 3 ∨ i = 4 ∨ i = 5 ∨ i = 6 ∨ i = 7 ∨ i = 8 ∨ i = 9 ∨ i = 10 ∨ i = 11 ∨ i = 12 ∨ i = 13) with rfl | rfl | rfl | rfl | rfl | rfl | rfl | rfl | rfl | rfl | rfl | rfl | rfl | rfl
    · have z1 := (hF.at 5 rfl).lo
      have z2 := (hF.at 5 rfl).hi
      refine Free.op rfl rfl (fun K hK => ?_)
      go_simp
      exact hK _ _ ((HI.out _ _ _).2 ⟨r1, r2, c2, d2, c1, d1, c0, d0, _, v11, v12, v13, v14, v15, v16, v17, v18, v19, v9, rfl, hF, hS, fun _ => rfl, Free.of_set (by decide) l1, Free.of_set (by decide) l2, Free.of_set (by decide) l3, Free.of_set (by decide) l4, Free.of_set (by decide) l5, Free.of_set (by decide) l6, Free.of_set (by decide) l7, Free.of_set (by decide) l8, Free.of_set (by decide) l9, Free.of_set (by decide) l13, Free.of_set (by decide) lq3, Free.of_set (by decide) lq4, Free.of_set (by decide) lp10, Free.of_set (by decide) lp11, Free.of_set (by decide) lp12⟩)
    · have z1 := (hF.at 4 rfl).lo
      have z2 := (hF.at 4 rfl).hi
      refine Free.op rfl rfl (fun K hK => ?_)
      go_simp
      exact hK _ _ ((HI.out _ _ _).2 ⟨r1, r2, c2, d2, c1, d1, c0, d0, v10, _, v12, v13, v14, v15, v16, v17, v18, v19, v9, rfl, hF, hS, Free.of_set (by decide) l0, fun _ => rfl, Free.of_set (by decide) l2, Free.of_set (by decide) l3, Free.of_set (by decide) l4, Free.of_set (by decide) l5, Free.of_set (by decide) l6, Free.of_set (by decide) l7, Free.of_set (by decide) l8, Free.of_set (by decide) l9, Free.of_set (by decide) l13, Free.of_set (by decide) lq3, Free.of_set (by decide) lq4, Free.of_set (by decide) lp10, Free.of_set (by decide) lp11, Free.of_set (by decide) lp12⟩)
    · have z1 := (hF.at 3 rfl).lo
      have z2 := (hF.at 3 rfl).hi
      refine Free.op rfl rfl (fun K hK => ?_)
      go_simp
      exact hK _ _ ((HI.out _ _ _).2 ⟨r1, r2, c2, d2, c1, d1, c0, d0, v10, v11, _, v13, v14, v15, v16, v17, v18, v19, v9, rfl, hF, hS, Free.of_set (by decide) l0, Free.of_set (by decide) l1, fun _ => rfl, Free.of_set (by decide) l3, Free.of_set (by decide) l4, Free.of_set (by decide) l5, Free.of_set (by decide) l6, Free.of_set (by decide) l7, Free.of_set (by decide) l8, Free.of_set (by decide) l9, Free.of_set (by decide) l13, Free.of_set (by decide) lq3, Free.of_set (by decide) lq4, Free.of_set (by decide) lp10, Free.of_set (by decide) lp11, Free.of_set (by decide) lp12⟩)
    · refine Free.op rfl rfl (fun K hK => ?_)
      go_wp2_with (go_at_call 24; refine (nwMeeting_any (.func 25) #[] _).mono ?_; rintro e W3 ⟨b, rfl, hle, hv, hb⟩)
      exact (HI.out _ _ _).2 ⟨_, r2, c2, d2, c1, d1, c0, d0, v10, v11, v12, _, v14, v15, v16, v17, v18, v19, v9, rfl, hF.step hb, Nat.le_trans hS hb.size, Free.of_set (by decide) l0, Free.of_set (by decide) l1, Free.of_set (by decide) l2, fun _ => rfl, Free.of_set (by decide) l4, Free.of_set (by decide) l5, Free.of_set (by decide) l6, Free.of_set (by decide) l7, Free.of_set (by decide) l8, Free.of_set (by decide) l9, Free.of_set (by decide) l13, fun _ => ⟨Nat.le_trans hS hle, hv⟩, fun e => ⟨(lq4 (Free.back (by decide) e)).1, (lq4 (Free.back (by decide) e)).2.step hb⟩, Free.of_set (by decide) lp10, Free.of_set (by decide) lp11, Free.of_set (by decide) lp12⟩
    · refine Free.op rfl rfl (fun K hK => ?_)
      go_wp2_with (go_at_call 24; refine (nwMeeting_any (.func 26) #[] _).mono ?_; rintro e W3 ⟨b, rfl, hle, hv, hb⟩)
      exact (HI.out _ _ _).2 ⟨r1, _, c2, d2, c1, d1, c0, d0, v10, v11, v12, v13, _, v15, v16, v17, v18, v19, v9, rfl, hF.step hb, Nat.le_trans hS hb.size, Free.of_set (by decide) l0, Free.of_set (by decide) l1, Free.of_set (by decide) l2, Free.of_set (by decide) l3, fun _ => rfl, Free.of_set (by decide) l5, Free.of_set (by decide) l6, Free.of_set (by decide) l7, Free.of_set (by decide) l8, Free.of_set (by decide) l9, Free.of_set (by decide) l13, fun e => ⟨(lq3 (Free.back (by decide) e)).1, (lq3 (Free.back (by decide) e)).2.step hb⟩, fun _ => ⟨Nat.le_trans hS hle, hv⟩, Free.of_set (by decide) lp10, Free.of_set (by decide) lp11, Free.of_set (by decide) lp12⟩
    · have q3 := (lq3 (hne 3 (by kernel_rfl))).2
      have q4 := (lq4 (hne 4 (by kernel_rfl))).2
      refine Free.op rfl rfl (fun K hK => ?_)
      obtain rfl := l0 (hne 0 (by kernel_rfl))
      obtain rfl := l1 (hne 1 (by kernel_rfl))
      obtain rfl := l2 (hne 2 (by kernel_rfl))
      obtain rfl := l3 (hne 3 (by kernel_rfl))
      obtain rfl := l4 (hne 4 (by kernel_rfl))
      go_wp2_with (go_at_call 23; refine (HT _ _ _ q3 q4).out.mono ?_; rintro e W3 ⟨rfl, hb⟩)
      exact (HI.out _ _ _).2 ⟨r1, r2, c2, d2, c1, d1, c0, d0, _, _, _, _, _, _, v16, v17, v18, v19, v9, rfl, hF.step hb, Nat.le_trans hS hb.size, fun _ => rfl, fun _ => rfl, fun _ => rfl, fun _ => rfl, fun _ => rfl, fun _ => rfl, Free.of_set (by decide) l6, Free.of_set (by decide) l7, Free.of_set (by decide) l8, Free.of_set (by decide) l9, Free.of_set (by decide) l13, fun e => ⟨(lq3 (Free.back (by decide) e)).1, (lq3 (Free.back (by decide) e)).2.step hb⟩, fun e => ⟨(lq4 (Free.back (by decide) e)).1, (lq4 (Free.back (by decide) e)).2.step hb⟩, Free.of_set (by decide) lp10, Free.of_set (by decide) lp11, Free.of_set (by decide) lp12⟩
    · refine Free.op rfl rfl (fun K hK => ?_)
      obtain rfl := l5 (hne 5 (by kernel_rfl))
      go_simp
      exact hK _ _ ((HI.out _ _ _).2 ⟨r1, r2, c2, d2, c1, d1, c0, d0, v10, v11, v12, v13, v14, _, _, v17, v18, v19, v9, rfl, hF, hS, Free.of_set (by decide) l0, Free.of_set (by decide) l1, Free.of_set (by decide) l2, Free.of_set (by decide) l3, Free.of_set (by decide) l4, fun _ => rfl, fun _ => rfl, Free.of_set (by decide) l7, Free.of_set (by decide) l8, Free.of_set (by decide) l9, Free.of_set (by decide) l13, Free.of_set (by decide) lq3, Free.of_set (by decide) lq4, Free.of_set (by decide) lp10, Free.of_set (by decide) lp11, Free.of_set (by decide) lp12⟩)
    · refine Free.op rfl rfl (fun K hK => ?_)
      obtain rfl := l5 (hne 5 (by kernel_rfl))
      go_simp
      exact hK _ _ ((HI.out _ _ _).2 ⟨r1, r2, c2, d2, c1, d1, c0, d0, v10, v11, v12, v13, v14, _, v16, _, v18, v19, v9, rfl, hF, hS, Free.of_set (by decide) l0, Free.of_set (by decide) l1, Free.of_set (by decide) l2, Free.of_set (by decide) l3, Free.of_set (by decide) l4, fun _ => rfl, Free.of_set (by decide) l6, fun _ => rfl, Free.of_set (by decide) l8, Free.of_set (by decide) l9, Free.of_set (by decide) l13, Free.of_set (by decide) lq3, Free.of_set (by decide) lq4, Free.of_set (by decide) lp10, Free.of_set (by decide) lp11, Free.of_set (by decide) lp12⟩)
    · refine Free.op rfl rfl (fun K hK => ?_)
      obtain rfl := l5 (hne 5 (by kernel_rfl))
      go_simp
      exact hK _ _ ((HI.out _ _ _).2 ⟨r1, r2, c2, d2, c1, d1, c0, d0, v10, v11, v12, v13, v14, _, v16, v17, _, v19, v9, rfl, hF, hS, Free.of_set (by decide) l0, Free.of_set (by decide) l1, Free.of_set (by decide) l2, Free.of_set (by decide) l3, Free.of_set (by decide) l4, fun _ => rfl, Free.of_set (by decide) l6, Free.of_set (by decide) l7, fun _ => rfl, Free.of_set (by decide) l9, Free.of_set (by decide) l13, Free.of_set (by decide) lq3, Free.of_set (by decide) lq4, Free.of_set (by decide) lp10, Free.of_set (by decide) lp11, Free.of_set (by decide) lp12⟩)
    · refine Free.op rfl rfl (fun K hK => ?_)
      obtain rfl := l5 (hne 5 (by kernel_rfl))
      go_simp
      exact hK _ _ ((HI.out _ _ _).2 ⟨r1, r2, c2, d2, c1, d1, c0, d0, v10, v11, v12, v13, v14, _, v16, v17, v18, _, v9, rfl, hF, hS, Free.of_set (by decide) l0, Free.of_set (by decide) l1, Free.of_set (by decide) l2, Free.of_set (by decide) l3, Free.of_set (by decide) l4, fun _ => rfl, Free.of_set (by decide) l6, Free.of_set (by decide) l7, Free.of_set (by decide) l8, fun _ => rfl, Free.of_set (by decide) l13, Free.of_set (by decide) lq3, Free.of_set (by decide) lq4, Free.of_set (by decide) lp10, Free.of_set (by decide) lp11, Free.of_set (by decide) lp12⟩)
    · have y1 := (hF.at 2 rfl).fl
      have y2 := (hF.at 2 rfl).fh
      have y3 := (hF.at 2 rfl).lo
      have y4 := (hF.at 2 rfl).hi
      refine Free.op rfl rfl (fun K hK => ?_)
      obtain rfl := l6 (hne 6 (by kernel_rfl))
      go_simp
      exact hK _ _ ((HI.out _ _ _).2 ⟨r1, r2, _, _, c1, d1, c0, d0, v10, v11, v12, v13, v14, v15, _, v17, v18, v19, v9, rfl, hF.put 2 rfl _ _ rfl, by simpa using hS, Free.of_set (by decide) l0, Free.of_set (by decide) l1, Free.of_set (by decide) l2, Free.of_set (by decide) l3, Free.of_set (by decide) l4, Free.of_set (by decide) l5, fun _ => rfl, Free.of_set (by decide) l7, Free.of_set (by decide) l8, Free.of_set (by decide) l9, Free.of_set (by decide) l13, fun e => ⟨(lq3 (Free.back (by decide) e)).1, by have g := lq3 (Free.back (by decide) e); have hk := LB2.out; exact (g.2.other _ _ (by have := g.1; simp only []; omega)).other _ _ (by have := g.1; simp only []; omega)⟩, fun e => ⟨(lq4 (Free.back (by decide) e)).1, by have g := lq4 (Free.back (by decide) e); have hk := LB2.out; exact (g.2.other _ _ (by have := g.1; simp only []; omega)).other _ _ (by have := g.1; simp only []; omega)⟩, fun _ => ⟨rfl, rfl⟩, Free.of_set (by decide) lp11, Free.of_set (by decide) lp12⟩)
    · have y1 := (hF.at 1 rfl).fl
      have y2 := (hF.at 1 rfl).fh
      have y3 := (hF.at 1 rfl).lo
      have y4 := (hF.at 1 rfl).hi
      refine Free.op rfl rfl (fun K hK => ?_)
      obtain rfl := l7 (hne 7 (by kernel_rfl))
      go_simp
      exact hK _ _ ((HI.out _ _ _).2 ⟨r1, r2, c2, d2, _, _, c0, d0, v10, v11, v12, v13, v14, v15, v16, _, v18, v19, v9, rfl, hF.put 1 rfl _ _ rfl, by simpa using hS, Free.of_set (by decide) l0, Free.of_set (by decide) l1, Free.of_set (by decide) l2, Free.of_set (by decide) l3, Free.of_set (by decide) l4, Free.of_set (by decide) l5, Free.of_set (by decide) l6, fun _ => rfl, Free.of_set (by decide) l8, Free.of_set (by decide) l9, Free.of_set (by decide) l13, fun e => ⟨(lq3 (Free.back (by decide) e)).1, by have g := lq3 (Free.back (by decide) e); have hk := LB1.out; exact (g.2.other _ _ (by have := g.1; simp only []; omega)).other _ _ (by have := g.1; simp only []; omega)⟩, fun e => ⟨(lq4 (Free.back (by decide) e)).1, by have g := lq4 (Free.back (by decide) e); have hk := LB1.out; exact (g.2.other _ _ (by have := g.1; simp only []; omega)).other _ _ (by have := g.1; simp only []; omega)⟩, Free.of_set (by decide) lp10, fun _ => ⟨rfl, rfl⟩, Free.of_set (by decide) lp12⟩)
    · have y1 := (hF.at 0 rfl).fl
      have y2 := (hF.at 0 rfl).fh
      have y3 := (hF.at 0 rfl).lo
      have y4 := (hF.at 0 rfl).hi
      refine Free.op rfl rfl (fun K hK => ?_)
      obtain rfl := l8 (hne 8 (by kernel_rfl))
      go_simp
      exact hK _ _ ((HI.out _ _ _).2 ⟨r1, r2, c2, d2, c1, d1, _, _, v10, v11, v12, v13, v14, v15, v16, v17, _, v19, v9, rfl, hF.put 0 rfl _ _ rfl, by simpa using hS, Free.of_set (by decide) l0, Free.of_set (by decide) l1, Free.of_set (by decide) l2, Free.of_set (by decide) l3, Free.of_set (by decide) l4, Free.of_set (by decide) l5, Free.of_set (by decide) l6, Free.of_set (by decide) l7, fun _ => rfl, Free.of_set (by decide) l9, Free.of_set (by decide) l13, fun e => ⟨(lq3 (Free.back (by decide) e)).1, by have g := lq3 (Free.back (by decide) e); have hk := LB0.out; exact (g.2.other _ _ (by have := g.1; simp only []; omega)).other _ _ (by have := g.1; simp only []; omega)⟩, fun e => ⟨(lq4 (Free.back (by decide) e)).1, by have g := lq4 (Free.back (by decide) e); have hk := LB0.out; exact (g.2.other _ _ (by have := g.1; simp only []; omega)).other _ _ (by have := g.1; simp only []; omega)⟩, Free.of_set (by decide) lp10, Free.of_set (by decide) lp11, fun _ => ⟨rfl, rfl⟩⟩)
    · refine Free.op rfl rfl (fun K hK => ?_)
      obtain rfl := l9 (hne 9 (by kernel_rfl))
      go_simp
      exact hK _ _ ((HI.out _ _ _).2 ⟨r1, r2, c2, d2, c1, d1, c0, d0, v10, v11, v12, v13, v14, v15, v16, v17, v18, _, _, rfl, hF, hS, Free.of_set (by decide) l0, Free.of_set (by decide) l1, Free.of_set (by decide) l2, Free.of_set (by decide) l3, Free.of_set (by decide) l4, Free.of_set (by decide) l5, Free.of_set (by decide) l6, Free.of_set (by decide) l7, Free.of_set (by decide) l8, fun _ => rfl, fun _ => rfl, Free.of_set (by decide) lq3, Free.of_set (by decide) lq4, Free.of_set (by decide) lp10, Free.of_set (by decide) lp11, Free.of_set (by decide) lp12⟩)
  case s3 =>
    clear hF
    intro listed aq W1 hall hsz hv
    obtain ⟨r1, r2, c2, d2, c1, d1, c0, d0, v10, v11, v12, v13, v14, v15, v16, v17, v18, v19, v9, rfl, hF, hS, l0, l1, l2, l3, l4, l5, l6, l7, l8, l9, l13, lq3, lq4, lp10, lp11, lp12⟩ := (HI.out _ _ _).1 hv
    clear hv HI
    have q3 := (lq3 (Free.listed_of hall hsz 3 (by decide))).2
    have q4 := (lq4 (Free.listed_of hall hsz 4 (by decide))).2
    obtain rfl := l0 (Free.listed_of hall hsz 0 (by decide))
    obtain rfl := l1 (Free.listed_of hall hsz 1 (by decide))
    obtain rfl := l2 (Free.listed_of hall hsz 2 (by decide))
    obtain rfl := l3 (Free.listed_of hall hsz 3 (by decide))
    obtain rfl := l4 (Free.listed_of hall hsz 4 (by decide))
    obtain rfl := l5 (Free.listed_of hall hsz 5 (by decide))
    obtain rfl := l6 (Free.listed_of hall hsz 6 (by decide))
    obtain rfl := l7 (Free.listed_of hall hsz 7 (by decide))
    obtain rfl := l8 (Free.listed_of hall hsz 8 (by decide))
    obtain rfl := l9 (Free.listed_of hall hsz 9 (by decide))
    obtain rfl := l13 (Free.listed_of hall hsz 13 (by decide))
    obtain ⟨rfl, rfl⟩ := lp10 (Free.listed_of hall hsz 10 (by decide))
    obtain ⟨rfl, rfl⟩ := lp11 (Free.listed_of hall hsz 11 (by decide))
    obtain ⟨rfl, rfl⟩ := lp12 (Free.listed_of hall hsz 12 (by decide))
    clear hall hsz lq3 lq4
    have z1 := (hF.at 2 rfl).lo
    have z2 := (hF.at 2 rfl).hi
    have z3 := (hF.at 1 rfl).lo
    have z4 := (hF.at 1 rfl).hi
    have z5 := (hF.at 0 rfl).lo
    have z6 := (hF.at 0 rfl).hi
    go_wp2
    refine bodyPost_ret (by simp [results, Tryd.results11, go_sem, z1, z2, z3, z4, z5, z6]; try rfl) rfl ?_
    exact ⟨rfl, hF.below⟩
end Go.Proofs.YtomkekapgcpihaaDoor
