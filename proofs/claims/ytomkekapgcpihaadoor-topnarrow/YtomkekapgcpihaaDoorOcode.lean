/-
  Plain arithmetic of what goes together as the code makes it, no program: a span is met with what is made of two others; first the third one, then each of both by the way back.
-/
import Derived.Test.YtomkekapgcpihaaDoorMaths3
import Derived.Test.YtomkekapgcpihaaDoorMaths
namespace Um
set_option linter.unusedSimpArgs false

/-- Met with what was made, if nothing was wrong with that. -/
def metR (ol oh : Int) (M : Int × Int × Int) : Int × Int × Int := if M.2.2 = 0 then made (meetR ol oh M.1 M.2.1) ol oh M.1 M.2.1 else (0, 0, M.2.2)
theorem met_yes {ol oh : Int} {M : Int × Int × Int} (h : M.2.2 = 0) : metR ol oh M = made (meetR ol oh M.1 M.2.1) ol oh M.1 M.2.1 := by unfold metR; rw [if_pos h]
theorem met_not {ol oh : Int} {M : Int × Int × Int} (h : ¬ M.2.2 = 0) : metR ol oh M = (0, 0, M.2.2) := by unfold metR; rw [if_neg h]
abbrev Op3 := Int → Int → Int → Int → Int → Int → Int × Int × Int
def mAdd : Op3 := fun ol oh al ah bl bh => metR ol oh (made (addR al ah bl bh) al ah bl bh)
def mLess : Op3 := fun ol oh al ah bl bh => metR ol oh (made (lessR al ah bl bh) al ah bl bh)
def mTimes : Op3 := fun ol oh al ah bl bh => metR ol oh (made (stimesR al ah bl bh) al ah bl bh)
def mBy : Op3 := fun ol oh al ah bl bh => metR ol oh (made (sbyR al ah bl bh) al ah bl bh)
/-- Only where 0 is not in the last one. -/
def unR (R : Op3) : Op3 := fun ol oh al ah bl bh => if bl ≤ 0 ∧ 0 ≤ bh then (ol, oh, 0) else R ol oh al ah bl bh
theorem un_yes {R : Op3} {ol oh al ah bl bh : Int} (h : bl ≤ 0 ∧ 0 ≤ bh) : unR R ol oh al ah bl bh = (ol, oh, 0) := by unfold unR; rw [if_pos h]
theorem un_not {R : Op3} {ol oh al ah bl bh : Int} (h : ¬ (bl ≤ 0 ∧ 0 ≤ bh)) : unR R ol oh al ah bl bh = R ol oh al ah bl bh := by unfold unR; rw [if_neg h]
/-- The third one, then the first, then the second. -/
def togR (R1 R2 : Op3) (xl xh yl yh zl zh : Int) : Three :=
  if narF xl xh yl yh zl zh = 0 then
    (let C := R1 zl zh xl xh yl yh
     if C.2.2 = 0 then
      (let A := R2 xl xh C.1 C.2.1 yl yh
       if A.2.2 = 0 then
        (let B := R2 yl yh C.1 C.2.1 A.1 A.2.1
         if B.2.2 = 0 then ((A.1, A.2.1), (B.1, B.2.1), (C.1, C.2.1), 0) else no3 B.2.2)
       else no3 A.2.2)
     else no3 C.2.2)
  else no3 (narF xl xh yl yh zl zh)
theorem tog_bad {R1 R2 : Op3} {xl xh yl yh zl zh : Int} (h : ¬ narF xl xh yl yh zl zh = 0) : togR R1 R2 xl xh yl yh zl zh = no3 (narF xl xh yl yh zl zh) := by unfold togR; rw [if_neg h]
theorem tog_is {R1 R2 : Op3} {xl xh yl yh zl zh : Int} {C A B : Int × Int × Int} (h : narF xl xh yl yh zl zh = 0) (eC : R1 zl zh xl xh yl yh = C) (eA : R2 xl xh C.1 C.2.1 yl yh = A) (eB : R2 yl yh C.1 C.2.1 A.1 A.2.1 = B) :
    togR R1 R2 xl xh yl yh zl zh = if C.2.2 = 0 then (if A.2.2 = 0 then (if B.2.2 = 0 then ((A.1, A.2.1), (B.1, B.2.1), (C.1, C.2.1), 0) else no3 B.2.2) else no3 A.2.2) else no3 C.2.2 := by
  subst eC; subst eA; subst eB
  unfold togR; rw [if_pos h]
theorem meet_right {al ah bl bh : Int} (h1 : chk al ah = 0) (h : (meetR al ah bl bh).2.2 = 0) : chk (meetR al ah bl bh).1 (meetR al ah bl bh).2.1 = 0 := by
  obtain ⟨_, b, _, d, e⟩ := meet_in h
  obtain ⟨m1, m2, _⟩ := chk_ok.1 h1
  obtain ⟨a1, a2⟩ := (may_iff _).1 m1
  obtain ⟨a3, a4⟩ := (may_iff _).1 m2
  exact chk_ok.2 ⟨(may_iff _).2 ⟨by omega, by omega⟩, (may_iff _).2 ⟨by omega, by omega⟩, b⟩
/-- Of right spans: met with what is made of both. -/
theorem met_right {R : Int × Int × Int} {ol oh al ah bl bh : Int} (ho : chk ol oh = 0) (ha : chk al ah = 0) (hb : chk bl bh = 0) (hR : R.2.2 = 0 → chk R.1 R.2.1 = 0) : metR ol oh (made R al ah bl bh) = if R.2.2 = 0 then meetR ol oh R.1 R.2.1 else (0, 0, R.2.2) := by
  rw [made_good ha hb]
  by_cases h : R.2.2 = 0
  · rw [if_pos h, met_yes h, made_good ho (hR h)]
  · rw [if_neg h, met_not h]
theorem met_chk {R : Int × Int × Int} {ol oh : Int} (ho : chk ol oh = 0) (h : (if R.2.2 = 0 then meetR ol oh R.1 R.2.1 else (0, 0, R.2.2)).2.2 = 0) : R.2.2 = 0 ∧ chk (if R.2.2 = 0 then meetR ol oh R.1 R.2.1 else (0, 0, R.2.2)).1 (if R.2.2 = 0 then meetR ol oh R.1 R.2.1 else (0, 0, R.2.2)).2.1 = 0 := by
  by_cases c : R.2.2 = 0
  · rw [if_pos c] at h ⊢
    exact ⟨c, meet_right ho h⟩
  · rw [if_neg c] at h; exact absurd h c
theorem add_right3 {al ah bl bh : Int} (ha : chk al ah = 0) (hb : chk bl bh = 0) : (addR al ah bl bh).2.2 = 0 → chk (addR al ah bl bh).1 (addR al ah bl bh).2.1 = 0 := fun h => add_chk (chk_ok.1 ha).2.2 (chk_ok.1 hb).2.2 h
theorem less_right3 {al ah bl bh : Int} (ha : chk al ah = 0) (hb : chk bl bh = 0) : (lessR al ah bl bh).2.2 = 0 → chk (lessR al ah bl bh).1 (lessR al ah bl bh).2.1 = 0 := fun h => less_right (chk_ok.1 ha).2.2 (chk_ok.1 hb).2.2 h
theorem times_right3 {al ah bl bh : Int} (ha : chk al ah = 0) (hb : chk bl bh = 0) : (stimesR al ah bl bh).2.2 = 0 → chk (stimesR al ah bl bh).1 (stimesR al ah bl bh).2.1 = 0 := fun h => stimes_chk (chk_ok.1 ha).2.2 (chk_ok.1 hb).2.2 h
theorem by_right3 {al ah bl bh : Int} (hb : chk bl bh = 0) : (sbyR al ah bl bh).2.2 = 0 → chk (sbyR al ah bl bh).1 (sbyR al ah bl bh).2.1 = 0 := fun h => sby_chk (chk_ok.1 hb).2.2 h
/-- As a sum the code's way is the document's. -/
theorem tog_sum (xl xh yl yh zl zh : Int) : togR mAdd mLess xl xh yl yh zl zh = nsumAll xl xh yl yh zl zh := by
  by_cases c : narF xl xh yl yh zl zh = 0
  · obtain ⟨hx, hy, hz⟩ := nar_ok.1 c
    rw [nsumAll_yes c, tog_is c rfl rfl rfl, nsum_is rfl rfl rfl rfl rfl rfl]
    have eC : mAdd zl zh xl xh yl yh = _ := met_right hz hx hy (add_right3 hx hy)
    rw [eC]
    have kC := met_chk (R := addR xl xh yl yh) hz
    by_cases t : (addR xl xh yl yh).2.2 = 0
    · rw [if_pos t] at kC ⊢
      rw [if_pos t]
      generalize meetR zl zh (addR xl xh yl yh).1 (addR xl xh yl yh).2.1 = C at *
      by_cases d : C.2.2 = 0
      · have hC := (kC d).2
        rw [if_pos d, if_pos d]
        have eA : mLess xl xh C.1 C.2.1 yl yh = _ := met_right hx hC hy (less_right3 hC hy)
        rw [eA]
        have kA := met_chk (R := lessR C.1 C.2.1 yl yh) hx
        by_cases u : (lessR C.1 C.2.1 yl yh).2.2 = 0
        · rw [if_pos u] at kA ⊢
          rw [if_pos u]
          generalize meetR xl xh (lessR C.1 C.2.1 yl yh).1 (lessR C.1 C.2.1 yl yh).2.1 = A at *
          by_cases a : A.2.2 = 0
          · have hA := (kA a).2
            rw [if_pos a, if_pos a]
            have eB : mLess yl yh C.1 C.2.1 A.1 A.2.1 = _ := met_right hy hC hA (less_right3 hC hA)
            rw [eB]
            by_cases v : (lessR C.1 C.2.1 A.1 A.2.1).2.2 = 0
            · rw [if_pos v, if_pos v]
            · rw [if_neg v, if_neg v, if_neg v]
          · rw [if_neg a, if_neg a]
        · rw [if_neg u, if_neg u, if_neg u]
      · rw [if_neg d, if_neg d]
    · rw [if_neg t, if_neg t, if_neg t]
  · rw [tog_bad c, nsumAll_not c]
theorem un_back {ol oh al ah bl bh : Int} (ho : chk ol oh = 0) (ha : chk al ah = 0) (hb : chk bl bh = 0) : unR mBy ol oh al ah bl bh = backR ol oh al ah bl bh := by
  unfold unR backR
  by_cases z : bl ≤ 0 ∧ 0 ≤ bh
  · rw [if_pos z, if_pos z]
  · rw [if_neg z, if_neg z]
    exact met_right ho ha hb (by_right3 hb)
theorem back_right {xl xh cl ch yl yh : Int} (hx : chk xl xh = 0) (h : (backR xl xh cl ch yl yh).2.2 = 0) : chk (backR xl xh cl ch yl yh).1 (backR xl xh cl ch yl yh).2.1 = 0 := by
  unfold backR at h ⊢
  by_cases z : yl ≤ 0 ∧ 0 ≤ yh
  · rw [if_pos z]; exact hx
  · rw [if_neg z] at h ⊢
    exact (met_chk hx h).2
/-- As a product likewise. -/
theorem tog_times (xl xh yl yh zl zh : Int) : togR mTimes (unR mBy) xl xh yl yh zl zh = ntimesAll xl xh yl yh zl zh := by
  by_cases c : narF xl xh yl yh zl zh = 0
  · obtain ⟨hx, hy, hz⟩ := nar_ok.1 c
    rw [ntimesAll_yes c, tog_is c rfl rfl rfl, ntimes_is rfl rfl rfl rfl]
    have eC : mTimes zl zh xl xh yl yh = _ := met_right hz hx hy (times_right3 hx hy)
    rw [eC]
    have kC := met_chk (R := stimesR xl xh yl yh) hz
    by_cases t : (stimesR xl xh yl yh).2.2 = 0
    · rw [if_pos t] at kC ⊢
      rw [if_pos t]
      generalize meetR zl zh (stimesR xl xh yl yh).1 (stimesR xl xh yl yh).2.1 = C at *
      by_cases d : C.2.2 = 0
      · have hC := (kC d).2
        rw [if_pos d, if_pos d, un_back hx hC hy]
        have kA := back_right (xl := xl) (xh := xh) (cl := C.1) (ch := C.2.1) (yl := yl) (yh := yh) hx
        generalize backR xl xh C.1 C.2.1 yl yh = A at *
        by_cases a : A.2.2 = 0
        · rw [if_pos a, if_pos a, un_back hy hC (kA a)]
        · rw [if_neg a, if_neg a]
      · rw [if_neg d, if_neg d]
    · rw [if_neg t, if_neg t, if_neg t]
  · rw [tog_bad c, ntimesAll_not c]
/-- What is wrong with three, as a row. -/
theorem nar_sides (xl xh yl yh zl zh : Int) : sidesF [(xl, xh), (yl, yh), (zl, zh)] = narF xl xh yl yh zl zh := by
  unfold narF
  simp only [sidesF]
  by_cases h : chk xl xh = 0
  · by_cases h2 : chk yl yh = 0
    · by_cases h3 : chk zl zh = 0
      · simp [h, h2, h3]
      · simp [h, h2, h3]
    · simp [h, h2]
  · simp [h]
end Um
