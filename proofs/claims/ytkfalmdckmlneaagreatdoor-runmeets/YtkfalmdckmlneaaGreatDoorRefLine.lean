/-
  What the document's answer (package spanref2) to a line is.
-/
import Derived.Test.YtkfalmdckmlneaaGreatDoorRefLineA
import Derived.Test.YtkfalmdckmlneaaGreatDoorRefLineB
import Derived.Test.YtkfalmdckmlneaaGreatDoorRefs2
import Derived.Test.YtkfalmdckmlneaaGreatDoorRefRoot
namespace Go.Proofs.YtkfalmdckmlneaaGreatDoor.Lin
set_option linter.unusedSimpArgs false
open Go.RowKit

theorem str_data (k : List UInt8) : (⟨k.toArray⟩ : ByteArray).data.toList = k := by simp
theorem str_list (k : List UInt8) : (⟨k.toArray⟩ : ByteArray).toList = k := by rw [Lib.toList_data, str_data]
theorem nums_is {l : List UInt8} (h : Um.numsOk l = true) : numsA l = Um.numsL l := if_pos h

theorem text_some (S : Int × Int) : Um.textR S ≠ [] := by unfold Um.textR; simp
theorem join_some {l : List (Int × Int)} {k : Nat} (h : 0 < k) : (Um.joinTo l k == []) = false := by
  obtain ⟨j, rfl⟩ : ∃ j, k = j + 1 := ⟨k - 1, by omega⟩
  rw [beq_eq_false_iff_ne]
  intro e
  have e2 : Um.joinTo l j ++ (if 0 < j then [32] else []) ++ Um.textR (l[j]?.getD (0, 0)) = [] := e
  rw [List.append_eq_nil_iff] at e2
  exact text_some _ e2.2

set_option maxRecDepth 100000 in
set_option maxHeartbeats 16000000 in
theorem line_two (s : ByteArray) (k x y : List UInt8) (w : World) (hs : s.size ≤ 3000) (hW : Um.cutL 32 s.data.toList = [k, x, y]) (ht : Um.isTwo k = true) :
    Calls Tryz.prog 8 #[.string s] w fun e w' => e = .returned (strV (Um.lineR s.data.toList)) ∧ Below w.heap.size w w' := by
  have HRES : Hid (Um.lineR s.data.toList = Um.lineTwo k x y) := hid (by unfold Um.lineR; rw [hW]; exact if_pos ht)
  have HCU := hid (rCut_any s 32 w hs)
  have hsm := Um.cutL_small 32 s.data.toList
  have hsl : s.data.toList.length = s.size := by simp
  rw [hsl] at hsm
  rw [hW] at HCU hsm
  have hz1 : (⟨(x).toArray⟩ : ByteArray).size ≤ 3000 := by rw [str_size]; exact Nat.le_trans (hsm x (by simp)) hs
  have hz2 : (⟨(y).toArray⟩ : ByteArray).size ≤ 3000 := by rw [str_size]; exact Nat.le_trans (hsm y (by simp)) hs
  clear hsm hsl hs
  go_enter Tryz.func8, Tryz.ntmps8
  go_wp2_with fail
  refine HCU.out.mono ?_
  rintro e wn ⟨r, rfl, hr, hB0⟩
  obtain ⟨b, o, c, er, -, hlt, hcs⟩ := hr.open (by simp)
  replace er : r = .slice (some ⟨b, o, none⟩) 3 c := er
  subst er
  have c0 : wn.cell? ⟨b, o, none⟩ = some (.string ⟨(k).toArray⟩) := hcs 0 (by simp)
  have c1 : wn.cell? ⟨b, o + 1, none⟩ = some (.string ⟨(x).toArray⟩) := hcs 1 (by simp)
  have c2 : wn.cell? ⟨b, o + 2, none⟩ = some (.string ⟨(y).toArray⟩) := hcs 2 (by simp)
  clear hr hcs HCU
  go_upto_region 2 with fail
  refine two_test rfl b o 3 c ⟨(k).toArray⟩ wn c0 (by decide) ?_
  intro u31 u32 u33 u34 u35 u36 u37 u38 u39 u40 u41 u42 u43 u44 u45 u46 u47 u48 u49 u50 u51 u52 u53 u54 u55 u56 u57 u58 u59 u60 u61 u62 u63 u64 u65 u66 u67 u68 _ _
  rw [show (decide ((3 : Nat) = 3) && Um.isTwo (⟨(k).toArray⟩ : ByteArray).toList) = true from by rw [str_list]; rw [ht]; rfl]
  go_upto_if 69 with fail
  refine two_yes rfl b o c ⟨k.toArray⟩ ⟨x.toArray⟩ ⟨y.toArray⟩ wn c0 c1 c2 hlt hz1 hz2 (by rw [str_list]; exact ht) ?_
  intro u4 u5 u6 u7 u70 u71 u72 u73 u74 u75 u76 u77 u78 u79 u80 u81 u82 u83 u84 u85 u86 u87 u88 u89 u90 u91 u92 u93 u94 u95 u96 u97 u98 u99 u100 u101 u102 u103 u104 u105 u106 u107 u108 u109 u110 u111 u112 u113 u114 u115 u116 u117 u118 u119 u120 u121 u122 u123 u124 u125 u126 u127 u128 u129 u130 u131 u132 u133 u134 u135 u136 wq hb
  rw [str_list, str_data, str_data, ← HRES.out]
  go_returns
  exact ⟨rfl, hB0.trans (hb.mono hB0.size)⟩

set_option maxRecDepth 100000 in
set_option maxHeartbeats 16000000 in
theorem line_power (s : ByteArray) (x y : List UInt8) (w : World) (hs : s.size ≤ 3000) (hW : Um.cutL 32 s.data.toList = [Um.wPower, x, y]) :
    Calls Tryz.prog 8 #[.string s] w fun e w' => e = .returned (strV (Um.lineR s.data.toList)) ∧ Below w.heap.size w w' := by
  have HRES : Hid (Um.lineR s.data.toList = Um.linePow x y) := hid (by unfold Um.lineR; rw [hW]; rfl)
  have HCU := hid (rCut_any s 32 w hs)
  have hsm := Um.cutL_small 32 s.data.toList
  have hsl : s.data.toList.length = s.size := by simp
  rw [hsl] at hsm
  rw [hW] at HCU hsm
  have hz1 : (⟨(x).toArray⟩ : ByteArray).size ≤ 3000 := by rw [str_size]; exact Nat.le_trans (hsm x (by simp)) hs
  have hz2 : (⟨(y).toArray⟩ : ByteArray).size ≤ 3000 := by rw [str_size]; exact Nat.le_trans (hsm y (by simp)) hs
  clear hsm hsl hs
  go_enter Tryz.func8, Tryz.ntmps8
  go_wp2_with fail
  refine HCU.out.mono ?_
  rintro e wn ⟨r, rfl, hr, hB0⟩
  obtain ⟨b, o, c, er, -, hlt, hcs⟩ := hr.open (by simp)
  replace er : r = .slice (some ⟨b, o, none⟩) 3 c := er
  subst er
  have c0 : wn.cell? ⟨b, o, none⟩ = some (.string ⟨(Um.wPower).toArray⟩) := hcs 0 (by simp)
  have c1 : wn.cell? ⟨b, o + 1, none⟩ = some (.string ⟨(x).toArray⟩) := hcs 1 (by simp)
  have c2 : wn.cell? ⟨b, o + 2, none⟩ = some (.string ⟨(y).toArray⟩) := hcs 2 (by simp)
  clear hr hcs HCU
  go_upto_region 2 with fail
  refine two_test rfl b o 3 c ⟨(Um.wPower).toArray⟩ wn c0 (by decide) ?_
  intro u31 u32 u33 u34 u35 u36 u37 u38 u39 u40 u41 u42 u43 u44 u45 u46 u47 u48 u49 u50 u51 u52 u53 u54 u55 u56 u57 u58 u59 u60 u61 u62 u63 u64 u65 u66 u67 u68 _ _
  rw [show (decide ((3 : Nat) = 3) && Um.isTwo (⟨(Um.wPower).toArray⟩ : ByteArray).toList) = false from by rw [str_list]; rfl]
  go_upto_region 19 with fail
  refine power_test rfl b o 3 c ⟨(Um.wPower).toArray⟩ wn c0 (by decide) ?_
  intro u137 u138 u139 u140 u141 u142 u143 u144 _ _
  rw [show (decide ((3 : Nat) = 3) && ((⟨(Um.wPower).toArray⟩ : ByteArray).toList == [112, 111, 119, 101, 114])) = true from by rw [str_list]; rfl]
  go_upto_if 145 with fail
  refine power_yes rfl b o c ⟨x.toArray⟩ ⟨y.toArray⟩ wn c1 c2 hlt hz1 ?_
  intro u8 u9 u10 u146 u147 u148 u149 u150 u151 u152 u153 u154 u155 u156 u157 u158 u159 u160 u161 u162 u163 u164 u165 u166 u167 u168 u169 u170 u171 u172 u173 u174 u175 u176 u177 u178 u179 u180 u181 u182 u183 u184 u185 u186 u187 u188 u189 u190 wq hb
  rw [str_data, str_data, ← HRES.out]
  go_returns
  exact ⟨rfl, hB0.trans (hb.mono hB0.size)⟩

set_option maxRecDepth 100000 in
set_option maxHeartbeats 16000000 in
theorem range_bad (s : ByteArray) (p x : List UInt8) (w : World) (hs : s.size ≤ 3000) (hW : Um.cutL 32 s.data.toList = [Um.wRange, p, x]) (hc : ¬ (Um.numsOk p = true ∧ Um.spOk x = true)) :
    Calls Tryz.prog 8 #[.string s] w fun e w' => e = .returned (strV (Um.lineR s.data.toList)) ∧ Below w.heap.size w w' := by
  have HRES : Hid (Um.lineR s.data.toList = Um.wBad) := hid (by unfold Um.lineR; rw [hW]; show Um.lineRange p x = _; exact if_neg hc)
  have HCU := hid (rCut_any s 32 w hs)
  have hsm := Um.cutL_small 32 s.data.toList
  have hsl : s.data.toList.length = s.size := by simp
  rw [hsl] at hsm
  rw [hW] at HCU hsm
  have hz1 : (⟨(p).toArray⟩ : ByteArray).size ≤ 3000 := by rw [str_size]; exact Nat.le_trans (hsm p (by simp)) hs
  have hz2 : (⟨(x).toArray⟩ : ByteArray).size ≤ 3000 := by rw [str_size]; exact Nat.le_trans (hsm x (by simp)) hs
  clear hsm hsl hs
  have HNU := fun W => hid (rNums_any ⟨p.toArray⟩ W hz1)
  have HSP := fun W => hid (rSp_any ⟨x.toArray⟩ W hz2)
  rw [str_data] at HNU HSP
  generalize numsA p = NA at *
  generalize spA x = XS at *
  generalize Um.numsOk p = C1 at *
  generalize Um.spOk x = C2 at *
  go_enter Tryz.func8, Tryz.ntmps8
  go_wp2_with fail
  refine HCU.out.mono ?_
  rintro e wn ⟨r, rfl, hr, hB0⟩
  obtain ⟨b, o, c, er, -, hlt, hcs⟩ := hr.open (by simp)
  replace er : r = .slice (some ⟨b, o, none⟩) 3 c := er
  subst er
  have c0 : wn.cell? ⟨b, o, none⟩ = some (.string ⟨(Um.wRange).toArray⟩) := hcs 0 (by simp)
  have c1 : wn.cell? ⟨b, o + 1, none⟩ = some (.string ⟨(p).toArray⟩) := hcs 1 (by simp)
  have c2 : wn.cell? ⟨b, o + 2, none⟩ = some (.string ⟨(x).toArray⟩) := hcs 2 (by simp)
  clear hr hcs HCU
  go_upto_region 2 with fail
  refine two_test rfl b o 3 c ⟨(Um.wRange).toArray⟩ wn c0 (by decide) ?_
  intro u31 u32 u33 u34 u35 u36 u37 u38 u39 u40 u41 u42 u43 u44 u45 u46 u47 u48 u49 u50 u51 u52 u53 u54 u55 u56 u57 u58 u59 u60 u61 u62 u63 u64 u65 u66 u67 u68 _ _
  rw [show (decide ((3 : Nat) = 3) && Um.isTwo (⟨(Um.wRange).toArray⟩ : ByteArray).toList) = false from by rw [str_list]; rfl]
  go_upto_region 19 with fail
  refine power_test rfl b o 3 c ⟨(Um.wRange).toArray⟩ wn c0 (by decide) ?_
  intro u137 u138 u139 u140 u141 u142 u143 u144 _ _
  rw [show (decide ((3 : Nat) = 3) && ((⟨(Um.wRange).toArray⟩ : ByteArray).toList == [112, 111, 119, 101, 114])) = false from by rw [str_list]; rfl]
  go_upto_region 27 with fail
  refine range_test rfl b o 3 c ⟨(Um.wRange).toArray⟩ wn c0 (by decide) ?_
  intro u191 u192 u193 u194 u195 u196 u197 u198 _ _
  rw [show (decide ((3 : Nat) = 3) && ((⟨(Um.wRange).toArray⟩ : ByteArray).toList == [114, 97, 110, 103, 101])) = true from by rw [str_list]; rfl]
  go_upto_region 28 with fail
  refine newton_test rfl b o 3 c ⟨(Um.wRange).toArray⟩ wn c0 (by decide) ?_
  intro u200 u201 u202 u203 u204 u205 u206 u207 _ _
  rw [show (decide ((3 : Nat) = 3) && ((⟨(Um.wRange).toArray⟩ : ByteArray).toList == [110, 101, 119, 116, 111, 110])) = false from by rw [str_list]; rfl]
  go_upto_region 29 with fail
  refine roots_test rfl b o 3 c ⟨(Um.wRange).toArray⟩ wn c0 (by decide) ?_
  intro u209 u210 u211 u212 u213 u214 u215 u216 _ _
  rw [show (decide ((3 : Nat) = 4) && ((⟨(Um.wRange).toArray⟩ : ByteArray).toList == [114, 111, 111, 116, 115])) = false from by rw [str_list]; rfl]
  go_upto_region 30 with fail
  refine none_test rfl true false false wn trivial ?_
  intro u218 u219 u220 u221 u222 u223 u224 u225 u226 _ _
  rw [show (!true && !false && !false) = false from rfl]
  cases C1
  · clear hc
    go_wp2_with fail
    refine (HNU _).out.mono ?_
    rintro e wa ⟨rp, rfl, hrp, hba⟩
    obtain ⟨a5, c5, e5, -⟩ := (id hrp)
    obtain ⟨n5, hn5⟩ : ∃ n5, n5 = NA.length := ⟨_, rfl⟩
    rw [← hn5] at e5
    subst e5
    have hF := Fr.start wa
    have y2 := (hba.cell (p := ⟨b, o + 2, none⟩) hlt).trans c2
    clear HNU hn5
    go_wp2_with fail
    refine (HSP _).out.mono ?_
    rintro e wb ⟨rfl, hb⟩
    replace hF := hF.step hb
    replace hF := hF.push XS.1 XS.2 rfl
    have hBA := hB0.trans (hba.mono hB0.size)
    clear HSP hb y2
    go_wp2
    go_returns
    rw [HRES.out]
    exact ⟨rfl, hBA.trans (hF.below.mono hBA.size)⟩
  · obtain rfl : C2 = false := by cases C2; · rfl
                                  · exact absurd ⟨rfl, rfl⟩ hc
    clear hc
    go_wp2_with fail
    refine (HNU _).out.mono ?_
    rintro e wa ⟨rp, rfl, hrp, hba⟩
    obtain ⟨a5, c5, e5, -⟩ := (id hrp)
    obtain ⟨n5, hn5⟩ : ∃ n5, n5 = NA.length := ⟨_, rfl⟩
    rw [← hn5] at e5
    subst e5
    have hF := Fr.start wa
    have y2 := (hba.cell (p := ⟨b, o + 2, none⟩) hlt).trans c2
    clear HNU hn5
    go_wp2_with fail
    refine (HSP _).out.mono ?_
    rintro e wb ⟨rfl, hb⟩
    replace hF := hF.step hb
    replace hF := hF.push XS.1 XS.2 rfl
    have hBA := hB0.trans (hba.mono hB0.size)
    clear HSP hb y2
    go_wp2
    go_returns
    rw [HRES.out]
    exact ⟨rfl, hBA.trans (hF.below.mono hBA.size)⟩

set_option maxRecDepth 100000 in
set_option maxHeartbeats 16000000 in
theorem newton_bad (s : ByteArray) (p x : List UInt8) (w : World) (hs : s.size ≤ 3000) (hW : Um.cutL 32 s.data.toList = [Um.wNewton, p, x]) (hc : ¬ (Um.numsOk p = true ∧ Um.spOk x = true)) :
    Calls Tryz.prog 8 #[.string s] w fun e w' => e = .returned (strV (Um.lineR s.data.toList)) ∧ Below w.heap.size w w' := by
  have HRES : Hid (Um.lineR s.data.toList = Um.wBad) := hid (by unfold Um.lineR; rw [hW]; show Um.lineNewton p x = _; exact if_neg hc)
  have HCU := hid (rCut_any s 32 w hs)
  have hsm := Um.cutL_small 32 s.data.toList
  have hsl : s.data.toList.length = s.size := by simp
  rw [hsl] at hsm
  rw [hW] at HCU hsm
  have hz1 : (⟨(p).toArray⟩ : ByteArray).size ≤ 3000 := by rw [str_size]; exact Nat.le_trans (hsm p (by simp)) hs
  have hz2 : (⟨(x).toArray⟩ : ByteArray).size ≤ 3000 := by rw [str_size]; exact Nat.le_trans (hsm x (by simp)) hs
  clear hsm hsl hs
  have HNU := fun W => hid (rNums_any ⟨p.toArray⟩ W hz1)
  have HSP := fun W => hid (rSp_any ⟨x.toArray⟩ W hz2)
  rw [str_data] at HNU HSP
  generalize numsA p = NA at *
  generalize spA x = XS at *
  generalize Um.numsOk p = C1 at *
  generalize Um.spOk x = C2 at *
  go_enter Tryz.func8, Tryz.ntmps8
  go_wp2_with fail
  refine HCU.out.mono ?_
  rintro e wn ⟨r, rfl, hr, hB0⟩
  obtain ⟨b, o, c, er, -, hlt, hcs⟩ := hr.open (by simp)
  replace er : r = .slice (some ⟨b, o, none⟩) 3 c := er
  subst er
  have c0 : wn.cell? ⟨b, o, none⟩ = some (.string ⟨(Um.wNewton).toArray⟩) := hcs 0 (by simp)
  have c1 : wn.cell? ⟨b, o + 1, none⟩ = some (.string ⟨(p).toArray⟩) := hcs 1 (by simp)
  have c2 : wn.cell? ⟨b, o + 2, none⟩ = some (.string ⟨(x).toArray⟩) := hcs 2 (by simp)
  clear hr hcs HCU
  go_upto_region 2 with fail
  refine two_test rfl b o 3 c ⟨(Um.wNewton).toArray⟩ wn c0 (by decide) ?_
  intro u31 u32 u33 u34 u35 u36 u37 u38 u39 u40 u41 u42 u43 u44 u45 u46 u47 u48 u49 u50 u51 u52 u53 u54 u55 u56 u57 u58 u59 u60 u61 u62 u63 u64 u65 u66 u67 u68 _ _
  rw [show (decide ((3 : Nat) = 3) && Um.isTwo (⟨(Um.wNewton).toArray⟩ : ByteArray).toList) = false from by rw [str_list]; rfl]
  go_upto_region 19 with fail
  refine power_test rfl b o 3 c ⟨(Um.wNewton).toArray⟩ wn c0 (by decide) ?_
  intro u137 u138 u139 u140 u141 u142 u143 u144 _ _
  rw [show (decide ((3 : Nat) = 3) && ((⟨(Um.wNewton).toArray⟩ : ByteArray).toList == [112, 111, 119, 101, 114])) = false from by rw [str_list]; rfl]
  go_upto_region 27 with fail
  refine range_test rfl b o 3 c ⟨(Um.wNewton).toArray⟩ wn c0 (by decide) ?_
  intro u191 u192 u193 u194 u195 u196 u197 u198 _ _
  rw [show (decide ((3 : Nat) = 3) && ((⟨(Um.wNewton).toArray⟩ : ByteArray).toList == [114, 97, 110, 103, 101])) = false from by rw [str_list]; rfl]
  go_upto_region 28 with fail
  refine newton_test rfl b o 3 c ⟨(Um.wNewton).toArray⟩ wn c0 (by decide) ?_
  intro u200 u201 u202 u203 u204 u205 u206 u207 _ _
  rw [show (decide ((3 : Nat) = 3) && ((⟨(Um.wNewton).toArray⟩ : ByteArray).toList == [110, 101, 119, 116, 111, 110])) = true from by rw [str_list]; rfl]
  go_upto_region 29 with fail
  refine roots_test rfl b o 3 c ⟨(Um.wNewton).toArray⟩ wn c0 (by decide) ?_
  intro u209 u210 u211 u212 u213 u214 u215 u216 _ _
  rw [show (decide ((3 : Nat) = 4) && ((⟨(Um.wNewton).toArray⟩ : ByteArray).toList == [114, 111, 111, 116, 115])) = false from by rw [str_list]; rfl]
  go_upto_region 30 with fail
  refine none_test rfl false true false wn trivial ?_
  intro u218 u219 u220 u221 u222 u223 u224 u225 u226 _ _
  rw [show (!false && !true && !false) = false from rfl]
  cases C1
  · clear hc
    go_wp2_with fail
    refine (HNU _).out.mono ?_
    rintro e wa ⟨rp, rfl, hrp, hba⟩
    obtain ⟨a5, c5, e5, -⟩ := (id hrp)
    obtain ⟨n5, hn5⟩ : ∃ n5, n5 = NA.length := ⟨_, rfl⟩
    rw [← hn5] at e5
    subst e5
    have hF := Fr.start wa
    have y2 := (hba.cell (p := ⟨b, o + 2, none⟩) hlt).trans c2
    clear HNU hn5
    go_wp2_with fail
    refine (HSP _).out.mono ?_
    rintro e wb ⟨rfl, hb⟩
    replace hF := hF.step hb
    replace hF := hF.push XS.1 XS.2 rfl
    have hBA := hB0.trans (hba.mono hB0.size)
    clear HSP hb y2
    go_wp2
    go_returns
    rw [HRES.out]
    exact ⟨rfl, hBA.trans (hF.below.mono hBA.size)⟩
  · obtain rfl : C2 = false := by cases C2; · rfl
                                  · exact absurd ⟨rfl, rfl⟩ hc
    clear hc
    go_wp2_with fail
    refine (HNU _).out.mono ?_
    rintro e wa ⟨rp, rfl, hrp, hba⟩
    obtain ⟨a5, c5, e5, -⟩ := (id hrp)
    obtain ⟨n5, hn5⟩ : ∃ n5, n5 = NA.length := ⟨_, rfl⟩
    rw [← hn5] at e5
    subst e5
    have hF := Fr.start wa
    have y2 := (hba.cell (p := ⟨b, o + 2, none⟩) hlt).trans c2
    clear HNU hn5
    go_wp2_with fail
    refine (HSP _).out.mono ?_
    rintro e wb ⟨rfl, hb⟩
    replace hF := hF.step hb
    replace hF := hF.push XS.1 XS.2 rfl
    have hBA := hB0.trans (hba.mono hB0.size)
    clear HSP hb y2
    go_wp2
    go_returns
    rw [HRES.out]
    exact ⟨rfl, hBA.trans (hF.below.mono hBA.size)⟩

set_option maxRecDepth 100000 in
set_option maxHeartbeats 16000000 in
theorem roots_bad (s : ByteArray) (p x u : List UInt8) (w : World) (hs : s.size ≤ 3000) (hW : Um.cutL 32 s.data.toList = [Um.wRoots, p, x, u]) (hc : ¬ (Um.numsOk p = true ∧ Um.spOk x = true)) :
    Calls Tryz.prog 8 #[.string s] w fun e w' => e = .returned (strV (Um.lineR s.data.toList)) ∧ Below w.heap.size w w' := by
  have HRES : Hid (Um.lineR s.data.toList = Um.wBad) := hid (by unfold Um.lineR; rw [hW]; show Um.lineRoots p x u = _; exact if_neg fun q => hc ⟨q.1, q.2.1⟩)
  have HCU := hid (rCut_any s 32 w hs)
  have hsm := Um.cutL_small 32 s.data.toList
  have hsl : s.data.toList.length = s.size := by simp
  rw [hsl] at hsm
  rw [hW] at HCU hsm
  have hz1 : (⟨(p).toArray⟩ : ByteArray).size ≤ 3000 := by rw [str_size]; exact Nat.le_trans (hsm p (by simp)) hs
  have hz2 : (⟨(x).toArray⟩ : ByteArray).size ≤ 3000 := by rw [str_size]; exact Nat.le_trans (hsm x (by simp)) hs
  have hz3 : (⟨(u).toArray⟩ : ByteArray).size ≤ 3000 := by rw [str_size]; exact Nat.le_trans (hsm u (by simp)) hs
  clear hsm hsl hs
  have HNU := fun W => hid (rNums_any ⟨p.toArray⟩ W hz1)
  have HSP := fun W => hid (rSp_any ⟨x.toArray⟩ W hz2)
  rw [str_data] at HNU HSP
  generalize numsA p = NA at *
  generalize spA x = XS at *
  generalize Um.numsOk p = C1 at *
  generalize Um.spOk x = C2 at *
  go_enter Tryz.func8, Tryz.ntmps8
  go_wp2_with fail
  refine HCU.out.mono ?_
  rintro e wn ⟨r, rfl, hr, hB0⟩
  obtain ⟨b, o, c, er, -, hlt, hcs⟩ := hr.open (by simp)
  replace er : r = .slice (some ⟨b, o, none⟩) 4 c := er
  subst er
  have c0 : wn.cell? ⟨b, o, none⟩ = some (.string ⟨(Um.wRoots).toArray⟩) := hcs 0 (by simp)
  have c1 : wn.cell? ⟨b, o + 1, none⟩ = some (.string ⟨(p).toArray⟩) := hcs 1 (by simp)
  have c2 : wn.cell? ⟨b, o + 2, none⟩ = some (.string ⟨(x).toArray⟩) := hcs 2 (by simp)
  have c3 : wn.cell? ⟨b, o + 3, none⟩ = some (.string ⟨(u).toArray⟩) := hcs 3 (by simp)
  clear hr hcs HCU
  go_upto_region 2 with fail
  refine two_test rfl b o 4 c ⟨(Um.wRoots).toArray⟩ wn c0 (by decide) ?_
  intro u31 u32 u33 u34 u35 u36 u37 u38 u39 u40 u41 u42 u43 u44 u45 u46 u47 u48 u49 u50 u51 u52 u53 u54 u55 u56 u57 u58 u59 u60 u61 u62 u63 u64 u65 u66 u67 u68 _ _
  rw [show (decide ((4 : Nat) = 3) && Um.isTwo (⟨(Um.wRoots).toArray⟩ : ByteArray).toList) = false from by rw [str_list]; rfl]
  go_upto_region 19 with fail
  refine power_test rfl b o 4 c ⟨(Um.wRoots).toArray⟩ wn c0 (by decide) ?_
  intro u137 u138 u139 u140 u141 u142 u143 u144 _ _
  rw [show (decide ((4 : Nat) = 3) && ((⟨(Um.wRoots).toArray⟩ : ByteArray).toList == [112, 111, 119, 101, 114])) = false from by rw [str_list]; rfl]
  go_upto_region 27 with fail
  refine range_test rfl b o 4 c ⟨(Um.wRoots).toArray⟩ wn c0 (by decide) ?_
  intro u191 u192 u193 u194 u195 u196 u197 u198 _ _
  rw [show (decide ((4 : Nat) = 3) && ((⟨(Um.wRoots).toArray⟩ : ByteArray).toList == [114, 97, 110, 103, 101])) = false from by rw [str_list]; rfl]
  go_upto_region 28 with fail
  refine newton_test rfl b o 4 c ⟨(Um.wRoots).toArray⟩ wn c0 (by decide) ?_
  intro u200 u201 u202 u203 u204 u205 u206 u207 _ _
  rw [show (decide ((4 : Nat) = 3) && ((⟨(Um.wRoots).toArray⟩ : ByteArray).toList == [110, 101, 119, 116, 111, 110])) = false from by rw [str_list]; rfl]
  go_upto_region 29 with fail
  refine roots_test rfl b o 4 c ⟨(Um.wRoots).toArray⟩ wn c0 (by decide) ?_
  intro u209 u210 u211 u212 u213 u214 u215 u216 _ _
  rw [show (decide ((4 : Nat) = 4) && ((⟨(Um.wRoots).toArray⟩ : ByteArray).toList == [114, 111, 111, 116, 115])) = true from by rw [str_list]; rfl]
  go_upto_region 30 with fail
  refine none_test rfl false false true wn trivial ?_
  intro u218 u219 u220 u221 u222 u223 u224 u225 u226 _ _
  rw [show (!false && !false && !true) = false from rfl]
  cases C1
  · clear hc
    go_wp2_with fail
    refine (HNU _).out.mono ?_
    rintro e wa ⟨rp, rfl, hrp, hba⟩
    obtain ⟨a5, c5, e5, -⟩ := (id hrp)
    obtain ⟨n5, hn5⟩ : ∃ n5, n5 = NA.length := ⟨_, rfl⟩
    rw [← hn5] at e5
    subst e5
    have hF := Fr.start wa
    have y2 := (hba.cell (p := ⟨b, o + 2, none⟩) hlt).trans c2
    clear HNU hn5
    go_wp2_with fail
    refine (HSP _).out.mono ?_
    rintro e wb ⟨rfl, hb⟩
    replace hF := hF.step hb
    replace hF := hF.push XS.1 XS.2 rfl
    have hBA := hB0.trans (hba.mono hB0.size)
    clear HSP hb y2
    go_wp2
    go_returns
    rw [HRES.out]
    exact ⟨rfl, hBA.trans (hF.below.mono hBA.size)⟩
  · obtain rfl : C2 = false := by cases C2; · rfl
                                  · exact absurd ⟨rfl, rfl⟩ hc
    clear hc
    go_wp2_with fail
    refine (HNU _).out.mono ?_
    rintro e wa ⟨rp, rfl, hrp, hba⟩
    obtain ⟨a5, c5, e5, -⟩ := (id hrp)
    obtain ⟨n5, hn5⟩ : ∃ n5, n5 = NA.length := ⟨_, rfl⟩
    rw [← hn5] at e5
    subst e5
    have hF := Fr.start wa
    have y2 := (hba.cell (p := ⟨b, o + 2, none⟩) hlt).trans c2
    clear HNU hn5
    go_wp2_with fail
    refine (HSP _).out.mono ?_
    rintro e wb ⟨rfl, hb⟩
    replace hF := hF.step hb
    replace hF := hF.push XS.1 XS.2 rfl
    have hBA := hB0.trans (hba.mono hB0.size)
    clear HSP hb y2
    go_wp2
    go_returns
    rw [HRES.out]
    exact ⟨rfl, hBA.trans (hF.below.mono hBA.size)⟩

set_option maxRecDepth 100000 in
set_option maxHeartbeats 16000000 in
theorem roots_read (s : ByteArray) (p x u : List UInt8) (w : World) (hs : s.size ≤ 3000) (hW : Um.cutL 32 s.data.toList = [Um.wRoots, p, x, u]) (c1' : Um.numsOk p = true) (c2' : Um.spOk x = true) (hu : ¬ (Um.parseR u).2 = 0) :
    Calls Tryz.prog 8 #[.string s] w fun e w' => e = .returned (strV (Um.lineR s.data.toList)) ∧ Below w.heap.size w w' := by
  have HRES : Hid (Um.lineR s.data.toList = Um.wBad) := hid (by unfold Um.lineR; rw [hW]; show Um.lineRoots p x u = _; exact if_neg fun q => hu q.2.2)
  have HCU := hid (rCut_any s 32 w hs)
  have hsm := Um.cutL_small 32 s.data.toList
  have hsl : s.data.toList.length = s.size := by simp
  rw [hsl] at hsm
  rw [hW] at HCU hsm
  have hz1 : (⟨(p).toArray⟩ : ByteArray).size ≤ 3000 := by rw [str_size]; exact Nat.le_trans (hsm p (by simp)) hs
  have hz2 : (⟨(x).toArray⟩ : ByteArray).size ≤ 3000 := by rw [str_size]; exact Nat.le_trans (hsm x (by simp)) hs
  have hz3 : (⟨(u).toArray⟩ : ByteArray).size ≤ 3000 := by rw [str_size]; exact Nat.le_trans (hsm u (by simp)) hs
  clear hsm hsl hs
  have HNU := fun W => hid (rNums_any ⟨p.toArray⟩ W hz1)
  have HSP := fun W => hid (rSp_any ⟨x.toArray⟩ W hz2)
  rw [str_data] at HNU HSP
  have HRD := fun W => hid (rRead_any ⟨u.toArray⟩ W (by unfold maxLen; omega))
  rw [str_data] at HRD
  have hch := Um.sp_right c2'
  have hpf := Um.pchk_few (Um.numsL p)
  rw [nums_is c1', c1'] at HNU
  rw [sp_is c2', c2'] at HSP
  generalize Um.numsL p = NL at *
  generalize Um.spL x = XS at *
  have HPO := fun B v W h => hid (rPoly_any B NL v W h)
  have k9 : ((Um.parseR u).2 != 0) = true := by simpa using hu
  generalize Um.parseR u = P at *
  clear hpf HPO hch
  go_enter Tryz.func8, Tryz.ntmps8
  go_wp2_with fail
  refine HCU.out.mono ?_
  rintro e wn ⟨r, rfl, hr, hB0⟩
  obtain ⟨b, o, c, er, -, hlt, hcs⟩ := hr.open (by simp)
  replace er : r = .slice (some ⟨b, o, none⟩) 4 c := er
  subst er
  have c0 : wn.cell? ⟨b, o, none⟩ = some (.string ⟨(Um.wRoots).toArray⟩) := hcs 0 (by simp)
  have c1 : wn.cell? ⟨b, o + 1, none⟩ = some (.string ⟨(p).toArray⟩) := hcs 1 (by simp)
  have c2 : wn.cell? ⟨b, o + 2, none⟩ = some (.string ⟨(x).toArray⟩) := hcs 2 (by simp)
  have c3 : wn.cell? ⟨b, o + 3, none⟩ = some (.string ⟨(u).toArray⟩) := hcs 3 (by simp)
  clear hr hcs HCU
  go_upto_region 2 with fail
  refine two_test rfl b o 4 c ⟨(Um.wRoots).toArray⟩ wn c0 (by decide) ?_
  intro u31 u32 u33 u34 u35 u36 u37 u38 u39 u40 u41 u42 u43 u44 u45 u46 u47 u48 u49 u50 u51 u52 u53 u54 u55 u56 u57 u58 u59 u60 u61 u62 u63 u64 u65 u66 u67 u68 _ _
  rw [show (decide ((4 : Nat) = 3) && Um.isTwo (⟨(Um.wRoots).toArray⟩ : ByteArray).toList) = false from by rw [str_list]; rfl]
  go_upto_region 19 with fail
  refine power_test rfl b o 4 c ⟨(Um.wRoots).toArray⟩ wn c0 (by decide) ?_
  intro u137 u138 u139 u140 u141 u142 u143 u144 _ _
  rw [show (decide ((4 : Nat) = 3) && ((⟨(Um.wRoots).toArray⟩ : ByteArray).toList == [112, 111, 119, 101, 114])) = false from by rw [str_list]; rfl]
  go_upto_region 27 with fail
  refine range_test rfl b o 4 c ⟨(Um.wRoots).toArray⟩ wn c0 (by decide) ?_
  intro u191 u192 u193 u194 u195 u196 u197 u198 _ _
  rw [show (decide ((4 : Nat) = 3) && ((⟨(Um.wRoots).toArray⟩ : ByteArray).toList == [114, 97, 110, 103, 101])) = false from by rw [str_list]; rfl]
  go_upto_region 28 with fail
  refine newton_test rfl b o 4 c ⟨(Um.wRoots).toArray⟩ wn c0 (by decide) ?_
  intro u200 u201 u202 u203 u204 u205 u206 u207 _ _
  rw [show (decide ((4 : Nat) = 3) && ((⟨(Um.wRoots).toArray⟩ : ByteArray).toList == [110, 101, 119, 116, 111, 110])) = false from by rw [str_list]; rfl]
  go_upto_region 29 with fail
  refine roots_test rfl b o 4 c ⟨(Um.wRoots).toArray⟩ wn c0 (by decide) ?_
  intro u209 u210 u211 u212 u213 u214 u215 u216 _ _
  rw [show (decide ((4 : Nat) = 4) && ((⟨(Um.wRoots).toArray⟩ : ByteArray).toList == [114, 111, 111, 116, 115])) = true from by rw [str_list]; rfl]
  go_upto_region 30 with fail
  refine none_test rfl false false true wn trivial ?_
  intro u218 u219 u220 u221 u222 u223 u224 u225 u226 _ _
  rw [show (!false && !false && !true) = false from rfl]
  go_wp2_with fail
  refine (HNU _).out.mono ?_
  rintro e wa ⟨rp, rfl, hrp, hba⟩
  obtain ⟨a5, c5, e5, -⟩ := (id hrp)
  obtain ⟨n5, hn5⟩ : ∃ n5, n5 = NL.length := ⟨_, rfl⟩
  rw [← hn5] at e5
  subst e5
  have hF := Fr.start wa
  have y2 := (hba.cell (p := ⟨b, o + 2, none⟩) hlt).trans c2
  clear HNU hn5
  go_wp2_with fail
  refine (HSP _).out.mono ?_
  rintro e wb ⟨rfl, hb⟩
  replace hF := hF.step hb
  replace hF := hF.push XS.1 XS.2 rfl
  have hBA := hB0.trans (hba.mono hB0.size)
  clear HSP hb y2
  have y3 := (hF.below.cell (p := ⟨b, o + 3, none⟩) (Nat.lt_of_lt_of_le hlt hba.size)).trans ((hba.cell (p := ⟨b, o + 3, none⟩) hlt).trans c3)
  go_wp2_with fail
  refine (HRD _).out.mono ?_
  rintro e wc ⟨rfl, hq⟩
  subst wc
  clear HRD y3
  go_wp2
  go_returns
  rw [HRES.out]
  exact ⟨rfl, hBA.trans (hF.below.mono hBA.size)⟩

set_option maxRecDepth 100000 in
set_option maxHeartbeats 16000000 in
theorem range_fault (s : ByteArray) (p x : List UInt8) (w : World) (hs : s.size ≤ 3000) (hW : Um.cutL 32 s.data.toList = [Um.wRange, p, x]) (c1' : Um.numsOk p = true) (c2' : Um.spOk x = true) (hp : ¬ Um.pchk (Um.numsL p) = 0) :
    Calls Tryz.prog 8 #[.string s] w fun e w' => e = .returned (strV (Um.lineR s.data.toList)) ∧ Below w.heap.size w w' := by
  have HRES : Hid (Um.lineR s.data.toList = Um.nameR (Um.pchk (Um.numsL p))) := hid (by unfold Um.lineR; rw [hW]; show Um.lineRange p x = _; unfold Um.lineRange; rw [if_pos ⟨c1', c2'⟩, if_neg hp])
  have HCU := hid (rCut_any s 32 w hs)
  have hsm := Um.cutL_small 32 s.data.toList
  have hsl : s.data.toList.length = s.size := by simp
  rw [hsl] at hsm
  rw [hW] at HCU hsm
  have hz1 : (⟨(p).toArray⟩ : ByteArray).size ≤ 3000 := by rw [str_size]; exact Nat.le_trans (hsm p (by simp)) hs
  have hz2 : (⟨(x).toArray⟩ : ByteArray).size ≤ 3000 := by rw [str_size]; exact Nat.le_trans (hsm x (by simp)) hs
  clear hsm hsl hs
  have HNU := fun W => hid (rNums_any ⟨p.toArray⟩ W hz1)
  have HSP := fun W => hid (rSp_any ⟨x.toArray⟩ W hz2)
  rw [str_data] at HNU HSP
  have hch := Um.sp_right c2'
  have hpf := Um.pchk_few (Um.numsL p)
  rw [nums_is c1', c1'] at HNU
  rw [sp_is c2', c2'] at HSP
  generalize Um.numsL p = NL at *
  generalize Um.spL x = XS at *
  have HPO := fun B v W h => hid (rPoly_any B NL v W h)
  have k8 : (Um.pchk NL != 0) = true := by simpa using hp
  have HNM := fun W => hid (rName_any (Um.pchk NL) W hpf.1 hpf.2)
  generalize Um.pchk NL = PK at *
  clear hpf hch
  go_enter Tryz.func8, Tryz.ntmps8
  go_wp2_with fail
  refine HCU.out.mono ?_
  rintro e wn ⟨r, rfl, hr, hB0⟩
  obtain ⟨b, o, c, er, -, hlt, hcs⟩ := hr.open (by simp)
  replace er : r = .slice (some ⟨b, o, none⟩) 3 c := er
  subst er
  have c0 : wn.cell? ⟨b, o, none⟩ = some (.string ⟨(Um.wRange).toArray⟩) := hcs 0 (by simp)
  have c1 : wn.cell? ⟨b, o + 1, none⟩ = some (.string ⟨(p).toArray⟩) := hcs 1 (by simp)
  have c2 : wn.cell? ⟨b, o + 2, none⟩ = some (.string ⟨(x).toArray⟩) := hcs 2 (by simp)
  clear hr hcs HCU
  go_upto_region 2 with fail
  refine two_test rfl b o 3 c ⟨(Um.wRange).toArray⟩ wn c0 (by decide) ?_
  intro u31 u32 u33 u34 u35 u36 u37 u38 u39 u40 u41 u42 u43 u44 u45 u46 u47 u48 u49 u50 u51 u52 u53 u54 u55 u56 u57 u58 u59 u60 u61 u62 u63 u64 u65 u66 u67 u68 _ _
  rw [show (decide ((3 : Nat) = 3) && Um.isTwo (⟨(Um.wRange).toArray⟩ : ByteArray).toList) = false from by rw [str_list]; rfl]
  go_upto_region 19 with fail
  refine power_test rfl b o 3 c ⟨(Um.wRange).toArray⟩ wn c0 (by decide) ?_
  intro u137 u138 u139 u140 u141 u142 u143 u144 _ _
  rw [show (decide ((3 : Nat) = 3) && ((⟨(Um.wRange).toArray⟩ : ByteArray).toList == [112, 111, 119, 101, 114])) = false from by rw [str_list]; rfl]
  go_upto_region 27 with fail
  refine range_test rfl b o 3 c ⟨(Um.wRange).toArray⟩ wn c0 (by decide) ?_
  intro u191 u192 u193 u194 u195 u196 u197 u198 _ _
  rw [show (decide ((3 : Nat) = 3) && ((⟨(Um.wRange).toArray⟩ : ByteArray).toList == [114, 97, 110, 103, 101])) = true from by rw [str_list]; rfl]
  go_upto_region 28 with fail
  refine newton_test rfl b o 3 c ⟨(Um.wRange).toArray⟩ wn c0 (by decide) ?_
  intro u200 u201 u202 u203 u204 u205 u206 u207 _ _
  rw [show (decide ((3 : Nat) = 3) && ((⟨(Um.wRange).toArray⟩ : ByteArray).toList == [110, 101, 119, 116, 111, 110])) = false from by rw [str_list]; rfl]
  go_upto_region 29 with fail
  refine roots_test rfl b o 3 c ⟨(Um.wRange).toArray⟩ wn c0 (by decide) ?_
  intro u209 u210 u211 u212 u213 u214 u215 u216 _ _
  rw [show (decide ((3 : Nat) = 4) && ((⟨(Um.wRange).toArray⟩ : ByteArray).toList == [114, 111, 111, 116, 115])) = false from by rw [str_list]; rfl]
  go_upto_region 30 with fail
  refine none_test rfl true false false wn trivial ?_
  intro u218 u219 u220 u221 u222 u223 u224 u225 u226 _ _
  rw [show (!true && !false && !false) = false from rfl]
  go_wp2_with fail
  refine (HNU _).out.mono ?_
  rintro e wa ⟨rp, rfl, hrp, hba⟩
  obtain ⟨a5, c5, e5, -⟩ := (id hrp)
  obtain ⟨n5, hn5⟩ : ∃ n5, n5 = NL.length := ⟨_, rfl⟩
  rw [← hn5] at e5
  subst e5
  have hF := Fr.start wa
  have y2 := (hba.cell (p := ⟨b, o + 2, none⟩) hlt).trans c2
  clear HNU hn5
  go_wp2_with fail
  refine (HSP _).out.mono ?_
  rintro e wb ⟨rfl, hb⟩
  replace hF := hF.step hb
  replace hF := hF.push XS.1 XS.2 rfl
  have hBA := hB0.trans (hba.mono hB0.size)
  clear HSP hb y2

  go_wp2_with fail
  refine (HPO wa.heap.size _ _ (hrp.keep hF.below)).out.mono ?_
  rintro e wc ⟨rfl, hq⟩
  subst wc
  clear HPO
  go_wp2_with fail
  refine (HNM _).out.mono ?_
  rintro e wd ⟨rfl, hb⟩
  replace hF := hF.step hb
  go_wp2
  go_returns
  rw [HRES.out]
  exact ⟨rfl, hBA.trans (hF.below.mono hBA.size)⟩

set_option maxRecDepth 100000 in
set_option maxHeartbeats 16000000 in
theorem newton_fault (s : ByteArray) (p x : List UInt8) (w : World) (hs : s.size ≤ 3000) (hW : Um.cutL 32 s.data.toList = [Um.wNewton, p, x]) (c1' : Um.numsOk p = true) (c2' : Um.spOk x = true) (hp : ¬ Um.pchk (Um.numsL p) = 0) :
    Calls Tryz.prog 8 #[.string s] w fun e w' => e = .returned (strV (Um.lineR s.data.toList)) ∧ Below w.heap.size w w' := by
  have HRES : Hid (Um.lineR s.data.toList = Um.nameR (Um.pchk (Um.numsL p))) := hid (by unfold Um.lineR; rw [hW]; show Um.lineNewton p x = _; unfold Um.lineNewton; rw [if_pos ⟨c1', c2'⟩, if_neg hp])
  have HCU := hid (rCut_any s 32 w hs)
  have hsm := Um.cutL_small 32 s.data.toList
  have hsl : s.data.toList.length = s.size := by simp
  rw [hsl] at hsm
  rw [hW] at HCU hsm
  have hz1 : (⟨(p).toArray⟩ : ByteArray).size ≤ 3000 := by rw [str_size]; exact Nat.le_trans (hsm p (by simp)) hs
  have hz2 : (⟨(x).toArray⟩ : ByteArray).size ≤ 3000 := by rw [str_size]; exact Nat.le_trans (hsm x (by simp)) hs
  clear hsm hsl hs
  have HNU := fun W => hid (rNums_any ⟨p.toArray⟩ W hz1)
  have HSP := fun W => hid (rSp_any ⟨x.toArray⟩ W hz2)
  rw [str_data] at HNU HSP
  have hch := Um.sp_right c2'
  have hpf := Um.pchk_few (Um.numsL p)
  rw [nums_is c1', c1'] at HNU
  rw [sp_is c2', c2'] at HSP
  generalize Um.numsL p = NL at *
  generalize Um.spL x = XS at *
  have HPO := fun B v W h => hid (rPoly_any B NL v W h)
  have k8 : (Um.pchk NL != 0) = true := by simpa using hp
  have HNM := fun W => hid (rName_any (Um.pchk NL) W hpf.1 hpf.2)
  generalize Um.pchk NL = PK at *
  clear hpf hch
  go_enter Tryz.func8, Tryz.ntmps8
  go_wp2_with fail
  refine HCU.out.mono ?_
  rintro e wn ⟨r, rfl, hr, hB0⟩
  obtain ⟨b, o, c, er, -, hlt, hcs⟩ := hr.open (by simp)
  replace er : r = .slice (some ⟨b, o, none⟩) 3 c := er
  subst er
  have c0 : wn.cell? ⟨b, o, none⟩ = some (.string ⟨(Um.wNewton).toArray⟩) := hcs 0 (by simp)
  have c1 : wn.cell? ⟨b, o + 1, none⟩ = some (.string ⟨(p).toArray⟩) := hcs 1 (by simp)
  have c2 : wn.cell? ⟨b, o + 2, none⟩ = some (.string ⟨(x).toArray⟩) := hcs 2 (by simp)
  clear hr hcs HCU
  go_upto_region 2 with fail
  refine two_test rfl b o 3 c ⟨(Um.wNewton).toArray⟩ wn c0 (by decide) ?_
  intro u31 u32 u33 u34 u35 u36 u37 u38 u39 u40 u41 u42 u43 u44 u45 u46 u47 u48 u49 u50 u51 u52 u53 u54 u55 u56 u57 u58 u59 u60 u61 u62 u63 u64 u65 u66 u67 u68 _ _
  rw [show (decide ((3 : Nat) = 3) && Um.isTwo (⟨(Um.wNewton).toArray⟩ : ByteArray).toList) = false from by rw [str_list]; rfl]
  go_upto_region 19 with fail
  refine power_test rfl b o 3 c ⟨(Um.wNewton).toArray⟩ wn c0 (by decide) ?_
  intro u137 u138 u139 u140 u141 u142 u143 u144 _ _
  rw [show (decide ((3 : Nat) = 3) && ((⟨(Um.wNewton).toArray⟩ : ByteArray).toList == [112, 111, 119, 101, 114])) = false from by rw [str_list]; rfl]
  go_upto_region 27 with fail
  refine range_test rfl b o 3 c ⟨(Um.wNewton).toArray⟩ wn c0 (by decide) ?_
  intro u191 u192 u193 u194 u195 u196 u197 u198 _ _
  rw [show (decide ((3 : Nat) = 3) && ((⟨(Um.wNewton).toArray⟩ : ByteArray).toList == [114, 97, 110, 103, 101])) = false from by rw [str_list]; rfl]
  go_upto_region 28 with fail
  refine newton_test rfl b o 3 c ⟨(Um.wNewton).toArray⟩ wn c0 (by decide) ?_
  intro u200 u201 u202 u203 u204 u205 u206 u207 _ _
  rw [show (decide ((3 : Nat) = 3) && ((⟨(Um.wNewton).toArray⟩ : ByteArray).toList == [110, 101, 119, 116, 111, 110])) = true from by rw [str_list]; rfl]
  go_upto_region 29 with fail
  refine roots_test rfl b o 3 c ⟨(Um.wNewton).toArray⟩ wn c0 (by decide) ?_
  intro u209 u210 u211 u212 u213 u214 u215 u216 _ _
  rw [show (decide ((3 : Nat) = 4) && ((⟨(Um.wNewton).toArray⟩ : ByteArray).toList == [114, 111, 111, 116, 115])) = false from by rw [str_list]; rfl]
  go_upto_region 30 with fail
  refine none_test rfl false true false wn trivial ?_
  intro u218 u219 u220 u221 u222 u223 u224 u225 u226 _ _
  rw [show (!false && !true && !false) = false from rfl]
  go_wp2_with fail
  refine (HNU _).out.mono ?_
  rintro e wa ⟨rp, rfl, hrp, hba⟩
  obtain ⟨a5, c5, e5, -⟩ := (id hrp)
  obtain ⟨n5, hn5⟩ : ∃ n5, n5 = NL.length := ⟨_, rfl⟩
  rw [← hn5] at e5
  subst e5
  have hF := Fr.start wa
  have y2 := (hba.cell (p := ⟨b, o + 2, none⟩) hlt).trans c2
  clear HNU hn5
  go_wp2_with fail
  refine (HSP _).out.mono ?_
  rintro e wb ⟨rfl, hb⟩
  replace hF := hF.step hb
  replace hF := hF.push XS.1 XS.2 rfl
  have hBA := hB0.trans (hba.mono hB0.size)
  clear HSP hb y2

  go_wp2_with fail
  refine (HPO wa.heap.size _ _ (hrp.keep hF.below)).out.mono ?_
  rintro e wc ⟨rfl, hq⟩
  subst wc
  clear HPO
  go_wp2_with fail
  refine (HNM _).out.mono ?_
  rintro e wd ⟨rfl, hb⟩
  replace hF := hF.step hb
  go_wp2
  go_returns
  rw [HRES.out]
  exact ⟨rfl, hBA.trans (hF.below.mono hBA.size)⟩

set_option maxRecDepth 100000 in
set_option maxHeartbeats 16000000 in
theorem roots_fault (s : ByteArray) (p x u : List UInt8) (w : World) (hs : s.size ≤ 3000) (hW : Um.cutL 32 s.data.toList = [Um.wRoots, p, x, u]) (c1' : Um.numsOk p = true) (c2' : Um.spOk x = true) (hu : (Um.parseR u).2 = 0) (hp : ¬ Um.pchk (Um.numsL p) = 0) :
    Calls Tryz.prog 8 #[.string s] w fun e w' => e = .returned (strV (Um.lineR s.data.toList)) ∧ Below w.heap.size w w' := by
  have HRES : Hid (Um.lineR s.data.toList = Um.nameR (Um.pchk (Um.numsL p))) := hid (by unfold Um.lineR; rw [hW]; show Um.lineRoots p x u = _; unfold Um.lineRoots; rw [if_pos ⟨c1', c2', hu⟩, if_neg hp])
  have HCU := hid (rCut_any s 32 w hs)
  have hsm := Um.cutL_small 32 s.data.toList
  have hsl : s.data.toList.length = s.size := by simp
  rw [hsl] at hsm
  rw [hW] at HCU hsm
  have hz1 : (⟨(p).toArray⟩ : ByteArray).size ≤ 3000 := by rw [str_size]; exact Nat.le_trans (hsm p (by simp)) hs
  have hz2 : (⟨(x).toArray⟩ : ByteArray).size ≤ 3000 := by rw [str_size]; exact Nat.le_trans (hsm x (by simp)) hs
  have hz3 : (⟨(u).toArray⟩ : ByteArray).size ≤ 3000 := by rw [str_size]; exact Nat.le_trans (hsm u (by simp)) hs
  clear hsm hsl hs
  have HNU := fun W => hid (rNums_any ⟨p.toArray⟩ W hz1)
  have HSP := fun W => hid (rSp_any ⟨x.toArray⟩ W hz2)
  rw [str_data] at HNU HSP
  have HRD := fun W => hid (rRead_any ⟨u.toArray⟩ W (by unfold maxLen; omega))
  rw [str_data] at HRD
  have hch := Um.sp_right c2'
  have hpf := Um.pchk_few (Um.numsL p)
  rw [nums_is c1', c1'] at HNU
  rw [sp_is c2', c2'] at HSP
  generalize Um.numsL p = NL at *
  generalize Um.spL x = XS at *
  have HPO := fun B v W h => hid (rPoly_any B NL v W h)
  have k9 : ((Um.parseR u).2 != 0) = false := by simpa using hu
  generalize Um.parseR u = P at *
  have k8 : (Um.pchk NL != 0) = true := by simpa using hp
  have HNM := fun W => hid (rName_any (Um.pchk NL) W hpf.1 hpf.2)
  generalize Um.pchk NL = PK at *
  clear hpf hch
  go_enter Tryz.func8, Tryz.ntmps8
  go_wp2_with fail
  refine HCU.out.mono ?_
  rintro e wn ⟨r, rfl, hr, hB0⟩
  obtain ⟨b, o, c, er, -, hlt, hcs⟩ := hr.open (by simp)
  replace er : r = .slice (some ⟨b, o, none⟩) 4 c := er
  subst er
  have c0 : wn.cell? ⟨b, o, none⟩ = some (.string ⟨(Um.wRoots).toArray⟩) := hcs 0 (by simp)
  have c1 : wn.cell? ⟨b, o + 1, none⟩ = some (.string ⟨(p).toArray⟩) := hcs 1 (by simp)
  have c2 : wn.cell? ⟨b, o + 2, none⟩ = some (.string ⟨(x).toArray⟩) := hcs 2 (by simp)
  have c3 : wn.cell? ⟨b, o + 3, none⟩ = some (.string ⟨(u).toArray⟩) := hcs 3 (by simp)
  clear hr hcs HCU
  go_upto_region 2 with fail
  refine two_test rfl b o 4 c ⟨(Um.wRoots).toArray⟩ wn c0 (by decide) ?_
  intro u31 u32 u33 u34 u35 u36 u37 u38 u39 u40 u41 u42 u43 u44 u45 u46 u47 u48 u49 u50 u51 u52 u53 u54 u55 u56 u57 u58 u59 u60 u61 u62 u63 u64 u65 u66 u67 u68 _ _
  rw [show (decide ((4 : Nat) = 3) && Um.isTwo (⟨(Um.wRoots).toArray⟩ : ByteArray).toList) = false from by rw [str_list]; rfl]
  go_upto_region 19 with fail
  refine power_test rfl b o 4 c ⟨(Um.wRoots).toArray⟩ wn c0 (by decide) ?_
  intro u137 u138 u139 u140 u141 u142 u143 u144 _ _
  rw [show (decide ((4 : Nat) = 3) && ((⟨(Um.wRoots).toArray⟩ : ByteArray).toList == [112, 111, 119, 101, 114])) = false from by rw [str_list]; rfl]
  go_upto_region 27 with fail
  refine range_test rfl b o 4 c ⟨(Um.wRoots).toArray⟩ wn c0 (by decide) ?_
  intro u191 u192 u193 u194 u195 u196 u197 u198 _ _
  rw [show (decide ((4 : Nat) = 3) && ((⟨(Um.wRoots).toArray⟩ : ByteArray).toList == [114, 97, 110, 103, 101])) = false from by rw [str_list]; rfl]
  go_upto_region 28 with fail
  refine newton_test rfl b o 4 c ⟨(Um.wRoots).toArray⟩ wn c0 (by decide) ?_
  intro u200 u201 u202 u203 u204 u205 u206 u207 _ _
  rw [show (decide ((4 : Nat) = 3) && ((⟨(Um.wRoots).toArray⟩ : ByteArray).toList == [110, 101, 119, 116, 111, 110])) = false from by rw [str_list]; rfl]
  go_upto_region 29 with fail
  refine roots_test rfl b o 4 c ⟨(Um.wRoots).toArray⟩ wn c0 (by decide) ?_
  intro u209 u210 u211 u212 u213 u214 u215 u216 _ _
  rw [show (decide ((4 : Nat) = 4) && ((⟨(Um.wRoots).toArray⟩ : ByteArray).toList == [114, 111, 111, 116, 115])) = true from by rw [str_list]; rfl]
  go_upto_region 30 with fail
  refine none_test rfl false false true wn trivial ?_
  intro u218 u219 u220 u221 u222 u223 u224 u225 u226 _ _
  rw [show (!false && !false && !true) = false from rfl]
  go_wp2_with fail
  refine (HNU _).out.mono ?_
  rintro e wa ⟨rp, rfl, hrp, hba⟩
  obtain ⟨a5, c5, e5, -⟩ := (id hrp)
  obtain ⟨n5, hn5⟩ : ∃ n5, n5 = NL.length := ⟨_, rfl⟩
  rw [← hn5] at e5
  subst e5
  have hF := Fr.start wa
  have y2 := (hba.cell (p := ⟨b, o + 2, none⟩) hlt).trans c2
  clear HNU hn5
  go_wp2_with fail
  refine (HSP _).out.mono ?_
  rintro e wb ⟨rfl, hb⟩
  replace hF := hF.step hb
  replace hF := hF.push XS.1 XS.2 rfl
  have hBA := hB0.trans (hba.mono hB0.size)
  clear HSP hb y2
  have y3 := (hF.below.cell (p := ⟨b, o + 3, none⟩) (Nat.lt_of_lt_of_le hlt hba.size)).trans ((hba.cell (p := ⟨b, o + 3, none⟩) hlt).trans c3)
  go_wp2_with fail
  refine (HRD _).out.mono ?_
  rintro e wc ⟨rfl, hq⟩
  subst wc
  clear HRD y3
  go_wp2_with fail
  refine (HPO wa.heap.size _ _ (hrp.keep hF.below)).out.mono ?_
  rintro e wc ⟨rfl, hq⟩
  subst wc
  clear HPO
  go_wp2_with fail
  refine (HNM _).out.mono ?_
  rintro e wd ⟨rfl, hb⟩
  replace hF := hF.step hb
  go_wp2
  go_returns
  rw [HRES.out]
  exact ⟨rfl, hBA.trans (hF.below.mono hBA.size)⟩

set_option maxRecDepth 100000 in
set_option maxHeartbeats 16000000 in
theorem range_ok (s : ByteArray) (p x : List UInt8) (w : World) (hs : s.size ≤ 3000) (hW : Um.cutL 32 s.data.toList = [Um.wRange, p, x]) (c1' : Um.numsOk p = true) (c2' : Um.spOk x = true) (hp : Um.pchk (Um.numsL p) = 0) :
    Calls Tryz.prog 8 #[.string s] w fun e w' => e = .returned (strV (Um.lineR s.data.toList)) ∧ Below w.heap.size w w' := by
  have HRES : Hid (Um.lineR s.data.toList = Um.toldR (Um.monoR (Um.spL x).1 (Um.spL x).2 (Um.numsL p))) := hid (by unfold Um.lineR; rw [hW]; show Um.lineRange p x = _; unfold Um.lineRange; rw [if_pos ⟨c1', c2'⟩, if_pos hp])
  have HCU := hid (rCut_any s 32 w hs)
  have hsm := Um.cutL_small 32 s.data.toList
  have hsl : s.data.toList.length = s.size := by simp
  rw [hsl] at hsm
  rw [hW] at HCU hsm
  have hz1 : (⟨(p).toArray⟩ : ByteArray).size ≤ 3000 := by rw [str_size]; exact Nat.le_trans (hsm p (by simp)) hs
  have hz2 : (⟨(x).toArray⟩ : ByteArray).size ≤ 3000 := by rw [str_size]; exact Nat.le_trans (hsm x (by simp)) hs
  clear hsm hsl hs
  have HNU := fun W => hid (rNums_any ⟨p.toArray⟩ W hz1)
  have HSP := fun W => hid (rSp_any ⟨x.toArray⟩ W hz2)
  rw [str_data] at HNU HSP
  have hch := Um.sp_right c2'
  have hpf := Um.pchk_few (Um.numsL p)
  rw [nums_is c1', c1'] at HNU
  rw [sp_is c2', c2'] at HSP
  generalize Um.numsL p = NL at *
  generalize Um.spL x = XS at *
  have HPO := fun B v W h => hid (rPoly_any B NL v W h)
  have k8 : (Um.pchk NL != 0) = false := by simpa using hp
  have HRG := fun v W h => hid (rRange_any NL v XS.1 XS.2 W h (Um.over_ok.2 ⟨hp, hch⟩))
  have HTD := hid (Um.mono_told (Um.over_ok.2 ⟨hp, hch⟩))
  generalize Um.monoR XS.1 XS.2 NL = R at *
  have HTO := fun W => hid (rTold_any R W HTD.out.1 HTD.out.2.1 HTD.out.2.2)
  generalize Um.pchk NL = PK at *
  clear hpf hch HTD
  go_enter Tryz.func8, Tryz.ntmps8
  go_wp2_with fail
  refine HCU.out.mono ?_
  rintro e wn ⟨r, rfl, hr, hB0⟩
  obtain ⟨b, o, c, er, -, hlt, hcs⟩ := hr.open (by simp)
  replace er : r = .slice (some ⟨b, o, none⟩) 3 c := er
  subst er
  have c0 : wn.cell? ⟨b, o, none⟩ = some (.string ⟨(Um.wRange).toArray⟩) := hcs 0 (by simp)
  have c1 : wn.cell? ⟨b, o + 1, none⟩ = some (.string ⟨(p).toArray⟩) := hcs 1 (by simp)
  have c2 : wn.cell? ⟨b, o + 2, none⟩ = some (.string ⟨(x).toArray⟩) := hcs 2 (by simp)
  clear hr hcs HCU
  go_upto_region 2 with fail
  refine two_test rfl b o 3 c ⟨(Um.wRange).toArray⟩ wn c0 (by decide) ?_
  intro u31 u32 u33 u34 u35 u36 u37 u38 u39 u40 u41 u42 u43 u44 u45 u46 u47 u48 u49 u50 u51 u52 u53 u54 u55 u56 u57 u58 u59 u60 u61 u62 u63 u64 u65 u66 u67 u68 _ _
  rw [show (decide ((3 : Nat) = 3) && Um.isTwo (⟨(Um.wRange).toArray⟩ : ByteArray).toList) = false from by rw [str_list]; rfl]
  go_upto_region 19 with fail
  refine power_test rfl b o 3 c ⟨(Um.wRange).toArray⟩ wn c0 (by decide) ?_
  intro u137 u138 u139 u140 u141 u142 u143 u144 _ _
  rw [show (decide ((3 : Nat) = 3) && ((⟨(Um.wRange).toArray⟩ : ByteArray).toList == [112, 111, 119, 101, 114])) = false from by rw [str_list]; rfl]
  go_upto_region 27 with fail
  refine range_test rfl b o 3 c ⟨(Um.wRange).toArray⟩ wn c0 (by decide) ?_
  intro u191 u192 u193 u194 u195 u196 u197 u198 _ _
  rw [show (decide ((3 : Nat) = 3) && ((⟨(Um.wRange).toArray⟩ : ByteArray).toList == [114, 97, 110, 103, 101])) = true from by rw [str_list]; rfl]
  go_upto_region 28 with fail
  refine newton_test rfl b o 3 c ⟨(Um.wRange).toArray⟩ wn c0 (by decide) ?_
  intro u200 u201 u202 u203 u204 u205 u206 u207 _ _
  rw [show (decide ((3 : Nat) = 3) && ((⟨(Um.wRange).toArray⟩ : ByteArray).toList == [110, 101, 119, 116, 111, 110])) = false from by rw [str_list]; rfl]
  go_upto_region 29 with fail
  refine roots_test rfl b o 3 c ⟨(Um.wRange).toArray⟩ wn c0 (by decide) ?_
  intro u209 u210 u211 u212 u213 u214 u215 u216 _ _
  rw [show (decide ((3 : Nat) = 4) && ((⟨(Um.wRange).toArray⟩ : ByteArray).toList == [114, 111, 111, 116, 115])) = false from by rw [str_list]; rfl]
  go_upto_region 30 with fail
  refine none_test rfl true false false wn trivial ?_
  intro u218 u219 u220 u221 u222 u223 u224 u225 u226 _ _
  rw [show (!true && !false && !false) = false from rfl]
  go_wp2_with fail
  refine (HNU _).out.mono ?_
  rintro e wa ⟨rp, rfl, hrp, hba⟩
  obtain ⟨a5, c5, e5, -⟩ := (id hrp)
  obtain ⟨n5, hn5⟩ : ∃ n5, n5 = NL.length := ⟨_, rfl⟩
  rw [← hn5] at e5
  subst e5
  have hF := Fr.start wa
  have y2 := (hba.cell (p := ⟨b, o + 2, none⟩) hlt).trans c2
  clear HNU hn5
  go_wp2_with fail
  refine (HSP _).out.mono ?_
  rintro e wb ⟨rfl, hb⟩
  replace hF := hF.step hb
  replace hF := hF.push XS.1 XS.2 rfl
  have hBA := hB0.trans (hba.mono hB0.size)
  clear HSP hb y2
  go_wp2_with fail
  refine (HPO wa.heap.size _ _ (hrp.keep hF.below)).out.mono ?_
  rintro e wc ⟨rfl, hq⟩
  subst wc
  clear HPO
  have x0l := (hF.at 0 rfl).lo
  have x0h := (hF.at 0 rfl).hi
  go_wp2_with fail
  refine (HRG _ _ (hF.li hrp)).out.mono ?_
  rintro e wd ⟨rfl, hb⟩
  replace hF := hF.step hb
  clear hb HRG x0l x0h
  go_wp2_with fail
  refine (HTO _).out.mono ?_
  rintro e we ⟨rfl, hb⟩
  replace hF := hF.step hb
  go_wp2
  go_returns
  rw [HRES.out]
  exact ⟨rfl, hBA.trans (hF.below.mono hBA.size)⟩

set_option maxRecDepth 100000 in
set_option maxHeartbeats 16000000 in
theorem newton_ok (s : ByteArray) (p x : List UInt8) (w : World) (hs : s.size ≤ 3000) (hW : Um.cutL 32 s.data.toList = [Um.wNewton, p, x]) (c1' : Um.numsOk p = true) (c2' : Um.spOk x = true) (hp : Um.pchk (Um.numsL p) = 0) :
    Calls Tryz.prog 8 #[.string s] w fun e w' => e = .returned (strV (Um.lineR s.data.toList)) ∧ Below w.heap.size w w' := by
  have HRES : Hid (Um.lineR s.data.toList = Um.toldR (Um.stR (Um.spL x).1 (Um.spL x).2 (Um.numsL p) 20)) := hid (by unfold Um.lineR; rw [hW]; show Um.lineNewton p x = _; unfold Um.lineNewton; rw [if_pos ⟨c1', c2'⟩, if_pos hp])
  have HCU := hid (rCut_any s 32 w hs)
  have hsm := Um.cutL_small 32 s.data.toList
  have hsl : s.data.toList.length = s.size := by simp
  rw [hsl] at hsm
  rw [hW] at HCU hsm
  have hz1 : (⟨(p).toArray⟩ : ByteArray).size ≤ 3000 := by rw [str_size]; exact Nat.le_trans (hsm p (by simp)) hs
  have hz2 : (⟨(x).toArray⟩ : ByteArray).size ≤ 3000 := by rw [str_size]; exact Nat.le_trans (hsm x (by simp)) hs
  clear hsm hsl hs
  have HNU := fun W => hid (rNums_any ⟨p.toArray⟩ W hz1)
  have HSP := fun W => hid (rSp_any ⟨x.toArray⟩ W hz2)
  rw [str_data] at HNU HSP
  have hch := Um.sp_right c2'
  have hpf := Um.pchk_few (Um.numsL p)
  rw [nums_is c1', c1'] at HNU
  rw [sp_is c2', c2'] at HSP
  generalize Um.numsL p = NL at *
  generalize Um.spL x = XS at *
  have HPO := fun B v W h => hid (rPoly_any B NL v W h)
  have k8 : (Um.pchk NL != 0) = false := by simpa using hp
  have HOV := hid (Um.over_ok.2 ⟨hp, hch⟩)
  have HTD := hid (Um.st_told HOV.out 20)
  generalize Um.pchk NL = PK at *
  clear hpf hch
  go_enter Tryz.func8, Tryz.ntmps8
  go_wp2_with fail
  refine HCU.out.mono ?_
  rintro e wn ⟨r, rfl, hr, hB0⟩
  obtain ⟨b, o, c, er, -, hlt, hcs⟩ := hr.open (by simp)
  replace er : r = .slice (some ⟨b, o, none⟩) 3 c := er
  subst er
  have c0 : wn.cell? ⟨b, o, none⟩ = some (.string ⟨(Um.wNewton).toArray⟩) := hcs 0 (by simp)
  have c1 : wn.cell? ⟨b, o + 1, none⟩ = some (.string ⟨(p).toArray⟩) := hcs 1 (by simp)
  have c2 : wn.cell? ⟨b, o + 2, none⟩ = some (.string ⟨(x).toArray⟩) := hcs 2 (by simp)
  clear hr hcs HCU
  go_upto_region 2 with fail
  refine two_test rfl b o 3 c ⟨(Um.wNewton).toArray⟩ wn c0 (by decide) ?_
  intro u31 u32 u33 u34 u35 u36 u37 u38 u39 u40 u41 u42 u43 u44 u45 u46 u47 u48 u49 u50 u51 u52 u53 u54 u55 u56 u57 u58 u59 u60 u61 u62 u63 u64 u65 u66 u67 u68 _ _
  rw [show (decide ((3 : Nat) = 3) && Um.isTwo (⟨(Um.wNewton).toArray⟩ : ByteArray).toList) = false from by rw [str_list]; rfl]
  go_upto_region 19 with fail
  refine power_test rfl b o 3 c ⟨(Um.wNewton).toArray⟩ wn c0 (by decide) ?_
  intro u137 u138 u139 u140 u141 u142 u143 u144 _ _
  rw [show (decide ((3 : Nat) = 3) && ((⟨(Um.wNewton).toArray⟩ : ByteArray).toList == [112, 111, 119, 101, 114])) = false from by rw [str_list]; rfl]
  go_upto_region 27 with fail
  refine range_test rfl b o 3 c ⟨(Um.wNewton).toArray⟩ wn c0 (by decide) ?_
  intro u191 u192 u193 u194 u195 u196 u197 u198 _ _
  rw [show (decide ((3 : Nat) = 3) && ((⟨(Um.wNewton).toArray⟩ : ByteArray).toList == [114, 97, 110, 103, 101])) = false from by rw [str_list]; rfl]
  go_upto_region 28 with fail
  refine newton_test rfl b o 3 c ⟨(Um.wNewton).toArray⟩ wn c0 (by decide) ?_
  intro u200 u201 u202 u203 u204 u205 u206 u207 _ _
  rw [show (decide ((3 : Nat) = 3) && ((⟨(Um.wNewton).toArray⟩ : ByteArray).toList == [110, 101, 119, 116, 111, 110])) = true from by rw [str_list]; rfl]
  go_upto_region 29 with fail
  refine roots_test rfl b o 3 c ⟨(Um.wNewton).toArray⟩ wn c0 (by decide) ?_
  intro u209 u210 u211 u212 u213 u214 u215 u216 _ _
  rw [show (decide ((3 : Nat) = 4) && ((⟨(Um.wNewton).toArray⟩ : ByteArray).toList == [114, 111, 111, 116, 115])) = false from by rw [str_list]; rfl]
  go_upto_region 30 with fail
  refine none_test rfl false true false wn trivial ?_
  intro u218 u219 u220 u221 u222 u223 u224 u225 u226 _ _
  rw [show (!false && !true && !false) = false from rfl]
  go_wp2_with fail
  refine (HNU _).out.mono ?_
  rintro e wa ⟨rp, rfl, hrp, hba⟩
  obtain ⟨a5, c5, e5, -⟩ := (id hrp)
  obtain ⟨n5, hn5⟩ : ∃ n5, n5 = NL.length := ⟨_, rfl⟩
  rw [← hn5] at e5
  subst e5
  have hF := Fr.start wa
  have y2 := (hba.cell (p := ⟨b, o + 2, none⟩) hlt).trans c2
  clear HNU hn5
  go_wp2_with fail
  refine (HSP _).out.mono ?_
  rintro e wb ⟨rfl, hb⟩
  replace hF := hF.step hb
  replace hF := hF.push XS.1 XS.2 rfl
  have hBA := hB0.trans (hba.mono hB0.size)
  clear HSP hb y2
  go_wp2_with fail
  refine (HPO wa.heap.size _ _ (hrp.keep hF.below)).out.mono ?_
  rintro e wc ⟨rfl, hq⟩
  subst wc
  clear HPO
  go_wp2
  refine newton_loop rfl n5 c5 wb.heap.size a5 NL XS.1 XS.2 wa _ hrp HOV.out hF ?_ ?_
  · intro u22 u23 u24 u273 u274 u275 u276 u277 u278 u279 u280 u281 u282 u283 u284 u285 u286 u287 wq hb
    rw [← HRES.out]
    go_returns
    exact ⟨rfl, hBA.trans (hb.mono hBA.size)⟩
  · intro u2 u22 u23 u24 u273 u274 u275 u276 u277 u278 u279 u280 u281 u282 u283 u284 u285 u286 u287 wq h0 hF2
    have HTX := fun W => hid (rTxt_any (Um.stR XS.1 XS.2 NL 20).1 (Um.stR XS.1 XS.2 NL 20).2.1 W (HTD.out.2.2 h0).1 (HTD.out.2.2 h0).2)
    have HR2 : Hid (Um.toldR (Um.stR XS.1 XS.2 NL 20) = Um.textR ((Um.stR XS.1 XS.2 NL 20).1, (Um.stR XS.1 XS.2 NL 20).2.1)) := hid (if_pos h0)
    have x0l := (hF2.at 0 rfl).lo
    have x0h := (hF2.at 0 rfl).hi
    clear h0
    generalize Um.stR XS.1 XS.2 NL 20 = V at *
    go_wp2_with fail
    refine (HTX _).out.mono ?_
    rintro e we ⟨rfl, hb⟩
    replace hF2 := hF2.step hb
    go_wp2
    go_returns
    rw [HRES.out, HR2.out]
    exact ⟨rfl, hBA.trans (hF2.below.mono hBA.size)⟩

set_option maxRecDepth 100000 in
set_option maxHeartbeats 16000000 in
theorem roots_least (s : ByteArray) (p x u : List UInt8) (w : World) (hs : s.size ≤ 3000) (hW : Um.cutL 32 s.data.toList = [Um.wRoots, p, x, u]) (c1' : Um.numsOk p = true) (c2' : Um.spOk x = true) (hu : (Um.parseR u).2 = 0) (hp : Um.pchk (Um.numsL p) = 0) (hl1 : (Um.parseR u).1 < 1) :
    Calls Tryz.prog 8 #[.string s] w fun e w' => e = .returned (strV (Um.lineR s.data.toList)) ∧ Below w.heap.size w w' := by
  have HRES : Hid (Um.lineR s.data.toList = Um.nameR 1) := hid (by unfold Um.lineR; rw [hW]; show Um.lineRoots p x u = _; unfold Um.lineRoots; rw [if_pos ⟨c1', c2', hu⟩, if_pos hp, if_pos hl1])
  have HCU := hid (rCut_any s 32 w hs)
  have hsm := Um.cutL_small 32 s.data.toList
  have hsl : s.data.toList.length = s.size := by simp
  rw [hsl] at hsm
  rw [hW] at HCU hsm
  have hz1 : (⟨(p).toArray⟩ : ByteArray).size ≤ 3000 := by rw [str_size]; exact Nat.le_trans (hsm p (by simp)) hs
  have hz2 : (⟨(x).toArray⟩ : ByteArray).size ≤ 3000 := by rw [str_size]; exact Nat.le_trans (hsm x (by simp)) hs
  have hz3 : (⟨(u).toArray⟩ : ByteArray).size ≤ 3000 := by rw [str_size]; exact Nat.le_trans (hsm u (by simp)) hs
  clear hsm hsl hs
  have HNU := fun W => hid (rNums_any ⟨p.toArray⟩ W hz1)
  have HSP := fun W => hid (rSp_any ⟨x.toArray⟩ W hz2)
  rw [str_data] at HNU HSP
  have HRD := fun W => hid (rRead_any ⟨u.toArray⟩ W (by unfold maxLen; omega))
  rw [str_data] at HRD
  have hch := Um.sp_right c2'
  have hpf := Um.pchk_few (Um.numsL p)
  rw [nums_is c1', c1'] at HNU
  rw [sp_is c2', c2'] at HSP
  generalize Um.numsL p = NL at *
  generalize Um.spL x = XS at *
  have HPO := fun B v W h => hid (rPoly_any B NL v W h)
  have k9 : ((Um.parseR u).2 != 0) = false := by simpa using hu
  have k8 : (Um.pchk NL != 0) = false := by simpa using hp
  have HOV := hid (Um.over_ok.2 ⟨hp, hch⟩)
  have k7 : decide ((Um.parseR u).1 < 1) = true := decide_eq_true hl1
  have HNM := fun W => hid (rName_any 1 W (by decide) (by decide))
  generalize Um.parseR u = P at *
  generalize Um.pchk NL = PK at *
  clear hpf hch HOV hl1
  go_enter Tryz.func8, Tryz.ntmps8
  go_wp2_with fail
  refine HCU.out.mono ?_
  rintro e wn ⟨r, rfl, hr, hB0⟩
  obtain ⟨b, o, c, er, -, hlt, hcs⟩ := hr.open (by simp)
  replace er : r = .slice (some ⟨b, o, none⟩) 4 c := er
  subst er
  have c0 : wn.cell? ⟨b, o, none⟩ = some (.string ⟨(Um.wRoots).toArray⟩) := hcs 0 (by simp)
  have c1 : wn.cell? ⟨b, o + 1, none⟩ = some (.string ⟨(p).toArray⟩) := hcs 1 (by simp)
  have c2 : wn.cell? ⟨b, o + 2, none⟩ = some (.string ⟨(x).toArray⟩) := hcs 2 (by simp)
  have c3 : wn.cell? ⟨b, o + 3, none⟩ = some (.string ⟨(u).toArray⟩) := hcs 3 (by simp)
  clear hr hcs HCU
  go_upto_region 2 with fail
  refine two_test rfl b o 4 c ⟨(Um.wRoots).toArray⟩ wn c0 (by decide) ?_
  intro u31 u32 u33 u34 u35 u36 u37 u38 u39 u40 u41 u42 u43 u44 u45 u46 u47 u48 u49 u50 u51 u52 u53 u54 u55 u56 u57 u58 u59 u60 u61 u62 u63 u64 u65 u66 u67 u68 _ _
  rw [show (decide ((4 : Nat) = 3) && Um.isTwo (⟨(Um.wRoots).toArray⟩ : ByteArray).toList) = false from by rw [str_list]; rfl]
  go_upto_region 19 with fail
  refine power_test rfl b o 4 c ⟨(Um.wRoots).toArray⟩ wn c0 (by decide) ?_
  intro u137 u138 u139 u140 u141 u142 u143 u144 _ _
  rw [show (decide ((4 : Nat) = 3) && ((⟨(Um.wRoots).toArray⟩ : ByteArray).toList == [112, 111, 119, 101, 114])) = false from by rw [str_list]; rfl]
  go_upto_region 27 with fail
  refine range_test rfl b o 4 c ⟨(Um.wRoots).toArray⟩ wn c0 (by decide) ?_
  intro u191 u192 u193 u194 u195 u196 u197 u198 _ _
  rw [show (decide ((4 : Nat) = 3) && ((⟨(Um.wRoots).toArray⟩ : ByteArray).toList == [114, 97, 110, 103, 101])) = false from by rw [str_list]; rfl]
  go_upto_region 28 with fail
  refine newton_test rfl b o 4 c ⟨(Um.wRoots).toArray⟩ wn c0 (by decide) ?_
  intro u200 u201 u202 u203 u204 u205 u206 u207 _ _
  rw [show (decide ((4 : Nat) = 3) && ((⟨(Um.wRoots).toArray⟩ : ByteArray).toList == [110, 101, 119, 116, 111, 110])) = false from by rw [str_list]; rfl]
  go_upto_region 29 with fail
  refine roots_test rfl b o 4 c ⟨(Um.wRoots).toArray⟩ wn c0 (by decide) ?_
  intro u209 u210 u211 u212 u213 u214 u215 u216 _ _
  rw [show (decide ((4 : Nat) = 4) && ((⟨(Um.wRoots).toArray⟩ : ByteArray).toList == [114, 111, 111, 116, 115])) = true from by rw [str_list]; rfl]
  go_upto_region 30 with fail
  refine none_test rfl false false true wn trivial ?_
  intro u218 u219 u220 u221 u222 u223 u224 u225 u226 _ _
  rw [show (!false && !false && !true) = false from rfl]
  go_wp2_with fail
  refine (HNU _).out.mono ?_
  rintro e wa ⟨rp, rfl, hrp, hba⟩
  obtain ⟨a5, c5, e5, -⟩ := (id hrp)
  obtain ⟨n5, hn5⟩ : ∃ n5, n5 = NL.length := ⟨_, rfl⟩
  rw [← hn5] at e5
  subst e5
  have hF := Fr.start wa
  have y2 := (hba.cell (p := ⟨b, o + 2, none⟩) hlt).trans c2
  clear HNU hn5
  go_wp2_with fail
  refine (HSP _).out.mono ?_
  rintro e wb ⟨rfl, hb⟩
  replace hF := hF.step hb
  replace hF := hF.push XS.1 XS.2 rfl
  have hBA := hB0.trans (hba.mono hB0.size)
  clear HSP hb y2
  have y3 := (hF.below.cell (p := ⟨b, o + 3, none⟩) (Nat.lt_of_lt_of_le hlt hba.size)).trans ((hba.cell (p := ⟨b, o + 3, none⟩) hlt).trans c3)
  go_wp2_with fail
  refine (HRD _).out.mono ?_
  rintro e wc ⟨rfl, hq⟩
  subst wc
  clear HRD y3
  go_wp2_with fail
  refine (HPO wa.heap.size _ _ (hrp.keep hF.below)).out.mono ?_
  rintro e wc ⟨rfl, hq⟩
  subst wc
  clear HPO
  go_wp2_with fail
  refine (HNM _).out.mono ?_
  rintro e wd ⟨rfl, hb⟩
  replace hF := hF.step hb
  go_wp2
  go_returns
  rw [HRES.out]
  exact ⟨rfl, hBA.trans (hF.below.mono hBA.size)⟩

set_option maxRecDepth 100000 in
set_option maxHeartbeats 16000000 in
theorem roots_miss (s : ByteArray) (p x u : List UInt8) (w : World) (hs : s.size ≤ 3000) (hW : Um.cutL 32 s.data.toList = [Um.wRoots, p, x, u]) (c1' : Um.numsOk p = true) (c2' : Um.spOk x = true) (hu : (Um.parseR u).2 = 0) (hp : Um.pchk (Um.numsL p) = 0) (hl1 : ¬ (Um.parseR u).1 < 1) (hf : ¬ (Um.findR (Um.numsL p) (Um.spL x).1 (Um.spL x).2 (Um.parseR u).1).2 = 0) :
    Calls Tryz.prog 8 #[.string s] w fun e w' => e = .returned (strV (Um.lineR s.data.toList)) ∧ Below w.heap.size w w' := by
  have HRES : Hid (Um.lineR s.data.toList = Um.nameR (Um.findR (Um.numsL p) (Um.spL x).1 (Um.spL x).2 (Um.parseR u).1).2) := hid (by unfold Um.lineR; rw [hW]; show Um.lineRoots p x u = _; unfold Um.lineRoots; rw [if_pos ⟨c1', c2', hu⟩, if_pos hp, if_neg hl1, if_neg hf])
  have HCU := hid (rCut_any s 32 w hs)
  have hsm := Um.cutL_small 32 s.data.toList
  have hsl : s.data.toList.length = s.size := by simp
  rw [hsl] at hsm
  rw [hW] at HCU hsm
  have hz1 : (⟨(p).toArray⟩ : ByteArray).size ≤ 3000 := by rw [str_size]; exact Nat.le_trans (hsm p (by simp)) hs
  have hz2 : (⟨(x).toArray⟩ : ByteArray).size ≤ 3000 := by rw [str_size]; exact Nat.le_trans (hsm x (by simp)) hs
  have hz3 : (⟨(u).toArray⟩ : ByteArray).size ≤ 3000 := by rw [str_size]; exact Nat.le_trans (hsm u (by simp)) hs
  clear hsm hsl hs
  have HNU := fun W => hid (rNums_any ⟨p.toArray⟩ W hz1)
  have HSP := fun W => hid (rSp_any ⟨x.toArray⟩ W hz2)
  rw [str_data] at HNU HSP
  have HRD := fun W => hid (rRead_any ⟨u.toArray⟩ W (by unfold maxLen; omega))
  rw [str_data] at HRD
  have hch := Um.sp_right c2'
  have hpf := Um.pchk_few (Um.numsL p)
  rw [nums_is c1', c1'] at HNU
  rw [sp_is c2', c2'] at HSP
  generalize Um.numsL p = NL at *
  generalize Um.spL x = XS at *
  have HPO := fun B v W h => hid (rPoly_any B NL v W h)
  have k9 : ((Um.parseR u).2 != 0) = false := by simpa using hu
  have k8 : (Um.pchk NL != 0) = false := by simpa using hp
  have HOV := hid (Um.over_ok.2 ⟨hp, hch⟩)
  have k7 : decide ((Um.parseR u).1 < 1) = false := decide_eq_false hl1
  have hpm := (Um.may_iff _).1 (Um.print_parse hu).1
  have HFD := fun v W h => hid (rFind_any NL v XS.1 XS.2 (Um.parseR u).1 W h HOV.out (by omega))
  have k6 : ((Um.findR NL XS.1 XS.2 (Um.parseR u).1).2 != 0) = true := by simpa using hf
  have hrf := Um.roots_few NL XS.1 XS.2 (Um.parseR u).1
  have HNM := fun W => hid (rName_any (Um.findR NL XS.1 XS.2 (Um.parseR u).1).2 W hrf.1 hrf.2)
  generalize Um.findR NL XS.1 XS.2 (Um.parseR u).1 = FR at *
  generalize Um.parseR u = P at *
  generalize Um.pchk NL = PK at *
  clear hpf hch HOV hl1 hrf hpm
  go_enter Tryz.func8, Tryz.ntmps8
  go_wp2_with fail
  refine HCU.out.mono ?_
  rintro e wn ⟨r, rfl, hr, hB0⟩
  obtain ⟨b, o, c, er, -, hlt, hcs⟩ := hr.open (by simp)
  replace er : r = .slice (some ⟨b, o, none⟩) 4 c := er
  subst er
  have c0 : wn.cell? ⟨b, o, none⟩ = some (.string ⟨(Um.wRoots).toArray⟩) := hcs 0 (by simp)
  have c1 : wn.cell? ⟨b, o + 1, none⟩ = some (.string ⟨(p).toArray⟩) := hcs 1 (by simp)
  have c2 : wn.cell? ⟨b, o + 2, none⟩ = some (.string ⟨(x).toArray⟩) := hcs 2 (by simp)
  have c3 : wn.cell? ⟨b, o + 3, none⟩ = some (.string ⟨(u).toArray⟩) := hcs 3 (by simp)
  clear hr hcs HCU
  go_upto_region 2 with fail
  refine two_test rfl b o 4 c ⟨(Um.wRoots).toArray⟩ wn c0 (by decide) ?_
  intro u31 u32 u33 u34 u35 u36 u37 u38 u39 u40 u41 u42 u43 u44 u45 u46 u47 u48 u49 u50 u51 u52 u53 u54 u55 u56 u57 u58 u59 u60 u61 u62 u63 u64 u65 u66 u67 u68 _ _
  rw [show (decide ((4 : Nat) = 3) && Um.isTwo (⟨(Um.wRoots).toArray⟩ : ByteArray).toList) = false from by rw [str_list]; rfl]
  go_upto_region 19 with fail
  refine power_test rfl b o 4 c ⟨(Um.wRoots).toArray⟩ wn c0 (by decide) ?_
  intro u137 u138 u139 u140 u141 u142 u143 u144 _ _
  rw [show (decide ((4 : Nat) = 3) && ((⟨(Um.wRoots).toArray⟩ : ByteArray).toList == [112, 111, 119, 101, 114])) = false from by rw [str_list]; rfl]
  go_upto_region 27 with fail
  refine range_test rfl b o 4 c ⟨(Um.wRoots).toArray⟩ wn c0 (by decide) ?_
  intro u191 u192 u193 u194 u195 u196 u197 u198 _ _
  rw [show (decide ((4 : Nat) = 3) && ((⟨(Um.wRoots).toArray⟩ : ByteArray).toList == [114, 97, 110, 103, 101])) = false from by rw [str_list]; rfl]
  go_upto_region 28 with fail
  refine newton_test rfl b o 4 c ⟨(Um.wRoots).toArray⟩ wn c0 (by decide) ?_
  intro u200 u201 u202 u203 u204 u205 u206 u207 _ _
  rw [show (decide ((4 : Nat) = 3) && ((⟨(Um.wRoots).toArray⟩ : ByteArray).toList == [110, 101, 119, 116, 111, 110])) = false from by rw [str_list]; rfl]
  go_upto_region 29 with fail
  refine roots_test rfl b o 4 c ⟨(Um.wRoots).toArray⟩ wn c0 (by decide) ?_
  intro u209 u210 u211 u212 u213 u214 u215 u216 _ _
  rw [show (decide ((4 : Nat) = 4) && ((⟨(Um.wRoots).toArray⟩ : ByteArray).toList == [114, 111, 111, 116, 115])) = true from by rw [str_list]; rfl]
  go_upto_region 30 with fail
  refine none_test rfl false false true wn trivial ?_
  intro u218 u219 u220 u221 u222 u223 u224 u225 u226 _ _
  rw [show (!false && !false && !true) = false from rfl]
  go_wp2_with fail
  refine (HNU _).out.mono ?_
  rintro e wa ⟨rp, rfl, hrp, hba⟩
  obtain ⟨a5, c5, e5, -⟩ := (id hrp)
  obtain ⟨n5, hn5⟩ : ∃ n5, n5 = NL.length := ⟨_, rfl⟩
  rw [← hn5] at e5
  subst e5
  have hF := Fr.start wa
  have y2 := (hba.cell (p := ⟨b, o + 2, none⟩) hlt).trans c2
  clear HNU hn5
  go_wp2_with fail
  refine (HSP _).out.mono ?_
  rintro e wb ⟨rfl, hb⟩
  replace hF := hF.step hb
  replace hF := hF.push XS.1 XS.2 rfl
  have hBA := hB0.trans (hba.mono hB0.size)
  clear HSP hb y2
  have y3 := (hF.below.cell (p := ⟨b, o + 3, none⟩) (Nat.lt_of_lt_of_le hlt hba.size)).trans ((hba.cell (p := ⟨b, o + 3, none⟩) hlt).trans c3)
  go_wp2_with fail
  refine (HRD _).out.mono ?_
  rintro e wc ⟨rfl, hq⟩
  subst wc
  clear HRD y3
  go_wp2_with fail
  refine (HPO wa.heap.size _ _ (hrp.keep hF.below)).out.mono ?_
  rintro e wc ⟨rfl, hq⟩
  subst wc
  clear HPO
  have x0l := (hF.at 0 rfl).lo
  have x0h := (hF.at 0 rfl).hi
  go_wp2_with fail
  refine (HFD _ _ (hF.li hrp)).out.mono ?_
  rintro e wd ⟨rl, rfl, hrl, hb⟩
  obtain ⟨a6, c6, e6, -⟩ := (id hrl)
  obtain ⟨n6, hn6⟩ : ∃ n6, n6 = FR.1.length := ⟨_, rfl⟩
  rw [← hn6] at e6
  subst e6
  replace hF := hF.step hb
  have HN6 := hid hn6
  clear hb HFD x0l x0h hn6
  go_wp2_with fail
  refine (HNM _).out.mono ?_
  rintro e we ⟨rfl, hb⟩
  replace hF := hF.step hb
  go_wp2
  go_returns
  rw [HRES.out]
  exact ⟨rfl, hBA.trans (hF.below.mono hBA.size)⟩

set_option maxRecDepth 100000 in
set_option maxHeartbeats 16000000 in
theorem roots_ok (s : ByteArray) (p x u : List UInt8) (w : World) (hs : s.size ≤ 3000) (hW : Um.cutL 32 s.data.toList = [Um.wRoots, p, x, u]) (c1' : Um.numsOk p = true) (c2' : Um.spOk x = true) (hu : (Um.parseR u).2 = 0) (hp : Um.pchk (Um.numsL p) = 0) (hl1 : ¬ (Um.parseR u).1 < 1) (hf : (Um.findR (Um.numsL p) (Um.spL x).1 (Um.spL x).2 (Um.parseR u).1).2 = 0) :
    Calls Tryz.prog 8 #[.string s] w fun e w' => e = .returned (strV (Um.lineR s.data.toList)) ∧ Below w.heap.size w w' := by
  have HRES : Hid (Um.lineR s.data.toList = Um.rootsR (Um.findR (Um.numsL p) (Um.spL x).1 (Um.spL x).2 (Um.parseR u).1).1) := hid (by unfold Um.lineR; rw [hW]; show Um.lineRoots p x u = _; unfold Um.lineRoots; rw [if_pos ⟨c1', c2', hu⟩, if_pos hp, if_neg hl1, if_pos hf])
  have HCU := hid (rCut_any s 32 w hs)
  have hsm := Um.cutL_small 32 s.data.toList
  have hsl : s.data.toList.length = s.size := by simp
  rw [hsl] at hsm
  rw [hW] at HCU hsm
  have hz1 : (⟨(p).toArray⟩ : ByteArray).size ≤ 3000 := by rw [str_size]; exact Nat.le_trans (hsm p (by simp)) hs
  have hz2 : (⟨(x).toArray⟩ : ByteArray).size ≤ 3000 := by rw [str_size]; exact Nat.le_trans (hsm x (by simp)) hs
  have hz3 : (⟨(u).toArray⟩ : ByteArray).size ≤ 3000 := by rw [str_size]; exact Nat.le_trans (hsm u (by simp)) hs
  clear hsm hsl hs
  have HNU := fun W => hid (rNums_any ⟨p.toArray⟩ W hz1)
  have HSP := fun W => hid (rSp_any ⟨x.toArray⟩ W hz2)
  rw [str_data] at HNU HSP
  have HRD := fun W => hid (rRead_any ⟨u.toArray⟩ W (by unfold maxLen; omega))
  rw [str_data] at HRD
  have hch := Um.sp_right c2'
  have hpf := Um.pchk_few (Um.numsL p)
  rw [nums_is c1', c1'] at HNU
  rw [sp_is c2', c2'] at HSP
  generalize Um.numsL p = NL at *
  generalize Um.spL x = XS at *
  have HPO := fun B v W h => hid (rPoly_any B NL v W h)
  have k9 : ((Um.parseR u).2 != 0) = false := by simpa using hu
  have k8 : (Um.pchk NL != 0) = false := by simpa using hp
  have HOV := hid (Um.over_ok.2 ⟨hp, hch⟩)
  have k7 : decide ((Um.parseR u).1 < 1) = false := decide_eq_false hl1
  have hpm := (Um.may_iff _).1 (Um.print_parse hu).1
  have HFD := fun v W h => hid (rFind_any NL v XS.1 XS.2 (Um.parseR u).1 W h HOV.out (by omega))
  have k6 : ((Um.findR NL XS.1 XS.2 (Um.parseR u).1).2 != 0) = false := by simpa using hf
  have HRM := hid (Um.roots_may HOV.out (by omega) (by omega) hf)
  generalize Um.findR NL XS.1 XS.2 (Um.parseR u).1 = FR at *
  generalize Um.parseR u = P at *
  generalize Um.pchk NL = PK at *
  clear hpf hch HOV hl1 hpm
  go_enter Tryz.func8, Tryz.ntmps8
  go_wp2_with fail
  refine HCU.out.mono ?_
  rintro e wn ⟨r, rfl, hr, hB0⟩
  obtain ⟨b, o, c, er, -, hlt, hcs⟩ := hr.open (by simp)
  replace er : r = .slice (some ⟨b, o, none⟩) 4 c := er
  subst er
  have c0 : wn.cell? ⟨b, o, none⟩ = some (.string ⟨(Um.wRoots).toArray⟩) := hcs 0 (by simp)
  have c1 : wn.cell? ⟨b, o + 1, none⟩ = some (.string ⟨(p).toArray⟩) := hcs 1 (by simp)
  have c2 : wn.cell? ⟨b, o + 2, none⟩ = some (.string ⟨(x).toArray⟩) := hcs 2 (by simp)
  have c3 : wn.cell? ⟨b, o + 3, none⟩ = some (.string ⟨(u).toArray⟩) := hcs 3 (by simp)
  clear hr hcs HCU
  go_upto_region 2 with fail
  refine two_test rfl b o 4 c ⟨(Um.wRoots).toArray⟩ wn c0 (by decide) ?_
  intro u31 u32 u33 u34 u35 u36 u37 u38 u39 u40 u41 u42 u43 u44 u45 u46 u47 u48 u49 u50 u51 u52 u53 u54 u55 u56 u57 u58 u59 u60 u61 u62 u63 u64 u65 u66 u67 u68 _ _
  rw [show (decide ((4 : Nat) = 3) && Um.isTwo (⟨(Um.wRoots).toArray⟩ : ByteArray).toList) = false from by rw [str_list]; rfl]
  go_upto_region 19 with fail
  refine power_test rfl b o 4 c ⟨(Um.wRoots).toArray⟩ wn c0 (by decide) ?_
  intro u137 u138 u139 u140 u141 u142 u143 u144 _ _
  rw [show (decide ((4 : Nat) = 3) && ((⟨(Um.wRoots).toArray⟩ : ByteArray).toList == [112, 111, 119, 101, 114])) = false from by rw [str_list]; rfl]
  go_upto_region 27 with fail
  refine range_test rfl b o 4 c ⟨(Um.wRoots).toArray⟩ wn c0 (by decide) ?_
  intro u191 u192 u193 u194 u195 u196 u197 u198 _ _
  rw [show (decide ((4 : Nat) = 3) && ((⟨(Um.wRoots).toArray⟩ : ByteArray).toList == [114, 97, 110, 103, 101])) = false from by rw [str_list]; rfl]
  go_upto_region 28 with fail
  refine newton_test rfl b o 4 c ⟨(Um.wRoots).toArray⟩ wn c0 (by decide) ?_
  intro u200 u201 u202 u203 u204 u205 u206 u207 _ _
  rw [show (decide ((4 : Nat) = 3) && ((⟨(Um.wRoots).toArray⟩ : ByteArray).toList == [110, 101, 119, 116, 111, 110])) = false from by rw [str_list]; rfl]
  go_upto_region 29 with fail
  refine roots_test rfl b o 4 c ⟨(Um.wRoots).toArray⟩ wn c0 (by decide) ?_
  intro u209 u210 u211 u212 u213 u214 u215 u216 _ _
  rw [show (decide ((4 : Nat) = 4) && ((⟨(Um.wRoots).toArray⟩ : ByteArray).toList == [114, 111, 111, 116, 115])) = true from by rw [str_list]; rfl]
  go_upto_region 30 with fail
  refine none_test rfl false false true wn trivial ?_
  intro u218 u219 u220 u221 u222 u223 u224 u225 u226 _ _
  rw [show (!false && !false && !true) = false from rfl]
  go_wp2_with fail
  refine (HNU _).out.mono ?_
  rintro e wa ⟨rp, rfl, hrp, hba⟩
  obtain ⟨a5, c5, e5, -⟩ := (id hrp)
  obtain ⟨n5, hn5⟩ : ∃ n5, n5 = NL.length := ⟨_, rfl⟩
  rw [← hn5] at e5
  subst e5
  have hF := Fr.start wa
  have y2 := (hba.cell (p := ⟨b, o + 2, none⟩) hlt).trans c2
  clear HNU hn5
  go_wp2_with fail
  refine (HSP _).out.mono ?_
  rintro e wb ⟨rfl, hb⟩
  replace hF := hF.step hb
  replace hF := hF.push XS.1 XS.2 rfl
  have hBA := hB0.trans (hba.mono hB0.size)
  clear HSP hb y2
  have y3 := (hF.below.cell (p := ⟨b, o + 3, none⟩) (Nat.lt_of_lt_of_le hlt hba.size)).trans ((hba.cell (p := ⟨b, o + 3, none⟩) hlt).trans c3)
  go_wp2_with fail
  refine (HRD _).out.mono ?_
  rintro e wc ⟨rfl, hq⟩
  subst wc
  clear HRD y3
  go_wp2_with fail
  refine (HPO wa.heap.size _ _ (hrp.keep hF.below)).out.mono ?_
  rintro e wc ⟨rfl, hq⟩
  subst wc
  clear HPO
  have x0l := (hF.at 0 rfl).lo
  have x0h := (hF.at 0 rfl).hi
  go_wp2_with fail
  refine (HFD _ _ (hF.li hrp)).out.mono ?_
  rintro e wd ⟨rl, rfl, hrl, hb⟩
  obtain ⟨a6, c6, e6, -⟩ := (id hrl)
  obtain ⟨n6, hn6⟩ : ∃ n6, n6 = FR.1.length := ⟨_, rfl⟩
  rw [← hn6] at e6
  subst e6
  replace hF := hF.step hb
  have HN6 := hid hn6
  clear hb HFD x0l x0h hn6
  go_wp2
  refine join_loop rfl n6 c6 a6 FR.1 _ hrl HN6.out HRM.out.1 HRM.out.2 ?_
  intro u27 u28 u304 u305 u306 u307 u308 u309 u310 u311 u312 u313 u314 u315 u316 u317 u318 u319 u320 u321 wq hbj
  have hBJ := (hBA.trans (hF.below.mono hBA.size)).trans (hbj.mono (Nat.le_trans hBA.size hF.size))
  by_cases hne : FR.1 = []
  · have e9 : Um.joinTo FR.1 FR.1.length = [] := by rw [hne]; rfl
    have e8 : Um.rootsR FR.1 = [45] := if_pos hne
    rw [e9]
    go_wp2
    go_returns
    rw [HRES.out, e8]
    exact ⟨rfl, hBJ⟩
  · have e8 : Um.rootsR FR.1 = Um.joinTo FR.1 FR.1.length := if_neg hne
    have k5 : ((⟨(Um.joinTo FR.1 FR.1.length).toArray⟩ : ByteArray).toList == []) = false := by
      rw [str_list]
      exact join_some (List.length_pos_iff.2 hne)
    rw [← e8] at k5 ⊢
    clear e8
    generalize Um.rootsR FR.1 = RT at *
    obtain ⟨rt, hrt⟩ : ∃ rt : ByteArray, rt = ⟨RT.toArray⟩ := ⟨_, rfl⟩
    rw [← hrt] at k5
    rw [show strV RT = .string rt from by rw [hrt]]
    have k4 : rt.toList.isEmpty = false := by
      cases h : rt.toList with
      | nil => rw [h] at k5; cases k5
      | cons a t => rfl
    have HRT := hid hrt
    clear hrt
    go_wp2
    go_returns
    rw [HRES.out, show strV RT = .string rt from by rw [HRT.out]]
    exact ⟨rfl, hBJ⟩

set_option maxRecDepth 100000 in
set_option maxHeartbeats 16000000 in
theorem line_none (s : ByteArray) (W : List (List UInt8)) (k : List UInt8) (n : Nat) (w : World) (hs : s.size ≤ 3000) (hW : Um.cutL 32 s.data.toList = W) (hk : k = W[0]?.getD []) (hnn : n = W.length) (hn : 0 < n) (q1 : (decide (n = 3) && Um.isTwo k) = false) (q2 : (decide (n = 3) && (k == [112, 111, 119, 101, 114])) = false) (q3 : (decide (n = 3) && (k == [114, 97, 110, 103, 101])) = false) (q4 : (decide (n = 3) && (k == [110, 101, 119, 116, 111, 110])) = false) (q5 : (decide (n = 4) && (k == [114, 111, 111, 116, 115])) = false) (hbad : Um.wordsR W = Um.wBad) :
    Calls Tryz.prog 8 #[.string s] w fun e w' => e = .returned (strV (Um.lineR s.data.toList)) ∧ Below w.heap.size w w' := by
  have HRES : Hid (Um.lineR s.data.toList = Um.wBad) := hid (by unfold Um.lineR; rw [hW]; exact hbad)
  have HCU := hid (rCut_any s 32 w hs)
  rw [hW] at HCU
  have HNN := hid hnn
  have HKK := hid hk
  clear hs hnn hk hbad
  go_enter Tryz.func8, Tryz.ntmps8
  go_wp2_with fail
  refine HCU.out.mono ?_
  rintro e wn ⟨r, rfl, hr, hB0⟩
  obtain ⟨b, o, c, er, -, hlt, hcs⟩ := hr.open (fun e => by have := HNN.out; rw [e] at this; simp at this; omega)
  rw [← HNN.out] at er
  subst er
  have c0 : wn.cell? ⟨b, o, none⟩ = some (.string ⟨k.toArray⟩) := by rw [HKK.out]; exact hcs 0 (by rw [← HNN.out]; exact hn)
  clear hr hcs HCU
  go_upto_region 2 with fail
  refine two_test rfl b o n c ⟨k.toArray⟩ wn c0 hn ?_
  intro u31 u32 u33 u34 u35 u36 u37 u38 u39 u40 u41 u42 u43 u44 u45 u46 u47 u48 u49 u50 u51 u52 u53 u54 u55 u56 u57 u58 u59 u60 u61 u62 u63 u64 u65 u66 u67 u68 _ _
  rw [show (decide (n = 3) && Um.isTwo (⟨k.toArray⟩ : ByteArray).toList) = false from by rw [str_list]; exact q1]
  go_upto_region 19 with fail
  refine power_test rfl b o n c ⟨k.toArray⟩ wn c0 hn ?_
  intro u137 u138 u139 u140 u141 u142 u143 u144 _ _
  rw [show (decide (n = 3) && ((⟨k.toArray⟩ : ByteArray).toList == [112, 111, 119, 101, 114])) = false from by rw [str_list]; exact q2]
  go_upto_region 27 with fail
  refine range_test rfl b o n c ⟨k.toArray⟩ wn c0 hn ?_
  intro u191 u192 u193 u194 u195 u196 u197 u198 _ _
  rw [show (decide (n = 3) && ((⟨k.toArray⟩ : ByteArray).toList == [114, 97, 110, 103, 101])) = false from by rw [str_list]; exact q3]
  go_upto_region 28 with fail
  refine newton_test rfl b o n c ⟨k.toArray⟩ wn c0 hn ?_
  intro u200 u201 u202 u203 u204 u205 u206 u207 _ _
  rw [show (decide (n = 3) && ((⟨k.toArray⟩ : ByteArray).toList == [110, 101, 119, 116, 111, 110])) = false from by rw [str_list]; exact q4]
  go_upto_region 29 with fail
  refine roots_test rfl b o n c ⟨k.toArray⟩ wn c0 hn ?_
  intro u209 u210 u211 u212 u213 u214 u215 u216 _ _
  rw [show (decide (n = 4) && ((⟨k.toArray⟩ : ByteArray).toList == [114, 111, 111, 116, 115])) = false from by rw [str_list]; exact q5]
  go_upto_region 30 with fail
  refine none_test rfl false false false wn trivial ?_
  intro u218 u219 u220 u221 u222 u223 u224 u225 u226 _ _
  rw [show (!false && !false && !false) = true from rfl]
  go_wp2
  go_returns
  rw [HRES.out]
  exact ⟨rfl, hB0⟩

theorem nope {n m : Nat} (h : ¬ n = m) (b : Bool) : (decide (n = m) && b) = false := by rw [decide_eq_false h]; rfl
theorem not_eq {k l : List UInt8} (h : ¬ k = l) (n m : Nat) : (decide (n = m) && (k == l)) = false := by rw [beq_eq_false_iff_ne.2 h, Bool.and_false]
set_option maxRecDepth 100000 in
theorem line_any (s : ByteArray) (w : World) (hs : s.size ≤ 3000) :
    Calls Tryz.prog 8 #[.string s] w fun e w' => e = .returned (strV (Um.lineR s.data.toList)) ∧ Below w.heap.size w w' := by
  obtain ⟨W, hW⟩ : ∃ W, Um.cutL 32 s.data.toList = W := ⟨_, rfl⟩
  have hpos := Um.cutL_pos 32 s.data.toList
  rw [hW] at hpos
  match W, hW, hpos with
  | [], _, hpos => exact absurd hpos (Nat.lt_irrefl _)
  | [k], hW, _ => exact line_none s [k] k 1 w hs hW rfl rfl (by decide) (nope (by decide) _) (nope (by decide) _) (nope (by decide) _) (nope (by decide) _) (nope (by decide) _) rfl
  | [k, a], hW, _ => exact line_none s [k, a] k 2 w hs hW rfl rfl (by decide) (nope (by decide) _) (nope (by decide) _) (nope (by decide) _) (nope (by decide) _) (nope (by decide) _) rfl
  | [k, x, y], hW, _ =>
    by_cases ht : Um.isTwo k = true
    · exact line_two s k x y w hs hW ht
    · by_cases e1 : k = Um.wPower
      · subst e1; exact line_power s x y w hs hW
      · by_cases e2 : k = Um.wRange
        · subst e2
          by_cases hc : Um.numsOk x = true ∧ Um.spOk y = true
          · by_cases hp : Um.pchk (Um.numsL x) = 0
            · exact range_ok s x y w hs hW hc.1 hc.2 hp
            · exact range_fault s x y w hs hW hc.1 hc.2 hp
          · exact range_bad s x y w hs hW hc
        · by_cases e3 : k = Um.wNewton
          · subst e3
            by_cases hc : Um.numsOk x = true ∧ Um.spOk y = true
            · by_cases hp : Um.pchk (Um.numsL x) = 0
              · exact newton_ok s x y w hs hW hc.1 hc.2 hp
              · exact newton_fault s x y w hs hW hc.1 hc.2 hp
            · exact newton_bad s x y w hs hW hc
          · replace ht : Um.isTwo k = false := by simpa using ht
            exact line_none s [k, x, y] k 3 w hs hW rfl rfl (by decide) (by rw [ht]; rfl) (not_eq e1 _ _) (not_eq e2 _ _) (not_eq e3 _ _) (nope (by decide) _) (by
              show (if Um.isTwo k = true then _ else _) = _
              rw [if_neg (by rw [ht]; decide), if_neg e1, if_neg e2, if_neg e3])
  | [k, p, x, u], hW, _ =>
    by_cases e1 : k = Um.wRoots
    · subst e1
      by_cases hc : Um.numsOk p = true ∧ Um.spOk x = true
      · by_cases hu : (Um.parseR u).2 = 0
        · by_cases hp : Um.pchk (Um.numsL p) = 0
          · by_cases hl : (Um.parseR u).1 < 1
            · exact roots_least s p x u w hs hW hc.1 hc.2 hu hp hl
            · by_cases hf : (Um.findR (Um.numsL p) (Um.spL x).1 (Um.spL x).2 (Um.parseR u).1).2 = 0
              · exact roots_ok s p x u w hs hW hc.1 hc.2 hu hp hl hf
              · exact roots_miss s p x u w hs hW hc.1 hc.2 hu hp hl hf
          · exact roots_fault s p x u w hs hW hc.1 hc.2 hu hp
        · exact roots_read s p x u w hs hW hc.1 hc.2 hu
      · exact roots_bad s p x u w hs hW hc
    · exact line_none s [k, p, x, u] k 4 w hs hW rfl rfl (by decide) (nope (by decide) _) (nope (by decide) _) (nope (by decide) _) (nope (by decide) _) (not_eq e1 _ _) (if_neg e1)
  | k :: a :: b :: c :: d :: t, hW, _ => exact line_none s (k :: a :: b :: c :: d :: t) k (t.length + 5) w hs hW rfl rfl (by omega) (nope (by omega) _) (nope (by omega) _) (nope (by omega) _) (nope (by omega) _) (nope (by omega) _) rfl
end Go.Proofs.YtkfalmdckmlneaaGreatDoor.Lin
