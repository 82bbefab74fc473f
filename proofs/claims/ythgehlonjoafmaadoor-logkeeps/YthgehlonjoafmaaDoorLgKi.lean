/-
  The inner loop of 'spanlaw3.LogKeeps': boxes are put, one by one.
-/
import Derived.Test.YthgehlonjoafmaaDoorLgKs
namespace Go.Proofs.YthgehlonjoafmaaDoor.LgKeeps
set_option linter.unusedSimpArgs false
open Go.RowKit

set_option maxRecDepth 100000 in
set_option maxHeartbeats 32000000 in
theorem inner_loop {Q : Exit → Act → World → Prop} {B : Code} (hB : IsInner 0 B) {z3 z4 z5 z6 z7 z8 z9 z10 z11 z12 z13 z14 z15 z16 z17 z18 z19 z21 z22 z26 z28 z29 z30 z31 z32 z33 z34 z35 z36 z37 z38 z39 z40 z41 z42 z43 z44 z45 z46 z47 z48 z49 z50 z51 z52 z53 z54 z55 z56 z57 z58 z59 z60 z61 z62 z63 z64 z65 z66 z67 z68 z69 z70 z71 z72 z73 z74 z75 z76 z77 z78 z79 z80 z81 z82 z83 z84 z85 z86 z87 z88 z89 z90 z91 z92 z93 z94 z95 z96 z97 z98 z99 z100 z101 z102 z103 z104 z105 z106 z107 z108 z109 z110 z111 z112 z113 z114 z115 z116 z117 z118 z119 z120 z121 z122 z123 z124 z125 z126 z127 z128 z129 z130 z131 z132 z133 z134 z135 z136 z137 z138 z139 z140 z141 z142 z143 z144 z145 z146 z147 z148 z149 z150 z151 z152 z153 z154 z155 z156 z157 z158 z159 z160 z161 z162 z163 z164 z165 z166 z167 z168 z169 z170 z171 z172 z173 z174 z175 z176 z177 z178 z179 z180 z181 z182 z183 z184 z185 z186 z187 z188 z189 z190 z191 z192 z193 z194 z195 z196 z197 z198 z199 z200 z201 z202 z203 z204 z205 z206 z207 z208 z209 z210 z211 z212 z213 z214 z215 z216 z217 z218 z219 z220 z221 z222 z223 z224 z225 z226 z227 z228 z229 z230 z231 z232 z233 z234 z235 z236 z237 z238 z239 z240 z241 z242 z243 z244 z245 z246 z247 z248 z249 z250 z251 z252 z253 z254 z255 z256 z257 z258 z259 z260 z261 z262 z263 z264 z265 z266 z267 z268 z269 z270 z271 z272 z273 z274 z275 z276 z277 z278 z279 z280 z281 z282 z283 z284 z285 z286 z287 z288 z289 z290 z291 z292 z293 z294 z295 z296 z297 z298 z299 z300 z301 z302 z303 z304 z305 z306 z307 z308 z309 z310 z311 z312 z313 z314 z315 z316 z317 z318 z319 z320 z321 z322 z323 z324 z325 z326 z327 z328 z329 z330 z331 z332 z333 z334 z335 z336 z337 z338 z339 z340 z341 z342 z343 z344 z345 z346 z347 z348 z349 z350 z351 z352 z353 z354 z355 z356 z357 z358 z359 z360 z361 z362 z363 z364 z365 z366 z367 : Value} (n p n1 c1 n2 c2 A0 : Nat) (a1 a2 : Option Addr) (l : List (List (Int × Int))) (sy : List Int) (w wr0 : World) (dv mv : Value) (s0 : Um.LogS)
    (hg : HasErr w) (hl : Lb w.heap.size w (.slice a1 n1 c1) l) (hsy : Li w.heap.size w (.slice a2 n2 c2) sy) (hn1 : n1 = l.length) (hn2 : n2 = sy.length) (hA0 : A0 ≤ 36) (hK0 : Kz w wr0 p n dv mv s0)
    (hexit : ∀ (u10 u22 u27 u28 u29 u30 u31 u164 u165 u166 u167 u168 u169 u170 u171 u172 u173 u174 u175 u176 u177 u178 u179 u180 u181 u182 u183 u184 u185 u186 u187 u188 u189 u190 u191 u192 u193 u194 u195 u196 u197 u198 u199 u200 u201 u202 u203 u204 u205 u206 u207 u208 u209 u210 u211 u212 u213 u214 u215 u216 u217 u218 u219 u220 u221 u222 u223 u224 u225 u226 u227 u228 u229 u230 u231 u232 u233 u234 u235 u236 u237 u238 u239 u240 u241 u242 u243 u244 u245 u246 u247 u248 u249 u250 u251 u252 u253 u254 u255 u256 u257 u258 u259 u260 : Value) (dv mv : Value) (A : Nat) (s : Um.LogS) (wr : World), A ≤ A0 + 12 → Kz w wr p n dv mv s → Q (.exit 2) ⟨List.toArray (.int .i64 (n : Int) :: .slice a1 n1 c1 :: .slice a2 n2 c2 :: z3 :: z4 :: z5 :: z6 :: z7 :: z8 :: z9 :: u10 :: z11 :: z12 :: z13 :: z14 :: z15 :: z16 :: z17 :: z18 :: z19 :: .pointer (some ⟨p, 0, none⟩) :: z21 :: u22 :: dv :: mv :: .int .i64 (A : Int) :: z26 :: u27 :: u28 :: u29 :: u30 :: u31 :: z32 :: z33 :: z34 :: z35 :: z36 :: z37 :: z38 :: z39 :: z40 :: z41 :: z42 :: z43 :: z44 :: z45 :: z46 :: z47 :: z48 :: z49 :: z50 :: z51 :: z52 :: z53 :: z54 :: z55 :: z56 :: z57 :: z58 :: z59 :: z60 :: z61 :: z62 :: z63 :: z64 :: z65 :: z66 :: z67 :: z68 :: z69 :: z70 :: z71 :: z72 :: z73 :: z74 :: z75 :: z76 :: z77 :: z78 :: z79 :: z80 :: z81 :: z82 :: z83 :: z84 :: z85 :: z86 :: z87 :: z88 :: z89 :: z90 :: z91 :: z92 :: z93 :: z94 :: z95 :: z96 :: z97 :: z98 :: z99 :: z100 :: z101 :: z102 :: z103 :: z104 :: z105 :: z106 :: z107 :: z108 :: z109 :: z110 :: z111 :: z112 :: z113 :: z114 :: z115 :: z116 :: z117 :: z118 :: z119 :: z120 :: z121 :: z122 :: z123 :: z124 :: z125 :: z126 :: z127 :: z128 :: z129 :: z130 :: z131 :: z132 :: z133 :: z134 :: z135 :: z136 :: z137 :: z138 :: z139 :: z140 :: z141 :: z142 :: z143 :: z144 :: z145 :: z146 :: z147 :: z148 :: z149 :: z150 :: z151 :: z152 :: z153 :: z154 :: z155 :: z156 :: z157 :: z158 :: z159 :: z160 :: z161 :: z162 :: z163 :: u164 :: u165 :: u166 :: u167 :: u168 :: u169 :: u170 :: u171 :: u172 :: u173 :: u174 :: u175 :: u176 :: u177 :: u178 :: u179 :: u180 :: u181 :: u182 :: u183 :: u184 :: u185 :: u186 :: u187 :: u188 :: u189 :: u190 :: u191 :: u192 :: u193 :: u194 :: u195 :: u196 :: u197 :: u198 :: u199 :: u200 :: u201 :: u202 :: u203 :: u204 :: u205 :: u206 :: u207 :: u208 :: u209 :: u210 :: u211 :: u212 :: u213 :: u214 :: u215 :: u216 :: u217 :: u218 :: u219 :: u220 :: u221 :: u222 :: u223 :: u224 :: u225 :: u226 :: u227 :: u228 :: u229 :: u230 :: u231 :: u232 :: u233 :: u234 :: u235 :: u236 :: u237 :: u238 :: u239 :: u240 :: u241 :: u242 :: u243 :: u244 :: u245 :: u246 :: u247 :: u248 :: u249 :: u250 :: u251 :: u252 :: u253 :: u254 :: u255 :: u256 :: u257 :: u258 :: u259 :: u260 :: z261 :: z262 :: z263 :: z264 :: z265 :: z266 :: z267 :: z268 :: z269 :: z270 :: z271 :: z272 :: z273 :: z274 :: z275 :: z276 :: z277 :: z278 :: z279 :: z280 :: z281 :: z282 :: z283 :: z284 :: z285 :: z286 :: z287 :: z288 :: z289 :: z290 :: z291 :: z292 :: z293 :: z294 :: z295 :: z296 :: z297 :: z298 :: z299 :: z300 :: z301 :: z302 :: z303 :: z304 :: z305 :: z306 :: z307 :: z308 :: z309 :: z310 :: z311 :: z312 :: z313 :: z314 :: z315 :: z316 :: z317 :: z318 :: z319 :: z320 :: z321 :: z322 :: z323 :: z324 :: z325 :: z326 :: z327 :: z328 :: z329 :: z330 :: z331 :: z332 :: z333 :: z334 :: z335 :: z336 :: z337 :: z338 :: z339 :: z340 :: z341 :: z342 :: z343 :: z344 :: z345 :: z346 :: z347 :: z348 :: z349 :: z350 :: z351 :: z352 :: z353 :: z354 :: z355 :: z356 :: z357 :: z358 :: z359 :: z360 :: z361 :: z362 :: z363 :: z364 :: z365 :: z366 :: z367 :: []), []⟩ wr) :
    Code.wp Tryd.prog (.loop B) Q ⟨List.toArray (.int .i64 (n : Int) :: .slice a1 n1 c1 :: .slice a2 n2 c2 :: z3 :: z4 :: z5 :: z6 :: z7 :: z8 :: z9 :: z10 :: z11 :: z12 :: z13 :: z14 :: z15 :: z16 :: z17 :: z18 :: z19 :: .pointer (some ⟨p, 0, none⟩) :: z21 :: z22 :: dv :: mv :: .int .i64 (A0 : Int) :: z26 :: .int .i64 0 :: z28 :: z29 :: z30 :: z31 :: z32 :: z33 :: z34 :: z35 :: z36 :: z37 :: z38 :: z39 :: z40 :: z41 :: z42 :: z43 :: z44 :: z45 :: z46 :: z47 :: z48 :: z49 :: z50 :: z51 :: z52 :: z53 :: z54 :: z55 :: z56 :: z57 :: z58 :: z59 :: z60 :: z61 :: z62 :: z63 :: z64 :: z65 :: z66 :: z67 :: z68 :: z69 :: z70 :: z71 :: z72 :: z73 :: z74 :: z75 :: z76 :: z77 :: z78 :: z79 :: z80 :: z81 :: z82 :: z83 :: z84 :: z85 :: z86 :: z87 :: z88 :: z89 :: z90 :: z91 :: z92 :: z93 :: z94 :: z95 :: z96 :: z97 :: z98 :: z99 :: z100 :: z101 :: z102 :: z103 :: z104 :: z105 :: z106 :: z107 :: z108 :: z109 :: z110 :: z111 :: z112 :: z113 :: z114 :: z115 :: z116 :: z117 :: z118 :: z119 :: z120 :: z121 :: z122 :: z123 :: z124 :: z125 :: z126 :: z127 :: z128 :: z129 :: z130 :: z131 :: z132 :: z133 :: z134 :: z135 :: z136 :: z137 :: z138 :: z139 :: z140 :: z141 :: z142 :: z143 :: z144 :: z145 :: z146 :: z147 :: z148 :: z149 :: z150 :: z151 :: z152 :: z153 :: z154 :: z155 :: z156 :: z157 :: z158 :: z159 :: z160 :: z161 :: z162 :: z163 :: z164 :: z165 :: z166 :: z167 :: z168 :: z169 :: z170 :: z171 :: z172 :: z173 :: z174 :: z175 :: z176 :: z177 :: z178 :: z179 :: z180 :: z181 :: z182 :: z183 :: z184 :: z185 :: z186 :: z187 :: z188 :: z189 :: z190 :: z191 :: z192 :: z193 :: z194 :: z195 :: z196 :: z197 :: z198 :: z199 :: z200 :: z201 :: z202 :: z203 :: z204 :: z205 :: z206 :: z207 :: z208 :: z209 :: z210 :: z211 :: z212 :: z213 :: z214 :: z215 :: z216 :: z217 :: z218 :: z219 :: z220 :: z221 :: z222 :: z223 :: z224 :: z225 :: z226 :: z227 :: z228 :: z229 :: z230 :: z231 :: z232 :: z233 :: z234 :: z235 :: z236 :: z237 :: z238 :: z239 :: z240 :: z241 :: z242 :: z243 :: z244 :: z245 :: z246 :: z247 :: z248 :: z249 :: z250 :: z251 :: z252 :: z253 :: z254 :: z255 :: z256 :: z257 :: z258 :: z259 :: z260 :: z261 :: z262 :: z263 :: z264 :: z265 :: z266 :: z267 :: z268 :: z269 :: z270 :: z271 :: z272 :: z273 :: z274 :: z275 :: z276 :: z277 :: z278 :: z279 :: z280 :: z281 :: z282 :: z283 :: z284 :: z285 :: z286 :: z287 :: z288 :: z289 :: z290 :: z291 :: z292 :: z293 :: z294 :: z295 :: z296 :: z297 :: z298 :: z299 :: z300 :: z301 :: z302 :: z303 :: z304 :: z305 :: z306 :: z307 :: z308 :: z309 :: z310 :: z311 :: z312 :: z313 :: z314 :: z315 :: z316 :: z317 :: z318 :: z319 :: z320 :: z321 :: z322 :: z323 :: z324 :: z325 :: z326 :: z327 :: z328 :: z329 :: z330 :: z331 :: z332 :: z333 :: z334 :: z335 :: z336 :: z337 :: z338 :: z339 :: z340 :: z341 :: z342 :: z343 :: z344 :: z345 :: z346 :: z347 :: z348 :: z349 :: z350 :: z351 :: z352 :: z353 :: z354 :: z355 :: z356 :: z357 :: z358 :: z359 :: z360 :: z361 :: z362 :: z363 :: z364 :: z365 :: z366 :: z367 :: []), []⟩ wr0 := by
  unfold IsInner at hB
  conv at hB => lhs; whnf
  conv at hB => lhs; arg 1; whnf
  obtain rfl := Option.some.inj hB
  clear hB
  have ve := errV_none
  have q1 := errG
  have q2 := errGn
  have q3 := errE
  have q4 := errN
  have HX := hid hexit
  have HG := hid hg
  have HL := hid hl
  have HSL := hid hsy
  have HN1 := hid hn1
  have HN2 := hid hn2
  have HK0 := hid hK0
  clear hexit hg hl hsy hn1 hn2 hK0
  go_loopw [23, 24, 25, 27] (fun dv mv y k wq => ∃ (A i : Nat) (s : Um.LogS), i ≤ 12 ∧ A ≤ A0 + i ∧ y = .int .i64 A ∧ k = .int .i64 i ∧ Kz w wq p n dv mv s) (fun _ _ _ k _ => 12 - (intOf k).toNat)
  case atStart => exact ⟨A0, 0, s0, by omega, by omega, rfl, rfl, HK0.out⟩
  case round =>
    obtain ⟨A, i, s, hi, hA, rfl, rfl, hK⟩ := hrel
    clear HK0
    by_cases hi2 : i < 12
    · have d1 : decide ((i : Int) < 12) = true := decide_eq_true (by omega)
      have d2 : decide (i < 12) = true := decide_eq_true hi2
      by_cases hA2 : A < n1
      · have d3 : decide ((A : Int) < (n1 : Int)) = true := decide_eq_true (by omega)
        have d4 : decide (A < n1) = true := decide_eq_true hA2
        have hA3 : (A : Int) < (n1 : Int) := by omega
        go_upto_region 30 with fail
        refine sync_stmt rfl n p n2 c2 A a2 sy w _ _ _ s HSL.out HN2.out hK ?_
        intro u174 u175 u176 u177 u178 u179 u180 u181 u182 u183 u184 u185 u186 u187 u188 u189 u190 u191 u192 u193 u194 u195 s wq hK
        obtain ⟨ad, cd, ed⟩ := hK.slice
        obtain ⟨am, cm, em⟩ := hK.marks
        obtain ⟨D, hD⟩ : ∃ D, D = s.done.length := ⟨_, rfl⟩
        obtain ⟨D1, hD1⟩ : ∃ D1, D1 = s.done.length + 1 := ⟨_, rfl⟩
        rw [← hD] at ed
        rw [← hD1] at em
        subst ed em
        obtain ⟨b1, o1, c4, e1, -, m1, nn1⟩ := HL.out.open (fun e => by have := HN1.out; rw [e] at this; simp at this; omega)
        obtain ⟨rfl, -, rfl⟩ : a1 = some ⟨b1, o1, none⟩ ∧ n1 = l.length ∧ c1 = c4 := by injection e1 with e1 e2 e3; exact ⟨e1, e2, e3⟩
        obtain ⟨x1, p1, l1⟩ := nn1 A (by rw [← HN1.out]; exact hA2)
        obtain ⟨ax, cx, ex, -⟩ := (id l1)
        obtain ⟨b, hb0⟩ : ∃ b, b = l[A]?.getD [] := ⟨_, rfl⟩
        rw [← hb0] at l1 ex
        obtain ⟨nx, hnx⟩ : ∃ nx, nx = b.length := ⟨_, rfl⟩
        rw [← hnx] at ex
        subst ex
        have HP1 := hid p1
        have HL1 := hid l1
        have HM1 := hid m1
        have HDD := hid hD
        have HD1 := hid hD1
        have HNX := hid hnx
        obtain ⟨e0, he0⟩ : ∃ e0, e0 = if 20 ≤ D then 4 else Um.boxF b := ⟨_, rfl⟩
        have HE0 := hid he0
        clear nn1 p1 l1 e1 hb0 hD hD1 hnx m1 he0
        go_upto_if 199 with fail
        refine want_stmt rfl n p n1 c1 A D cd D1 cm nx cx b1 o1 ad am ax b w _ s e0 (decide ((20 : Int) ≤ (D : Int))) HL1.out HM1.out HP1.out hA2 hK (decide_eq_decide.2 (by omega)) HE0.out ?_
        intro u200 u201 u202 u203 u204 wq hK
        go_upto_region 36 with fail
        refine shape_test rfl n n1 c1 A nx cx b1 o1 ax _ e0 ((hK.ky.below.cell (p := ⟨b1, o1 + A, none⟩) HM1.out).trans HP1.out) hA2 ?_
        intro u205 u206 u207 u208 u209 u210 u211 u212 u213 u214 _ _
        go_upto_if 215 with fail
        refine shape_if rfl n D nx b _ e0 HE0.out HNX.out ?_
        intro _ _
        have y1 := (hK.ky.below.cell (p := ⟨b1, o1 + A, none⟩) HM1.out).trans HP1.out
        have HBY := hid hK.ky.bytes
        have HPU := hid (hK.ky.put b (.slice ax nx cx) ((HL1.out.keep hK.ky.below).wide hK.ky.below.size))
        have HKK := hid hK
        obtain ⟨NB, hNB⟩ : ∃ NB, NB = s.bytes.length := ⟨_, rfl⟩
        rw [← hNB] at HBY
        have HNB := hid hNB
        obtain ⟨PF, hPF⟩ : ∃ PF, PF = Um.putF s b := ⟨_, rfl⟩
        rw [← hPF] at HPU
        have HPF := hid hPF
        obtain ⟨EW, hEW⟩ : ∃ EW, EW = Um.wantF n D b := ⟨_, rfl⟩
        rw [← hEW]
        have HTO : Hid ((PF == 6) = true ∨ (PF == EW) = true) := hid (by
          rcases Um.put_told s b with e | e
          · exact .inl (by rw [hPF, e]; rfl)
          · exact .inr (by rw [hPF, hEW, e, hK.sides, HDD.out]; simp))
        clear hK hNB hPF hEW
        go_wp2_with fail
        refine HBY.out.mono ?_
        rintro e wa ⟨rfl, hq⟩
        subst wa
        clear HBY
        go_wp2_with fail
        refine HPU.out.mono ?_
        rintro e wa ⟨rfl, hK⟩
        clear HPU y1
        go_wp2_with fail
        refine (same_any _ _ _ (HG.out.below (B := w.heap.size) hK.below HG.out.size)).mono ?_
        rintro e wb ⟨rfl, hb⟩
        replace hK := hK.step hb
        clear hb
        go_wp2_with fail
        refine (same_any _ _ _ (HG.out.below (B := w.heap.size) hK.below HG.out.size)).mono ?_
        rintro e wd ⟨rfl, hb⟩
        replace hK := hK.step hb
        clear hb
        go_upto_region 42 with fail
        refine told_test rfl (PF == 6) (PF == EW) _ HTO.out ?_
        intro u229 u230 u231 u232 u233 _ _
        go_upto_if 236 with fail
        refine put_if rfl n p n1 c1 A D cd D1 cm nx cx b1 o1 ad am ax b w _ s NB (PF == 0) HL1.out HM1.out HP1.out hA2 HKK.out.ok HKK.out.sides HDD.out HD1.out HNB.out (by rw [HPF.out]; rfl) hK ?_
        intro u10 u237 u238 u239 u240 u241 u242 u243 u244 u245 u246 u247 u248 u249 u250 u251 u252 u253 dv mv s2 wq hK
        have HAL := hid hK.ky.all
        have hA5 : (A : Int) + 1 ≤ 49 := by omega
        clear HKK HPF HNB HTO HE0
        go_wp2_with fail
        refine HAL.out.mono ?_
        rintro e wf ⟨r, rfl, hr, hb⟩
        replace hK := hK.step hb
        have HBS := hid (boxes_same s2.done r _ _ hr hK.ky.lb (box_few hK).1 (box_few hK).2)
        clear HAL hb hr
        go_wp2_with fail
        refine HBS.out.mono ?_
        rintro e wg ⟨rfl, hb⟩
        replace hK := hK.step hb
        clear HBS hb
        go_wp2
        exact ⟨⟨A + 1, i + 1, s2, by omega, by omega, by simp, by simp, hK⟩, by simp [intOf]; omega⟩
      · have d3 : decide ((A : Int) < (n1 : Int)) = false := decide_eq_false (by omega)
        have d4 : decide (A < n1) = false := decide_eq_false hA2
        go_wp2
        exact HX.out _ _ _ _ _ _ _ _ _ _ _ _ _ _ _ _ _ _ _ _ _ _ _ _ _ _ _ _ _ _ _ _ _ _ _ _ _ _ _ _ _ _ _ _ _ _ _ _ _ _ _ _ _ _ _ _ _ _ _ _ _ _ _ _ _ _ _ _ _ _ _ _ _ _ _ _ _ _ _ _ _ _ _ _ _ _ _ _ _ _ _ _ _ _ _ _ _ _ _ _ _ _ _ _ _ _ _ _ _ (by omega) hK
    · have d1 : decide ((i : Int) < 12) = false := decide_eq_false (by omega)
      have d2 : decide (i < 12) = false := decide_eq_false hi2
      go_wp2
      exact HX.out _ _ _ _ _ _ _ _ _ _ _ _ _ _ _ _ _ _ _ _ _ _ _ _ _ _ _ _ _ _ _ _ _ _ _ _ _ _ _ _ _ _ _ _ _ _ _ _ _ _ _ _ _ _ _ _ _ _ _ _ _ _ _ _ _ _ _ _ _ _ _ _ _ _ _ _ _ _ _ _ _ _ _ _ _ _ _ _ _ _ _ _ _ _ _ _ _ _ _ _ _ _ _ _ _ _ _ _ _ (by omega) hK
end Go.Proofs.YthgehlonjoafmaaDoor.LgKeeps
