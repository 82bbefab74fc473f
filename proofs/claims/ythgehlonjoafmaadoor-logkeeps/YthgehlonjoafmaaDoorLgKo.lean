/-
  The outer loop of 'spanlaw3.LogKeeps'.
-/
import Derived.Test.YthgehlonjoafmaaDoorLgKi
import Derived.Test.YthgehlonjoafmaaDoorLgKt
import Derived.Test.YthgehlonjoafmaaDoorLgKu
import Derived.Test.YthgehlonjoafmaaDoorLgKl
import Derived.Test.YthgehlonjoafmaaDoorLgKh
namespace Go.Proofs.YthgehlonjoafmaaDoor.LgKeeps
set_option linter.unusedSimpArgs false
open Go.RowKit

set_option maxRecDepth 100000 in
set_option maxHeartbeats 64000000 in
theorem outer_loop {Q : Exit → Act → World → Prop} {B : Code} (hB : IsOuter B) {z5 z6 z7 z8 z9 z10 z11 z12 z13 z14 z15 z16 z17 z18 z19 z21 z22 z27 z28 z29 z30 z31 z32 z33 z34 z35 z36 z37 z38 z39 z40 z41 z42 z43 z44 z45 z46 z47 z48 z49 z50 z51 z52 z53 z54 z55 z56 z57 z58 z59 z60 z61 z62 z63 z64 z65 z66 z67 z68 z69 z70 z71 z72 z73 z74 z75 z76 z77 z78 z79 z80 z81 z82 z83 z84 z85 z86 z87 z88 z89 z90 z91 z92 z93 z94 z95 z96 z97 z98 z99 z100 z101 z102 z103 z104 z105 z106 z107 z108 z109 z110 z111 z112 z113 z114 z115 z116 z117 z118 z119 z120 z121 z122 z123 z124 z125 z126 z127 z128 z129 z130 z131 z132 z133 z134 z135 z136 z137 z138 z139 z140 z141 z142 z143 z144 z145 z146 z147 z148 z149 z150 z151 z152 z153 z154 z155 z156 z157 z158 z159 z160 z161 z162 z163 z164 z165 z166 z167 z168 z169 z170 z171 z172 z173 z174 z175 z176 z177 z178 z179 z180 z181 z182 z183 z184 z185 z186 z187 z188 z189 z190 z191 z192 z193 z194 z195 z196 z197 z198 z199 z200 z201 z202 z203 z204 z205 z206 z207 z208 z209 z210 z211 z212 z213 z214 z215 z216 z217 z218 z219 z220 z221 z222 z223 z224 z225 z226 z227 z228 z229 z230 z231 z232 z233 z234 z235 z236 z237 z238 z239 z240 z241 z242 z243 z244 z245 z246 z247 z248 z249 z250 z251 z252 z253 z254 z255 z256 z257 z258 z259 z260 z261 z262 z263 z264 z265 z266 z267 z268 z269 z270 z271 z272 z273 z274 z275 z276 z277 z278 z279 z280 z281 z282 z283 z284 z285 z286 z287 z288 z289 z290 z291 z292 z293 z294 z295 z296 z297 z298 z299 z300 z301 z302 z303 z304 z305 z306 z307 z308 z309 z310 z311 z312 z313 z314 z315 z316 z317 z318 z319 z320 z321 z322 z323 z324 z325 z326 z327 z328 z329 z330 z331 z332 z333 z334 z335 z336 z337 z338 z339 z340 z341 z342 z343 z344 z345 z346 z347 z348 z349 z350 z351 z352 z353 z354 z355 z356 z357 z358 z359 z360 z361 z362 z363 z364 z365 z366 z367 : Value} (n p n1 c1 n2 c2 n3 c3 n4 c4 : Nat) (a1 a2 a3 a4 : Option Addr) (l : List (List (Int × Int))) (sy fl kl : List Int) (w wr0 : World) (dv mv : Value) (s0 : Um.LogS)
    (hg : HasErr w) (hl : Lb w.heap.size w (.slice a1 n1 c1) l) (hsy : Li w.heap.size w (.slice a2 n2 c2) sy) (hfl : Li w.heap.size w (.slice a3 n3 c3) fl) (hkl : Li w.heap.size w (.slice a4 n4 c4) kl) (hn1 : n1 = l.length) (hn2 : n2 = sy.length) (hn3 : n3 = fl.length) (hn4 : n4 = kl.length) (hbd : ∀ x ∈ fl, x ≤ 9223372036854775807) (hK0 : Kz w wr0 p n dv mv s0)
    (hexit : ∀ (u10 u22 u23 u24 u25 u26 u27 u28 u29 u30 u31 u32 u33 u34 u35 u36 u37 u38 u39 u40 u41 u42 u144 u145 u146 u147 u148 u149 u150 u151 u152 u153 u154 u155 u156 u157 u158 u159 u160 u161 u162 u163 u164 u165 u166 u167 u168 u169 u170 u171 u172 u173 u174 u175 u176 u177 u178 u179 u180 u181 u182 u183 u184 u185 u186 u187 u188 u189 u190 u191 u192 u193 u194 u195 u196 u197 u198 u199 u200 u201 u202 u203 u204 u205 u206 u207 u208 u209 u210 u211 u212 u213 u214 u215 u216 u217 u218 u219 u220 u221 u222 u223 u224 u225 u226 u227 u228 u229 u230 u231 u232 u233 u234 u235 u236 u237 u238 u239 u240 u241 u242 u243 u244 u245 u246 u247 u248 u249 u250 u251 u252 u253 u254 u255 u256 u257 u258 u259 u260 u261 u262 u263 u264 u265 u266 u267 u268 u269 u270 u271 u272 u273 u274 u275 u276 u277 u278 u279 u280 u281 u282 u283 u284 u285 u286 u287 u288 u289 u290 u291 u292 u293 u294 u295 u296 u297 u298 u299 u300 u301 u302 u303 u304 u305 u306 u307 u308 u309 u310 u311 u312 u313 u314 u315 u316 u317 u318 u319 u320 u321 u322 u323 u324 u325 u326 u327 u328 u329 u330 u331 u332 u333 u334 u335 u336 u337 u338 u339 u340 u341 u342 u343 u344 u345 u346 u347 u348 u349 u350 u351 u352 u353 u354 u355 u356 u357 u358 u359 u360 u361 u362 u363 u364 u365 u366 u367 : Value) (wr : World), Below w.heap.size w wr → Q (.exit 0) ⟨List.toArray (.int .i64 (n : Int) :: .slice a1 n1 c1 :: .slice a2 n2 c2 :: .slice a3 n3 c3 :: .slice a4 n4 c4 :: z5 :: z6 :: z7 :: z8 :: z9 :: u10 :: z11 :: z12 :: z13 :: z14 :: z15 :: z16 :: z17 :: z18 :: z19 :: .pointer (some ⟨p, 0, none⟩) :: z21 :: u22 :: u23 :: u24 :: u25 :: u26 :: u27 :: u28 :: u29 :: u30 :: u31 :: u32 :: u33 :: u34 :: u35 :: u36 :: u37 :: u38 :: u39 :: u40 :: u41 :: u42 :: z43 :: z44 :: z45 :: z46 :: z47 :: z48 :: z49 :: z50 :: z51 :: z52 :: z53 :: z54 :: z55 :: z56 :: z57 :: z58 :: z59 :: z60 :: z61 :: z62 :: z63 :: z64 :: z65 :: z66 :: z67 :: z68 :: z69 :: z70 :: z71 :: z72 :: z73 :: z74 :: z75 :: z76 :: z77 :: z78 :: z79 :: z80 :: z81 :: z82 :: z83 :: z84 :: z85 :: z86 :: z87 :: z88 :: z89 :: z90 :: z91 :: z92 :: z93 :: z94 :: z95 :: z96 :: z97 :: z98 :: z99 :: z100 :: z101 :: z102 :: z103 :: z104 :: z105 :: z106 :: z107 :: z108 :: z109 :: z110 :: z111 :: z112 :: z113 :: z114 :: z115 :: z116 :: z117 :: z118 :: z119 :: z120 :: z121 :: z122 :: z123 :: z124 :: z125 :: z126 :: z127 :: z128 :: z129 :: z130 :: z131 :: z132 :: z133 :: z134 :: z135 :: z136 :: z137 :: z138 :: z139 :: z140 :: z141 :: z142 :: z143 :: u144 :: u145 :: u146 :: u147 :: u148 :: u149 :: u150 :: u151 :: u152 :: u153 :: u154 :: u155 :: u156 :: u157 :: u158 :: u159 :: u160 :: u161 :: u162 :: u163 :: u164 :: u165 :: u166 :: u167 :: u168 :: u169 :: u170 :: u171 :: u172 :: u173 :: u174 :: u175 :: u176 :: u177 :: u178 :: u179 :: u180 :: u181 :: u182 :: u183 :: u184 :: u185 :: u186 :: u187 :: u188 :: u189 :: u190 :: u191 :: u192 :: u193 :: u194 :: u195 :: u196 :: u197 :: u198 :: u199 :: u200 :: u201 :: u202 :: u203 :: u204 :: u205 :: u206 :: u207 :: u208 :: u209 :: u210 :: u211 :: u212 :: u213 :: u214 :: u215 :: u216 :: u217 :: u218 :: u219 :: u220 :: u221 :: u222 :: u223 :: u224 :: u225 :: u226 :: u227 :: u228 :: u229 :: u230 :: u231 :: u232 :: u233 :: u234 :: u235 :: u236 :: u237 :: u238 :: u239 :: u240 :: u241 :: u242 :: u243 :: u244 :: u245 :: u246 :: u247 :: u248 :: u249 :: u250 :: u251 :: u252 :: u253 :: u254 :: u255 :: u256 :: u257 :: u258 :: u259 :: u260 :: u261 :: u262 :: u263 :: u264 :: u265 :: u266 :: u267 :: u268 :: u269 :: u270 :: u271 :: u272 :: u273 :: u274 :: u275 :: u276 :: u277 :: u278 :: u279 :: u280 :: u281 :: u282 :: u283 :: u284 :: u285 :: u286 :: u287 :: u288 :: u289 :: u290 :: u291 :: u292 :: u293 :: u294 :: u295 :: u296 :: u297 :: u298 :: u299 :: u300 :: u301 :: u302 :: u303 :: u304 :: u305 :: u306 :: u307 :: u308 :: u309 :: u310 :: u311 :: u312 :: u313 :: u314 :: u315 :: u316 :: u317 :: u318 :: u319 :: u320 :: u321 :: u322 :: u323 :: u324 :: u325 :: u326 :: u327 :: u328 :: u329 :: u330 :: u331 :: u332 :: u333 :: u334 :: u335 :: u336 :: u337 :: u338 :: u339 :: u340 :: u341 :: u342 :: u343 :: u344 :: u345 :: u346 :: u347 :: u348 :: u349 :: u350 :: u351 :: u352 :: u353 :: u354 :: u355 :: u356 :: u357 :: u358 :: u359 :: u360 :: u361 :: u362 :: u363 :: u364 :: u365 :: u366 :: u367 :: []), []⟩ wr) :
    Code.wp Tryd.prog (.loop B) Q ⟨List.toArray (.int .i64 (n : Int) :: .slice a1 n1 c1 :: .slice a2 n2 c2 :: .slice a3 n3 c3 :: .slice a4 n4 c4 :: z5 :: z6 :: z7 :: z8 :: z9 :: z10 :: z11 :: z12 :: z13 :: z14 :: z15 :: z16 :: z17 :: z18 :: z19 :: .pointer (some ⟨p, 0, none⟩) :: z21 :: z22 :: dv :: mv :: .int .i64 0 :: .int .i64 0 :: z27 :: z28 :: z29 :: z30 :: z31 :: z32 :: z33 :: z34 :: z35 :: z36 :: z37 :: z38 :: z39 :: z40 :: z41 :: z42 :: z43 :: z44 :: z45 :: z46 :: z47 :: z48 :: z49 :: z50 :: z51 :: z52 :: z53 :: z54 :: z55 :: z56 :: z57 :: z58 :: z59 :: z60 :: z61 :: z62 :: z63 :: z64 :: z65 :: z66 :: z67 :: z68 :: z69 :: z70 :: z71 :: z72 :: z73 :: z74 :: z75 :: z76 :: z77 :: z78 :: z79 :: z80 :: z81 :: z82 :: z83 :: z84 :: z85 :: z86 :: z87 :: z88 :: z89 :: z90 :: z91 :: z92 :: z93 :: z94 :: z95 :: z96 :: z97 :: z98 :: z99 :: z100 :: z101 :: z102 :: z103 :: z104 :: z105 :: z106 :: z107 :: z108 :: z109 :: z110 :: z111 :: z112 :: z113 :: z114 :: z115 :: z116 :: z117 :: z118 :: z119 :: z120 :: z121 :: z122 :: z123 :: z124 :: z125 :: z126 :: z127 :: z128 :: z129 :: z130 :: z131 :: z132 :: z133 :: z134 :: z135 :: z136 :: z137 :: z138 :: z139 :: z140 :: z141 :: z142 :: z143 :: z144 :: z145 :: z146 :: z147 :: z148 :: z149 :: z150 :: z151 :: z152 :: z153 :: z154 :: z155 :: z156 :: z157 :: z158 :: z159 :: z160 :: z161 :: z162 :: z163 :: z164 :: z165 :: z166 :: z167 :: z168 :: z169 :: z170 :: z171 :: z172 :: z173 :: z174 :: z175 :: z176 :: z177 :: z178 :: z179 :: z180 :: z181 :: z182 :: z183 :: z184 :: z185 :: z186 :: z187 :: z188 :: z189 :: z190 :: z191 :: z192 :: z193 :: z194 :: z195 :: z196 :: z197 :: z198 :: z199 :: z200 :: z201 :: z202 :: z203 :: z204 :: z205 :: z206 :: z207 :: z208 :: z209 :: z210 :: z211 :: z212 :: z213 :: z214 :: z215 :: z216 :: z217 :: z218 :: z219 :: z220 :: z221 :: z222 :: z223 :: z224 :: z225 :: z226 :: z227 :: z228 :: z229 :: z230 :: z231 :: z232 :: z233 :: z234 :: z235 :: z236 :: z237 :: z238 :: z239 :: z240 :: z241 :: z242 :: z243 :: z244 :: z245 :: z246 :: z247 :: z248 :: z249 :: z250 :: z251 :: z252 :: z253 :: z254 :: z255 :: z256 :: z257 :: z258 :: z259 :: z260 :: z261 :: z262 :: z263 :: z264 :: z265 :: z266 :: z267 :: z268 :: z269 :: z270 :: z271 :: z272 :: z273 :: z274 :: z275 :: z276 :: z277 :: z278 :: z279 :: z280 :: z281 :: z282 :: z283 :: z284 :: z285 :: z286 :: z287 :: z288 :: z289 :: z290 :: z291 :: z292 :: z293 :: z294 :: z295 :: z296 :: z297 :: z298 :: z299 :: z300 :: z301 :: z302 :: z303 :: z304 :: z305 :: z306 :: z307 :: z308 :: z309 :: z310 :: z311 :: z312 :: z313 :: z314 :: z315 :: z316 :: z317 :: z318 :: z319 :: z320 :: z321 :: z322 :: z323 :: z324 :: z325 :: z326 :: z327 :: z328 :: z329 :: z330 :: z331 :: z332 :: z333 :: z334 :: z335 :: z336 :: z337 :: z338 :: z339 :: z340 :: z341 :: z342 :: z343 :: z344 :: z345 :: z346 :: z347 :: z348 :: z349 :: z350 :: z351 :: z352 :: z353 :: z354 :: z355 :: z356 :: z357 :: z358 :: z359 :: z360 :: z361 :: z362 :: z363 :: z364 :: z365 :: z366 :: z367 :: []), []⟩ wr0 := by
  unfold IsOuter at hB
  conv at hB => lhs; whnf
  conv at hB => lhs; arg 1; whnf
  obtain rfl := Option.some.inj hB
  clear hB
  have ve := errV_none
  have q1 := errG
  have q2 := errGn
  have q3 := errE
  have q4 := errN
  have HX := hid hexit
  have HG := hid hg
  have HL := hid hl
  have HSL := hid hsy
  have HFL := hid hfl
  have HKL := hid hkl
  have HN1 := hid hn1
  have HN2 := hid hn2
  have HN3 := hid hn3
  have HN4 := hid hn4
  have HBD := hid hbd
  have HK0 := hid hK0
  clear hexit hg hl hsy hfl hkl hn1 hn2 hn3 hn4 hbd hK0
  go_loopw [23, 24, 25, 26] (fun dv mv y k wq => ∃ (A r : Nat) (s : Um.LogS), r ≤ 4 ∧ A ≤ 12 * r ∧ y = .int .i64 A ∧ k = .int .i64 r ∧ Kz w wq p n dv mv s) (fun _ _ _ k _ => 4 - (intOf k).toNat)
  case atStart => exact ⟨0, 0, s0, by omega, by omega, rfl, rfl, HK0.out⟩
  case round =>
    obtain ⟨A, r, s, hr, hA, rfl, rfl, hK⟩ := hrel
    clear HK0
    by_cases hr2 : r ≤ n3
    · have d1 : decide ((r : Int) ≤ (n3 : Int)) = true := decide_eq_true (by omega)
      have d2 : decide (r ≤ n3) = true := decide_eq_true hr2
      by_cases hr3 : r < 4
      · have d3 : decide ((r : Int) < 4) = true := decide_eq_true (by omega)
        have d4 : decide (r < 4) = true := decide_eq_true hr3
        go_upto_if 157 with fail
        refine fail_if rfl n p n3 c3 r a3 fl w _ _ _ s (decide (r < n3)) HFL.out HN3.out HBD.out rfl hK ?_
        intro u158 u159 u160 u161 u162 u163 s wq hK
        go_wp2
        refine inner_loop rfl n p n1 c1 n2 c2 A a1 a2 l sy w _ _ _ s HG.out HL.out HSL.out HN1.out HN2.out (by omega) hK ?_
        intro u10 u22 u27 u28 u29 u30 u31 u164 u165 u166 u167 u168 u169 u170 u171 u172 u173 u174 u175 u176 u177 u178 u179 u180 u181 u182 u183 u184 u185 u186 u187 u188 u189 u190 u191 u192 u193 u194 u195 u196 u197 u198 u199 u200 u201 u202 u203 u204 u205 u206 u207 u208 u209 u210 u211 u212 u213 u214 u215 u216 u217 u218 u219 u220 u221 u222 u223 u224 u225 u226 u227 u228 u229 u230 u231 u232 u233 u234 u235 u236 u237 u238 u239 u240 u241 u242 u243 u244 u245 u246 u247 u248 u249 u250 u251 u252 u253 u254 u255 u256 u257 u258 u259 u260 dv mv A2 s wq hA2 hK
        go_upto_if 264 with fail
        refine keep_if rfl n4 c4 r a4 kl w _ (decide (r < n4)) HKL.out HN4.out rfl hK.ky.below ?_
        intro u265 u266 u267 u268 kp _
        obtain ⟨NB, hNB⟩ : ∃ NB, NB = s.bytes.length := ⟨_, rfl⟩
        obtain ⟨SF, hSF⟩ : ∃ SF, SF = s.safe := ⟨_, rfl⟩
        have HBY := hid hK.ky.bytes
        have HSA := hid hK.ky.safe
        have HCR := hid (hK.ky.crash kp)
        rw [← hNB] at HBY
        rw [← hSF] at HSA
        have hNBs : NB ≤ 525 := by rw [hNB]; exact hK.ok.small
        have hSFs : SF ≤ NB := by rw [hNB, hSF]; exact hK.ok.safe_le
        have HNB := hid hNB
        have HSF := hid hSF
        have HKK := hid hK
        clear hNB hSF hK
        go_wp2_with fail
        refine HBY.out.mono ?_
        rintro e wa ⟨rfl, hq⟩
        subst wa
        go_wp2_with fail
        refine HSA.out.mono ?_
        rintro e wa ⟨rfl, hq⟩
        subst wa
        go_wp2_with fail
        refine HCR.out.mono ?_
        rintro e wa ⟨rfl, hK2⟩
        clear HBY HSA HCR
        go_upto_region 59 with fail
        refine high_test rfl NB SF kp _ hNBs hSFs ?_
        intro u277 u278 u279 u280 u281 u282 u283 u284 _ _
        go_upto_if 285 with fail
        refine high_if rfl NB SF kp s _ HKK.out.ok HNB.out HSF.out ?_
        intro u286 u287 u288 u289 u290 u291 _ _
        obtain ⟨ad, cd, ed, hcd, -⟩ := hK2.lb
        obtain ⟨g, o, cm, em, hcm, hglt, hcells⟩ := hK2.at (fun e => by have := Um.marks_length (1 + 8 * n) s.done.length; rw [e] at this; simp at this)
        obtain ⟨D, hD⟩ : ∃ D, D = s.done.length := ⟨_, rfl⟩
        obtain ⟨M, hM⟩ : ∃ M, M = D + 1 := ⟨_, rfl⟩
        rw [Um.marks_length, ← hD, ← hM] at em hcm hcells
        rw [← hD] at ed hcd
        subst ed em
        obtain ⟨g1, g2, g3, g4, g5⟩ := Um.crash_facts (keep := kp) HKK.out.ok
        obtain ⟨Lf, hLf⟩ : ∃ Lf, Lf = Um.leftN s kp := ⟨_, rfl⟩
        have hLe : min (Um.cutN s kp / (1 + 8 * n)) D = Lf := by rw [hLf, hD, ← HKK.out.len]; rfl
        rw [← hLf] at g1 g2 g3 g4
        rw [← hD] at g1
        obtain ⟨L1, hL1⟩ : ∃ L1, L1 = Lf + 1 := ⟨_, rfl⟩
        have hD20 : D ≤ 20 := by rw [hD]; exact HKK.out.ok.many
        have hce : ∀ j, j ≤ D → wa.cell? ⟨g, o + j, none⟩ = some (.int .i64 (((1 + 8 * n) * j : Nat) : Int)) := fun j hj => by rw [hcells j (by omega), Um.marks_get hj]
        have HKZ : Hid (Kz w wa p n (.slice ad Lf cd) (.slice (some ⟨g, o, none⟩) L1 cm) (Um.crashS s kp)) := hid (by
          have h := hK2.cut (m := Lf) (m' := L1) hD (by rw [Um.marks_length, ← hD]; exact hM) g1 (by omega)
          refine ⟨?_, g5.trans HKK.out.sides⟩
          rw [g2, List.length_take, Nat.min_eq_left (by rw [← hD]; exact g1)]
          rw [hL1, ← hD, Um.marks_take g1] at h
          rw [hL1]
          exact h)
        obtain ⟨MB, hMB⟩ : ∃ MB, MB = (1 + 8 * n) * Lf := ⟨_, rfl⟩
        have HB1 : Hid ((Um.crashS s kp).bytes.length = MB) := hid (by rw [g3, HKK.out.len, hMB])
        have HS1 : Hid ((Um.crashS s kp).safe = MB) := hid (by rw [g4, HKK.out.len, hMB])
        have HDL : Hid (Lf = (Um.crashS s kp).done.length) := hid (by rw [g2, List.length_take, Nat.min_eq_left (by rw [← hD]; exact g1)])
        have HYC : Hid (wa.cell? ⟨g, o + Lf, none⟩ = some (.int .i64 (MB : Int))) := hid (by rw [hce Lf g1, hMB])
        have HCE := hid hce
        have HM := hid hM
        have HLE := hid hLe
        have HGL := hid hglt
        have hln : 0 < 1 + 8 * n := by omega
        clear hcells hce hD hM hLe hglt hMB hLf g2 g3 g4 g5 hK2 HNB HSF
        generalize Um.crashS s kp = s9 at *
        go_wp2
        refine left_loop rfl g o M cm D (1 + 8 * n) (Um.cutN s kp) _ HM.out HCE.out hln hD20 ?_
        intro u37 u292 u293 u294 u295 u296 u297 u298 u299 u300 u301 u302 u303 u304
        rw [HLE.out]
        have hx1 : (Lf : Int) ≤ (cd : Int) := by omega
        have hx3 : (Lf : Int) + 1 ≤ (cm : Int) := by have := HM.out; omega
        have hx5 : (Lf : Int) ≤ 20 := by omega
        subst hL1
        clear HCE HLE
        go_upto_region 71 with fail
        refine left_test rfl n p Lf cd (Lf + 1) cm g o MB ad w _ s9 HKZ.out (by omega) HB1.out HS1.out HGL.out HYC.out ?_
        intro u312 u313 u314 u315 u316 u317 u318 u319 u320 u321 u322 u323 u324 u325 u326 u327 u328 u329 u330 u331 u332 u333 wq hb
        have hKZ := HKZ.out.step hb
        clear HKZ hb HB1 HS1 HGL HYC HM
        go_wp2
        refine hull_loop rfl ad Lf cd n s9.done _ HDL.out (by omega) hKZ.ky.lb (fun b hb => by have := hKZ.ok.box b hb; rw [hKZ.sides] at this; exact this) ?_
        intro a9 n9 c9 u40 u335 u336 u337 u338 u339 u340 u341 u342 u343 u344 u345 u346 u347 u348 u349 u350 u351 w9 hls hb
        replace hKZ := hKZ.step hb
        have e8 := Um.hullK_all s9.done
        rw [← HDL.out] at e8
        rw [e8.1] at hls
        have HEK : Hid ((Um.hullE s9.done == Um.errK Lf) = true) := hid (by rw [e8.2]; simp)
        have HHU := hid hKZ.ky.hull
        have HLS := hid hls
        have HHL : Hid ((Um.hullF s9.done).length ≤ 1000) := hid (by
          by_cases hn : s9.done = []
          · rw [hn]; decide
          · rw [(Um.hullF_some hn).1, (Um.hullTo_ok hKZ.ok.box _ (by have := List.length_pos_iff.2 hn; omega)).2]
            have := hKZ.ok.s3
            omega)
        generalize Um.errK Lf = EK at *
        generalize Um.hullE s9.done = HE at *
        clear e8 hls hb
        go_wp2_with fail
        refine HHU.out.mono ?_
        rintro e wb ⟨rh, rfl, hrh, hb⟩
        replace hKZ := hKZ.step hb
        have HBX := fun W (hb2 : Below wb.heap.size wb W) => hid (box_same (Um.hullF s9.done) rh (.slice a9 n9 c9) W (hrh.step hb2) ((HLS.out.step hb).step hb2) HHL.out)
        have HHG := hid (HG.out.below (B := w.heap.size) hKZ.ky.below HG.out.size)
        have k8 := HEK.out
        clear HHU hb hrh
        go_wp2_with fail
        refine (same_any _ _ _ HHG.out).mono ?_
        rintro e wd ⟨rfl, hb⟩
        replace hKZ := hKZ.step hb
        have HBX2 := HBX _ hb
        clear HBX hb HHG
        go_wp2_with fail
        refine HBX2.out.mono ?_
        rintro e wf ⟨rfl, hb⟩
        replace hKZ := hKZ.step hb
        clear HBX2 hb
        go_wp2
        exact ⟨⟨A2, r + 1, s9, by omega, by omega, by simp, by simp, hKZ⟩, by simp [intOf]; omega⟩
      · have d3 : decide ((r : Int) < 4) = false := decide_eq_false (by omega)
        have d4 : decide (r < 4) = false := decide_eq_false hr3
        go_wp2
        exact HX.out _ _ _ _ _ _ _ _ _ _ _ _ _ _ _ _ _ _ _ _ _ _ _ _ _ _ _ _ _ _ _ _ _ _ _ _ _ _ _ _ _ _ _ _ _ _ _ _ _ _ _ _ _ _ _ _ _ _ _ _ _ _ _ _ _ _ _ _ _ _ _ _ _ _ _ _ _ _ _ _ _ _ _ _ _ _ _ _ _ _ _ _ _ _ _ _ _ _ _ _ _ _ _ _ _ _ _ _ _ _ _ _ _ _ _ _ _ _ _ _ _ _ _ _ _ _ _ _ _ _ _ _ _ _ _ _ _ _ _ _ _ _ _ _ _ _ _ _ _ _ _ _ _ _ _ _ _ _ _ _ _ _ _ _ _ _ _ _ _ _ _ _ _ _ _ _ _ _ _ _ _ _ _ _ _ _ _ _ _ _ _ _ _ _ _ _ _ _ _ _ _ _ _ _ _ _ _ _ _ _ _ _ _ _ _ _ _ _ _ _ _ _ _ _ _ _ _ _ _ _ _ _ _ _ _ _ _ _ _ _ _ _ _ _ _ _ _ hK.ky.below
    · have d1 : decide ((r : Int) ≤ (n3 : Int)) = false := decide_eq_false (by omega)
      have d2 : decide (r ≤ n3) = false := decide_eq_false hr2
      go_wp2
      exact HX.out _ _ _ _ _ _ _ _ _ _ _ _ _ _ _ _ _ _ _ _ _ _ _ _ _ _ _ _ _ _ _ _ _ _ _ _ _ _ _ _ _ _ _ _ _ _ _ _ _ _ _ _ _ _ _ _ _ _ _ _ _ _ _ _ _ _ _ _ _ _ _ _ _ _ _ _ _ _ _ _ _ _ _ _ _ _ _ _ _ _ _ _ _ _ _ _ _ _ _ _ _ _ _ _ _ _ _ _ _ _ _ _ _ _ _ _ _ _ _ _ _ _ _ _ _ _ _ _ _ _ _ _ _ _ _ _ _ _ _ _ _ _ _ _ _ _ _ _ _ _ _ _ _ _ _ _ _ _ _ _ _ _ _ _ _ _ _ _ _ _ _ _ _ _ _ _ _ _ _ _ _ _ _ _ _ _ _ _ _ _ _ _ _ _ _ _ _ _ _ _ _ _ _ _ _ _ _ _ _ _ _ _ _ _ _ _ _ _ _ _ _ _ _ _ _ _ _ _ _ _ _ _ _ _ _ _ _ _ _ _ _ _ _ _ _ _ _ hK.ky.below
end Go.Proofs.YthgehlonjoafmaaDoor.LgKeeps
