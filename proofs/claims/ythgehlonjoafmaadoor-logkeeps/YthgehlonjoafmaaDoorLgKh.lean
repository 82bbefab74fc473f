/-
  The loop of 'spanlaw3.LogKeeps' that makes the hull of all boxes.
-/
import Derived.Test.YthgehlonjoafmaaDoorLgK
import Derived.Test.YthgehlonjoafmaaDoorRefBox
namespace Go.Proofs.YthgehlonjoafmaaDoor.LgKeeps
set_option linter.unusedSimpArgs false
open Go.RowKit

set_option maxRecDepth 100000 in
set_option maxHeartbeats 16000000 in
theorem hull_loop {Q : Exit → Act → World → Prop} {B : Code} (hB : IsInner 2 B) {z0 z1 z2 z3 z4 z5 z6 z7 z8 z9 z10 z11 z12 z13 z14 z15 z16 z17 z18 z19 z20 z21 z22 z24 z25 z26 z27 z28 z29 z30 z31 z32 z33 z34 z35 z36 z37 z41 z42 z43 z44 z45 z46 z47 z48 z49 z50 z51 z52 z53 z54 z55 z56 z57 z58 z59 z60 z61 z62 z63 z64 z65 z66 z67 z68 z69 z70 z71 z72 z73 z74 z75 z76 z77 z78 z79 z80 z81 z82 z83 z84 z85 z86 z87 z88 z89 z90 z91 z92 z93 z94 z95 z96 z97 z98 z99 z100 z101 z102 z103 z104 z105 z106 z107 z108 z109 z110 z111 z112 z113 z114 z115 z116 z117 z118 z119 z120 z121 z122 z123 z124 z125 z126 z127 z128 z129 z130 z131 z132 z133 z134 z135 z136 z137 z138 z139 z140 z141 z142 z143 z144 z145 z146 z147 z148 z149 z150 z151 z152 z153 z154 z155 z156 z157 z158 z159 z160 z161 z162 z163 z164 z165 z166 z167 z168 z169 z170 z171 z172 z173 z174 z175 z176 z177 z178 z179 z180 z181 z182 z183 z184 z185 z186 z187 z188 z189 z190 z191 z192 z193 z194 z195 z196 z197 z198 z199 z200 z201 z202 z203 z204 z205 z206 z207 z208 z209 z210 z211 z212 z213 z214 z215 z216 z217 z218 z219 z220 z221 z222 z223 z224 z225 z226 z227 z228 z229 z230 z231 z232 z233 z234 z235 z236 z237 z238 z239 z240 z241 z242 z243 z244 z245 z246 z247 z248 z249 z250 z251 z252 z253 z254 z255 z256 z257 z258 z259 z260 z261 z262 z263 z264 z265 z266 z267 z268 z269 z270 z271 z272 z273 z274 z275 z276 z277 z278 z279 z280 z281 z282 z283 z284 z285 z286 z287 z288 z289 z290 z291 z292 z293 z294 z295 z296 z297 z298 z299 z300 z301 z302 z303 z304 z305 z306 z307 z308 z309 z310 z311 z312 z313 z314 z315 z316 z317 z318 z319 z320 z321 z322 z323 z324 z325 z326 z327 z328 z329 z330 z331 z332 z333 z334 z335 z336 z337 z338 z339 z340 z341 z342 z343 z344 z345 z346 z347 z348 z349 z350 z351 z352 z353 z354 z355 z356 z357 z358 z359 z360 z361 z362 z363 z364 z365 z366 z367 : Value} (a5 : Option Addr) (D c5 n : Nat) (dl : List (List (Int × Int))) (w : World)
    (hD : D = dl.length) (h20 : D ≤ 20) (hlb : Lb w.heap.size w (.slice a5 D c5) dl) (hbox : ∀ b ∈ dl, Um.boxF b = 0 ∧ b.length = n)
    (hexit : ∀ (a9 : Option Addr) (n9 c9 : Nat) (u40 u335 u336 u337 u338 u339 u340 u341 u342 u343 u344 u345 u346 u347 u348 u349 u350 u351 : Value) (w' : World), Ls w'.heap.size w' (.slice a9 n9 c9) (Um.hullK dl D) → Below w.heap.size w w' → Q (.exit 6) ⟨List.toArray (z0 :: z1 :: z2 :: z3 :: z4 :: z5 :: z6 :: z7 :: z8 :: z9 :: z10 :: z11 :: z12 :: z13 :: z14 :: z15 :: z16 :: z17 :: z18 :: z19 :: z20 :: z21 :: z22 :: .slice a5 D c5 :: z24 :: z25 :: z26 :: z27 :: z28 :: z29 :: z30 :: z31 :: z32 :: z33 :: z34 :: z35 :: z36 :: z37 :: .int .i64 (Um.errK D) :: .slice a9 n9 c9 :: u40 :: z41 :: z42 :: z43 :: z44 :: z45 :: z46 :: z47 :: z48 :: z49 :: z50 :: z51 :: z52 :: z53 :: z54 :: z55 :: z56 :: z57 :: z58 :: z59 :: z60 :: z61 :: z62 :: z63 :: z64 :: z65 :: z66 :: z67 :: z68 :: z69 :: z70 :: z71 :: z72 :: z73 :: z74 :: z75 :: z76 :: z77 :: z78 :: z79 :: z80 :: z81 :: z82 :: z83 :: z84 :: z85 :: z86 :: z87 :: z88 :: z89 :: z90 :: z91 :: z92 :: z93 :: z94 :: z95 :: z96 :: z97 :: z98 :: z99 :: z100 :: z101 :: z102 :: z103 :: z104 :: z105 :: z106 :: z107 :: z108 :: z109 :: z110 :: z111 :: z112 :: z113 :: z114 :: z115 :: z116 :: z117 :: z118 :: z119 :: z120 :: z121 :: z122 :: z123 :: z124 :: z125 :: z126 :: z127 :: z128 :: z129 :: z130 :: z131 :: z132 :: z133 :: z134 :: z135 :: z136 :: z137 :: z138 :: z139 :: z140 :: z141 :: z142 :: z143 :: z144 :: z145 :: z146 :: z147 :: z148 :: z149 :: z150 :: z151 :: z152 :: z153 :: z154 :: z155 :: z156 :: z157 :: z158 :: z159 :: z160 :: z161 :: z162 :: z163 :: z164 :: z165 :: z166 :: z167 :: z168 :: z169 :: z170 :: z171 :: z172 :: z173 :: z174 :: z175 :: z176 :: z177 :: z178 :: z179 :: z180 :: z181 :: z182 :: z183 :: z184 :: z185 :: z186 :: z187 :: z188 :: z189 :: z190 :: z191 :: z192 :: z193 :: z194 :: z195 :: z196 :: z197 :: z198 :: z199 :: z200 :: z201 :: z202 :: z203 :: z204 :: z205 :: z206 :: z207 :: z208 :: z209 :: z210 :: z211 :: z212 :: z213 :: z214 :: z215 :: z216 :: z217 :: z218 :: z219 :: z220 :: z221 :: z222 :: z223 :: z224 :: z225 :: z226 :: z227 :: z228 :: z229 :: z230 :: z231 :: z232 :: z233 :: z234 :: z235 :: z236 :: z237 :: z238 :: z239 :: z240 :: z241 :: z242 :: z243 :: z244 :: z245 :: z246 :: z247 :: z248 :: z249 :: z250 :: z251 :: z252 :: z253 :: z254 :: z255 :: z256 :: z257 :: z258 :: z259 :: z260 :: z261 :: z262 :: z263 :: z264 :: z265 :: z266 :: z267 :: z268 :: z269 :: z270 :: z271 :: z272 :: z273 :: z274 :: z275 :: z276 :: z277 :: z278 :: z279 :: z280 :: z281 :: z282 :: z283 :: z284 :: z285 :: z286 :: z287 :: z288 :: z289 :: z290 :: z291 :: z292 :: z293 :: z294 :: z295 :: z296 :: z297 :: z298 :: z299 :: z300 :: z301 :: z302 :: z303 :: z304 :: z305 :: z306 :: z307 :: z308 :: z309 :: z310 :: z311 :: z312 :: z313 :: z314 :: z315 :: z316 :: z317 :: z318 :: z319 :: z320 :: z321 :: z322 :: z323 :: z324 :: z325 :: z326 :: z327 :: z328 :: z329 :: z330 :: z331 :: z332 :: z333 :: z334 :: u335 :: u336 :: u337 :: u338 :: u339 :: u340 :: u341 :: u342 :: u343 :: u344 :: u345 :: u346 :: u347 :: u348 :: u349 :: u350 :: u351 :: z352 :: z353 :: z354 :: z355 :: z356 :: z357 :: z358 :: z359 :: z360 :: z361 :: z362 :: z363 :: z364 :: z365 :: z366 :: z367 :: []), []⟩ w') :
    Code.wp Tryd.prog (.loop B) Q ⟨List.toArray (z0 :: z1 :: z2 :: z3 :: z4 :: z5 :: z6 :: z7 :: z8 :: z9 :: z10 :: z11 :: z12 :: z13 :: z14 :: z15 :: z16 :: z17 :: z18 :: z19 :: z20 :: z21 :: z22 :: .slice a5 D c5 :: z24 :: z25 :: z26 :: z27 :: z28 :: z29 :: z30 :: z31 :: z32 :: z33 :: z34 :: z35 :: z36 :: z37 :: .int .i64 5 :: .slice none 0 0 :: .int .i64 0 :: z41 :: z42 :: z43 :: z44 :: z45 :: z46 :: z47 :: z48 :: z49 :: z50 :: z51 :: z52 :: z53 :: z54 :: z55 :: z56 :: z57 :: z58 :: z59 :: z60 :: z61 :: z62 :: z63 :: z64 :: z65 :: z66 :: z67 :: z68 :: z69 :: z70 :: z71 :: z72 :: z73 :: z74 :: z75 :: z76 :: z77 :: z78 :: z79 :: z80 :: z81 :: z82 :: z83 :: z84 :: z85 :: z86 :: z87 :: z88 :: z89 :: z90 :: z91 :: z92 :: z93 :: z94 :: z95 :: z96 :: z97 :: z98 :: z99 :: z100 :: z101 :: z102 :: z103 :: z104 :: z105 :: z106 :: z107 :: z108 :: z109 :: z110 :: z111 :: z112 :: z113 :: z114 :: z115 :: z116 :: z117 :: z118 :: z119 :: z120 :: z121 :: z122 :: z123 :: z124 :: z125 :: z126 :: z127 :: z128 :: z129 :: z130 :: z131 :: z132 :: z133 :: z134 :: z135 :: z136 :: z137 :: z138 :: z139 :: z140 :: z141 :: z142 :: z143 :: z144 :: z145 :: z146 :: z147 :: z148 :: z149 :: z150 :: z151 :: z152 :: z153 :: z154 :: z155 :: z156 :: z157 :: z158 :: z159 :: z160 :: z161 :: z162 :: z163 :: z164 :: z165 :: z166 :: z167 :: z168 :: z169 :: z170 :: z171 :: z172 :: z173 :: z174 :: z175 :: z176 :: z177 :: z178 :: z179 :: z180 :: z181 :: z182 :: z183 :: z184 :: z185 :: z186 :: z187 :: z188 :: z189 :: z190 :: z191 :: z192 :: z193 :: z194 :: z195 :: z196 :: z197 :: z198 :: z199 :: z200 :: z201 :: z202 :: z203 :: z204 :: z205 :: z206 :: z207 :: z208 :: z209 :: z210 :: z211 :: z212 :: z213 :: z214 :: z215 :: z216 :: z217 :: z218 :: z219 :: z220 :: z221 :: z222 :: z223 :: z224 :: z225 :: z226 :: z227 :: z228 :: z229 :: z230 :: z231 :: z232 :: z233 :: z234 :: z235 :: z236 :: z237 :: z238 :: z239 :: z240 :: z241 :: z242 :: z243 :: z244 :: z245 :: z246 :: z247 :: z248 :: z249 :: z250 :: z251 :: z252 :: z253 :: z254 :: z255 :: z256 :: z257 :: z258 :: z259 :: z260 :: z261 :: z262 :: z263 :: z264 :: z265 :: z266 :: z267 :: z268 :: z269 :: z270 :: z271 :: z272 :: z273 :: z274 :: z275 :: z276 :: z277 :: z278 :: z279 :: z280 :: z281 :: z282 :: z283 :: z284 :: z285 :: z286 :: z287 :: z288 :: z289 :: z290 :: z291 :: z292 :: z293 :: z294 :: z295 :: z296 :: z297 :: z298 :: z299 :: z300 :: z301 :: z302 :: z303 :: z304 :: z305 :: z306 :: z307 :: z308 :: z309 :: z310 :: z311 :: z312 :: z313 :: z314 :: z315 :: z316 :: z317 :: z318 :: z319 :: z320 :: z321 :: z322 :: z323 :: z324 :: z325 :: z326 :: z327 :: z328 :: z329 :: z330 :: z331 :: z332 :: z333 :: z334 :: z335 :: z336 :: z337 :: z338 :: z339 :: z340 :: z341 :: z342 :: z343 :: z344 :: z345 :: z346 :: z347 :: z348 :: z349 :: z350 :: z351 :: z352 :: z353 :: z354 :: z355 :: z356 :: z357 :: z358 :: z359 :: z360 :: z361 :: z362 :: z363 :: z364 :: z365 :: z366 :: z367 :: []), []⟩ w := by
  unfold IsInner at hB
  conv at hB => lhs; whnf
  conv at hB => lhs; arg 1; whnf
  obtain rfl := Option.some.inj hB
  clear hB
  have HX := hid hexit
  have HL := hid hlb
  have HBX := hid hbox
  have HDD := hid hD
  clear hexit hlb hbox hD
  go_loopw [38, 39, 40] (fun x u y wq => ∃ i : Nat, i ≤ D ∧ y = .int .i64 i ∧ x = .int .i64 (Um.errK i) ∧ Ls wq.heap.size wq u (Um.hullK dl i) ∧ Below w.heap.size w wq) (fun _ _ y _ => D - (intOf y).toNat)
  case atStart => exact ⟨0, Nat.zero_le _, rfl, rfl, Ls.nil _ _, Below.refl _ _⟩
  case round =>
    obtain ⟨i, hi, rfl, rfl, hu, hW⟩ := hrel
    by_cases hil : i < D
    · have hii : (i : Int) < (D : Int) := by omega
      have hne : dl ≠ [] := fun e => by have := HDD.out; rw [e] at this; simp at this; omega
      obtain ⟨b6, o6, c6, e6, -, m6, n6⟩ := HL.out.open hne
      obtain ⟨rfl, -, rfl⟩ : a5 = some ⟨b6, o6, none⟩ ∧ D = dl.length ∧ c5 = c6 := by injection e6 with e1 e2 e3; exact ⟨e1, e2, e3⟩
      obtain ⟨x6, p6, l6⟩ := n6 i (by rw [← HDD.out]; exact hil)
      have y6 := (hW.cell (p := ⟨b6, o6 + i, none⟩) m6).trans p6
      replace l6 := (l6.keep hW).wide hW.size
      obtain ⟨a1, c1, e1, -⟩ := (id l6)
      obtain ⟨n1, hn1⟩ : ∃ n1, n1 = (dl[i]?.getD []).length := ⟨_, rfl⟩
      rw [← hn1] at e1
      subst e1
      clear n6 p6 e6 hn1
      cases i with
      | zero =>
        have y7 : wr.cell? ⟨b6, o6, none⟩ = some (.slice a1 n1 c1) := y6
        have HE : Hid (Ls wr.heap.size wr (.slice a1 n1 c1) (Um.hullK dl 1)) := hid l6
        clear y6 l6 hu
        go_wp2
        exact ⟨⟨1, hil, by simp, rfl, HE.out, hW⟩, by simp [intOf]; omega⟩
      | succ i =>
        have k0 : (((i + 1 : Nat) : Int) == 0) = false := beq_false_of_ne (by omega)
        have k1 : (((i : Int) + 1) == 0) = false := beq_false_of_ne (by omega)
        have HHU := hid (rHullBox_any (Um.hullTo dl i) (dl[i + 1]?.getD []) _ _ wr hu l6 (Um.hullTo_two HBX.out (by rw [← HDD.out]; exact hil)))
        have HNX : Hid (Um.hullK dl (i + 1 + 1) = Um.hullN (Um.hullTo dl i) (dl[i + 1]?.getD []) (Um.hullTo dl i).length) := hid rfl
        obtain ⟨a2, c2, e2, -⟩ := (id hu)
        obtain ⟨n2, hn2⟩ : ∃ n2, n2 = (Um.hullK dl (i + 1)).length := ⟨_, rfl⟩
        rw [← hn2] at e2
        subst e2
        clear hn2 hu l6
        rw [← HNX.out] at HHU
        obtain ⟨I, hI⟩ : ∃ I, I = i + 1 := ⟨_, rfl⟩
        rw [← hI] at k0 hil hii hi y6 ⊢
        have HI := hid hI
        rw [show Um.hullK dl (i + 1 + 1) = Um.hullK dl (I + 1) by rw [hI]] at HHU
        have HE1 : Hid (Um.errK I = 0) := hid (by rw [hI]; rfl)
        clear hI k1 HNX
        go_wp2_with fail
        refine HHU.out.mono ?_
        rintro e w2 ⟨r, rfl, hr, hb⟩
        replace hW := hW.trans (hb.mono hW.size)
        clear HHU hb y6
        go_wp2
        exact ⟨⟨I + 1, hil, by simp, by rw [HE1.out]; rfl, hr, hW⟩, by simp [intOf]; omega⟩
    · obtain rfl : i = D := by omega
      obtain ⟨a9, c9, e9, -⟩ := (id hu)
      obtain ⟨n9, hn9⟩ : ∃ n9, n9 = (Um.hullK dl i).length := ⟨_, rfl⟩
      rw [← hn9] at e9
      subst e9
      have HU := hid hu
      clear hu hn9 hi
      go_wp2
      exact HX.out _ _ _ _ _ _ _ _ _ _ _ _ _ _ _ _ _ _ _ _ _ _ HU.out hW
end Go.Proofs.YthgehlonjoafmaaDoor.LgKeeps
