/-
  The loops of the document's answer to a line (spanref2.Line): Newton's steps, spans put together.
-/
import Derived.Test.YtkfalmdckmlneaaGreatDoorRefLineT
import Derived.Test.YtkfalmdckmlneaaGreatDoorTexts
import Derived.Test.YtkfalmdckmlneaaGreatDoorRefNewton
namespace Go.Proofs.YtkfalmdckmlneaaGreatDoor.Lin
set_option linter.unusedSimpArgs false
open Go.RowKit


set_option maxRecDepth 100000 in
set_option maxHeartbeats 16000000 in
theorem newton_loop {Q : Exit → Act → World → Prop} {B : Code} (hB : IsLoopOf Tryz.f8.body 0 B) {z0 z1 z2 z3 z4 z5 z6 z7 z8 z9 z10 z11 z12 z13 z15 z17 z18 z19 z20 z21 z23 z24 z25 z26 z27 z28 z29 z30 z31 z32 z33 z34 z35 z36 z37 z38 z39 z40 z41 z42 z43 z44 z45 z46 z47 z48 z49 z50 z51 z52 z53 z54 z55 z56 z57 z58 z59 z60 z61 z62 z63 z64 z65 z66 z67 z68 z69 z70 z71 z72 z73 z74 z75 z76 z77 z78 z79 z80 z81 z82 z83 z84 z85 z86 z87 z88 z89 z90 z91 z92 z93 z94 z95 z96 z97 z98 z99 z100 z101 z102 z103 z104 z105 z106 z107 z108 z109 z110 z111 z112 z113 z114 z115 z116 z117 z118 z119 z120 z121 z122 z123 z124 z125 z126 z127 z128 z129 z130 z131 z132 z133 z134 z135 z136 z137 z138 z139 z140 z141 z142 z143 z144 z145 z146 z147 z148 z149 z150 z151 z152 z153 z154 z155 z156 z157 z158 z159 z160 z161 z162 z163 z164 z165 z166 z167 z168 z169 z170 z171 z172 z173 z174 z175 z176 z177 z178 z179 z180 z181 z182 z183 z184 z185 z186 z187 z188 z189 z190 z191 z192 z193 z194 z195 z196 z197 z198 z199 z200 z201 z202 z203 z204 z205 z206 z207 z208 z209 z210 z211 z212 z213 z214 z215 z216 z217 z218 z219 z220 z221 z222 z223 z224 z225 z226 z227 z228 z229 z230 z231 z232 z233 z234 z235 z236 z237 z238 z239 z240 z241 z242 z243 z244 z245 z246 z247 z248 z249 z250 z251 z252 z253 z254 z255 z256 z257 z258 z259 z260 z261 z262 z263 z264 z265 z266 z267 z268 z269 z270 z271 z272 z273 z274 z275 z276 z277 z278 z279 z280 z281 z282 z283 z284 z285 z286 z287 z288 z289 z290 z291 z292 z293 z294 z295 z296 z297 z298 z299 z300 z301 z302 z303 z304 z305 z306 z307 z308 z309 z310 z311 z312 z313 z314 z315 z316 z317 z318 z319 z320 z321 z322 z323 z324 : Value} (n5 c5 X : Nat) (a5 : Option Addr) (p : List Int) (lo hi : Int) (w0 wr0 : World)
    (hl : Li w0.heap.size w0 (.slice a5 n5 c5) p) (ho : Um.over p lo hi = 0) (hF0 : Fr w0 wr0 [(X, lo, hi)])
    (hrt : ∀ (u22 u23 u24 u273 u274 u275 u276 u277 u278 u279 u280 u281 u282 u283 u284 u285 u286 u287 : Value) (wq : World), Below w0.heap.size w0 wq → Q .ret ⟨List.toArray (z0 :: z1 :: strV (Um.toldR (Um.stR lo hi p 20)) :: z3 :: z4 :: z5 :: z6 :: z7 :: z8 :: z9 :: z10 :: z11 :: z12 :: z13 :: .slice a5 n5 c5 :: z15 :: .pointer (some ⟨X, 0, none⟩) :: z17 :: z18 :: z19 :: z20 :: z21 :: u22 :: u23 :: u24 :: z25 :: z26 :: z27 :: z28 :: z29 :: z30 :: z31 :: z32 :: z33 :: z34 :: z35 :: z36 :: z37 :: z38 :: z39 :: z40 :: z41 :: z42 :: z43 :: z44 :: z45 :: z46 :: z47 :: z48 :: z49 :: z50 :: z51 :: z52 :: z53 :: z54 :: z55 :: z56 :: z57 :: z58 :: z59 :: z60 :: z61 :: z62 :: z63 :: z64 :: z65 :: z66 :: z67 :: z68 :: z69 :: z70 :: z71 :: z72 :: z73 :: z74 :: z75 :: z76 :: z77 :: z78 :: z79 :: z80 :: z81 :: z82 :: z83 :: z84 :: z85 :: z86 :: z87 :: z88 :: z89 :: z90 :: z91 :: z92 :: z93 :: z94 :: z95 :: z96 :: z97 :: z98 :: z99 :: z100 :: z101 :: z102 :: z103 :: z104 :: z105 :: z106 :: z107 :: z108 :: z109 :: z110 :: z111 :: z112 :: z113 :: z114 :: z115 :: z116 :: z117 :: z118 :: z119 :: z120 :: z121 :: z122 :: z123 :: z124 :: z125 :: z126 :: z127 :: z128 :: z129 :: z130 :: z131 :: z132 :: z133 :: z134 :: z135 :: z136 :: z137 :: z138 :: z139 :: z140 :: z141 :: z142 :: z143 :: z144 :: z145 :: z146 :: z147 :: z148 :: z149 :: z150 :: z151 :: z152 :: z153 :: z154 :: z155 :: z156 :: z157 :: z158 :: z159 :: z160 :: z161 :: z162 :: z163 :: z164 :: z165 :: z166 :: z167 :: z168 :: z169 :: z170 :: z171 :: z172 :: z173 :: z174 :: z175 :: z176 :: z177 :: z178 :: z179 :: z180 :: z181 :: z182 :: z183 :: z184 :: z185 :: z186 :: z187 :: z188 :: z189 :: z190 :: z191 :: z192 :: z193 :: z194 :: z195 :: z196 :: z197 :: z198 :: z199 :: z200 :: z201 :: z202 :: z203 :: z204 :: z205 :: z206 :: z207 :: z208 :: z209 :: z210 :: z211 :: z212 :: z213 :: z214 :: z215 :: z216 :: z217 :: z218 :: z219 :: z220 :: z221 :: z222 :: z223 :: z224 :: z225 :: z226 :: z227 :: z228 :: z229 :: z230 :: z231 :: z232 :: z233 :: z234 :: z235 :: z236 :: z237 :: z238 :: z239 :: z240 :: z241 :: z242 :: z243 :: z244 :: z245 :: z246 :: z247 :: z248 :: z249 :: z250 :: z251 :: z252 :: z253 :: z254 :: z255 :: z256 :: z257 :: z258 :: z259 :: z260 :: z261 :: z262 :: z263 :: z264 :: z265 :: z266 :: z267 :: z268 :: z269 :: z270 :: z271 :: z272 :: u273 :: u274 :: u275 :: u276 :: u277 :: u278 :: u279 :: u280 :: u281 :: u282 :: u283 :: u284 :: u285 :: u286 :: u287 :: z288 :: z289 :: z290 :: z291 :: z292 :: z293 :: z294 :: z295 :: z296 :: z297 :: z298 :: z299 :: z300 :: z301 :: z302 :: z303 :: z304 :: z305 :: z306 :: z307 :: z308 :: z309 :: z310 :: z311 :: z312 :: z313 :: z314 :: z315 :: z316 :: z317 :: z318 :: z319 :: z320 :: z321 :: z322 :: z323 :: z324 :: []), []⟩ wq)
    (hnx : ∀ (u2 u22 u23 u24 u273 u274 u275 u276 u277 u278 u279 u280 u281 u282 u283 u284 u285 u286 u287 : Value) (wq : World), (Um.stR lo hi p 20).2.2 = 0 → Fr w0 wq [(X, (Um.stR lo hi p 20).1, (Um.stR lo hi p 20).2.1)] → Q (.exit 1) ⟨List.toArray (z0 :: z1 :: u2 :: z3 :: z4 :: z5 :: z6 :: z7 :: z8 :: z9 :: z10 :: z11 :: z12 :: z13 :: .slice a5 n5 c5 :: z15 :: .pointer (some ⟨X, 0, none⟩) :: z17 :: z18 :: z19 :: z20 :: z21 :: u22 :: u23 :: u24 :: z25 :: z26 :: z27 :: z28 :: z29 :: z30 :: z31 :: z32 :: z33 :: z34 :: z35 :: z36 :: z37 :: z38 :: z39 :: z40 :: z41 :: z42 :: z43 :: z44 :: z45 :: z46 :: z47 :: z48 :: z49 :: z50 :: z51 :: z52 :: z53 :: z54 :: z55 :: z56 :: z57 :: z58 :: z59 :: z60 :: z61 :: z62 :: z63 :: z64 :: z65 :: z66 :: z67 :: z68 :: z69 :: z70 :: z71 :: z72 :: z73 :: z74 :: z75 :: z76 :: z77 :: z78 :: z79 :: z80 :: z81 :: z82 :: z83 :: z84 :: z85 :: z86 :: z87 :: z88 :: z89 :: z90 :: z91 :: z92 :: z93 :: z94 :: z95 :: z96 :: z97 :: z98 :: z99 :: z100 :: z101 :: z102 :: z103 :: z104 :: z105 :: z106 :: z107 :: z108 :: z109 :: z110 :: z111 :: z112 :: z113 :: z114 :: z115 :: z116 :: z117 :: z118 :: z119 :: z120 :: z121 :: z122 :: z123 :: z124 :: z125 :: z126 :: z127 :: z128 :: z129 :: z130 :: z131 :: z132 :: z133 :: z134 :: z135 :: z136 :: z137 :: z138 :: z139 :: z140 :: z141 :: z142 :: z143 :: z144 :: z145 :: z146 :: z147 :: z148 :: z149 :: z150 :: z151 :: z152 :: z153 :: z154 :: z155 :: z156 :: z157 :: z158 :: z159 :: z160 :: z161 :: z162 :: z163 :: z164 :: z165 :: z166 :: z167 :: z168 :: z169 :: z170 :: z171 :: z172 :: z173 :: z174 :: z175 :: z176 :: z177 :: z178 :: z179 :: z180 :: z181 :: z182 :: z183 :: z184 :: z185 :: z186 :: z187 :: z188 :: z189 :: z190 :: z191 :: z192 :: z193 :: z194 :: z195 :: z196 :: z197 :: z198 :: z199 :: z200 :: z201 :: z202 :: z203 :: z204 :: z205 :: z206 :: z207 :: z208 :: z209 :: z210 :: z211 :: z212 :: z213 :: z214 :: z215 :: z216 :: z217 :: z218 :: z219 :: z220 :: z221 :: z222 :: z223 :: z224 :: z225 :: z226 :: z227 :: z228 :: z229 :: z230 :: z231 :: z232 :: z233 :: z234 :: z235 :: z236 :: z237 :: z238 :: z239 :: z240 :: z241 :: z242 :: z243 :: z244 :: z245 :: z246 :: z247 :: z248 :: z249 :: z250 :: z251 :: z252 :: z253 :: z254 :: z255 :: z256 :: z257 :: z258 :: z259 :: z260 :: z261 :: z262 :: z263 :: z264 :: z265 :: z266 :: z267 :: z268 :: z269 :: z270 :: z271 :: z272 :: u273 :: u274 :: u275 :: u276 :: u277 :: u278 :: u279 :: u280 :: u281 :: u282 :: u283 :: u284 :: u285 :: u286 :: u287 :: z288 :: z289 :: z290 :: z291 :: z292 :: z293 :: z294 :: z295 :: z296 :: z297 :: z298 :: z299 :: z300 :: z301 :: z302 :: z303 :: z304 :: z305 :: z306 :: z307 :: z308 :: z309 :: z310 :: z311 :: z312 :: z313 :: z314 :: z315 :: z316 :: z317 :: z318 :: z319 :: z320 :: z321 :: z322 :: z323 :: z324 :: []), []⟩ wq) :
    Code.wp Tryz.prog (.loop B) Q ⟨List.toArray (z0 :: z1 :: z2 :: z3 :: z4 :: z5 :: z6 :: z7 :: z8 :: z9 :: z10 :: z11 :: z12 :: z13 :: .slice a5 n5 c5 :: z15 :: .pointer (some ⟨X, 0, none⟩) :: z17 :: z18 :: z19 :: z20 :: z21 :: .int .i64 0 :: z23 :: z24 :: z25 :: z26 :: z27 :: z28 :: z29 :: z30 :: z31 :: z32 :: z33 :: z34 :: z35 :: z36 :: z37 :: z38 :: z39 :: z40 :: z41 :: z42 :: z43 :: z44 :: z45 :: z46 :: z47 :: z48 :: z49 :: z50 :: z51 :: z52 :: z53 :: z54 :: z55 :: z56 :: z57 :: z58 :: z59 :: z60 :: z61 :: z62 :: z63 :: z64 :: z65 :: z66 :: z67 :: z68 :: z69 :: z70 :: z71 :: z72 :: z73 :: z74 :: z75 :: z76 :: z77 :: z78 :: z79 :: z80 :: z81 :: z82 :: z83 :: z84 :: z85 :: z86 :: z87 :: z88 :: z89 :: z90 :: z91 :: z92 :: z93 :: z94 :: z95 :: z96 :: z97 :: z98 :: z99 :: z100 :: z101 :: z102 :: z103 :: z104 :: z105 :: z106 :: z107 :: z108 :: z109 :: z110 :: z111 :: z112 :: z113 :: z114 :: z115 :: z116 :: z117 :: z118 :: z119 :: z120 :: z121 :: z122 :: z123 :: z124 :: z125 :: z126 :: z127 :: z128 :: z129 :: z130 :: z131 :: z132 :: z133 :: z134 :: z135 :: z136 :: z137 :: z138 :: z139 :: z140 :: z141 :: z142 :: z143 :: z144 :: z145 :: z146 :: z147 :: z148 :: z149 :: z150 :: z151 :: z152 :: z153 :: z154 :: z155 :: z156 :: z157 :: z158 :: z159 :: z160 :: z161 :: z162 :: z163 :: z164 :: z165 :: z166 :: z167 :: z168 :: z169 :: z170 :: z171 :: z172 :: z173 :: z174 :: z175 :: z176 :: z177 :: z178 :: z179 :: z180 :: z181 :: z182 :: z183 :: z184 :: z185 :: z186 :: z187 :: z188 :: z189 :: z190 :: z191 :: z192 :: z193 :: z194 :: z195 :: z196 :: z197 :: z198 :: z199 :: z200 :: z201 :: z202 :: z203 :: z204 :: z205 :: z206 :: z207 :: z208 :: z209 :: z210 :: z211 :: z212 :: z213 :: z214 :: z215 :: z216 :: z217 :: z218 :: z219 :: z220 :: z221 :: z222 :: z223 :: z224 :: z225 :: z226 :: z227 :: z228 :: z229 :: z230 :: z231 :: z232 :: z233 :: z234 :: z235 :: z236 :: z237 :: z238 :: z239 :: z240 :: z241 :: z242 :: z243 :: z244 :: z245 :: z246 :: z247 :: z248 :: z249 :: z250 :: z251 :: z252 :: z253 :: z254 :: z255 :: z256 :: z257 :: z258 :: z259 :: z260 :: z261 :: z262 :: z263 :: z264 :: z265 :: z266 :: z267 :: z268 :: z269 :: z270 :: z271 :: z272 :: z273 :: z274 :: z275 :: z276 :: z277 :: z278 :: z279 :: z280 :: z281 :: z282 :: z283 :: z284 :: z285 :: z286 :: z287 :: z288 :: z289 :: z290 :: z291 :: z292 :: z293 :: z294 :: z295 :: z296 :: z297 :: z298 :: z299 :: z300 :: z301 :: z302 :: z303 :: z304 :: z305 :: z306 :: z307 :: z308 :: z309 :: z310 :: z311 :: z312 :: z313 :: z314 :: z315 :: z316 :: z317 :: z318 :: z319 :: z320 :: z321 :: z322 :: z323 :: z324 :: []), []⟩ wr0 := by
  unfold IsLoopOf at hB
  conv at hB => lhs; whnf
  conv at hB => lhs; arg 1; whnf
  obtain rfl := Option.some.inj hB
  clear hB
  have Hrt := hid hrt
  clear hrt
  have Hnx := hid hnx
  clear hnx
  have HL := hid hl
  have HO := hid ho
  have HF0 := hid hF0
  have hmx : Tryz.prog.follows .mixedOrders = true := by kernel_rfl
  clear hl ho hF0
  go_loopw [22] (fun i wq => ∃ k : Nat, k ≤ 20 ∧ i = .int .i64 k ∧ Hid ((Um.stR lo hi p k).2.2 = 0) ∧ Fr w0 wq [(X, (Um.stR lo hi p k).1, (Um.stR lo hi p k).2.1)]) (fun i _ => 20 - (intOf i).toNat)
  case atStart => exact ⟨0, by omega, rfl, rfl, HF0.out⟩
  case round =>
    obtain ⟨k, hk, rfl, hz, hF⟩ := hrel
    clear HF0
    by_cases hkl : k < 20
    · have d1 : decide ((k : Int) < 20) = true := decide_eq_true (by omega)
      have d2 : decide (k < 20) = true := decide_eq_true hkl
      have HNW := hid (rNewton_any p (.slice a5 n5 c5) (Um.stR lo hi p k).1 (Um.stR lo hi p k).2.1 wr (hF.li HL.out) (Um.st_over HO.out hz.out))
      have HNX : Hid (Um.stR lo hi p (k + 1) = Um.newtR (Um.stR lo hi p k).1 (Um.stR lo hi p k).2.1 p) := hid (by rw [Um.st_succ, if_pos hz.out])
      have hfew := Um.newt_few (Um.stR lo hi p k).1 (Um.stR lo hi p k).2.1 p
      have HTD : Hid (¬ (Um.newtR (Um.stR lo hi p k).1 (Um.stR lo hi p k).2.1 p).2.2 = 0 → Um.toldR (Um.stR lo hi p 20) = Um.nameR (Um.newtR (Um.stR lo hi p k).1 (Um.stR lo hi p k).2.1 p).2.2) := hid (fun h => by
        have e := Um.st_stay (lo := lo) (hi := hi) (p := p) (k := k + 1) (by rw [HNX.out]; exact h) (20 - (k + 1))
        rw [show k + 1 + (20 - (k + 1)) = 20 by omega] at e
        rw [e, HNX.out]
        exact if_neg h)
      have x0l := (hF.at 0 rfl).lo
      have x0h := (hF.at 0 rfl).hi
      generalize Um.newtR (Um.stR lo hi p k).1 (Um.stR lo hi p k).2.1 p = R at *
      generalize Um.stR lo hi p k = V at *
      by_cases h0 : R.2.2 = 0
      · have k1 : (R.2.2 != 0) = false := by simpa using h0
        have HZ := hid h0
        clear HTD hz h0 hfew
        go_wp2_with fail
        refine HNW.out.mono ?_
        rintro e wa ⟨rfl, hb⟩
        replace hF := hF.step hb
        replace hF := hF.push R.1 R.2.1 rfl
        clear HNW hb x0l x0h
        have x0l := (hF.at 0 rfl).lo
        have x0h := (hF.at 0 rfl).hi
        have y1 := (hF.at 1 rfl).fl
        have y2 := (hF.at 1 rfl).fh
        have y3 := (hF.at 1 rfl).lo
        have y4 := (hF.at 1 rfl).hi
        have y6 := (hF.at 1 rfl).r0
        have y7 := (hF.at 1 rfl).r1
        go_wp2
        refine ⟨⟨k + 1, by omega, by simp, ?_, ?_⟩, by simp [intOf]; omega⟩
        · rw [HNX.out]; exact HZ
        · rw [HNX.out]
          exact (hF.put 1 rfl _ _ rfl).drop
      · have k1 : (R.2.2 != 0) = true := by simpa using h0
        have HR := hid (HTD.out h0)
        have HNM := fun W => hid (rName_any R.2.2 W hfew.1 hfew.2)
        clear HTD hz h0 hfew
        go_wp2_with fail
        refine HNW.out.mono ?_
        rintro e wa ⟨rfl, hb⟩
        replace hF := hF.step hb
        replace hF := hF.push R.1 R.2.1 rfl
        clear HNW hb x0l x0h
        go_wp2_with fail
        refine (HNM _).out.mono ?_
        rintro e wb ⟨rfl, hb⟩
        replace hF := hF.step hb
        rw [← HR.out]
        go_wp2
        exact Hrt.out _ _ _ _ _ _ _ _ _ _ _ _ _ _ _ _ _ _ _ hF.below
    · obtain rfl : k = 20 := by omega
      clear hk hkl
      have HZ := hid hz.out
      clear hz
      go_wp2
      exact Hnx.out _ _ _ _ _ _ _ _ _ _ _ _ _ _ _ _ _ _ _ _ HZ.out hF

set_option maxRecDepth 100000 in
set_option maxHeartbeats 16000000 in
theorem join_loop {Q : Exit → Act → World → Prop} {B : Code} (hB : IsLoopOf Tryz.f8.body 1 B) {z0 z1 z2 z3 z4 z5 z6 z7 z8 z9 z10 z11 z12 z13 z14 z15 z16 z17 z18 z19 z20 z21 z22 z23 z24 z28 z29 z30 z31 z32 z33 z34 z35 z36 z37 z38 z39 z40 z41 z42 z43 z44 z45 z46 z47 z48 z49 z50 z51 z52 z53 z54 z55 z56 z57 z58 z59 z60 z61 z62 z63 z64 z65 z66 z67 z68 z69 z70 z71 z72 z73 z74 z75 z76 z77 z78 z79 z80 z81 z82 z83 z84 z85 z86 z87 z88 z89 z90 z91 z92 z93 z94 z95 z96 z97 z98 z99 z100 z101 z102 z103 z104 z105 z106 z107 z108 z109 z110 z111 z112 z113 z114 z115 z116 z117 z118 z119 z120 z121 z122 z123 z124 z125 z126 z127 z128 z129 z130 z131 z132 z133 z134 z135 z136 z137 z138 z139 z140 z141 z142 z143 z144 z145 z146 z147 z148 z149 z150 z151 z152 z153 z154 z155 z156 z157 z158 z159 z160 z161 z162 z163 z164 z165 z166 z167 z168 z169 z170 z171 z172 z173 z174 z175 z176 z177 z178 z179 z180 z181 z182 z183 z184 z185 z186 z187 z188 z189 z190 z191 z192 z193 z194 z195 z196 z197 z198 z199 z200 z201 z202 z203 z204 z205 z206 z207 z208 z209 z210 z211 z212 z213 z214 z215 z216 z217 z218 z219 z220 z221 z222 z223 z224 z225 z226 z227 z228 z229 z230 z231 z232 z233 z234 z235 z236 z237 z238 z239 z240 z241 z242 z243 z244 z245 z246 z247 z248 z249 z250 z251 z252 z253 z254 z255 z256 z257 z258 z259 z260 z261 z262 z263 z264 z265 z266 z267 z268 z269 z270 z271 z272 z273 z274 z275 z276 z277 z278 z279 z280 z281 z282 z283 z284 z285 z286 z287 z288 z289 z290 z291 z292 z293 z294 z295 z296 z297 z298 z299 z300 z301 z302 z303 z304 z305 z306 z307 z308 z309 z310 z311 z312 z313 z314 z315 z316 z317 z318 z319 z320 z321 z322 z323 z324 : Value} (n5 c5 : Nat) (a5 : Option Addr) (l : List (Int × Int)) (wr0 : World)
    (hl : Ls wr0.heap.size wr0 (.slice a5 n5 c5) l) (hn : n5 = l.length) (h32 : l.length ≤ 32) (hm : ∀ i, i < l.length → Um.may (l[i]?.getD (0, 0)).1 = true ∧ Um.may (l[i]?.getD (0, 0)).2 = true)
    (hnx : ∀ (u27 u28 u304 u305 u306 u307 u308 u309 u310 u311 u312 u313 u314 u315 u316 u317 u318 u319 u320 u321 : Value) (wq : World), Below wr0.heap.size wr0 wq → Q (.exit 3) ⟨List.toArray (z0 :: z1 :: z2 :: z3 :: z4 :: z5 :: z6 :: z7 :: z8 :: z9 :: z10 :: z11 :: z12 :: z13 :: z14 :: z15 :: z16 :: z17 :: z18 :: z19 :: z20 :: z21 :: z22 :: z23 :: z24 :: .slice a5 n5 c5 :: strV (Um.joinTo l l.length) :: u27 :: u28 :: z29 :: z30 :: z31 :: z32 :: z33 :: z34 :: z35 :: z36 :: z37 :: z38 :: z39 :: z40 :: z41 :: z42 :: z43 :: z44 :: z45 :: z46 :: z47 :: z48 :: z49 :: z50 :: z51 :: z52 :: z53 :: z54 :: z55 :: z56 :: z57 :: z58 :: z59 :: z60 :: z61 :: z62 :: z63 :: z64 :: z65 :: z66 :: z67 :: z68 :: z69 :: z70 :: z71 :: z72 :: z73 :: z74 :: z75 :: z76 :: z77 :: z78 :: z79 :: z80 :: z81 :: z82 :: z83 :: z84 :: z85 :: z86 :: z87 :: z88 :: z89 :: z90 :: z91 :: z92 :: z93 :: z94 :: z95 :: z96 :: z97 :: z98 :: z99 :: z100 :: z101 :: z102 :: z103 :: z104 :: z105 :: z106 :: z107 :: z108 :: z109 :: z110 :: z111 :: z112 :: z113 :: z114 :: z115 :: z116 :: z117 :: z118 :: z119 :: z120 :: z121 :: z122 :: z123 :: z124 :: z125 :: z126 :: z127 :: z128 :: z129 :: z130 :: z131 :: z132 :: z133 :: z134 :: z135 :: z136 :: z137 :: z138 :: z139 :: z140 :: z141 :: z142 :: z143 :: z144 :: z145 :: z146 :: z147 :: z148 :: z149 :: z150 :: z151 :: z152 :: z153 :: z154 :: z155 :: z156 :: z157 :: z158 :: z159 :: z160 :: z161 :: z162 :: z163 :: z164 :: z165 :: z166 :: z167 :: z168 :: z169 :: z170 :: z171 :: z172 :: z173 :: z174 :: z175 :: z176 :: z177 :: z178 :: z179 :: z180 :: z181 :: z182 :: z183 :: z184 :: z185 :: z186 :: z187 :: z188 :: z189 :: z190 :: z191 :: z192 :: z193 :: z194 :: z195 :: z196 :: z197 :: z198 :: z199 :: z200 :: z201 :: z202 :: z203 :: z204 :: z205 :: z206 :: z207 :: z208 :: z209 :: z210 :: z211 :: z212 :: z213 :: z214 :: z215 :: z216 :: z217 :: z218 :: z219 :: z220 :: z221 :: z222 :: z223 :: z224 :: z225 :: z226 :: z227 :: z228 :: z229 :: z230 :: z231 :: z232 :: z233 :: z234 :: z235 :: z236 :: z237 :: z238 :: z239 :: z240 :: z241 :: z242 :: z243 :: z244 :: z245 :: z246 :: z247 :: z248 :: z249 :: z250 :: z251 :: z252 :: z253 :: z254 :: z255 :: z256 :: z257 :: z258 :: z259 :: z260 :: z261 :: z262 :: z263 :: z264 :: z265 :: z266 :: z267 :: z268 :: z269 :: z270 :: z271 :: z272 :: z273 :: z274 :: z275 :: z276 :: z277 :: z278 :: z279 :: z280 :: z281 :: z282 :: z283 :: z284 :: z285 :: z286 :: z287 :: z288 :: z289 :: z290 :: z291 :: z292 :: z293 :: z294 :: z295 :: z296 :: z297 :: z298 :: z299 :: z300 :: z301 :: z302 :: z303 :: u304 :: u305 :: u306 :: u307 :: u308 :: u309 :: u310 :: u311 :: u312 :: u313 :: u314 :: u315 :: u316 :: u317 :: u318 :: u319 :: u320 :: u321 :: z322 :: z323 :: z324 :: []), []⟩ wq) :
    Code.wp Tryz.prog (.loop B) Q ⟨List.toArray (z0 :: z1 :: z2 :: z3 :: z4 :: z5 :: z6 :: z7 :: z8 :: z9 :: z10 :: z11 :: z12 :: z13 :: z14 :: z15 :: z16 :: z17 :: z18 :: z19 :: z20 :: z21 :: z22 :: z23 :: z24 :: .slice a5 n5 c5 :: .string ⟨#[]⟩ :: .int .i64 0 :: z28 :: z29 :: z30 :: z31 :: z32 :: z33 :: z34 :: z35 :: z36 :: z37 :: z38 :: z39 :: z40 :: z41 :: z42 :: z43 :: z44 :: z45 :: z46 :: z47 :: z48 :: z49 :: z50 :: z51 :: z52 :: z53 :: z54 :: z55 :: z56 :: z57 :: z58 :: z59 :: z60 :: z61 :: z62 :: z63 :: z64 :: z65 :: z66 :: z67 :: z68 :: z69 :: z70 :: z71 :: z72 :: z73 :: z74 :: z75 :: z76 :: z77 :: z78 :: z79 :: z80 :: z81 :: z82 :: z83 :: z84 :: z85 :: z86 :: z87 :: z88 :: z89 :: z90 :: z91 :: z92 :: z93 :: z94 :: z95 :: z96 :: z97 :: z98 :: z99 :: z100 :: z101 :: z102 :: z103 :: z104 :: z105 :: z106 :: z107 :: z108 :: z109 :: z110 :: z111 :: z112 :: z113 :: z114 :: z115 :: z116 :: z117 :: z118 :: z119 :: z120 :: z121 :: z122 :: z123 :: z124 :: z125 :: z126 :: z127 :: z128 :: z129 :: z130 :: z131 :: z132 :: z133 :: z134 :: z135 :: z136 :: z137 :: z138 :: z139 :: z140 :: z141 :: z142 :: z143 :: z144 :: z145 :: z146 :: z147 :: z148 :: z149 :: z150 :: z151 :: z152 :: z153 :: z154 :: z155 :: z156 :: z157 :: z158 :: z159 :: z160 :: z161 :: z162 :: z163 :: z164 :: z165 :: z166 :: z167 :: z168 :: z169 :: z170 :: z171 :: z172 :: z173 :: z174 :: z175 :: z176 :: z177 :: z178 :: z179 :: z180 :: z181 :: z182 :: z183 :: z184 :: z185 :: z186 :: z187 :: z188 :: z189 :: z190 :: z191 :: z192 :: z193 :: z194 :: z195 :: z196 :: z197 :: z198 :: z199 :: z200 :: z201 :: z202 :: z203 :: z204 :: z205 :: z206 :: z207 :: z208 :: z209 :: z210 :: z211 :: z212 :: z213 :: z214 :: z215 :: z216 :: z217 :: z218 :: z219 :: z220 :: z221 :: z222 :: z223 :: z224 :: z225 :: z226 :: z227 :: z228 :: z229 :: z230 :: z231 :: z232 :: z233 :: z234 :: z235 :: z236 :: z237 :: z238 :: z239 :: z240 :: z241 :: z242 :: z243 :: z244 :: z245 :: z246 :: z247 :: z248 :: z249 :: z250 :: z251 :: z252 :: z253 :: z254 :: z255 :: z256 :: z257 :: z258 :: z259 :: z260 :: z261 :: z262 :: z263 :: z264 :: z265 :: z266 :: z267 :: z268 :: z269 :: z270 :: z271 :: z272 :: z273 :: z274 :: z275 :: z276 :: z277 :: z278 :: z279 :: z280 :: z281 :: z282 :: z283 :: z284 :: z285 :: z286 :: z287 :: z288 :: z289 :: z290 :: z291 :: z292 :: z293 :: z294 :: z295 :: z296 :: z297 :: z298 :: z299 :: z300 :: z301 :: z302 :: z303 :: z304 :: z305 :: z306 :: z307 :: z308 :: z309 :: z310 :: z311 :: z312 :: z313 :: z314 :: z315 :: z316 :: z317 :: z318 :: z319 :: z320 :: z321 :: z322 :: z323 :: z324 :: []), []⟩ wr0 := by
  unfold IsLoopOf at hB
  conv at hB => lhs; whnf
  conv at hB => lhs; arg 1; whnf
  obtain rfl := Option.some.inj hB
  clear hB
  have Hnx := hid hnx
  clear hnx
  have HL := hid hl
  have HN := hid hn
  have HM := hid hm
  have hn32 : n5 ≤ 32 := by omega
  clear hl hn hm
  go_loopw [26, 27] (fun t i wq => ∃ k : Nat, k ≤ n5 ∧ i = .int .i64 k ∧ t = strV (Um.joinTo l k) ∧ Below wr0.heap.size wr0 wq) (fun _ i _ => n5 - (intOf i).toNat)
  case atStart => exact ⟨0, Nat.zero_le _, rfl, rfl, Below.refl _ _⟩
  case round =>
    obtain ⟨k, hk, rfl, rfl, hB⟩ := hrel
    have hjl := Um.join_length k (fun i hi => HM.out i (by rw [← HN.out]; omega))
    by_cases hkl : k < n5
    · have hkk : (k : Int) < (n5 : Int) := by omega
      have hk2 : k < l.length := by rw [← HN.out]; exact hkl
      obtain ⟨b, off, cap, er, -, hlt, hcs⟩ := HL.out.out (fun e => by rw [e] at hk2; exact absurd hk2 (Nat.not_lt_zero _))
      obtain ⟨rfl, -, rfl⟩ : a5 = some ⟨b, off, none⟩ ∧ n5 = l.length ∧ c5 = cap := by injection er with e1 e2 e3; exact ⟨e1, e2, e3⟩
      obtain ⟨q1, q2⟩ := hcs k hk2
      have y1 := (hB.cell (p := ⟨b, off + k * 2, none⟩) hlt).trans q1
      have y2 := (hB.cell (p := ⟨b, off + k * 2 + 1, none⟩) hlt).trans q2
      have hmm := HM.out k hk2
      have HTX := fun W => hid (rTxt_any (l[k]?.getD (0, 0)).1 (l[k]?.getD (0, 0)).2 W hmm.1 hmm.2)
      have htl := Um.text_length hmm.1 hmm.2
      have HJ : Hid (Um.joinTo l (k + 1) = Um.joinTo l k ++ (if 0 < k then [32] else []) ++ Um.textR (l[k]?.getD (0, 0))) := hid rfl
      clear hcs q1 q2 er hmm hk2
      generalize l[k]?.getD (0, 0) = S at *
      rw [show ((S.1, S.2) : Int × Int) = S from rfl] at HTX
      generalize Um.textR S = T at *
      generalize Um.joinTo l k = J at *
      have s1 : (⟨J.toArray⟩ : ByteArray).size = J.length := str_size J
      have s2 : (⟨T.toArray⟩ : ByteArray).size = T.length := str_size T
      by_cases h0 : 0 < k
      · have d1 : decide ((0 : Int) < (k : Int)) = true := decide_eq_true (by omega)
        have d2 : decide (0 < k) = true := decide_eq_true h0
        have s3 : ((⟨J.toArray⟩ : ByteArray) ++ ⟨#[32]⟩).size = J.length + 1 := by rw [show (⟨#[32]⟩ : ByteArray) = ⟨([32] : List UInt8).toArray⟩ from rfl, str_join, str_size, List.length_append]; rfl
        have HE : Hid (strV (Um.joinTo l (k + 1)) = .string ((⟨J.toArray⟩ : ByteArray) ++ ⟨#[32]⟩ ++ ⟨T.toArray⟩)) := hid (by
          rw [HJ.out, if_pos h0, show (⟨#[32]⟩ : ByteArray) = ⟨([32] : List UInt8).toArray⟩ from rfl, str_join, str_join])
        clear HJ h0
        go_wp2_with fail
        refine (HTX _).out.mono ?_
        rintro e wa ⟨rfl, hb⟩
        replace hB := hB.trans (hb.mono hB.size)
        clear hb HTX y1 y2
        go_wp2
        exact ⟨⟨k + 1, hkl, by simp, HE.out.symm, hB⟩, by simp [intOf]; omega⟩
      · have d1 : decide ((0 : Int) < (k : Int)) = false := decide_eq_false (by omega)
        have d2 : decide (0 < k) = false := decide_eq_false h0
        have HE : Hid (strV (Um.joinTo l (k + 1)) = .string ((⟨J.toArray⟩ : ByteArray) ++ ⟨T.toArray⟩)) := hid (by
          rw [HJ.out, if_neg h0, List.append_nil, str_join])
        clear HJ h0
        go_wp2_with fail
        refine (HTX _).out.mono ?_
        rintro e wa ⟨rfl, hb⟩
        replace hB := hB.trans (hb.mono hB.size)
        clear hb HTX y1 y2
        go_wp2
        exact ⟨⟨k + 1, hkl, by simp, HE.out.symm, hB⟩, by simp [intOf]; omega⟩
    · obtain rfl : k = n5 := by omega
      have HE : Hid (Um.joinTo l k = Um.joinTo l l.length) := hid (by rw [HN.out])
      rw [HE.out]
      clear hk hkl
      generalize Um.joinTo l l.length = J at *
      go_wp2
      exact Hnx.out _ _ _ _ _ _ _ _ _ _ _ _ _ _ _ _ _ _ _ _ _ hB
end Go.Proofs.YtkfalmdckmlneaaGreatDoor.Lin
