/-
  The walk over 'spanlaw3.LogKeeps': for all sides, l, syncs, fails, keeps it returns true.
-/
import Derived.Test.YthgehlonjoafmaaDoorLgKo
import Derived.Test.YthgehlonjoafmaaDoorLgKv
namespace Go.Proofs.YthgehlonjoafmaaDoor.LgKeeps
set_option linter.unusedSimpArgs false
open Go.RowKit

theorem ls_one {w : World} {c cap : Nat} {lo hi : Int} (h : Sp w c lo hi) (hc : 1 ≤ cap) : Ls w.heap.size w (.slice (some ⟨c, 0, none⟩) 1 cap) [(lo, hi)] := by
  refine ⟨_, cap, rfl, hc, .inr ⟨c, 0, rfl, h.lt, fun j hj => ?_⟩⟩
  obtain rfl : j = 0 := by simpa using hj
  exact ⟨h.lo, h.hi⟩
theorem Kz.new {w wn : World} {p n : Nat} (hL : Lg w.heap.size wn p none (Um.newS n)) (hB : Below w.heap.size w wn) : Kz w (wn.alloc (.cells #[.int .i64 0] 3)) p n (.slice none 0 0) (.slice (some ⟨wn.heap.size, 0, none⟩) 1 1) (Um.newS n) := by
  refine ⟨?_, rfl⟩
  show Ky _ _ _ _ _ [] (Um.marksN (1 + 8 * n) 0) _
  rw [show Um.marksN (1 + 8 * n) 0 = [0] by simp [Um.marksN]]
  exact Ky.new hL hB
set_option maxRecDepth 100000 in
set_option maxHeartbeats 64000000 in
theorem walk (a0 : Int) (l : List (List (Int × Int))) (v1 : Value) (sy : List Int) (v2 : Value) (fl : List Int) (v3 : Value) (kl : List Int) (v4 : Value) (w : World) (hg : HasErr w) (h1 : Lb w.heap.size w v1 l) (h2 : Li w.heap.size w v2 sy) (h3 : Li w.heap.size w v3 fl) (h4 : Li w.heap.size w v4 kl) (hbd : ∀ x ∈ fl, x ≤ 9223372036854775807) :
    Calls Tryd.prog 5 #[.int .i64 a0, v1, v2, v3, v4] w fun e w' => e = .returned (.bool true) ∧ Below w.heap.size w w' := by
  have ve := errV_none
  have q1 := errG
  have q2 := errGn
  have q3 := errE
  have q4 := errN
  obtain ⟨a1, c1, rfl, -⟩ := (id h1)
  obtain ⟨a2, c2, rfl, -⟩ := (id h2)
  obtain ⟨a3, c3, rfl, -⟩ := (id h3)
  obtain ⟨a4, c4, rfl, -⟩ := (id h4)
  obtain ⟨m1, hm1⟩ : ∃ m, m = l.length := ⟨_, rfl⟩
  obtain ⟨m2, hm2⟩ : ∃ m, m = sy.length := ⟨_, rfl⟩
  obtain ⟨m3, hm3⟩ : ∃ m, m = fl.length := ⟨_, rfl⟩
  obtain ⟨m4, hm4⟩ : ∃ m, m = kl.length := ⟨_, rfl⟩
  rw [← hm1] at h1 ⊢
  rw [← hm2] at h2 ⊢
  rw [← hm3] at h3 ⊢
  rw [← hm4] at h4 ⊢
  have HG := hid hg
  have H1 := hid h1
  have H2 := hid h2
  have H3 := hid h3
  have H4 := hid h4
  have M1 := hid hm1
  have M2 := hid hm2
  have M3 := hid hm3
  have M4 := hid hm4
  have HBD := hid hbd
  obtain ⟨f1, f2, f3, f4, f5, f6, f7, f8⟩ := Um.one_facts
  obtain ⟨K, hK⟩ : ∃ K : Int, K = 0 := ⟨_, rfl⟩
  have HNW := hid (logNew_yes 1 K w (by decide) (by decide) hK)
  have kK : (K != 0) = false := by rw [hK]; rfl
  have kK2 : (K == 0) = true := by rw [hK]; rfl
  have HK := hid hK
  obtain ⟨s0, hs0⟩ : ∃ s, s = Um.newS 1 := ⟨_, rfl⟩
  obtain ⟨s1, hs1⟩ : ∃ s, s = Um.putS s0 [(1, 2)] := ⟨_, rfl⟩
  obtain ⟨s2, hs2⟩ : ∃ s, s = Um.syncS s1 := ⟨_, rfl⟩
  obtain ⟨s3, hs3⟩ : ∃ s, s = Um.putS s2 [(5, 9)] := ⟨_, rfl⟩
  obtain ⟨s4, hs4⟩ : ∃ s, s = Um.crashS s3 0 := ⟨_, rfl⟩
  obtain ⟨E1, hE1⟩ : ∃ E, E = Um.putF s0 [(1, 2)] := ⟨_, rfl⟩
  obtain ⟨E2, hE2⟩ : ∃ E, E = Um.syncF s1 := ⟨_, rfl⟩
  obtain ⟨E3, hE3⟩ : ∃ E, E = Um.putF s2 [(5, 9)] := ⟨_, rfl⟩
  obtain ⟨E4, hE4⟩ : ∃ E, E = Um.hullE s3.done := ⟨_, rfl⟩
  have e3 : s3 = Um.oneS := by rw [hs3, hs2, hs1, hs0]; rfl
  have k1 : (E1 != 0) = false := by rw [hE1, hs0, f1]; rfl
  have k2 : (E2 != 0) = false := by rw [hE2, hs1, hs0, f2]; rfl
  have k3 : (E3 != 0) = false := by rw [hE3, hs2, hs1, hs0, f3]; rfl
  have k4 : (E4 != 0) = false := by rw [hE4, e3, f4]; rfl
  have HF5 : Hid (Um.hullF s3.done = [(1, 9)]) := hid (by rw [e3]; exact f5)
  have HF6 : Hid (s4.done = [[(1, 2)]]) := hid (by rw [hs4, e3]; exact f6)
  have HF7 : Hid (s4.bytes.length = 9) := hid (by rw [hs4, e3]; exact f7)
  have HF8 : Hid (s4.safe = 9) := hid (by rw [hs4, e3]; exact f8)
  have HTW : Hid (2 ≤ s3.done.length) := hid (by rw [e3]; decide +kernel)
  have PU1 := fun base p k v W h1 h2 => hid (show Calls Tryd.prog 8 #[.pointer (some ⟨p, 0, none⟩), v] W fun e w' => ∃ k', e = .returned (errV E1) ∧ Lg base w' p k' s1 ∧ Wrote W w' p k k' from by rw [hE1, hs1]; exact lgPut base p k s0 [(1, 2)] v W h1 h2)
  have SY := fun base p k W h => hid (show Calls Tryd.prog 10 #[.pointer (some ⟨p, 0, none⟩)] W fun e w' => e = .returned (errV E2) ∧ Lg base w' p k s2 ∧ Wrote W w' p k k from by rw [hE2, hs2]; exact lgSync base p k s1 W h)
  have PU2 := fun base p k v W h1 h2 => hid (show Calls Tryd.prog 8 #[.pointer (some ⟨p, 0, none⟩), v] W fun e w' => ∃ k', e = .returned (errV E3) ∧ Lg base w' p k' s3 ∧ Wrote W w' p k k' from by rw [hE3, hs3]; exact lgPut base p k s2 [(5, 9)] v W h1 h2)
  have HU := fun base p k W h => hid (show Calls Tryd.prog 16 #[.pointer (some ⟨p, 0, none⟩)] W fun e w' => ∃ r, e = .returned (.tuple #[r, errV E4]) ∧ Ls w'.heap.size w' r [(1, 9)] ∧ Below W.heap.size W w' ∧ ∀ g, r.ownBlock = some g → W.heap.size ≤ g from by rw [hE4, ← HF5.out]; exact lgHull_two base p k s3 W h HTW.out)
  have CR := fun base p k W h => hid (show Calls Tryd.prog 11 #[.pointer (some ⟨p, 0, none⟩), .int .i64 0] W fun e w' => ∃ k', e = .returned (.tuple #[]) ∧ Lg base w' p k' s4 ∧ Wrote W w' p k k' from by rw [hs4]; exact lgCrash base p k s3 0 W h)
  have AL := fun base p k W h => hid (show Calls Tryd.prog 12 #[.pointer (some ⟨p, 0, none⟩)] W fun e w' => ∃ r, e = .returned r ∧ Lb w'.heap.size w' r [[(1, 2)]] ∧ Below W.heap.size W w' from by rw [← HF6.out]; exact lgAll base p k s4 W h)
  rw [← hs0] at HNW
  clear f1 f2 f3 f4 f5 f6 f7 f8 hs1 hs2 hs3 hs4 hE1 hE2 hE3 hE4 e3 hK h1 h2 h3 h4 hm1 hm2 hm3 hm4 hbd hg HF5 HF6 HTW hs0
  go_enter Tryd.func5, Tryd.ntmps5
  go_wp2_with fail
  refine HNW.out.mono ?_
  rintro e wn ⟨p, rfl, hp, hL, hB⟩
  clear HNW
  have hLa := hL.step ((Below.refl _ _).alloc (Nat.le_refl _) (.cells #[.int .i64 1, .int .i64 2] 28))
  have hBa := hB.alloc hB.size (.cells #[.int .i64 1, .int .i64 2] 28)
  have HC := PU1 w.heap.size p none (.slice (some ⟨wn.heap.size, 0, none⟩) 1 1) _ hLa (ls_one (Sp.new _ _ _) (by decide))
  have HLS := hid hLa
  have HB := hid hBa
  clear PU1 hL hB hLa hBa
  go_wp2_with fail
  refine HC.out.mono ?_
  rintro e wa ⟨k1', rfl, hL, hW⟩
  have hB := HB.out.trans (HLS.out.below hW)
  have HC2 := SY w.heap.size p k1' wa hL
  have HL2 := hid hL
  clear HC HLS HB hW SY hL
  go_wp2_with fail
  refine HC2.out.mono ?_
  rintro e wb ⟨rfl, hL, hW⟩
  replace hB := hB.trans (HL2.out.below hW)
  have hLa := hL.step ((Below.refl _ _).alloc (Nat.le_refl _) (.cells #[.int .i64 5, .int .i64 9] 28))
  have hBa := hB.alloc hB.size (.cells #[.int .i64 5, .int .i64 9] 28)
  have HC := PU2 w.heap.size p k1' (.slice (some ⟨wb.heap.size, 0, none⟩) 1 1) _ hLa (ls_one (Sp.new _ _ _) (by decide))
  have HLS := hid hLa
  have HB := hid hBa
  clear PU2 hL hB hLa hBa HC2 HL2 hW
  go_wp2_with fail
  refine HC.out.mono ?_
  rintro e wc ⟨k2', rfl, hL, hW⟩
  have hB := HB.out.trans (HLS.out.below hW)
  have HC2 := HU w.heap.size p k2' wc hL
  have HLC := hid hL
  clear HC HLS HB hW HU
  go_wp2_with fail
  refine HC2.out.mono ?_
  rintro e wd ⟨r, rfl, hr, hb, hnw⟩
  obtain ⟨bb, bo, bc, er, -, hat⟩ := hr.open (by simp)
  replace er : r = .slice (some ⟨bb, bo, none⟩) 1 bc := er
  subst er
  have hbn : wc.heap.size ≤ bb := hnw bb rfl
  have y1 : wd.cell? ⟨bb, bo + 1, none⟩ = some (.int .i64 9) := hat.hi 0 rfl rfl
  have hbl := hat.1
  replace hB := hB.trans (hb.mono hB.size)
  replace hL := hL.step hb
  have HC := CR w.heap.size p k2' wd hL
  have HLD := hid hL
  clear HC2 hr hnw hat hb CR hL
  go_wp2_with fail
  refine HC.out.mono ?_
  rintro e we ⟨k3', rfl, hL, hW⟩
  have hot := (hW.other hbl (by have := HLC.out.lt; omega) (fun q => by have := (HLC.out.from bb q).2; omega)).1
  have y2 : we.cell? ⟨bb, bo + 1, none⟩ = some (.int .i64 9) := by rw [← y1]; unfold World.cell?; rw [hot]
  have hbl2 : bb < we.heap.size := Nat.lt_of_lt_of_le hbl hW.size
  replace hB := hB.trans (HLD.out.below hW)
  have HC2 := AL w.heap.size p k3' we hL
  clear HC HLC HLD hW hot y1 hbl hbn AL
  go_wp2_with fail
  refine HC2.out.mono ?_
  rintro e wf ⟨r2, rfl, hr2, hb⟩
  obtain ⟨fb, fo, fc, er, -, -, hn2⟩ := hr2.open (by simp)
  replace er : r2 = .slice (some ⟨fb, fo, none⟩) 1 fc := er
  subst er
  obtain ⟨x5, y3, h5⟩ := hn2 0 (by simp)
  replace y3 : wf.cell? ⟨fb, fo, none⟩ = some x5 := y3
  replace h5 : Ls wf.heap.size wf x5 [(1, 2)] := h5
  obtain ⟨gb, gf, gc, er, -, hat⟩ := h5.open (by simp)
  replace er : x5 = .slice (some ⟨gb, gf, none⟩) 1 gc := er
  subst er
  have y4 : wf.cell? ⟨gb, gf + 1, none⟩ = some (.int .i64 2) := hat.hi 0 rfl rfl
  have y5 := (hb.cell (p := ⟨bb, bo + 1, none⟩) hbl2).trans y2
  replace hB := hB.trans (hb.mono hB.size)
  replace hL := hL.step hb
  clear HC2 hr2 hn2 h5 hat hb y2 hbl2
  go_upto_region 10 with fail
  refine one_test rfl w.heap.size p bb bo bc fb fo fc gb gf gc k3' E1 E2 E3 E4 s4 _ k1 k2 k3 k4 y5 y3 y4 hL HF7.out HF8.out ?_
  intro u68 u69 u70 u71 u72 u73 u74 u75 u76 u77 u78 u79 u80 u81 u82 u83 u84 u85 u86 u87 u88 u89 u90 u91 u92 u93 u94 u95 u96 u97 u98 u99 u100 u101 u102 u103 u104 u105 u106 u107 u108 u109 u110 u111 u112 u113 u114 u115 u116 u117 u118 u119 u120 _ _
  clear k1 k2 k3 k4 y3 y4 y5 hL HF7 HF8
  by_cases hlow : a0 < 1
  · have d1 : decide (a0 < 1) = true := decide_eq_true hlow
    have HN := hid (logNew_no a0 wf (.inl hlow))
    go_wp2_with fail
    refine HN.out.mono ?_
    rintro e wg ⟨rfl, hb⟩
    replace hB := hB.trans (hb.mono hB.size)
    clear hb HN
    go_wp2_with fail
    refine (same_any _ _ _ (HG.out.below (B := w.heap.size) hB HG.out.size)).mono ?_
    rintro e wh ⟨rfl, hb⟩
    replace hB := hB.trans (hb.mono hB.size)
    clear hb
    go_wp2
    go_returns
    exact ⟨rfl, hB⟩
  · have d1 : decide (a0 < 1) = false := decide_eq_false hlow
    by_cases hhi : 3 < a0
    · have d2 : decide (3 < a0) = true := decide_eq_true hhi
      have HN := hid (logNew_no a0 wf (.inr hhi))
      go_wp2_with fail
      refine HN.out.mono ?_
      rintro e wg ⟨rfl, hb⟩
      replace hB := hB.trans (hb.mono hB.size)
      clear hb HN
      go_wp2_with fail
      refine (same_any _ _ _ (HG.out.below (B := w.heap.size) hB HG.out.size)).mono ?_
      rintro e wh ⟨rfl, hb⟩
      replace hB := hB.trans (hb.mono hB.size)
      clear hb
      go_wp2
      go_returns
      exact ⟨rfl, hB⟩
    · have d2 : decide (3 < a0) = false := decide_eq_false hhi
      obtain ⟨n, rfl⟩ := Int.eq_ofNat_of_zero_le (show 0 ≤ a0 by omega)
      have HN := hid (logNew_yes n K wf (by omega) (by omega) HK.out)
      go_wp2_with fail
      refine HN.out.mono ?_
      rintro e wg ⟨p2, rfl, hp2, hL, hb⟩
      clear HN
      have HBN := hid hb
      go_wp2_with fail
      refine (same_any _ _ _ (HG.out.below (B := w.heap.size) (hB.trans (hb.mono hB.size)) HG.out.size)).mono ?_
      rintro e wh ⟨rfl, hb2⟩
      replace hL := hL.step hb2
      replace hb := HBN.out.trans (hb2.mono HBN.out.size)
      clear hb2 HBN
      have HZ := hid (Kz.new hL hb)
      have HGF := hid (HG.out.below (B := w.heap.size) hB HG.out.size)
      clear hL
      go_wp2
      refine outer_loop rfl n p2 m1 c1 m2 c2 m3 c3 m4 c4 a1 a2 a3 a4 l sy fl kl wf _ _ _ (Um.newS n) HGF.out ((H1.out.keep hB).wide hB.size) ((H2.out.keep hB).wide hB.size) ((H3.out.keep hB).wide hB.size) ((H4.out.keep hB).wide hB.size) M1.out M2.out M3.out M4.out HBD.out HZ.out ?_
      intro u10 u22 u23 u24 u25 u26 u27 u28 u29 u30 u31 u32 u33 u34 u35 u36 u37 u38 u39 u40 u41 u42 u144 u145 u146 u147 u148 u149 u150 u151 u152 u153 u154 u155 u156 u157 u158 u159 u160 u161 u162 u163 u164 u165 u166 u167 u168 u169 u170 u171 u172 u173 u174 u175 u176 u177 u178 u179 u180 u181 u182 u183 u184 u185 u186 u187 u188 u189 u190 u191 u192 u193 u194 u195 u196 u197 u198 u199 u200 u201 u202 u203 u204 u205 u206 u207 u208 u209 u210 u211 u212 u213 u214 u215 u216 u217 u218 u219 u220 u221 u222 u223 u224 u225 u226 u227 u228 u229 u230 u231 u232 u233 u234 u235 u236 u237 u238 u239 u240 u241 u242 u243 u244 u245 u246 u247 u248 u249 u250 u251 u252 u253 u254 u255 u256 u257 u258 u259 u260 u261 u262 u263 u264 u265 u266 u267 u268 u269 u270 u271 u272 u273 u274 u275 u276 u277 u278 u279 u280 u281 u282 u283 u284 u285 u286 u287 u288 u289 u290 u291 u292 u293 u294 u295 u296 u297 u298 u299 u300 u301 u302 u303 u304 u305 u306 u307 u308 u309 u310 u311 u312 u313 u314 u315 u316 u317 u318 u319 u320 u321 u322 u323 u324 u325 u326 u327 u328 u329 u330 u331 u332 u333 u334 u335 u336 u337 u338 u339 u340 u341 u342 u343 u344 u345 u346 u347 u348 u349 u350 u351 u352 u353 u354 u355 u356 u357 u358 u359 u360 u361 u362 u363 u364 u365 u366 u367 wi hb3
      replace hB := hB.trans (hb3.mono hB.size)
      clear hb3
      go_wp2
      go_returns
      exact ⟨rfl, hB⟩
end Go.Proofs.YthgehlonjoafmaaDoor.LgKeeps
