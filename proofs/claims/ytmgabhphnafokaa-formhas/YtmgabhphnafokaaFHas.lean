/-
  The walk over 'spanlaw2.FormHas': for all f, b, x, c it returns true.
-/
import Derived.Test.YtmgabhphnafokaaForm
import Derived.Test.YtmgabhphnafokaaBoxH
import Derived.Deep.CutRange
namespace Go.Proofs.Ytmgabhphnafokaa.FHas
set_option linter.unusedSimpArgs false
open Go.RowKit

theorem lit_terms {w : World} {b cap : Nat} (T : TypeId) (hb : b = w.heap.size) (hc : 1 ≤ cap) : Lt (w.alloc (.cells #[.int .i64 1000, .int .i64 1, .int .i64 1, .int .i64 0] T)).heap.size (w.alloc (.cells #[.int .i64 1000, .int .i64 1, .int .i64 1, .int .i64 0] T)) (.slice (some ⟨b, 0, none⟩) 1 cap) [(1000, 1, 1, 0)] := by
  subst hb
  have h := Blk.new w T #[.int .i64 1000, .int .i64 1, .int .i64 1, .int .i64 0]
  refine ⟨_, cap, rfl, hc, .inr ⟨w.heap.size, 0, rfl, h.lt, fun j hj => ?_⟩⟩
  obtain rfl : j = 0 := by simpa using hj
  exact ⟨h.cell 0 rfl, h.cell 1 rfl, h.cell 2 rfl, h.cell 3 rfl⟩
theorem lit_box {w : World} {b cap : Nat} (T : TypeId) (hb : b = w.heap.size) (hc : 2 ≤ cap) : Ls (w.alloc (.cells #[.int .i64 1000, .int .i64 2000, .int .i64 (-1000), .int .i64 3000] T)).heap.size (w.alloc (.cells #[.int .i64 1000, .int .i64 2000, .int .i64 (-1000), .int .i64 3000] T)) (.slice (some ⟨b, 0, none⟩) 2 cap) [(1000, 2000), (-1000, 3000)] := by
  subst hb
  have h := Blk.new w T #[.int .i64 1000, .int .i64 2000, .int .i64 (-1000), .int .i64 3000]
  refine ⟨_, cap, rfl, hc, .inr ⟨w.heap.size, 0, rfl, h.lt, fun j hj => ?_⟩⟩
  rcases (by simp at hj; omega : j = 0 ∨ j = 1) with rfl | rfl
  · exact ⟨h.cell 0 rfl, h.cell 1 rfl⟩
  · exact ⟨h.cell 2 rfl, h.cell 3 rfl⟩
theorem fact : Um.frAll [(1000, 1, 1, 0)] [(1000, 2000), (-1000, 3000)] = (-2000, 6000, 0) := by decide +kernel
theorem in_range {f : List Um.Tm} {b : List (Int × Int)} {x : List Int} (hr : (Um.frAll f b).2.2 = 0) (hh : Um.hasF b x = 0) (hi : hasA b x = true) (ha : (Um.atAll f x).2 = 0) : (Um.frAll f b).1 ≤ (Um.atAll f x).1 ∧ (Um.atAll f x).1 ≤ (Um.frAll f b).2.1 := by
  have hlen : x.length = b.length := by
    unfold Um.hasF at hh
    split at hh
    · split at hh
      · assumption
      · cases hh
    · contradiction
  unfold hasA at hi
  rw [Bool.and_eq_true] at hi
  have hp : Um.hasP b x := of_decide_eq_true hi.2
  rw [(Um.at_is ha).2.2]
  exact Um.fr_has hlen hp hr
theorem no_wider {f : List Um.Tm} {b c : List (Int × Int)} (hr : (Um.frAll f b).2.2 = 0) (hw : withinA c b = true) : (Um.frAll f c).2.2 = 0 ∧ (Um.frAll f b).1 ≤ (Um.frAll f c).1 ∧ (Um.frAll f c).2.1 ≤ (Um.frAll f b).2.1 := by
  unfold withinA at hw
  rw [Bool.and_eq_true] at hw
  exact Um.fr_in (of_decide_eq_true hw.1) (of_decide_eq_true hw.2) hr

set_option maxRecDepth 100000 in
set_option maxHeartbeats 16000000 in
theorem walk_out (f : List Um.Tm) (u : Value) (b : List (Int × Int)) (v : Value) (x : List Int) (t : Value) (c : List (Int × Int)) (z : Value) (w : World) (hl : Lt w.heap.size w u f) (hs : Ls w.heap.size w v b) (hx : Li w.heap.size w t x) (hc : Ls w.heap.size w z c) (h : ¬ (Um.frAll f b).2.2 = 0) :
    Calls Try.prog 5 #[u, v, t, z] w fun e w' => e = .returned (.bool true) ∧ Below w.heap.size w w' := by
  have v0 := errV_none
  have q1 := errG
  have q2 := errGn
  have q3 := errE
  have q4 := errN
  have hF := Fr.start w
  obtain ⟨a0, ca, rfl, -⟩ := (id hl)
  obtain ⟨b0, cb, rfl, -⟩ := (id hs)
  obtain ⟨x0, cx, rfl, -⟩ := (id hx)
  obtain ⟨c0, cc, rfl, -⟩ := (id hc)
  have H0 := fun u v w h1 h2 => hid (frange_any [(1000, 1, 1, 0)] u [(1000, 2000), (-1000, 3000)] v w h1 h2)
  rw [fact] at H0
  have HR := fun w h1 h2 => hid (frange_any f (.slice a0 f.length ca) b (.slice b0 b.length cb) w h1 h2)
  have k : ((Um.frAll f b).2.2 != 0) = true := by simpa using h
  clear h
  generalize Um.frAll f b = S at *
  go_enter Try.func5, Try.ntmps5
  go_upto_region 4 with (go_at_call 17; refine (H0 _ _ _ ((lit_terms _ rfl (by decide)).step ((Below.refl _ _).alloc (Nat.le_refl _) _)) (lit_box _ (by simp) (by decide))).out.mono ?_; rintro e wn ⟨rfl, hb⟩; replace hF := ((hF.alloc _).alloc _).step hb; clear hb H0; replace hF := hF.push (-2000) 6000 rfl; have x0l := (hF.at 0 rfl).lo; have x0h := (hF.at 0 rfl).hi)
  clear x0l x0h
  go_wp2_with (go_at_call 17; refine (HR _ (hF.lt hl) (hF.ls hs)).out.mono ?_; rintro e wn ⟨rfl, hb⟩; replace hF := hF.step hb; clear hb; clear HR; replace hF := hF.drop.push S.1 S.2.1 rfl; have x0l := (hF.at 0 rfl).lo; have x0h := (hF.at 0 rfl).hi)
  go_returns
  exact ⟨rfl, hF.below⟩

set_option maxRecDepth 100000 in
set_option maxHeartbeats 16000000 in
theorem walk_in (f : List Um.Tm) (u : Value) (b : List (Int × Int)) (v : Value) (x : List Int) (t : Value) (c : List (Int × Int)) (z : Value) (w : World) (hl : Lt w.heap.size w u f) (hs : Ls w.heap.size w v b) (hx : Li w.heap.size w t x) (hc : Ls w.heap.size w z c) (h : (Um.frAll f b).2.2 = 0) :
    Calls Try.prog 5 #[u, v, t, z] w fun e w' => e = .returned (.bool true) ∧ Below w.heap.size w w' := by
  have v0 := errV_none
  have q1 := errG
  have q2 := errGn
  have q3 := errE
  have q4 := errN
  have hF := Fr.start w
  obtain ⟨a0, ca, rfl, -⟩ := (id hl)
  obtain ⟨b0, cb, rfl, -⟩ := (id hs)
  obtain ⟨x0, cx, rfl, -⟩ := (id hx)
  obtain ⟨c0, cc, rfl, -⟩ := (id hc)
  have H0 := fun u v w h1 h2 => hid (frange_any [(1000, 1, 1, 0)] u [(1000, 2000), (-1000, 3000)] v w h1 h2)
  rw [fact] at H0
  have HR := fun w h1 h2 => hid (frange_any f (.slice a0 f.length ca) b (.slice b0 b.length cb) w h1 h2)
  have k : ((Um.frAll f b).2.2 != 0) = false := by simpa using h
  have HB := fun w h1 h2 => hid (bhas_any b (.slice b0 b.length cb) x (.slice x0 x.length cx) w h1 h2)
  have HA := fun w h1 h2 => hid (fat_any f (.slice a0 f.length ca) x (.slice x0 x.length cx) w h1 h2)
  have HW := fun w h1 h2 => hid (bwithin_any c (.slice c0 c.length cc) b (.slice b0 b.length cb) w h1 h2)
  have HR2 := fun w h1 h2 => hid (frange_any f (.slice a0 f.length ca) c (.slice c0 c.length cc) w h1 h2)
  have HIN := hid (fun h1 h2 h3 => in_range (x := x) h h1 h2 h3)
  have HNW := hid (fun h1 => no_wider (c := c) h h1)
  have HWF : Hid (withinA c b = true → Um.boxesF c b = 0) := fun e => by
    unfold withinA at e
    rw [Bool.and_eq_true] at e
    exact of_decide_eq_true e.1
  clear h
  generalize Um.frAll f b = S at *
  generalize Um.frAll f c = T at *
  generalize Um.atAll f x = A at *
  generalize Um.hasF b x = HF at *
  generalize hasA b x = I at *
  generalize withinA c b = J at *
  generalize Um.boxesF c b = WF at *
  obtain ⟨Z, hZ⟩ : ∃ Z : Bool, Z = ((HF == 0) && I) := ⟨_, rfl⟩
  have HZ := hid hZ
  have HZI : Hid (Z = true → HF = 0 ∧ I = true) := fun e => by
    rw [hZ, Bool.and_eq_true] at e
    exact ⟨by simpa using e.1, e.2⟩
  clear hZ
  go_enter Try.func5, Try.ntmps5
  go_upto_region 4 with (go_at_call 17; refine (H0 _ _ _ ((lit_terms _ rfl (by decide)).step ((Below.refl _ _).alloc (Nat.le_refl _) _)) (lit_box _ (by simp) (by decide))).out.mono ?_; rintro e wn ⟨rfl, hb⟩; replace hF := ((hF.alloc _).alloc _).step hb; clear hb H0; replace hF := hF.push (-2000) 6000 rfl; have x0l := (hF.at 0 rfl).lo; have x0h := (hF.at 0 rfl).hi)
  clear x0l x0h
  go_upto_region 7 with (go_at_call 17; refine (HR _ (hF.lt hl) (hF.ls hs)).out.mono ?_; rintro e wn ⟨rfl, hb⟩; replace hF := hF.step hb; clear hb; clear HR; replace hF := hF.drop.push S.1 S.2.1 rfl; have x0l := (hF.at 0 rfl).lo; have x0h := (hF.at 0 rfl).hi)
  clear x0l x0h
  generalize wn.heap.size = B1 at *
  go_upto_region 8 with (go_at_call 11; refine (HB _ (hF.ls hs) (hF.li hx)).out.mono ?_; rintro e wn ⟨rfl, hb⟩; replace hF := hF.step hb; clear hb; clear HB)
  go_cut [59] from 55 to 59 (fun v w1 => v = .bool Z ∧ Fr w w1 [(B1, S.1, S.2.1)])
  case first =>
    clear HW HR2 HNW HWF HA HIN HZI
    by_cases h1 : HF = 0
    · have k1 : (HF == 0) = true := by simpa using h1
      go_wp2
      go_meet
      case rel => exact ⟨by rw [HZ.out, k1]; rfl, hF⟩
    · have k1 : (HF == 0) = false := by simpa using h1
      go_wp2
      go_meet
      case rel => exact ⟨by rw [HZ.out, k1]; rfl, hF⟩
  case rest =>
    clear hF
    obtain ⟨rfl, hF⟩ := hcut
    go_upto_if 59 with fail
    go_cut [14, 15] from 60 to 79 (fun _ _ w1 => Fr w w1 [(B1, S.1, S.2.1)])
    case first =>
      clear HW HR2 HNW HWF
      cases Z
      · clear HIN HA HZI HZ
        go_wp2
        go_meet
        case rel => exact hF
      · obtain ⟨h1, hI⟩ := HZI.out rfl
        by_cases h2 : A.2 = 0
        · obtain ⟨g1, g2⟩ := HIN.out h1 hI h2
          have k2 : (A.2 == 0) = true := by simpa using h2
          have c1 : decide (A.1 < S.1) = false := decide_eq_false (by omega)
          have c2 : decide (S.2.1 < A.1) = false := decide_eq_false (by omega)
          clear HIN h1 h2 g1 g2 hI HZ HZI
          go_wp2_with (go_at_call 18; refine (HA _ (hF.lt hl) (hF.li hx)).out.mono ?_; rintro e wn ⟨rfl, hb⟩; replace hF := hF.step hb; clear hb; clear HA; have x0l := (hF.at 0 rfl).lo; have x0h := (hF.at 0 rfl).hi)
          go_meet
          case rel => exact hF
        · have k2 : (A.2 == 0) = false := by simpa using h2
          clear HIN h1 h2 hI HZ HZI
          go_wp2_with (go_at_call 18; refine (HA _ (hF.lt hl) (hF.li hx)).out.mono ?_; rintro e wn ⟨rfl, hb⟩; replace hF := hF.step hb; clear hb; clear HA; have x0l := (hF.at 0 rfl).lo; have x0h := (hF.at 0 rfl).hi)
          go_meet
          case rel => exact hF
    case rest =>
      clear hF HA HIN
      have hF := hcut
      clear hcut
      cases J
      · clear HWF HNW HR2
        by_cases h1 : WF = 0
        · have k1 : (WF != 0) = false := by simpa using h1
          clear h1
          go_wp2_with (go_at_call 14; refine (HW _ (hF.ls hc) (hF.ls hs)).out.mono ?_; rintro e wn ⟨rfl, hb⟩; replace hF := hF.step hb; clear hb; clear HW)
          go_returns
          exact ⟨rfl, hF.below⟩
        · have k1 : (WF != 0) = true := by simpa using h1
          clear h1
          go_wp2_with (go_at_call 14; refine (HW _ (hF.ls hc) (hF.ls hs)).out.mono ?_; rintro e wn ⟨rfl, hb⟩; replace hF := hF.step hb; clear hb; clear HW)
          go_returns
          exact ⟨rfl, hF.below⟩
      · have h1 := HWF.out rfl
        obtain ⟨g0, g1, g2⟩ := HNW.out rfl
        have k1 : (WF != 0) = false := by simpa using h1
        have k2 : (T.2.2 == 0) = true := by simpa using g0
        have c1 : decide (S.1 ≤ T.1) = true := decide_eq_true g1
        have c2 : decide (T.2.1 ≤ S.2.1) = true := decide_eq_true g2
        clear h1 g0 g1 g2 HWF HNW
        go_wp2_with (first | (go_at_call 14; refine (HW _ (hF.ls hc) (hF.ls hs)).out.mono ?_; rintro e wn ⟨rfl, hb⟩; replace hF := hF.step hb; clear hb; clear HW) | (go_at_call 17; refine (HR2 _ (hF.lt hl) (hF.ls hc)).out.mono ?_; rintro e wn ⟨rfl, hb⟩; replace hF := hF.step hb; clear hb; clear HR2; replace hF := hF.push T.1 T.2.1 rfl; have x0l := (hF.at 0 rfl).lo; have x0h := (hF.at 0 rfl).hi; have x1l := (hF.at 1 rfl).lo; have x1h := (hF.at 1 rfl).hi))
        go_returns
        exact ⟨rfl, hF.below⟩

theorem walk (f : List Um.Tm) (u : Value) (b : List (Int × Int)) (v : Value) (x : List Int) (t : Value) (c : List (Int × Int)) (z : Value) (w : World) (hl : Lt w.heap.size w u f) (hs : Ls w.heap.size w v b) (hx : Li w.heap.size w t x) (hc : Ls w.heap.size w z c) :
    Calls Try.prog 5 #[u, v, t, z] w fun e w' => e = .returned (.bool true) ∧ Below w.heap.size w w' := by
  by_cases h : (Um.frAll f b).2.2 = 0
  · exact walk_in f u b v x t c z w hl hs hx hc h
  · exact walk_out f u b v x t c z w hl hs hx hc h
end Go.Proofs.Ytmgabhphnafokaa.FHas
