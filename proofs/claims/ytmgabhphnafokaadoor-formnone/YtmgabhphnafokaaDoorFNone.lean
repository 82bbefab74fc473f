/-
  The walk over 'spanlaw4.FormNone': for all b, x it returns true.
-/
import Derived.Test.YtmgabhphnafokaaDoorForm
import Derived.Test.YtmgabhphnafokaaDoorSame
import Derived.Deep.CutRange
namespace Go.Proofs.YtmgabhphnafokaaDoor.FNone
set_option linter.unusedSimpArgs false
open Go.RowKit

theorem none_form : Um.formF [] 0 = 1 := by decide
theorem none_range (b : List (Int × Int)) : Um.frAll [] b = (0, 0, Um.boxF b) := by
  unfold Um.frAll Um.frF
  by_cases h : Um.boxF b = 0
  · have hl := Um.box_len h
    have e : Um.formF [] b.length = 0 := Um.form_ok.2 ⟨by omega, by simp, fun i hi => by simp at hi⟩
    rw [if_pos h, if_pos e, h]
    rfl
  · rw [if_neg h, if_neg h]
theorem none_at (x : List Int) : (Um.atAll [] x).1 = 0 := by
  unfold Um.atAll
  split
  · unfold Um.ptR
    split
    · split
      · show Um.fl 0 1000000000 = 0; decide +kernel
      · rfl
    · rfl
  · rfl

set_option maxRecDepth 100000 in
set_option maxHeartbeats 8000000 in
theorem walk_right (b : List (Int × Int)) (v : Value) (x : List Int) (t : Value) (w : World) (hg : HasErr w) (hs : Ls w.heap.size w v b) (hx : Li w.heap.size w t x) (h : Um.boxF b = 0) :
    Calls Tryd.prog 5 #[v, t] w fun e w' => e = .returned (.bool true) ∧ Below w.heap.size w w' := by
  have v0 := errV_none
  have q1 := errG
  have q2 := errGn
  have q3 := errE
  have q4 := errN
  have hF := Fr.start w
  obtain ⟨b0, cb, rfl, -⟩ := (id hs)
  obtain ⟨x0, cx, rfl, -⟩ := (id hx)
  have HCK := fun w h => hid (fcheck_any [] 0 (.slice none 0 0) w h)
  have HFR := fun w h1 h2 => hid (frange_any [] (.slice none 0 0) b (.slice b0 b.length cb) w h1 h2)
  have HFA := fun w h1 h2 => hid (fat_any [] (.slice none 0 0) x (.slice x0 x.length cx) w h1 h2)
  have HBC := fun w h => hid (bcheck_any b (.slice b0 b.length cb) w h)
  rw [none_form] at HCK
  rw [none_range] at HFR
  rw [none_at] at HFA
  have k : (Um.boxF b == 0) = true := by simpa using h
  have k' : (Um.boxF b != 0) = false := by simpa using h
  clear h
  generalize Um.boxF b = K at *
  generalize (Um.atAll [] x).2 = E at *
  go_enter Tryd.func5, Tryd.ntmps5
  go_upto_region 4 with (first | (go_at_call 23; refine (HCK _ (Lt.nil _ _)).out.mono ?_; rintro e wn ⟨rfl, hb⟩; replace hF := hF.step hb; clear hb; clear HCK) | (go_at_call 8; refine (hid (same_any _ _ _ (hg.below (B := w.heap.size) hF.below hg.size))).out.mono ?_; rintro e wn ⟨rfl, hb⟩; replace hF := hF.step hb; clear hb))
  go_upto_region 5 with (go_at_call 25; refine (HFR _ (Lt.nil _ _) (hF.ls hs)).out.mono ?_; rintro e wn ⟨rfl, hb⟩; replace hF := hF.step hb; clear hb; clear HFR; replace hF := hF.push 0 0 rfl)
  go_upto_region 6 with (go_at_call 28; refine (HFA _ (Lt.nil _ _) (hF.li hx)).out.mono ?_; rintro e wn ⟨rfl, hb⟩; replace hF := hF.step hb; clear hb; clear HFA; have x0l := (hF.at 0 rfl).lo; have x0h := (hF.at 0 rfl).hi)
  go_upto_region 8 with (go_at_call 9; refine (HBC _ (hF.ls hs)).out.mono ?_; rintro e wn ⟨rfl, hb⟩; replace hF := hF.step hb; clear hb)
  by_cases hE : E = 0
  · have k2 : (E != 0) = false := by simpa using hE
    clear hE
    go_wp2
    go_returns
    exact ⟨rfl, hF.below⟩
  · have k2 : (E != 0) = true := by simpa using hE
    clear hE
    go_wp2
    go_returns
    exact ⟨rfl, hF.below⟩

set_option maxRecDepth 100000 in
set_option maxHeartbeats 8000000 in
theorem walk_wrong (b : List (Int × Int)) (v : Value) (x : List Int) (t : Value) (w : World) (hg : HasErr w) (hs : Ls w.heap.size w v b) (hx : Li w.heap.size w t x) (h : ¬ Um.boxF b = 0) :
    Calls Tryd.prog 5 #[v, t] w fun e w' => e = .returned (.bool true) ∧ Below w.heap.size w w' := by
  have v0 := errV_none
  have q1 := errG
  have q2 := errGn
  have q3 := errE
  have q4 := errN
  have hF := Fr.start w
  obtain ⟨b0, cb, rfl, -⟩ := (id hs)
  obtain ⟨x0, cx, rfl, -⟩ := (id hx)
  have HCK := fun w h => hid (fcheck_any [] 0 (.slice none 0 0) w h)
  have HFR := fun w h1 h2 => hid (frange_any [] (.slice none 0 0) b (.slice b0 b.length cb) w h1 h2)
  have HFA := fun w h1 h2 => hid (fat_any [] (.slice none 0 0) x (.slice x0 x.length cx) w h1 h2)
  have HBC := fun w h => hid (bcheck_any b (.slice b0 b.length cb) w h)
  rw [none_form] at HCK
  rw [none_range] at HFR
  rw [none_at] at HFA
  have k : (Um.boxF b == 0) = false := by simpa using h
  have k' : (Um.boxF b != 0) = true := by simpa using h
  clear h
  generalize Um.boxF b = K at *
  generalize (Um.atAll [] x).2 = E at *
  go_enter Tryd.func5, Tryd.ntmps5
  go_upto_region 4 with (first | (go_at_call 23; refine (HCK _ (Lt.nil _ _)).out.mono ?_; rintro e wn ⟨rfl, hb⟩; replace hF := hF.step hb; clear hb; clear HCK) | (go_at_call 8; refine (hid (same_any _ _ _ (hg.below (B := w.heap.size) hF.below hg.size))).out.mono ?_; rintro e wn ⟨rfl, hb⟩; replace hF := hF.step hb; clear hb))
  go_upto_region 5 with (go_at_call 25; refine (HFR _ (Lt.nil _ _) (hF.ls hs)).out.mono ?_; rintro e wn ⟨rfl, hb⟩; replace hF := hF.step hb; clear hb; clear HFR; replace hF := hF.push 0 0 rfl)
  go_upto_region 6 with (go_at_call 28; refine (HFA _ (Lt.nil _ _) (hF.li hx)).out.mono ?_; rintro e wn ⟨rfl, hb⟩; replace hF := hF.step hb; clear hb; clear HFA; have x0l := (hF.at 0 rfl).lo; have x0h := (hF.at 0 rfl).hi)
  go_upto_region 8 with (go_at_call 9; refine (HBC _ (hF.ls hs)).out.mono ?_; rintro e wn ⟨rfl, hb⟩; replace hF := hF.step hb; clear hb)
  by_cases hE : E = 0
  · have k2 : (E != 0) = false := by simpa using hE
    clear hE
    go_wp2
    go_returns
    exact ⟨rfl, hF.below⟩
  · have k2 : (E != 0) = true := by simpa using hE
    clear hE
    go_wp2
    go_returns
    exact ⟨rfl, hF.below⟩

theorem walk (b : List (Int × Int)) (v : Value) (x : List Int) (t : Value) (w : World) (hg : HasErr w) (hs : Ls w.heap.size w v b) (hx : Li w.heap.size w t x) :
    Calls Tryd.prog 5 #[v, t] w fun e w' => e = .returned (.bool true) ∧ Below w.heap.size w w' := by
  by_cases h : Um.boxF b = 0
  · exact walk_right b v x t w hg hs hx h
  · exact walk_wrong b v x t w hg hs hx h
end Go.Proofs.YtmgabhphnafokaaDoor.FNone
