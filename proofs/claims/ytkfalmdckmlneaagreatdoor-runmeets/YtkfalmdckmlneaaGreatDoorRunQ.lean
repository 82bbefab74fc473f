/-
  What package run makes of the words of a line: of two spans.
-/
import Derived.Test.YtkfalmdckmlneaaGreatDoorRunA
import Derived.Test.YtkfalmdckmlneaaGreatDoorPowerOf
import Derived.Shelf.Abstract
namespace Go.Proofs.YtkfalmdckmlneaaGreatDoor
set_option linter.unusedSimpArgs false
open Go.RowKit Go.Shelf

/-- What is told of a line: none where it cannot be read; else the spans, and the fault. -/
def AskTold (o : Option (List (Int × Int) × Int)) (w : World) (e : Ending) (w' : World) : Prop :=
  Below w.heap.size w w' ∧ (o = none → ∃ k, e = .returned (.tuple #[.slice none 0 0, unV k])) ∧ (∀ r, o = some r → ∃ u, e = .returned (.tuple #[u, errV r.2]) ∧ Ls w'.heap.size w' u r.1)
theorem ask_not {o : Option (List (Int × Int) × Int)} {w w' : World} {k : Int} (ho : o = none) (hb : Below w.heap.size w w') : AskTold o w (.returned (.tuple #[.slice none 0 0, unV k])) w' :=
  ⟨hb, fun _ => ⟨k, rfl⟩, fun r h => (by rw [ho] at h; cases h)⟩
theorem ask_yes {o : Option (List (Int × Int) × Int)} {r : List (Int × Int) × Int} {w w' : World} {u : Value} (ho : o = some r) (hb : Below w.heap.size w w') (hu : Ls w'.heap.size w' u r.1) : AskTold o w (.returned (.tuple #[u, errV r.2])) w' :=
  ⟨hb, fun h => (by rw [ho] at h; cases h), fun r' h => (by rw [ho] at h; cases h; exact ⟨u, rfl, hu⟩)⟩
theorem one_fault (r : Int × Int × Int) : (Um.oneR r).2 = r.2.2 := by
  unfold Um.oneR
  split
  · rename_i h; exact h.symm
  · rfl
theorem ask_one {o : Option (List (Int × Int) × Int)} {r : Int × Int × Int} {w w' : World} {u : Value} (ho : o = some (Um.oneR r)) (hb : Below w.heap.size w w') (hu : Ls w'.heap.size w' u (Um.oneR r).1) : AskTold o w (.returned (.tuple #[u, errV r.2.2])) w' := by
  rw [← one_fault r]
  exact ask_yes ho hb hu
theorem lx_two {w : World} {v : Value} {x y : List UInt8} (h : Lx w.heap.size w v [x, y]) : ∃ b off cap, v = .slice (some ⟨b, off, none⟩) 2 cap ∧ 2 ≤ cap ∧ b < w.heap.size ∧ w.cell? ⟨b, off, none⟩ = some (strV x) ∧ w.cell? ⟨b, off + 1, none⟩ = some (strV y) := by
  obtain ⟨b, off, cap, rfl, hc, hb, hh⟩ := h.open (by simp)
  exact ⟨b, off, cap, rfl, hc, hb, hh 0 (by simp), hh 1 (by simp)⟩
theorem len_two {α : Type} {l : List α} (h : l.length = 2) : ∃ x y, l = [x, y] := by
  match l, h with
  | [x, y], _ => exact ⟨x, y, rfl⟩
theorem len_three {α : Type} {l : List α} (h : l.length = 3) : ∃ x y z, l = [x, y, z] := by
  match l, h with
  | [x, y, z], _ => exact ⟨x, y, z, rfl⟩
theorem lx_slice {w : World} {v : Value} {l : List (List UInt8)} (h : Lx w.heap.size w v l) : ∃ a cap, v = .slice a l.length cap := by
  obtain ⟨a, cap, e, -⟩ := h
  exact ⟨a, cap, e⟩
theorem span_l (x : List UInt8) (w : World) (hx : x.length ≤ 3000) (hm : HasLen w) : Calls Tryz.prog 79 #[strV x] w fun e w' => SpTold x w e w' := by
  have := span_any ⟨x.toArray⟩ w (by rw [str_size]; exact hx) hm
  simpa using this

/-- A function of two spans. -/
structure Two (f : Nat) (R : Int → Int → Int → Int → Int × Int × Int) : Prop where
  enters : ∀ args w, (callFunc f args).run Tryz.prog w = .ok (.enter f args) w
  tells : ∀ a b c d w, Um.chk a b = 0 → Um.chk c d = 0 → Calls Tryz.prog f #[.agg #[.int .i64 a, .int .i64 b], .agg #[.int .i64 c, .int .i64 d]] w fun e w' => e = .returned (.tuple #[.agg #[.int .i64 (R a b c d).1, .int .i64 (R a b c d).2.1], errV (R a b c d).2.2]) ∧ Below w.heap.size w w'

theorem ofTwo_len {f : Nat} {R : Int → Int → Int → Int → Int × Int × Int} (v : Value) (g : List (List UInt8)) (w : World) (hl : Lx w.heap.size w v g) (h : ¬ g.length = 2) :
    Calls Tryz.prog 56 #[v, .func (.func f) #[] #[]] w fun e w' => AskTold (Um.askTwo R g) w e w' := by
  have ho : Um.askTwo R g = none := by unfold Um.askTwo; split <;> simp_all
  obtain ⟨a, cap, rfl⟩ := lx_slice hl
  have n2 : ((g.length : Int) != 2) = true := by simp; omega
  have h3 : ¬ (g.length : Int) = 2 := by omega
  have HO := hid ho
  clear hl ho
  generalize g.length = n at *
  go_enter Tryz.func56, Tryz.ntmps56
  go_wp2
  go_ret2
  exact ask_not HO.out (Below.refl _ _)
set_option maxRecDepth 100000 in
set_option maxHeartbeats 4000000 in
theorem ofTwo_two {f : Nat} {R : Int → Int → Int → Int → Int × Int × Int} (hf : Two f R) (v : Value) (x y : List UInt8) (w : World) (hl : Lx w.heap.size w v [x, y]) (hx : x.length ≤ 3000) (hy : y.length ≤ 3000) (hm : HasLen w) :
    Calls Tryz.prog 56 #[v, .func (.func f) #[] #[]] w fun e w' => AskTold (Um.askTwo R [x, y]) w e w' := by
  have q1 := errG
  have q2 := errGn
  have q3 := errE
  have q4 := errN
  have ho : Um.askTwo R [x, y] = if Um.spOk x = true ∧ Um.spOk y = true then some (Um.oneR (R (Um.spL x).1 (Um.spL x).2 (Um.spL y).1 (Um.spL y).2)) else none := rfl
  obtain ⟨b, off, cap, rfl, hcap, hlt, c0, c1⟩ := lx_two hl
  have HX := fun w h => hid (span_l x w hx h)
  have HY := fun w h => hid (span_l y w hy h)
  have hF := Fr.start w
  have HM := hid hm
  have hE := hf.enters
  have C1 := hid c1
  clear hl hx hy
  cases ex : Um.spOk x
  · have HO : Hid (Um.askTwo R [x, y] = none) := hid (by rw [ho, if_neg (by rw [ex]; simp)])
    have HK := hid ex
    clear ho ex c1
    go_enter Tryz.func56, Tryz.ntmps56
    go_wp2_with (go_at_call 79; refine (HX _ hm).out.mono ?_; rintro e w1 ⟨hb, -, h2⟩; obtain ⟨k, rfl⟩ := h2 HK.out; replace hF := hF.step hb; clear h2)
    go_ret2
    exact ask_not HO.out (hF.alloc _).below
  · have HK := hid ex
    cases ey : Um.spOk y
    · have HO : Hid (Um.askTwo R [x, y] = none) := hid (by rw [ho, if_neg (by rw [ey]; simp)])
      have HL := hid ey
      clear ho ex ey c1
      go_enter Tryz.func56, Tryz.ntmps56
      go_upto_region 6 with (go_at_call 79; refine (HX _ hm).out.mono ?_; rintro e w1 ⟨hb, h2, -⟩; have h3 := h2 HK.out; subst h3; replace hF := hF.step hb; clear h2)
      replace hF := hF.push (Um.spL x).1 (Um.spL x).2 (b := w1.heap.size) rfl
      generalize w1.alloc (.cells #[.int .i64 (Um.spL x).1, .int .i64 (Um.spL x).2] 29) = X at *
      have hmX := HM.out.below hF.below HM.out.size
      have c1 := (hF.below.cell (p := ⟨b, off + 1, none⟩) hlt).trans C1.out
      go_wp2_with (go_at_call 79; refine (HY _ hmX).out.mono ?_; rintro e w2 ⟨hb2, -, h2⟩; obtain ⟨k, rfl⟩ := h2 HL.out; replace hF := hF.step hb2; clear h2)
      go_ret2
      exact ask_not HO.out (hF.alloc _).below
    · have HO : Hid (Um.askTwo R [x, y] = some (Um.oneR (R (Um.spL x).1 (Um.spL x).2 (Um.spL y).1 (Um.spL y).2))) := hid (by rw [ho, if_pos ⟨ex, ey⟩])
      have HL := hid ey
      have HT := fun w => hid (hf.tells (Um.spL x).1 (Um.spL x).2 (Um.spL y).1 (Um.spL y).2 w (Um.sp_right ex) (Um.sp_right ey))
      clear ho ex ey c1
      go_enter Tryz.func56, Tryz.ntmps56
      go_upto_region 6 with (go_at_call 79; refine (HX _ hm).out.mono ?_; rintro e w1 ⟨hb, h2, -⟩; have h3 := h2 HK.out; subst h3; replace hF := hF.step hb; clear h2)
      replace hF := hF.push (Um.spL x).1 (Um.spL x).2 (b := w1.heap.size) rfl
      generalize w1.alloc (.cells #[.int .i64 (Um.spL x).1, .int .i64 (Um.spL x).2] 29) = X at *
      generalize w1.heap.size = B at *
      have hmX := HM.out.below hF.below HM.out.size
      have c1 := (hF.below.cell (p := ⟨b, off + 1, none⟩) hlt).trans C1.out
      go_upto_region 9 with (go_at_call 79; refine (HY _ hmX).out.mono ?_; rintro e w2 ⟨hb2, h2, -⟩; have h3 := h2 HL.out; subst h3; replace hF := hF.step hb2; clear h2)
      replace hF := hF.push (Um.spL y).1 (Um.spL y).2 (b := w2.heap.size) rfl
      generalize w2.alloc (.cells #[.int .i64 (Um.spL y).1, .int .i64 (Um.spL y).2] 29) = Y at *
      generalize w2.heap.size = C at *
      have x0l := (hF.at 0 rfl).lo; have x0h := (hF.at 0 rfl).hi
      have x1l := (hF.at 1 rfl).lo; have x1h := (hF.at 1 rfl).hi
      generalize R (Um.spL x).1 (Um.spL x).2 (Um.spL y).1 (Um.spL y).2 = r at *
      go_wp2_with (first | (go_at_fn f; refine (HT _).out.mono ?_; rintro e w3 ⟨rfl, hb⟩; replace hF := hF.step hb; clear hb HT) | (go_at_call 80; refine (aloneR_any r.1 r.2.1 r.2.2 _).mono ?_; rintro e w4 ⟨u, rfl, hu, hb⟩; replace hF := hF.step hb; clear hb))
      go_ret2
      exact ask_one HO.out hF.below hu
theorem ofTwo_any {f : Nat} {R : Int → Int → Int → Int → Int × Int × Int} (hf : Two f R) (v : Value) (g : List (List UInt8)) (w : World) (hl : Lx w.heap.size w v g) (hg : ∀ x ∈ g, x.length ≤ 3000) (hm : HasLen w) :
    Calls Tryz.prog 56 #[v, .func (.func f) #[] #[]] w fun e w' => AskTold (Um.askTwo R g) w e w' := by
  by_cases h : g.length = 2
  · obtain ⟨x, y, rfl⟩ := len_two h
    exact ofTwo_two hf v x y w hl (hg x (by simp)) (hg y (by simp)) hm
  · exact ofTwo_len v g w hl h

theorem digit_l_yes (y : List UInt8) (w : World) (h : Um.digOk y = true) : Calls Tryz.prog 93 #[strV y] w fun e w' => e = .returned (.tuple #[.int .i64 (Um.digR y : Nat), .nilIface]) ∧ w' = w := by
  have := digit_yes ⟨y.toArray⟩ w (by simpa using h)
  simpa using this
theorem digit_l_no (y : List UInt8) (w : World) (h : Um.digOk y = false) : Calls Tryz.prog 93 #[strV y] w fun e w' => ∃ k, e = .returned (.tuple #[.int .i64 0, unV k]) ∧ w' = w := by
  have := digit_no ⟨y.toArray⟩ w (by simpa using h)
  exact this
theorem powerOf_len (v : Value) (g : List (List UInt8)) (w : World) (hl : Lx w.heap.size w v g) (h : ¬ g.length = 2) :
    Calls Tryz.prog 63 #[v] w fun e w' => AskTold (Um.askPow g) w e w' := by
  have ho : Um.askPow g = none := by unfold Um.askPow; split <;> simp_all
  obtain ⟨a, cap, rfl⟩ := lx_slice hl
  have n2 : ((g.length : Int) != 2) = true := by simp; omega
  have h3 : ¬ (g.length : Int) = 2 := by omega
  have HO := hid ho
  clear hl ho
  generalize g.length = n at *
  go_enter Tryz.func63, Tryz.ntmps63
  go_wp2
  go_ret2
  exact ask_not HO.out (Below.refl _ _)
set_option maxRecDepth 100000 in
set_option maxHeartbeats 4000000 in
theorem powerOf_two (v : Value) (x y : List UInt8) (w : World) (hl : Lx w.heap.size w v [x, y]) (hx : x.length ≤ 3000) (hm : HasLen w) :
    Calls Tryz.prog 63 #[v] w fun e w' => AskTold (Um.askPow [x, y]) w e w' := by
  have q1 := errG
  have q2 := errGn
  have q3 := errE
  have q4 := errN
  have ho : Um.askPow [x, y] = if Um.spOk x = true ∧ Um.digOk y = true then some (Um.oneR (Um.ofR (Um.spL x).1 (Um.spL x).2 (Um.digR y))) else none := rfl
  obtain ⟨b, off, cap, rfl, hcap, hlt, c0, c1⟩ := lx_two hl
  have HX := fun w h => hid (span_l x w hx h)
  have hF := Fr.start w
  have C1 := hid c1
  clear hl hx
  cases ex : Um.spOk x
  · have HO : Hid (Um.askPow [x, y] = none) := hid (by rw [ho, if_neg (by rw [ex]; simp)])
    have HK := hid ex
    clear ho ex c1
    go_enter Tryz.func63, Tryz.ntmps63
    go_wp2_with (go_at_call 79; refine (HX _ hm).out.mono ?_; rintro e w1 ⟨hb, -, h2⟩; obtain ⟨k, rfl⟩ := h2 HK.out; replace hF := hF.step hb; clear h2)
    go_ret2
    exact ask_not HO.out (hF.alloc _).below
  · have HK := hid ex
    cases ey : Um.digOk y
    · have HO : Hid (Um.askPow [x, y] = none) := hid (by rw [ho, if_neg (by rw [ey]; simp)])
      have HY := fun w => hid (digit_l_no y w ey)
      clear ho ex ey c1
      go_enter Tryz.func63, Tryz.ntmps63
      go_upto_region 6 with (go_at_call 79; refine (HX _ hm).out.mono ?_; rintro e w1 ⟨hb, h2, -⟩; have h3 := h2 HK.out; subst h3; replace hF := hF.step hb; clear h2)
      replace hF := hF.push (Um.spL x).1 (Um.spL x).2 (b := w1.heap.size) rfl
      generalize w1.alloc (.cells #[.int .i64 (Um.spL x).1, .int .i64 (Um.spL x).2] 29) = X at *
      have c1 := (hF.below.cell (p := ⟨b, off + 1, none⟩) hlt).trans C1.out
      go_wp2_with (go_at_call 93; refine (HY _).out.mono ?_; rintro e w2 ⟨k, rfl, rfl⟩)
      go_ret2
      exact ask_not HO.out hF.below
    · have HO : Hid (Um.askPow [x, y] = some (Um.oneR (Um.ofR (Um.spL x).1 (Um.spL x).2 (Um.digR y)))) := hid (by rw [ho, if_pos ⟨ex, ey⟩])
      have HY := fun w => hid (digit_l_yes y w ey)
      have HT := fun w => hid (of_any (Um.spL x).1 (Um.spL x).2 (Um.digR y) w)
      clear ho ex ey c1
      go_enter Tryz.func63, Tryz.ntmps63
      go_upto_region 6 with (go_at_call 79; refine (HX _ hm).out.mono ?_; rintro e w1 ⟨hb, h2, -⟩; have h3 := h2 HK.out; subst h3; replace hF := hF.step hb; clear h2)
      replace hF := hF.push (Um.spL x).1 (Um.spL x).2 (b := w1.heap.size) rfl
      generalize w1.alloc (.cells #[.int .i64 (Um.spL x).1, .int .i64 (Um.spL x).2] 29) = X at *
      generalize w1.heap.size = B at *
      have c1 := (hF.below.cell (p := ⟨b, off + 1, none⟩) hlt).trans C1.out
      have x0l := (hF.at 0 rfl).lo; have x0h := (hF.at 0 rfl).hi
      generalize Um.ofR (Um.spL x).1 (Um.spL x).2 (Um.digR y) = r at *
      generalize Um.digR y = d at *
      go_wp2_with (first | (go_at_call 93; refine (HY _).out.mono ?_; rintro e w2 ⟨rfl, rfl⟩) | (go_at_call 94; refine (HT _).out.mono ?_; rintro e w3 ⟨rfl, hb⟩; replace hF := hF.step hb; clear hb HT) | (go_at_call 80; refine (aloneR_any r.1 r.2.1 r.2.2 _).mono ?_; rintro e w4 ⟨u, rfl, hu, hb⟩; replace hF := hF.step hb; clear hb))
      go_ret2
      exact ask_one HO.out hF.below hu
theorem powerOf_any (v : Value) (g : List (List UInt8)) (w : World) (hl : Lx w.heap.size w v g) (hg : ∀ x ∈ g, x.length ≤ 3000) (hm : HasLen w) :
    Calls Tryz.prog 63 #[v] w fun e w' => AskTold (Um.askPow g) w e w' := by
  by_cases h : g.length = 2
  · obtain ⟨x, y, rfl⟩ := len_two h
    exact powerOf_two v x y w hl (hg x (by simp)) hm
  · exact powerOf_len v g w hl h
end Go.Proofs.YtkfalmdckmlneaaGreatDoor
