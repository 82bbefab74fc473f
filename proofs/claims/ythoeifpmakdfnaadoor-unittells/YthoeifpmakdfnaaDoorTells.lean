/-
  Proved: 'spanlaw1.UnitTells' returns true for all a, b, s: package unit's Times, By, Print and Parse answer what the document's answer (package spanref1) says.
  Condition: errors.errorType and the tables internal/strconv.uint64pow10, math/bits.deBruijn32tab and deBruijn64tab are as the program's text lays them (the card ties them to that text).
-/
import Derived.Test.YthoeifpmakdfnaaDoorRefBy
import Derived.Test.YthoeifpmakdfnaaDoorRefRead
namespace Go.Proofs.YthoeifpmakdfnaaDoor.Tells
set_option linter.unusedSimpArgs false
open Go.RowKit

structure InvT (w0 w : World) : Prop where
  below : Below w0.heap.size w0 w
  err : HasErr w
  pow : HasPow w
  len : HasLen w
theorem InvT.start {w : World} (g : HasErr w) (h : HasPow w) (k : HasLen w) : InvT w w := ⟨Below.refl _ _, g, h, k⟩
theorem InvT.step {w0 w w' : World} (h : InvT w0 w) (k : Below w.heap.size w w') : InvT w0 w' := ⟨h.below.trans (k.mono h.below.size), h.err.below k h.err.size, h.pow.below k, h.len.below k h.len.size⟩
theorem InvT.alloc {w0 w : World} (h : InvT w0 w) (o : Obj) : InvT w0 (w.alloc o) := h.step ((Below.refl _ _).alloc (Nat.le_refl _) o)

theorem same_any (k n : Int) (w : World) (hg : HasErr w) :
    Calls Tryd.prog 13 #[errV k, .int .i64 n] w fun e w' => e = .returned (.bool (k == n)) ∧ Below w.heap.size w w' := by
  by_cases h : k = 0
  · subst h
    refine (same_nil n w).mono ?_
    rintro e w' ⟨rfl, rfl⟩
    exact ⟨rfl, Below.refl _ _⟩
  · rw [errV_some h]
    exact same_hit k n w hg

theorem min4_one (p : Int) : min4 p p p p = p := by unfold min4; omega
theorem max4_one (p : Int) : max4 p p p p = p := by unfold max4; omega
theorem fit_next (n d : Int) : fitR (Um.fl n d) (Um.ce n d) = Um.nextR n d := rfl
theorem times_eq {a b : Int} (ha : Um.may a = true) (hb : Um.may b = true) : spanTimesR a a b b = Um.timesR a b := by
  unfold spanTimesR Um.timesR
  rw [min4_one, max4_one, fit_next, if_pos ⟨ha, hb⟩]
theorem by_eq {a b : Int} (ha : Um.may a = true) (hb : Um.may b = true) : spanByAll a a b b = Um.byR a b := by
  unfold spanByAll Um.byR
  by_cases h : b = 0
  · rw [if_pos (show b ≤ 0 ∧ 0 ≤ b by omega), if_pos (show Um.may a = true ∧ Um.may b = true from ⟨ha, hb⟩), if_pos h]
  · rw [if_neg (show ¬ (b ≤ 0 ∧ 0 ≤ b) by omega), if_pos (show Um.may a = true ∧ Um.may b = true from ⟨ha, hb⟩), if_neg h]
    unfold spanByR
    rw [min4_one, max4_one, fit_next]
theorem times_no {a b : Int} (h : ¬ (Um.may a = true ∧ Um.may b = true)) : Um.timesR a b = (0, 0, 1) := by unfold Um.timesR; rw [if_neg h]
theorem by_no {a b : Int} (h : ¬ (Um.may a = true ∧ Um.may b = true)) : Um.byR a b = (0, 0, 1) := by unfold Um.byR; rw [if_neg h]

set_option maxRecDepth 100000 in
set_option maxHeartbeats 4000000 in
theorem walk_in (a b : Int) (s : ByteArray) (w : World) (hs : s.size ≤ maxLen) (hg : HasErr w) (hp : HasPow w) (hl : HasLen w) (ha : Um.may a = true) (hb : Um.may b = true) :
    Calls Tryd.prog 3 #[.int .i64 a, .int .i64 b, .string s] w fun e w' => e = .returned (.bool true) ∧ Below w.heap.size w w' := by
  have hI := InvT.start hg hp hl
  clear hg hp hl
  have HT := fun w => hid (rTimes_any a a b b w ha ha hb hb)
  have HB := fun w => hid (rBy_any a a b b w ha ha hb (Int.le_refl b))
  have HX := fun w => hid (rText_any a w ha)
  rw [times_eq ha hb] at HT
  rw [by_eq ha hb] at HB
  have HT2 := fun w => hid (times_any a b w)
  have HB2 := fun w => hid (by_any a b w)
  have HR := fun w => hid (rRead_any s w hs)
  have HP := fun w h => hid (parse_any s w hs h)
  have t1 : printT a = Um.printR a := by unfold printT; rw [ha]; rfl
  have t2 : printE a = 0 := by unfold printE; rw [ha]; rfl
  have HQ := fun w h => hid (print_any a w h)
  rw [t1, t2] at HQ
  clear t1 t2 hs
  generalize Um.timesR a b = T at *
  generalize Um.byR a b = Y at *
  generalize Um.parseR s.data.toList = Z at *
  generalize Um.printR a = X at *
  go_enter Tryd.func3, Tryd.ntmps3
  go_wp2_with (first
    | (go_at_call 9; refine (rMay_any _ _).mono ?_; rintro e w' ⟨rfl, rfl⟩)
    | (go_at_call 11; refine (rAlone_any _ _).mono ?_; rintro e w1 ⟨rfl, hb⟩; replace hI := hI.step hb; clear hb)
    | (go_at_call 10; refine (HT _).out.mono ?_; rintro e w1 ⟨rfl, hb⟩; replace hI := hI.step hb; clear hb)
    | (go_at_call 14; refine (HB _).out.mono ?_; rintro e w1 ⟨rfl, hb⟩; replace hI := hI.step hb; clear hb)
    | (go_at_call 12; refine (HT2 _).out.mono ?_; rintro e w1 ⟨rfl, hb⟩; replace hI := (hI.alloc _).step hb; clear hb)
    | (go_at_call 15; refine (HB2 _).out.mono ?_; rintro e w1 ⟨rfl, hb⟩; replace hI := (hI.alloc _).step hb; clear hb)
    | (go_at_call 13; refine (same_any _ _ _ hI.err).mono ?_; rintro e w1 ⟨rfl, hb⟩; replace hI := hI.step hb; clear hb)
    | (go_at_call 16; refine (HX _).out.mono ?_; rintro e w' ⟨rfl, rfl⟩)
    | (go_at_call 17; refine (HQ _ hI.pow).out.mono ?_; rintro e w1 ⟨rfl, hb⟩; replace hI := hI.step hb; clear hb)
    | (go_at_call 18; refine (HR _).out.mono ?_; rintro e w' ⟨rfl, rfl⟩)
    | (go_at_call 19; refine (HP _ hI.len).out.mono ?_; rintro e w1 ⟨rfl, hb⟩; replace hI := hI.step hb; clear hb))
  go_ret
  exact ⟨rfl, hI.below⟩

set_option maxRecDepth 100000 in
set_option maxHeartbeats 4000000 in
theorem walk_out1 (a b : Int) (s : ByteArray) (w : World) (hs : s.size ≤ maxLen) (hg : HasErr w) (hp : HasPow w) (hl : HasLen w) (ha : Um.may a = false)  :
    Calls Tryd.prog 3 #[.int .i64 a, .int .i64 b, .string s] w fun e w' => e = .returned (.bool true) ∧ Below w.heap.size w w' := by
  have hI := InvT.start hg hp hl
  clear hg hp hl
  have hno : ¬ (Um.may a = true ∧ Um.may b = true) := by rw [ha]; simp
  have HT2 := fun w => hid (times_any a b w)
  have HB2 := fun w => hid (by_any a b w)
  rw [times_no hno] at HT2
  rw [by_no hno] at HB2
  have HR := fun w => hid (rRead_any s w hs)
  have HP := fun w h => hid (parse_any s w hs h)
  have t1 : printT a = [] := by unfold printT; rw [ha]; rfl
  have t2 : printE a = 1 := by unfold printE; rw [ha]; rfl
  have HQ := fun w h => hid (print_any a w h)
  rw [t1, t2] at HQ
  clear t1 t2 hs hno
  generalize Um.parseR s.data.toList = Z at *
  go_enter Tryd.func3, Tryd.ntmps3
  go_wp2_with (first
    | (go_at_call 9; refine (rMay_any _ _).mono ?_; rintro e w' ⟨rfl, rfl⟩)
    | (go_at_call 12; refine (HT2 _).out.mono ?_; rintro e w1 ⟨rfl, hb⟩; replace hI := hI.step hb; clear hb)
    | (go_at_call 15; refine (HB2 _).out.mono ?_; rintro e w1 ⟨rfl, hb⟩; replace hI := hI.step hb; clear hb)
    | (go_at_call 13; refine (same_any _ _ _ hI.err).mono ?_; rintro e w1 ⟨rfl, hb⟩; replace hI := hI.step hb; clear hb)
    | (go_at_call 17; refine (HQ _ hI.pow).out.mono ?_; rintro e w1 ⟨rfl, hb⟩; replace hI := hI.step hb; clear hb)
    | (go_at_call 18; refine (HR _).out.mono ?_; rintro e w' ⟨rfl, rfl⟩)
    | (go_at_call 19; refine (HP _ hI.len).out.mono ?_; rintro e w1 ⟨rfl, hb⟩; replace hI := hI.step hb; clear hb))
  go_ret
  exact ⟨rfl, hI.below⟩

set_option maxRecDepth 100000 in
set_option maxHeartbeats 4000000 in
theorem walk_out2 (a b : Int) (s : ByteArray) (w : World) (hs : s.size ≤ maxLen) (hg : HasErr w) (hp : HasPow w) (hl : HasLen w) (ha : Um.may a = true) (hb : Um.may b = false) :
    Calls Tryd.prog 3 #[.int .i64 a, .int .i64 b, .string s] w fun e w' => e = .returned (.bool true) ∧ Below w.heap.size w w' := by
  have hI := InvT.start hg hp hl
  clear hg hp hl
  have hno : ¬ (Um.may a = true ∧ Um.may b = true) := by rw [hb]; simp
  have HT2 := fun w => hid (times_any a b w)
  have HB2 := fun w => hid (by_any a b w)
  rw [times_no hno] at HT2
  rw [by_no hno] at HB2
  have HR := fun w => hid (rRead_any s w hs)
  have HP := fun w h => hid (parse_any s w hs h)
  have HX := fun w => hid (rText_any a w ha)
  have t1 : printT a = Um.printR a := by unfold printT; rw [ha]; rfl
  have t2 : printE a = 0 := by unfold printE; rw [ha]; rfl
  have HQ := fun w h => hid (print_any a w h)
  rw [t1, t2] at HQ
  clear t1 t2 hs hno
  generalize Um.parseR s.data.toList = Z at *
  generalize Um.printR a = X at *
  go_enter Tryd.func3, Tryd.ntmps3
  go_wp2_with (first
    | (go_at_call 9; refine (rMay_any _ _).mono ?_; rintro e w' ⟨rfl, rfl⟩)
    | (go_at_call 12; refine (HT2 _).out.mono ?_; rintro e w1 ⟨rfl, hb⟩; replace hI := hI.step hb; clear hb)
    | (go_at_call 15; refine (HB2 _).out.mono ?_; rintro e w1 ⟨rfl, hb⟩; replace hI := hI.step hb; clear hb)
    | (go_at_call 13; refine (same_any _ _ _ hI.err).mono ?_; rintro e w1 ⟨rfl, hb⟩; replace hI := hI.step hb; clear hb)
    | (go_at_call 16; refine (HX _).out.mono ?_; rintro e w' ⟨rfl, rfl⟩)
    | (go_at_call 17; refine (HQ _ hI.pow).out.mono ?_; rintro e w1 ⟨rfl, hb⟩; replace hI := hI.step hb; clear hb)
    | (go_at_call 18; refine (HR _).out.mono ?_; rintro e w' ⟨rfl, rfl⟩)
    | (go_at_call 19; refine (HP _ hI.len).out.mono ?_; rintro e w1 ⟨rfl, hb⟩; replace hI := hI.step hb; clear hb))
  go_ret
  exact ⟨rfl, hI.below⟩

theorem walk (a b : Int) (s : ByteArray) (w : World) (hs : s.size ≤ maxLen) (hg : HasErr w) (hp : HasPow w) (hl : HasLen w) :
    Calls Tryd.prog 3 #[.int .i64 a, .int .i64 b, .string s] w fun e w' => e = .returned (.bool true) ∧ Below w.heap.size w w' := by
  cases ha : Um.may a
  · exact walk_out1 a b s w hs hg hp hl ha
  · cases hb : Um.may b
    · exact walk_out2 a b s w hs hg hp hl ha hb
    · exact walk_in a b s w hs hg hp hl ha hb
end Go.Proofs.YthoeifpmakdfnaaDoor.Tells
