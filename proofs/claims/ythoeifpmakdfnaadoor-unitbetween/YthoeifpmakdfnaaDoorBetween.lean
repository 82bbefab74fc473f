/-
  Proved: 'spanlaw1.UnitBetween' returns true for all a, b, s: what two numbers are, times each other (and by each other), lies between both told, and these are no more than one apart; a number is read as it was written, and a text that is read is written as it was.
  Condition: the tables internal/strconv.uint64pow10, math/bits.deBruijn32tab and deBruijn64tab are as the program's text lays them (the card ties them to that text).
-/
import Derived.Test.YthoeifpmakdfnaaDoorPrint
import Derived.Deep.DeepCutAuto
namespace Go.Proofs.YthoeifpmakdfnaaDoor.Between
set_option linter.unusedSimpArgs false
open Go.RowKit

structure InvP (w0 w : World) : Prop where
  below : Below w0.heap.size w0 w
  pow : HasPow w
  len : HasLen w
theorem InvP.start {w : World} (h : HasPow w) (k : HasLen w) : InvP w w := ⟨Below.refl _ _, h, k⟩
theorem InvP.step {w0 w w' : World} (h : InvP w0 w) (k : Below w.heap.size w w') : InvP w0 w' := ⟨h.below.trans (k.mono h.below.size), h.pow.below k, h.len.below k h.len.size⟩

/-- What two times each other come to, for the law. -/
theorem times_cases (a b : Int) : (∃ k, ¬ k = 0 ∧ Um.timesR a b = (0, 0, k)) ∨
    (∃ lo hi, Um.timesR a b = (lo, hi, 0) ∧ Um.may lo = true ∧ Um.may hi = true ∧ lo = Um.fl (a * b) 1000 ∧ hi = Um.ce (a * b) 1000 ∧ -1000000000000000000 ≤ a * b ∧ a * b ≤ 1000000000000000000) := by
  unfold Um.timesR
  by_cases h : Um.may a = true ∧ Um.may b = true
  · rw [if_pos h]
    have hm := Um.mul_bound h.1 h.2
    unfold Um.nextR
    by_cases h2 : Um.may (Um.fl (a * b) 1000) = true ∧ Um.may (Um.ce (a * b) 1000) = true
    · rw [if_pos h2]
      exact .inr ⟨_, _, rfl, h2.1, h2.2, rfl, rfl, hm.1, hm.2⟩
    · rw [if_neg h2]
      exact .inl ⟨4, by decide, rfl⟩
  · rw [if_neg h]
    exact .inl ⟨1, by decide, rfl⟩
theorem by_cases' (a b : Int) : (∃ k, ¬ k = 0 ∧ Um.byR a b = (0, 0, k)) ∨
    (∃ lo hi, Um.byR a b = (lo, hi, 0) ∧ Um.may a = true ∧ Um.may b = true ∧ ¬ b = 0 ∧ Um.may lo = true ∧ Um.may hi = true ∧ lo = Um.fl (a * 1000) b ∧ hi = Um.ce (a * 1000) b) := by
  unfold Um.byR
  by_cases h : Um.may a = true ∧ Um.may b = true
  · rw [if_pos h]
    by_cases hb : b = 0
    · rw [if_pos hb]; exact .inl ⟨8, by decide, rfl⟩
    · rw [if_neg hb]
      unfold Um.nextR
      by_cases h2 : Um.may (Um.fl (a * 1000) b) = true ∧ Um.may (Um.ce (a * 1000) b) = true
      · rw [if_pos h2]
        exact .inr ⟨_, _, rfl, h.1, h.2, hb, h2.1, h2.2, rfl, rfl⟩
      · rw [if_neg h2]
        exact .inl ⟨4, by decide, rfl⟩
  · rw [if_neg h]
    exact .inl ⟨1, by decide, rfl⟩
theorem times_closed : Um.timesR 1500 (-3) = (-5, -4, 0) := by decide

theorem times_zero (p : Int) : (Um.fl p 1000 == Um.ce p 1000) = (p.tmod 1000 == 0) := by
  cases hz : (p.tmod 1000 == 0)
  · cases h2 : (!(decide (p.tmod 1000 < 0) == decide ((1000 : Int) < 0)))
    · obtain ⟨x, y⟩ := Um.way_up (by decide) hz h2
      rw [x, y, beq_eq_false_iff_ne]; omega
    · obtain ⟨x, y⟩ := Um.way_down (by decide) hz h2
      rw [x, y, beq_eq_false_iff_ne]; omega
  · obtain ⟨x, y⟩ := Um.way_zero (by decide) hz
    rw [x, y]; simp

set_option maxRecDepth 100000 in
set_option maxHeartbeats 4000000 in
theorem walk (a b : Int) (s : ByteArray) (w : World) (hs : s.size ≤ maxLen) (hp : HasPow w) (hl : HasLen w) :
    Calls Tryd.prog 4 #[.int .i64 a, .int .i64 b, .string s] w fun e w' => e = .returned (.bool true) ∧ Below w.heap.size w w' := by
  have hI := InvP.start hp hl
  clear hp hl
  have c1 := times_closed
  have v0 := errV_none
  have q1 := errG
  have q2 := errGn
  have q3 := errE
  have q4 := errN
  go_enter Tryd.func4, Tryd.ntmps4
  go_upto_if 39 with (first | (go_at_call 12; refine (times_any _ _ _).mono ?_; rintro e w1 ⟨rfl, hb⟩; replace hI := hI.step hb; clear hb))
  go_cut [7, 8] (fun _ _ wr => InvP w wr)
  case first =>
    rcases times_cases a b with ⟨k, hk, e⟩ | ⟨lo, hi, e, ml, mh, hlo, hhi, p1, p2⟩
    · have kk : ((Um.timesR a b).2.2 == 0) = false := by rw [e]; simpa using hk
      clear hs
      go_wp2
      go_meet
      case rel => exact hI
    · have b1 := (Um.may_iff lo).1 ml
      have b2 := (Um.may_iff hi).1 mh
      have s1 := Um.fl_spec_pos (n := a * b) (d := 1000) (by decide)
      have s2 := Um.ce_spec_pos (n := a * b) (d := 1000) (by decide)
      have s3 := Um.fl_le_ce (a * b) 1000 (by decide)
      have s4 := times_zero (a * b)
      rw [← hlo] at s1
      rw [← hhi] at s2
      rw [← hlo, ← hhi] at s3 s4
      clear hlo hhi ml mh hs
      generalize hpp : a * b = p at *
      have f1 : decide (p < lo * 1000) = false := by simp; omega
      have f2 : decide (hi * 1000 < p) = false := by simp; omega
      have f3 : decide (1 < hi - lo) = false := by simp; omega
      have kk : ((Um.timesR a b).2.2 == 0) = true := by rw [e]; rfl
      have l1 := b1.1
      have l2 := b1.2
      have h1 := b2.1
      have h2 := b2.2
      clear s1 s2 s3 b1 b2
      cases hz : (p.tmod 1000 == 0)
      · have f4 : (lo == hi) = false := by rw [s4, hz]
        clear s4
        go_wp2
        go_meet
        case rel => exact hI
      · have f4 : (lo == hi) = true := by rw [s4, hz]
        clear s4
        go_wp2
        go_meet
        case rel => exact hI
  case rest =>
    have hI := hcut
    clear hcut
    go_upto_if 79 with (first | (go_at_call 15; refine (by_any _ _ _).mono ?_; rintro e w1 ⟨rfl, hb⟩; replace hI := hI.step hb; clear hb))
    go_cut [7, 8] (fun _ _ wr => InvP w wr)
    case first =>
      rcases by_cases' a b with ⟨k, hk, e⟩ | ⟨lo, hi, e, ma, mb, hb0, ml, mh, hlo, hhi⟩
      · have kk : ((Um.byR a b).2.2 == 0) = false := by rw [e]; simpa using hk
        clear hs
        go_wp2
        go_meet
        case rel => exact hI
      · have kk : ((Um.byR a b).2.2 == 0) = true := by rw [e]; rfl
        have b1 := (Um.may_iff lo).1 ml
        have b2 := (Um.may_iff hi).1 mh
        have b3 := (Um.may_iff a).1 ma
        have m1 := Um.mul_bound ml mb
        have m2 := Um.mul_bound mh mb
        have s3 := Um.fl_le_ce (a * 1000) b hb0
        rw [← hlo, ← hhi] at s3
        have f3 : decide (1 < hi - lo) = false := by simp; omega
        have f4 : decide (hi < lo) = false := by simp; omega
        rcases (by omega : 0 < b ∨ b < 0) with hpos | hneg
        · have s1 := (Um.fl_spec_pos (n := a * 1000) hpos).1
          have s2 := (Um.ce_spec_pos (n := a * 1000) hpos).1
          rw [← hlo, Int.mul_comm b] at s1
          rw [← hhi, Int.mul_comm b] at s2
          clear hlo hhi ml mh ma mb hs
          have g1 : decide (0 < b) = true := by simpa using hpos
          have g2 : decide (b < 0) = false := by simp; omega
          generalize hq1 : lo * b = x at *
          generalize hq2 : hi * b = y at *
          have f1 : decide (a * 1000 < x) = false := by simp; omega
          have f2 : decide (y < a * 1000) = false := by simp; omega
          have l1 := b1.1
          have l2 := b1.2
          have h1 := b2.1
          have h2 := b2.2
          have i1 := b3.1
          have i2 := b3.2
          have j1 := m1.1
          have j2 := m1.2
          have k1 := m2.1
          have k2 := m2.2
          clear s1 s2 s3 b1 b2 b3 m1 m2
          go_wp2
          go_meet
          case rel => exact hI
        · have s1 := (Um.fl_spec_neg (n := a * 1000) hneg).1
          have s2 := (Um.ce_spec_neg (n := a * 1000) hneg).1
          rw [← hlo, Int.mul_comm b] at s1
          rw [← hhi, Int.mul_comm b] at s2
          clear hlo hhi ml mh ma mb hs
          have g1 : decide (0 < b) = false := by simp; omega
          have g2 : decide (b < 0) = true := by simpa using hneg
          generalize hq1 : lo * b = x at *
          generalize hq2 : hi * b = y at *
          have f1 : decide (x < a * 1000) = false := by simp; omega
          have f2 : decide (a * 1000 < y) = false := by simp; omega
          have l1 := b1.1
          have l2 := b1.2
          have h1 := b2.1
          have h2 := b2.2
          have i1 := b3.1
          have i2 := b3.2
          have j1 := m1.1
          have j2 := m1.2
          have k1 := m2.1
          have k2 := m2.2
          clear s1 s2 s3 b1 b2 b3 m1 m2
          go_wp2
          go_meet
          case rel => exact hI
    case rest =>
      have hI := hcut
      clear hcut
      go_upto_if 135 with (first | (go_at_call 17; refine (print_any _ _ hI.pow).mono ?_; rintro e w1 ⟨rfl, hb⟩; replace hI := hI.step hb; clear hb))
      go_cut [12, 13] (fun _ _ wr => InvP w wr)
      case first =>
        cases hm : Um.may a
        · have kk : (printE a == 0) = false := by unfold printE; rw [hm]; rfl
          clear hs
          go_wp2
          go_meet
          case rel => exact hI
        · have kk : (printE a == 0) = true := by unfold printE; rw [hm]; rfl
          have h1 : printT a = Um.printR a := by unfold printT; rw [hm]; rfl
          have hl := printR_length hm
          have hr := Um.parse_print hm
          rw [← h1] at hl hr
          clear h1 hm hs
          generalize printT a = t at *
          have hsz : (⟨t.toArray⟩ : ByteArray).size ≤ maxLen := by rw [size_list]; unfold maxLen; omega
          have hz : (⟨t.toArray⟩ : ByteArray).data.toList = t := list_list t
          go_wp2_with (first | (go_at_call 19; refine (parse_any _ _ hsz hI.len).mono ?_; rintro e w1 ⟨rfl, hb⟩; replace hI := hI.step hb; clear hb))
          go_meet
          case rel => exact hI
      case rest =>
        have hI := hcut
        clear hcut
        have hp := @Um.print_parse s.data.toList
        cases hk : ((Um.parseR s.data.toList).2 == 0)
        · have hk' : ((Um.parseR s.data.toList).2 != 0) = true := by rw [bne, hk]; rfl
          clear hp
          go_wp2_with (first | (go_at_call 19; refine (parse_any _ _ hs hI.len).mono ?_; rintro e w1 ⟨rfl, hb⟩; replace hI := hI.step hb; clear hb))
          go_ret
          exact ⟨rfl, hI.below⟩
        · have hk' : ((Um.parseR s.data.toList).2 != 0) = false := by rw [bne, hk]; rfl
          obtain ⟨hm, hr⟩ := hp (by simpa using hk)
          have HP := hid (parse_any s)
          generalize hnn : Um.parseR s.data.toList = r at *
          have ke : (printE r.1 == 0) = true := by unfold printE; rw [hm]; rfl
          have h1 : printT r.1 = Um.printR r.1 := by unfold printT; rw [hm]; rfl
          have hq : Hid ((printT r.1 == s.toList) = true) := hid (by rw [h1, hr, Lib.toList_data]; exact beq_self_eq_true _)
          clear hm hr h1 hnn hp
          go_wp2_with (first | (go_at_call 19; refine (HP.out _ hs hI.len).mono ?_; rintro e w1 ⟨rfl, hb⟩; replace hI := hI.step hb; clear hb) | (go_at_call 17; refine (print_any _ _ hI.pow).mono ?_; rintro e w1 ⟨rfl, hb⟩; replace hI := hI.step hb; clear hb))
          go_ret
          exact ⟨ret_bool hq.out, hI.below⟩
end Go.Proofs.YthoeifpmakdfnaaDoor.Between
