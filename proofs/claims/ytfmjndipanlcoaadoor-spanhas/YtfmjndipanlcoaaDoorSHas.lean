/-
  The walk over 'spanlaw1.SpanHas': for all a, b, x, y it returns true.
-/
import Derived.Test.YtfmjndipanlcoaaDoorSpanAdd
import Derived.Test.YtfmjndipanlcoaaDoorSpanHull
import Derived.Test.YtfmjndipanlcoaaDoorSpanTimes
import Derived.Test.YtfmjndipanlcoaaDoorSpanBy
import Derived.Test.YtfmjndipanlcoaaDoorMems
import Derived.Test.YtfmjndipanlcoaaDoorSame
import Derived.Deep.DeepCutAuto
namespace Go.Proofs.YtfmjndipanlcoaaDoor.SHas
set_option linter.unusedSimpArgs false
open Go.RowKit

/-- What is carried along the law: both spans in their blocks; nothing that was there has turned. -/
structure Sh (w wr : World) (al ah bl bh : Int) : Prop where
  below : Below w.heap.size w wr
  err : HasErr wr
  g : 0 < w.heap.size
  a : Sp wr w.heap.size al ah
  b : Sp wr (w.heap.size + 1) bl bh
theorem Sh.step {w wr w' : World} {al ah bl bh : Int} (h : Sh w wr al ah bl bh) (hb : Below wr.heap.size wr w') : Sh w w' al ah bl bh :=
  ⟨h.below.trans (hb.mono h.below.size), h.err.below hb h.err.size, h.g, h.a.step hb, h.b.step hb⟩
theorem Sh.alloc {w wr : World} {al ah bl bh : Int} (h : Sh w wr al ah bl bh) (o : Obj) : Sh w (wr.alloc o) al ah bl bh :=
  h.step ((Below.refl _ _).alloc (Nat.le_refl _) o)
theorem Sh.far {w wr : World} {al ah bl bh : Int} (h : Sh w wr al ah bl bh) (X i : Nat) (v : Value) (hX : w.heap.size + 1 < X) : Sh w (wr.setCell ⟨X, i, none⟩ v) al ah bl bh := by
  have hb : Below w.heap.size w (wr.setCell ⟨X, i, none⟩ v) := h.below.setCell (by simp only []; omega) v
  have hc : Below w.heap.size wr (wr.setCell ⟨X, i, none⟩ v) := (Below.refl _ _).setCell (by simp only []; omega) v
  exact ⟨hb, h.err.below hc h.g, h.g, h.a.other _ _ (by simp only []; omega), h.b.other _ _ (by simp only []; omega)⟩
theorem Sh.start {w : World} (hg : HasErr w) (al ah bl bh : Int) : Sh w ((w.alloc (.cells #[.int .i64 al, .int .i64 ah] 23)).alloc (.cells #[.int .i64 bl, .int .i64 bh] 23)) al ah bl bh := by
  refine ⟨by go_grown, hg.below (B := w.heap.size) (by go_grown) hg.size, hg.size, (Sp.new w al ah).alloc _, ?_⟩
  simpa only [World.size_alloc] using Sp.new (w.alloc (.cells #[.int .i64 al, .int .i64 ah] 23)) bl bh

theorem fact : Um.made (Um.stimesR (-2000) 3000 (-1000) 4000) (-2000) 3000 (-1000) 4000 = (-8000, 12000, 0) := by decide +kernel

theorem times_fact (w : World) : Calls Tryd.prog 20 #[.agg #[.int .i64 (-2000), .int .i64 3000], .agg #[.int .i64 (-1000), .int .i64 4000]] w fun e w' => e = .returned (.tuple #[.agg #[.int .i64 (-8000), .int .i64 12000], .nilIface]) ∧ Below w.heap.size w w' := by
  have h := stimes_any (-2000) 3000 (-1000) 4000 w
  rw [fact] at h
  exact h

def inside (lo hi n : Int) : Bool := decide (lo ≤ n) && decide (n ≤ hi)
theorem inside_iff (lo hi n : Int) : inside lo hi n = true ↔ lo ≤ n ∧ n ≤ hi := by simp [inside]
theorem inside_not (lo hi n : Int) : inside lo hi n = false ↔ ¬ (lo ≤ n ∧ n ≤ hi) := by
  rw [← inside_iff]; cases inside lo hi n <;> simp
theorem vb {a b : Bool} (h : a = b) : Value.bool a = Value.bool b := by rw [h]

set_option maxRecDepth 100000 in
set_option maxHeartbeats 2000000 in
theorem walk_first (al ah bl bh x y : Int) (w : World) (hg : HasErr w) (h : ¬ Um.chk al ah = 0) :
    Calls Tryd.prog 4 #[.agg #[.int .i64 al, .int .i64 ah], .agg #[.int .i64 bl, .int .i64 bh], .int .i64 x, .int .i64 y] w fun e w' => e = .returned (.bool true) ∧ Below w.heap.size w w' := by
  have q1 := errG
  have q2 := errGn
  have q3 := errE
  have q4 := errN
  have v0 := errV_none
  have hS := Sh.start hg al ah bl bh
  have k1 : (Um.chk al ah != 0) = true := by simpa using h
  clear h hg
  go_enter Tryd.func4, Tryd.ntmps4
  go_wp2_with (first | (go_at_call 20; refine (times_fact _).mono ?_; rintro e w1 ⟨rfl, hb⟩; replace hS := hS.step hb; clear hb; have z1 := (hS.alloc (.cells #[.int .i64 (-8000), .int .i64 12000] 23)).a.lo; have z2 := (hS.alloc (.cells #[.int .i64 (-8000), .int .i64 12000] 23)).a.hi; have z3 := (hS.alloc (.cells #[.int .i64 (-8000), .int .i64 12000] 23)).b.lo; have z4 := (hS.alloc (.cells #[.int .i64 (-8000), .int .i64 12000] 23)).b.hi; replace hS := hS.alloc (.cells #[.int .i64 (-8000), .int .i64 12000] 23)) | ((fail_if_success (have := hD)); go_at_call 10; refine (check_any _ _ _).mono ?_; rintro e w2 ⟨rfl, rfl⟩; clear z1 z2 z3 z4; replace hS := hS.alloc (.cells #[.int .i64 al, .int .i64 ah] 23); have z1 := hS.a.lo; have z2 := hS.a.hi; have z3 := hS.b.lo; have z4 := hS.b.hi; have hD := True.intro))
  go_returns
  exact ⟨rfl, hS.below⟩

set_option maxRecDepth 100000 in
set_option maxHeartbeats 2000000 in
theorem walk_second (al ah bl bh x y : Int) (w : World) (hg : HasErr w) (h : Um.chk al ah = 0) (h2 : ¬ Um.chk bl bh = 0) :
    Calls Tryd.prog 4 #[.agg #[.int .i64 al, .int .i64 ah], .agg #[.int .i64 bl, .int .i64 bh], .int .i64 x, .int .i64 y] w fun e w' => e = .returned (.bool true) ∧ Below w.heap.size w w' := by
  have q1 := errG
  have q2 := errGn
  have q3 := errE
  have q4 := errN
  have v0 := errV_none
  have hS := Sh.start hg al ah bl bh
  have k1 : (Um.chk al ah != 0) = false := by simpa using h
  have k2 : (Um.chk bl bh != 0) = true := by simpa using h2
  clear h h2 hg
  go_enter Tryd.func4, Tryd.ntmps4
  go_wp2_with (first | (go_at_call 20; refine (times_fact _).mono ?_; rintro e w1 ⟨rfl, hb⟩; replace hS := hS.step hb; clear hb; have z1 := (hS.alloc (.cells #[.int .i64 (-8000), .int .i64 12000] 23)).a.lo; have z2 := (hS.alloc (.cells #[.int .i64 (-8000), .int .i64 12000] 23)).a.hi; have z3 := (hS.alloc (.cells #[.int .i64 (-8000), .int .i64 12000] 23)).b.lo; have z4 := (hS.alloc (.cells #[.int .i64 (-8000), .int .i64 12000] 23)).b.hi; replace hS := hS.alloc (.cells #[.int .i64 (-8000), .int .i64 12000] 23)) | ((fail_if_success (have := hD)); go_at_call 10; refine (check_any _ _ _).mono ?_; rintro e w2 ⟨rfl, rfl⟩; clear z1 z2 z3 z4; replace hS := hS.alloc (.cells #[.int .i64 al, .int .i64 ah] 23); have z1 := hS.a.lo; have z2 := hS.a.hi; have z3 := hS.b.lo; have z4 := hS.b.hi; have hD := True.intro) | (go_at_call 10; refine (check_any _ _ _).mono ?_; rintro e w2 ⟨rfl, rfl⟩; clear z1 z2 z3 z4; replace hS := hS.alloc (.cells #[.int .i64 bl, .int .i64 bh] 23); have z1 := hS.a.lo; have z2 := hS.a.hi; have z3 := hS.b.lo; have z4 := hS.b.hi))
  go_returns
  exact ⟨rfl, hS.below⟩

theorem hull_right {al ah bl bh : Int} (h1 : Um.chk al ah = 0) (h2 : Um.chk bl bh = 0) : (Um.made (Um.hullR al ah bl bh) al ah bl bh) = (min al bl, max ah bh, 0) := by
  rw [Um.made_good h1 h2]; rfl
theorem meet_cases {al ah bl bh : Int} (h1 : Um.chk al ah = 0) (h2 : Um.chk bl bh = 0) :
    ((Um.made (Um.meetR al ah bl bh) al ah bl bh) = (max al bl, min ah bh, 0) ∧ max al bl ≤ min ah bh) ∨ ((Um.made (Um.meetR al ah bl bh) al ah bl bh) = (0, 0, 5) ∧ ¬ max al bl ≤ min ah bh) := by
  rw [Um.made_good h1 h2]
  by_cases h : max al bl ≤ min ah bh
  · exact .inl ⟨Um.meet_yes h, h⟩
  · exact .inr ⟨Um.meet_no h, h⟩
theorem add_cases {al ah bl bh : Int} (h1 : Um.chk al ah = 0) (h2 : Um.chk bl bh = 0) : (Um.made (Um.addR al ah bl bh) al ah bl bh) = (0, 0, 4) ∨ (Um.made (Um.addR al ah bl bh) al ah bl bh) = (al + bl, ah + bh, 0) := by
  rw [Um.made_good h1 h2]; unfold Um.addR
  rcases Um.fit_cases (al + bl) (ah + bh) with e | ⟨e, _⟩
  · exact .inl e
  · exact .inr e
theorem less_cases {al ah bl bh : Int} (h1 : Um.chk al ah = 0) (h2 : Um.chk bl bh = 0) : (Um.made (Um.lessR al ah bl bh) al ah bl bh) = (0, 0, 4) ∨ (Um.made (Um.lessR al ah bl bh) al ah bl bh) = (al - bh, ah - bl, 0) := by
  rw [Um.made_good h1 h2]; unfold Um.lessR
  rcases Um.fit_cases (al - bh) (ah - bl) with e | ⟨e, _⟩
  · exact .inl e
  · exact .inr e
theorem times_cases {al ah bl bh x y : Int} (h1 : Um.chk al ah = 0) (h2 : Um.chk bl bh = 0) (i1 : al ≤ x) (i2 : x ≤ ah) (i3 : bl ≤ y) (i4 : y ≤ bh) :
    (∃ k, ¬ k = 0 ∧ ((Um.made (Um.stimesR al ah bl bh) al ah bl bh)).2.2 = k) ∨ (∃ lo hi, (Um.made (Um.stimesR al ah bl bh) al ah bl bh) = (lo, hi, 0) ∧ Um.may lo = true ∧ Um.may hi = true ∧ lo * 1000 ≤ x * y ∧ x * y ≤ hi * 1000) := by
  rw [Um.made_good h1 h2]
  by_cases h : (Um.stimesR al ah bl bh).2.2 = 0
  · obtain ⟨m1, m2, s1, s2⟩ := Um.stimes_has i1 i2 i3 i4 h
    refine .inr ⟨_, _, ?_, m1, m2, s1, s2⟩
    exact Prod.ext rfl (Prod.ext rfl h)
  · exact .inl ⟨_, h, rfl⟩
theorem by_cases' {al ah bl bh x y : Int} (h1 : Um.chk al ah = 0) (h2 : Um.chk bl bh = 0) (i1 : al ≤ x) (i2 : x ≤ ah) (i3 : bl ≤ y) (i4 : y ≤ bh) :
    (∃ k, ¬ k = 0 ∧ ((Um.made (Um.sbyR al ah bl bh) al ah bl bh)).2.2 = k) ∨ (∃ lo hi, (Um.made (Um.sbyR al ah bl bh) al ah bl bh) = (lo, hi, 0) ∧ Um.may lo = true ∧ Um.may hi = true ∧
      ((0 < y ∧ lo * y ≤ 1000 * x ∧ 1000 * x ≤ hi * y) ∨ (y < 0 ∧ 1000 * x ≤ lo * y ∧ hi * y ≤ 1000 * x))) := by
  rw [Um.made_good h1 h2]
  by_cases h : (Um.sbyR al ah bl bh).2.2 = 0
  · obtain ⟨m1, m2, s1⟩ := Um.sby_has i1 i2 i3 i4 h
    refine .inr ⟨_, _, ?_, m1, m2, s1⟩
    exact Prod.ext rfl (Prod.ext rfl h)
  · exact .inl ⟨_, h, rfl⟩

set_option maxRecDepth 100000 in
set_option maxHeartbeats 4000000 in
theorem walk_right (al ah bl bh x y : Int) (w : World) (hg : HasErr w) (h : Um.chk al ah = 0) (h2 : Um.chk bl bh = 0) :
    Calls Tryd.prog 4 #[.agg #[.int .i64 al, .int .i64 ah], .agg #[.int .i64 bl, .int .i64 bh], .int .i64 x, .int .i64 y] w fun e w' => e = .returned (.bool true) ∧ Below w.heap.size w w' := by
  have q1 := errG
  have q2 := errGn
  have q3 := errE
  have q4 := errN
  have v0 := errV_none
  have hS := Sh.start hg al ah bl bh
  have k1 : (Um.chk al ah != 0) = false := by simpa using h
  have k2 : (Um.chk bl bh != 0) = false := by simpa using h2
  have H1 := hid h
  have H2 := hid h2
  clear h h2 hg
  obtain ⟨A, hA⟩ : ∃ A, A = inside al ah x := ⟨_, rfl⟩
  obtain ⟨B, hB⟩ : ∃ B, B = inside bl bh y := ⟨_, rfl⟩
  obtain ⟨C, hC⟩ : ∃ C, C = inside bl bh x := ⟨_, rfl⟩
  have HA := hid hA
  have HB := hid hB
  have HC := hid hC
  clear hA hB hC
  go_enter Tryd.func4, Tryd.ntmps4
  go_upto_region 6 with (first | (go_at_call 20; refine (times_fact _).mono ?_; rintro e w1 ⟨rfl, hb⟩; replace hS := hS.step hb; clear hb; have z1 := (hS.alloc (.cells #[.int .i64 (-8000), .int .i64 12000] 23)).a.lo; have z2 := (hS.alloc (.cells #[.int .i64 (-8000), .int .i64 12000] 23)).a.hi; have z3 := (hS.alloc (.cells #[.int .i64 (-8000), .int .i64 12000] 23)).b.lo; have z4 := (hS.alloc (.cells #[.int .i64 (-8000), .int .i64 12000] 23)).b.hi; replace hS := hS.alloc (.cells #[.int .i64 (-8000), .int .i64 12000] 23)) | ((fail_if_success (have := hD)); go_at_call 10; refine (check_any _ _ _).mono ?_; rintro e w2 ⟨rfl, rfl⟩; clear z1 z2 z3 z4; replace hS := hS.alloc (.cells #[.int .i64 al, .int .i64 ah] 23); have z1 := hS.a.lo; have z2 := hS.a.hi; have z3 := hS.b.lo; have z4 := hS.b.hi; have hD := True.intro) | (go_at_call 10; refine (check_any _ _ _).mono ?_; rintro e w2 ⟨rfl, rfl⟩; clear z1 z2 z3 z4; replace hS := hS.alloc (.cells #[.int .i64 bl, .int .i64 bh] 23); have z1 := hS.a.lo; have z2 := hS.a.hi; have z3 := hS.b.lo; have z4 := hS.b.hi))
  clear hD
  go_cut [11] from 46 to 55 (fun v wr => v = .bool A ∧ Sh w wr al ah bl bh)
  case first =>
    clear q1 q2 q3 q4 v0 k1 k2
    by_cases h : al ≤ x
    · have h' : decide (al ≤ x) = true := by simpa using h
      clear h
      go_wp2
      go_meet
      case rel => exact ⟨vb (by rw [HA.out, inside, h']; rfl), hS⟩
    · have h' : decide (al ≤ x) = false := by simpa using h
      clear h
      go_wp2
      go_meet
      case rel => exact ⟨vb (by rw [HA.out, inside, h']; rfl), hS⟩
  case rest =>
    clear hS z1 z2 z3 z4
    obtain ⟨rfl, hS⟩ := hcut
    have z1 := hS.a.lo
    have z2 := hS.a.hi
    have z3 := hS.b.lo
    have z4 := hS.b.hi
    go_upto_region 7 with fail
    go_cut [12] from 56 to 65 (fun v wr => v = .bool B ∧ Sh w wr al ah bl bh)
    case first =>
      clear q1 q2 q3 q4 v0 k1 k2
      by_cases h : bl ≤ y
      · have h' : decide (bl ≤ y) = true := by simpa using h
        clear h
        go_wp2
        go_meet
        case rel => exact ⟨vb (by rw [HB.out, inside, h']; rfl), hS⟩
      · have h' : decide (bl ≤ y) = false := by simpa using h
        clear h
        go_wp2
        go_meet
        case rel => exact ⟨vb (by rw [HB.out, inside, h']; rfl), hS⟩
    case rest =>
      clear hS z1 z2 z3 z4
      obtain ⟨rfl, hS⟩ := hcut
      have z1 := hS.a.lo
      have z2 := hS.a.hi
      have z3 := hS.b.lo
      have z4 := hS.b.hi
      go_upto_region 8 with fail
      go_cut [13] from 66 to 75 (fun v wr => v = .bool C ∧ Sh w wr al ah bl bh)
      case first =>
        clear q1 q2 q3 q4 v0 k1 k2
        by_cases h : bl ≤ x
        · have h' : decide (bl ≤ x) = true := by simpa using h
          clear h
          go_wp2
          go_meet
          case rel => exact ⟨vb (by rw [HC.out, inside, h']; rfl), hS⟩
        · have h' : decide (bl ≤ x) = false := by simpa using h
          clear h
          go_wp2
          go_meet
          case rel => exact ⟨vb (by rw [HC.out, inside, h']; rfl), hS⟩
      case rest =>
        clear hS z1 z2 z3 z4
        obtain ⟨rfl, hS⟩ := hcut
        have z1 := hS.a.lo
        have z2 := hS.a.hi
        have z3 := hS.b.lo
        have z4 := hS.b.hi
        go_upto_region 10 with (go_at_call 22; refine (hull_any _ _ _ _ _).mono ?_; rintro e w3 ⟨rfl, hb⟩; replace hS := (hS.step hb).alloc (.cells #[.int .i64 ((Um.made (Um.hullR al ah bl bh) al ah bl bh)).1, .int .i64 ((Um.made (Um.hullR al ah bl bh) al ah bl bh)).2.1] 23); clear hb z1 z2 z3 z4)
        go_cut [101, 15] from 76 to 101 (fun v _ wr => v = .bool false ∧ Sh w wr al ah bl bh)
        case first =>
          have eH := hull_right H1.out H2.out
          clear k1 k2
          cases A
          · cases C
            · go_wp2
              go_meet
              case rel => exact ⟨rfl, by first | exact hS | (rw [eH] at hS; exact hS)⟩
            · have hc := (inside_iff bl bh x).1 HC.out.symm
              have f1 : decide (x < min al bl) = false := by simp; omega
              have f2 : decide (max ah bh < x) = false := by simp; omega
              clear hc
              go_wp2
              go_meet
              case rel => exact ⟨rfl, by first | exact hS | (rw [eH] at hS; exact hS)⟩
          · have hc := (inside_iff al ah x).1 HA.out.symm
            have f1 : decide (x < min al bl) = false := by simp; omega
            have f2 : decide (max ah bh < x) = false := by simp; omega
            clear hc
            go_wp2
            go_meet
            case rel => exact ⟨rfl, by first | exact hS | (rw [eH] at hS; exact hS)⟩
        case rest =>
          clear hS
          obtain ⟨rfl, hS⟩ := hcut
          have z1 := hS.a.lo
          have z2 := hS.a.hi
          have z3 := hS.b.lo
          have z4 := hS.b.hi
          go_upto_region 13 with (go_at_call 23; refine (meet_any _ _ _ _ _).mono ?_; rintro e w4 ⟨rfl, hb⟩; replace hS := (hS.step hb).alloc (.cells #[.int .i64 ((Um.made (Um.meetR al ah bl bh) al ah bl bh)).1, .int .i64 ((Um.made (Um.meetR al ah bl bh) al ah bl bh)).2.1] 23); clear hb z1 z2 z3 z4)
          go_cut [18, 17] from 102 to 121 (fun v e wr => v = .bool (A && C) ∧ e = errV ((Um.made (Um.meetR al ah bl bh) al ah bl bh)).2.2 ∧ Sh w wr al ah bl bh)
          case first =>
            rcases meet_cases H1.out H2.out with ⟨eM, hm⟩ | ⟨eM, hm⟩
            · by_cases h : max al bl ≤ x
              · have h' : decide (max al bl ≤ x) = true := by simp only [decide_eq_true_eq]; exact h
                have hr : decide (x ≤ min ah bh) = (A && C) := by
                  rw [HA.out, HC.out]; apply Bool.eq_iff_iff.2; simp [inside]; omega
                have HRR := hid hr
                clear hr hm h k1 k2
                go_wp2
                go_meet
                case rel => exact ⟨vb HRR.out, by rw [eM], by first | exact hS | (rw [eM] at hS; exact hS)⟩
              · have h' : decide (max al bl ≤ x) = false := by simp only [decide_eq_false_iff_not]; exact h
                have hr : false = (A && C) := by
                  rw [HA.out, HC.out]; apply Bool.eq_iff_iff.2; simp [inside]; omega
                have HRR := hid hr
                clear hr hm h k1 k2
                go_wp2
                go_meet
                case rel => exact ⟨vb HRR.out, by rw [eM], by first | exact hS | (rw [eM] at hS; exact hS)⟩
            · have hr : false = (A && C) := by
                rw [HA.out, HC.out]; apply Bool.eq_iff_iff.2; simp [inside]; omega
              have HRR := hid hr
              clear hr hm k1 k2
              go_wp2
              go_meet
              case rel => exact ⟨vb HRR.out, by rw [eM], by first | exact hS | (rw [eM] at hS; exact hS)⟩
          case rest =>
            clear hS
            obtain ⟨rfl, rfl, hS⟩ := hcut
            go_upto_region 14 with fail
            go_cut [136, 17] from 122 to 136 (fun v _ wr => v = .bool false ∧ Sh w wr al ah bl bh)
            case first =>
              rcases meet_cases H1.out H2.out with ⟨eM, hm⟩ | ⟨eM, hm⟩
              · clear hm k1 k2
                cases A <;> cases C
                all_goals
                  go_wp2_with (go_at_call 9; refine (same_any _ _ _ hS.err).mono ?_; rintro e w5 ⟨rfl, hb⟩; replace hS := hS.step hb; clear hb)
                  go_meet
                  case rel => exact ⟨rfl, hS⟩
              · clear hm k1 k2
                cases A <;> cases C
                all_goals
                  go_wp2_with (go_at_call 9; refine (same_any _ _ _ hS.err).mono ?_; rintro e w5 ⟨rfl, hb⟩; replace hS := hS.step hb; clear hb)
                  go_meet
                  case rel => exact ⟨rfl, hS⟩
            case rest =>
              clear hS
              obtain ⟨rfl, hS⟩ := hcut
              go_upto_region 16 with fail
              go_cut [142] from 137 to 142 (fun v wr => v = .bool (!A || !B) ∧ Sh w wr al ah bl bh)
              case first =>
                cases A <;> cases B
                all_goals
                  go_wp2
                  go_meet
                  case rel => exact ⟨rfl, hS⟩
              case rest =>
                clear hS
                obtain ⟨rfl, hS⟩ := hcut
                cases hAB : (!A || !B)
                · obtain ⟨i1, i2⟩ := (inside_iff al ah x).1 (by rw [← HA.out]; cases A <;> first | rfl | cases hAB)
                  obtain ⟨i3, i4⟩ := (inside_iff bl bh y).1 (by rw [← HB.out]; cases A <;> cases B <;> first | rfl | cases hAB)
                  obtain ⟨m1, m2, m3⟩ := Um.chk_ok.1 H1.out
                  obtain ⟨m4, m5, m6⟩ := Um.chk_ok.1 H2.out
                  have b1 := ((Um.may_iff al).1 m1).1
                  have b2 := ((Um.may_iff ah).1 m2).2
                  have b3 := ((Um.may_iff bl).1 m4).1
                  have b4 := ((Um.may_iff bh).1 m5).2
                  have b5 := ((Um.may_iff al).1 m1).2
                  have b6 := ((Um.may_iff ah).1 m2).1
                  have b7 := ((Um.may_iff bl).1 m4).2
                  have b8 := ((Um.may_iff bh).1 m5).1
                  have c1 : -1000000000 ≤ x := by omega
                  have c2 : x ≤ 1000000000 := by omega
                  have c3 : -1000000000 ≤ y := by omega
                  have c4 : y ≤ 1000000000 := by omega
                  have MX := hid ((Um.may_iff x).2 ⟨c1, c2⟩)
                  have MY := hid ((Um.may_iff y).2 ⟨c3, c4⟩)
                  have I1 := hid i1
                  have I2 := hid i2
                  have I3 := hid i3
                  have I4 := hid i4
                  clear HA HB HC m1 m2 m3 m4 m5 m6 k1 k2 i1 i2 i3 i4
                  have z1 := hS.a.lo
                  have z2 := hS.a.hi
                  have z3 := hS.b.lo
                  have z4 := hS.b.hi
                  go_upto_region 19 with (go_at_call 18; refine (add_any _ _ _ _ _).mono ?_; rintro e w6 ⟨rfl, hb⟩; replace hS := hS.step hb; have hXl := hS.b.lt; have hX := Sp.new w6 ((Um.made (Um.addR al ah bl bh) al ah bl bh)).1 ((Um.made (Um.addR al ah bl bh) al ah bl bh)).2.1; replace hS := hS.alloc (.cells #[.int .i64 ((Um.made (Um.addR al ah bl bh) al ah bl bh)).1, .int .i64 ((Um.made (Um.addR al ah bl bh) al ah bl bh)).2.1] 23); clear hb z1 z2 z3 z4)
                  go_cut [166, 17] from 143 to 166 (fun v _ wr => v = .bool false ∧ Sh w wr al ah bl bh ∧ ∃ p q, Sp wr w6.heap.size p q)
                  case first =>
                    have i1 := I1.out
                    have i2 := I2.out
                    have i3 := I3.out
                    have i4 := I4.out
                    rcases add_cases H1.out H2.out with e | e
                    · simp only [e] at hS hX ⊢
                      go_wp2
                      go_meet
                      case rel => exact ⟨rfl, hS, _, _, hX⟩
                    · simp only [e] at hS hX ⊢
                      have f1 : decide (x + y < al + bl) = false := by simp; omega
                      have f2 : decide (ah + bh < x + y) = false := by simp; omega
                      go_wp2
                      go_meet
                      case rel => exact ⟨rfl, hS, _, _, hX⟩
                  case rest =>
                    clear hS hX
                    obtain ⟨rfl, hS, p, q, hX⟩ := hcut
                    have z1 := hS.a.lo
                    have z2 := hS.a.hi
                    have z3 := hS.b.lo
                    have z4 := hS.b.hi
                    go_upto_region 22 with (go_at_call 19; refine (less_any _ _ _ _ _).mono ?_; rintro e w7 ⟨rfl, hb⟩; replace hS := hS.step hb; replace hX := hX.step hb; clear hb z1 z2 z3 z4; have y1 := hX.lo; have y2 := hX.fl; have y3 := hX.hi; have y4 := hX.fh; replace hS := (hS.far _ 0 (.int .i64 ((Um.made (Um.lessR al ah bl bh) al ah bl bh)).1) hXl).far _ 1 (.int .i64 ((Um.made (Um.lessR al ah bl bh) al ah bl bh)).2.1) hXl; replace hX := hX.set ((Um.made (Um.lessR al ah bl bh) al ah bl bh)).1 ((Um.made (Um.lessR al ah bl bh) al ah bl bh)).2.1)
                    clear y1 y2 y3 y4
                    go_cut [190, 17] from 167 to 190 (fun v _ wr => v = .bool false ∧ Sh w wr al ah bl bh ∧ ∃ p q, Sp wr w6.heap.size p q)
                    case first =>
                      have i1 := I1.out
                      have i2 := I2.out
                      have i3 := I3.out
                      have i4 := I4.out
                      rcases less_cases H1.out H2.out with e | e
                      · simp only [e] at hS hX ⊢
                        go_wp2
                        go_meet
                        case rel => exact ⟨rfl, hS, _, _, hX⟩
                      · simp only [e] at hS hX ⊢
                        have x1 := hX.lo
                        have x2 := hX.hi
                        have f1 : decide (x - y < al - bh) = false := by simp; omega
                        have f2 : decide (ah - bl < x - y) = false := by simp; omega
                        go_wp2
                        go_meet
                        case rel => exact ⟨rfl, hS, _, _, hX⟩
                    case rest =>
                      clear hS hX p q
                      obtain ⟨rfl, hS, p, q, hX⟩ := hcut
                      have z1 := hS.a.lo
                      have z2 := hS.a.hi
                      have z3 := hS.b.lo
                      have z4 := hS.b.hi
                      go_upto_region 25 with (go_at_call 20; refine (stimes_any _ _ _ _ _).mono ?_; rintro e w8 ⟨rfl, hb⟩; replace hS := hS.step hb; replace hX := hX.step hb; clear hb z1 z2 z3 z4; have y1 := hX.lo; have y2 := hX.fl; have y3 := hX.hi; have y4 := hX.fh; replace hS := (hS.far _ 0 (.int .i64 ((Um.made (Um.stimesR al ah bl bh) al ah bl bh)).1) hXl).far _ 1 (.int .i64 ((Um.made (Um.stimesR al ah bl bh) al ah bl bh)).2.1) hXl; replace hX := hX.set ((Um.made (Um.stimesR al ah bl bh) al ah bl bh)).1 ((Um.made (Um.stimesR al ah bl bh) al ah bl bh)).2.1)
                      clear y1 y2 y3 y4
                      go_cut [216, 17] from 191 to 216 (fun v _ wr => v = .bool false ∧ Sh w wr al ah bl bh ∧ ∃ p q, Sp wr w6.heap.size p q)
                      case first =>
                        rcases times_cases H1.out H2.out I1.out I2.out I3.out I4.out with ⟨k, hk, e⟩ | ⟨lo, hi, e, ml, mh, s1, s2⟩
                        · have kk : (k == 0) = false := by simpa using hk
                          clear hk
                          go_wp2
                          go_meet
                          case rel => exact ⟨rfl, hS, _, _, hX⟩
                        · simp only [e] at hS hX ⊢
                          have x1 := hX.lo
                          have x2 := hX.hi
                          have hm := Um.mul_bound MX.out MY.out
                          generalize hp : x * y = P at *
                          have f1 : decide (P < lo * 1000) = false := by simp; omega
                          have f2 : decide (hi * 1000 < P) = false := by simp; omega
                          have g1 := ((Um.may_iff lo).1 ml).1
                          have g2 := ((Um.may_iff lo).1 ml).2
                          have g3 := ((Um.may_iff hi).1 mh).1
                          have g4 := ((Um.may_iff hi).1 mh).2
                          have g5 := hm.1
                          have g6 := hm.2
                          clear ml mh s1 s2 hm
                          go_wp2
                          go_meet
                          case rel => exact ⟨rfl, hS, _, _, hX⟩
                      case rest =>
                        clear hS hX p q
                        obtain ⟨rfl, hS, p, q, hX⟩ := hcut
                        have z1 := hS.a.lo
                        have z2 := hS.a.hi
                        have z3 := hS.b.lo
                        have z4 := hS.b.hi
                        rcases by_cases' H1.out H2.out I1.out I2.out I3.out I4.out with ⟨k, hk, e⟩ | ⟨lo, hi, e, ml, mh, s1⟩
                        · have kk : (k != 0) = true := by simpa using hk
                          clear hk
                          go_wp2_with (go_at_call 21; refine (sby_any _ _ _ _ _).mono ?_; rintro e' w9 ⟨rfl, hb⟩; replace hS := hS.step hb; replace hX := hX.step hb; clear hb z1 z2 z3 z4; have y1 := hX.lo; have y2 := hX.fl; have y3 := hX.hi; have y4 := hX.fh; replace hS := (hS.far _ 0 (.int .i64 ((Um.made (Um.sbyR al ah bl bh) al ah bl bh)).1) hXl).far _ 1 (.int .i64 ((Um.made (Um.sbyR al ah bl bh) al ah bl bh)).2.1) hXl)
                          go_returns
                          exact ⟨rfl, hS.below⟩
                        · have n1 := Um.mul_bound ml MY.out
                          have n2 := Um.mul_bound mh MY.out
                          have g1 := ((Um.may_iff lo).1 ml).1
                          have g2 := ((Um.may_iff lo).1 ml).2
                          have g3 := ((Um.may_iff hi).1 mh).1
                          have g4 := ((Um.may_iff hi).1 mh).2
                          generalize hp : lo * y = P at *
                          generalize hq : hi * y = Q at *
                          have g5 := n1.1
                          have g6 := n1.2
                          have g7 := n2.1
                          have g8 := n2.2
                          clear n1 n2 ml mh
                          rcases s1 with ⟨t0, t1, t2⟩ | ⟨t0, t1, t2⟩
                          · have f0 : decide (0 < y) = true := by simpa using t0
                            have f1 : decide (P ≤ 1000 * x) = true := by simpa using t1
                            have f2 : decide (1000 * x ≤ Q) = true := by simpa using t2
                            clear t1 t2
                            go_wp2_with (go_at_call 21; refine (sby_any _ _ _ _ _).mono ?_; rintro e' w9 ⟨rfl, hb⟩; replace hS := hS.step hb; replace hX := hX.step hb; clear hb z1 z2 z3 z4; have y1 := hX.lo; have y2 := hX.fl; have y3 := hX.hi; have y4 := hX.fh; replace hS := (hS.far _ 0 (.int .i64 lo) hXl).far _ 1 (.int .i64 hi) hXl; replace hX := hX.set lo hi; have x1 := hX.lo; have x2 := hX.hi)
                            go_returns
                            exact ⟨rfl, hS.below⟩
                          · have f0 : decide (0 < y) = false := by simp; omega
                            have f00 : decide (y < 0) = true := by simpa using t0
                            have f1 : decide (1000 * x ≤ P) = true := by simpa using t1
                            have f2 : decide (Q ≤ 1000 * x) = true := by simpa using t2
                            clear t1 t2
                            go_wp2_with (go_at_call 21; refine (sby_any _ _ _ _ _).mono ?_; rintro e' w9 ⟨rfl, hb⟩; replace hS := hS.step hb; replace hX := hX.step hb; clear hb z1 z2 z3 z4; have y1 := hX.lo; have y2 := hX.fl; have y3 := hX.hi; have y4 := hX.fh; replace hS := (hS.far _ 0 (.int .i64 lo) hXl).far _ 1 (.int .i64 hi) hXl; replace hX := hX.set lo hi; have x1 := hX.lo; have x2 := hX.hi)
                            go_returns
                            exact ⟨rfl, hS.below⟩
                · go_wp2
                  go_returns
                  exact ⟨rfl, hS.below⟩

theorem walk (al ah bl bh x y : Int) (w : World) (hg : HasErr w) :
    Calls Tryd.prog 4 #[.agg #[.int .i64 al, .int .i64 ah], .agg #[.int .i64 bl, .int .i64 bh], .int .i64 x, .int .i64 y] w fun e w' => e = .returned (.bool true) ∧ Below w.heap.size w w' := by
  by_cases h : Um.chk al ah = 0
  · by_cases h2 : Um.chk bl bh = 0
    · exact walk_right al ah bl bh x y w hg h h2
    · exact walk_second al ah bl bh x y w hg h h2
  · exact walk_first al ah bl bh x y w hg h
end Go.Proofs.YtfmjndipanlcoaaDoor.SHas
