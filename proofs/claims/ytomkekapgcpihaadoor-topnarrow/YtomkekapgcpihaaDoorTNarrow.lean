/-
  The walk over 'spantop.TopNarrow': for all x, y, a, b, by it returns true.
-/
import Derived.Test.YtomkekapgcpihaaDoorNarrow
import Derived.Test.YtomkekapgcpihaaDoorForm
import Derived.Test.YtomkekapgcpihaaDoorTopOne
import Derived.Test.YtomkekapgcpihaaDoorNparts
import Derived.Test.YtomkekapgcpihaaDoorSysLit
import Derived.Test.YtomkekapgcpihaaDoorMems
import Derived.Test.YtomkekapgcpihaaDoorSame
import Derived.Deep.CutRange
import Derived.BigGuard
namespace Go.Proofs.YtomkekapgcpihaaDoor.TNarrow
set_option linter.unusedSimpArgs false
open Go.RowKit

theorem lit_ls2 {w : World} {b : Nat} {T : TypeId} (xl xh yl yh : Int) (hb : b = w.heap.size) : Ls (w.alloc (.cells #[.int .i64 xl, .int .i64 xh, .int .i64 yl, .int .i64 yh] T)).heap.size (w.alloc (.cells #[.int .i64 xl, .int .i64 xh, .int .i64 yl, .int .i64 yh] T)) (.slice (some ⟨b, 0, none⟩) 2 2) [(xl, xh), (yl, yh)] := by
  subst hb
  have h := Blk.new w T #[.int .i64 xl, .int .i64 xh, .int .i64 yl, .int .i64 yh]
  refine ⟨_, 2, rfl, Nat.le_refl _, .inr ⟨w.heap.size, 0, rfl, h.lt, fun j hj => ?_⟩⟩
  rcases (by simp at hj; omega : j = 0 ∨ j = 1) with rfl | rfl
  · exact ⟨h.cell 0 rfl, h.cell 1 rfl⟩
  · exact ⟨h.cell 2 rfl, h.cell 3 rfl⟩

set_option maxRecDepth 100000 in
set_option maxHeartbeats 32000000 in
theorem walk (xl xh yl yh a b by_ : Int) (w : World) (hg : HasErr w) :
    Calls Tryd.prog 5 #[.agg #[.int .i64 xl, .int .i64 xh], .agg #[.int .i64 yl, .int .i64 yh], .int .i64 a, .int .i64 b, .int .i64 by_] w fun e w' => e = .returned (.bool true) ∧ Below w.heap.size w w' := by
  have v0 := errV_none
  have q1 := errG
  have q2 := errGn
  have q3 := errE
  have q4 := errN
  have hF := ((Fr.start w).push xl xh rfl).push (b := w.heap.size + 1) yl yh (by simp)
  have x0l := (hF.at 1 rfl).lo
  have x0h := (hF.at 1 rfl).hi
  have x1l := (hF.at 0 rfl).lo
  have x1h := (hF.at 0 rfl).hi
  have HO := fun w => hid (one_any w)
  have HR := fun u v w hl hs => hid (frange_any [(by_, 1, 1, 0)] u [(xl, xh), (yl, yh)] v w hl hs)
  obtain ⟨S, hS⟩ : ∃ S, S = Um.frAll [(by_, 1, 1, 0)] [(xl, xh), (yl, yh)] := ⟨_, rfl⟩
  rw [← hS] at HR
  have HS := hid hS
  clear hS
  have HTM := fun w => hid (nwTimes_any xl xh yl yh S.1 S.2.1 w)
  go_enter Tryd.func5, Tryd.ntmps5
  go_upto_region 6 with (first | (go_at_call 18; refine (HO _).out.mono ?_; rintro e wo ⟨rfl, hb⟩; replace hF := hF.step hb; clear hb; clear x0l x0h x1l x1h; clear HO; have x0l := (hF.at 1 rfl).lo; have x0h := (hF.at 1 rfl).hi; have x1l := (hF.at 0 rfl).lo; have x1h := (hF.at 0 rfl).hi; have y0l := ((hF.alloc (.cells #[.int .i64 by_, .int .i64 1, .int .i64 1, .int .i64 0] 40)).at 1 rfl).lo; have y0h := ((hF.alloc (.cells #[.int .i64 by_, .int .i64 1, .int .i64 1, .int .i64 0] 40)).at 1 rfl).hi; have y1l := ((hF.alloc (.cells #[.int .i64 by_, .int .i64 1, .int .i64 1, .int .i64 0] 40)).at 0 rfl).lo; have y1h := ((hF.alloc (.cells #[.int .i64 by_, .int .i64 1, .int .i64 1, .int .i64 0] 40)).at 0 rfl).hi) | (go_at_call 19; refine (HR _ _ _ ((lit_lt (by_, 1, 1, 0) rfl (Nat.le_refl _)).step ((Below.refl _ _).alloc (Nat.le_refl _) _)) (lit_ls2 xl xh yl yh (by simp))).out.mono ?_; rintro e wr ⟨rfl, hb⟩; have hT := ((lit_lt (w := wo) (b := wo.heap.size) (cap := 1) (T := 40) (by_, 1, 1, 0) rfl (Nat.le_refl _)).step ((Below.refl _ _).alloc (Nat.le_refl _) _)).step hb; replace hF := ((hF.alloc _).alloc _).step hb; clear hb; clear x0l x0h x1l x1h; clear y0l y0h y1l y1h HR; replace hF := hF.push S.1 S.2.1 rfl; replace hT := hT.step ((Below.refl _ _).alloc (Nat.le_refl _) (.cells #[.int .i64 S.1, .int .i64 S.2.1] 23))))
  generalize wr.alloc (.cells #[.int .i64 S.1, .int .i64 S.2.1] 23) = W0 at *
  generalize wr.heap.size = BS at *
  generalize wo.heap.size = BF at *
  obtain ⟨QB, hQ⟩ : ∃ Q : Bool, Q = ((S.2.2 != 0) || decide (a < xl) || decide (xh < a) || decide (b < yl) || decide (yh < b) || decide (a < -20000) || decide (20000 < a) || decide (b < -20000) || decide (20000 < b) || (by_ != 1000)) := ⟨_, rfl⟩
  have HQ := hid hQ
  clear hQ
  go_cut [80] from 20 to 80 (fun v wq => v = .bool QB ∧ Fr w wq [(BS, S.1, S.2.1), (w.heap.size + 1, yl, yh), (w.heap.size, xl, xh)] ∧ Lt wq.heap.size wq (.slice (some ⟨BF, 0, none⟩) 1 1) [(by_, 1, 1, 0)])
  case first =>
    clear HTM HS
    have x0l := (hF.at 2 rfl).lo
    have x0h := (hF.at 2 rfl).hi
    have x1l := (hF.at 1 rfl).lo
    have x1h := (hF.at 1 rfl).hi
    try dsimp only [List.append]
    cases d0 : (S.2.2 != 0)
    case true =>
      have e : QB = true := by rw [HQ.out, d0]; rfl
      clear HQ
      subst e
      go_wp2
      go_meet
      case rel => exact ⟨rfl, hF, hT⟩
    case false =>
     cases d1 : decide (a < xl)
     case true =>
       have e : QB = true := by rw [HQ.out, d0, d1]; rfl
       clear HQ
       subst e
       go_wp2
       go_meet
       case rel => exact ⟨rfl, hF, hT⟩
     case false =>
      cases d2 : decide (xh < a)
      case true =>
        have e : QB = true := by rw [HQ.out, d0, d1, d2]; rfl
        clear HQ
        subst e
        go_wp2
        go_meet
        case rel => exact ⟨rfl, hF, hT⟩
      case false =>
       cases d3 : decide (b < yl)
       case true =>
         have e : QB = true := by rw [HQ.out, d0, d1, d2, d3]; rfl
         clear HQ
         subst e
         go_wp2
         go_meet
         case rel => exact ⟨rfl, hF, hT⟩
       case false =>
        cases d4 : decide (yh < b)
        case true =>
          have e : QB = true := by rw [HQ.out, d0, d1, d2, d3, d4]; rfl
          clear HQ
          subst e
          go_wp2
          go_meet
          case rel => exact ⟨rfl, hF, hT⟩
        case false =>
         cases d5 : decide (a < -20000)
         case true =>
           have e : QB = true := by rw [HQ.out, d0, d1, d2, d3, d4, d5]; rfl
           clear HQ
           subst e
           go_wp2
           go_meet
           case rel => exact ⟨rfl, hF, hT⟩
         case false =>
          cases d6 : decide (20000 < a)
          case true =>
            have e : QB = true := by rw [HQ.out, d0, d1, d2, d3, d4, d5, d6]; rfl
            clear HQ
            subst e
            go_wp2
            go_meet
            case rel => exact ⟨rfl, hF, hT⟩
          case false =>
           cases d7 : decide (b < -20000)
           case true =>
             have e : QB = true := by rw [HQ.out, d0, d1, d2, d3, d4, d5, d6, d7]; rfl
             clear HQ
             subst e
             go_wp2
             go_meet
             case rel => exact ⟨rfl, hF, hT⟩
           case false =>
            cases d8 : decide (20000 < b)
            case true =>
              have e : QB = true := by rw [HQ.out, d0, d1, d2, d3, d4, d5, d6, d7, d8]; rfl
              clear HQ
              subst e
              go_wp2
              go_meet
              case rel => exact ⟨rfl, hF, hT⟩
            case false =>
             cases d9 : (by_ != 1000)
             case true =>
               have e : QB = true := by rw [HQ.out, d0, d1, d2, d3, d4, d5, d6, d7, d8, d9]; rfl
               clear HQ
               subst e
               go_wp2
               go_meet
               case rel => exact ⟨rfl, hF, hT⟩
             case false =>
              have e : QB = false := by rw [HQ.out, d0, d1, d2, d3, d4, d5, d6, d7, d8, d9]; rfl
              clear HQ
              subst e
              go_wp2
              go_meet
              case rel => exact ⟨rfl, hF, hT⟩
  case rest =>
   clear hF hT
   obtain ⟨rfl, hF, hT⟩ := hcut
   cases QB
   case true =>
    clear HTM HS HQ hT
    go_wp2
    go_returns
    exact ⟨rfl, hF.below⟩
   case false =>
    have g := HQ.out.symm
    clear HQ
    simp only [Bool.or_eq_false_iff, decide_eq_false_iff_not, bne_eq_false_iff_eq, Int.not_lt] at g
    obtain ⟨⟨⟨⟨⟨⟨⟨⟨⟨g0, g1⟩, g2⟩, g3⟩, g4⟩, g5⟩, g6⟩, g7⟩, g8⟩, rfl⟩ := g
    have HA := fun u v w hl hx => hid (fat_any Um.one2 u [a, b] v w hl hx)
    rw [Um.one2_at g5 g6 g7 g8] at HA
    have hS : S = Um.frAll Um.one2 [(xl, xh), (yl, yh)] := HS.out
    have k := Um.top_narrow (xl := xl) (xh := xh) (yl := yl) (yh := yh) (a := a) (b := b) (by rw [← hS]; exact g0) g1 g2 g3 g4
    rw [← hS] at k
    obtain ⟨⟨k1, k2⟩, k3, k4⟩ := k
    obtain ⟨p1, p2⟩ := Um.mul_by (A := 20000) (B := 20000) g5 g6 g7 g8 (by decide)
    have HK := hid k4
    have HK3 := hid k3
    clear hS HS k3 k4 g0 g1 g2 g3 g4 g5 g6 g7 g8
    generalize Um.ntimesAll xl xh yl yh S.1 S.2.1 = N at *
    generalize Um.fl (a * b) 1000 = n at *
    have d1 : decide (n < S.1) = false := decide_eq_false (by omega)
    have d2 : decide (S.2.1 < n) = false := decide_eq_false (by omega)
    clear k1 k2
    go_upto_region 9 with (go_at_call 20; refine (HA _ _ _ (hT.step ((Below.refl _ _).alloc (Nat.le_refl _) _)) (Li.lit (p := [a, b]) (by simp) two_cells)).out.mono ?_; rintro e wa ⟨rfl, hb⟩; replace hF := (hF.alloc _).step hb; clear hb HA hT; have x2l := (hF.at 0 rfl).lo; have x2h := (hF.at 0 rfl).hi)
    go_upto_region 11 with fail
    clear d1 d2 x2l x2h
    have x0l := (hF.at 2 rfl).lo
    have x0h := (hF.at 2 rfl).hi
    have x1l := (hF.at 1 rfl).lo
    have x1h := (hF.at 1 rfl).hi
    have x2l := (hF.at 0 rfl).lo
    have x2h := (hF.at 0 rfl).hi
    go_upto_region 12 with (go_at_call 16; refine (HTM _).out.mono ?_; rintro e wn ⟨rfl, hb⟩; replace hF := hF.step hb; clear hb; clear x0l x0h x1l x1h x2l x2h; clear HTM; replace hF := ((hF.push (b := wn.heap.size) N.1.1 N.1.2 rfl).push (b := wn.heap.size + 1) N.2.1.1 N.2.1.2 (by simp)).push (b := wn.heap.size + 1 + 1) N.2.2.1.1 N.2.2.1.2 (by simp))
    generalize (((wn.alloc (.cells #[.int .i64 N.1.1, .int .i64 N.1.2] 23)).alloc (.cells #[.int .i64 N.2.1.1, .int .i64 N.2.1.2] 23)).alloc (.cells #[.int .i64 N.2.2.1.1, .int .i64 N.2.2.1.2] 23)) = W1 at *
    generalize wn.heap.size = BP at *
    generalize BP + 1 + 1 = BR at *
    generalize BP + 1 = BQ at *
    by_cases hn : N.2.2.2 = 0
    · have kn : (N.2.2.2 != 0) = false := by simpa using hn
      obtain ⟨⟨i1, i2⟩, ⟨i3, i4⟩, i5, i6⟩ := HK.out hn
      clear HK HK3 hn
      have z1 := (hF.at 2 rfl).lo
      have z2 := (hF.at 2 rfl).hi
      have z3 := (hF.at 1 rfl).lo
      have z4 := (hF.at 1 rfl).hi
      have z5 := (hF.at 0 rfl).lo
      have z6 := (hF.at 0 rfl).hi
      have e1 : decide (N.1.1 ≤ a) = true := decide_eq_true (by omega)
      have e2 : decide (a ≤ N.1.2) = true := decide_eq_true (by omega)
      have e3 : decide (N.2.1.1 ≤ b) = true := decide_eq_true (by omega)
      have e4 : decide (b ≤ N.2.1.2) = true := decide_eq_true (by omega)
      have e5 : decide (N.2.2.1.1 ≤ n) = true := decide_eq_true (by omega)
      have e6 : decide (n ≤ N.2.2.1.2) = true := decide_eq_true (by omega)
      clear i1 i2 i3 i4 i5 i6
      cases t1 : ((a * b).tmod 1000 != 0)
      · go_wp2
        go_returns
        exact ⟨rfl, hF.below⟩
      · go_wp2
        go_returns
        exact ⟨rfl, hF.below⟩
    · have kn : (N.2.2.2 != 0) = true := by simpa using hn
      have k4 : (N.2.2.2 == 4) = true := by simpa using HK3.out.resolve_left hn
      clear HK HK3 hn
      go_wp2_with (go_at_call 12; refine (hid (same_any _ _ _ (hg.below (B := w.heap.size) hF.below hg.size))).out.mono ?_; rintro e wn ⟨rfl, hb⟩; replace hF := hF.step hb; clear hb)
      go_returns
      exact ⟨rfl, hF.below⟩
end Go.Proofs.YtomkekapgcpihaaDoor.TNarrow
