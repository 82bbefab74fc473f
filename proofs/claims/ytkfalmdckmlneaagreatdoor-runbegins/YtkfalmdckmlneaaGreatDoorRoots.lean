/-
  What package root answers: May, Sure, at every argument.
  What package root answers: withOneMore, onto what is found already.
  What package root answers: Find, at every argument; findOn of what is right, onto what is found already.
-/
import Derived.Test.YtkfalmdckmlneaaGreatDoorMono
import Derived.Test.YtkfalmdckmlneaaGreatDoorMaths
import Derived.Test.YtkfalmdckmlneaaGreatDoorMems
import Derived.Test.YtkfalmdckmlneaaGreatDoorBase
namespace Go.Proofs.YtkfalmdckmlneaaGreatDoor
set_option linter.unusedSimpArgs false
open Go.RowKit

set_option maxHeartbeats 4000000 in
theorem may_any (p : List Int) (v : Value) (lo hi : Int) (w : World) (hl : Li w.heap.size w v p) :
    Calls Tryz.prog 148 #[v, .agg #[.int .i64 lo, .int .i64 hi]] w fun e w' => e = .returned (.tuple #[.bool (Um.mayB p lo hi), errV (Um.monoAll p lo hi).2.2]) ∧ Below w.heap.size w w' := by
  have v0 := errV_none
  have q1 := errG
  have q2 := errGn
  have q3 := errE
  have q4 := errN
  have HM := fun w hl => hid (mrange_any p v lo hi w hl)
  have hF := (Fr.start w).push lo hi rfl
  have x0l := (hF.at 0 rfl).lo
  have x0h := (hF.at 0 rfl).hi
  have HX : Hid (Um.mayB p lo hi = (decide ((Um.monoAll p lo hi).2.2 = 0) && (decide ((Um.monoAll p lo hi).1 ≤ 0) && decide (0 ≤ (Um.monoAll p lo hi).2.1)))) := hid rfl
  generalize Um.mayB p lo hi = B at *
  generalize Um.monoAll p lo hi = M at *
  by_cases h : M.2.2 = 0
  · have k : (M.2.2 != 0) = false := by simpa using h
    have HZ := hid h
    clear h
    obtain ⟨a0, cap0, rfl, -⟩ := (id hl)
    go_enter Tryz.func148, Tryz.ntmps148
    go_wp2_with (first | (go_at_call 65; refine (HM _ (hF.li hl)).out.mono ?_; rintro e wn ⟨rfl, hb⟩; replace hF := hF.step hb; clear hb; clear x0l x0h; replace hF := hF.push M.1 M.2.1 rfl; have x0l := (hF.at 0 rfl).lo; have x0h := (hF.at 0 rfl).hi) | (go_at_call 89; refine (has_any _ _ _ _).mono ?_; rintro e wa ⟨rfl, rfl⟩))
    go_returns
    rw [HX.out, HZ.out]
    exact ⟨rfl, (hF.alloc _).below⟩
  · have k : (M.2.2 != 0) = true := by simpa using h
    have HZ : Hid (decide (M.2.2 = 0) = false) := hid (by simpa using h)
    clear h
    obtain ⟨a0, cap0, rfl, -⟩ := (id hl)
    go_enter Tryz.func148, Tryz.ntmps148
    go_wp2_with (first | (go_at_call 65; refine (HM _ (hF.li hl)).out.mono ?_; rintro e wn ⟨rfl, hb⟩; replace hF := hF.step hb; clear hb; clear x0l x0h))
    go_returns
    rw [HX.out, HZ.out]
    exact ⟨rfl, (hF.alloc _).below⟩

end Go.Proofs.YtkfalmdckmlneaaGreatDoor
namespace Go.Proofs.YtkfalmdckmlneaaGreatDoor
set_option linter.unusedSimpArgs false
open Go.RowKit

theorem info_found : (Tryz.prog.info? 29).map (fun i => (i.zero, i.size, i.bytes)) = some (some (.agg #[.int .i64 0, .int .i64 0]), 2, 16) := by kernel_rfl
theorem cell_pair_new (w : World) (x y : Value) (t : TypeId) {b : Nat} (hb : b = w.heap.size) : ∀ j u, [x, y][j]? = some u → (w.alloc (.cells #[x, y] t)).cell? ((⟨b, 0, none⟩ : Addr).add j) = some u := by
  intro j u hj
  subst hb
  match j, hj with
  | 0, hj => simp at hj; subst hj; simp [Addr.add]
  | 1, hj => simp at hj; subst hj; simp [Addr.add]

/-- One more behind what is found, if there may be so many. -/
def moreR (out : List (Int × Int)) (lo hi : Int) : List (Int × Int) × Int := if 32 ≤ out.length then ([], 4) else (out ++ [(lo, hi)], 0)
set_option maxHeartbeats 4000000 in
theorem more_any (out : List (Int × Int)) (u : Value) (lo hi : Int) (base : Nat) (w : World) (hbase : base ≤ w.heap.size) (h32 : out.length ≤ 32) (hown : w.ownsRow base 29 2 u out.length (cellsOf out)) :
    Calls Tryz.prog 149 #[u, .agg #[.int .i64 lo, .int .i64 hi]] w fun e w' => ∃ u', e = .returned (.tuple #[u', errV (moreR out lo hi).2]) ∧ w'.ownsRow base 29 2 u' (moreR out lo hi).1.length (cellsOf (moreR out lo hi).1) ∧ Gro w u w' u' := by
  have HO := hid hown
  obtain ⟨i0, hi0, hz0, hz1, hz2⟩ := info_parts info_found
  have hF := (Fr.start w).push lo hi rfl
  have x0l := (hF.at 0 rfl).lo
  have x0h := (hF.at 0 rfl).hi
  by_cases h : 32 ≤ out.length
  · have HX : Hid (moreR out lo hi = ([], 4)) := by unfold moreR; rw [if_pos h]; rfl
    have t : ((out.length : Int) == 32) = true := by simp; omega
    obtain ⟨a0, cap0, rfl⟩ := owns_slice hown
    clear h h32 hown
    go_enter Tryz.func149, Tryz.ntmps149
    go_wp2
    go_returns
    rw [HX.out]
    exact ⟨_, rfl, World.ownsRow_nil _ _ _ _, (Gro.step _ hF.below).none⟩
  · have HX : Hid (moreR out lo hi = (out ++ [(lo, hi)], 0)) := by unfold moreR; rw [if_neg h]; rfl
    have t : ((out.length : Int) == 32) = false := by simp; omega
    obtain ⟨a0, cap0, rfl⟩ := owns_slice hown
    clear h hown
    go_enter Tryz.func149, Tryz.ntmps149
    go_wp2_with (at_builtin; refine wpList_append_own_at _ rfl _ _ 59 rfl base 29 i0 (.agg #[.int .i64 0, .int .i64 0]) 2 16 Tryz.underlying59 hi0 hz0 hz1 hz2 rfl (by decide) _ _ _ rfl (((HO.out.alloc _)).alloc _) _ 1 1 [.int .i64 lo, .int .i64 hi] rfl rfl (cell_pair_new _ _ _ _ (by simp)) (by simp [Value.oneCell']) (by unfold maxLen; omega) (by omega) (by simp; omega) ?_; intro u' w1 hown' hgrow _ hat)
    have HN := hid hown'
    have hg := (Gro.step (w := w) (.slice a0 out.length cap0) (by go_grown)).trans (Gro.append hgrow hat)
    have HG := hid hg
    clear hown' hgrow hat hg
    obtain ⟨a1, cap1, rfl⟩ := owns_slice HN.out
    go_wp2
    go_returns
    rw [HX.out]
    refine ⟨_, rfl, ?_, HG.out⟩
    rw [List.length_append, cellsOf_append]
    exact HN.out
end Go.Proofs.YtkfalmdckmlneaaGreatDoor
namespace Go.Proofs.YtkfalmdckmlneaaGreatDoor
set_option linter.unusedSimpArgs false
open Go.RowKit

/-- What findOn is to answer, so often parted at most. -/
def FindOn (p : List Int) (v : Value) (least : Int) (base k : Nat) : Prop :=
  ∀ (lo hi : Int) (out : List (Int × Int)) (u : Value) (w : World), Um.over p lo hi = 0 → hi - lo ≤ 2 ^ k → out.length ≤ 32 → base ≤ w.heap.size → Li base w v p → w.ownsRow base 29 2 u out.length (cellsOf out) →
    Calls Tryz.prog 126 #[u, v, .agg #[.int .i64 lo, .int .i64 hi], .int .i64 least] w fun e w' => ∃ u', e = .returned (.tuple #[u', errV (Um.findG (Um.rangeOf p) least (k + 1) lo hi out).2]) ∧ w'.ownsRow base 29 2 u' (Um.findG (Um.rangeOf p) least (k + 1) lo hi out).1.length (cellsOf (Um.findG (Um.rangeOf p) least (k + 1) lo hi out).1) ∧ Gro w u w' u'

set_option maxRecDepth 100000 in
set_option maxHeartbeats 4000000 in
theorem findOn_bad (p : List Int) (v : Value) (least : Int) (base k : Nat) (lo hi : Int) (out : List (Int × Int)) (u : Value) (w : World) (ho : Um.over p lo hi = 0) (hbase : base ≤ w.heap.size) (hl0 : Li base w v p) (hown : w.ownsRow base 29 2 u out.length (cellsOf out)) (h : ¬ (Um.rangeOf p lo hi).2.2 = 0) :
    Calls Tryz.prog 126 #[u, v, .agg #[.int .i64 lo, .int .i64 hi], .int .i64 least] w fun e w' => ∃ u', e = .returned (.tuple #[u', errV (Um.findG (Um.rangeOf p) least (k + 1) lo hi out).2]) ∧ w'.ownsRow base 29 2 u' (Um.findG (Um.rangeOf p) least (k + 1) lo hi out).1.length (cellsOf (Um.findG (Um.rangeOf p) least (k + 1) lo hi out).1) ∧ Gro w u w' u' := by
  have v0 := errV_none
  have q1 := errG
  have q2 := errGn
  have q3 := errE
  have q4 := errN
  have hl := hl0.wide hbase
  have HM := fun w hl => hid (may_any p v lo hi w hl)
  have eM : Um.monoAll p lo hi = Um.rangeOf p lo hi := by unfold Um.monoAll Um.rangeOf; rw [if_pos ho]
  have eB : Um.mayB p lo hi = (decide ((Um.rangeOf p lo hi).2.2 = 0) && (decide ((Um.rangeOf p lo hi).1 ≤ 0) && decide (0 ≤ (Um.rangeOf p lo hi).2.1))) := by unfold Um.mayB; rw [eM]
  have HO := hid hown
  have hF := (Fr.start w).push lo hi rfl
  have x0l := (hF.at 0 rfl).lo
  have x0h := (hF.at 0 rfl).hi
  have bl := (Um.may_iff _).1 (Um.chk_ok.1 (Um.over_ok.1 ho).2).1
  have bh := (Um.may_iff _).1 (Um.chk_ok.1 (Um.over_ok.1 ho).2).2.1
  obtain ⟨bl1, bl2⟩ := bl
  obtain ⟨bh1, bh2⟩ := bh
  have wr1 : IntKind.i64.wrap (hi - lo) = hi - lo := by rw [IntKind.wrap_i64]; omega
  have HX : Hid ((Um.findG (Um.rangeOf p) least (k + 1) lo hi out) = ([], (Um.rangeOf p lo hi).2.2)) := by rw [Um.find_succ, if_neg h]; rfl
  rw [eM] at HM
  have k0 : ((Um.rangeOf p lo hi).2.2 != 0) = true := by simpa using h
  clear h eM eB hown ho
  generalize (Um.findG (Um.rangeOf p) least (k + 1) lo hi out) = R at *
  generalize Um.rangeOf p lo hi = M at *
  generalize Um.mayB p lo hi = B at *
  obtain ⟨ap, capp, rfl, -⟩ := (id hl)
  obtain ⟨a0, cap0, rfl⟩ := owns_slice HO.out
  go_enter Tryz.func126, Tryz.ntmps126
  go_wp2_with (go_at_call 148; refine (HM _ (hF.li hl)).out.mono ?_; rintro e wn ⟨rfl, hb⟩; replace hF := hF.step hb; clear hb; clear x0l x0h)
  go_returns
  rw [HX.out]
  exact ⟨_, rfl, World.ownsRow_nil _ _ _ _, (Gro.step _ hF.below).none⟩

set_option maxRecDepth 100000 in
set_option maxHeartbeats 4000000 in
theorem findOn_none (p : List Int) (v : Value) (least : Int) (base k : Nat) (lo hi : Int) (out : List (Int × Int)) (u : Value) (w : World) (ho : Um.over p lo hi = 0) (hbase : base ≤ w.heap.size) (hl0 : Li base w v p) (hown : w.ownsRow base 29 2 u out.length (cellsOf out)) (h : (Um.rangeOf p lo hi).2.2 = 0) (hz : ¬ ((Um.rangeOf p lo hi).1 ≤ 0 ∧ 0 ≤ (Um.rangeOf p lo hi).2.1)) :
    Calls Tryz.prog 126 #[u, v, .agg #[.int .i64 lo, .int .i64 hi], .int .i64 least] w fun e w' => ∃ u', e = .returned (.tuple #[u', errV (Um.findG (Um.rangeOf p) least (k + 1) lo hi out).2]) ∧ w'.ownsRow base 29 2 u' (Um.findG (Um.rangeOf p) least (k + 1) lo hi out).1.length (cellsOf (Um.findG (Um.rangeOf p) least (k + 1) lo hi out).1) ∧ Gro w u w' u' := by
  have v0 := errV_none
  have q1 := errG
  have q2 := errGn
  have q3 := errE
  have q4 := errN
  have hl := hl0.wide hbase
  have HM := fun w hl => hid (may_any p v lo hi w hl)
  have eM : Um.monoAll p lo hi = Um.rangeOf p lo hi := by unfold Um.monoAll Um.rangeOf; rw [if_pos ho]
  have eB : Um.mayB p lo hi = (decide ((Um.rangeOf p lo hi).2.2 = 0) && (decide ((Um.rangeOf p lo hi).1 ≤ 0) && decide (0 ≤ (Um.rangeOf p lo hi).2.1))) := by unfold Um.mayB; rw [eM]
  have HO := hid hown
  have hF := (Fr.start w).push lo hi rfl
  have x0l := (hF.at 0 rfl).lo
  have x0h := (hF.at 0 rfl).hi
  have bl := (Um.may_iff _).1 (Um.chk_ok.1 (Um.over_ok.1 ho).2).1
  have bh := (Um.may_iff _).1 (Um.chk_ok.1 (Um.over_ok.1 ho).2).2.1
  obtain ⟨bl1, bl2⟩ := bl
  obtain ⟨bh1, bh2⟩ := bh
  have wr1 : IntKind.i64.wrap (hi - lo) = hi - lo := by rw [IntKind.wrap_i64]; omega
  have HX : Hid ((Um.findG (Um.rangeOf p) least (k + 1) lo hi out) = (out, 0)) := hid (Um.find_none h hz)
  have eB2 : Um.mayB p lo hi = false := by
    rw [eB, h]
    simp only [decide_true, Bool.true_and]
    exact Bool.eq_false_iff.2 fun c => hz (by simpa using c)
  rw [eM, eB2] at HM
  have k0 : ((Um.rangeOf p lo hi).2.2 != 0) = false := by simpa using h
  clear h hz eM eB eB2 hown ho
  generalize (Um.findG (Um.rangeOf p) least (k + 1) lo hi out) = R at *
  generalize Um.rangeOf p lo hi = M at *
  obtain ⟨ap, capp, rfl, -⟩ := (id hl)
  obtain ⟨a0, cap0, rfl⟩ := owns_slice HO.out
  go_enter Tryz.func126, Tryz.ntmps126
  go_wp2_with (go_at_call 148; refine (HM _ (hF.li hl)).out.mono ?_; rintro e wn ⟨rfl, hb⟩; replace hF := hF.step hb; clear hb; clear x0l x0h)
  go_returns
  rw [HX.out]
  exact ⟨_, rfl, owns_keep HO.out hF.below, Gro.step _ hF.below⟩

set_option maxRecDepth 100000 in
set_option maxHeartbeats 4000000 in
theorem findOn_leaf (p : List Int) (v : Value) (least : Int) (base k : Nat) (lo hi : Int) (out : List (Int × Int)) (u : Value) (w : World) (ho : Um.over p lo hi = 0) (h32 : out.length ≤ 32) (hbase : base ≤ w.heap.size) (hl0 : Li base w v p) (hown : w.ownsRow base 29 2 u out.length (cellsOf out)) (h : (Um.rangeOf p lo hi).2.2 = 0) (hz : (Um.rangeOf p lo hi).1 ≤ 0 ∧ 0 ≤ (Um.rangeOf p lo hi).2.1) (hw : hi - lo ≤ least) :
    Calls Tryz.prog 126 #[u, v, .agg #[.int .i64 lo, .int .i64 hi], .int .i64 least] w fun e w' => ∃ u', e = .returned (.tuple #[u', errV (Um.findG (Um.rangeOf p) least (k + 1) lo hi out).2]) ∧ w'.ownsRow base 29 2 u' (Um.findG (Um.rangeOf p) least (k + 1) lo hi out).1.length (cellsOf (Um.findG (Um.rangeOf p) least (k + 1) lo hi out).1) ∧ Gro w u w' u' := by
  have v0 := errV_none
  have q1 := errG
  have q2 := errGn
  have q3 := errE
  have q4 := errN
  have hl := hl0.wide hbase
  have HM := fun w hl => hid (may_any p v lo hi w hl)
  have eM : Um.monoAll p lo hi = Um.rangeOf p lo hi := by unfold Um.monoAll Um.rangeOf; rw [if_pos ho]
  have eB : Um.mayB p lo hi = (decide ((Um.rangeOf p lo hi).2.2 = 0) && (decide ((Um.rangeOf p lo hi).1 ≤ 0) && decide (0 ≤ (Um.rangeOf p lo hi).2.1))) := by unfold Um.mayB; rw [eM]
  have HO := hid hown
  have hF := (Fr.start w).push lo hi rfl
  have x0l := (hF.at 0 rfl).lo
  have x0h := (hF.at 0 rfl).hi
  have bl := (Um.may_iff _).1 (Um.chk_ok.1 (Um.over_ok.1 ho).2).1
  have bh := (Um.may_iff _).1 (Um.chk_ok.1 (Um.over_ok.1 ho).2).2.1
  obtain ⟨bl1, bl2⟩ := bl
  obtain ⟨bh1, bh2⟩ := bh
  have wr1 : IntKind.i64.wrap (hi - lo) = hi - lo := by rw [IntKind.wrap_i64]; omega
  have eB2 : Um.mayB p lo hi = true := by
    rw [eB, h]
    simp [hz.1, hz.2]
  rw [eM, eB2] at HM
  have k0 : ((Um.rangeOf p lo hi).2.2 != 0) = false := by simpa using h
  have HX : Hid ((Um.findG (Um.rangeOf p) least (k + 1) lo hi out) = moreR out lo hi) := by rw [Um.find_succ, if_pos h, if_pos hz, if_pos hw]; rfl
  have t : decide (hi - lo ≤ least) = true := by simpa using hw
  clear h hz hw eM eB eB2 hown ho
  generalize (Um.findG (Um.rangeOf p) least (k + 1) lo hi out) = R at *
  generalize Um.rangeOf p lo hi = M at *
  obtain ⟨ap, capp, rfl, -⟩ := (id hl)
  obtain ⟨a0, cap0, rfl⟩ := owns_slice HO.out
  go_enter Tryz.func126, Tryz.ntmps126
  go_wp2_with (first | (go_at_call 148; refine (HM _ (hF.li hl)).out.mono ?_; rintro e wn ⟨rfl, hb⟩; replace hF := hF.step hb; clear hb; clear x0l x0h; have x0l := (hF.at 0 rfl).lo; have x0h := (hF.at 0 rfl).hi) | (go_at_call 149; refine (more_any out _ lo hi base _ (Nat.le_trans hbase hF.below.size) h32 (owns_keep HO.out hF.below)).mono ?_; rintro e wn ⟨u1, rfl, hn, hg⟩))
  go_returns
  rw [HX.out]
  exact ⟨_, rfl, hn, (Gro.step _ hF.below).trans hg⟩

set_option maxRecDepth 100000 in
set_option maxHeartbeats 4000000 in
theorem findOn_part (p : List Int) (v : Value) (least : Int) (base j : Nat) (lo hi : Int) (out : List (Int × Int)) (u : Value) (w : World) (ho : Um.over p lo hi = 0) (h32 : out.length ≤ 32) (hbase : base ≤ w.heap.size) (hl0 : Li base w v p) (hown : w.ownsRow base 29 2 u out.length (cellsOf out)) (h : (Um.rangeOf p lo hi).2.2 = 0) (hz : (Um.rangeOf p lo hi).1 ≤ 0 ∧ 0 ≤ (Um.rangeOf p lo hi).2.1) (hw : ¬ hi - lo ≤ least) (h1 : 1 ≤ least) (hwd : hi - lo ≤ 2 ^ (j + 1)) (IH : FindOn p v least base j) :
    Calls Tryz.prog 126 #[u, v, .agg #[.int .i64 lo, .int .i64 hi], .int .i64 least] w fun e w' => ∃ u', e = .returned (.tuple #[u', errV (Um.findG (Um.rangeOf p) least (j + 1 + 1) lo hi out).2]) ∧ w'.ownsRow base 29 2 u' (Um.findG (Um.rangeOf p) least (j + 1 + 1) lo hi out).1.length (cellsOf (Um.findG (Um.rangeOf p) least (j + 1 + 1) lo hi out).1) ∧ Gro w u w' u' := by
  have v0 := errV_none
  have q1 := errG
  have q2 := errGn
  have q3 := errE
  have q4 := errN
  have hl := hl0.wide hbase
  have HM := fun w hl => hid (may_any p v lo hi w hl)
  have eM : Um.monoAll p lo hi = Um.rangeOf p lo hi := by unfold Um.monoAll Um.rangeOf; rw [if_pos ho]
  have eB : Um.mayB p lo hi = (decide ((Um.rangeOf p lo hi).2.2 = 0) && (decide ((Um.rangeOf p lo hi).1 ≤ 0) && decide (0 ≤ (Um.rangeOf p lo hi).2.1))) := by unfold Um.mayB; rw [eM]
  have HO := hid hown
  have hF := (Fr.start w).push lo hi rfl
  have x0l := (hF.at 0 rfl).lo
  have x0h := (hF.at 0 rfl).hi
  have bl := (Um.may_iff _).1 (Um.chk_ok.1 (Um.over_ok.1 ho).2).1
  have bh := (Um.may_iff _).1 (Um.chk_ok.1 (Um.over_ok.1 ho).2).2.1
  obtain ⟨bl1, bl2⟩ := bl
  obtain ⟨bh1, bh2⟩ := bh
  have wr1 : IntKind.i64.wrap (hi - lo) = hi - lo := by rw [IntKind.wrap_i64]; omega
  have eB2 : Um.mayB p lo hi = true := by
    rw [eB, h]
    simp [hz.1, hz.2]
  rw [eM, eB2] at HM
  have k0 : ((Um.rangeOf p lo hi).2.2 != 0) = false := by simpa using h
  have hc := (Um.over_ok.1 ho).2
  have hle := (Um.chk_ok.1 hc).2.2
  obtain ⟨j', ej, w1, w2, w3, w4⟩ := Um.half_width hle h1 hwd hw
  obtain rfl : j = j' := by omega
  have HD := fun w => hid (midAll_any lo hi w)
  have eD : midAll lo hi = (Um.midR lo hi, 0) := by unfold midAll; rw [if_pos hc]
  rw [eD] at HD
  have H1 := fun (u' : Value) (w' : World) h1 h2 h3 => hid (IH lo (Um.midR lo hi) out u' w' (Um.over_in ho (Int.le_refl _) (by omega) (by omega)) w1 h32 h1 h2 h3)
  have H2 := fun (u' : Value) (w' : World) h1 h2 h3 => hid (IH (Um.midR lo hi) hi (Um.findG (Um.rangeOf p) least (j + 1) lo (Um.midR lo hi) out).1 u' w' (Um.over_in ho (by omega) (by omega) (Int.le_refl _)) w2 (Um.find_length _ _ _ _ h32) h1 h2 h3)
  have HX : Hid ((Um.findG (Um.rangeOf p) least (j + 1 + 1) lo hi out) = if (Um.findG (Um.rangeOf p) least (j + 1) lo (Um.midR lo hi) out).2 = 0 then Um.findG (Um.rangeOf p) least (j + 1) (Um.midR lo hi) hi (Um.findG (Um.rangeOf p) least (j + 1) lo (Um.midR lo hi) out).1 else ([], (Um.findG (Um.rangeOf p) least (j + 1) lo (Um.midR lo hi) out).2)) := by rw [Um.find_succ, if_pos h, if_pos hz, if_neg hw]; rfl
  have t : decide (hi - lo ≤ least) = false := by simpa using hw
  clear h hz hw eM eB eB2 hown ho hc hle eD w1 w2 w3 w4 ej IH hwd
  generalize (Um.findG (Um.rangeOf p) least (j + 1 + 1) lo hi out) = R at *
  generalize Um.rangeOf p lo hi = M at *
  generalize Um.findG (Um.rangeOf p) least (j + 1) lo (Um.midR lo hi) out = A at *
  generalize Um.findG (Um.rangeOf p) least (j + 1) (Um.midR lo hi) hi A.1 = C at *
  generalize Um.midR lo hi = m at *
  by_cases hA : A.2 = 0
  · have kA : (A.2 != 0) = false := by simpa using hA
    have HR : Hid (R = C) := by rw [HX.out, if_pos hA]; rfl
    clear hA HX
    obtain ⟨ap, capp, rfl, -⟩ := (id hl)
    obtain ⟨a0, cap0, rfl⟩ := owns_slice HO.out
    go_enter Tryz.func126, Tryz.ntmps126
    go_wp2_with (first | (go_at_call 126; refine (H2 _ _ (Nat.le_trans hbase (Nat.le_trans hF.below.size hg1.grown.size)) ((hl0.keep (hF.below.mono hbase)).keep (hg1.below (Nat.le_trans hbase hF.below.size) (owns_from HO.out))) hn1).out.mono ?_; rintro e wk ⟨u2, rfl, hn2, hg2⟩) | (go_at_call 148; refine (HM _ (hF.li hl)).out.mono ?_; rintro e wn ⟨rfl, hb⟩; replace hF := hF.step hb; clear hb; clear x0l x0h; have x0l := (hF.at 0 rfl).lo; have x0h := (hF.at 0 rfl).hi) | (go_at_call 143; refine (HD _).out.mono ?_; rintro e wn ⟨rfl, hb⟩; replace hF := hF.step hb; clear hb; clear x0l x0h; have x0l := (hF.at 0 rfl).lo; have x0h := (hF.at 0 rfl).hi) | (go_at_call 126; refine (H1 _ _ (Nat.le_trans hbase hF.below.size) (hl0.keep (hF.below.mono hbase)) (owns_keep HO.out hF.below)).out.mono ?_; rintro e wm ⟨u1, rfl, hn1, hg1⟩; clear H1; have hS := hg1.sp (hF.at 0 rfl) (owns_apart HO.out (Nat.le_refl _)); clear x0l x0h; have x0l := hS.lo; have x0h := hS.hi; obtain ⟨a1, cap1, rfl⟩ := owns_slice hn1))
    go_returns
    rw [HR.out]
    exact ⟨_, rfl, hn2, (Gro.step _ hF.below).trans (hg1.trans hg2)⟩
  · have kA : (A.2 != 0) = true := by simpa using hA
    have HR : Hid (R = ([], A.2)) := by rw [HX.out, if_neg hA]; rfl
    clear hA HX H2
    obtain ⟨ap, capp, rfl, -⟩ := (id hl)
    obtain ⟨a0, cap0, rfl⟩ := owns_slice HO.out
    go_enter Tryz.func126, Tryz.ntmps126
    go_wp2_with (first | (go_at_call 148; refine (HM _ (hF.li hl)).out.mono ?_; rintro e wn ⟨rfl, hb⟩; replace hF := hF.step hb; clear hb; clear x0l x0h; have x0l := (hF.at 0 rfl).lo; have x0h := (hF.at 0 rfl).hi) | (go_at_call 143; refine (HD _).out.mono ?_; rintro e wn ⟨rfl, hb⟩; replace hF := hF.step hb; clear hb; clear x0l x0h; have x0l := (hF.at 0 rfl).lo; have x0h := (hF.at 0 rfl).hi) | (go_at_call 126; refine (H1 _ _ (Nat.le_trans hbase hF.below.size) (hl0.keep (hF.below.mono hbase)) (owns_keep HO.out hF.below)).out.mono ?_; rintro e wm ⟨u1, rfl, hn1, hg1⟩; clear H1; have hS := hg1.sp (hF.at 0 rfl) (owns_apart HO.out (Nat.le_refl _)); clear x0l x0h; have x0l := hS.lo; have x0h := hS.hi; obtain ⟨a1, cap1, rfl⟩ := owns_slice hn1))
    go_returns
    rw [HR.out]
    exact ⟨_, rfl, World.ownsRow_nil _ _ _ _, ((Gro.step _ hF.below).trans hg1).none⟩

theorem findOn_any (p : List Int) (v : Value) (least : Int) (base : Nat) (h1 : 1 ≤ least) : ∀ k : Nat, FindOn p v least base k := by
  have step : ∀ k : Nat, (∀ j, k = j + 1 → FindOn p v least base j) → FindOn p v least base k := by
    intro k IH lo hi out u w ho hwd h32 hbase hl hown
    by_cases h : (Um.rangeOf p lo hi).2.2 = 0
    · by_cases hz : (Um.rangeOf p lo hi).1 ≤ 0 ∧ 0 ≤ (Um.rangeOf p lo hi).2.1
      · by_cases hw : hi - lo ≤ least
        · exact findOn_leaf p v least base k lo hi out u w ho h32 hbase hl hown h hz hw
        · obtain ⟨j, rfl, -⟩ := Um.half_width (Um.chk_ok.1 (Um.over_ok.1 ho).2).2.2 h1 hwd hw
          exact findOn_part p v least base j lo hi out u w ho h32 hbase hl hown h hz hw h1 hwd (IH j rfl)
      · exact findOn_none p v least base k lo hi out u w ho hbase hl hown h hz
    · exact findOn_bad p v least base k lo hi out u w ho hbase hl hown h
  intro k
  induction k with
  | zero => exact step 0 (fun j e => by omega)
  | succ k ih => exact step (k + 1) (fun j e => by obtain rfl : k = j := by omega
                                                   exact ih)

set_option maxHeartbeats 4000000 in
theorem find_bad (p : List Int) (v : Value) (lo hi least : Int) (w : World) (hl : Li w.heap.size w v p) (h : ¬ Um.over p lo hi = 0) :
    Calls Tryz.prog 100 #[v, .agg #[.int .i64 lo, .int .i64 hi], .int .i64 least] w fun e w' => e = .returned (.tuple #[.slice none 0 0, errV (Um.over p lo hi)]) ∧ Below w.heap.size w w' := by
  have v0 := errV_none
  have q1 := errG
  have q2 := errGn
  have q3 := errE
  have q4 := errN
  have HC := fun w hl => hid (checkOver_any p v lo hi w hl)
  have hF := (Fr.start w).push lo hi rfl
  have x0l := (hF.at 0 rfl).lo
  have x0h := (hF.at 0 rfl).hi
  have k : (Um.over p lo hi != 0) = true := by simpa using h
  clear h
  generalize Um.over p lo hi = G at *
  obtain ⟨ap, capp, rfl, -⟩ := (id hl)
  go_enter Tryz.func100, Tryz.ntmps100
  go_wp2_with (go_at_call 125; refine (HC _ (hF.li hl)).out.mono ?_; rintro e wn ⟨rfl, hb⟩; replace hF := hF.step hb; clear hb; clear x0l x0h)
  go_returns
  exact ⟨rfl, hF.below⟩

set_option maxHeartbeats 4000000 in
theorem find_low (p : List Int) (v : Value) (lo hi least : Int) (w : World) (hl : Li w.heap.size w v p) (h : Um.over p lo hi = 0) (hm : least < 1) :
    Calls Tryz.prog 100 #[v, .agg #[.int .i64 lo, .int .i64 hi], .int .i64 least] w fun e w' => e = .returned (.tuple #[.slice none 0 0, errV 1]) ∧ Below w.heap.size w w' := by
  have v0 := errV_none
  have q1 := errG
  have q2 := errGn
  have q3 := errE
  have q4 := errN
  have HC := fun w hl => hid (checkOver_any p v lo hi w hl)
  have hF := (Fr.start w).push lo hi rfl
  have x0l := (hF.at 0 rfl).lo
  have x0h := (hF.at 0 rfl).hi
  have k : (Um.over p lo hi != 0) = false := by simpa using h
  have t1 : decide (least < 1) = true := by simpa using hm
  clear h hm
  generalize Um.over p lo hi = G at *
  obtain ⟨ap, capp, rfl, -⟩ := (id hl)
  go_enter Tryz.func100, Tryz.ntmps100
  go_wp2_with (go_at_call 125; refine (HC _ (hF.li hl)).out.mono ?_; rintro e wn ⟨rfl, hb⟩; replace hF := hF.step hb; clear hb; clear x0l x0h)
  go_returns
  exact ⟨rfl, hF.below⟩

set_option maxHeartbeats 4000000 in
theorem find_high (p : List Int) (v : Value) (lo hi least : Int) (w : World) (hl : Li w.heap.size w v p) (h : Um.over p lo hi = 0) (hm : ¬ least < 1) (hm2 : 1000000000 < least) :
    Calls Tryz.prog 100 #[v, .agg #[.int .i64 lo, .int .i64 hi], .int .i64 least] w fun e w' => e = .returned (.tuple #[.slice none 0 0, errV 1]) ∧ Below w.heap.size w w' := by
  have v0 := errV_none
  have q1 := errG
  have q2 := errGn
  have q3 := errE
  have q4 := errN
  have HC := fun w hl => hid (checkOver_any p v lo hi w hl)
  have hF := (Fr.start w).push lo hi rfl
  have x0l := (hF.at 0 rfl).lo
  have x0h := (hF.at 0 rfl).hi
  have k : (Um.over p lo hi != 0) = false := by simpa using h
  have t1 : decide (least < 1) = false := by simpa using hm
  have t2 : decide (1000000000 < least) = true := by simpa using hm2
  clear h hm hm2
  generalize Um.over p lo hi = G at *
  obtain ⟨ap, capp, rfl, -⟩ := (id hl)
  go_enter Tryz.func100, Tryz.ntmps100
  go_wp2_with (go_at_call 125; refine (HC _ (hF.li hl)).out.mono ?_; rintro e wn ⟨rfl, hb⟩; replace hF := hF.step hb; clear hb; clear x0l x0h)
  go_returns
  exact ⟨rfl, hF.below⟩

set_option maxHeartbeats 4000000 in
theorem find_right (p : List Int) (v : Value) (lo hi least : Int) (w : World) (hl : Li w.heap.size w v p) (h : Um.over p lo hi = 0) (hm : ¬ least < 1) (hm2 : ¬ 1000000000 < least) :
    Calls Tryz.prog 100 #[v, .agg #[.int .i64 lo, .int .i64 hi], .int .i64 least] w fun e w' => ∃ u, e = .returned (.tuple #[u, errV (Um.findR p lo hi least).2]) ∧ Ls w'.heap.size w' u (Um.findR p lo hi least).1 ∧ Below w.heap.size w w' := by
  have v0 := errV_none
  have q1 := errG
  have q2 := errGn
  have q3 := errE
  have q4 := errN
  have HC := fun w hl => hid (checkOver_any p v lo hi w hl)
  have hF := (Fr.start w).push lo hi rfl
  have x0l := (hF.at 0 rfl).lo
  have x0h := (hF.at 0 rfl).hi
  have k : (Um.over p lo hi != 0) = false := by simpa using h
  have t1 : decide (least < 1) = false := by simpa using hm
  have t2 : decide (1000000000 < least) = false := by simpa using hm2
  have HF := fun (W : World) (hl : Li W.heap.size W v p) => hid (findOn_any p v least W.heap.size (by omega) 31 lo hi [] (.slice none 0 0) W h (Um.over_width h).2 (by simp) (Nat.le_refl _) hl (World.ownsRow_nil _ _ _ _))
  have e : Um.findG (Um.rangeOf p) least (31 + 1) lo hi [] = Um.findR p lo hi least := rfl
  rw [e] at HF
  clear h hm hm2 e
  generalize Um.over p lo hi = G at *
  generalize Um.findR p lo hi least = R at *
  obtain ⟨ap, capp, rfl, -⟩ := (id hl)
  go_enter Tryz.func100, Tryz.ntmps100
  go_wp2_with (first | (go_at_call 125; refine (HC _ (hF.li hl)).out.mono ?_; rintro e wn ⟨rfl, hb⟩; replace hF := hF.step hb; clear hb; clear x0l x0h; have x0l := (hF.at 0 rfl).lo; have x0h := (hF.at 0 rfl).hi) | (go_at_call 126; refine (HF _ (hF.li hl)).out.mono ?_; rintro e wm ⟨u1, rfl, hn, hg⟩))
  go_returns
  exact ⟨_, rfl, ls_owns hn, (hF.step (hg.below (Nat.le_refl _) (fun j e => by cases e))).below⟩
theorem find_any (p : List Int) (v : Value) (lo hi least : Int) (w : World) (hl : Li w.heap.size w v p) :
    Calls Tryz.prog 100 #[v, .agg #[.int .i64 lo, .int .i64 hi], .int .i64 least] w fun e w' => ∃ u, e = .returned (.tuple #[u, errV (Um.findAll p lo hi least).2]) ∧ Ls w'.heap.size w' u (Um.findAll p lo hi least).1 ∧ Below w.heap.size w w' := by
  by_cases h : Um.over p lo hi = 0
  · by_cases h1 : least < 1
    · rw [Um.find_least h (by omega)]
      refine (find_low p v lo hi least w hl h h1).mono ?_
      rintro e w' ⟨rfl, hb⟩
      exact ⟨_, rfl, Ls.nil _ _, hb⟩
    · by_cases h2 : 1000000000 < least
      · rw [Um.find_least h (by omega)]
        refine (find_high p v lo hi least w hl h h1 h2).mono ?_
        rintro e w' ⟨rfl, hb⟩
        exact ⟨_, rfl, Ls.nil _ _, hb⟩
      · rw [Um.find_good h (by omega) (by omega)]
        exact find_right p v lo hi least w hl h h1 h2
  · rw [Um.find_over h]
    refine (find_bad p v lo hi least w hl h).mono ?_
    rintro e w' ⟨rfl, hb⟩
    exact ⟨_, rfl, Ls.nil _ _, hb⟩
end Go.Proofs.YtkfalmdckmlneaaGreatDoor
