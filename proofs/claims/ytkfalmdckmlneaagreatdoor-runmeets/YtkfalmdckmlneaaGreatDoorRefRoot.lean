/-
  What the document's answer (package spanref1) to where it may be nought is: Find, onto what is found already, Sure, of what is right.
-/
import Derived.Test.YtkfalmdckmlneaaGreatDoorRefs2
import Derived.Test.YtkfalmdckmlneaaGreatDoorRefs
import Derived.Test.YtkfalmdckmlneaaGreatDoorRoots
import Derived.Test.YtkfalmdckmlneaaGreatDoorMaths
namespace Go.Proofs.YtkfalmdckmlneaaGreatDoor
set_option linter.unusedSimpArgs false
open Go.RowKit

/-- What Find is to answer, so often parted at most. -/
def RFind (p : List Int) (v : Value) (least : Int) (base k : Nat) : Prop :=
  ∀ (lo hi : Int) (out : List (Int × Int)) (u : Value) (w : World), Um.over p lo hi = 0 → hi - lo ≤ 2 ^ k → out.length ≤ 32 → base ≤ w.heap.size → Li base w v p → w.ownsRow base 29 2 u out.length (cellsOf out) →
    Calls Tryz.prog 30 #[v, .agg #[.int .i64 lo, .int .i64 hi], .int .i64 least, u] w fun e w' => ∃ u', e = .returned (.tuple #[u', .int .i64 (Um.findG (Um.rangeOf p) least (k + 1) lo hi out).2]) ∧ w'.ownsRow base 29 2 u' (Um.findG (Um.rangeOf p) least (k + 1) lo hi out).1.length (cellsOf (Um.findG (Um.rangeOf p) least (k + 1) lo hi out).1) ∧ Gro w u w' u'

set_option maxRecDepth 100000 in
set_option maxHeartbeats 4000000 in
theorem rfind_bad (p : List Int) (v : Value) (least : Int) (base k : Nat) (lo hi : Int) (out : List (Int × Int)) (u : Value) (w : World) (ho : Um.over p lo hi = 0) (hbase : base ≤ w.heap.size) (hl0 : Li base w v p) (hown : w.ownsRow base 29 2 u out.length (cellsOf out)) (h : ¬ (Um.rangeOf p lo hi).2.2 = 0) :
    Calls Tryz.prog 30 #[v, .agg #[.int .i64 lo, .int .i64 hi], .int .i64 least, u] w fun e w' => ∃ u', e = .returned (.tuple #[u', .int .i64 (Um.findG (Um.rangeOf p) least (k + 1) lo hi out).2]) ∧ w'.ownsRow base 29 2 u' (Um.findG (Um.rangeOf p) least (k + 1) lo hi out).1.length (cellsOf (Um.findG (Um.rangeOf p) least (k + 1) lo hi out).1) ∧ Gro w u w' u' := by
  have hl := hl0.wide hbase
  have HM := fun w hl => hid (rRange_any p v lo hi w hl ho)
  have eM : Um.monoR lo hi p = Um.rangeOf p lo hi := rfl
  rw [eM] at HM
  clear eM
  have HO := hid hown
  have hF := (Fr.start w).push lo hi rfl
  have x0l := (hF.at 0 rfl).lo
  have x0h := (hF.at 0 rfl).hi
  have bl := (Um.may_iff _).1 (Um.chk_ok.1 (Um.over_ok.1 ho).2).1
  have bh := (Um.may_iff _).1 (Um.chk_ok.1 (Um.over_ok.1 ho).2).2.1
  obtain ⟨bl1, bl2⟩ := bl
  obtain ⟨bh1, bh2⟩ := bh
  have wr1 : IntKind.i64.wrap (hi - lo) = hi - lo := by rw [IntKind.wrap_i64]; omega
  have HX : Hid ((Um.findG (Um.rangeOf p) least (k + 1) lo hi out) = ([], (Um.rangeOf p lo hi).2.2)) := by rw [Um.find_succ, if_neg h]; rfl
  have k0 : ((Um.rangeOf p lo hi).2.2 != 0) = true := by simpa using h
  clear h hown ho
  generalize (Um.findG (Um.rangeOf p) least (k + 1) lo hi out) = R at *
  generalize Um.rangeOf p lo hi = M at *
  obtain ⟨ap, capp, rfl, -⟩ := (id hl)
  obtain ⟨a0, cap0, rfl⟩ := owns_slice HO.out
  go_enter Tryz.func30, Tryz.ntmps30
  go_wp2_with (go_at_call 28; refine (HM _ (hF.li hl)).out.mono ?_; rintro e wn ⟨rfl, hb⟩; replace hF := hF.step hb; clear hb; clear x0l x0h; replace hF := hF.push M.1 M.2.1 rfl)
  go_returns
  rw [HX.out]
  exact ⟨_, rfl, World.ownsRow_nil _ _ _ _, (Gro.step _ hF.below).none⟩

set_option maxRecDepth 100000 in
set_option maxHeartbeats 4000000 in
theorem rfind_none (p : List Int) (v : Value) (least : Int) (base k : Nat) (lo hi : Int) (out : List (Int × Int)) (u : Value) (w : World) (ho : Um.over p lo hi = 0) (hbase : base ≤ w.heap.size) (hl0 : Li base w v p) (hown : w.ownsRow base 29 2 u out.length (cellsOf out)) (h : (Um.rangeOf p lo hi).2.2 = 0) (hz : ¬ ((Um.rangeOf p lo hi).1 ≤ 0 ∧ 0 ≤ (Um.rangeOf p lo hi).2.1)) :
    Calls Tryz.prog 30 #[v, .agg #[.int .i64 lo, .int .i64 hi], .int .i64 least, u] w fun e w' => ∃ u', e = .returned (.tuple #[u', .int .i64 (Um.findG (Um.rangeOf p) least (k + 1) lo hi out).2]) ∧ w'.ownsRow base 29 2 u' (Um.findG (Um.rangeOf p) least (k + 1) lo hi out).1.length (cellsOf (Um.findG (Um.rangeOf p) least (k + 1) lo hi out).1) ∧ Gro w u w' u' := by
  have hl := hl0.wide hbase
  have HM := fun w hl => hid (rRange_any p v lo hi w hl ho)
  have eM : Um.monoR lo hi p = Um.rangeOf p lo hi := rfl
  rw [eM] at HM
  clear eM
  have HO := hid hown
  have hF := (Fr.start w).push lo hi rfl
  have x0l := (hF.at 0 rfl).lo
  have x0h := (hF.at 0 rfl).hi
  have bl := (Um.may_iff _).1 (Um.chk_ok.1 (Um.over_ok.1 ho).2).1
  have bh := (Um.may_iff _).1 (Um.chk_ok.1 (Um.over_ok.1 ho).2).2.1
  obtain ⟨bl1, bl2⟩ := bl
  obtain ⟨bh1, bh2⟩ := bh
  have wr1 : IntKind.i64.wrap (hi - lo) = hi - lo := by rw [IntKind.wrap_i64]; omega
  have HX : Hid ((Um.findG (Um.rangeOf p) least (k + 1) lo hi out) = (out, 0)) := hid (Um.find_none h hz)
  have z0 : (decide ((Um.rangeOf p lo hi).1 ≤ 0) && decide (0 ≤ (Um.rangeOf p lo hi).2.1)) = false := Bool.eq_false_iff.2 fun c => hz (by simpa using c)
  have k0 : ((Um.rangeOf p lo hi).2.2 != 0) = false := by simpa using h
  clear h hz hown ho
  generalize (Um.findG (Um.rangeOf p) least (k + 1) lo hi out) = R at *
  generalize Um.rangeOf p lo hi = M at *
  obtain ⟨ap, capp, rfl, -⟩ := (id hl)
  obtain ⟨a0, cap0, rfl⟩ := owns_slice HO.out
  go_enter Tryz.func30, Tryz.ntmps30
  go_wp2_with (first | (go_at_call 28; refine (HM _ (hF.li hl)).out.mono ?_; rintro e wn ⟨rfl, hb⟩; replace hF := hF.step hb; clear hb; clear x0l x0h; replace hF := hF.push M.1 M.2.1 rfl; have x0l := (hF.at 0 rfl).lo; have x0h := (hF.at 0 rfl).hi) | (go_at_call 43; refine (rZero_any _ _ _).mono ?_; rintro e wa ⟨rfl, rfl⟩; replace hF := hF.alloc (.cells #[.int .i64 M.1, .int .i64 M.2.1] 29); clear x0l x0h))
  go_returns
  rw [HX.out]
  exact ⟨_, rfl, owns_keep HO.out hF.below, Gro.step _ hF.below⟩

set_option maxRecDepth 100000 in
set_option maxHeartbeats 4000000 in
theorem rfind_full (p : List Int) (v : Value) (least : Int) (base k : Nat) (lo hi : Int) (out : List (Int × Int)) (u : Value) (w : World) (ho : Um.over p lo hi = 0) (hbase : base ≤ w.heap.size) (hl0 : Li base w v p) (hown : w.ownsRow base 29 2 u out.length (cellsOf out)) (h : (Um.rangeOf p lo hi).2.2 = 0) (hz : (Um.rangeOf p lo hi).1 ≤ 0 ∧ 0 ≤ (Um.rangeOf p lo hi).2.1) (hw : hi - lo ≤ least) (hf : 32 ≤ out.length) :
    Calls Tryz.prog 30 #[v, .agg #[.int .i64 lo, .int .i64 hi], .int .i64 least, u] w fun e w' => ∃ u', e = .returned (.tuple #[u', .int .i64 (Um.findG (Um.rangeOf p) least (k + 1) lo hi out).2]) ∧ w'.ownsRow base 29 2 u' (Um.findG (Um.rangeOf p) least (k + 1) lo hi out).1.length (cellsOf (Um.findG (Um.rangeOf p) least (k + 1) lo hi out).1) ∧ Gro w u w' u' := by
  have hl := hl0.wide hbase
  have HM := fun w hl => hid (rRange_any p v lo hi w hl ho)
  have eM : Um.monoR lo hi p = Um.rangeOf p lo hi := rfl
  rw [eM] at HM
  clear eM
  have HO := hid hown
  have hF := (Fr.start w).push lo hi rfl
  have x0l := (hF.at 0 rfl).lo
  have x0h := (hF.at 0 rfl).hi
  have bl := (Um.may_iff _).1 (Um.chk_ok.1 (Um.over_ok.1 ho).2).1
  have bh := (Um.may_iff _).1 (Um.chk_ok.1 (Um.over_ok.1 ho).2).2.1
  obtain ⟨bl1, bl2⟩ := bl
  obtain ⟨bh1, bh2⟩ := bh
  have wr1 : IntKind.i64.wrap (hi - lo) = hi - lo := by rw [IntKind.wrap_i64]; omega
  have z0 : (decide ((Um.rangeOf p lo hi).1 ≤ 0) && decide (0 ≤ (Um.rangeOf p lo hi).2.1)) = true := by simp [hz.1, hz.2]
  have k0 : ((Um.rangeOf p lo hi).2.2 != 0) = false := by simpa using h
  have HX : Hid ((Um.findG (Um.rangeOf p) least (k + 1) lo hi out) = ([], 4)) := by rw [Um.find_succ, if_pos h, if_pos hz, if_pos hw, if_pos hf]; rfl
  have t : decide (hi - lo ≤ least) = true := by simpa using hw
  have t2 : decide ((32 : Int) ≤ (out.length : Int)) = true := decide_eq_true (by omega)
  clear h hz hw hf hown ho
  generalize (Um.findG (Um.rangeOf p) least (k + 1) lo hi out) = R at *
  generalize Um.rangeOf p lo hi = M at *
  obtain ⟨ap, capp, rfl, -⟩ := (id hl)
  obtain ⟨a0, cap0, rfl⟩ := owns_slice HO.out
  go_enter Tryz.func30, Tryz.ntmps30
  go_wp2_with (first | (go_at_call 28; refine (HM _ (hF.li hl)).out.mono ?_; rintro e wn ⟨rfl, hb⟩; replace hF := hF.step hb; clear hb; clear x0l x0h; replace hF := hF.push M.1 M.2.1 rfl; have x0l := (hF.at 0 rfl).lo; have x0h := (hF.at 0 rfl).hi) | (go_at_call 43; refine (rZero_any _ _ _).mono ?_; rintro e wa ⟨rfl, rfl⟩; replace hF := hF.alloc (.cells #[.int .i64 M.1, .int .i64 M.2.1] 29); clear x0l x0h; have x1l := (hF.at 1 rfl).lo; have x1h := (hF.at 1 rfl).hi))
  go_returns
  rw [HX.out]
  exact ⟨_, rfl, World.ownsRow_nil _ _ _ _, (Gro.step _ hF.below).none⟩

set_option maxRecDepth 100000 in
set_option maxHeartbeats 4000000 in
theorem rfind_leaf (p : List Int) (v : Value) (least : Int) (base k : Nat) (lo hi : Int) (out : List (Int × Int)) (u : Value) (w : World) (ho : Um.over p lo hi = 0) (h32 : out.length ≤ 32) (hbase : base ≤ w.heap.size) (hl0 : Li base w v p) (hown : w.ownsRow base 29 2 u out.length (cellsOf out)) (h : (Um.rangeOf p lo hi).2.2 = 0) (hz : (Um.rangeOf p lo hi).1 ≤ 0 ∧ 0 ≤ (Um.rangeOf p lo hi).2.1) (hw : hi - lo ≤ least) (hf : ¬ 32 ≤ out.length) :
    Calls Tryz.prog 30 #[v, .agg #[.int .i64 lo, .int .i64 hi], .int .i64 least, u] w fun e w' => ∃ u', e = .returned (.tuple #[u', .int .i64 (Um.findG (Um.rangeOf p) least (k + 1) lo hi out).2]) ∧ w'.ownsRow base 29 2 u' (Um.findG (Um.rangeOf p) least (k + 1) lo hi out).1.length (cellsOf (Um.findG (Um.rangeOf p) least (k + 1) lo hi out).1) ∧ Gro w u w' u' := by
  have hl := hl0.wide hbase
  have HM := fun w hl => hid (rRange_any p v lo hi w hl ho)
  have eM : Um.monoR lo hi p = Um.rangeOf p lo hi := rfl
  rw [eM] at HM
  clear eM
  have HO := hid hown
  have hF := (Fr.start w).push lo hi rfl
  have x0l := (hF.at 0 rfl).lo
  have x0h := (hF.at 0 rfl).hi
  have bl := (Um.may_iff _).1 (Um.chk_ok.1 (Um.over_ok.1 ho).2).1
  have bh := (Um.may_iff _).1 (Um.chk_ok.1 (Um.over_ok.1 ho).2).2.1
  obtain ⟨bl1, bl2⟩ := bl
  obtain ⟨bh1, bh2⟩ := bh
  have wr1 : IntKind.i64.wrap (hi - lo) = hi - lo := by rw [IntKind.wrap_i64]; omega
  have z0 : (decide ((Um.rangeOf p lo hi).1 ≤ 0) && decide (0 ≤ (Um.rangeOf p lo hi).2.1)) = true := by simp [hz.1, hz.2]
  have k0 : ((Um.rangeOf p lo hi).2.2 != 0) = false := by simpa using h
  have HX : Hid ((Um.findG (Um.rangeOf p) least (k + 1) lo hi out) = (out ++ [(lo, hi)], 0)) := by rw [Um.find_succ, if_pos h, if_pos hz, if_pos hw, if_neg hf]; rfl
  have t : decide (hi - lo ≤ least) = true := by simpa using hw
  have t2 : decide ((32 : Int) ≤ (out.length : Int)) = false := decide_eq_false (by omega)
  obtain ⟨i0, hi0, hz0, hz1, hz2⟩ := info_parts info_found
  clear h hz hw hf hown ho
  generalize (Um.findG (Um.rangeOf p) least (k + 1) lo hi out) = R at *
  generalize Um.rangeOf p lo hi = M at *
  obtain ⟨ap, capp, rfl, -⟩ := (id hl)
  obtain ⟨a0, cap0, rfl⟩ := owns_slice HO.out
  go_enter Tryz.func30, Tryz.ntmps30
  go_wp2_with (first | (go_at_call 28; refine (HM _ (hF.li hl)).out.mono ?_; rintro e wn ⟨rfl, hb⟩; replace hF := hF.step hb; clear hb; clear x0l x0h; replace hF := hF.push M.1 M.2.1 rfl; have x0l := (hF.at 0 rfl).lo; have x0h := (hF.at 0 rfl).hi) | (go_at_call 43; refine (rZero_any _ _ _).mono ?_; rintro e wa ⟨rfl, rfl⟩; replace hF := hF.alloc (.cells #[.int .i64 M.1, .int .i64 M.2.1] 29); clear x0l x0h; have x1l := (hF.at 1 rfl).lo; have x1h := (hF.at 1 rfl).hi) | (at_builtin; refine wpList_append_own_at _ rfl _ _ 59 rfl base 29 i0 (.agg #[.int .i64 0, .int .i64 0]) 2 16 Tryz.underlying59 hi0 hz0 hz1 hz2 rfl (by decide) _ _ _ rfl ((owns_keep HO.out hF.below).alloc _) _ 1 1 [.int .i64 lo, .int .i64 hi] rfl rfl (cell_pair_new _ _ _ _ (by simp)) (by simp [Value.oneCell']) (by unfold maxLen; omega) (by omega) (by have := hF.below.size; simp; simp at this; omega) ?_; intro u' w1 hown' hgrow _ hat))
  have HN := hid hown'
  have hg := (Gro.step (.slice a0 out.length cap0) (hF.alloc _).below).trans (Gro.append hgrow hat)
  have HG := hid hg
  clear hown' hgrow hat hg
  obtain ⟨a1, cap1, rfl⟩ := owns_slice HN.out
  go_wp2_with fail
  go_returns
  rw [HX.out]
  refine ⟨_, rfl, ?_, HG.out⟩
  rw [List.length_append, cellsOf_append]
  exact HN.out

set_option maxRecDepth 100000 in
set_option maxHeartbeats 4000000 in
theorem rfind_part (p : List Int) (v : Value) (least : Int) (base j : Nat) (lo hi : Int) (out : List (Int × Int)) (u : Value) (w : World) (ho : Um.over p lo hi = 0) (h32 : out.length ≤ 32) (hbase : base ≤ w.heap.size) (hl0 : Li base w v p) (hown : w.ownsRow base 29 2 u out.length (cellsOf out)) (h : (Um.rangeOf p lo hi).2.2 = 0) (hz : (Um.rangeOf p lo hi).1 ≤ 0 ∧ 0 ≤ (Um.rangeOf p lo hi).2.1) (hw : ¬ hi - lo ≤ least) (h1 : 1 ≤ least) (hwd : hi - lo ≤ 2 ^ (j + 1)) (IH : RFind p v least base j) :
    Calls Tryz.prog 30 #[v, .agg #[.int .i64 lo, .int .i64 hi], .int .i64 least, u] w fun e w' => ∃ u', e = .returned (.tuple #[u', .int .i64 (Um.findG (Um.rangeOf p) least (j + 1 + 1) lo hi out).2]) ∧ w'.ownsRow base 29 2 u' (Um.findG (Um.rangeOf p) least (j + 1 + 1) lo hi out).1.length (cellsOf (Um.findG (Um.rangeOf p) least (j + 1 + 1) lo hi out).1) ∧ Gro w u w' u' := by
  have hl := hl0.wide hbase
  have HM := fun w hl => hid (rRange_any p v lo hi w hl ho)
  have eM : Um.monoR lo hi p = Um.rangeOf p lo hi := rfl
  rw [eM] at HM
  clear eM
  have HO := hid hown
  have hF := (Fr.start w).push lo hi rfl
  have x0l := (hF.at 0 rfl).lo
  have x0h := (hF.at 0 rfl).hi
  have bl := (Um.may_iff _).1 (Um.chk_ok.1 (Um.over_ok.1 ho).2).1
  have bh := (Um.may_iff _).1 (Um.chk_ok.1 (Um.over_ok.1 ho).2).2.1
  obtain ⟨bl1, bl2⟩ := bl
  obtain ⟨bh1, bh2⟩ := bh
  have wr1 : IntKind.i64.wrap (hi - lo) = hi - lo := by rw [IntKind.wrap_i64]; omega
  have z0 : (decide ((Um.rangeOf p lo hi).1 ≤ 0) && decide (0 ≤ (Um.rangeOf p lo hi).2.1)) = true := by simp [hz.1, hz.2]
  have k0 : ((Um.rangeOf p lo hi).2.2 != 0) = false := by simpa using h
  have hc := (Um.over_ok.1 ho).2
  have hle := (Um.chk_ok.1 hc).2.2
  obtain ⟨j', ej, w1, w2, w3, w4⟩ := Um.half_width hle h1 hwd hw
  obtain rfl : j = j' := by omega
  have HD := fun w => hid (rMiddle_any lo hi w bl1 bl2 bh1 bh2)
  have H1 := fun (u' : Value) (w' : World) h1 h2 h3 => hid (IH lo (Um.midR lo hi) out u' w' (Um.over_in ho (Int.le_refl _) (by omega) (by omega)) w1 h32 h1 h2 h3)
  have H2 := fun (u' : Value) (w' : World) h1 h2 h3 => hid (IH (Um.midR lo hi) hi (Um.findG (Um.rangeOf p) least (j + 1) lo (Um.midR lo hi) out).1 u' w' (Um.over_in ho (by omega) (by omega) (Int.le_refl _)) w2 (Um.find_length _ _ _ _ h32) h1 h2 h3)
  have HX : Hid ((Um.findG (Um.rangeOf p) least (j + 1 + 1) lo hi out) = if (Um.findG (Um.rangeOf p) least (j + 1) lo (Um.midR lo hi) out).2 = 0 then Um.findG (Um.rangeOf p) least (j + 1) (Um.midR lo hi) hi (Um.findG (Um.rangeOf p) least (j + 1) lo (Um.midR lo hi) out).1 else ([], (Um.findG (Um.rangeOf p) least (j + 1) lo (Um.midR lo hi) out).2)) := by rw [Um.find_succ, if_pos h, if_pos hz, if_neg hw]; rfl
  have t : decide (hi - lo ≤ least) = false := by simpa using hw
  clear h hz hw hown ho hc hle w1 w2 w3 w4 ej IH hwd
  generalize (Um.findG (Um.rangeOf p) least (j + 1 + 1) lo hi out) = R at *
  generalize Um.rangeOf p lo hi = M at *
  generalize Um.findG (Um.rangeOf p) least (j + 1) lo (Um.midR lo hi) out = A at *
  generalize Um.findG (Um.rangeOf p) least (j + 1) (Um.midR lo hi) hi A.1 = C at *
  generalize Um.midR lo hi = m at *
  by_cases hA : A.2 = 0
  · have kA : (A.2 != 0) = false := by simpa using hA
    have HR : Hid (R = C) := by rw [HX.out, if_pos hA]; rfl
    clear hA HX
    obtain ⟨ap, capp, rfl, -⟩ := (id hl)
    obtain ⟨a0, cap0, rfl⟩ := owns_slice HO.out
    go_enter Tryz.func30, Tryz.ntmps30
    go_wp2_with (first | (go_at_call 30; refine (H2 _ _ (Nat.le_trans hbase (Nat.le_trans hF.below.size hg1.grown.size)) ((hl0.keep (hF.below.mono hbase)).keep (hg1.below (Nat.le_trans hbase hF.below.size) (owns_from HO.out))) hn1).out.mono ?_; rintro e wk ⟨u2, rfl, hn2, hg2⟩) | (go_at_call 28; refine (HM _ (hF.li hl)).out.mono ?_; rintro e wn ⟨rfl, hb⟩; replace hF := hF.step hb; clear hb; clear x0l x0h; replace hF := hF.push M.1 M.2.1 rfl; have x0l := (hF.at 0 rfl).lo; have x0h := (hF.at 0 rfl).hi) | (go_at_call 43; refine (rZero_any _ _ _).mono ?_; rintro e wa ⟨rfl, rfl⟩; replace hF := hF.alloc (.cells #[.int .i64 M.1, .int .i64 M.2.1] 29); clear x0l x0h; have x1l := (hF.at 1 rfl).lo; have x1h := (hF.at 1 rfl).hi) | (go_at_call 52; refine (HD _).out.mono ?_; rintro e wa ⟨rfl, rfl⟩; replace hF := hF.alloc (.cells #[.int .i64 lo, .int .i64 hi] 29); clear x1l x1h; have x1l := (hF.at 1 rfl).lo; have x1h := (hF.at 1 rfl).hi) | (go_at_call 30; refine (H1 _ _ (Nat.le_trans hbase hF.below.size) (hl0.keep (hF.below.mono hbase)) (owns_keep HO.out hF.below)).out.mono ?_; rintro e wm ⟨u1, rfl, hn1, hg1⟩; clear H1; have hS := hg1.sp (hF.at 1 rfl) (owns_apart HO.out (Nat.le_refl _)); clear x1l x1h; have x1l := hS.lo; have x1h := hS.hi; obtain ⟨a1, cap1, rfl⟩ := owns_slice hn1))
    go_returns
    rw [HR.out]
    exact ⟨_, rfl, hn2, (Gro.step _ hF.below).trans (hg1.trans hg2)⟩
  · have kA : (A.2 != 0) = true := by simpa using hA
    have HR : Hid (R = ([], A.2)) := by rw [HX.out, if_neg hA]; rfl
    clear hA HX H2
    obtain ⟨ap, capp, rfl, -⟩ := (id hl)
    obtain ⟨a0, cap0, rfl⟩ := owns_slice HO.out
    go_enter Tryz.func30, Tryz.ntmps30
    go_wp2_with (first | (go_at_call 28; refine (HM _ (hF.li hl)).out.mono ?_; rintro e wn ⟨rfl, hb⟩; replace hF := hF.step hb; clear hb; clear x0l x0h; replace hF := hF.push M.1 M.2.1 rfl; have x0l := (hF.at 0 rfl).lo; have x0h := (hF.at 0 rfl).hi) | (go_at_call 43; refine (rZero_any _ _ _).mono ?_; rintro e wa ⟨rfl, rfl⟩; replace hF := hF.alloc (.cells #[.int .i64 M.1, .int .i64 M.2.1] 29); clear x0l x0h; have x1l := (hF.at 1 rfl).lo; have x1h := (hF.at 1 rfl).hi) | (go_at_call 52; refine (HD _).out.mono ?_; rintro e wa ⟨rfl, rfl⟩; replace hF := hF.alloc (.cells #[.int .i64 lo, .int .i64 hi] 29); clear x1l x1h; have x1l := (hF.at 1 rfl).lo; have x1h := (hF.at 1 rfl).hi) | (go_at_call 30; refine (H1 _ _ (Nat.le_trans hbase hF.below.size) (hl0.keep (hF.below.mono hbase)) (owns_keep HO.out hF.below)).out.mono ?_; rintro e wm ⟨u1, rfl, hn1, hg1⟩; clear H1; have hS := hg1.sp (hF.at 1 rfl) (owns_apart HO.out (Nat.le_refl _)); clear x1l x1h; have x1l := hS.lo; have x1h := hS.hi; obtain ⟨a1, cap1, rfl⟩ := owns_slice hn1))
    go_returns
    rw [HR.out]
    exact ⟨_, rfl, World.ownsRow_nil _ _ _ _, ((Gro.step _ hF.below).trans hg1).none⟩

theorem rfind_on (p : List Int) (v : Value) (least : Int) (base : Nat) (h1 : 1 ≤ least) : ∀ k : Nat, RFind p v least base k := by
  have step : ∀ k : Nat, (∀ j, k = j + 1 → RFind p v least base j) → RFind p v least base k := by
    intro k IH lo hi out u w ho hwd h32 hbase hl hown
    by_cases h : (Um.rangeOf p lo hi).2.2 = 0
    · by_cases hz : (Um.rangeOf p lo hi).1 ≤ 0 ∧ 0 ≤ (Um.rangeOf p lo hi).2.1
      · by_cases hw : hi - lo ≤ least
        · by_cases hf : 32 ≤ out.length
          · exact rfind_full p v least base k lo hi out u w ho hbase hl hown h hz hw hf
          · exact rfind_leaf p v least base k lo hi out u w ho h32 hbase hl hown h hz hw hf
        · obtain ⟨j, rfl, -⟩ := Um.half_width (Um.chk_ok.1 (Um.over_ok.1 ho).2).2.2 h1 hwd hw
          exact rfind_part p v least base j lo hi out u w ho h32 hbase hl hown h hz hw h1 hwd (IH j rfl)
      · exact rfind_none p v least base k lo hi out u w ho hbase hl hown h hz
    · exact rfind_bad p v least base k lo hi out u w ho hbase hl hown h
  intro k
  induction k with
  | zero => exact step 0 (fun j e => by omega)
  | succ k ih => exact step (k + 1) (fun j e => by obtain rfl : k = j := by omega
                                                   exact ih)
/-- From nothing on. -/
theorem rFind_any (p : List Int) (v : Value) (lo hi least : Int) (w : World) (hl : Li w.heap.size w v p) (ho : Um.over p lo hi = 0) (h1 : 1 ≤ least) :
    Calls Tryz.prog 30 #[v, .agg #[.int .i64 lo, .int .i64 hi], .int .i64 least, .slice none 0 0] w fun e w' => ∃ u, e = .returned (.tuple #[u, .int .i64 (Um.findR p lo hi least).2]) ∧ Ls w'.heap.size w' u (Um.findR p lo hi least).1 ∧ Below w.heap.size w w' := by
  refine (rfind_on p v least w.heap.size h1 31 lo hi [] (.slice none 0 0) w ho (Um.over_width ho).2 (by simp) (Nat.le_refl _) hl (World.ownsRow_nil _ _ _ _)).mono ?_
  rintro e w' ⟨u, rfl, hn, hg⟩
  exact ⟨_, rfl, ls_owns hn, hg.below (Nat.le_refl _) (fun j e => by cases e)⟩

end Go.Proofs.YtkfalmdckmlneaaGreatDoor
