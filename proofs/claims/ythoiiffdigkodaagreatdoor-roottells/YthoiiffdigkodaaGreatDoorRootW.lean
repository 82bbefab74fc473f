/-
  What package root answers: withOneMore, onto what is found already.
-/
import Derived.Test.YthoiiffdigkodaaGreatDoorMems
import Derived.Test.YthoiiffdigkodaaGreatDoorBase
namespace Go.Proofs.YthoiiffdigkodaaGreatDoor
set_option linter.unusedSimpArgs false
open Go.RowKit

theorem info_found : (Tryz.prog.info? 24).map (fun i => (i.zero, i.size, i.bytes)) = some (some (.agg #[.int .i64 0, .int .i64 0]), 2, 16) := by kernel_rfl
theorem cell_pair_new (w : World) (x y : Value) (t : TypeId) {b : Nat} (hb : b = w.heap.size) : ∀ j u, [x, y][j]? = some u → (w.alloc (.cells #[x, y] t)).cell? ((⟨b, 0, none⟩ : Addr).add j) = some u := by
  intro j u hj
  subst hb
  match j, hj with
  | 0, hj => simp at hj; subst hj; simp [Addr.add]
  | 1, hj => simp at hj; subst hj; simp [Addr.add]

/-- One more behind what is found, if there may be so many. -/
def moreR (out : List (Int × Int)) (lo hi : Int) : List (Int × Int) × Int := if 32 ≤ out.length then ([], 4) else (out ++ [(lo, hi)], 0)
set_option maxHeartbeats 4000000 in
theorem more_any (out : List (Int × Int)) (u : Value) (lo hi : Int) (base : Nat) (w : World) (hbase : base ≤ w.heap.size) (h32 : out.length ≤ 32) (hown : w.ownsRow base 24 2 u out.length (cellsOf out)) :
    Calls Tryz.prog 55 #[u, .agg #[.int .i64 lo, .int .i64 hi]] w fun e w' => ∃ u', e = .returned (.tuple #[u', errV (moreR out lo hi).2]) ∧ w'.ownsRow base 24 2 u' (moreR out lo hi).1.length (cellsOf (moreR out lo hi).1) ∧ Gro w u w' u' := by
  have HO := hid hown
  obtain ⟨i0, hi0, hz0, hz1, hz2⟩ := info_parts info_found
  have hF := (Fr.start w).push lo hi rfl
  have x0l := (hF.at 0 rfl).lo
  have x0h := (hF.at 0 rfl).hi
  by_cases h : 32 ≤ out.length
  · have HX : Hid (moreR out lo hi = ([], 4)) := by unfold moreR; rw [if_pos h]; rfl
    have t : ((out.length : Int) == 32) = true := by simp; omega
    obtain ⟨a0, cap0, rfl⟩ := owns_slice hown
    clear h h32 hown
    go_enter Tryz.func55, Tryz.ntmps55
    go_wp2
    go_returns
    rw [HX.out]
    exact ⟨_, rfl, World.ownsRow_nil _ _ _ _, (Gro.step _ hF.below).none⟩
  · have HX : Hid (moreR out lo hi = (out ++ [(lo, hi)], 0)) := by unfold moreR; rw [if_neg h]; rfl
    have t : ((out.length : Int) == 32) = false := by simp; omega
    obtain ⟨a0, cap0, rfl⟩ := owns_slice hown
    clear h hown
    go_enter Tryz.func55, Tryz.ntmps55
    go_wp2_with (at_builtin; refine wpList_append_own_at _ rfl _ _ 26 rfl base 24 i0 (.agg #[.int .i64 0, .int .i64 0]) 2 16 Tryz.underlying26 hi0 hz0 hz1 hz2 rfl (by decide) _ _ _ rfl (((HO.out.alloc _)).alloc _) _ 1 1 [.int .i64 lo, .int .i64 hi] rfl rfl (cell_pair_new _ _ _ _ (by simp)) (by simp [Value.oneCell']) (by unfold maxLen; omega) (by omega) (by simp; omega) ?_; intro u' w1 hown' hgrow _ hat)
    have HN := hid hown'
    have hg := (Gro.step (w := w) (.slice a0 out.length cap0) (by go_grown)).trans (Gro.append hgrow hat)
    have HG := hid hg
    clear hown' hgrow hat hg
    obtain ⟨a1, cap1, rfl⟩ := owns_slice HN.out
    go_wp2
    go_returns
    rw [HX.out]
    refine ⟨_, rfl, ?_, HG.out⟩
    rw [List.length_append, cellsOf_append]
    exact HN.out
end Go.Proofs.YthoiiffdigkodaaGreatDoor
