/-
  The walk over 'spanlaw4.BoxPoint': for every list x of at most 1048576 numbers it returns true.
-/
import Derived.Test.YtmgabhphnafokaaBoxH
import Derived.Test.YtmgabhphnafokaaBoxV
import Derived.Test.YtmgabhphnafokaaRefSplit
import Derived.Deep.RegionHeld3
import Derived.Deep.AppendLies
import Derived.Laws.Pointers
namespace Go.Proofs.Ytmgabhphnafokaa.BPoint
set_option linter.unusedSimpArgs false
open Go.RowKit

/-- The box of one point, its first k sides. -/
def pts (x : List Int) (k : Nat) : List (Int × Int) := (x.take k).map fun n => (n, n)
theorem pts_length {x : List Int} {k : Nat} (h : k ≤ x.length) : (pts x k).length = k := by unfold pts; rw [List.length_map, List.length_take]; omega
theorem pts_succ {x : List Int} {k : Nat} (h : k < x.length) : pts x (k + 1) = pts x k ++ [(x[k]?.getD 0, x[k]?.getD 0)] := by
  unfold pts
  rw [List.take_add_one, List.map_append, List.getElem?_eq_getElem h]
  rfl
theorem pts_side {x : List Int} {i : Nat} (h : i < x.length) : Um.sd (pts x x.length) i = (Um.nm x i, Um.nm x i) := by
  unfold pts Um.sd Um.nm
  rw [List.take_length, List.getElem?_map, List.getElem?_eq_getElem h]
  rfl
theorem pts_has (x : List Int) : Um.hasB (pts x x.length) x = true := by
  unfold Um.hasB
  refine decide_eq_true fun i hi => ?_
  rw [pts_length (Nat.le_refl _)] at hi
  rw [pts_side hi]
  exact ⟨Int.le_refl _, Int.le_refl _⟩
theorem pts_hasF (x : List Int) : Um.hasF (pts x x.length) x = Um.boxF (pts x x.length) := by
  unfold Um.hasF
  rw [if_pos (pts_length (Nat.le_refl _)).symm]
  split
  · rename_i h; rw [h]
  · rfl
theorem pts_half {x : List Int} (h : Um.boxF (pts x x.length) = 0) : Um.halfA (pts x x.length) = pts x x.length ∧ Um.halfB (pts x x.length) = pts x x.length := by
  refine Um.half_point h fun i hi => ?_
  rw [pts_length (Nat.le_refl _)] at hi
  rw [pts_side hi]

set_option maxRecDepth 100000 in
set_option maxHeartbeats 8000000 in
theorem walk (x : List Int) (v : Value) (w : World) (hl : Li w.heap.size w v x) (hbig : x.length ≤ 1048576) :
    Calls Try.prog 4 #[v] w fun e w' => e = .returned (.bool true) ∧ Below w.heap.size w w' := by
  have v0 := errV_none
  have q1 := errG
  have q2 := errGn
  have q3 := errE
  have q4 := errN
  have HL := hid hl
  obtain ⟨a0, cap0, rfl, hor⟩ := hl
  obtain ⟨i0, hi0, hz0, hz1, hz2⟩ := info_parts info_clone
  have HOR := hid hor
  clear hor
  go_enter Try.func4, Try.ntmps4
  go_wp2
  go_loopw [3, 4] (fun u i wr => ∃ k : Nat, k ≤ x.length ∧ i = .int .i64 k ∧ wr.ownsRow w.heap.size 29 2 u k (cellsOf (pts x k)) ∧ Below w.heap.size w wr) (fun _ i _ => x.length - (intOf i).toNat)
  case atStart => exact ⟨0, Nat.zero_le _, rfl, World.ownsRow_nil _ _ _ _, Below.refl _ _⟩
  case round =>
    obtain ⟨k, hk, rfl, hown, hB⟩ := hrel
    by_cases hkl : k < x.length
    · have hkk : (k : Int) < (x.length : Int) := by omega
      have hk0 : (0 : Int) ≤ (k : Int) := Int.natCast_nonneg _
      rcases HOR.out with e | ⟨b, off, rfl, hlt, hc⟩
      · rw [e] at hkl; simp at hkl
      have z0 := (hB.cell (p := ⟨b, off + k, none⟩) hlt).trans (hc k hkl)
      have HS := hid (pts_succ hkl)
      clear hc HOR
      generalize x[k]?.getD 0 = n at *
      have ak : u3.ownBlock ≠ some b := fun e => by
        have := owns_from hown b e
        omega
      have hsz := hB.size
      have HOW := hid hown
      have HBE := hid hB
      clear hB HL
      go_wp2_with fail
      go_region_held3 (fun w' => w'.cell? ⟨b, off + k, none⟩ = some (.int .i64 n))
        (first
          | go_keep
          | (rw [hgrow.cell_far _ (by simp; omega) (Ne.symm ak)]; assumption))
        ((refine step_append_lies _ (by rfl) _ _ _ (by rfl) w.heap.size 29 i0 _ 2 16 Try.underlying22 hi0 hz0 hz1 hz2 rfl (by omega) u3 k (cellsOf (pts x k)) (by rfl) ((hown.alloc _).drew) ⟨wr.heap.size, 0, none⟩ 1 1 [.int .i64 n, .int .i64 n] (by rfl) (by rfl) (World.news_of_block (cs := #[.int .i64 n, .int .i64 n]) (t := 29) (fr := (0, 0)) (heap_alloc_new wr _)) (by simp [Value.oneCell']) (by omega) (by unfold maxLen; omega) (by omega) (by simp; omega) (wr.heap.size + 1) (by simp) ?_; intro gg cap w1 hown1 hgrow hat hlt2))
      have HN := hid hown1
      have hb2 := (((Below.refl w.heap.size wr).alloc hsz (.cells #[.int .i64 n, .int .i64 n] 29)).drew).grown hgrow (by simp; omega) (fun j e => owns_from hown j e)
      have HB2 := hid hb2
      clear hown1 hgrow hat hb2 hown
      go_wp2
      refine ⟨⟨k + 1, by omega, by simp, ?_, HBE.out.trans HB2.out⟩, by simp [intOf]; omega⟩
      rw [HS.out, cellsOf_append]
      exact HN.out
    · obtain rfl : k = x.length := by omega
      obtain ⟨a1, cap1, rfl⟩ := owns_slice hown
      have hs : Ls wr.heap.size wr (.slice a1 x.length cap1) (pts x x.length) := ls_owns (by rw [pts_length (Nat.le_refl _)]; exact hown)
      have hl : Li wr.heap.size wr (.slice a0 x.length cap0) x := (HL.out.keep hB).wide hB.size
      have HBE := hid hB
      clear hown HL HOR hB
      have hF := Fr.start wr
      have HH := fun w hs hl => hid (bhas_any (pts x x.length) (.slice a1 x.length cap1) x (.slice a0 x.length cap0) w hs hl)
      unfold hasA at HH
      rw [pts_hasF, pts_has] at HH
      by_cases h : Um.boxF (pts x x.length) = 0
      · have HV := fun w hs => hid (bhalve_any (pts x x.length) (.slice a1 x.length cap1) w hs)
        have HB := fun u w h1 h2 => hid (box_same (pts x x.length) u (.slice a1 x.length cap1) w h1 h2 (by have := (Um.box_len h).2; omega))
        unfold halfL halfH at HV
        rw [if_pos h, if_pos h, (pts_half h).1, (pts_half h).2, h] at HV
        rw [h] at HH
        simp only [decide_true, Bool.true_and] at HH
        clear h
        generalize pts x x.length = P at *
        go_wp2_with (first | (go_at_call 11; refine (HH _ (hF.ls hs) (hF.li hl)).out.mono ?_; rintro e wn ⟨rfl, hb⟩; replace hF := hF.step hb; clear hb) | (go_at_call 10; refine (HV _ (hF.ls hs)).out.mono ?_; rintro e wn ⟨r1, r2, rfl, h1, h2, hb⟩; replace hF := hF.step hb; clear hb; obtain ⟨b1, c1, rfl, -⟩ := (id h1); obtain ⟨b2, c2, rfl, -⟩ := (id h2); clear HV) | (go_at_call 13; refine (HB _ _ h1 (hF.ls hs)).out.mono ?_; rintro e wn ⟨rfl, hb⟩; replace h2 := h2.step hb; replace hF := hF.step hb; clear hb; clear h1) | (go_at_call 13; refine (HB _ _ h2 (hF.ls hs)).out.mono ?_; rintro e wn ⟨rfl, hb⟩; replace hF := hF.step hb; clear hb))
        go_returns
        exact ⟨rfl, HBE.out.trans (hF.below.mono HBE.out.size)⟩
      · have HC := fun w hs => hid (bcheck_any (pts x x.length) (.slice a1 x.length cap1) w hs)
        have kk : (Um.boxF (pts x x.length) != 0) = true := by simpa using h
        clear h
        generalize pts x x.length = P at *
        generalize Um.boxF P = G at *
        go_wp2_with (first | (go_at_call 11; refine (HH _ (hF.ls hs) (hF.li hl)).out.mono ?_; rintro e wn ⟨rfl, hb⟩; replace hF := hF.step hb; clear hb) | (go_at_call 16; refine (HC _ (hF.ls hs)).out.mono ?_; rintro e wn ⟨rfl, hb⟩; replace hF := hF.step hb; clear hb))
        go_returns
        exact ⟨rfl, HBE.out.trans (hF.below.mono HBE.out.size)⟩
end Go.Proofs.Ytmgabhphnafokaa.BPoint
