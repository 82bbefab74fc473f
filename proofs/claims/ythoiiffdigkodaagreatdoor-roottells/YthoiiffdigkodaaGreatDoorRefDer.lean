/-
  What the document's answer (package spanref1) to the slope of a right polynomial is.
-/
import Derived.Test.YthoiiffdigkodaaGreatDoorRefPoly
import Derived.Test.YthoiiffdigkodaaGreatDoorMaths
import Derived.Test.YthoiiffdigkodaaGreatDoorMems
import Derived.Test.YthoiiffdigkodaaGreatDoorInts
import Derived.OwnWalk
import Derived.Maps.AppendAt
namespace Go.Proofs.YthoiiffdigkodaaGreatDoor
set_option linter.unusedSimpArgs false
open Go.RowKit

/-- The first k factors of the slope. -/
def dn (p : List Int) (k : Nat) : List Int := (List.range k).map fun i => p.getD (i + 1) 0 * (i + 1 : Nat)
theorem dn_succ (p : List Int) (k : Nat) : dn p (k + 1) = dn p k ++ [p[k + 1]?.getD 0 * ((k : Int) + 1)] := by
  unfold dn
  rw [List.range_succ, List.map_append]
  simp [List.getD_eq_getElem?_getD]
theorem dn_length (p : List Int) (k : Nat) : (dn p k).length = k := by simp [dn]
theorem dn_all {p : List Int} (h : 1 < p.length) : Um.ders p = dn p (p.length - 1) := by unfold Um.ders dn; rw [if_neg (by omega)]
theorem dn_mem {p : List Int} {k m : Nat} (h : k ≤ m) {c : Int} (hc : c ∈ dn p k) : c ∈ dn p m := by
  unfold dn at *
  obtain ⟨i, hi, rfl⟩ := List.mem_map.1 hc
  exact List.mem_map.2 ⟨i, List.mem_range.2 (by have := List.mem_range.1 hi; omega), rfl⟩
theorem der_good {p : List Int} (h : 1 < p.length) (hm : ∀ c ∈ dn p (p.length - 1), Um.may c = true) : Um.derR p = (dn p (p.length - 1), 0) := by
  unfold Um.derR; rw [dn_all h, if_pos (List.all_eq_true.2 hm)]
theorem der_bad {p : List Int} {k : Nat} (h : k + 1 < p.length) (hm : Um.may (p[k + 1]?.getD 0 * ((k : Int) + 1)) = false) : Um.derR p = ([], 4) := by
  unfold Um.derR
  rw [dn_all (by omega), if_neg]
  intro ha
  have := List.all_eq_true.1 ha (p[k + 1]?.getD 0 * ((k : Int) + 1)) (dn_mem (k := k + 1) (by omega) (by rw [dn_succ]; simp))
  rw [hm] at this; cases this
set_option maxRecDepth 100000 in
set_option maxHeartbeats 4000000 in
theorem rDerive_many (p : List Int) (v : Value) (w : World) (hl : Li w.heap.size w v p) (h : Um.pchk p = 0) (h1 : 1 < p.length) :
    Calls Tryz.prog 46 #[v] w fun e w' => ∃ v', e = .returned (.tuple #[v', .int .i64 (Um.derR p).2]) ∧ Li w'.heap.size w' v' (Um.derR p).1 ∧ Below w.heap.size w w' := by
  obtain ⟨h0, h5, hm⟩ := Um.pchk_ok.1 h
  obtain ⟨b, off, cap, rfl, hlt, hcs⟩ := hl.out h0
  obtain ⟨i0, hi, hz0, hz1, hz2⟩ := info_parts info_int
  have HC := hid hcs
  have HM := hid hm
  have z : ((p.length : Int) == 1) = false := by simp; omega
  clear hcs hm h0 h hl
  go_enter Tryz.func46, Tryz.ntmps46
  go_wp2
  go_loopw [4, 5] (fun u i wr => ∃ k : Nat, k + 1 ≤ p.length ∧ i = .int .i64 ((k : Int) + 1) ∧ wr.ownsRow w.heap.size 3 1 u k ((dn p k).map (Value.int .i64)) ∧ Below w.heap.size w wr ∧ Hid (∀ c ∈ dn p k, Um.may c = true)) (fun _ i _ => p.length - (intOf i).toNat)
  case atStart => exact ⟨0, by omega, rfl, World.ownsRow_nil _ _ _ _, Below.refl _ _, fun c hc => by cases hc⟩
  case round =>
    obtain ⟨k, hk, rfl, hown, hB, hall⟩ := hrel
    have hsz := hB.size
    by_cases hkl : k + 1 < p.length
    · have hcx : wr.cell? ⟨b, off + (k + 1), none⟩ = some (.int .i64 (p[k + 1]?.getD 0)) := (hB.cell (p := ⟨b, off + (k + 1), none⟩) hlt).trans (HC.out (k + 1) hkl)
      have hkk : (k : Int) + 1 < (p.length : Int) := by omega
      have HD := fun hm => hid (der_bad hkl hm)
      have HS := hid (dn_succ p k)
      have mb := (Um.may_iff _).1 (HM.out _ (Um.at_mem hkl))
      have bb := Um.mul_by (A := 1000000000) (B := 5) mb.1 mb.2 (show (-5 : Int) ≤ (k : Int) + 1 by omega) (show (k : Int) + 1 ≤ 5 by omega) (by decide)
      obtain ⟨b1, b2⟩ := bb
      generalize p[k + 1]?.getD 0 = x at *
      clear HC HM mb
      cases hy : Um.may (x * ((k : Int) + 1))
      · obtain HR := HD hy
        clear HD HS hall
        go_wp2_with (go_at_call 40; refine (rMay_any _ _).mono ?_; rintro e w1 ⟨rfl, rfl⟩)
        go_returns
        rw [HR.out]
        exact ⟨_, rfl, Li.nil _ _, hB⟩
      · clear HD
        go_wp2_with (first | (go_at_call 40; refine (rMay_any _ _).mono ?_; rintro e w1 ⟨rfl, rfl⟩) | (at_builtin; refine wpList_append_own _ rfl _ _ 22 rfl w.heap.size 3 i0 (.int .i64 0) 1 8 Tryz.underlying22 hi hz0 hz1 hz2 rfl (by decide) _ _ _ rfl (hown.alloc _) _ 1 1 [.int .i64 (x * ((k : Int) + 1))] rfl rfl (cell_one_new _ _ _) (by simp [Value.oneCell']) (by unfold maxLen; omega) (by omega) (by simp; omega) ?_; intro v' w1 hown' hgrow _))
        refine ⟨⟨k + 1, by omega, by simp, ?_, (hB.alloc hsz _).grown hgrow (by simp; omega) (fun j e => own_from hown j e), ?_⟩, by simp [intOf]; omega⟩
        · rw [HS.out, List.map_append]; exact hown'
        · intro c hc
          rw [HS.out, List.mem_append] at hc
          rcases hc with hc | hc
          · exact hall.out c hc
          · rw [List.mem_singleton.1 hc]; exact hy
    · have hkp : k = p.length - 1 := by omega
      have HR := hid (der_good (p := p) h1 (by rw [← hkp]; exact hall.out))
      rw [← hkp] at HR
      have hkk : (k : Int) + 1 = (p.length : Int) := by omega
      clear hall HC HM hkp
      have hli : Li wr.heap.size wr _ (dn p k) := li_owns (by rw [dn_length]; exact hown)
      have HL := hid hli
      clear hown hli
      go_wp2
      go_returns
      rw [HR.out]
      exact ⟨_, rfl, HL.out, hB⟩

set_option maxHeartbeats 1000000 in
theorem rDerive_one (x : Int) (v : Value) (w : World) (hl : Li w.heap.size w v [x]) :
    Calls Tryz.prog 46 #[v] w fun e w' => ∃ v', e = .returned (.tuple #[v', .int .i64 (Um.derR [x]).2]) ∧ Li w'.heap.size w' v' (Um.derR [x]).1 ∧ Below w.heap.size w w' := by
  have HR : Hid (Um.derR [x] = ([0], 0)) := by unfold Um.derR; rfl
  obtain ⟨a, cap, rfl, -⟩ := hl
  have el : [x].length = 1 := rfl
  rw [el] at *
  clear el
  generalize Um.derR [x] = R at *
  go_enter Tryz.func46, Tryz.ntmps46
  go_wp2
  go_returns
  rw [HR.out]
  exact ⟨_, rfl, Li.one w 0 _, by go_grown⟩
theorem rDerive_any (p : List Int) (v : Value) (w : World) (hl : Li w.heap.size w v p) (h : Um.pchk p = 0) :
    Calls Tryz.prog 46 #[v] w fun e w' => ∃ v', e = .returned (.tuple #[v', .int .i64 (Um.derR p).2]) ∧ Li w'.heap.size w' v' (Um.derR p).1 ∧ Below w.heap.size w w' := by
  by_cases h1 : 1 < p.length
  · exact rDerive_many p v w hl h h1
  · match p, (Um.pchk_ok.1 h).1 with
    | [], h0 => exact absurd rfl h0
    | [x], _ => exact rDerive_one x v w hl
    | _ :: _ :: _, _ => simp at h1

end Go.Proofs.YthoiiffdigkodaaGreatDoor
