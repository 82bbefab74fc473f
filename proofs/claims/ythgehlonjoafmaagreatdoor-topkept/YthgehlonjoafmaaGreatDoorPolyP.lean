/-
  What package poly's Powers answers, at every argument.
-/
import Derived.Test.YthgehlonjoafmaaGreatDoorPoly
import Derived.Test.YthgehlonjoafmaaGreatDoorMems
import Derived.Test.YthgehlonjoafmaaGreatDoorPowerOf
namespace Go.Proofs.YthgehlonjoafmaaGreatDoor
set_option linter.unusedSimpArgs false
open Go.RowKit

/-- Between two rounds: what has been summed up, and what else lies there. -/
structure Pi (w W : World) (S : Nat) (lo hi : Int) (s : Int × Int × Int) : Prop where
  ok : s.2.2 = 0
  sum : Sp W S s.1 s.2.1
  x : Sp W w.heap.size lo hi
  res : Sp W (w.heap.size + 1) 0 0
  below : Below w.heap.size w W
theorem Pi.step {w W W' : World} {S : Nat} {lo hi : Int} {s : Int × Int × Int} (h : Pi w W S lo hi s) (hb : Below W.heap.size W W') : Pi w W' S lo hi s :=
  ⟨h.ok, h.sum.step hb, h.x.step hb, h.res.step hb, h.below.trans (hb.mono h.below.size)⟩
theorem of_pow {lo hi : Int} {k : Nat} (hc : Um.chk lo hi = 0) (hk : k ≤ 4) : Um.ofR lo hi k = Um.powR lo hi k := by
  unfold Um.ofR; rw [if_pos hc, if_neg (by omega)]; simp
theorem pows_next {lo hi : Int} {p : List Int} {k : Nat} (hc : Um.chk lo hi = 0) (hk : k < p.length) (h5 : p.length ≤ 5) (hm : ∀ c ∈ p, Um.may c = true) (h0 : (Um.powsN lo hi p k).2.2 = 0) (hp : (Um.powR lo hi k).2.2 = 0) :
    Um.taR (p[k]?.getD 0) (p[k]?.getD 0) (Um.powR lo hi k).1 (Um.powR lo hi k).2.1 (Um.powsN lo hi p k).1 (Um.powsN lo hi p k).2.1 = Um.powsN lo hi p (k + 1) := by
  rw [Um.ta_pows hc (by omega) (Um.pows_chk hc p k (by omega) h0) h0 (hm _ (Um.at_mem hk)) hp, Um.pows_succ, List.getD_eq_getElem?_getD]
theorem pows_out {lo hi : Int} {p : List Int} {k : Nat} (hk : k < p.length) (h : ¬ (Um.powsN lo hi p (k + 1)).2.2 = 0) : Um.powsN lo hi p p.length = (0, 0, 4) ∧ (Um.powsN lo hi p (k + 1)).2.2 = 4 := by
  have e := Um.pows_stay h (p.length - (k + 1))
  rw [show k + 1 + (p.length - (k + 1)) = p.length by omega] at e
  exact ⟨e, by rw [(Um.pows_fault lo hi p (k + 1)).resolve_left h]⟩
theorem pows_out' {lo hi : Int} {p : List Int} {k : Nat} (hk : k < p.length) (h : ¬ (Um.powR lo hi k).2.2 = 0) : Um.powsN lo hi p p.length = (0, 0, 4) ∧ (Um.powR lo hi k).2.2 = 4 := by
  refine ⟨(pows_out hk (by rw [Um.pows_dead h]; decide)).1, by rw [(Um.pow_fault (lo := lo) (hi := hi) k).resolve_left h]⟩

end Go.Proofs.YthgehlonjoafmaaGreatDoor
