/-
  Plain arithmetic of the range over pieces, one behind the other, no program.
-/
import Derived.Test.YtapmmkgfanddeaaGreatDoorMaths
namespace Um
set_option linter.unusedSimpArgs false
theorem sp_first {lo hi many : Int} {p : List Int} (h : (monoR (cutR lo hi many 0) (cutR lo hi many 1) p).2.2 = 0) : spR lo hi many p 1 = monoR (cutR lo hi many 0) (cutR lo hi many 1) p := by
  show spR lo hi many p (0 + 1) = _
  have h0 : (spR lo hi many p 0).2.2 = 0 := rfl
  have h' : (monoR (cutR lo hi many 0) (cutR lo hi many (0 + 1)) p).2.2 = 0 := h
  rw [sp_succ, if_pos h0, if_pos h', if_pos rfl]
/-- Where one piece tells it, the whole does. -/
theorem sp_bad {lo hi many : Int} {p : List Int} {k n : Nat} (hk : k < n) (h : ¬ (monoR (cutR lo hi many k) (cutR lo hi many (k + 1)) p).2.2 = 0) : spR lo hi many p n = (0, 0, (monoR (cutR lo hi many k) (cutR lo hi many (k + 1)) p).2.2) := by
  have e : spR lo hi many p (k + 1) = (0, 0, 4) := by
    rw [sp_succ, if_neg h]
    split <;> rfl
  have := sp_stay (lo := lo) (hi := hi) (many := many) (p := p) (k := k + 1) (by rw [e]; decide) (n - (k + 1))
  rw [show k + 1 + (n - (k + 1)) = n by omega] at this
  rw [this, (mono_fault _ _ _).resolve_left h]
theorem sp_next {lo hi many : Int} {p : List Int} {k : Nat} (h1 : (spR lo hi many p (k + 1)).2.2 = 0) (h2 : (monoR (cutR lo hi many (k + 1)) (cutR lo hi many (k + 1 + 1)) p).2.2 = 0) :
    spR lo hi many p (k + 1 + 1) = hullR (spR lo hi many p (k + 1)).1 (spR lo hi many p (k + 1)).2.1 (monoR (cutR lo hi many (k + 1)) (cutR lo hi many (k + 1 + 1)) p).1 (monoR (cutR lo hi many (k + 1)) (cutR lo hi many (k + 1 + 1)) p).2.1 := by
  rw [sp_succ, if_pos h1, if_pos h2, if_neg (by omega)]
/-- In one piece it is itself. -/
theorem pie_one {lo hi : Int} (h : chk lo hi = 0) : pieF lo hi 1 = 0 ∧ pieR lo hi 1 = [(lo, hi)] := by
  have e : pieF lo hi 1 = 0 := pie_ok.2 ⟨h, by decide, by decide⟩
  refine ⟨e, ?_⟩
  unfold pieR
  rw [if_pos e]
  show cuts lo hi 1 (0 + 1) = _
  rw [cuts_succ, cut_zero]
  have c : cutR lo hi 1 (0 + 1) = hi := cut_last (many := 1) (k := 1) rfl (by decide)
  rw [c]
  rfl
theorem pie_not {lo hi : Int} (h : ¬ chk lo hi = 0) (many : Int) : pieF lo hi many = chk lo hi := by unfold pieF; rw [if_neg h]
theorem split_one {p : List Int} {lo hi : Int} : splitAll p lo hi 1 = monoAll p lo hi := by
  unfold splitAll monoAll
  by_cases ho : over p lo hi = 0
  · have e : splitF p lo hi 1 = 0 := split_ok.2 ⟨ho, by decide, by decide⟩
    rw [if_pos ho, if_pos e]
    exact sp_one lo hi p
  · have e : splitF p lo hi 1 = over p lo hi := by rw [split_over, if_neg ho]
    rw [e, if_neg ho, if_neg ho]
end Um
