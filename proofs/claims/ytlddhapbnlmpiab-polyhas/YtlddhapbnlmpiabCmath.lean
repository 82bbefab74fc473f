/-
  Plain arithmetic of polynomials of one unknown, as the code makes them, no program: from the last factor on, begun with 0; so many terms added up; the factors of the slope.
-/
import Derived.Test.YtlddhapbnlmpiabQpow
namespace Um
set_option linter.unusedSimpArgs false

theorem stimes_nought {lo hi : Int} (_ : lo ≤ hi) : stimesR 0 0 lo hi = (0, 0, 0) := by
  unfold stimesR mn4 mx4
  rw [Int.zero_mul, Int.zero_mul]
  decide +kernel
theorem hstep_first {lo hi c : Int} (hl : lo ≤ hi) (hm : may c = true) : hstep lo hi (0, 0, 0) c = (c, c, 0) := by
  unfold hstep
  simp only [stimes_nought hl]
  rw [if_pos trivial, if_pos trivial]
  unfold addR fit
  rw [Int.zero_add, if_pos ⟨hm, hm⟩]
/-- As the code goes: begun with 0. -/
def hcR (lo hi : Int) : List Int → Int × Int × Int
  | [] => (0, 0, 0)
  | c :: r => hstep lo hi (hcR lo hi r) c
theorem hc_horn {lo hi : Int} (hl : lo ≤ hi) : ∀ (p : List Int), (∀ c ∈ p, may c = true) → hcR lo hi p = hornR lo hi p
  | [], _ => rfl
  | [c], h => hstep_first hl (h c (by simp))
  | c :: d :: r, h => by
    have i := hc_horn hl (d :: r) (fun x hx => h x (List.mem_cons_of_mem _ hx))
    show hstep lo hi (hcR lo hi (d :: r)) c = hstep lo hi (hornR lo hi (d :: r)) c
    rw [i]
theorem hc_chk {lo hi : Int} (hl : lo ≤ hi) (p : List Int) (h : ∀ c ∈ p, may c = true) (h0 : (hcR lo hi p).2.2 = 0) : chk (hcR lo hi p).1 (hcR lo hi p).2.1 = 0 := by
  cases p with
  | nil => show chk 0 0 = 0; decide
  | cons c r => rw [hc_horn hl _ h] at h0 ⊢; exact horn_chk hl _ (by simp) h h0
theorem hc_fault {lo hi : Int} (p : List Int) : (hcR lo hi p).2.2 = 0 ∨ hcR lo hi p = (0, 0, 4) := by
  cases p with
  | nil => exact .inl rfl
  | cons c r => exact hstep_fault _ _ _ _
/-- The last k factors. -/
def tl (p : List Int) (k : Nat) : List Int := p.drop (p.length - k)
theorem tl_zero (p : List Int) : tl p 0 = [] := by unfold tl; simp
theorem tl_all (p : List Int) : tl p p.length = p := by unfold tl; simp
theorem tl_succ {p : List Int} {k : Nat} (h : k < p.length) : tl p (k + 1) = (p[p.length - 1 - k]?.getD 0) :: tl p k := by
  unfold tl
  have e : p.length - k = p.length - (k + 1) + 1 := by omega
  rw [e, List.drop_eq_getElem_cons (by omega : p.length - (k + 1) < p.length)]
  congr 1
  rw [show p.length - 1 - k = p.length - (k + 1) by omega, List.getElem?_eq_getElem (by omega)]; rfl
theorem tl_mem {p : List Int} {k : Nat} {c : Int} (h : c ∈ tl p k) : c ∈ p := List.mem_of_mem_drop h
theorem at_mem {p : List Int} {k : Nat} (h : k < p.length) : p[k]?.getD 0 ∈ p := by rw [List.getElem?_eq_getElem h]; exact List.getElem_mem h
theorem hc_stay {lo hi : Int} {p : List Int} : ∀ {k m : Nat}, k ≤ m → m ≤ p.length → hcR lo hi (tl p k) = (0, 0, 4) → hcR lo hi (tl p m) = (0, 0, 4)
  | k, 0, h1, _, h => by obtain rfl : k = 0 := by omega
                         exact h
  | k, m + 1, h1, h2, h => by
    by_cases e : k = m + 1
    · subst e; exact h
    · have i := hc_stay (m := m) (by omega : k ≤ m) (by omega) h
      rw [tl_succ (by omega)]
      show hstep lo hi (hcR lo hi (tl p m)) _ = _
      rw [i]; rfl
/-- Times, and added: as the code does it, whatever comes in. -/
def taR (al ah bl bh cl ch : Int) : Int × Int × Int :=
  if (made (stimesR al ah bl bh) al ah bl bh).2.2 = 0 then made (addR (made (stimesR al ah bl bh) al ah bl bh).1 (made (stimesR al ah bl bh) al ah bl bh).2.1 cl ch) (made (stimesR al ah bl bh) al ah bl bh).1 (made (stimesR al ah bl bh) al ah bl bh).2.1 cl ch
  else (0, 0, (made (stimesR al ah bl bh) al ah bl bh).2.2)
theorem ta_right {al ah bl bh cl ch : Int} (h1 : chk al ah = 0) (h2 : chk bl bh = 0) (h3 : chk cl ch = 0) :
    taR al ah bl bh cl ch = if (stimesR al ah bl bh).2.2 = 0 then addR (stimesR al ah bl bh).1 (stimesR al ah bl bh).2.1 cl ch else (0, 0, 4) := by
  unfold taR
  rw [made_good h1 h2]
  by_cases h : (stimesR al ah bl bh).2.2 = 0
  · rw [if_pos h, if_pos h, made_good (stimes_chk (chk_ok.1 h1).2.2 (chk_ok.1 h2).2.2 h) h3]
  · rw [if_neg h, if_neg h, (stimes_fault al ah bl bh).resolve_left h]
theorem chk_alone {c : Int} (h : may c = true) : chk c c = 0 := chk_ok.2 ⟨h, h, Int.le_refl _⟩
theorem ta_horn {lo hi c : Int} {s : Int × Int × Int} (hc : chk lo hi = 0) (hs : chk s.1 s.2.1 = 0) (h0 : s.2.2 = 0) (hm : may c = true) : taR s.1 s.2.1 lo hi c c = hstep lo hi s c := by
  rw [ta_right hs hc (chk_alone hm)]
  unfold hstep
  rw [if_pos h0]
theorem add_turn (al ah bl bh : Int) : addR al ah bl bh = addR bl bh al ah := by unfold addR; rw [Int.add_comm al, Int.add_comm ah]
theorem ta_pows {lo hi c : Int} {s : Int × Int × Int} {k : Nat} (hc : chk lo hi = 0) (hk : k ≤ 4) (hs : chk s.1 s.2.1 = 0) (h0 : s.2.2 = 0) (hm : may c = true) (hp : (powR lo hi k).2.2 = 0) :
    taR c c (powR lo hi k).1 (powR lo hi k).2.1 s.1 s.2.1 = pstep lo hi s c k := by
  rw [ta_right (chk_alone hm) (pow_chk hc hk hp) hs]
  unfold pstep
  rw [if_pos h0, if_pos hp]
  by_cases h : (stimesR c c (powR lo hi k).1 (powR lo hi k).2.1).2.2 = 0
  · rw [if_pos h, if_pos h, add_turn]
  · rw [if_neg h, if_neg h]
theorem pows_dead {lo hi : Int} {p : List Int} {k : Nat} (h : ¬ (powR lo hi k).2.2 = 0) : powsN lo hi p (k + 1) = (0, 0, 4) := by
  show pstep lo hi (powsN lo hi p k) (p.getD k 0) k = _
  unfold pstep
  by_cases h1 : (powsN lo hi p k).2.2 = 0
  · rw [if_pos h1, if_neg h]
  · rw [if_neg h1]
/-- What Horner, and Powers, answer to anything. -/
def hornAll (p : List Int) (lo hi : Int) : Int × Int × Int := if over p lo hi = 0 then hornR lo hi p else (0, 0, over p lo hi)
def powsAll (p : List Int) (lo hi : Int) : Int × Int × Int := if over p lo hi = 0 then powsN lo hi p p.length else (0, 0, over p lo hi)
end Um
