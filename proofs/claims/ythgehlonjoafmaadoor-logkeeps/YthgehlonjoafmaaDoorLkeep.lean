/-
  Plain arithmetic of what a Log keeps, no program: where its records end, what a Put tells, what a crash leaves.
-/
import Derived.Test.YthgehlonjoafmaaDoorLcode
namespace Um
set_option linter.unusedSimpArgs false

/-- Where each record ends, the first one behind nothing. -/
def marksN (len n : Nat) : List Int := (List.range (n + 1)).map fun i => ((len * i : Nat) : Int)
theorem marks_length (len n : Nat) : (marksN len n).length = n + 1 := by simp [marksN]
theorem marks_get {len n i : Nat} (h : i ≤ n) : (marksN len n)[i]?.getD 0 = ((len * i : Nat) : Int) := by
  unfold marksN
  rw [List.getElem?_map, List.getElem?_range (by omega)]
  rfl
theorem marks_more (len n : Nat) : marksN len (n + 1) = marksN len n ++ [((len * (n + 1) : Nat) : Int)] := by
  unfold marksN
  rw [List.range_succ, List.map_append]
  rfl
theorem marks_take {len n m : Nat} (h : m ≤ n) : (marksN len n).take (m + 1) = marksN len m := by
  unfold marksN
  rw [← List.map_take, List.take_range, Nat.min_eq_left (by omega)]
/-- What is wrong with a box that is handed to a Log that has not stopped. -/
def wantF (n d : Nat) (b : List (Int × Int)) : Int := if 20 ≤ d then 4 else if boxF b = 0 then (if b.length = n then 0 else 3) else boxF b
theorem put_told (s : LogS) (b : List (Int × Int)) : putF s b = 6 ∨ putF s b = wantF s.sides s.done.length b := by
  have e : refF s b = if s.stop = true then 6 else wantF s.sides s.done.length b := rfl
  by_cases h : s.stop = true
  · rw [if_pos h] at e
    exact .inl (by unfold putF; rw [e]; rfl)
  · rw [if_neg h] at e
    by_cases h0 : refF s b = 0
    · unfold putF stepF
      rw [if_pos h0]
      by_cases h1 : s.left = 0
      · rw [if_pos h1]; exact .inl rfl
      · rw [if_neg h1]; exact .inr (by rw [← e, h0])
    · unfold putF
      rw [if_neg h0]; exact .inr e
theorem put_sides (s : LogS) (b : List (Int × Int)) : (putS s b).sides = s.sides := by
  unfold putS
  split
  · split <;> rfl
  · rfl
theorem put_done {s : LogS} {b : List (Int × Int)} (h : s.Ok) (h0 : putF s b = 0) : (putS s b).done = s.done ++ [b] ∧ s.bytes.length + 9 ≤ (putS s b).bytes.length ∧ (putS s b).bytes.length = s.len * (s.done.length + 1) := by
  by_cases hr : refF s b = 0
  · by_cases hl : s.left = 0
    · have := (put_stop hr hl).1
      rw [h0] at this; exact absurd this (by decide)
    · have e := (put_yes hr hl).2
      have q := (put_ok (b := b) h).size
      have hh := h.on (ref_ok.1 hr).1
      have l9 := h.l9
      rw [h.size, q, hh, e]
      refine ⟨rfl, ?_, ?_⟩
      · show s.len * s.done.length + 0 + 9 ≤ s.len * (s.done ++ [b]).length + s.half.length
        rw [List.length_append, Nat.mul_add]
        simp only [List.length_cons, List.length_nil, Nat.mul_add, Nat.mul_one, Nat.mul_zero]
        omega
      · show s.len * (s.done ++ [b]).length + s.half.length = _
        rw [hh, List.length_append]; rfl
  · have := (put_not hr).1
    rw [h0] at this; exact absurd this.symm hr
theorem put_same {s : LogS} {b : List (Int × Int)} (h0 : ¬ putF s b = 0) : (putS s b).done = s.done := by
  by_cases hr : refF s b = 0
  · by_cases hl : s.left = 0
    · rw [(put_stop hr hl).2]
    · exact absurd (put_yes hr hl).1 h0
  · rw [(put_not hr).2]
theorem sync_keep (s : LogS) : (syncS s).done = s.done ∧ (syncS s).sides = s.sides ∧ (syncF s = 0 → (syncS s).safe = (syncS s).bytes.length) := by
  unfold syncS syncF stepF
  by_cases h : s.stop = true
  · rw [if_pos h, if_pos h]; exact ⟨rfl, rfl, fun e => absurd e (by decide)⟩
  · rw [if_neg h, if_neg h]
    by_cases h0 : s.left = 0
    · rw [if_pos h0, if_pos h0]; exact ⟨rfl, rfl, fun e => absurd e (by decide)⟩
    · rw [if_neg h0, if_neg h0]; exact ⟨rfl, rfl, fun _ => rfl⟩
/-- How far what is left reaches. -/
theorem cut_low {s : LogS} {keep : Int} (h : s.Ok) (h0 : ¬ 0 < keep) : (cutN s keep : Int) = s.safe := by
  have := h.safe_le
  unfold cutN; omega
theorem cut_mid {s : LogS} {keep : Int} (h : s.Ok) (h0 : 0 < keep) (h1 : keep < (s.bytes.length : Int) - s.safe) : (cutN s keep : Int) = s.safe + keep := by
  have := h.safe_le
  unfold cutN; omega
theorem cut_high {s : LogS} {keep : Int} (h : s.Ok) (h0 : 0 < keep) (h1 : ¬ keep < (s.bytes.length : Int) - s.safe) : (cutN s keep : Int) = s.bytes.length := by
  have := h.safe_le
  unfold cutN; omega
theorem left_yes {len c i : Nat} (hl : 0 < len) (h : len * i ≤ c) : min (c / len) i = i := by
  have : i ≤ c / len := (Nat.le_div_iff_mul_le hl).2 (by rw [Nat.mul_comm]; exact h)
  omega
theorem left_no {len c i : Nat} (hl : 0 < len) (h : ¬ len * i ≤ c) : min (c / len) (i - 1) = min (c / len) i := by
  have : ¬ i ≤ c / len := fun e => h (by rw [Nat.mul_comm]; exact (Nat.le_div_iff_mul_le hl).1 e)
  omega
theorem crash_facts {s : LogS} {keep : Int} (h : s.Ok) : leftN s keep ≤ s.done.length ∧ (crashS s keep).done = s.done.take (leftN s keep) ∧ (crashS s keep).bytes.length = s.len * leftN s keep ∧ (crashS s keep).safe = s.len * leftN s keep ∧ (crashS s keep).sides = s.sides :=
  ⟨by unfold leftN; omega, rfl, crash_size h, rfl, rfl⟩
/-- The hull of the first i, and what is told of it. -/
def hullK (l : List (List (Int × Int))) : Nat → List (Int × Int)
  | 0 => []
  | m + 1 => hullTo l m
def errK : Nat → Int
  | 0 => 5
  | _ + 1 => 0
theorem hullK_all (l : List (List (Int × Int))) : hullK l l.length = hullF l ∧ errK l.length = hullE l := by
  cases l with
  | nil => exact ⟨rfl, rfl⟩
  | cons b l =>
    have h := hullF_some (l := b :: l) (by simp)
    exact ⟨h.1.symm, h.2.symm⟩
/-- What stands at the law's head. -/
def oneS : LogS := putS (syncS (putS (newS 1) [(1, 2)])) [(5, 9)]
theorem one_facts : putF (newS 1) [(1, 2)] = 0 ∧ syncF (putS (newS 1) [(1, 2)]) = 0 ∧ putF (syncS (putS (newS 1) [(1, 2)])) [(5, 9)] = 0 ∧ hullE oneS.done = 0 ∧ hullF oneS.done = [(1, 9)] ∧ (crashS oneS 0).done = [[(1, 2)]] ∧ (crashS oneS 0).bytes.length = 9 ∧ (crashS oneS 0).safe = 9 := by decide +kernel
end Um
