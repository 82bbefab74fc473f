/-
  Plain lists of bytes, no program: reading a text byte by byte (how many digits ahead of the point, how many behind it) comes to what cutting it at its point comes to.
-/
import Derived.Test.YthoeifpmakdfnaaDoorText
namespace Um
set_option linter.unusedSimpArgs false
open Go

/-- What was read so far (digits as a number, how many ahead of the point, how many behind it or -1), and one byte more. -/
def step (o : Option (Nat × Nat × Int)) (c : UInt8) : Option (Nat × Nat × Int) :=
  match o with
  | none => none
  | some (n, m, b) => if c = 46 ∧ b < 0 then some (n, m, 0) else if isDig c = true then some (10 * n + (c.toNat - 48), if b < 0 then m + 1 else m, if b < 0 then b else b + 1) else none
def scan (l : List UInt8) : Option (Nat × Nat × Int) := l.foldl step (some (0, 0, -1))
theorem scan_snoc (l : List UInt8) (c : UInt8) : scan (l ++ [c]) = step (scan l) c := by simp [scan]
theorem foldl_none (l : List UInt8) : l.foldl step none = none := by
  induction l with
  | nil => rfl
  | cons c t ih => exact ih
theorem scan_none {a b : List UInt8} (h : scan a = none) : scan (a ++ b) = none := by
  unfold scan at *
  rw [List.foldl_append, h, foldl_none]

theorem snoc_cases (l : List UInt8) : l = [] ∨ ∃ t c, l = t ++ [c] := by
  by_cases h : l = []
  · exact .inl h
  · exact .inr ⟨l.dropLast, l.getLast h, (List.dropLast_concat_getLast h).symm⟩

def Inv (l : List UInt8) (n m : Nat) (b : Int) : Prop :=
  (b = -1 ∧ digs l = true ∧ m = l.length ∧ n = val l) ∨ (∃ x y, l = x ++ 46 :: y ∧ digs x = true ∧ digs y = true ∧ m = x.length ∧ b = y.length ∧ n = val (x ++ y))
theorem digs_app (x y : List UInt8) : digs (x ++ y) = (digs x && digs y) := by simp [digs]
theorem not_dig_point : isDig 46 = false := by decide

theorem scan_inv : ∀ (k : Nat) (l : List UInt8), l.length = k → ∀ n m b, scan l = some (n, m, b) → Inv l n m b := by
  intro k
  induction k with
  | zero =>
    intro l hl n m b h
    rw [List.length_eq_zero_iff.1 hl] at h ⊢
    have h' : some ((0 : Nat), (0 : Nat), (-1 : Int)) = some (n, m, b) := h
    simp only [Option.some.injEq, Prod.mk.injEq] at h'
    obtain ⟨rfl, rfl, rfl⟩ := h'
    exact .inl ⟨rfl, rfl, rfl, rfl⟩
  | succ k ih =>
    intro l hl n m b h
    rcases snoc_cases l with rfl | ⟨t, c, rfl⟩
    · cases hl
    rw [scan_snoc] at h
    cases ht : scan t with
    | none => rw [ht] at h; cases h
    | some st =>
      obtain ⟨n', m', b'⟩ := st
      have hi := ih t (by simpa using hl) n' m' b' ht
      rw [ht] at h
      simp only [step] at h
      split at h
      · rename_i hc
        simp only [Option.some.injEq, Prod.mk.injEq] at h
        obtain ⟨rfl, rfl, rfl⟩ := h
        obtain ⟨rfl, hb⟩ := hc
        rcases hi with ⟨_, hd, hm, hn⟩ | ⟨x, y, _, _, _, _, hb2, _⟩
        · exact .inr ⟨t, [], rfl, hd, rfl, hm, rfl, by rw [List.append_nil]; exact hn⟩
        · omega
      · split at h
        · rename_i hc hd
          simp only [Option.some.injEq, Prod.mk.injEq] at h
          obtain ⟨rfl, rfl, rfl⟩ := h
          rcases hi with ⟨hb, hdt, hm, hn⟩ | ⟨x, y, hl2, hx, hy, hm, hb, hn⟩
          · subst hb
            refine .inl ⟨rfl, by rw [digs_snoc, hdt, hd]; rfl, by simp [hm], ?_⟩
            rw [val_snoc, ← hn]; omega
          · have hb0 : ¬ b' < 0 := by omega
            refine .inr ⟨x, y ++ [c], by rw [hl2]; simp, hx, by rw [digs_snoc, hy, hd]; rfl, by rw [if_neg hb0]; exact hm, by rw [if_neg hb0, hb]; simp, ?_⟩
            rw [← List.append_assoc, val_snoc, ← hn]; omega
        · cases h

theorem scan_digs : ∀ (k : Nat) (l : List UInt8), l.length = k → digs l = true → scan l = some (val l, l.length, -1) := by
  intro k
  induction k with
  | zero => intro l hl _; rw [List.length_eq_zero_iff.1 hl]; rfl
  | succ k ih =>
    intro l hl hd
    rcases snoc_cases l with rfl | ⟨t, c, rfl⟩
    · cases hl
    rw [digs_snoc] at hd
    have hd' : digs t = true ∧ isDig c = true := by simpa using hd
    rw [scan_snoc, ih t (by simpa using hl) hd'.1]
    have hc : ¬ (c = 46 ∧ (-1 : Int) < 0) := by
      intro h; rw [h.1] at hd'; exact absurd hd'.2 (by decide)
    simp only [step]
    rw [if_neg hc, if_pos hd'.2, val_snoc]
    simp
    omega
theorem scan_point : ∀ (k : Nat) (x y : List UInt8), y.length = k → digs x = true → digs y = true → scan (x ++ 46 :: y) = some (val (x ++ y), x.length, ((y.length : Nat) : Int)) := by
  intro k
  induction k with
  | zero =>
    intro x y hy hx _
    rw [List.length_eq_zero_iff.1 hy, scan_snoc, scan_digs _ x rfl hx, List.append_nil]
    simp [step]
  | succ k ih =>
    intro x y hl hx hy
    rcases snoc_cases y with rfl | ⟨t, c, rfl⟩
    · cases hl
    rw [digs_snoc] at hy
    have hd' : digs t = true ∧ isDig c = true := by simpa using hy
    rw [show x ++ 46 :: (t ++ [c]) = (x ++ 46 :: t) ++ [c] from by simp, scan_snoc, ih x t (by simpa using hl) hx hd'.1]
    have hb : ¬ ((t.length : Nat) : Int) < 0 := by omega
    have hc : ¬ (c = 46 ∧ ((t.length : Nat) : Int) < 0) := fun h => hb h.2
    simp only [step]
    rw [if_neg hc, if_pos hd'.2, if_neg hb, if_neg hb, ← List.append_assoc, val_snoc]
    simp
    omega

theorem val_three (x y : List UInt8) (hy : y.length = 3) : val (x ++ y) = val x * 1000 + val y := by
  match y, hy with
  | [a, b, c], _ =>
    have h1 : x ++ [a, b, c] = ((x ++ [a]) ++ [b]) ++ [c] := by simp
    rw [h1, val_snoc, val_snoc, val_snoc]
    have h2 : val [a, b, c] = ((0 * 10 + (a.toNat - 48)) * 10 + (b.toNat - 48)) * 10 + (c.toNat - 48) := rfl
    rw [h2]; omega

/-- May what was read be a number without a sign? -/
def good (l : List UInt8) : Option (Nat × Nat × Int) → Option Nat
  | none => none
  | some (n, m, b) => if b = 3 ∧ 1 ≤ m ∧ ¬ (1 < m ∧ l.head? = some 48) then some n else none

theorem head_app {x y : List UInt8} (h : x ≠ []) : (x ++ y).head? = x.head? := by
  cases x with
  | nil => exact absurd rfl h
  | cons a t => rfl

theorem good_size (l : List UInt8) : good l (scan l) = sizeR l := by
  cases hs : scan l with
  | none =>
    cases hz : sizeR l with
    | none => rfl
    | some n =>
      exfalso
      unfold sizeR at hz
      split at hz
      · rename_i hc
        have hne : (Lib.cut l [46]).2.1 ≠ [] := by intro e; rw [e] at hc; exact absurd hc.2.1 (by decide)
        have hl := cut_found hne
        rw [hl, scan_point _ _ _ rfl (whole_parts hc.1).2.1 hc.2.2] at hs
        cases hs
      · cases hz
  | some st =>
    obtain ⟨n, m, b⟩ := st
    have hi := scan_inv _ l rfl n m b hs
    simp only [good]
    rcases hi with ⟨hb, hd, hm, hn⟩ | ⟨x, y, hl, hx, hy, hm, hb, hn⟩
    · rw [if_neg (by omega)]
      unfold sizeR
      rw [if_neg]
      intro hc
      have hne : (Lib.cut l [46]).2.1 ≠ [] := by intro e; rw [e] at hc; exact absurd hc.2.1 (by decide)
      have hl := cut_found hne
      rw [hl, digs_app] at hd
      have : digs (46 :: (Lib.cut l [46]).2.1) = true := by
        cases h : digs (46 :: (Lib.cut l [46]).2.1) <;> simp [h] at hd ⊢
      have h46 : isDig 46 = true := by
        have h2 : (isDig 46 && digs (Lib.cut l [46]).2.1) = true := this
        cases h3 : isDig 46 <;> simp [h3] at h2 ⊢
      exact absurd h46 (by decide)
    · subst hl
      unfold sizeR
      rw [cut_point x y hx]
      by_cases hc : b = 3 ∧ 1 ≤ m ∧ ¬ (1 < m ∧ (x ++ 46 :: y).head? = some 48)
      · rw [if_pos hc]
        obtain ⟨h1, h2, h3⟩ := hc
        have hy3 : y.length = 3 := by omega
        have hxne : x ≠ [] := by intro e; rw [e] at hm; simp at hm; omega
        rw [head_app hxne] at h3
        have hw : whole x = true := by
          unfold whole
          rw [hx]
          have he : x.isEmpty = false := by cases x with | nil => exact absurd rfl hxne | cons _ _ => rfl
          rw [he]
          by_cases hh : x.head? = some 48
          · have hm1 : x.length = 1 := by
              have : ¬ 1 < m := fun h => h3 ⟨h, hh⟩
              omega
            match x, hm1, hh with
            | [c], _, hh =>
              have : c = 48 := by simpa using hh
              subst this; rfl
          · have : (x.head? != some 48) = true := by rw [bne_iff_ne]; exact hh
            rw [this]; simp
        rw [if_pos ⟨hw, hy3, hy⟩, hn, val_three x y hy3]
      · rw [if_neg hc, if_neg]
        intro hh
        obtain ⟨h1, h2, h3⟩ := hh
        have hp := whole_parts h1
        refine hc ⟨by rw [hb, h2]; rfl, ?_, ?_⟩
        · rw [hm]
          rcases Nat.eq_zero_or_pos x.length with h | h
          · exact absurd (List.length_eq_zero_iff.1 h) hp.1
          · exact h
        · rw [head_app hp.1]
          rintro ⟨h4, h5⟩
          rcases hp.2.2 with h6 | h6
          · have h7 : x = [48] := h6
            rw [h7] at hm; simp at hm; omega
          · exact h6 h5

theorem scan_bound {l : List UInt8} {n m : Nat} {b : Int} (h : scan l = some (n, m, b)) (hl : l.length ≤ 12) : n < 10 ^ 12 ∧ m ≤ 12 ∧ -1 ≤ b ∧ b ≤ 12 := by
  rcases scan_inv _ l rfl n m b h with ⟨hb, hd, hm, hn⟩ | ⟨x, y, hll, hx, hy, hm, hb, hn⟩
  · exact ⟨by rw [hn]; exact val_lt' hd 12 hl, by omega, by omega, by omega⟩
  · have hlen : x.length + y.length + 1 = l.length := by rw [hll]; simp; omega
    exact ⟨by rw [hn]; exact val_lt' (by rw [digs_app, hx, hy]; rfl) 12 (by simp; omega), by omega, by omega, by omega⟩
end Um
