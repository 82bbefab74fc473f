/-
  Plain lists of bytes, no program: decimal digits, what they stand for, and the text of a number of thousandths; a number is read as it was written.
  Plain lists of bytes, no program: reading a text byte by byte (how many digits ahead of the point, how many behind it) comes to what cutting it at its point comes to.
  Plain lists of bytes, no program: a text cut at a byte, spans and polynomials in words, the answer to a line, and to a text.
  Plain arithmetic of lines by text, no program: what is told of right spans can be named and written, and how long an answer is.
-/
import Derived.Test.YtkfalmdckmlneaaGreatDoorMaths
import Derived.Lib.ItoaNum
import Derived.Lib.IndexMore
import Derived.Lib.Strings
namespace Um
set_option linter.unusedSimpArgs false
open Go

def isDig (c : UInt8) : Bool := decide (48 ≤ c.toNat) && decide (c.toNat ≤ 57)
def digs (l : List UInt8) : Bool := l.all isDig
def val (l : List UInt8) : Nat := l.foldl (fun n c => n * 10 + (c.toNat - 48)) 0
/-- Decimal digits without a needless 0 ahead. -/
def whole (l : List UInt8) : Bool := !l.isEmpty && digs l && (l == [48] || l.head? != some 48)
/-- The text of a number from 0 on. -/
def wr (n : Nat) : List UInt8 := Lib.decDigits (n / 1000) ++ [46] ++ (Lib.decDigits (1000 + n % 1000)).drop 1
def printR (n : Int) : List UInt8 := if n < 0 then [45] ++ wr (-n).toNat else wr n.toNat
def sizeR (l : List UInt8) : Option Nat :=
  if whole (Lib.cut l [46]).1 = true ∧ (Lib.cut l [46]).2.1.length = 3 ∧ digs (Lib.cut l [46]).2.1 = true then some (val (Lib.cut l [46]).1 * 1000 + val (Lib.cut l [46]).2.1) else none
def readR (l : List UInt8) : Option Int :=
  if Lib.hasPrefix l [45] = true then (match sizeR (l.drop 1) with | some n => if n = 0 then none else some (-(n : Int)) | none => none)
  else (match sizeR l with | some n => some (n : Int) | none => none)
/-- What a text stands for, and its error. -/
def parseR (l : List UInt8) : Int × Int :=
  if 12 < l.length then (0, 2) else match readR l with | none => (0, 2) | some n => if may n = true then (n, 0) else (0, 1)

theorem isDig_iff (c : UInt8) : isDig c = true ↔ 48 ≤ c.toNat ∧ c.toNat ≤ 57 := by simp [isDig]
theorem dig_toNat {k : Nat} (h : k < 10) : (UInt8.ofNat (48 + k)).toNat = 48 + k := by
  rw [UInt8.toNat_ofNat']; omega
theorem dig_isDig {k : Nat} (h : k < 10) : isDig (UInt8.ofNat (48 + k)) = true := by
  rw [isDig_iff, dig_toNat h]; omega
theorem dig_back {c : UInt8} (h : isDig c = true) : UInt8.ofNat (48 + (c.toNat - 48)) = c := by
  have := (isDig_iff c).1 h
  apply UInt8.toNat_inj.1
  rw [UInt8.toNat_ofNat']; omega

theorem val_snoc (l : List UInt8) (c : UInt8) : val (l ++ [c]) = val l * 10 + (c.toNat - 48) := by simp [val]
theorem digs_snoc (l : List UInt8) (c : UInt8) : digs (l ++ [c]) = (digs l && isDig c) := by simp [digs]
theorem val_nil : val [] = 0 := rfl

theorem decDigits_small {n : Nat} (h : n < 10) : Lib.decDigits n = [UInt8.ofNat (48 + n)] := by rw [Lib.decDigits]; simp [h]
theorem decDigits_big {n : Nat} (h : ¬ n < 10) : Lib.decDigits n = Lib.decDigits (n / 10) ++ [UInt8.ofNat (48 + n % 10)] := by rw [Lib.decDigits]; simp [h]

theorem decDigits_ne (n : Nat) : Lib.decDigits n ≠ [] := by
  rw [Lib.decDigits]; split <;> simp

theorem decDigits_digs (n : Nat) : digs (Lib.decDigits n) = true := by
  induction n using Nat.strongRecOn with
  | _ n ih =>
    by_cases h : n < 10
    · rw [decDigits_small h]; show (isDig _ && true) = true; rw [dig_isDig h]; rfl
    · rw [decDigits_big h, digs_snoc, ih (n / 10) (by omega), dig_isDig (by omega)]; rfl
theorem decDigits_val (n : Nat) : val (Lib.decDigits n) = n := by
  induction n using Nat.strongRecOn with
  | _ n ih =>
    by_cases h : n < 10
    · rw [decDigits_small h]
      show (0 * 10 + ((UInt8.ofNat (48 + n)).toNat - 48)) = n
      rw [dig_toNat h]; omega
    · rw [decDigits_big h, val_snoc, ih (n / 10) (by omega), dig_toNat (by omega)]; omega
theorem decDigits_head (n : Nat) (hn : 0 < n) : (Lib.decDigits n).head? ≠ some 48 := by
  induction n using Nat.strongRecOn with
  | _ n ih =>
    by_cases h : n < 10
    · rw [decDigits_small h]
      intro e
      have : (UInt8.ofNat (48 + n)) = 48 := by simpa using e
      have h2 := congrArg UInt8.toNat this
      rw [dig_toNat h] at h2
      simp at h2; omega
    · have := ih (n / 10) (by omega) (by omega)
      rw [decDigits_big h]
      cases hd : Lib.decDigits (n / 10) with
      | nil => exact absurd hd (decDigits_ne _)
      | cons a l => rw [hd] at this; simpa using this
theorem decDigits_whole (n : Nat) : whole (Lib.decDigits n) = true := by
  have h1 := decDigits_digs n
  have h2 : (Lib.decDigits n).isEmpty = false := by
    cases h : Lib.decDigits n with
    | nil => exact absurd h (decDigits_ne n)
    | cons a l => rfl
  unfold whole
  rw [h1, h2]
  by_cases h : n = 0
  · subst h; rw [decDigits_small (by omega)]; rfl
  · have := decDigits_head n (by omega)
    have h3 : ((Lib.decDigits n).head? != some 48) = true := by rw [bne_iff_ne]; exact this
    rw [h3]; simp
theorem decDigits_length_le (k n : Nat) (h : n < 10 ^ (k + 1)) : (Lib.decDigits n).length ≤ k + 1 := by
  induction k generalizing n with
  | zero => rw [decDigits_small (by simpa using h)]; simp
  | succ k ih =>
    by_cases h' : n < 10
    · rw [decDigits_small h']; simp
    · rw [decDigits_big h', List.length_append]
      have := ih (n / 10) (by rw [Nat.div_lt_iff_lt_mul (by omega)]; rw [Nat.pow_succ] at h; exact h)
      simp; omega

theorem head_snoc {l : List UInt8} {c : UInt8} (h : l ≠ []) : (l ++ [c]).head? = l.head? := by
  cases l with
  | nil => exact absurd rfl h
  | cons a t => rfl

theorem val_pos {l : List UInt8} (hd : digs l = true) (h0 : l ≠ []) (hh : l.head? ≠ some 48) : 0 < val l := by
  revert hd h0 hh
  induction hn : l.length generalizing l with
  | zero => intro _ h0 _; exact absurd (List.length_eq_zero_iff.1 hn) h0
  | succ k ih =>
    intro hd h0 hh
    obtain ⟨l', c, rfl⟩ : ∃ l' c, l = l' ++ [c] := ⟨l.dropLast, l.getLast h0, (List.dropLast_concat_getLast h0).symm⟩
    rw [digs_snoc] at hd
    have hd' : digs l' = true ∧ isDig c = true := by simpa using hd
    rw [val_snoc]
    by_cases hl : l' = []
    · subst hl
      have hc : c ≠ 48 := by simpa using hh
      have hc2 := (isDig_iff c).1 hd'.2
      have hc3 : c.toNat ≠ 48 := fun e => hc (UInt8.toNat_inj.1 (by simpa using e))
      omega
    · have := ih (l := l') (by simpa using hn) hd'.1 hl (by rwa [head_snoc hl] at hh)
      omega

theorem whole_parts {l : List UInt8} (h : whole l = true) : l ≠ [] ∧ digs l = true ∧ (l = [48] ∨ l.head? ≠ some 48) := by
  unfold whole at h
  simp only [Bool.and_eq_true, Bool.not_eq_true', Bool.or_eq_true, beq_iff_eq, bne_iff_ne] at h
  refine ⟨fun e => ?_, h.1.2, h.2⟩
  subst e; simp at h

/-- Digits without a needless 0 ahead are the digits of what they stand for. -/
theorem decDigits_back {l : List UInt8} (h : whole l = true) : Lib.decDigits (val l) = l := by
  obtain ⟨h0, hd, hh⟩ := whole_parts h
  rcases hh with rfl | hh
  · show Lib.decDigits 0 = [48]; rw [decDigits_small (by omega)]; rfl
  clear h
  revert h0 hd hh
  induction hn : l.length generalizing l with
  | zero => intro h0 _ _; exact absurd (List.length_eq_zero_iff.1 hn) h0
  | succ k ih =>
    intro h0 hd hh
    obtain ⟨l', c, rfl⟩ : ∃ l' c, l = l' ++ [c] := ⟨l.dropLast, l.getLast h0, (List.dropLast_concat_getLast h0).symm⟩
    rw [digs_snoc] at hd
    have hd' : digs l' = true ∧ isDig c = true := by simpa using hd
    have hc2 := (isDig_iff c).1 hd'.2
    rw [val_snoc]
    by_cases hl : l' = []
    · subst hl
      rw [val_nil, decDigits_small (by omega)]
      simpa using dig_back hd'.2
    · have hh' : l'.head? ≠ some 48 := by rwa [head_snoc hl] at hh
      have hp := val_pos hd'.1 hl hh'
      have hi := ih (l := l') (by simpa using hn) hl hd'.1 hh'
      rw [decDigits_big (by omega)]
      rw [show (val l' * 10 + (c.toNat - 48)) / 10 = val l' from by omega, show (val l' * 10 + (c.toNat - 48)) % 10 = c.toNat - 48 from by omega, hi, dig_back hd'.2]

theorem val_lt {l : List UInt8} (hd : digs l = true) : val l < 10 ^ l.length := by
  revert hd
  induction hn : l.length generalizing l with
  | zero => intro _; rw [List.length_eq_zero_iff.1 hn]; decide
  | succ k ih =>
    intro hd
    have h0 : l ≠ [] := by intro e; rw [e] at hn; cases hn
    obtain ⟨l', c, rfl⟩ : ∃ l' c, l = l' ++ [c] := ⟨l.dropLast, l.getLast h0, (List.dropLast_concat_getLast h0).symm⟩
    rw [digs_snoc] at hd
    have hd' : digs l' = true ∧ isDig c = true := by simpa using hd
    have hc := (isDig_iff c).1 hd'.2
    have := ih (l := l') (by simpa using hn) hd'.1
    rw [val_snoc, Nat.pow_succ]; omega
theorem val_lt' {l : List UInt8} (hd : digs l = true) (k : Nat) (hk : l.length ≤ k) : val l < 10 ^ k :=
  Nat.lt_of_lt_of_le (val_lt hd) (Nat.pow_le_pow_right (by decide) hk)
theorem digs_take {l : List UInt8} (hd : digs l = true) (k : Nat) : digs (l.take k) = true := by
  unfold digs at *
  rw [List.all_eq_true] at *
  exact fun x hx => hd x (List.mem_of_mem_take hx)
theorem cut_lengths (l : List UInt8) : (Lib.cut l [46]).1.length ≤ l.length ∧ (Lib.cut l [46]).2.1.length ≤ l.length := by
  unfold Lib.cut
  split
  · simp; omega
  · simp
def sizeN (l : List UInt8) : Nat := (sizeR l).getD 0
def sizeOk (l : List UInt8) : Bool := (sizeR l).isSome
def readN (l : List UInt8) : Int := if Lib.hasPrefix l [45] = true then -(sizeN (l.drop 1) : Int) else (sizeN l : Int)
def readOk (l : List UInt8) : Bool := if Lib.hasPrefix l [45] = true then sizeOk (l.drop 1) && !(sizeN (l.drop 1) == 0) else sizeOk l
theorem readR_none {l : List UInt8} (h : readOk l = false) : readR l = none := by
  unfold readOk sizeOk sizeN at h
  unfold readR
  split at h
  · rename_i hp
    rw [if_pos hp]
    cases hs : sizeR (l.drop 1) with
    | none => rfl
    | some n => rw [hs] at h; simp at h; simp [h]
  · rename_i hp
    rw [if_neg hp]
    cases hs : sizeR l with
    | none => rfl
    | some n => rw [hs] at h; simp at h
theorem readR_some {l : List UInt8} (h : readOk l = true) : readR l = some (readN l) := by
  unfold readOk sizeOk sizeN at h
  unfold readR readN sizeN
  split at h
  · rename_i hp
    rw [if_pos hp, if_pos hp]
    cases hs : sizeR (l.drop 1) with
    | none => rw [hs] at h; simp at h
    | some n => rw [hs] at h; simp at h; simp [h]
  · rename_i hp
    rw [if_neg hp, if_neg hp]
    cases hs : sizeR l with
    | none => rw [hs] at h; simp at h
    | some n => rfl
/-! ### three digits -/
def three (m : Nat) : List UInt8 := [UInt8.ofNat (48 + m / 100), UInt8.ofNat (48 + m / 10 % 10), UInt8.ofNat (48 + m % 10)]
theorem three_of (m : Nat) (h : m < 1000) : (Lib.decDigits (1000 + m)).drop 1 = three m := by
  rw [decDigits_big (by omega), decDigits_big (n := (1000 + m) / 10) (by omega), decDigits_big (n := (1000 + m) / 10 / 10) (by omega), decDigits_small (n := (1000 + m) / 10 / 10 / 10) (by omega)]
  unfold three
  rw [show (1000 + m) / 10 / 10 % 10 = m / 100 from by omega, show (1000 + m) / 10 % 10 = m / 10 % 10 from by omega, show (1000 + m) % 10 = m % 10 from by omega]
  rfl
theorem three_digs (m : Nat) (h : m < 1000) : digs (three m) = true := by
  show (isDig _ && (isDig _ && (isDig _ && true))) = true
  rw [dig_isDig (show m / 100 < 10 by omega), dig_isDig (show m / 10 % 10 < 10 by omega), dig_isDig (show m % 10 < 10 by omega)]; rfl
theorem three_val (m : Nat) (h : m < 1000) : val (three m) = m := by
  show ((0 * 10 + ((UInt8.ofNat (48 + m / 100)).toNat - 48)) * 10 + ((UInt8.ofNat (48 + m / 10 % 10)).toNat - 48)) * 10 + ((UInt8.ofNat (48 + m % 10)).toNat - 48) = m
  rw [dig_toNat (by omega), dig_toNat (by omega), dig_toNat (by omega)]; omega
theorem three_back {l : List UInt8} (hl : l.length = 3) (hd : digs l = true) : val l < 1000 ∧ three (val l) = l := by
  match l, hl with
  | [a, b, c], _ =>
    have hd' : isDig a = true ∧ isDig b = true ∧ isDig c = true := by simpa [digs] using hd
    have ha := (isDig_iff a).1 hd'.1
    have hb := (isDig_iff b).1 hd'.2.1
    have hc := (isDig_iff c).1 hd'.2.2
    have hv : val [a, b, c] = ((0 * 10 + (a.toNat - 48)) * 10 + (b.toNat - 48)) * 10 + (c.toNat - 48) := rfl
    rw [hv]
    refine ⟨by omega, ?_⟩
    unfold three
    rw [show (((0 * 10 + (a.toNat - 48)) * 10 + (b.toNat - 48)) * 10 + (c.toNat - 48)) / 100 = a.toNat - 48 from by omega, show (((0 * 10 + (a.toNat - 48)) * 10 + (b.toNat - 48)) * 10 + (c.toNat - 48)) / 10 % 10 = b.toNat - 48 from by omega, show (((0 * 10 + (a.toNat - 48)) * 10 + (b.toNat - 48)) * 10 + (c.toNat - 48)) % 10 = c.toNat - 48 from by omega]
    rw [dig_back hd'.1, dig_back hd'.2.1, dig_back hd'.2.2]

/-! ### cutting at the point -/
theorem index_point (a b : List UInt8) (ha : digs a = true) : Lib.index (a ++ 46 :: b) [46] = a.length := by
  induction a with
  | nil => simp [Lib.index]
  | cons c t ih =>
    have hd : isDig c = true ∧ digs t = true := by simpa [digs] using ha
    have hc := (isDig_iff c).1 hd.1
    have hne : ¬ (46 : UInt8) = c := by intro e; subst e; revert hc; decide
    have h2 := ih hd.2
    simp only [List.cons_append, Lib.index]
    rw [h2]
    have h3 : ([46] : List UInt8).isPrefixOf (c :: (t ++ 46 :: b)) = false := by
      simp [List.isPrefixOf, hne]
    rw [h3]
    have h4 : (((t.length : Nat) : Int) == -1) = false := by rw [beq_eq_false_iff_ne]; omega
    rw [h4]
    simp
theorem cut_point (a b : List UInt8) (ha : digs a = true) : Lib.cut (a ++ 46 :: b) [46] = (a, b, true) := by
  unfold Lib.cut
  rw [index_point a b ha]
  rw [if_pos (by omega)]
  simp [List.drop_append]
theorem cut_found {l : List UInt8} (h : (Lib.cut l [46]).2.1 ≠ []) : l = (Lib.cut l [46]).1 ++ 46 :: (Lib.cut l [46]).2.1 := by
  unfold Lib.cut at *
  by_cases hi : 0 ≤ Lib.index l [46]
  · rw [if_pos hi] at h ⊢
    rcases Lib.index_spec l [46] with ⟨h1, _⟩ | ⟨i, h1, _, h3, _⟩
    · omega
    · rw [h1] at h ⊢
      have h4 := Lib.occAt_head (c := 46) (t := []) rfl h3
      have hlt : i < l.length := by
        rcases Nat.lt_or_ge i l.length with h | h
        · exact h
        · rw [List.getElem?_eq_none h] at h4; cases h4
      have h5 : l[i] = 46 := by rw [List.getElem?_eq_getElem hlt] at h4; exact Option.some.inj h4
      simp only [Int.toNat_natCast, List.length_cons, List.length_nil]
      rw [← h5]
      rw [show (0 + 1 : Nat) = 1 from rfl, List.getElem_cons_drop, List.take_append_drop]
  · rw [if_neg hi] at h; exact absurd rfl h

theorem sizeR_wr (n : Nat) : sizeR (wr n) = some n := by
  unfold wr
  rw [List.append_assoc, List.singleton_append, three_of _ (by omega)]
  unfold sizeR
  rw [cut_point _ _ (decDigits_digs _)]
  rw [if_pos ⟨decDigits_whole _, rfl, three_digs _ (by omega)⟩, decDigits_val, three_val _ (by omega)]
  congr 1; omega
theorem sizeR_back {l : List UInt8} {n : Nat} (h : sizeR l = some n) : wr n = l := by
  unfold sizeR at h
  split at h
  · rename_i hc
    obtain ⟨h1, h2, h3⟩ := hc
    have hne : (Lib.cut l [46]).2.1 ≠ [] := by intro e; rw [e] at h2; cases h2
    have hl := cut_found hne
    generalize (Lib.cut l [46]).1 = a at *
    generalize (Lib.cut l [46]).2.1 = b at *
    obtain ⟨hb1, hb2⟩ := three_back h2 h3
    have hn : n = val a * 1000 + val b := (Option.some.inj h).symm
    subst hn
    unfold wr
    rw [show (val a * 1000 + val b) / 1000 = val a from by omega, show (val a * 1000 + val b) % 1000 = val b from by omega, three_of _ hb1, hb2, decDigits_back h1, hl]
    simp
  · cases h

theorem wr_head (n : Nat) : Lib.hasPrefix (wr n) [45] = false := by
  unfold wr
  have hd := decDigits_digs (n / 1000)
  cases h : Lib.decDigits (n / 1000) with
  | nil => exact absurd h (decDigits_ne _)
  | cons c t =>
    rw [h] at hd
    have hd' : isDig c = true ∧ digs t = true := by simpa [digs] using hd
    have hc := (isDig_iff c).1 hd'.1
    have hne : ¬ (45 : UInt8) = c := by intro e; subst e; revert hc; decide
    simp [Lib.hasPrefix, List.isPrefixOf, hne]
theorem wr_length (n : Nat) (h : n ≤ 1000000000) : (wr n).length ≤ 11 := by
  unfold wr
  rw [three_of _ (by omega)]
  have := decDigits_length_le 6 (n / 1000) (by omega)
  simp [three]; omega

/-- A number is read as it was written. -/
theorem parse_print {n : Int} (h : may n = true) : parseR (printR n) = (n, 0) := by
  have hb := (may_iff n).1 h
  unfold parseR printR
  by_cases hn : n < 0
  · rw [if_pos hn]
    have hlen := wr_length (-n).toNat (by omega)
    rw [if_neg (by simp; omega)]
    have hp : Lib.hasPrefix ([45] ++ wr (-n).toNat) [45] = true := by simp [Lib.hasPrefix, List.isPrefixOf]
    unfold readR
    rw [if_pos hp]
    have hd : ([45] ++ wr (-n).toNat).drop 1 = wr (-n).toNat := rfl
    rw [hd, sizeR_wr]
    have hz : ¬ (-n).toNat = 0 := by omega
    simp only [hz, if_false]
    rw [show -(((-n).toNat : Nat) : Int) = n from by omega, if_pos h]
  · rw [if_neg hn]
    have hlen := wr_length n.toNat (by omega)
    rw [if_neg (by omega)]
    unfold readR
    rw [wr_head, sizeR_wr]
    simp only [Bool.false_eq_true, if_false]
    rw [show ((n.toNat : Nat) : Int) = n from by omega, if_pos h]

/-- What is read without an error is written as it was. -/
theorem print_parse {l : List UInt8} (h : (parseR l).2 = 0) : may (parseR l).1 = true ∧ printR (parseR l).1 = l := by
  unfold parseR at *
  split at h
  · simp at h
  · rename_i hlen
    rw [if_neg hlen]
    cases hr : readR l with
    | none => rw [hr] at h; simp at h
    | some n =>
      rw [hr] at h
      simp only at h ⊢
      by_cases hm : may n = true
      · rw [if_pos hm]
        refine ⟨hm, ?_⟩
        simp only
        unfold readR at hr
        split at hr
        · rename_i hp
          cases hs : sizeR (l.drop 1) with
          | none => rw [hs] at hr; simp at hr
          | some k =>
            rw [hs] at hr
            simp only at hr
            by_cases hk : k = 0
            · rw [if_pos hk] at hr; cases hr
            · rw [if_neg hk] at hr
              have hn : n = -(k : Int) := (Option.some.inj hr).symm
              subst hn
              unfold printR
              rw [if_pos (by omega), show (-(-(k : Int))).toNat = k from by omega, sizeR_back hs]
              cases l with
              | nil => simp [Lib.hasPrefix] at hp
              | cons c t =>
                have : (45 : UInt8) = c := by simpa [Lib.hasPrefix, List.isPrefixOf] using hp
                subst this; rfl
        · cases hs : sizeR l with
          | none => rw [hs] at hr; simp at hr
          | some k =>
            rw [hs] at hr
            have hn : n = (k : Int) := (Option.some.inj hr).symm
            subst hn
            unfold printR
            rw [if_neg (by omega), Int.toNat_natCast, sizeR_back hs]
      · rw [if_neg hm] at h; simp at h
end Um
namespace Um
set_option linter.unusedSimpArgs false
open Go

/-- What was read so far (digits as a number, how many ahead of the point, how many behind it or -1), and one byte more. -/
def step (o : Option (Nat × Nat × Int)) (c : UInt8) : Option (Nat × Nat × Int) :=
  match o with
  | none => none
  | some (n, m, b) => if c = 46 ∧ b < 0 then some (n, m, 0) else if isDig c = true then some (10 * n + (c.toNat - 48), if b < 0 then m + 1 else m, if b < 0 then b else b + 1) else none
def scan (l : List UInt8) : Option (Nat × Nat × Int) := l.foldl step (some (0, 0, -1))
theorem scan_snoc (l : List UInt8) (c : UInt8) : scan (l ++ [c]) = step (scan l) c := by simp [scan]
theorem foldl_none (l : List UInt8) : l.foldl step none = none := by
  induction l with
  | nil => rfl
  | cons c t ih => exact ih
theorem scan_none {a b : List UInt8} (h : scan a = none) : scan (a ++ b) = none := by
  unfold scan at *
  rw [List.foldl_append, h, foldl_none]

theorem snoc_cases (l : List UInt8) : l = [] ∨ ∃ t c, l = t ++ [c] := by
  by_cases h : l = []
  · exact .inl h
  · exact .inr ⟨l.dropLast, l.getLast h, (List.dropLast_concat_getLast h).symm⟩

def Inv (l : List UInt8) (n m : Nat) (b : Int) : Prop :=
  (b = -1 ∧ digs l = true ∧ m = l.length ∧ n = val l) ∨ (∃ x y, l = x ++ 46 :: y ∧ digs x = true ∧ digs y = true ∧ m = x.length ∧ b = y.length ∧ n = val (x ++ y))
theorem digs_app (x y : List UInt8) : digs (x ++ y) = (digs x && digs y) := by simp [digs]
theorem not_dig_point : isDig 46 = false := by decide

theorem scan_inv : ∀ (k : Nat) (l : List UInt8), l.length = k → ∀ n m b, scan l = some (n, m, b) → Inv l n m b := by
  intro k
  induction k with
  | zero =>
    intro l hl n m b h
    rw [List.length_eq_zero_iff.1 hl] at h ⊢
    have h' : some ((0 : Nat), (0 : Nat), (-1 : Int)) = some (n, m, b) := h
    simp only [Option.some.injEq, Prod.mk.injEq] at h'
    obtain ⟨rfl, rfl, rfl⟩ := h'
    exact .inl ⟨rfl, rfl, rfl, rfl⟩
  | succ k ih =>
    intro l hl n m b h
    rcases snoc_cases l with rfl | ⟨t, c, rfl⟩
    · cases hl
    rw [scan_snoc] at h
    cases ht : scan t with
    | none => rw [ht] at h; cases h
    | some st =>
      obtain ⟨n', m', b'⟩ := st
      have hi := ih t (by simpa using hl) n' m' b' ht
      rw [ht] at h
      simp only [step] at h
      split at h
      · rename_i hc
        simp only [Option.some.injEq, Prod.mk.injEq] at h
        obtain ⟨rfl, rfl, rfl⟩ := h
        obtain ⟨rfl, hb⟩ := hc
        rcases hi with ⟨_, hd, hm, hn⟩ | ⟨x, y, _, _, _, _, hb2, _⟩
        · exact .inr ⟨t, [], rfl, hd, rfl, hm, rfl, by rw [List.append_nil]; exact hn⟩
        · omega
      · split at h
        · rename_i hc hd
          simp only [Option.some.injEq, Prod.mk.injEq] at h
          obtain ⟨rfl, rfl, rfl⟩ := h
          rcases hi with ⟨hb, hdt, hm, hn⟩ | ⟨x, y, hl2, hx, hy, hm, hb, hn⟩
          · subst hb
            refine .inl ⟨rfl, by rw [digs_snoc, hdt, hd]; rfl, by simp [hm], ?_⟩
            rw [val_snoc, ← hn]; omega
          · have hb0 : ¬ b' < 0 := by omega
            refine .inr ⟨x, y ++ [c], by rw [hl2]; simp, hx, by rw [digs_snoc, hy, hd]; rfl, by rw [if_neg hb0]; exact hm, by rw [if_neg hb0, hb]; simp, ?_⟩
            rw [← List.append_assoc, val_snoc, ← hn]; omega
        · cases h

theorem scan_digs : ∀ (k : Nat) (l : List UInt8), l.length = k → digs l = true → scan l = some (val l, l.length, -1) := by
  intro k
  induction k with
  | zero => intro l hl _; rw [List.length_eq_zero_iff.1 hl]; rfl
  | succ k ih =>
    intro l hl hd
    rcases snoc_cases l with rfl | ⟨t, c, rfl⟩
    · cases hl
    rw [digs_snoc] at hd
    have hd' : digs t = true ∧ isDig c = true := by simpa using hd
    rw [scan_snoc, ih t (by simpa using hl) hd'.1]
    have hc : ¬ (c = 46 ∧ (-1 : Int) < 0) := by
      intro h; rw [h.1] at hd'; exact absurd hd'.2 (by decide)
    simp only [step]
    rw [if_neg hc, if_pos hd'.2, val_snoc]
    simp
    omega
theorem scan_point : ∀ (k : Nat) (x y : List UInt8), y.length = k → digs x = true → digs y = true → scan (x ++ 46 :: y) = some (val (x ++ y), x.length, ((y.length : Nat) : Int)) := by
  intro k
  induction k with
  | zero =>
    intro x y hy hx _
    rw [List.length_eq_zero_iff.1 hy, scan_snoc, scan_digs _ x rfl hx, List.append_nil]
    simp [step]
  | succ k ih =>
    intro x y hl hx hy
    rcases snoc_cases y with rfl | ⟨t, c, rfl⟩
    · cases hl
    rw [digs_snoc] at hy
    have hd' : digs t = true ∧ isDig c = true := by simpa using hy
    rw [show x ++ 46 :: (t ++ [c]) = (x ++ 46 :: t) ++ [c] from by simp, scan_snoc, ih x t (by simpa using hl) hx hd'.1]
    have hb : ¬ ((t.length : Nat) : Int) < 0 := by omega
    have hc : ¬ (c = 46 ∧ ((t.length : Nat) : Int) < 0) := fun h => hb h.2
    simp only [step]
    rw [if_neg hc, if_pos hd'.2, if_neg hb, if_neg hb, ← List.append_assoc, val_snoc]
    simp
    omega

theorem val_three (x y : List UInt8) (hy : y.length = 3) : val (x ++ y) = val x * 1000 + val y := by
  match y, hy with
  | [a, b, c], _ =>
    have h1 : x ++ [a, b, c] = ((x ++ [a]) ++ [b]) ++ [c] := by simp
    rw [h1, val_snoc, val_snoc, val_snoc]
    have h2 : val [a, b, c] = ((0 * 10 + (a.toNat - 48)) * 10 + (b.toNat - 48)) * 10 + (c.toNat - 48) := rfl
    rw [h2]; omega

/-- May what was read be a number without a sign? -/
def good (l : List UInt8) : Option (Nat × Nat × Int) → Option Nat
  | none => none
  | some (n, m, b) => if b = 3 ∧ 1 ≤ m ∧ ¬ (1 < m ∧ l.head? = some 48) then some n else none

theorem head_app {x y : List UInt8} (h : x ≠ []) : (x ++ y).head? = x.head? := by
  cases x with
  | nil => exact absurd rfl h
  | cons a t => rfl

theorem good_size (l : List UInt8) : good l (scan l) = sizeR l := by
  cases hs : scan l with
  | none =>
    cases hz : sizeR l with
    | none => rfl
    | some n =>
      exfalso
      unfold sizeR at hz
      split at hz
      · rename_i hc
        have hne : (Lib.cut l [46]).2.1 ≠ [] := by intro e; rw [e] at hc; exact absurd hc.2.1 (by decide)
        have hl := cut_found hne
        rw [hl, scan_point _ _ _ rfl (whole_parts hc.1).2.1 hc.2.2] at hs
        cases hs
      · cases hz
  | some st =>
    obtain ⟨n, m, b⟩ := st
    have hi := scan_inv _ l rfl n m b hs
    simp only [good]
    rcases hi with ⟨hb, hd, hm, hn⟩ | ⟨x, y, hl, hx, hy, hm, hb, hn⟩
    · rw [if_neg (by omega)]
      unfold sizeR
      rw [if_neg]
      intro hc
      have hne : (Lib.cut l [46]).2.1 ≠ [] := by intro e; rw [e] at hc; exact absurd hc.2.1 (by decide)
      have hl := cut_found hne
      rw [hl, digs_app] at hd
      have : digs (46 :: (Lib.cut l [46]).2.1) = true := by
        cases h : digs (46 :: (Lib.cut l [46]).2.1) <;> simp [h] at hd ⊢
      have h46 : isDig 46 = true := by
        have h2 : (isDig 46 && digs (Lib.cut l [46]).2.1) = true := this
        cases h3 : isDig 46 <;> simp [h3] at h2 ⊢
      exact absurd h46 (by decide)
    · subst hl
      unfold sizeR
      rw [cut_point x y hx]
      by_cases hc : b = 3 ∧ 1 ≤ m ∧ ¬ (1 < m ∧ (x ++ 46 :: y).head? = some 48)
      · rw [if_pos hc]
        obtain ⟨h1, h2, h3⟩ := hc
        have hy3 : y.length = 3 := by omega
        have hxne : x ≠ [] := by intro e; rw [e] at hm; simp at hm; omega
        rw [head_app hxne] at h3
        have hw : whole x = true := by
          unfold whole
          rw [hx]
          have he : x.isEmpty = false := by cases x with | nil => exact absurd rfl hxne | cons _ _ => rfl
          rw [he]
          by_cases hh : x.head? = some 48
          · have hm1 : x.length = 1 := by
              have : ¬ 1 < m := fun h => h3 ⟨h, hh⟩
              omega
            match x, hm1, hh with
            | [c], _, hh =>
              have : c = 48 := by simpa using hh
              subst this; rfl
          · have : (x.head? != some 48) = true := by rw [bne_iff_ne]; exact hh
            rw [this]; simp
        rw [if_pos ⟨hw, hy3, hy⟩, hn, val_three x y hy3]
      · rw [if_neg hc, if_neg]
        intro hh
        obtain ⟨h1, h2, h3⟩ := hh
        have hp := whole_parts h1
        refine hc ⟨by rw [hb, h2]; rfl, ?_, ?_⟩
        · rw [hm]
          rcases Nat.eq_zero_or_pos x.length with h | h
          · exact absurd (List.length_eq_zero_iff.1 h) hp.1
          · exact h
        · rw [head_app hp.1]
          rintro ⟨h4, h5⟩
          rcases hp.2.2 with h6 | h6
          · have h7 : x = [48] := h6
            rw [h7] at hm; simp at hm; omega
          · exact h6 h5

theorem scan_bound {l : List UInt8} {n m : Nat} {b : Int} (h : scan l = some (n, m, b)) (hl : l.length ≤ 12) : n < 10 ^ 12 ∧ m ≤ 12 ∧ -1 ≤ b ∧ b ≤ 12 := by
  rcases scan_inv _ l rfl n m b h with ⟨hb, hd, hm, hn⟩ | ⟨x, y, hll, hx, hy, hm, hb, hn⟩
  · exact ⟨by rw [hn]; exact val_lt' hd 12 hl, by omega, by omega, by omega⟩
  · have hlen : x.length + y.length + 1 = l.length := by rw [hll]; simp; omega
    exact ⟨by rw [hn]; exact val_lt' (by rw [digs_app, hx, hy]; rfl) 12 (by simp; omega), by omega, by omega, by omega⟩
end Um
namespace Um
set_option linter.unusedSimpArgs false
open Go

/-- Cutting byte by byte: the pieces that have ended, and the one under way. -/
def cutStep (c : UInt8) (s : List (List UInt8) × List UInt8) (x : UInt8) : List (List UInt8) × List UInt8 := if x = c then (s.1 ++ [s.2], []) else (s.1, s.2 ++ [x])
def cutS (c : UInt8) (l : List UInt8) : List (List UInt8) × List UInt8 := l.foldl (cutStep c) ([], [])
def cutL (c : UInt8) (l : List UInt8) : List (List UInt8) := (cutS c l).1 ++ [(cutS c l).2]
theorem cutStep_yes {c x : UInt8} (h : x = c) (s : List (List UInt8) × List UInt8) : cutStep c s x = (s.1 ++ [s.2], []) := if_pos h
theorem cutStep_no {c x : UInt8} (h : ¬ x = c) (s : List (List UInt8) × List UInt8) : cutStep c s x = (s.1, s.2 ++ [x]) := if_neg h
theorem cutS_snoc (c : UInt8) (l : List UInt8) (x : UInt8) : cutS c (l ++ [x]) = cutStep c (cutS c l) x := by simp [cutS]
theorem cut_from (c : UInt8) : ∀ (l : List UInt8) (d : List (List UInt8)) (e : List UInt8), l.foldl (cutStep c) (d, e) = (d ++ (l.foldl (cutStep c) ([], e)).1, (l.foldl (cutStep c) ([], e)).2)
  | [], d, e => by simp
  | x :: l, d, e => by
    show l.foldl (cutStep c) (cutStep c (d, e) x) = (d ++ (l.foldl (cutStep c) (cutStep c ([], e) x)).1, (l.foldl (cutStep c) (cutStep c ([], e) x)).2)
    by_cases h : x = c
    · rw [cutStep_yes h, cutStep_yes h]
      show l.foldl (cutStep c) (d ++ [e], []) = (d ++ (l.foldl (cutStep c) ([] ++ [e], [])).1, (l.foldl (cutStep c) ([] ++ [e], [])).2)
      rw [cut_from c l (d ++ [e]) [], cut_from c l ([] ++ [e]) []]
      simp [List.append_assoc]
    · rw [cutStep_no h, cutStep_no h]
      exact cut_from c l d (e ++ [x])
theorem cut_none {c : UInt8} : ∀ (l : List UInt8) (e : List UInt8), (∀ x ∈ l, x ≠ c) → l.foldl (cutStep c) ([], e) = ([], e ++ l)
  | [], e, _ => by simp
  | x :: l, e, h => by
    show l.foldl (cutStep c) (cutStep c ([], e) x) = _
    rw [cutStep_no (h x (List.mem_cons_self ..))]
    show l.foldl (cutStep c) ([], e ++ [x]) = _
    rw [cut_none l (e ++ [x]) (fun y hy => h y (List.mem_cons_of_mem _ hy))]
    simp
/-- A piece, the byte, and the rest. -/
theorem cutS_cons {c : UInt8} {a : List UInt8} (h : ∀ x ∈ a, x ≠ c) (b : List UInt8) : cutS c (a ++ c :: b) = (a :: (cutS c b).1, (cutS c b).2) := by
  unfold cutS
  rw [List.foldl_append, cut_none a [] h]
  show b.foldl (cutStep c) (cutStep c ([], [] ++ a) c) = _
  rw [cutStep_yes rfl]
  show b.foldl (cutStep c) ([] ++ [[] ++ a], []) = _
  rw [cut_from]
  simp
theorem cutL_cons {c : UInt8} {a : List UInt8} (h : ∀ x ∈ a, x ≠ c) (b : List UInt8) : cutL c (a ++ c :: b) = a :: cutL c b := by
  unfold cutL; rw [cutS_cons h]; rfl
theorem cutL_one {c : UInt8} {a : List UInt8} (h : ∀ x ∈ a, x ≠ c) : cutL c a = [a] := by
  unfold cutL cutS
  rw [cut_none a [] h]; rfl
theorem cutL_pos (c : UInt8) (l : List UInt8) : 0 < (cutL c l).length := by unfold cutL; rw [List.length_append]; simp
theorem cutS_length (c : UInt8) : ∀ (l : List UInt8) (d : List (List UInt8)) (e : List UInt8), (l.foldl (cutStep c) (d, e)).1.length ≤ d.length + l.length
  | [], d, e => by simp
  | x :: l, d, e => by
    show (l.foldl (cutStep c) (cutStep c (d, e) x)).1.length ≤ _
    by_cases h : x = c
    · rw [cutStep_yes h]
      have := cutS_length c l (d ++ [e]) []
      rw [List.length_append] at this
      simp only [List.length_cons, List.length_nil] at this ⊢
      omega
    · rw [cutStep_no h]
      have := cutS_length c l d (e ++ [x])
      simp only [List.length_cons] at this ⊢
      omega
theorem cutL_length (c : UInt8) (l : List UInt8) : (cutL c l).length ≤ l.length + 1 := by
  unfold cutL
  rw [List.length_append]
  have := cutS_length c l [] []
  simp only [List.length_cons, List.length_nil, Nat.zero_add] at this ⊢
  unfold cutS
  omega
/-- Each piece is no longer than the text. -/
theorem cutS_small (c : UInt8) : ∀ (k : Nat) (l : List UInt8), l.length = k → (∀ p ∈ (cutS c l).1, p.length ≤ l.length) ∧ (cutS c l).2.length ≤ l.length
  | 0, l, h => by
    rw [List.length_eq_zero_iff.1 h]
    exact ⟨fun p hp => (by cases hp), Nat.le_refl _⟩
  | k + 1, l, h => by
    obtain ⟨t, x, rfl⟩ : ∃ t x, l = t ++ [x] := ⟨l.dropLast, l.getLast (fun e => by rw [e] at h; simp at h), (List.dropLast_concat_getLast _).symm⟩
    have ht : t.length = k := by simpa using h
    obtain ⟨i1, i2⟩ := cutS_small c k t ht
    rw [cutS_snoc]
    rw [List.length_append]
    simp only [List.length_cons, List.length_nil]
    by_cases hx : x = c
    · rw [cutStep_yes hx]
      refine ⟨fun p hp => ?_, by simp⟩
      rcases List.mem_append.1 hp with q | q
      · have := i1 p q; omega
      · rw [List.mem_singleton.1 q]; omega
    · rw [cutStep_no hx]
      refine ⟨fun p hp => by have := i1 p hp; omega, ?_⟩
      rw [List.length_append]
      simp only [List.length_cons, List.length_nil]
      omega
theorem cutL_small (c : UInt8) (l : List UInt8) : ∀ p ∈ cutL c l, p.length ≤ l.length := by
  obtain ⟨i1, i2⟩ := cutS_small c l.length l rfl
  intro p hp
  rcases List.mem_append.1 hp with q | q
  · exact i1 p q
  · rw [List.mem_singleton.1 q]; exact i2
/-- The words of the lines. -/
abbrev wAdd : List UInt8 := [97, 100, 100]
abbrev wLess : List UInt8 := [108, 101, 115, 115]
abbrev wTimes : List UInt8 := [116, 105, 109, 101, 115]
abbrev wBy : List UInt8 := [98, 121]
abbrev wMeet : List UInt8 := [109, 101, 101, 116]
abbrev wHull : List UInt8 := [104, 117, 108, 108]
abbrev wPower : List UInt8 := [112, 111, 119, 101, 114]
abbrev wRange : List UInt8 := [114, 97, 110, 103, 101]
abbrev wNewton : List UInt8 := [110, 101, 119, 116, 111, 110]
abbrev wRoots : List UInt8 := [114, 111, 111, 116, 115]
abbrev wBad : List UInt8 := [98, 97, 100]
/-- The name of an error. -/
def nameR (e : Int) : List UInt8 :=
  if e = 0 then [79, 75] else if e = 1 then [69, 114, 114, 82, 97, 110, 103, 101] else if e = 2 then [69, 114, 114, 83, 121, 110, 116, 97, 120] else if e = 3 then [69, 114, 114, 83, 104, 97, 112, 101]
  else if e = 4 then [69, 114, 114, 70, 117, 108, 108] else if e = 5 then [69, 114, 114, 78, 111, 110, 101] else if e = 6 then [69, 114, 114, 83, 116, 97, 116, 101] else if e = 7 then [69, 114, 114, 67, 108, 97, 115, 104] else [69, 114, 114, 90, 101, 114, 111]
theorem name_length (e : Int) : (nameR e).length ≤ 9 := by
  unfold nameR
  repeat' split
  all_goals decide
/-- The numbers of a word, and whether they are any; a span. -/
def numsL (l : List UInt8) : List Int := (cutL 44 l).map fun x => (parseR x).1
def numsOk (l : List UInt8) : Bool := (cutL 44 l).all fun x => (parseR x).2 == 0
def spL (l : List UInt8) : Int × Int := ((numsL l)[0]?.getD 0, (numsL l)[1]?.getD 0)
def spOk (l : List UInt8) : Bool := numsOk l && decide ((numsL l).length = 2 ∧ (spL l).1 ≤ (spL l).2)
def textR (s : Int × Int) : List UInt8 := printR s.1 ++ [44] ++ printR s.2
def toldR (r : Int × Int × Int) : List UInt8 := if r.2.2 = 0 then textR (r.1, r.2.1) else nameR r.2.2
theorem print_len {n : Int} (h : may n = true) : (printR n).length ≤ 12 := by
  have hb := (may_iff n).1 h
  unfold printR
  split
  · have := wr_length (-n).toNat (by omega); simp; omega
  · have := wr_length n.toNat (by omega); omega
/-- Lines of two spans. -/
def isTwo (k : List UInt8) : Bool := k == wAdd || k == wLess || k == wTimes || k == wBy || k == wMeet || k == wHull
def opR (k : List UInt8) (a b : Int × Int) : Int × Int × Int :=
  if k = wAdd then addR a.1 a.2 b.1 b.2 else if k = wLess then lessR a.1 a.2 b.1 b.2 else if k = wTimes then stimesR a.1 a.2 b.1 b.2 else if k = wBy then sbyR a.1 a.2 b.1 b.2 else if k = wMeet then meetR a.1 a.2 b.1 b.2 else hullR a.1 a.2 b.1 b.2
def lineTwo (k x y : List UInt8) : List UInt8 := if spOk x = true ∧ spOk y = true then toldR (opR k (spL x) (spL y)) else wBad
def digR (y : List UInt8) : Nat := (y[0]?.getD 0).toNat - 48
def linePow (x y : List UInt8) : List UInt8 := if spOk x = true ∧ y.length = 1 ∧ isDig (y[0]?.getD 0) = true then (if 4 < digR y then nameR 1 else toldR (powR (spL x).1 (spL x).2 (digR y))) else wBad
def lineRange (p x : List UInt8) : List UInt8 := if numsOk p = true ∧ spOk x = true then (if pchk (numsL p) = 0 then toldR (monoR (spL x).1 (spL x).2 (numsL p)) else nameR (pchk (numsL p))) else wBad
def lineNewton (p x : List UInt8) : List UInt8 := if numsOk p = true ∧ spOk x = true then (if pchk (numsL p) = 0 then toldR (stR (spL x).1 (spL x).2 (numsL p) 20) else nameR (pchk (numsL p))) else wBad
/-- Spans, a blank between: the first k of them. -/
def joinTo (l : List (Int × Int)) : Nat → List UInt8
  | 0 => []
  | k + 1 => joinTo l k ++ (if 0 < k then [32] else []) ++ textR (l[k]?.getD (0, 0))
def rootsR (l : List (Int × Int)) : List UInt8 := if l = [] then [45] else joinTo l l.length
def lineRoots (p x u : List UInt8) : List UInt8 :=
  if numsOk p = true ∧ spOk x = true ∧ (parseR u).2 = 0 then (if pchk (numsL p) = 0 then (if (parseR u).1 < 1 then nameR 1 else if (findR (numsL p) (spL x).1 (spL x).2 (parseR u).1).2 = 0 then rootsR (findR (numsL p) (spL x).1 (spL x).2 (parseR u).1).1 else nameR (findR (numsL p) (spL x).1 (spL x).2 (parseR u).1).2) else nameR (pchk (numsL p))) else wBad
def wordsR (w : List (List UInt8)) : List UInt8 :=
  match w with
  | [k, x, y] => if isTwo k = true then lineTwo k x y else if k = wPower then linePow x y else if k = wRange then lineRange x y else if k = wNewton then lineNewton x y else wBad
  | [k, p, x, u] => if k = wRoots then lineRoots p x u else wBad
  | _ => wBad
def lineR (l : List UInt8) : List UInt8 := wordsR (cutL 32 l)
/-- The lines of a text; a last piece that is empty is none. -/
def linesR (t : List UInt8) : List (List UInt8) := (cutS 10 t).1 ++ (if (cutS 10 t).2 = [] then [] else [(cutS 10 t).2])
abbrev tooLong : List UInt8 := [116, 111, 111, 32, 108, 111, 110, 103, 10]
/-- The answers to the first k lines. -/
def ansTo (ls : List (List UInt8)) : Nat → List UInt8
  | 0 => []
  | k + 1 => ansTo ls k ++ lineR (ls[k]?.getD []) ++ [10]
def ansR (ls : List (List UInt8)) : List UInt8 := ansTo ls ls.length
def sessR (t : List UInt8) : List UInt8 := if 3000 < t.length then tooLong else ansR (linesR t)
theorem ansTo_append (a b : List (List UInt8)) : ∀ k, k ≤ b.length → ansTo (a ++ b) (a.length + k) = ansTo (a ++ b) a.length ++ ansTo b k
  | 0, _ => by simp [ansTo]
  | k + 1, h => by
    have i := ansTo_append a b k (by omega)
    show ansTo (a ++ b) (a.length + k) ++ lineR ((a ++ b)[a.length + k]?.getD []) ++ [10] = _
    rw [i, List.getElem?_append_right (by omega), Nat.add_sub_cancel_left]
    show _ = ansTo (a ++ b) a.length ++ (ansTo b k ++ lineR (b[k]?.getD []) ++ [10])
    simp only [List.append_assoc]
theorem ansTo_left (a b : List (List UInt8)) : ∀ k, k ≤ a.length → ansTo (a ++ b) k = ansTo a k
  | 0, _ => rfl
  | k + 1, h => by
    show ansTo (a ++ b) k ++ lineR ((a ++ b)[k]?.getD []) ++ [10] = ansTo a k ++ lineR (a[k]?.getD []) ++ [10]
    rw [ansTo_left a b k (by omega), List.getElem?_append_left (by omega)]
theorem ans_append (a b : List (List UInt8)) : ansR (a ++ b) = ansR a ++ ansR b := by
  unfold ansR
  rw [List.length_append, ansTo_append a b b.length (Nat.le_refl _), ansTo_left a b a.length (Nat.le_refl _)]
/-- The lines of a beginning that ends with a line. -/
theorem lines_append {x : List UInt8} (h : (cutS 10 x).2 = []) (y : List UInt8) : linesR (x ++ y) = linesR x ++ linesR y := by
  have e : cutS 10 (x ++ y) = ((cutS 10 x).1 ++ (cutS 10 y).1, (cutS 10 y).2) := by
    unfold cutS at *
    rw [List.foldl_append]
    generalize hf : x.foldl (cutStep 10) ([], []) = q at *
    obtain ⟨d, e⟩ := q
    replace h : e = [] := h
    rw [h, cut_from]
  unfold linesR
  rw [e, h]
  simp [List.append_assoc]
/-- THE ANSWERS TO A BEGINNING ARE A BEGINNING OF THE ANSWERS. -/
theorem sess_begins {x y : List UInt8} (h : (cutS 10 x).2 = []) (hl : (x ++ y).length ≤ 3000) : sessR (x ++ y) = sessR x ++ ansR (linesR y) := by
  unfold sessR
  rw [if_neg (by omega), if_neg (by rw [List.length_append] at hl; omega), lines_append h, ans_append]
theorem cut_ends {x : List UInt8} : (cutS 10 (x ++ [10])).2 = [] := by rw [cutS_snoc, cutStep_yes rfl]
end Um
namespace Um
set_option linter.unusedSimpArgs false

/-- What is told is a fault that has a name, or two numbers that may be. -/
def Told (r : Int × Int × Int) : Prop := 0 ≤ r.2.2 ∧ r.2.2 ≤ 8 ∧ (r.2.2 = 0 → may r.1 = true ∧ may r.2.1 = true)
theorem told_right {r : Int × Int × Int} (h : r.2.2 = 0 ∨ r = (0, 0, 4)) (hc : r.2.2 = 0 → chk r.1 r.2.1 = 0) : Told r := by
  rcases h with h | h
  · exact ⟨by omega, by omega, fun e => ⟨(chk_ok.1 (hc e)).1, (chk_ok.1 (hc e)).2.1⟩⟩
  · rw [h]; exact ⟨by decide, by decide, fun e => absurd e (by decide)⟩
theorem nums_may {l : List UInt8} (h : numsOk l = true) : ∀ x ∈ numsL l, may x = true := by
  intro x hx
  obtain ⟨q, hq, rfl⟩ := List.mem_map.1 hx
  have := List.all_eq_true.1 h q hq
  exact (print_parse (by simpa using this)).1
theorem sp_right {l : List UInt8} (h : spOk l = true) : chk (spL l).1 (spL l).2 = 0 := by
  unfold spOk at h
  rw [Bool.and_eq_true] at h
  obtain ⟨h1, h2⟩ := h
  obtain ⟨h3, h4⟩ := of_decide_eq_true h2
  have hm := nums_may h1
  have key : ∀ i, i < 2 → may ((numsL l)[i]?.getD 0) = true := fun i hi => by
    rw [List.getElem?_eq_getElem (by omega)]
    exact hm _ (List.getElem_mem _)
  exact chk_ok.2 ⟨key 0 (by decide), key 1 (by decide), h4⟩
theorem op_told (k : List UInt8) {a b : Int × Int} (ha : chk a.1 a.2 = 0) (hb : chk b.1 b.2 = 0) : Told (opR k a b) := by
  obtain ⟨a1, a2, a3⟩ := chk_ok.1 ha
  obtain ⟨b1, b2, b3⟩ := chk_ok.1 hb
  unfold opR
  split
  · exact told_right (add_fault _ _ _ _) (add_chk a3 b3)
  split
  · exact told_right (less_fault _ _ _ _) (less_right a3 b3)
  split
  · exact told_right (stimes_fault _ _ _ _) (stimes_chk a3 b3)
  split
  · rcases sby_fault a.1 a.2 b.1 b.2 with h | h | h
    · exact told_right (.inl h) (sby_chk b3)
    · rw [h]; exact ⟨by decide, by decide, fun e => absurd e (by decide)⟩
    · rw [h]; exact ⟨by decide, by decide, fun e => absurd e (by decide)⟩
  have m := (may_iff a.1).1 a1
  have m2 := (may_iff a.2).1 a2
  have m3 := (may_iff b.1).1 b1
  have m4 := (may_iff b.2).1 b2
  split
  · unfold meetR
    split
    · exact ⟨Int.le_refl _, (show (0 : Int) ≤ 8 by decide), fun _ => ⟨(may_iff _).2 (by show _ ≤ max a.1 b.1 ∧ max a.1 b.1 ≤ _; omega), (may_iff _).2 (by show _ ≤ min a.2 b.2 ∧ min a.2 b.2 ≤ _; omega)⟩⟩
    · exact ⟨by decide, by decide, fun e => absurd e (by decide)⟩
  · exact ⟨Int.le_refl _, (show (0 : Int) ≤ 8 by decide), fun _ => ⟨(may_iff _).2 (by show _ ≤ min a.1 b.1 ∧ min a.1 b.1 ≤ _; omega), (may_iff _).2 (by show _ ≤ max a.2 b.2 ∧ max a.2 b.2 ≤ _; omega)⟩⟩
theorem pow_told {lo hi : Int} (hc : chk lo hi = 0) {k : Nat} (hk : k ≤ 4) : Told (powR lo hi k) := told_right (pow_fault k) (pow_chk hc hk)
theorem mono_told {lo hi : Int} {p : List Int} (ho : over p lo hi = 0) : Told (monoR lo hi p) := told_right (mono_fault lo hi p) (mono_chk ho)
theorem newt_few (lo hi : Int) (p : List Int) : 0 ≤ (newtR lo hi p).2.2 ∧ (newtR lo hi p).2.2 ≤ 8 := by
  rw [newt_is rfl rfl rfl rfl]
  split
  · split
    · split
      · split
        · rcases meet_fault (lessR (midR lo hi) (midR lo hi) (sbyR (hornR (midR lo hi) (midR lo hi) p).1 (hornR (midR lo hi) (midR lo hi) p).2.1 (slopeR lo hi p).1 (slopeR lo hi p).2.1).1 (sbyR (hornR (midR lo hi) (midR lo hi) p).1 (hornR (midR lo hi) (midR lo hi) p).2.1 (slopeR lo hi p).1 (slopeR lo hi p).2.1).2.1).1 (lessR (midR lo hi) (midR lo hi) (sbyR (hornR (midR lo hi) (midR lo hi) p).1 (hornR (midR lo hi) (midR lo hi) p).2.1 (slopeR lo hi p).1 (slopeR lo hi p).2.1).1 (sbyR (hornR (midR lo hi) (midR lo hi) p).1 (hornR (midR lo hi) (midR lo hi) p).2.1 (slopeR lo hi p).1 (slopeR lo hi p).2.1).2.1).2.1 lo hi with e | e
          · rw [e]; decide
          · rw [e]; decide
        · decide
      · rcases sby_fault (hornR (midR lo hi) (midR lo hi) p).1 (hornR (midR lo hi) (midR lo hi) p).2.1 (slopeR lo hi p).1 (slopeR lo hi p).2.1 with e | e | e
        · exact ⟨by show 0 ≤ (sbyR _ _ _ _).2.2; omega, by show (sbyR _ _ _ _).2.2 ≤ 8; omega⟩
        · rw [e]; decide
        · rw [e]; decide
    · decide
  · decide
theorem st_few (lo hi : Int) (p : List Int) : ∀ k, 0 ≤ (stR lo hi p k).2.2 ∧ (stR lo hi p k).2.2 ≤ 8
  | 0 => by show (0 : Int) ≤ 0 ∧ (0 : Int) ≤ 8; decide
  | k + 1 => by
    rw [st_succ]
    split
    · exact newt_few _ _ _
    · exact st_few lo hi p k
theorem st_told {lo hi : Int} {p : List Int} (ho : over p lo hi = 0) (k : Nat) : Told (stR lo hi p k) :=
  ⟨(st_few lo hi p k).1, (st_few lo hi p k).2, fun e => by
    have := chk_ok.1 (over_ok.1 (st_over ho e)).2
    exact ⟨this.1, this.2.1⟩⟩
theorem pchk_few (p : List Int) : 0 ≤ pchk p ∧ pchk p ≤ 8 := by
  unfold pchk
  repeat' split
  all_goals decide
theorem find_few {R : Int → Int → Int × Int × Int} (hR : ∀ l h, 0 ≤ (R l h).2.2 ∧ (R l h).2.2 ≤ 8) {least : Int} : ∀ (k : Nat) (lo hi : Int) (out : List (Int × Int)), 0 ≤ (findG R least k lo hi out).2 ∧ (findG R least k lo hi out).2 ≤ 8
  | 0, lo, hi, out => by show (0 : Int) ≤ 0 ∧ (0 : Int) ≤ 8; decide
  | k + 1, lo, hi, out => by
    rw [find_succ]
    repeat' split
    all_goals first
      | exact (show (0 : Int) ≤ 0 ∧ (0 : Int) ≤ 8 by decide)
      | exact (show (0 : Int) ≤ 4 ∧ (4 : Int) ≤ 8 by decide)
      | exact hR _ _
      | exact find_few hR k _ _ _
/-- The spans that are found may be. -/
theorem roots_few (p : List Int) (lo hi least : Int) : 0 ≤ (findR p lo hi least).2 ∧ (findR p lo hi least).2 ≤ 8 := by
  refine find_few (fun l h => ?_) 32 lo hi []
  unfold rangeOf
  rcases mono_fault l h p with e | e
  · omega
  · rw [e]; decide
theorem roots_may {p : List Int} {lo hi least : Int} (ho : over p lo hi = 0) (h1 : 1 ≤ least) (h2 : least ≤ 1000000000) (h : (findR p lo hi least).2 = 0) : (findR p lo hi least).1.length ≤ 32 ∧ ∀ i, i < (findR p lo hi least).1.length → may ((findR p lo hi least).1[i]?.getD (0, 0)).1 = true ∧ may ((findR p lo hi least).1[i]?.getD (0, 0)).2 = true := by
  have e := find_good ho h1 h2
  have hm := find_most p lo hi least
  have hr := (find_row (p := p) (lo := lo) (hi := hi) (least := least) (by rw [e]; exact h)).1
  rw [e] at hm hr
  refine ⟨hm, fun i hi2 => ?_⟩
  obtain ⟨q, hq0⟩ : ∃ q, (findR p lo hi least).1[i]? = some q := ⟨_, List.getElem?_eq_getElem hi2⟩
  have hq := hr i q hq0
  rw [hq0]
  obtain ⟨m1, m2, -⟩ := chk_ok.1 (over_ok.1 ho).2
  have a := (may_iff _).1 m1
  have b := (may_iff _).1 m2
  exact ⟨(may_iff _).2 (by show _ ≤ q.1 ∧ q.1 ≤ _; omega), (may_iff _).2 (by show _ ≤ q.2 ∧ q.2 ≤ _; omega)⟩
/-- How long what is told is. -/
theorem text_length {s : Int × Int} (h1 : may s.1 = true) (h2 : may s.2 = true) : (textR s).length ≤ 25 := by
  have := print_len h1
  have := print_len h2
  unfold textR
  rw [List.length_append, List.length_append]
  simp only [List.length_cons, List.length_nil]
  omega
theorem told_length {r : Int × Int × Int} (h : Told r) : (toldR r).length ≤ 25 := by
  unfold toldR
  split
  · rename_i e
    exact text_length (h.2.2 e).1 (h.2.2 e).2
  · have := name_length r.2.2; omega
theorem join_length {l : List (Int × Int)} : ∀ k, (∀ i, i < k → may (l[i]?.getD (0, 0)).1 = true ∧ may (l[i]?.getD (0, 0)).2 = true) → (joinTo l k).length ≤ 26 * k
  | 0, _ => by simp [joinTo]
  | k + 1, h => by
    have i := join_length k (fun j hj => h j (by omega))
    have t := text_length (h k (by omega)).1 (h k (by omega)).2
    show (joinTo l k ++ (if 0 < k then [32] else []) ++ textR (l[k]?.getD (0, 0))).length ≤ _
    rw [List.length_append, List.length_append]
    have : (if 0 < k then [(32 : UInt8)] else []).length ≤ 1 := by split <;> decide
    omega
theorem bad_length : wBad.length ≤ 1000 := by decide
theorem line_length (l : List UInt8) : (lineR l).length ≤ 1000 := by
  unfold lineR wordsR
  have nm : ∀ e, (nameR e).length ≤ 1000 := fun e => by have := name_length e; omega
  split
  · split
    · unfold lineTwo
      split
      · rename_i h
        exact Nat.le_trans (told_length (op_told _ (sp_right h.1) (sp_right h.2))) (by decide)
      · exact bad_length
    split
    · unfold linePow
      split
      · rename_i h
        split
        · exact nm _
        · rename_i h4
          exact Nat.le_trans (told_length (pow_told (sp_right h.1) (Nat.le_of_not_lt h4))) (by decide)
      · exact bad_length
    split
    · unfold lineRange
      split
      · rename_i h
        split
        · rename_i hp
          exact Nat.le_trans (told_length (mono_told (over_ok.2 ⟨hp, sp_right h.2⟩))) (by decide)
        · exact nm _
      · exact bad_length
    split
    · unfold lineNewton
      split
      · rename_i h
        split
        · rename_i hp
          exact Nat.le_trans (told_length (st_told (over_ok.2 ⟨hp, sp_right h.2⟩) 20)) (by decide)
        · exact nm _
      · exact bad_length
    · exact bad_length
  · split
    · unfold lineRoots
      split
      · rename_i h
        split
        · rename_i hp
          split
          · exact nm _
          · rename_i hl
            split
            · rename_i hf
              have hm := (print_parse h.2.2).1
              have hb := (may_iff _).1 hm
              obtain ⟨r1, r2⟩ := roots_may (over_ok.2 ⟨hp, sp_right h.2.1⟩) (by omega) (by omega) hf
              unfold rootsR
              split
              · decide
              · refine Nat.le_trans (join_length _ r2) ?_
                omega
            · exact nm _
        · exact nm _
      · exact bad_length
    · exact bad_length
  · exact bad_length
theorem ans_length (ls : List (List UInt8)) : ∀ k, (ansTo ls k).length ≤ 1001 * k
  | 0 => by simp [ansTo]
  | k + 1 => by
    have i := ans_length ls k
    have t := line_length (ls[k]?.getD [])
    show (ansTo ls k ++ lineR (ls[k]?.getD []) ++ [10]).length ≤ _
    rw [List.length_append, List.length_append]
    simp only [List.length_cons, List.length_nil]
    omega
end Um
