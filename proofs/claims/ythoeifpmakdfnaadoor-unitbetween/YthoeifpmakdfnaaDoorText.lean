/-
  Plain lists of bytes, no program: decimal digits, what they stand for, and the text of a number of thousandths; a number is read as it was written.
-/
import Derived.Test.YthoeifpmakdfnaaDoorMaths
import Derived.Lib.ItoaNum
import Derived.Lib.IndexMore
import Derived.Lib.Strings
namespace Um
set_option linter.unusedSimpArgs false
open Go

def isDig (c : UInt8) : Bool := decide (48 ≤ c.toNat) && decide (c.toNat ≤ 57)
def digs (l : List UInt8) : Bool := l.all isDig
def val (l : List UInt8) : Nat := l.foldl (fun n c => n * 10 + (c.toNat - 48)) 0
/-- Decimal digits without a needless 0 ahead. -/
def whole (l : List UInt8) : Bool := !l.isEmpty && digs l && (l == [48] || l.head? != some 48)
/-- The text of a number from 0 on. -/
def wr (n : Nat) : List UInt8 := Lib.decDigits (n / 1000) ++ [46] ++ (Lib.decDigits (1000 + n % 1000)).drop 1
def printR (n : Int) : List UInt8 := if n < 0 then [45] ++ wr (-n).toNat else wr n.toNat
def sizeR (l : List UInt8) : Option Nat :=
  if whole (Lib.cut l [46]).1 = true ∧ (Lib.cut l [46]).2.1.length = 3 ∧ digs (Lib.cut l [46]).2.1 = true then some (val (Lib.cut l [46]).1 * 1000 + val (Lib.cut l [46]).2.1) else none
def readR (l : List UInt8) : Option Int :=
  if Lib.hasPrefix l [45] = true then (match sizeR (l.drop 1) with | some n => if n = 0 then none else some (-(n : Int)) | none => none)
  else (match sizeR l with | some n => some (n : Int) | none => none)
/-- What a text stands for, and its error. -/
def parseR (l : List UInt8) : Int × Int :=
  if 12 < l.length then (0, 2) else match readR l with | none => (0, 2) | some n => if may n = true then (n, 0) else (0, 1)

theorem isDig_iff (c : UInt8) : isDig c = true ↔ 48 ≤ c.toNat ∧ c.toNat ≤ 57 := by simp [isDig]
theorem dig_toNat {k : Nat} (h : k < 10) : (UInt8.ofNat (48 + k)).toNat = 48 + k := by
  rw [UInt8.toNat_ofNat']; omega
theorem dig_isDig {k : Nat} (h : k < 10) : isDig (UInt8.ofNat (48 + k)) = true := by
  rw [isDig_iff, dig_toNat h]; omega
theorem dig_back {c : UInt8} (h : isDig c = true) : UInt8.ofNat (48 + (c.toNat - 48)) = c := by
  have := (isDig_iff c).1 h
  apply UInt8.toNat_inj.1
  rw [UInt8.toNat_ofNat']; omega

theorem val_snoc (l : List UInt8) (c : UInt8) : val (l ++ [c]) = val l * 10 + (c.toNat - 48) := by simp [val]
theorem digs_snoc (l : List UInt8) (c : UInt8) : digs (l ++ [c]) = (digs l && isDig c) := by simp [digs]
theorem val_nil : val [] = 0 := rfl

theorem decDigits_small {n : Nat} (h : n < 10) : Lib.decDigits n = [UInt8.ofNat (48 + n)] := by rw [Lib.decDigits]; simp [h]
theorem decDigits_big {n : Nat} (h : ¬ n < 10) : Lib.decDigits n = Lib.decDigits (n / 10) ++ [UInt8.ofNat (48 + n % 10)] := by rw [Lib.decDigits]; simp [h]

theorem decDigits_ne (n : Nat) : Lib.decDigits n ≠ [] := by
  rw [Lib.decDigits]; split <;> simp

theorem decDigits_digs (n : Nat) : digs (Lib.decDigits n) = true := by
  induction n using Nat.strongRecOn with
  | _ n ih =>
    by_cases h : n < 10
    · rw [decDigits_small h]; show (isDig _ && true) = true; rw [dig_isDig h]; rfl
    · rw [decDigits_big h, digs_snoc, ih (n / 10) (by omega), dig_isDig (by omega)]; rfl
theorem decDigits_val (n : Nat) : val (Lib.decDigits n) = n := by
  induction n using Nat.strongRecOn with
  | _ n ih =>
    by_cases h : n < 10
    · rw [decDigits_small h]
      show (0 * 10 + ((UInt8.ofNat (48 + n)).toNat - 48)) = n
      rw [dig_toNat h]; omega
    · rw [decDigits_big h, val_snoc, ih (n / 10) (by omega), dig_toNat (by omega)]; omega
theorem decDigits_head (n : Nat) (hn : 0 < n) : (Lib.decDigits n).head? ≠ some 48 := by
  induction n using Nat.strongRecOn with
  | _ n ih =>
    by_cases h : n < 10
    · rw [decDigits_small h]
      intro e
      have : (UInt8.ofNat (48 + n)) = 48 := by simpa using e
      have h2 := congrArg UInt8.toNat this
      rw [dig_toNat h] at h2
      simp at h2; omega
    · have := ih (n / 10) (by omega) (by omega)
      rw [decDigits_big h]
      cases hd : Lib.decDigits (n / 10) with
      | nil => exact absurd hd (decDigits_ne _)
      | cons a l => rw [hd] at this; simpa using this
theorem decDigits_whole (n : Nat) : whole (Lib.decDigits n) = true := by
  have h1 := decDigits_digs n
  have h2 : (Lib.decDigits n).isEmpty = false := by
    cases h : Lib.decDigits n with
    | nil => exact absurd h (decDigits_ne n)
    | cons a l => rfl
  unfold whole
  rw [h1, h2]
  by_cases h : n = 0
  · subst h; rw [decDigits_small (by omega)]; rfl
  · have := decDigits_head n (by omega)
    have h3 : ((Lib.decDigits n).head? != some 48) = true := by rw [bne_iff_ne]; exact this
    rw [h3]; simp
theorem decDigits_length_le (k n : Nat) (h : n < 10 ^ (k + 1)) : (Lib.decDigits n).length ≤ k + 1 := by
  induction k generalizing n with
  | zero => rw [decDigits_small (by simpa using h)]; simp
  | succ k ih =>
    by_cases h' : n < 10
    · rw [decDigits_small h']; simp
    · rw [decDigits_big h', List.length_append]
      have := ih (n / 10) (by rw [Nat.div_lt_iff_lt_mul (by omega)]; rw [Nat.pow_succ] at h; exact h)
      simp; omega

theorem head_snoc {l : List UInt8} {c : UInt8} (h : l ≠ []) : (l ++ [c]).head? = l.head? := by
  cases l with
  | nil => exact absurd rfl h
  | cons a t => rfl

theorem val_pos {l : List UInt8} (hd : digs l = true) (h0 : l ≠ []) (hh : l.head? ≠ some 48) : 0 < val l := by
  revert hd h0 hh
  induction hn : l.length generalizing l with
  | zero => intro _ h0 _; exact absurd (List.length_eq_zero_iff.1 hn) h0
  | succ k ih =>
    intro hd h0 hh
    obtain ⟨l', c, rfl⟩ : ∃ l' c, l = l' ++ [c] := ⟨l.dropLast, l.getLast h0, (List.dropLast_concat_getLast h0).symm⟩
    rw [digs_snoc] at hd
    have hd' : digs l' = true ∧ isDig c = true := by simpa using hd
    rw [val_snoc]
    by_cases hl : l' = []
    · subst hl
      have hc : c ≠ 48 := by simpa using hh
      have hc2 := (isDig_iff c).1 hd'.2
      have hc3 : c.toNat ≠ 48 := fun e => hc (UInt8.toNat_inj.1 (by simpa using e))
      omega
    · have := ih (l := l') (by simpa using hn) hd'.1 hl (by rwa [head_snoc hl] at hh)
      omega

theorem whole_parts {l : List UInt8} (h : whole l = true) : l ≠ [] ∧ digs l = true ∧ (l = [48] ∨ l.head? ≠ some 48) := by
  unfold whole at h
  simp only [Bool.and_eq_true, Bool.not_eq_true', Bool.or_eq_true, beq_iff_eq, bne_iff_ne] at h
  refine ⟨fun e => ?_, h.1.2, h.2⟩
  subst e; simp at h

/-- Digits without a needless 0 ahead are the digits of what they stand for. -/
theorem decDigits_back {l : List UInt8} (h : whole l = true) : Lib.decDigits (val l) = l := by
  obtain ⟨h0, hd, hh⟩ := whole_parts h
  rcases hh with rfl | hh
  · show Lib.decDigits 0 = [48]; rw [decDigits_small (by omega)]; rfl
  clear h
  revert h0 hd hh
  induction hn : l.length generalizing l with
  | zero => intro h0 _ _; exact absurd (List.length_eq_zero_iff.1 hn) h0
  | succ k ih =>
    intro h0 hd hh
    obtain ⟨l', c, rfl⟩ : ∃ l' c, l = l' ++ [c] := ⟨l.dropLast, l.getLast h0, (List.dropLast_concat_getLast h0).symm⟩
    rw [digs_snoc] at hd
    have hd' : digs l' = true ∧ isDig c = true := by simpa using hd
    have hc2 := (isDig_iff c).1 hd'.2
    rw [val_snoc]
    by_cases hl : l' = []
    · subst hl
      rw [val_nil, decDigits_small (by omega)]
      simpa using dig_back hd'.2
    · have hh' : l'.head? ≠ some 48 := by rwa [head_snoc hl] at hh
      have hp := val_pos hd'.1 hl hh'
      have hi := ih (l := l') (by simpa using hn) hl hd'.1 hh'
      rw [decDigits_big (by omega)]
      rw [show (val l' * 10 + (c.toNat - 48)) / 10 = val l' from by omega, show (val l' * 10 + (c.toNat - 48)) % 10 = c.toNat - 48 from by omega, hi, dig_back hd'.2]

theorem val_lt {l : List UInt8} (hd : digs l = true) : val l < 10 ^ l.length := by
  revert hd
  induction hn : l.length generalizing l with
  | zero => intro _; rw [List.length_eq_zero_iff.1 hn]; decide
  | succ k ih =>
    intro hd
    have h0 : l ≠ [] := by intro e; rw [e] at hn; cases hn
    obtain ⟨l', c, rfl⟩ : ∃ l' c, l = l' ++ [c] := ⟨l.dropLast, l.getLast h0, (List.dropLast_concat_getLast h0).symm⟩
    rw [digs_snoc] at hd
    have hd' : digs l' = true ∧ isDig c = true := by simpa using hd
    have hc := (isDig_iff c).1 hd'.2
    have := ih (l := l') (by simpa using hn) hd'.1
    rw [val_snoc, Nat.pow_succ]; omega
theorem val_lt' {l : List UInt8} (hd : digs l = true) (k : Nat) (hk : l.length ≤ k) : val l < 10 ^ k :=
  Nat.lt_of_lt_of_le (val_lt hd) (Nat.pow_le_pow_right (by decide) hk)
theorem digs_take {l : List UInt8} (hd : digs l = true) (k : Nat) : digs (l.take k) = true := by
  unfold digs at *
  rw [List.all_eq_true] at *
  exact fun x hx => hd x (List.mem_of_mem_take hx)
theorem cut_lengths (l : List UInt8) : (Lib.cut l [46]).1.length ≤ l.length ∧ (Lib.cut l [46]).2.1.length ≤ l.length := by
  unfold Lib.cut
  split
  · simp; omega
  · simp
def sizeN (l : List UInt8) : Nat := (sizeR l).getD 0
def sizeOk (l : List UInt8) : Bool := (sizeR l).isSome
def readN (l : List UInt8) : Int := if Lib.hasPrefix l [45] = true then -(sizeN (l.drop 1) : Int) else (sizeN l : Int)
def readOk (l : List UInt8) : Bool := if Lib.hasPrefix l [45] = true then sizeOk (l.drop 1) && !(sizeN (l.drop 1) == 0) else sizeOk l
theorem readR_none {l : List UInt8} (h : readOk l = false) : readR l = none := by
  unfold readOk sizeOk sizeN at h
  unfold readR
  split at h
  · rename_i hp
    rw [if_pos hp]
    cases hs : sizeR (l.drop 1) with
    | none => rfl
    | some n => rw [hs] at h; simp at h; simp [h]
  · rename_i hp
    rw [if_neg hp]
    cases hs : sizeR l with
    | none => rfl
    | some n => rw [hs] at h; simp at h
theorem readR_some {l : List UInt8} (h : readOk l = true) : readR l = some (readN l) := by
  unfold readOk sizeOk sizeN at h
  unfold readR readN sizeN
  split at h
  · rename_i hp
    rw [if_pos hp, if_pos hp]
    cases hs : sizeR (l.drop 1) with
    | none => rw [hs] at h; simp at h
    | some n => rw [hs] at h; simp at h; simp [h]
  · rename_i hp
    rw [if_neg hp, if_neg hp]
    cases hs : sizeR l with
    | none => rw [hs] at h; simp at h
    | some n => rfl
/-! ### three digits -/
def three (m : Nat) : List UInt8 := [UInt8.ofNat (48 + m / 100), UInt8.ofNat (48 + m / 10 % 10), UInt8.ofNat (48 + m % 10)]
theorem three_of (m : Nat) (h : m < 1000) : (Lib.decDigits (1000 + m)).drop 1 = three m := by
  rw [decDigits_big (by omega), decDigits_big (n := (1000 + m) / 10) (by omega), decDigits_big (n := (1000 + m) / 10 / 10) (by omega), decDigits_small (n := (1000 + m) / 10 / 10 / 10) (by omega)]
  unfold three
  rw [show (1000 + m) / 10 / 10 % 10 = m / 100 from by omega, show (1000 + m) / 10 % 10 = m / 10 % 10 from by omega, show (1000 + m) % 10 = m % 10 from by omega]
  rfl
theorem three_digs (m : Nat) (h : m < 1000) : digs (three m) = true := by
  show (isDig _ && (isDig _ && (isDig _ && true))) = true
  rw [dig_isDig (show m / 100 < 10 by omega), dig_isDig (show m / 10 % 10 < 10 by omega), dig_isDig (show m % 10 < 10 by omega)]; rfl
theorem three_val (m : Nat) (h : m < 1000) : val (three m) = m := by
  show ((0 * 10 + ((UInt8.ofNat (48 + m / 100)).toNat - 48)) * 10 + ((UInt8.ofNat (48 + m / 10 % 10)).toNat - 48)) * 10 + ((UInt8.ofNat (48 + m % 10)).toNat - 48) = m
  rw [dig_toNat (by omega), dig_toNat (by omega), dig_toNat (by omega)]; omega
theorem three_back {l : List UInt8} (hl : l.length = 3) (hd : digs l = true) : val l < 1000 ∧ three (val l) = l := by
  match l, hl with
  | [a, b, c], _ =>
    have hd' : isDig a = true ∧ isDig b = true ∧ isDig c = true := by simpa [digs] using hd
    have ha := (isDig_iff a).1 hd'.1
    have hb := (isDig_iff b).1 hd'.2.1
    have hc := (isDig_iff c).1 hd'.2.2
    have hv : val [a, b, c] = ((0 * 10 + (a.toNat - 48)) * 10 + (b.toNat - 48)) * 10 + (c.toNat - 48) := rfl
    rw [hv]
    refine ⟨by omega, ?_⟩
    unfold three
    rw [show (((0 * 10 + (a.toNat - 48)) * 10 + (b.toNat - 48)) * 10 + (c.toNat - 48)) / 100 = a.toNat - 48 from by omega, show (((0 * 10 + (a.toNat - 48)) * 10 + (b.toNat - 48)) * 10 + (c.toNat - 48)) / 10 % 10 = b.toNat - 48 from by omega, show (((0 * 10 + (a.toNat - 48)) * 10 + (b.toNat - 48)) * 10 + (c.toNat - 48)) % 10 = c.toNat - 48 from by omega]
    rw [dig_back hd'.1, dig_back hd'.2.1, dig_back hd'.2.2]

/-! ### cutting at the point -/
theorem index_point (a b : List UInt8) (ha : digs a = true) : Lib.index (a ++ 46 :: b) [46] = a.length := by
  induction a with
  | nil => simp [Lib.index]
  | cons c t ih =>
    have hd : isDig c = true ∧ digs t = true := by simpa [digs] using ha
    have hc := (isDig_iff c).1 hd.1
    have hne : ¬ (46 : UInt8) = c := by intro e; subst e; revert hc; decide
    have h2 := ih hd.2
    simp only [List.cons_append, Lib.index]
    rw [h2]
    have h3 : ([46] : List UInt8).isPrefixOf (c :: (t ++ 46 :: b)) = false := by
      simp [List.isPrefixOf, hne]
    rw [h3]
    have h4 : (((t.length : Nat) : Int) == -1) = false := by rw [beq_eq_false_iff_ne]; omega
    rw [h4]
    simp
theorem cut_point (a b : List UInt8) (ha : digs a = true) : Lib.cut (a ++ 46 :: b) [46] = (a, b, true) := by
  unfold Lib.cut
  rw [index_point a b ha]
  rw [if_pos (by omega)]
  simp [List.drop_append]
theorem cut_found {l : List UInt8} (h : (Lib.cut l [46]).2.1 ≠ []) : l = (Lib.cut l [46]).1 ++ 46 :: (Lib.cut l [46]).2.1 := by
  unfold Lib.cut at *
  by_cases hi : 0 ≤ Lib.index l [46]
  · rw [if_pos hi] at h ⊢
    rcases Lib.index_spec l [46] with ⟨h1, _⟩ | ⟨i, h1, _, h3, _⟩
    · omega
    · rw [h1] at h ⊢
      have h4 := Lib.occAt_head (c := 46) (t := []) rfl h3
      have hlt : i < l.length := by
        rcases Nat.lt_or_ge i l.length with h | h
        · exact h
        · rw [List.getElem?_eq_none h] at h4; cases h4
      have h5 : l[i] = 46 := by rw [List.getElem?_eq_getElem hlt] at h4; exact Option.some.inj h4
      simp only [Int.toNat_natCast, List.length_cons, List.length_nil]
      rw [← h5]
      rw [show (0 + 1 : Nat) = 1 from rfl, List.getElem_cons_drop, List.take_append_drop]
  · rw [if_neg hi] at h; exact absurd rfl h

theorem sizeR_wr (n : Nat) : sizeR (wr n) = some n := by
  unfold wr
  rw [List.append_assoc, List.singleton_append, three_of _ (by omega)]
  unfold sizeR
  rw [cut_point _ _ (decDigits_digs _)]
  rw [if_pos ⟨decDigits_whole _, rfl, three_digs _ (by omega)⟩, decDigits_val, three_val _ (by omega)]
  congr 1; omega
theorem sizeR_back {l : List UInt8} {n : Nat} (h : sizeR l = some n) : wr n = l := by
  unfold sizeR at h
  split at h
  · rename_i hc
    obtain ⟨h1, h2, h3⟩ := hc
    have hne : (Lib.cut l [46]).2.1 ≠ [] := by intro e; rw [e] at h2; cases h2
    have hl := cut_found hne
    generalize (Lib.cut l [46]).1 = a at *
    generalize (Lib.cut l [46]).2.1 = b at *
    obtain ⟨hb1, hb2⟩ := three_back h2 h3
    have hn : n = val a * 1000 + val b := (Option.some.inj h).symm
    subst hn
    unfold wr
    rw [show (val a * 1000 + val b) / 1000 = val a from by omega, show (val a * 1000 + val b) % 1000 = val b from by omega, three_of _ hb1, hb2, decDigits_back h1, hl]
    simp
  · cases h

theorem wr_head (n : Nat) : Lib.hasPrefix (wr n) [45] = false := by
  unfold wr
  have hd := decDigits_digs (n / 1000)
  cases h : Lib.decDigits (n / 1000) with
  | nil => exact absurd h (decDigits_ne _)
  | cons c t =>
    rw [h] at hd
    have hd' : isDig c = true ∧ digs t = true := by simpa [digs] using hd
    have hc := (isDig_iff c).1 hd'.1
    have hne : ¬ (45 : UInt8) = c := by intro e; subst e; revert hc; decide
    simp [Lib.hasPrefix, List.isPrefixOf, hne]
theorem wr_length (n : Nat) (h : n ≤ 1000000000) : (wr n).length ≤ 11 := by
  unfold wr
  rw [three_of _ (by omega)]
  have := decDigits_length_le 6 (n / 1000) (by omega)
  simp [three]; omega

/-- A number is read as it was written. -/
theorem parse_print {n : Int} (h : may n = true) : parseR (printR n) = (n, 0) := by
  have hb := (may_iff n).1 h
  unfold parseR printR
  by_cases hn : n < 0
  · rw [if_pos hn]
    have hlen := wr_length (-n).toNat (by omega)
    rw [if_neg (by simp; omega)]
    have hp : Lib.hasPrefix ([45] ++ wr (-n).toNat) [45] = true := by simp [Lib.hasPrefix, List.isPrefixOf]
    unfold readR
    rw [if_pos hp]
    have hd : ([45] ++ wr (-n).toNat).drop 1 = wr (-n).toNat := rfl
    rw [hd, sizeR_wr]
    have hz : ¬ (-n).toNat = 0 := by omega
    simp only [hz, if_false]
    rw [show -(((-n).toNat : Nat) : Int) = n from by omega, if_pos h]
  · rw [if_neg hn]
    have hlen := wr_length n.toNat (by omega)
    rw [if_neg (by omega)]
    unfold readR
    rw [wr_head, sizeR_wr]
    simp only [Bool.false_eq_true, if_false]
    rw [show ((n.toNat : Nat) : Int) = n from by omega, if_pos h]

/-- What is read without an error is written as it was. -/
theorem print_parse {l : List UInt8} (h : (parseR l).2 = 0) : may (parseR l).1 = true ∧ printR (parseR l).1 = l := by
  unfold parseR at *
  split at h
  · simp at h
  · rename_i hlen
    rw [if_neg hlen]
    cases hr : readR l with
    | none => rw [hr] at h; simp at h
    | some n =>
      rw [hr] at h
      simp only at h ⊢
      by_cases hm : may n = true
      · rw [if_pos hm]
        refine ⟨hm, ?_⟩
        simp only
        unfold readR at hr
        split at hr
        · rename_i hp
          cases hs : sizeR (l.drop 1) with
          | none => rw [hs] at hr; simp at hr
          | some k =>
            rw [hs] at hr
            simp only at hr
            by_cases hk : k = 0
            · rw [if_pos hk] at hr; cases hr
            · rw [if_neg hk] at hr
              have hn : n = -(k : Int) := (Option.some.inj hr).symm
              subst hn
              unfold printR
              rw [if_pos (by omega), show (-(-(k : Int))).toNat = k from by omega, sizeR_back hs]
              cases l with
              | nil => simp [Lib.hasPrefix] at hp
              | cons c t =>
                have : (45 : UInt8) = c := by simpa [Lib.hasPrefix, List.isPrefixOf] using hp
                subst this; rfl
        · cases hs : sizeR l with
          | none => rw [hs] at hr; simp at hr
          | some k =>
            rw [hs] at hr
            have hn : n = (k : Int) := (Option.some.inj hr).symm
            subst hn
            unfold printR
            rw [if_neg (by omega), Int.toNat_natCast, sizeR_back hs]
      · rw [if_neg hm] at h; simp at h
end Um
