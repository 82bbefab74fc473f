/-
  What package unit's read, Parse, written and Print answer, at every argument.
-/
import Derived.Test.YtkfalmdckmlneaaGreatDoorParse
namespace Go.Proofs.YtkfalmdckmlneaaGreatDoor
set_option linter.unusedSimpArgs false
open Go.RowKit

theorem trim_yes {l : List UInt8} (h : Lib.hasPrefix l [45] = true) : Lib.trimPrefix l [45] = l.drop 1 := by unfold Lib.trimPrefix; rw [if_pos h]; rfl
theorem trim_no {l : List UInt8} (h : Lib.hasPrefix l [45] = false) : Lib.trimPrefix l [45] = l := by unfold Lib.trimPrefix; rw [h]; rfl
theorem read_yes {l : List UInt8} (h : Lib.hasPrefix l [45] = true) : Um.readN l = -(Um.sizeN (l.drop 1) : Int) ∧ Um.readOk l = (Um.sizeOk (l.drop 1) && !(Um.sizeN (l.drop 1) == 0)) := by
  unfold Um.readN Um.readOk; rw [if_pos h, if_pos h]; exact ⟨rfl, rfl⟩
theorem read_no {l : List UInt8} (h : Lib.hasPrefix l [45] = false) : Um.readN l = (Um.sizeN l : Int) ∧ Um.readOk l = Um.sizeOk l := by
  unfold Um.readN Um.readOk; rw [h]; exact ⟨rfl, rfl⟩
theorem int_ne_zero (n : Nat) : ((n : Int) != 0) = !(n == 0) := by
  rw [Bool.eq_iff_iff]; simp
theorem sizeN_lt (l : List UInt8) (h : l.length ≤ 12) : Um.sizeN l < 1000000000000000 + 1000 := by
  by_cases hc : Um.whole (Lib.cut l [46]).1 = true ∧ (Lib.cut l [46]).2.1.length = 3 ∧ Um.digs (Lib.cut l [46]).2.1 = true
  · rw [(size_some hc).1]
    have h1 := Um.val_lt' (Um.whole_parts hc.1).2.1 12 (by have := (Um.cut_lengths l).1; omega)
    have h2 := Um.val_lt' hc.2.2 3 (by omega)
    omega
  · rw [(size_none hc).1]; omega

set_option maxHeartbeats 1000000 in
theorem read_any (s : ByteArray) (w : World) (hs : s.size ≤ 12) (hm : HasLen w) :
    Calls Tryz.prog 146 #[.string s] w fun e w' => e = .returned (.tuple #[.int .i64 (Um.readN s.data.toList), .bool (Um.readOk s.data.toList)]) ∧ Below w.heap.size w w' := by
  have HC := hid (Tryz.strings_CutPrefix s ⟨#[45]⟩ w)
  have e45 : (⟨#[45]⟩ : ByteArray).data.toList = [45] := rfl
  rw [e45] at HC
  clear e45
  have hsz : s.data.toList.length = s.size := by simp
  generalize s.data.toList = l at *
  cases hp : Lib.hasPrefix l [45]
  · have HR := hid (read_no hp).1
    have HR2 := hid (read_no hp).2
    rw [trim_no hp, hp] at HC
    have HS := hid (readSize_any ⟨l.toArray⟩ w (by rw [size_list]; omega) hm)
    rw [list_list] at HS
    clear hp hm hsz
    go_enter Tryz.func146, Tryz.ntmps146
    go_wp2_with (first | (go_at_call 160; refine HC.out.mono ?_; rintro e w' ⟨rfl, rfl⟩) | (go_at_call 161; refine HS.out.mono ?_; rintro e w' ⟨rfl, hb⟩))
    go_ret2
    exact ⟨ret_ib HR.out.symm HR2.out.symm, hb⟩
  · have HR := hid (read_yes hp).1
    have HR2 := hid (read_yes hp).2
    rw [trim_yes hp, hp] at HC
    have HS := hid (readSize_any ⟨(l.drop 1).toArray⟩ w (by rw [size_list]; simp; omega) hm)
    rw [list_list] at HS
    have hlt := sizeN_lt (l.drop 1) (by simp; omega)
    have HE := hid (int_ne_zero (Um.sizeN (l.drop 1)))
    generalize Um.sizeN (l.drop 1) = n at *
    generalize Um.sizeOk (l.drop 1) = k at *
    generalize l.drop 1 = l1 at *
    clear hp hm hsz
    cases k
    · go_enter Tryz.func146, Tryz.ntmps146
      go_wp2_with (first | (go_at_call 160; refine HC.out.mono ?_; rintro e w' ⟨rfl, rfl⟩) | (go_at_call 161; refine HS.out.mono ?_; rintro e w' ⟨rfl, hb⟩))
      go_ret2
      exact ⟨ret_ib HR.out.symm (by rw [HR2.out]; rfl), hb⟩
    · go_enter Tryz.func146, Tryz.ntmps146
      go_wp2_with (first | (go_at_call 160; refine HC.out.mono ?_; rintro e w' ⟨rfl, rfl⟩) | (go_at_call 161; refine HS.out.mono ?_; rintro e w' ⟨rfl, hb⟩))
      go_ret2
      exact ⟨ret_ib HR.out.symm (by rw [HR2.out, Bool.true_and, ← HE.out]), hb⟩

theorem parse_long {l : List UInt8} (h : 12 < l.length) : Um.parseR l = (0, 2) := by unfold Um.parseR; rw [if_pos h]
theorem parse_none {l : List UInt8} (h : ¬ 12 < l.length) (h2 : Um.readOk l = false) : Um.parseR l = (0, 2) := by unfold Um.parseR; rw [if_neg h, Um.readR_none h2]
theorem parse_some {l : List UInt8} (h : ¬ 12 < l.length) (h2 : Um.readOk l = true) : Um.parseR l = if Um.may (Um.readN l) = true then (Um.readN l, 0) else (0, 1) := by unfold Um.parseR; rw [if_neg h, Um.readR_some h2]

set_option maxHeartbeats 1000000 in
theorem parse_any (s : ByteArray) (w : World) (hs : s.size ≤ maxLen) (hm : HasLen w) :
    Calls Tryz.prog 124 #[.string s] w fun e w' => e = .returned (.tuple #[.int .i64 (Um.parseR s.data.toList).1, errV (Um.parseR s.data.toList).2]) ∧ Below w.heap.size w w' := by
  unfold maxLen at hs
  have hsz : s.data.toList.length = s.size := by simp
  by_cases hl : 12 < s.size
  · have HR := hid (parse_long (l := s.data.toList) (by omega))
    have hl' : decide ((12 : Int) < (s.size : Int)) = true := by simp; omega
    clear hm hsz
    go_enter Tryz.func124, Tryz.ntmps124
    go_wp2
    go_ret2
    exact ⟨by rw [HR.out]; rfl, Below.refl _ _⟩
  · have HC := hid (read_any s w (by omega) hm)
    have hl' : decide ((12 : Int) < (s.size : Int)) = false := by simp; omega
    have hll : ¬ 12 < s.data.toList.length := by omega
    cases ho : Um.readOk s.data.toList
    · have HR := hid (parse_none hll ho)
      clear hm hsz hll
      go_enter Tryz.func124, Tryz.ntmps124
      go_wp2_with (first | (go_at_call 146; refine HC.out.mono ?_; rintro e w' ⟨rfl, hb⟩))
      go_ret2
      exact ⟨by rw [HR.out]; rfl, hb⟩
    · have HR := hid (parse_some hll ho)
      generalize Um.readN s.data.toList = n at *
      clear hm hsz hll
      cases hn : Um.may n
      · rw [hn] at HR
        go_enter Tryz.func124, Tryz.ntmps124
        go_wp2_with (first | (go_at_call 146; refine HC.out.mono ?_; rintro e w' ⟨rfl, hb⟩) | (go_at_call 114; refine (mayBe_any _ _).mono ?_; rintro e w' ⟨rfl, rfl⟩))
        go_ret2
        exact ⟨by rw [HR.out]; rfl, hb⟩
      · rw [hn] at HR
        go_enter Tryz.func124, Tryz.ntmps124
        go_wp2_with (first | (go_at_call 146; refine HC.out.mono ?_; rintro e w' ⟨rfl, hb⟩) | (go_at_call 114; refine (mayBe_any _ _).mono ?_; rintro e w' ⟨rfl, rfl⟩))
        go_ret2
        exact ⟨by rw [HR.out]; rfl, hb⟩

/-- The table internal/strconv.uint64pow10 is as the program's text lays it. -/
def HasPow (w : World) : Prop := Lib.TabIs Tryz.prog w "internal/strconv.uint64pow10" .u64 Lib.pow10Tab
theorem pow_named : Tryz.prog.globalNamed "internal/strconv.uint64pow10" = some 4 := by kernel_rfl
theorem HasPow.below {w w' : World} (h : HasPow w) (hb : Below w.heap.size w w') : HasPow w' := Joins.tab_stays pow_named h hb (Nat.le_refl _)
theorem below_grow {w : World} (os : Array Obj) : Below w.heap.size w (Sort.grow w os) :=
  ⟨rfl, rfl, rfl, by simp [Sort.grow], fun k hk => by simp only [Sort.grow]; rw [Array.getElem?_append_left hk]⟩

theorem itoa_any (n : Int) (w : World) (h0 : 0 ≤ n) (h1 : n ≤ 1000000000) (hp : HasPow w) :
    Calls Tryz.prog 155 #[.int .i64 n] w fun e w' => e = .returned (.string ⟨(Lib.decDigits n.toNat).toArray⟩) ∧ Below w.heap.size w w' := by
  refine (Tryz.strconv_Itoa n (by omega) (by omega) w hp).mono ?_
  rintro e w' ⟨rfl, k, os, rfl⟩
  refine ⟨?_, (below_drewN (Below.refl _ _) k).trans (below_grow (w := w.drewN k) os)⟩
  unfold Lib.itoa
  rw [if_neg (by omega)]

theorem ba_ext {a b : ByteArray} (h : a.data.toList = b.data.toList) : a = b := by
  cases a; cases b; simp only [ByteArray.mk.injEq] at *; exact Array.ext' h
theorem ret_str {a b : ByteArray} (h : a = b) : Ending.returned (.string a) = .returned (.string b) := by rw [h]
theorem ret_se {a b : ByteArray} {v : Value} (h : a = b) : Ending.returned (.tuple #[.string a, v]) = .returned (.tuple #[.string b, v]) := by rw [h]
theorem join_two (a b : List UInt8) : (⟨a.toArray⟩ ++ ⟨b.toArray⟩ : ByteArray) = ⟨(a ++ b).toArray⟩ := by
  apply ba_ext
  rw [Joins.data_append]
theorem join_text (a b : List UInt8) : (⟨a.toArray⟩ ++ ⟨#[46]⟩ ++ (⟨b.toArray⟩ : ByteArray).extract 1 b.length : ByteArray) = ⟨(a ++ [46] ++ b.drop 1).toArray⟩ := by
  apply ba_ext
  rw [Joins.data_append, Joins.data_append]
  have h := Lib.extract_to_end (⟨b.toArray⟩ : ByteArray) 1
  rw [size_list] at h
  rw [h]

set_option maxHeartbeats 1000000 in
theorem written_any (n : Int) (w : World) (h0 : 0 ≤ n) (h1 : n ≤ 1000000000) (hp : HasPow w) :
    Calls Tryz.prog 135 #[.int .i64 n] w fun e w' => e = .returned (.string ⟨(Um.wr n.toNat).toArray⟩) ∧ Below w.heap.size w w' := by
  have HP := hid hp
  clear hp
  have H1 := hid (itoa_any (n / 1000) w (by omega) (by omega) HP.out)
  have HL := hid (Um.decDigits_length_le 9 (n / 1000).toNat (by omega))
  have HL2 := hid (Um.decDigits_length_le 9 (1000 + n % 1000).toNat (by omega))
  have HW : Hid (Um.wr n.toNat = Lib.decDigits (n / 1000).toNat ++ [46] ++ (Lib.decDigits (1000 + n % 1000).toNat).drop 1) := hid (by
    unfold Um.wr; rw [show n.toNat / 1000 = (n / 1000).toNat from by omega, show 1000 + n.toNat % 1000 = (1000 + n % 1000).toNat from by omega])
  have hne := Um.decDigits_ne (1000 + n % 1000).toNat
  have hpos : 1 ≤ (Lib.decDigits (1000 + n % 1000).toNat).length := by
    rcases Nat.eq_zero_or_pos (Lib.decDigits (1000 + n % 1000).toNat).length with h | h
    · exact absurd (List.length_eq_zero_iff.1 h) hne
    · exact h
  have HQ : Hid (∀ w2, HasPow w2 → Calls Tryz.prog 155 #[.int .i64 (1000 + n % 1000)] w2 fun e w' => e = .returned (.string ⟨(Lib.decDigits (1000 + n % 1000).toNat).toArray⟩) ∧ Below w2.heap.size w2 w') := fun w2 h2 => itoa_any _ w2 (by omega) (by omega) h2
  clear hne
  generalize Lib.decDigits (n / 1000).toNat = a at *
  generalize Lib.decDigits (1000 + n % 1000).toNat = b at *
  go_enter Tryz.func135, Tryz.ntmps135
  go_wp2_with fail
  refine H1.out.mono ?_
  rintro e w1 ⟨rfl, hb1⟩
  have hla := HL.out
  have hlb := HL2.out
  go_wp2_with fail
  refine (HQ.out w1 (HP.out.below hb1)).mono ?_
  rintro e w2 ⟨rfl, hb2⟩
  go_wp2
  go_ret
  refine ⟨?_, hb1.trans (hb2.mono hb1.size)⟩
  rw [HW.out]
  exact ret_str (join_text a b)

set_option maxHeartbeats 1000000 in
theorem print_no (n : Int) (w : World) (h : Um.may n = false) :
    Calls Tryz.prog 109 #[.int .i64 n] w fun e w' => e = .returned (.tuple #[.string ⟨#[]⟩, .iface 85 (.int .i64 1)]) ∧ w' = w := by
  go_enter Tryz.func109, Tryz.ntmps109
  go_wp2_with (go_at_call 114; refine (mayBe_any _ _).mono ?_; rintro e w' ⟨rfl, rfl⟩)
  go_ret2
  exact ⟨rfl, rfl⟩

set_option maxHeartbeats 1000000 in
theorem print_yes (n : Int) (w : World) (h : Um.may n = true) (hp : HasPow w) :
    Calls Tryz.prog 109 #[.int .i64 n] w fun e w' => e = .returned (.tuple #[.string ⟨(Um.printR n).toArray⟩, .nilIface]) ∧ Below w.heap.size w w' := by
  have hb := (Um.may_iff n).1 h
  have h1 := hb.1
  have h2 := hb.2
  clear hb
  by_cases hn : n < 0
  · have HW := hid (written_any (-n) w (by omega) (by omega) hp)
    have hn' : decide (n < 0) = true := by simpa using hn
    have HR : Hid (Um.printR n = [45] ++ Um.wr (-n).toNat) := hid (by unfold Um.printR; rw [if_pos hn])
    have HL := hid (Um.wr_length (-n).toNat (by omega))
    generalize Um.wr (-n).toNat = t at *
    clear hp
    go_enter Tryz.func109, Tryz.ntmps109
    go_wp2_with (first | (go_at_call 114; refine (mayBe_any _ _).mono ?_; rintro e w' ⟨rfl, rfl⟩))
    refine HW.out.mono ?_
    rintro e w1 ⟨rfl, hb1⟩
    have hl := HL.out
    go_wp2
    go_ret2
    refine ⟨?_, hb1⟩
    rw [HR.out]
    exact ret_se (join_two _ t)
  · have HW := hid (written_any n w (by omega) (by omega) hp)
    have hn' : decide (n < 0) = false := by simpa using hn
    have HR : Hid (Um.printR n = Um.wr n.toNat) := hid (by unfold Um.printR; rw [if_neg hn])
    clear hp
    go_enter Tryz.func109, Tryz.ntmps109
    go_wp2_with (first | (go_at_call 114; refine (mayBe_any _ _).mono ?_; rintro e w' ⟨rfl, rfl⟩) | (go_at_call 135; refine HW.out.mono ?_; rintro e w' ⟨rfl, hb1⟩))
    go_ret2
    refine ⟨?_, hb1⟩
    rw [HR.out]
    rfl

def printT (n : Int) : List UInt8 := if Um.may n = true then Um.printR n else []
def printE (n : Int) : Int := if Um.may n = true then 0 else 1
theorem print_any (n : Int) (w : World) (hp : HasPow w) :
    Calls Tryz.prog 109 #[.int .i64 n] w fun e w' => e = .returned (.tuple #[.string ⟨(printT n).toArray⟩, errV (printE n)]) ∧ Below w.heap.size w w' := by
  cases h : Um.may n
  · refine (print_no n w h).mono ?_
    rintro e w' ⟨rfl, rfl⟩
    refine ⟨?_, Below.refl _ _⟩
    have h1 : printT n = [] := by unfold printT; rw [h]; rfl
    have h2 : printE n = 1 := by unfold printE; rw [h]; rfl
    rw [h1, h2]; rfl
  · refine (print_yes n w h hp).mono ?_
    rintro e w' ⟨rfl, hb⟩
    refine ⟨?_, hb⟩
    have h1 : printT n = Um.printR n := by unfold printT; rw [h]; rfl
    have h2 : printE n = 0 := by unfold printE; rw [h]; rfl
    rw [h1, h2]; rfl
theorem printR_length {n : Int} (h : Um.may n = true) : (Um.printR n).length ≤ 12 := by
  have hb := (Um.may_iff n).1 h
  unfold Um.printR
  split
  · have := Um.wr_length (-n).toNat (by omega); simp; omega
  · have := Um.wr_length n.toNat (by omega); omega
end Go.Proofs.YtkfalmdckmlneaaGreatDoor
