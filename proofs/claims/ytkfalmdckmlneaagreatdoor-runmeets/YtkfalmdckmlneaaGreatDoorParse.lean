/-
  What the functions of package unit that read and write texts answer: areDigits, value, isWhole, readSize, read, Parse, written, Print.
-/
import Derived.Test.YtkfalmdckmlneaaGreatDoorUnits
import Derived.Test.YtkfalmdckmlneaaGreatDoorTexts
import Derived.Test.YtkfalmdckmlneaaGreatDoorShelf
import Derived.WalkSpells
import Derived.Lib.SmallJoins
namespace Go.Proofs.YtkfalmdckmlneaaGreatDoor
set_option linter.unusedSimpArgs false
open Go.RowKit

theorem ret_bool {a b : Bool} (h : a = b) : Ending.returned (.bool a) = .returned (.bool b) := by rw [h]
theorem ret_int {a b : Int} (h : a = b) : Ending.returned (.int .i64 a) = .returned (.int .i64 b) := by rw [h]
theorem take_snoc (s : ByteArray) (k : Nat) (h : k < s.size) : s.data.toList.take (k + 1) = s.data.toList.take k ++ [s[k]] := by
  rw [List.take_succ_eq_append_getElem (by simpa using h)]; rfl
theorem digs_split (s : ByteArray) (k : Nat) (h : k < s.size) (hn : Um.isDig s[k] = false) : Um.digs s.data.toList = false := by
  unfold Um.digs
  rw [List.all_eq_false]
  exact ⟨s[k], by
    have : s.data.toList[k]'(by simpa using h) = s[k] := rfl
    rw [← this]; exact List.getElem_mem _, by simp [hn]⟩
theorem dig_no1 (c : UInt8) (h : (c.toNat : Int) < 48) : Um.isDig c = false := by
  have : ¬ 48 ≤ c.toNat := by omega
  simp [Um.isDig, this]
theorem dig_no2 (c : UInt8) (h : 57 < (c.toNat : Int)) : Um.isDig c = false := by
  have : ¬ c.toNat ≤ 57 := by omega
  simp [Um.isDig, this]
theorem dig_yes (c : UInt8) (h1 : 48 ≤ (c.toNat : Int)) (h2 : (c.toNat : Int) ≤ 57) : Um.isDig c = true := (Um.isDig_iff c).2 (by omega)

set_option maxHeartbeats 400000 in
theorem areDigits_any (s : ByteArray) (w : World) (hs : s.size ≤ 100) :
    Calls Tryz.prog 170 #[.string s] w fun e w' => e = .returned (.bool (Um.digs s.data.toList)) ∧ w' = w := by
  go_enter Tryz.func170, Tryz.ntmps170
  go_wp2
  go_loop [6] (fun i => ∃ k : Nat, k ≤ s.size ∧ i = .int .i64 k ∧ Hid (Um.digs (s.data.toList.take k) = true)) (fun i => s.size - (intOf i).toNat)
  case atStart => exact ⟨0, Nat.zero_le _, rfl, rfl⟩
  case round =>
    obtain ⟨k, hk, rfl, hd⟩ := hrel
    by_cases hlt : k < s.size
    · have HS : Hid (Um.digs (s.data.toList.take (k + 1)) = Um.isDig s[k]) := by
        show _ = _
        rw [take_snoc s k hlt, Um.digs_snoc, hd.out]; simp
      by_cases h1 : (s[k].toNat : Int) < 48
      · have h1' : decide ((s[k].toNat : Int) < 48) = true := by simpa using h1
        have HN : Hid (Um.digs s.data.toList = false) := digs_split s k hlt (dig_no1 _ h1)
        go_wp2
        go_ret
        exact ⟨ret_bool HN.out.symm, rfl⟩
      · have h1' : decide ((s[k].toNat : Int) < 48) = false := by simpa using h1
        by_cases h2 : 57 < (s[k].toNat : Int)
        · have h2' : decide (57 < (s[k].toNat : Int)) = true := by simpa using h2
          have HN : Hid (Um.digs s.data.toList = false) := digs_split s k hlt (dig_no2 _ h2)
          go_wp2
          go_ret
          exact ⟨ret_bool HN.out.symm, rfl⟩
        · have h2' : decide (57 < (s[k].toNat : Int)) = false := by simpa using h2
          have HY : Hid (Um.isDig s[k] = true) := dig_yes _ (by omega) (by omega)
          go_wp2
          go_round
          case rel => exact ⟨k + 1, by omega, by go_num, by show _ = _; rw [HS.out, HY.out]⟩
          case measure => simp [intOf]; omega
    · have hd2 : Hid (Um.digs s.data.toList = true) := by
        have := hd.out
        rw [List.take_of_length_le (by simp; omega)] at this
        exact this
      go_wp2
      go_ret
      exact ⟨ret_bool hd2.out.symm, rfl⟩

theorem byte_dig (c : UInt8) (h : Um.isDig c = true) : 48 ≤ c.toNat ∧ c.toNat ≤ 57 := (Um.isDig_iff c).1 h
theorem digs_at (s : ByteArray) (k : Nat) (h : k < s.size) (hd : Um.digs s.data.toList = true) : Um.isDig s[k] = true := by
  unfold Um.digs at hd
  rw [List.all_eq_true] at hd
  have : s.data.toList[k]'(by simpa using h) = s[k] := rfl
  rw [← this]; exact hd _ (List.getElem_mem _)

set_option maxHeartbeats 400000 in
theorem value_any (s : ByteArray) (w : World) (hs : s.size ≤ 12) (hd : Um.digs s.data.toList = true) :
    Calls Tryz.prog 171 #[.string s] w fun e w' => e = .returned (.int .i64 (Um.val s.data.toList)) ∧ w' = w := by
  have HD := hid hd
  clear hd
  go_enter Tryz.func171, Tryz.ntmps171
  go_wp2
  go_loop [3, 7] (fun n i => ∃ k : Nat, k ≤ s.size ∧ i = .int .i64 k ∧ n = .int .i64 (Um.val (s.data.toList.take k))) (fun _ i => s.size - (intOf i).toNat)
  case atStart => exact ⟨0, Nat.zero_le _, rfl, rfl⟩
  case round =>
    obtain ⟨k, hk, rfl, rfl⟩ := hrel
    have hb := Um.val_lt' (Um.digs_take HD.out k) 12 (by simp; omega)
    by_cases hlt : k < s.size
    · have hc := byte_dig _ (digs_at s k hlt HD.out)
      have hc1 := hc.1
      have hc2 := hc.2
      clear hc
      have HS : Hid (Um.val (s.data.toList.take (k + 1)) = Um.val (s.data.toList.take k) * 10 + (s[k].toNat - 48)) := by
        show _ = _
        rw [take_snoc s k hlt, Um.val_snoc]
      generalize Um.val (s.data.toList.take k) = v at *
      go_wp2
      go_round
      case rel => exact ⟨k + 1, by omega, by go_num, by rw [HS.out]; exact congrArg (Value.int IntKind.i64) (by omega)⟩
      case measure => simp [intOf]; omega
    · have hl : Hid (s.data.toList.take k = s.data.toList) := List.take_of_length_le (by simp; omega)
      go_wp2
      go_ret
      exact ⟨ret_int (by rw [hl.out]), rfl⟩

theorem whole_no1 {l : List UInt8} (h : l.isEmpty = true) : Um.whole l = false := by simp [Um.whole, h]
theorem whole_no2 {l : List UInt8} (h : Um.digs l = false) : Um.whole l = false := by simp [Um.whole, h]
theorem whole_yes {l : List UInt8} (h0 : l.isEmpty = false) (h : Um.digs l = true) : Um.whole l = (l == [48] || l.head? != some 48) := by unfold Um.whole; rw [h0, h]; rfl
theorem head_is (s : ByteArray) (h : 0 < s.size) : s.data.toList.head? = some s[0] := by
  rw [List.head?_eq_getElem?, List.getElem?_eq_getElem (by simpa using h)]; rfl
theorem byte_ne (c : UInt8) : ((c.toNat : Int) != 48) = (some c != some 48) := by
  rw [Bool.eq_iff_iff]
  simp only [bne_iff_ne, ne_eq, Option.some.injEq]
  rw [← UInt8.toNat_inj]
  have : (48 : UInt8).toNat = 48 := rfl
  rw [this]; omega

set_option maxHeartbeats 400000 in
theorem isWhole_any (s : ByteArray) (w : World) (hs : s.size ≤ 100) :
    Calls Tryz.prog 169 #[.string s] w fun e w' => e = .returned (.bool (Um.whole s.data.toList)) ∧ w' = w := by
  cases he : s.data.toList.isEmpty
  · have he' : s.toList.isEmpty = false := by rw [Lib.toList_data]; exact he
    have hz : 0 < s.size := by
      rcases Nat.eq_zero_or_pos s.size with h | h
      · have : s.data.toList.length = 0 := by simpa using h
        rw [List.length_eq_zero_iff.1 this] at he; cases he
      · exact h
    cases hd : Um.digs s.data.toList
    · have HR : Hid (Um.whole s.data.toList = false) := whole_no2 hd
      go_enter Tryz.func169, Tryz.ntmps169
      go_wp2_with (go_at_call 170; refine (areDigits_any _ _ hs).mono ?_; rintro e w' ⟨rfl, rfl⟩)
      go_ret
      exact ⟨ret_bool HR.out.symm, rfl⟩
    · have HR : Hid (Um.whole s.data.toList = (s.data.toList == [48] || s.data.toList.head? != some 48)) := whole_yes he hd
      cases h0 : (s.data.toList == [48])
      · have h0' : (s.toList == [48]) = false := by rw [Lib.toList_data]; exact h0
        have HR2 : Hid (Um.whole s.data.toList = ((s[0].toNat : Int) != 48)) := hid (by rw [HR.out, h0, head_is s hz, byte_ne]; rfl)
        clear h0
        go_enter Tryz.func169, Tryz.ntmps169
        go_wp2_with (go_at_call 170; refine (areDigits_any _ _ hs).mono ?_; rintro e w' ⟨rfl, rfl⟩)
        go_ret
        exact ⟨ret_bool HR2.out.symm, rfl⟩
      · have h0' : (s.toList == [48]) = true := by rw [Lib.toList_data]; exact h0
        have HR2 : Hid (Um.whole s.data.toList = true) := hid (by rw [HR.out, h0]; rfl)
        clear h0
        go_enter Tryz.func169, Tryz.ntmps169
        go_wp2_with (go_at_call 170; refine (areDigits_any _ _ hs).mono ?_; rintro e w' ⟨rfl, rfl⟩)
        go_ret
        exact ⟨ret_bool HR2.out.symm, rfl⟩
  · have he' : s.toList.isEmpty = true := by rw [Lib.toList_data]; exact he
    have HR : Hid (Um.whole s.data.toList = false) := whole_no1 he
    go_enter Tryz.func169, Tryz.ntmps169
    go_wp2_with (go_at_call 170; refine (areDigits_any _ _ hs).mono ?_; rintro e w' ⟨rfl, rfl⟩)
    go_ret
    exact ⟨ret_bool HR.out.symm, rfl⟩

/-- The variable internal/bytealg.MaxLen holds some number. -/
def HasLen (w : World) : Prop := ∃ m, w.cell? ⟨1, 0, none⟩ = some (.int .i64 m)
theorem HasLen.size {w : World} (h : HasLen w) : 1 < w.heap.size := by
  obtain ⟨m, h⟩ := h
  rcases Nat.lt_or_ge 1 w.heap.size with h0 | h0
  · exact h0
  · simp [World.cell?, Array.getElem?_eq_none h0] at h
theorem HasLen.below {w w' : World} {B : Nat} (h : HasLen w) (hb : Below B w w') (hG : 1 < B) : HasLen w' := by
  obtain ⟨m, h⟩ := h
  exact ⟨m, by rw [hb.cell (p := ⟨1, 0, none⟩) hG]; exact h⟩

theorem ret_ib {a c : Int} {b d : Bool} (h1 : a = c) (h2 : b = d) : Ending.returned (.tuple #[.int .i64 a, .bool b]) = .returned (.tuple #[.int .i64 c, .bool d]) := by rw [h1, h2]
theorem size_list (l : List UInt8) : (⟨l.toArray⟩ : ByteArray).size = l.length := by simp [ByteArray.size]
theorem list_list (l : List UInt8) : (⟨l.toArray⟩ : ByteArray).data.toList = l := by simp

theorem size_none {l : List UInt8} (h : ¬ (Um.whole (Lib.cut l [46]).1 = true ∧ (Lib.cut l [46]).2.1.length = 3 ∧ Um.digs (Lib.cut l [46]).2.1 = true)) : Um.sizeN l = 0 ∧ Um.sizeOk l = false := by
  unfold Um.sizeN Um.sizeOk Um.sizeR; rw [if_neg h]; exact ⟨rfl, rfl⟩
theorem size_some {l : List UInt8} (h : Um.whole (Lib.cut l [46]).1 = true ∧ (Lib.cut l [46]).2.1.length = 3 ∧ Um.digs (Lib.cut l [46]).2.1 = true) : Um.sizeN l = Um.val (Lib.cut l [46]).1 * 1000 + Um.val (Lib.cut l [46]).2.1 ∧ Um.sizeOk l = true := by
  unfold Um.sizeN Um.sizeOk Um.sizeR; rw [if_pos h]; exact ⟨rfl, rfl⟩

set_option maxHeartbeats 1000000 in
theorem readSize_any (s : ByteArray) (w : World) (hs : s.size ≤ 12) (hm : HasLen w) :
    Calls Tryz.prog 161 #[.string s] w fun e w' => e = .returned (.tuple #[.int .i64 (Um.sizeN s.data.toList), .bool (Um.sizeOk s.data.toList)]) ∧ Below w.heap.size w w' := by
  obtain ⟨m, hm⟩ := hm
  have HC := hid (Tryz.strings_Cut s ⟨#[46]⟩ m w (by omega) hm)
  clear hm
  have e46 : (⟨#[46]⟩ : ByteArray).data.toList = [46] := rfl
  rw [e46] at HC
  clear e46
  have hl := Um.cut_lengths s.data.toList
  have hsz : s.data.toList.length = s.size := by simp
  have HN := hid (@size_none s.data.toList)
  have HY := hid (@size_some s.data.toList)
  rw [hsz] at hl
  clear hsz
  generalize Um.sizeN s.data.toList = N at *
  generalize Um.sizeOk s.data.toList = K at *
  generalize Lib.cut s.data.toList [46] = c at *
  obtain ⟨a, b, f⟩ := c
  have hla : (⟨a.toArray⟩ : ByteArray).size ≤ 12 := by rw [size_list]; have := hl.1; simp at this; omega
  have hlb : (⟨b.toArray⟩ : ByteArray).size ≤ 12 := by rw [size_list]; have := hl.2; simp at this; omega
  clear hl
  cases hw : Um.whole a
  · obtain ⟨n1, n2⟩ := HN.out (by simp [hw])
    have HR := hid n1
    have HR2 := hid n2
    clear n1 n2 HN HY
    go_enter Tryz.func161, Tryz.ntmps161
    go_wp2_with (first | (go_at_call 168; refine HC.out.mono ?_; rintro e w1 ⟨rfl, nq, rfl⟩) | (go_at_call 169; refine (isWhole_any _ _ (by omega)).mono ?_; rintro e w' ⟨rfl, rfl⟩))
    go_ret2
    exact ⟨ret_ib (by rw [HR.out]; rfl) HR2.out.symm, below_drewN (Below.refl _ _) _⟩
  · cases h3 : ((b.length : Int) != 3)
    · cases hd : Um.digs b
      · obtain ⟨n1, n2⟩ := HN.out (by simp [hd])
        have HR := hid n1
        have HR2 := hid n2
        clear n1 n2 HN HY
        go_enter Tryz.func161, Tryz.ntmps161
        go_wp2_with (first | (go_at_call 168; refine HC.out.mono ?_; rintro e w1 ⟨rfl, nq, rfl⟩) | (go_at_call 169; refine (isWhole_any _ _ (by omega)).mono ?_; rintro e w' ⟨rfl, rfl⟩) | (go_at_call 170; refine (areDigits_any _ _ (by omega)).mono ?_; rintro e w' ⟨rfl, rfl⟩))
        go_ret2
        exact ⟨ret_ib (by rw [HR.out]; rfl) HR2.out.symm, below_drewN (Below.refl _ _) _⟩
      · have h3' : b.length = 3 := by have := h3; simp at this; omega
        obtain ⟨n1, n2⟩ := HY.out ⟨hw, h3', hd⟩
        have HR := hid n1
        have HR2 := hid n2
        have va := Um.val_lt' (Um.whole_parts hw).2.1 12 (by rw [size_list] at hla; exact hla)
        have vb := Um.val_lt' hd 3 (by omega)
        have HA := hid (value_any ⟨a.toArray⟩)
        have HB := hid (value_any ⟨b.toArray⟩)
        clear n1 n2 HN HY h3'
        go_enter Tryz.func161, Tryz.ntmps161
        go_wp2_with (first | (go_at_call 168; refine HC.out.mono ?_; rintro e w1 ⟨rfl, nq, rfl⟩) | (go_at_call 169; refine (isWhole_any _ _ (by omega)).mono ?_; rintro e w' ⟨rfl, rfl⟩) | (go_at_call 170; refine (areDigits_any _ _ (by omega)).mono ?_; rintro e w' ⟨rfl, rfl⟩))
        refine (HA.out _ hla (Um.whole_parts hw).2.1).mono ?_
        rintro e w' ⟨rfl, rfl⟩
        go_wp2_with fail
        refine (HB.out _ hlb hd).mono ?_
        rintro e w' ⟨rfl, rfl⟩
        go_wp2
        go_ret2
        exact ⟨ret_ib (by rw [HR.out]; omega) HR2.out.symm, below_drewN (Below.refl _ _) _⟩
    · obtain ⟨n1, n2⟩ := HN.out (by have := h3; simp at this; intro h; exact this (by have := h.2.1; simp at this; omega))
      have HR := hid n1
      have HR2 := hid n2
      clear n1 n2 HN HY
      go_enter Tryz.func161, Tryz.ntmps161
      go_wp2_with (first | (go_at_call 168; refine HC.out.mono ?_; rintro e w1 ⟨rfl, nq, rfl⟩) | (go_at_call 169; refine (isWhole_any _ _ (by omega)).mono ?_; rintro e w' ⟨rfl, rfl⟩))
      go_ret2
      exact ⟨ret_ib (by rw [HR.out]; rfl) HR2.out.symm, below_drewN (Below.refl _ _) _⟩
end Go.Proofs.YtkfalmdckmlneaaGreatDoor
