/-
  What the document's answer (package spanref1) to a number's text is: Digits, Text; and to any text: Read.
-/
import Derived.Test.YtkfalmdckmlneaaGreatDoorRefs
import Derived.Test.YtkfalmdckmlneaaGreatDoorPrint
import Derived.Test.YtkfalmdckmlneaaGreatDoorTexts
namespace Go.Proofs.YtkfalmdckmlneaaGreatDoor
set_option linter.unusedSimpArgs false
open Go.RowKit

theorem dig_slice (n : Nat) (h : n < 10) : (⟨#[48, 49, 50, 51, 52, 53, 54, 55, 56, 57]⟩ : ByteArray).extract n (n + 1) = ⟨[UInt8.ofNat (48 + n)].toArray⟩ := by
  match n, h with
  | 0, _ => rfl
  | 1, _ => rfl
  | 2, _ => rfl
  | 3, _ => rfl
  | 4, _ => rfl
  | 5, _ => rfl
  | 6, _ => rfl
  | 7, _ => rfl
  | 8, _ => rfl
  | 9, _ => rfl
  | n + 10, h => omega

set_option maxHeartbeats 400000 in
theorem rDigits_any (n : Nat) : ∀ (w : World), n ≤ 2000000000 →
    Calls Tryz.prog 53 #[.int .i64 (n : Int)] w fun e w' => e = .returned (.string ⟨(Lib.decDigits n).toArray⟩) ∧ w' = w := by
  induction n using Nat.strongRecOn with
  | _ n ih =>
    intro w hn
    by_cases h : n < 10
    · have HD := hid (Um.decDigits_small h)
      have HS := hid (dig_slice n h)
      clear ih
      go_enter Tryz.func53, Tryz.ntmps53
      go_wp2_with fail
      go_ret
      exact ⟨ret_str (by rw [HD.out]; exact HS.out), rfl⟩
    · have HD := hid (Um.decDigits_big h)
      have HS := hid (dig_slice (n % 10) (by omega))
      have IH := hid (ih (n / 10) (by omega) w (by omega))
      have HL := hid (Um.decDigits_length_le 9 (n / 10) (by omega))
      clear ih
      generalize hq : n / 10 = q at *
      generalize Lib.decDigits q = t at *
      go_enter Tryz.func53, Tryz.ntmps53
      go_wp2_with fail
      have hcast : (n : Int) / 10 = (q : Int) := by omega
      rw [hcast]
      refine IH.out.mono ?_
      rintro e w' ⟨rfl, rfl⟩
      have hl := HL.out
      go_wp2_with fail
      go_ret
      exact ⟨ret_str (by rw [HD.out, HS.out]; exact join_two t _), rfl⟩
theorem rDigits_int (n : Int) (w : World) (h0 : 0 ≤ n) (h1 : n ≤ 2000000000) :
    Calls Tryz.prog 53 #[.int .i64 n] w fun e w' => e = .returned (.string ⟨(Lib.decDigits n.toNat).toArray⟩) ∧ w' = w := by
  obtain ⟨k, rfl⟩ := Int.eq_ofNat_of_zero_le h0
  rw [Int.toNat_natCast]
  exact rDigits_any k w (by omega)

theorem join_sign (a b : List UInt8) (p : ByteArray) (l : List UInt8) (hp : p.data.toList = l) : (p ++ ⟨a.toArray⟩ ++ ⟨#[46]⟩ ++ (⟨b.toArray⟩ : ByteArray).extract 1 b.length : ByteArray) = ⟨(l ++ (a ++ [46] ++ b.drop 1)).toArray⟩ := by
  apply ba_ext
  rw [Joins.data_append, Joins.data_append, Joins.data_append, hp]
  have h := Lib.extract_to_end (⟨b.toArray⟩ : ByteArray) 1
  rw [size_list] at h
  rw [h]
  simp

set_option maxHeartbeats 1000000 in
theorem rText_any (n : Int) (w : World) (h : Um.may n = true) :
    Calls Tryz.prog 31 #[.int .i64 n] w fun e w' => e = .returned (.string ⟨(Um.printR n).toArray⟩) ∧ w' = w := by
  have hb := (Um.may_iff n).1 h
  have b1 := hb.1
  have b2 := hb.2
  clear hb h
  have HW : ∀ m : Int, 0 ≤ m → m ≤ 1000000000 → Um.wr m.toNat = Lib.decDigits (m / 1000).toNat ++ [46] ++ (Lib.decDigits (m % 1000 + 1000).toNat).drop 1 := fun m h0 h1 => by
    unfold Um.wr; rw [show m.toNat / 1000 = (m / 1000).toNat from by omega, show 1000 + m.toNat % 1000 = (m % 1000 + 1000).toNat from by omega]
  have HP : ∀ k : Nat, 1 ≤ (Lib.decDigits k).length := fun k => by
    rcases Nat.eq_zero_or_pos (Lib.decDigits k).length with h | h
    · exact absurd (List.length_eq_zero_iff.1 h) (Um.decDigits_ne k)
    · exact h
  by_cases hn : n < 0
  · obtain ⟨m, rfl⟩ : ∃ m : Int, n = -m := ⟨-n, by omega⟩
    have hn' : decide (-m < 0) = true := by simpa using hn
    have hm0 : 0 ≤ m := by omega
    have hm1 : m ≤ 1000000000 := by omega
    have hmm : - -m = m := Int.neg_neg m
    have HR : Hid (Um.printR (-m) = [45] ++ (Lib.decDigits (m / 1000).toNat ++ [46] ++ (Lib.decDigits (m % 1000 + 1000).toNat).drop 1)) := hid (by unfold Um.printR; rw [if_pos hn, hmm, HW m hm0 hm1])
    have D1 := fun w => hid (rDigits_int (m / 1000) w (by omega) (by omega))
    have D2 := fun w => hid (rDigits_int (m % 1000 + 1000) w (by omega) (by omega))
    have l1 := Um.decDigits_length_le 9 (m / 1000).toNat (by omega)
    have l2 := Um.decDigits_length_le 9 (m % 1000 + 1000).toNat (by omega)
    have l3 := HP (m % 1000 + 1000).toNat
    clear HW HP
    generalize Lib.decDigits (m / 1000).toNat = a at *
    generalize Lib.decDigits (m % 1000 + 1000).toNat = b at *
    clear hmm
    go_enter Tryz.func31, Tryz.ntmps31
    go_wp2_with fail
    refine (D1 _).out.mono ?_
    rintro e w' ⟨rfl, rfl⟩
    go_wp2_with fail
    refine (D2 _).out.mono ?_
    rintro e w' ⟨rfl, rfl⟩
    go_wp2_with fail
    go_ret
    refine ⟨?_, rfl⟩
    rw [HR.out]
    exact ret_str (join_sign a b ⟨#[45]⟩ [45] rfl)
  · have hn' : decide (n < 0) = false := by simpa using hn
    have HR : Hid (Um.printR n = [] ++ (Lib.decDigits (n / 1000).toNat ++ [46] ++ (Lib.decDigits (n % 1000 + 1000).toNat).drop 1)) := hid (by unfold Um.printR; rw [if_neg hn, HW n (by omega) (by omega)]; rfl)
    have D1 := fun w => hid (rDigits_int (n / 1000) w (by omega) (by omega))
    have D2 := fun w => hid (rDigits_int (n % 1000 + 1000) w (by omega) (by omega))
    have l1 := Um.decDigits_length_le 9 (n / 1000).toNat (by omega)
    have l2 := Um.decDigits_length_le 9 (n % 1000 + 1000).toNat (by omega)
    have l3 := HP (n % 1000 + 1000).toNat
    clear HW HP
    generalize Lib.decDigits (n / 1000).toNat = a at *
    generalize Lib.decDigits (n % 1000 + 1000).toNat = b at *
    go_enter Tryz.func31, Tryz.ntmps31
    go_wp2_with fail
    refine (D1 _).out.mono ?_
    rintro e w' ⟨rfl, rfl⟩
    go_wp2_with fail
    refine (D2 _).out.mono ?_
    rintro e w' ⟨rfl, rfl⟩
    go_wp2_with fail
    go_ret
    refine ⟨?_, rfl⟩
    rw [HR.out]
    exact ret_str (join_sign a b ⟨#[]⟩ [] rfl)
end Go.Proofs.YtkfalmdckmlneaaGreatDoor
