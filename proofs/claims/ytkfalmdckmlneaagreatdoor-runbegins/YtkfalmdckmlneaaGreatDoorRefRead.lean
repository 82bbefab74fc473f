/-
  What the document's answer (package spanref1) to any text is: Read: what 'Um.parseR' says.
-/
import Derived.Test.YtkfalmdckmlneaaGreatDoorRefText
namespace Go.Proofs.YtkfalmdckmlneaaGreatDoor
set_option linter.unusedSimpArgs false
open Go.RowKit

theorem piece_snoc (s : ByteArray) (a k : Nat) (ha : a ≤ k) (h : k < s.size) : (s.data.toList.drop a).take (k + 1 - a) = (s.data.toList.drop a).take (k - a) ++ [s[k]] := by
  rw [show k + 1 - a = (k - a) + 1 from by omega]
  rw [List.take_succ_eq_append_getElem (by simp; omega)]
  congr 1
  simp only [List.getElem_drop]
  have : s.data.toList[a + (k - a)]'(by simp; omega) = s.data.toList[k]'(by simpa using h) := by congr 1; omega
  rw [this]; rfl
theorem piece_all (s : ByteArray) (a : Nat) : (s.data.toList.drop a).take (s.size - a) = s.data.toList.drop a := List.take_of_length_le (by simp)
theorem piece_none (s : ByteArray) (a k : Nat) (ha : a ≤ k) (h : k < s.size) (hn : Um.step (Um.scan ((s.data.toList.drop a).take (k - a))) s[k] = none) : Um.scan (s.data.toList.drop a) = none := by
  have h1 : Um.scan ((s.data.toList.drop a).take (k + 1 - a)) = none := by rw [piece_snoc s a k ha h, Um.scan_snoc]; exact hn
  have h2 := Um.scan_none (b := (s.data.toList.drop a).drop (k + 1 - a)) h1
  rwa [List.take_append_drop] at h2
theorem step_point {N M : Nat} {B : Int} {c : UInt8} (h : c = 46) (hb : B < 0) : Um.step (some (N, M, B)) c = some (N, M, 0) := by simp [Um.step, h, hb]
theorem step_bad {N M : Nat} {B : Int} {c : UInt8} (h : ¬ (c = 46 ∧ B < 0)) (hd : Um.isDig c = false) : Um.step (some (N, M, B)) c = none := by simp only [Um.step]; rw [if_neg h, hd]; rfl
theorem step_ahead {N M : Nat} {B : Int} {c : UInt8} (hd : Um.isDig c = true) (hb : B < 0) : Um.step (some (N, M, B)) c = some (10 * N + (c.toNat - 48), M + 1, B) := by
  have h : ¬ (c = 46 ∧ B < 0) := fun h => by rw [h.1] at hd; exact absurd hd (by decide)
  simp only [Um.step]; rw [if_neg h, if_pos hd, if_pos hb, if_pos hb]
theorem step_behind {N M : Nat} {B : Int} {c : UInt8} (hd : Um.isDig c = true) (hb : ¬ B < 0) : Um.step (some (N, M, B)) c = some (10 * N + (c.toNat - 48), M, B + 1) := by
  have h : ¬ (c = 46 ∧ B < 0) := fun h => by rw [h.1] at hd; exact absurd hd (by decide)
  simp only [Um.step]; rw [if_neg h, if_pos hd, if_neg hb, if_neg hb]
theorem byte_is {c : UInt8} {k : Nat} (hk : k < 256) (h : (c.toNat : Int) = k) : c = UInt8.ofNat k := by
  apply UInt8.toNat_inj.1
  rw [UInt8.toNat_ofNat']
  omega

/-! ### what the text comes to, by what was scanned -/
theorem pref_no0 (s : ByteArray) (h : s.size = 0) : Lib.hasPrefix s.data.toList [45] = false := by
  have : s.data.toList = [] := List.length_eq_zero_iff.1 (by simpa using h)
  rw [this]; rfl
theorem pref_head (s : ByteArray) (h : 0 < s.size) : Lib.hasPrefix s.data.toList [45] = (s[0] == 45) := by
  have hh := head_is s h
  cases hl : s.data.toList with
  | nil => rw [hl] at hh; cases hh
  | cons c t =>
    rw [hl] at hh
    have : c = s[0] := by simpa using hh
    rw [← this]
    rw [Bool.eq_iff_iff]
    simp [Lib.hasPrefix, List.isPrefixOf]
    exact eq_comm
theorem parse_plain {l : List UInt8} (hl : ¬ 12 < l.length) (hp : Lib.hasPrefix l [45] = false) :
    Um.parseR l = match Um.good l (Um.scan l) with | none => (0, 2) | some n => if Um.may (n : Int) = true then ((n : Int), 0) else (0, 1) := by
  unfold Um.parseR
  rw [if_neg hl]
  unfold Um.readR
  rw [hp, Um.good_size]
  cases Um.sizeR l <;> rfl
theorem parse_minus {l : List UInt8} (hl : ¬ 12 < l.length) (hp : Lib.hasPrefix l [45] = true) :
    Um.parseR l = match Um.good (l.drop 1) (Um.scan (l.drop 1)) with | none => (0, 2) | some n => if n = 0 then (0, 2) else if Um.may (-(n : Int)) = true then (-(n : Int), 0) else (0, 1) := by
  unfold Um.parseR
  rw [if_neg hl]
  unfold Um.readR
  rw [hp, Um.good_size]
  cases h : Um.sizeR (l.drop 1) with
  | none => rfl
  | some n =>
    simp only [if_true]
    by_cases hn : n = 0
    · simp [hn]
    · simp [hn]
theorem good_bad {l : List UInt8} {N M : Nat} {B : Int} (h : ¬ (B = 3 ∧ 1 ≤ M ∧ ¬ (1 < M ∧ l.head? = some 48))) : Um.good l (some (N, M, B)) = none := by simp only [Um.good]; rw [if_neg h]
theorem good_ok {l : List UInt8} {N M : Nat} {B : Int} (h : B = 3 ∧ 1 ≤ M ∧ ¬ (1 < M ∧ l.head? = some 48)) : Um.good l (some (N, M, B)) = some N := by simp only [Um.good]; rw [if_pos h]
theorem drop_head (s : ByteArray) (a : Nat) (h : a < s.size) : (s.data.toList.drop a).head? = some s[a] := by
  rw [List.head?_drop, List.getElem?_eq_getElem (by simpa using h)]; rfl
theorem ret_ii {a b c d : Int} (h1 : a = c) (h2 : b = d) : Ending.returned (.tuple #[.int .i64 a, .int .i64 b]) = .returned (.tuple #[.int .i64 c, .int .i64 d]) := by rw [h1, h2]
theorem ret_pair {p : Int × Int} {a b : Int} (h : p = (a, b)) : Ending.returned (.tuple #[.int .i64 a, .int .i64 b]) = .returned (.tuple #[.int .i64 p.1, .int .i64 p.2]) := by rw [h]

theorem parse_nil : Um.parseR [] = (0, 2) := by decide
set_option maxHeartbeats 400000 in
theorem rRead_empty (s : ByteArray) (w : World) (h0 : s.size = 0) :
    Calls Tryz.prog 26 #[.string s] w fun e w' => e = .returned (.tuple #[.int .i64 (Um.parseR s.data.toList).1, .int .i64 (Um.parseR s.data.toList).2]) ∧ w' = w := by
  have hl : s.data.toList = [] := List.length_eq_zero_iff.1 (by simpa using h0)
  obtain rfl : s = ⟨#[]⟩ := ba_ext hl
  have HN := hid parse_nil
  clear h0 hl
  go_enter Tryz.func26, Tryz.ntmps26
  go_wp2
  go_rounds 1
  go_ret2
  exact ⟨ret_pair HN.out, rfl⟩
set_option maxRecDepth 100000 in
set_option maxHeartbeats 4000000 in
theorem rRead_plain (s : ByteArray) (w : World) (hs : s.size ≤ 12) (h0 : 0 < s.size) (h45 : ((s[0].toNat : Int) == 45) = false) :
    Calls Tryz.prog 26 #[.string s] w fun e w' => e = .returned (.tuple #[.int .i64 (Um.parseR s.data.toList).1, .int .i64 (Um.parseR s.data.toList).2]) ∧ w' = w := by
  have hpre : Lib.hasPrefix s.data.toList [45] = false := by
    rw [pref_head s h0, beq_eq_false_iff_ne]
    intro e
    rw [e] at h45
    exact absurd h45 (by decide)
  have hg1 : decide ((0 : Int) < (s.size : Int)) = true := by simp; omega
  have HP := hid (parse_plain (l := s.data.toList) (by simp; omega) hpre)
  rw [show s.data.toList = s.data.toList.drop 0 from List.drop_zero.symm] at HP
  clear hpre
  generalize hR : Um.parseR s.data.toList = R at *
  have HP2 : Hid (R = match Um.good (s.data.toList.drop 0) (Um.scan (s.data.toList.drop 0)) with | none => (0, 2) | some n => if Um.may (n : Int) = true then ((n : Int), 0) else (0, 1)) := by
    have h := HP.out
    rw [List.drop_zero, hR] at h; rw [List.drop_zero]
    exact h
  clear HP hR
  go_enter Tryz.func26, Tryz.ntmps26
  go_wp2
  go_loop [6, 7, 8, 9] (fun n m b i => ∃ k : Nat, 0 ≤ k ∧ k ≤ s.size ∧ i = .int .i64 k ∧ ∃ (N M : Nat) (B : Int), Hid (Um.scan ((s.data.toList.drop 0).take (k - 0)) = some (N, M, B)) ∧ n = .int .i64 N ∧ m = .int .i64 M ∧ b = .int .i64 B) (fun _ _ _ i => s.size - (intOf i).toNat)
  case atStart => exact ⟨0, by omega, by omega, rfl, 0, 0, -1, rfl, rfl, rfl, rfl⟩
  case round =>
    obtain ⟨k, hk0, hk, rfl, N, M, B, hsc, rfl, rfl, rfl⟩ := hrel
    have hbd := Um.scan_bound hsc.out (by simp; omega)
    obtain ⟨n1, n2, n3, n4⟩ := hbd
    by_cases hlt : k < s.size
    · have HSN := hid (piece_snoc s 0 k hk0 hlt)
      have HNO := hid (piece_none s 0 k hk0 hlt)
      by_cases h46 : (s[k].toNat : Int) = 46
      · have h46' : ((s[k].toNat : Int) == 46) = true := by simpa using h46
        have hc : s[k] = 46 := byte_is (by decide) h46
        by_cases hb : B < 0
        · have hb' : decide (B < 0) = true := by simpa using hb
          have HST : Hid (Um.scan ((s.data.toList.drop 0).take (k + 1 - 0)) = some (N, M, 0)) := hid (by rw [HSN.out, Um.scan_snoc, hsc.out]; exact step_point hc hb)
          clear hc h46 HSN HNO
          go_wp2
          go_round
          case rel => exact ⟨k + 1, by omega, by omega, by go_num, N, M, 0, HST, rfl, rfl, rfl⟩
          case measure => simp [intOf]; omega
        · have hb' : decide (B < 0) = false := by simpa using hb
          have HN : Hid (R = (0, 2)) := hid (by rw [HP2.out, HNO.out (by rw [hsc.out]; exact step_bad (fun h => hb h.2) (by rw [hc]; decide))]; rfl)
          have h48 : decide ((s[k].toNat : Int) < 48) = true := by simp; omega
          clear hc h46 HSN HNO
          go_wp2
          go_ret2
          exact ⟨ret_pair HN.out, rfl⟩
      · have h46' : ((s[k].toNat : Int) == 46) = false := by simpa using h46
        have hc : ¬ s[k] = 46 := fun e => h46 (by rw [e]; rfl)
        by_cases h48 : (s[k].toNat : Int) < 48
        · have h48' : decide ((s[k].toNat : Int) < 48) = true := by simpa using h48
          have HN : Hid (R = (0, 2)) := hid (by rw [HP2.out, HNO.out (by rw [hsc.out]; exact step_bad (fun h => hc h.1) (dig_no1 _ h48))]; rfl)
          clear hc h46 HSN HNO
          go_wp2
          go_ret2
          exact ⟨ret_pair HN.out, rfl⟩
        · have h48' : decide ((s[k].toNat : Int) < 48) = false := by simpa using h48
          by_cases h57 : 57 < (s[k].toNat : Int)
          · have h57' : decide (57 < (s[k].toNat : Int)) = true := by simpa using h57
            have HN : Hid (R = (0, 2)) := hid (by rw [HP2.out, HNO.out (by rw [hsc.out]; exact step_bad (fun h => hc h.1) (dig_no2 _ h57))]; rfl)
            clear hc h46 HSN HNO
            go_wp2
            go_ret2
            exact ⟨ret_pair HN.out, rfl⟩
          · have h57' : decide (57 < (s[k].toNat : Int)) = false := by simpa using h57
            have hdg := dig_yes s[k] (by omega) (by omega)
            by_cases hb : B < 0
            · have hb' : decide (B < 0) = true := by simpa using hb
              have HST : Hid (Um.scan ((s.data.toList.drop 0).take (k + 1 - 0)) = some (10 * N + (s[k].toNat - 48), M + 1, B)) := hid (by rw [HSN.out, Um.scan_snoc, hsc.out]; exact step_ahead hdg hb)
              clear hc h46 HSN HNO hdg
              go_wp2
              go_round
              case rel => exact ⟨k + 1, by omega, by omega, by go_num, _, _, _, HST, vint (by omega), vint (by omega), rfl⟩
              case measure => simp [intOf]; omega
            · have hb' : decide (B < 0) = false := by simpa using hb
              have HST : Hid (Um.scan ((s.data.toList.drop 0).take (k + 1 - 0)) = some (10 * N + (s[k].toNat - 48), M, B + 1)) := hid (by rw [HSN.out, Um.scan_snoc, hsc.out]; exact step_behind hdg hb)
              clear hc h46 HSN HNO hdg
              go_wp2
              go_round
              case rel => exact ⟨k + 1, by omega, by omega, by go_num, _, _, _, HST, vint (by omega), rfl, vint (by omega)⟩
              case measure => simp [intOf]; omega
    · obtain rfl : k = s.size := by omega
      have HSC : Hid (Um.scan (s.data.toList.drop 0) = some (N, M, B)) := hid (by have := hsc.out; rwa [piece_all] at this)
      have HB := hid (@good_bad (s.data.toList.drop 0) N M B)
      have HG := hid (@good_ok (s.data.toList.drop 0) N M B)
      have hml : M ≤ s.size - 0 := by
        rcases Um.scan_inv _ _ rfl N M B HSC.out with ⟨_, _, h, _⟩ | ⟨x, y, h, _, _, h2, _, _⟩
        · simp at h; omega
        · have := congrArg List.length h; simp at this; omega
      have HHD := fun h => hid (drop_head s 0 h)
      clear hsc
      by_cases hB : B = 3
      · have hB' : (B != 3) = false := by simp [hB]
        by_cases hM : (M : Int) < 1
        · have hM' : decide ((M : Int) < 1) = true := by simpa using hM
          have HN : Hid (R = (0, 2)) := hid (by rw [HP2.out, HSC.out, HB.out (by omega)])
          clear hB HB HG HHD
          go_wp2
          go_ret2
          exact ⟨ret_pair HN.out, rfl⟩
        · have hM' : decide ((M : Int) < 1) = false := by simpa using hM
          by_cases hM2 : 1 < (M : Int)
          · have hM2' : decide (1 < (M : Int)) = true := by simpa using hM2
            have hat : 0 < s.size := by omega
            have HH := HHD hat
            by_cases h48 : (s[0].toNat : Int) = 48
            · have h48' : ((s[0].toNat : Int) == 48) = true := by simpa using h48
              have hc : s[0] = 48 := byte_is (by decide) h48
              have HN : Hid (R = (0, 2)) := hid (by rw [HP2.out, HSC.out, HB.out (by rw [HH.out, hc]; exact fun h => h.2.2 ⟨by omega, rfl⟩)])
              clear hB HB HG HHD HH hc h48
              go_wp2
              go_ret2
              exact ⟨ret_pair HN.out, rfl⟩
            · have h48' : ((s[0].toNat : Int) == 48) = false := by simpa using h48
              have hc : ¬ s[0] = 48 := fun e => h48 (by rw [e]; rfl)
              have HN := hid (HP2.out)
              rw [HSC.out, HG.out ⟨hB, by omega, by rw [HH.out]; exact fun h => hc (by simpa using h.2)⟩] at HN
              clear hB HB HG HHD HH hc h48
              simp only at HN
              cases hmay : Um.may (N : Int)
              · rw [hmay] at HN
                go_wp2_with (go_at_call 46; refine (rMay_any _ _).mono ?_; rintro e w' ⟨rfl, rfl⟩)
                go_ret2
                exact ⟨ret_pair HN.out, rfl⟩
              · rw [hmay] at HN
                go_wp2_with (go_at_call 46; refine (rMay_any _ _).mono ?_; rintro e w' ⟨rfl, rfl⟩)
                go_ret2
                exact ⟨ret_pair HN.out, rfl⟩
          · have hM2' : decide (1 < (M : Int)) = false := by simpa using hM2
            have HN := hid (HP2.out)
            rw [HSC.out, HG.out ⟨hB, by omega, fun h => by omega⟩] at HN
            clear hB HB HG HHD
            simp only at HN
            cases hmay : Um.may (N : Int)
            · rw [hmay] at HN
              go_wp2_with (go_at_call 46; refine (rMay_any _ _).mono ?_; rintro e w' ⟨rfl, rfl⟩)
              go_ret2
              exact ⟨ret_pair HN.out, rfl⟩
            · rw [hmay] at HN
              go_wp2_with (go_at_call 46; refine (rMay_any _ _).mono ?_; rintro e w' ⟨rfl, rfl⟩)
              go_ret2
              exact ⟨ret_pair HN.out, rfl⟩
      · have hB' : (B != 3) = true := by simp [hB]
        have HN : Hid (R = (0, 2)) := hid (by rw [HP2.out, HSC.out, HB.out (fun h => hB h.1)])
        clear HB HG HHD
        go_wp2
        go_ret2
        exact ⟨ret_pair HN.out, rfl⟩

set_option maxRecDepth 100000 in
set_option maxHeartbeats 4000000 in
theorem rRead_minus (s : ByteArray) (w : World) (hs : s.size ≤ 12) (h0 : 0 < s.size) (h45 : ((s[0].toNat : Int) == 45) = true) :
    Calls Tryz.prog 26 #[.string s] w fun e w' => e = .returned (.tuple #[.int .i64 (Um.parseR s.data.toList).1, .int .i64 (Um.parseR s.data.toList).2]) ∧ w' = w := by
  have hpre : Lib.hasPrefix s.data.toList [45] = true := by
    rw [pref_head s h0, beq_iff_eq]
    exact byte_is (k := 45) (by decide) (by simpa using h45)
  have hg1 : decide ((0 : Int) < (s.size : Int)) = true := by simp; omega
  have HP := hid (parse_minus (l := s.data.toList) (by simp; omega) hpre)
  clear hpre
  generalize hR : Um.parseR s.data.toList = R at *
  have HP2 : Hid (R = match Um.good (s.data.toList.drop 1) (Um.scan (s.data.toList.drop 1)) with | none => (0, 2) | some n => if n = 0 then (0, 2) else if Um.may (-(n : Int)) = true then (-(n : Int), 0) else (0, 1)) := by
    have h := HP.out
    
    exact h
  clear HP hR
  go_enter Tryz.func26, Tryz.ntmps26
  go_wp2
  go_loop [6, 7, 8, 9] (fun n m b i => ∃ k : Nat, 1 ≤ k ∧ k ≤ s.size ∧ i = .int .i64 k ∧ ∃ (N M : Nat) (B : Int), Hid (Um.scan ((s.data.toList.drop 1).take (k - 1)) = some (N, M, B)) ∧ n = .int .i64 N ∧ m = .int .i64 M ∧ b = .int .i64 B) (fun _ _ _ i => s.size - (intOf i).toNat)
  case atStart => exact ⟨1, by omega, by omega, rfl, 0, 0, -1, rfl, rfl, rfl, rfl⟩
  case round =>
    obtain ⟨k, hk0, hk, rfl, N, M, B, hsc, rfl, rfl, rfl⟩ := hrel
    have hbd := Um.scan_bound hsc.out (by simp; omega)
    obtain ⟨n1, n2, n3, n4⟩ := hbd
    by_cases hlt : k < s.size
    · have HSN := hid (piece_snoc s 1 k hk0 hlt)
      have HNO := hid (piece_none s 1 k hk0 hlt)
      by_cases h46 : (s[k].toNat : Int) = 46
      · have h46' : ((s[k].toNat : Int) == 46) = true := by simpa using h46
        have hc : s[k] = 46 := byte_is (by decide) h46
        by_cases hb : B < 0
        · have hb' : decide (B < 0) = true := by simpa using hb
          have HST : Hid (Um.scan ((s.data.toList.drop 1).take (k + 1 - 1)) = some (N, M, 0)) := hid (by rw [HSN.out, Um.scan_snoc, hsc.out]; exact step_point hc hb)
          clear hc h46 HSN HNO
          go_wp2
          go_round
          case rel => exact ⟨k + 1, by omega, by omega, by go_num, N, M, 0, HST, rfl, rfl, rfl⟩
          case measure => simp [intOf]; omega
        · have hb' : decide (B < 0) = false := by simpa using hb
          have HN : Hid (R = (0, 2)) := hid (by rw [HP2.out, HNO.out (by rw [hsc.out]; exact step_bad (fun h => hb h.2) (by rw [hc]; decide))]; rfl)
          have h48 : decide ((s[k].toNat : Int) < 48) = true := by simp; omega
          clear hc h46 HSN HNO
          go_wp2
          go_ret2
          exact ⟨ret_pair HN.out, rfl⟩
      · have h46' : ((s[k].toNat : Int) == 46) = false := by simpa using h46
        have hc : ¬ s[k] = 46 := fun e => h46 (by rw [e]; rfl)
        by_cases h48 : (s[k].toNat : Int) < 48
        · have h48' : decide ((s[k].toNat : Int) < 48) = true := by simpa using h48
          have HN : Hid (R = (0, 2)) := hid (by rw [HP2.out, HNO.out (by rw [hsc.out]; exact step_bad (fun h => hc h.1) (dig_no1 _ h48))]; rfl)
          clear hc h46 HSN HNO
          go_wp2
          go_ret2
          exact ⟨ret_pair HN.out, rfl⟩
        · have h48' : decide ((s[k].toNat : Int) < 48) = false := by simpa using h48
          by_cases h57 : 57 < (s[k].toNat : Int)
          · have h57' : decide (57 < (s[k].toNat : Int)) = true := by simpa using h57
            have HN : Hid (R = (0, 2)) := hid (by rw [HP2.out, HNO.out (by rw [hsc.out]; exact step_bad (fun h => hc h.1) (dig_no2 _ h57))]; rfl)
            clear hc h46 HSN HNO
            go_wp2
            go_ret2
            exact ⟨ret_pair HN.out, rfl⟩
          · have h57' : decide (57 < (s[k].toNat : Int)) = false := by simpa using h57
            have hdg := dig_yes s[k] (by omega) (by omega)
            by_cases hb : B < 0
            · have hb' : decide (B < 0) = true := by simpa using hb
              have HST : Hid (Um.scan ((s.data.toList.drop 1).take (k + 1 - 1)) = some (10 * N + (s[k].toNat - 48), M + 1, B)) := hid (by rw [HSN.out, Um.scan_snoc, hsc.out]; exact step_ahead hdg hb)
              clear hc h46 HSN HNO hdg
              go_wp2
              go_round
              case rel => exact ⟨k + 1, by omega, by omega, by go_num, _, _, _, HST, vint (by omega), vint (by omega), rfl⟩
              case measure => simp [intOf]; omega
            · have hb' : decide (B < 0) = false := by simpa using hb
              have HST : Hid (Um.scan ((s.data.toList.drop 1).take (k + 1 - 1)) = some (10 * N + (s[k].toNat - 48), M, B + 1)) := hid (by rw [HSN.out, Um.scan_snoc, hsc.out]; exact step_behind hdg hb)
              clear hc h46 HSN HNO hdg
              go_wp2
              go_round
              case rel => exact ⟨k + 1, by omega, by omega, by go_num, _, _, _, HST, vint (by omega), rfl, vint (by omega)⟩
              case measure => simp [intOf]; omega
    · obtain rfl : k = s.size := by omega
      have HSC : Hid (Um.scan (s.data.toList.drop 1) = some (N, M, B)) := hid (by have := hsc.out; rwa [piece_all] at this)
      have HB := hid (@good_bad (s.data.toList.drop 1) N M B)
      have HG := hid (@good_ok (s.data.toList.drop 1) N M B)
      have hml : M ≤ s.size - 1 := by
        rcases Um.scan_inv _ _ rfl N M B HSC.out with ⟨_, _, h, _⟩ | ⟨x, y, h, _, _, h2, _, _⟩
        · simp at h; omega
        · have := congrArg List.length h; simp at this; omega
      have HHD := fun h => hid (drop_head s 1 h)
      clear hsc
      by_cases hB : B = 3
      · have hB' : (B != 3) = false := by simp [hB]
        by_cases hM : (M : Int) < 1
        · have hM' : decide ((M : Int) < 1) = true := by simpa using hM
          have HN : Hid (R = (0, 2)) := hid (by rw [HP2.out, HSC.out, HB.out (by omega)])
          clear hB HB HG HHD
          go_wp2
          go_ret2
          exact ⟨ret_pair HN.out, rfl⟩
        · have hM' : decide ((M : Int) < 1) = false := by simpa using hM
          by_cases hM2 : 1 < (M : Int)
          · have hM2' : decide (1 < (M : Int)) = true := by simpa using hM2
            have hat : 1 < s.size := by omega
            have HH := HHD hat
            by_cases h48 : (s[1].toNat : Int) = 48
            · have h48' : ((s[1].toNat : Int) == 48) = true := by simpa using h48
              have hc : s[1] = 48 := byte_is (by decide) h48
              have HN : Hid (R = (0, 2)) := hid (by rw [HP2.out, HSC.out, HB.out (by rw [HH.out, hc]; exact fun h => h.2.2 ⟨by omega, rfl⟩)])
              clear hB HB HG HHD HH hc h48
              go_wp2
              go_ret2
              exact ⟨ret_pair HN.out, rfl⟩
            · have h48' : ((s[1].toNat : Int) == 48) = false := by simpa using h48
              have hc : ¬ s[1] = 48 := fun e => h48 (by rw [e]; rfl)
              have HN := hid (HP2.out)
              rw [HSC.out, HG.out ⟨hB, by omega, by rw [HH.out]; exact fun h => hc (by simpa using h.2)⟩] at HN
              clear hB HB HG HHD HH hc h48
              simp only at HN
              by_cases hN : N = 0
              · subst hN
                simp only [if_true] at HN
                go_wp2_with (go_at_call 46; refine (rMay_any _ _).mono ?_; rintro e w' ⟨rfl, rfl⟩)
                go_ret2
                exact ⟨ret_pair HN.out, rfl⟩
              · have hN' : ((N : Int) == 0) = false := by simpa using hN
                rw [if_neg hN] at HN
                cases hmay : Um.may (-(N : Int))
                · rw [hmay] at HN
                  go_wp2_with (go_at_call 46; refine (rMay_any _ _).mono ?_; rintro e w' ⟨rfl, rfl⟩)
                  go_ret2
                  exact ⟨ret_pair HN.out, rfl⟩
                · rw [hmay] at HN
                  go_wp2_with (go_at_call 46; refine (rMay_any _ _).mono ?_; rintro e w' ⟨rfl, rfl⟩)
                  go_ret2
                  exact ⟨ret_pair HN.out, rfl⟩
          · have hM2' : decide (1 < (M : Int)) = false := by simpa using hM2
            have HN := hid (HP2.out)
            rw [HSC.out, HG.out ⟨hB, by omega, fun h => by omega⟩] at HN
            clear hB HB HG HHD
            simp only at HN
            by_cases hN : N = 0
            · subst hN
              simp only [if_true] at HN
              go_wp2_with (go_at_call 46; refine (rMay_any _ _).mono ?_; rintro e w' ⟨rfl, rfl⟩)
              go_ret2
              exact ⟨ret_pair HN.out, rfl⟩
            · have hN' : ((N : Int) == 0) = false := by simpa using hN
              rw [if_neg hN] at HN
              cases hmay : Um.may (-(N : Int))
              · rw [hmay] at HN
                go_wp2_with (go_at_call 46; refine (rMay_any _ _).mono ?_; rintro e w' ⟨rfl, rfl⟩)
                go_ret2
                exact ⟨ret_pair HN.out, rfl⟩
              · rw [hmay] at HN
                go_wp2_with (go_at_call 46; refine (rMay_any _ _).mono ?_; rintro e w' ⟨rfl, rfl⟩)
                go_ret2
                exact ⟨ret_pair HN.out, rfl⟩
      · have hB' : (B != 3) = true := by simp [hB]
        have HN : Hid (R = (0, 2)) := hid (by rw [HP2.out, HSC.out, HB.out (fun h => hB h.1)])
        clear HB HG HHD
        go_wp2
        go_ret2
        exact ⟨ret_pair HN.out, rfl⟩

set_option maxHeartbeats 400000 in
theorem rRead_long (s : ByteArray) (w : World) (hs : s.size ≤ maxLen) (hl : 12 < s.size) :
    Calls Tryz.prog 26 #[.string s] w fun e w' => e = .returned (.tuple #[.int .i64 (Um.parseR s.data.toList).1, .int .i64 (Um.parseR s.data.toList).2]) ∧ w' = w := by
  unfold maxLen at hs
  have HN := hid (parse_long (l := s.data.toList) (by simpa using hl))
  have hl' : decide ((12 : Int) < (s.size : Int)) = true := by simp; omega
  go_enter Tryz.func26, Tryz.ntmps26
  go_wp2
  go_ret2
  exact ⟨ret_pair HN.out, rfl⟩
theorem rRead_any (s : ByteArray) (w : World) (hs : s.size ≤ maxLen) :
    Calls Tryz.prog 26 #[.string s] w fun e w' => e = .returned (.tuple #[.int .i64 (Um.parseR s.data.toList).1, .int .i64 (Um.parseR s.data.toList).2]) ∧ w' = w := by
  by_cases hl : 12 < s.size
  · exact rRead_long s w hs hl
  · rcases Nat.eq_zero_or_pos s.size with h0 | h0
    · exact rRead_empty s w h0
    · cases h45 : ((s[0].toNat : Int) == 45)
      · exact rRead_plain s w (by omega) h0 h45
      · exact rRead_minus s w (by omega) h0 h45
end Go.Proofs.YtkfalmdckmlneaaGreatDoor
