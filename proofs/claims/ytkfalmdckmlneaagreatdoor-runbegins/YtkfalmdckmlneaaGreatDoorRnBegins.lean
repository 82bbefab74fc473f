/-
  The walk over 'spanlaw3.RunBegins': for every text t and every int many it returns true.
-/
import Derived.Test.YtkfalmdckmlneaaGreatDoorRun
import Derived.Test.YtkfalmdckmlneaaGreatDoorRefLine
import Derived.Test.YtkfalmdckmlneaaGreatDoorZfact
import Derived.LoopTactic
namespace Go.Proofs.YtkfalmdckmlneaaGreatDoor.RnBegins
set_option linter.unusedSimpArgs false
open Go.RowKit

set_option maxRecDepth 1000000 in
theorem fact_run (w : World) (hv : Hv w) : Calls Tryz.prog 6 #[.string ⟨([97, 100, 100, 32, 49, 46, 48, 48, 48, 44, 50, 46, 48, 48, 48, 32, 48, 46, 53, 48, 48, 44, 48, 46, 53, 48, 48, 10, 116, 105, 109, 101, 115, 32, 45, 50, 46, 48, 48, 48, 44, 51, 46, 48, 48, 48, 32, 45, 49, 46, 48, 48, 48, 44, 52, 46, 48, 48, 48, 10, 98, 121, 32, 49, 46, 48, 48, 48, 44, 49, 46, 48, 48, 48, 32, 45, 49, 46, 48, 48, 48, 44, 49, 46, 48, 48, 48, 10, 102, 108, 121, 10, 112, 111, 119, 101, 114, 32, 45, 50, 46, 48, 48, 48, 44, 49, 46, 48, 48, 48, 32, 50, 10, 114, 97, 110, 103, 101, 32, 45, 50, 46, 48, 48, 48, 44, 49, 46, 48, 48, 48, 32, 48, 46, 48, 48, 48, 44, 56, 46, 48, 48, 48, 10, 110, 101, 119, 116, 111, 110, 32, 45, 50, 46, 48, 48, 48, 44, 49, 46, 48, 48, 48, 32, 48, 46, 48, 48, 48, 44, 56, 46, 48, 48, 48, 10, 109, 101, 101, 116, 32, 48, 46, 48, 48, 48, 44, 49, 46, 48, 48, 48, 32, 50, 46, 48, 48, 48, 44, 51, 46, 48, 48, 48, 10] : List UInt8).toArray⟩] w fun e w' => e = .returned (strV [49, 46, 53, 48, 48, 44, 50, 46, 53, 48, 48, 10, 45, 56, 46, 48, 48, 48, 44, 49, 50, 46, 48, 48, 48, 10, 69, 114, 114, 90, 101, 114, 111, 10, 98, 97, 100, 10, 48, 46, 48, 48, 48, 44, 52, 46, 48, 48, 48, 10, 45, 50, 46, 48, 48, 48, 44, 54, 46, 48, 48, 48, 10, 50, 46, 48, 48, 48, 44, 50, 46, 48, 48, 48, 10, 69, 114, 114, 78, 111, 110, 101, 10]) ∧ Below w.heap.size w w' := by
  have h := sess_any ⟨([97, 100, 100, 32, 49, 46, 48, 48, 48, 44, 50, 46, 48, 48, 48, 32, 48, 46, 53, 48, 48, 44, 48, 46, 53, 48, 48, 10, 116, 105, 109, 101, 115, 32, 45, 50, 46, 48, 48, 48, 44, 51, 46, 48, 48, 48, 32, 45, 49, 46, 48, 48, 48, 44, 52, 46, 48, 48, 48, 10, 98, 121, 32, 49, 46, 48, 48, 48, 44, 49, 46, 48, 48, 48, 32, 45, 49, 46, 48, 48, 48, 44, 49, 46, 48, 48, 48, 10, 102, 108, 121, 10, 112, 111, 119, 101, 114, 32, 45, 50, 46, 48, 48, 48, 44, 49, 46, 48, 48, 48, 32, 50, 10, 114, 97, 110, 103, 101, 32, 45, 50, 46, 48, 48, 48, 44, 49, 46, 48, 48, 48, 32, 48, 46, 48, 48, 48, 44, 56, 46, 48, 48, 48, 10, 110, 101, 119, 116, 111, 110, 32, 45, 50, 46, 48, 48, 48, 44, 49, 46, 48, 48, 48, 32, 48, 46, 48, 48, 48, 44, 56, 46, 48, 48, 48, 10, 109, 101, 101, 116, 32, 48, 46, 48, 48, 48, 44, 49, 46, 48, 48, 48, 32, 50, 46, 48, 48, 48, 44, 51, 46, 48, 48, 48, 10] : List UInt8).toArray⟩ w hv (by rw [str_size]; unfold maxLen; decide)
  rw [Lin.str_data, Um.sess_fact] at h
  exact h
/-- Of a beginning that ends with a line, or that is all. -/
theorem begins {t : List UInt8} {k : Nat} (h : t.length ≤ 3000) (hk : k = t.length ∨ (Um.cutS 10 (t.take k)).2 = []) : ∃ r, Um.sessR t = Um.sessR (t.take k) ++ r := by
  rcases hk with rfl | hk
  · exact ⟨[], by rw [List.take_length, List.append_nil]⟩
  · refine ⟨Um.ansR (Um.linesR (t.drop k)), ?_⟩
    have e := Um.sess_begins (x := t.take k) (y := t.drop k) hk (by rw [List.take_append_drop]; exact h)
    rw [List.take_append_drop] at e
    exact e

set_option maxRecDepth 1000000 in
set_option maxHeartbeats 32000000 in
theorem walk_long (t : ByteArray) (many : Int) (w : World) (hv : Hv w) (ht : t.size ≤ maxLen) (h : 3000 < t.size) :
    Calls Tryz.prog 4 #[.string t, .int .i64 many] w fun e w' => e = .returned (.bool true) ∧ Below w.heap.size w w' := by
  have e1 : Um.sessR t.data.toList = Um.tooLong := if_pos (by simpa using h)
  have HRU := fun W hv => hid (sess_any t W hv ht)
  rw [e1] at HRU
  obtain ⟨rt, hrt⟩ : ∃ rt : ByteArray, rt = ⟨Um.tooLong.toArray⟩ := ⟨_, rfl⟩
  rw [show strV Um.tooLong = .string rt from by rw [hrt]] at HRU
  have k1 : (rt.toList == [116, 111, 111, 32, 108, 111, 110, 103, 10]) = true := by rw [hrt, Lin.str_list]; rfl
  have k2 : decide ((3000 : Int) < (t.size : Int)) = true := decide_eq_true (by omega)
  clear e1 hrt h
  have HFC := fun W h => hid (fact_run W h)
  obtain ⟨ft, hft⟩ : ∃ ft : ByteArray, ft = ⟨([49, 46, 53, 48, 48, 44, 50, 46, 53, 48, 48, 10, 45, 56, 46, 48, 48, 48, 44, 49, 50, 46, 48, 48, 48, 10, 69, 114, 114, 90, 101, 114, 111, 10, 98, 97, 100, 10, 48, 46, 48, 48, 48, 44, 52, 46, 48, 48, 48, 10, 45, 50, 46, 48, 48, 48, 44, 54, 46, 48, 48, 48, 10, 50, 46, 48, 48, 48, 44, 50, 46, 48, 48, 48, 10, 69, 114, 114, 78, 111, 110, 101, 10] : List UInt8).toArray⟩ := ⟨_, rfl⟩
  rw [show strV [49, 46, 53, 48, 48, 44, 50, 46, 53, 48, 48, 10, 45, 56, 46, 48, 48, 48, 44, 49, 50, 46, 48, 48, 48, 10, 69, 114, 114, 90, 101, 114, 111, 10, 98, 97, 100, 10, 48, 46, 48, 48, 48, 44, 52, 46, 48, 48, 48, 10, 45, 50, 46, 48, 48, 48, 44, 54, 46, 48, 48, 48, 10, 50, 46, 48, 48, 48, 44, 50, 46, 48, 48, 48, 10, 69, 114, 114, 78, 111, 110, 101, 10] = .string ft from by rw [hft]] at HFC
  have kf : (ft.toList == [49, 46, 53, 48, 48, 44, 50, 46, 53, 48, 48, 10, 45, 56, 46, 48, 48, 48, 44, 49, 50, 46, 48, 48, 48, 10, 69, 114, 114, 90, 101, 114, 111, 10, 98, 97, 100, 10, 48, 46, 48, 48, 48, 44, 52, 46, 48, 48, 48, 10, 45, 50, 46, 48, 48, 48, 44, 54, 46, 48, 48, 48, 10, 50, 46, 48, 48, 48, 44, 50, 46, 48, 48, 48, 10, 69, 114, 114, 78, 111, 110, 101, 10]) = true := by rw [hft, Lin.str_list]; exact beq_self_eq_true _
  have kg : (ft.toList != [49, 46, 53, 48, 48, 44, 50, 46, 53, 48, 48, 10, 45, 56, 46, 48, 48, 48, 44, 49, 50, 46, 48, 48, 48, 10, 69, 114, 114, 90, 101, 114, 111, 10, 98, 97, 100, 10, 48, 46, 48, 48, 48, 44, 52, 46, 48, 48, 48, 10, 45, 50, 46, 48, 48, 48, 44, 54, 46, 48, 48, 48, 10, 50, 46, 48, 48, 48, 44, 50, 46, 48, 48, 48, 10, 69, 114, 114, 78, 111, 110, 101, 10]) = false := by rw [bne, kf]; rfl
  clear hft
  go_enter Tryz.func4, Tryz.ntmps4
  try dsimp only [List.append]
  go_wp2_with fail
  refine (HFC _ hv).out.mono ?_
  rintro e wn ⟨rfl, hB⟩
  replace hv := hv.step hB
  clear HFC
  go_wp2_with fail
  refine (HRU _ hv).out.mono ?_
  rintro e wa ⟨rfl, hb⟩
  go_wp2
  go_returns
  exact ⟨rfl, hB.trans (hb.mono hB.size)⟩

set_option maxRecDepth 1000000 in
set_option maxHeartbeats 32000000 in
theorem walk_short (t : ByteArray) (many : Int) (w : World) (hv : Hv w) (h : t.size ≤ 3000) :
    Calls Tryz.prog 4 #[.string t, .int .i64 many] w fun e w' => e = .returned (.bool true) ∧ Below w.heap.size w w' := by
  have hls : t.data.toList.length = t.size := by simp
  have k2 : decide ((3000 : Int) < (t.size : Int)) = false := decide_eq_false (by omega)
  have HFC := fun W h => hid (fact_run W h)
  obtain ⟨ft, hft⟩ : ∃ ft : ByteArray, ft = ⟨([49, 46, 53, 48, 48, 44, 50, 46, 53, 48, 48, 10, 45, 56, 46, 48, 48, 48, 44, 49, 50, 46, 48, 48, 48, 10, 69, 114, 114, 90, 101, 114, 111, 10, 98, 97, 100, 10, 48, 46, 48, 48, 48, 44, 52, 46, 48, 48, 48, 10, 45, 50, 46, 48, 48, 48, 44, 54, 46, 48, 48, 48, 10, 50, 46, 48, 48, 48, 44, 50, 46, 48, 48, 48, 10, 69, 114, 114, 78, 111, 110, 101, 10] : List UInt8).toArray⟩ := ⟨_, rfl⟩
  rw [show strV [49, 46, 53, 48, 48, 44, 50, 46, 53, 48, 48, 10, 45, 56, 46, 48, 48, 48, 44, 49, 50, 46, 48, 48, 48, 10, 69, 114, 114, 90, 101, 114, 111, 10, 98, 97, 100, 10, 48, 46, 48, 48, 48, 44, 52, 46, 48, 48, 48, 10, 45, 50, 46, 48, 48, 48, 44, 54, 46, 48, 48, 48, 10, 50, 46, 48, 48, 48, 44, 50, 46, 48, 48, 48, 10, 69, 114, 114, 78, 111, 110, 101, 10] = .string ft from by rw [hft]] at HFC
  have kf : (ft.toList == [49, 46, 53, 48, 48, 44, 50, 46, 53, 48, 48, 10, 45, 56, 46, 48, 48, 48, 44, 49, 50, 46, 48, 48, 48, 10, 69, 114, 114, 90, 101, 114, 111, 10, 98, 97, 100, 10, 48, 46, 48, 48, 48, 44, 52, 46, 48, 48, 48, 10, 45, 50, 46, 48, 48, 48, 44, 54, 46, 48, 48, 48, 10, 50, 46, 48, 48, 48, 44, 50, 46, 48, 48, 48, 10, 69, 114, 114, 78, 111, 110, 101, 10]) = true := by rw [hft, Lin.str_list]; exact beq_self_eq_true _
  have kg : (ft.toList != [49, 46, 53, 48, 48, 44, 50, 46, 53, 48, 48, 10, 45, 56, 46, 48, 48, 48, 44, 49, 50, 46, 48, 48, 48, 10, 69, 114, 114, 90, 101, 114, 111, 10, 98, 97, 100, 10, 48, 46, 48, 48, 48, 44, 52, 46, 48, 48, 48, 10, 45, 50, 46, 48, 48, 48, 44, 54, 46, 48, 48, 48, 10, 50, 46, 48, 48, 48, 44, 50, 46, 48, 48, 48, 10, 69, 114, 114, 78, 111, 110, 101, 10]) = false := by rw [bne, kf]; rfl
  clear hft
  go_enter Tryz.func4, Tryz.ntmps4
  try dsimp only [List.append]
  go_wp2_with fail
  refine (HFC _ hv).out.mono ?_
  rintro e wn ⟨rfl, hB⟩
  replace hv := hv.step hB
  clear HFC
  go_wp2
  go_loopw [7, 8] (fun x y wq => wq = wn ∧ ∃ k n : Nat, k ≤ t.size ∧ n ≤ k ∧ x = .int .i64 k ∧ y = .int .i64 n ∧ Hid ((n : Int) < many ∨ (Um.cutS 10 (t.data.toList.take k)).2 = [])) (fun x _ _ => t.size - (intOf x).toNat)
  case atStart => exact ⟨rfl, 0, 0, Nat.zero_le _, Nat.le_refl _, rfl, rfl, .inr rfl⟩
  case round =>
    obtain ⟨rfl, k, n, hk, hn, rfl, rfl, hor⟩ := hrel
    by_cases hkl : k < t.size
    · have d1 : decide ((k : Int) < (t.size : Int)) = true := decide_eq_true (by omega)
      have d2 : decide (k < t.size) = true := decide_eq_true hkl
      by_cases hnm : (n : Int) < many
      · have d3 : decide ((n : Int) < many) = true := decide_eq_true hnm
        by_cases hc : t[k] = 10
        · have k3 : ((t[k].toNat : Int) == 10) = true := by rw [hc]; rfl
          have HO : Hid (((n + 1 : Nat) : Int) < many ∨ (Um.cutS 10 (t.data.toList.take (k + 1))).2 = []) := hid (.inr (by rw [str_take t k hkl, Um.cutS_snoc, Um.cutStep_yes hc]))
          clear hor hc hnm
          go_wp2
          exact ⟨⟨trivial, k + 1, n + 1, hkl, by omega, by simp, by simp, HO⟩, by simp [intOf]; omega⟩
        · have k3 : ((t[k].toNat : Int) == 10) = false := by
            rw [show (10 : Int) = (((10 : UInt8).toNat : Nat) : Int) from rfl, byte_eq]; exact decide_eq_false hc
          have HO : Hid ((n : Int) < many ∨ (Um.cutS 10 (t.data.toList.take (k + 1))).2 = []) := hid (.inl hnm)
          clear hor hc hnm
          go_wp2
          exact ⟨⟨trivial, k + 1, n, hkl, by omega, by simp, rfl, HO⟩, by simp [intOf]; omega⟩
      · have d3 : decide ((n : Int) < many) = false := decide_eq_false hnm
        have HB2 := hid (begins (t := t.data.toList) (k := k) (by rw [hls]; exact h) (.inr (hor.out.resolve_left hnm)))
        clear hor hnm
        obtain ⟨rr, hrr⟩ := HB2.out
        have HR1 := fun W hv => hid (sess_any (t.extract 0 k) W hv (by rw [str_piece, str_size, List.length_drop, List.length_take]; unfold maxLen; omega))
        have HR2 := fun W hv => hid (sess_any t W hv (by unfold maxLen; omega))
        rw [show (t.extract 0 k).data.toList = t.data.toList.take k from by rw [str_piece, Lin.str_data, List.drop_zero]] at HR1
        rw [hrr] at HR2
        obtain ⟨A, hA⟩ : ∃ A : ByteArray, A = ⟨(Um.sessR (t.data.toList.take k)).toArray⟩ := ⟨_, rfl⟩
        obtain ⟨C, hC⟩ : ∃ C : ByteArray, C = ⟨(Um.sessR (t.data.toList.take k) ++ rr).toArray⟩ := ⟨_, rfl⟩
        rw [show strV (Um.sessR (t.data.toList.take k)) = .string A from by rw [hA]] at HR1
        rw [show strV (Um.sessR (t.data.toList.take k) ++ rr) = .string C from by rw [hC]] at HR2
        have hsz : A.size ≤ C.size := by rw [hA, hC, str_size, str_size, List.length_append]; omega
        have hex : C.extract 0 A.size = A := by
          rw [str_piece, hC, hA, Lin.str_data, str_size, List.drop_zero, List.take_left]
        have k5 : decide ((A.size : Int) ≤ (C.size : Int)) = true := decide_eq_true (by omega)
        have k6 : ((C.extract 0 A.size).toList == A.toList) = true := by rw [hex]; exact beq_self_eq_true _
        have k7 : (A.size : Int) ≤ (C.size : Int) := by omega
        have k8 : (k : Int) ≤ (t.size : Int) := by omega
        have HV := hid hv
        have HBB := hid hB
        clear hrr hA hC hex HB2 hv hB kf kg
        go_wp2_with fail
        refine (HR1 _ HV.out).out.mono ?_
        rintro e wa ⟨rfl, hb⟩
        have HV2 := hid (HV.out.step hb)
        have hB := HBB.out.trans (hb.mono HBB.out.size)
        clear hb HR1
        go_wp2_with fail
        refine (HR2 _ HV2.out).out.mono ?_
        rintro e wb ⟨rfl, hb⟩
        replace hB := hB.trans (hb.mono hB.size)
        clear hb HR2
        go_wp2
        go_returns
        exact ⟨rfl, hB⟩
    · have d1 : decide ((k : Int) < (t.size : Int)) = false := decide_eq_false (by omega)
      have d2 : decide (k < t.size) = false := decide_eq_false hkl
      have HB2 := hid (begins (t := t.data.toList) (k := k) (by rw [hls]; exact h) (.inl (by omega)))
      clear hor
      obtain ⟨rr, hrr⟩ := HB2.out
      have HR1 := fun W hv => hid (sess_any (t.extract 0 k) W hv (by rw [str_piece, str_size, List.length_drop, List.length_take]; unfold maxLen; omega))
      have HR2 := fun W hv => hid (sess_any t W hv (by unfold maxLen; omega))
      rw [show (t.extract 0 k).data.toList = t.data.toList.take k from by rw [str_piece, Lin.str_data, List.drop_zero]] at HR1
      rw [hrr] at HR2
      obtain ⟨A, hA⟩ : ∃ A : ByteArray, A = ⟨(Um.sessR (t.data.toList.take k)).toArray⟩ := ⟨_, rfl⟩
      obtain ⟨C, hC⟩ : ∃ C : ByteArray, C = ⟨(Um.sessR (t.data.toList.take k) ++ rr).toArray⟩ := ⟨_, rfl⟩
      rw [show strV (Um.sessR (t.data.toList.take k)) = .string A from by rw [hA]] at HR1
      rw [show strV (Um.sessR (t.data.toList.take k) ++ rr) = .string C from by rw [hC]] at HR2
      have hsz : A.size ≤ C.size := by rw [hA, hC, str_size, str_size, List.length_append]; omega
      have hex : C.extract 0 A.size = A := by
        rw [str_piece, hC, hA, Lin.str_data, str_size, List.drop_zero, List.take_left]
      have k5 : decide ((A.size : Int) ≤ (C.size : Int)) = true := decide_eq_true (by omega)
      have k6 : ((C.extract 0 A.size).toList == A.toList) = true := by rw [hex]; exact beq_self_eq_true _
      have k7 : (A.size : Int) ≤ (C.size : Int) := by omega
      have k8 : (k : Int) ≤ (t.size : Int) := by omega
      have HV := hid hv
      have HBB := hid hB
      clear hrr hA hC hex HB2 hv hB kf kg
      go_wp2_with fail
      refine (HR1 _ HV.out).out.mono ?_
      rintro e wa ⟨rfl, hb⟩
      have HV2 := hid (HV.out.step hb)
      have hB := HBB.out.trans (hb.mono HBB.out.size)
      clear hb HR1
      go_wp2_with fail
      refine (HR2 _ HV2.out).out.mono ?_
      rintro e wb ⟨rfl, hb⟩
      replace hB := hB.trans (hb.mono hB.size)
      clear hb HR2
      go_wp2
      go_returns
      exact ⟨rfl, hB⟩

theorem walk (t : ByteArray) (many : Int) (w : World) (hv : Hv w) (ht : t.size ≤ maxLen) :
    Calls Tryz.prog 4 #[.string t, .int .i64 many] w fun e w' => e = .returned (.bool true) ∧ Below w.heap.size w w' := by
  by_cases h : 3000 < t.size
  · exact walk_long t many w hv ht h
  · exact walk_short t many w hv (by omega)
end Go.Proofs.YtkfalmdckmlneaaGreatDoor.RnBegins
