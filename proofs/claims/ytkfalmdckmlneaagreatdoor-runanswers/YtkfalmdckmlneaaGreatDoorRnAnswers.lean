/-
  The walk over 'spanlaw3.RunAnswers': for every text t it returns true.
-/
import Derived.Test.YtkfalmdckmlneaaGreatDoorRun
import Derived.Test.YtkfalmdckmlneaaGreatDoorRefLine
import Derived.LoopTactic
namespace Go.Proofs.YtkfalmdckmlneaaGreatDoor.RnAnswers
set_option linter.unusedSimpArgs false
open Go.RowKit

theorem last_none {t : List UInt8} (h : (Um.cutS 10 t).2 = []) : Um.linesR t = (Um.cutS 10 t).1 := by unfold Um.linesR; rw [if_pos h, List.append_nil]
theorem last_some {t : List UInt8} (h : ¬ (Um.cutS 10 t).2 = []) : Um.linesR t = Um.cutL 10 t := by unfold Um.linesR Um.cutL; rw [if_neg h]

set_option maxRecDepth 100000 in
set_option maxHeartbeats 16000000 in
theorem walk_long (t : ByteArray) (w : World) (hv : Hv w) (ht : t.size ≤ maxLen) (h : 3000 < t.size) :
    Calls Tryz.prog 3 #[.string t] w fun e w' => e = .returned (.bool true) ∧ Below w.heap.size w w' := by
  have HRU := hid (sess_any t w hv ht)
  have e1 : Um.sessR t.data.toList = Um.tooLong := if_pos (by simpa using h)
  rw [e1] at HRU
  obtain ⟨rt, hrt⟩ : ∃ rt : ByteArray, rt = ⟨Um.tooLong.toArray⟩ := ⟨_, rfl⟩
  rw [show strV Um.tooLong = .string rt from by rw [hrt]] at HRU
  have k1 : (rt.toList == [116, 111, 111, 32, 108, 111, 110, 103, 10]) = true := by rw [hrt, Lin.str_list]; rfl
  have k2 : decide ((3000 : Int) < (t.size : Int)) = true := decide_eq_true (by omega)
  clear e1 hrt h
  go_enter Tryz.func3, Tryz.ntmps3
  go_wp2_with fail
  refine HRU.out.mono ?_
  rintro e wn ⟨rfl, hB⟩
  clear HRU
  go_wp2
  go_returns
  exact ⟨rfl, hB⟩

set_option maxRecDepth 100000 in
set_option maxHeartbeats 16000000 in
theorem walk_none (t : ByteArray) (w : World) (hv : Hv w) (h : t.size ≤ 3000) (h0 : (Um.cutS 10 t.data.toList).2 = []) :
    Calls Tryz.prog 3 #[.string t] w fun e w' => e = .returned (.bool true) ∧ Below w.heap.size w w' := by
  have HRU := hid (sess_any t w hv (by unfold maxLen; omega))
  have hls : t.data.toList.length = t.size := by simp
  have e1 : Um.sessR t.data.toList = Um.ansR (Um.linesR t.data.toList) := if_neg (by rw [hls]; omega)
  rw [e1] at HRU
  have HCU := fun W => hid (rCut_any t 10 W (by omega))
  have k2 : decide ((3000 : Int) < (t.size : Int)) = false := decide_eq_false (by omega)
  have hlen := Um.cutL_length 10 t.data.toList
  have hsm := Um.cutL_small 10 t.data.toList
  rw [hls] at hlen hsm
  rw [last_none h0] at HRU
  have hcl : Um.cutL 10 t.data.toList = (Um.cutS 10 t.data.toList).1 ++ [[]] := by unfold Um.cutL; rw [h0]
  rw [hcl] at HCU hlen hsm
  generalize (Um.cutS 10 t.data.toList).1 = D at *
  obtain ⟨m, hm⟩ : ∃ m, m = D.length := ⟨_, rfl⟩
  have hpl : (D ++ [([] : List UInt8)]).length = m + 1 := by rw [List.length_append, hm]; rfl
  rw [hpl] at hlen
  have HPL := hid hpl
  have HMM := hid hm
  have HSM : Hid (∀ j, j < m → (D[j]?.getD []).length ≤ 3000) := hid (fun j hj => by
    rw [List.getElem?_eq_getElem (by rw [← hm]; exact hj)]
    exact Nat.le_trans (hsm _ (List.mem_append_left _ (List.getElem_mem _))) h)
  obtain ⟨rt, hrt⟩ : ∃ rt : ByteArray, rt = ⟨(Um.ansR D).toArray⟩ := ⟨_, rfl⟩
  rw [show strV (Um.ansR D) = .string rt from by rw [hrt]] at HRU
  have HAN : Hid (strV (Um.ansTo D m) = .string rt) := hid (by rw [hrt, hm]; rfl)
  clear e1 hls hsm hpl hm hrt hcl h0
  go_enter Tryz.func3, Tryz.ntmps3
  go_wp2_with fail
  refine HRU.out.mono ?_
  rintro e wn ⟨rfl, hB⟩
  clear HRU
  go_wp2_with fail
  refine (HCU _).out.mono ?_
  rintro e wc ⟨r, rfl, hr, hBn⟩
  obtain ⟨b, o, c, er, hcap, hlt0, hcs⟩ := hr.open (by simp)
  rw [HPL.out] at er hcap
  subst er
  have yL : wc.cell? ⟨b, o + m, none⟩ = some (.string ⟨#[]⟩) := by
    rw [hcs m (by rw [HPL.out]; omega), List.getElem?_append_right (by rw [← HMM.out]; exact Nat.le_refl _), HMM.out, Nat.sub_self]
    rfl
  have HCS0 : Hid (∀ j, j < m → wc.cell? ⟨b, o + j, none⟩ = some (strV (D[j]?.getD []))) := hid (fun j hj => by
    rw [hcs j (by rw [HPL.out]; omega), List.getElem?_append_left (by rw [← HMM.out]; exact hj)])
  clear hr hcs HCU HPL
  replace hB := hB.trans (hBn.mono hB.size)
  have hlt := hlt0
  clear hBn
  generalize wn = wz at *
  obtain ⟨wn, hwn⟩ : ∃ wn, wn = wc := ⟨_, rfl⟩
  subst hwn
  have HCS := HCS0
  have hBn := Below.refl wn.heap.size wn
  have q1 : ((m + 1 : Nat) : Int) - 1 = (m : Int) := by omega
  have q2 : (m : Int) < ((m + 1 : Nat) : Int) := by omega
  have q3 : (m : Int) ≤ (c : Int) := by omega
  have q4 : IntKind.i64.wrap (m : Int) = (m : Int) := by rw [IntKind.wrap_i64]; omega
  go_wp2
  go_loopw [5, 6, 7] (fun x i _ wq => ∃ k : Nat, k ≤ m ∧ i = .int .i64 k ∧ x = strV (Um.ansTo D k) ∧ Below wn.heap.size wn wq) (fun _ i _ _ => m - (intOf i).toNat)
  case atStart => exact ⟨0, Nat.zero_le _, rfl, rfl, hBn⟩
  case round =>
    obtain ⟨k, hk, rfl, rfl, hW⟩ := hrel
    have hal := Um.ans_length D k
    by_cases hkl : k < m
    · have hkk : (k : Int) < (m : Int) := by omega
      have y1 := (hW.cell (p := ⟨b, o + k, none⟩) hlt).trans (HCS.out k hkl)
      have HLN := fun W => hid (Lin.line_any ⟨(D[k]?.getD []).toArray⟩ W (by rw [str_size]; exact HSM.out k hkl))
      have hll := Um.line_length (D[k]?.getD [])
      have HJ : Hid (Um.ansTo D (k + 1) = Um.ansTo D k ++ Um.lineR (D[k]?.getD []) ++ [10]) := hid rfl
      rw [Lin.str_data] at HLN
      generalize D[k]?.getD [] = X at *
      generalize Um.lineR X = T at *
      generalize Um.ansTo D k = J at *
      have s1 : (⟨J.toArray⟩ : ByteArray).size = J.length := str_size J
      have s2 : (⟨T.toArray⟩ : ByteArray).size = T.length := str_size T
      have s3 : ((⟨J.toArray⟩ : ByteArray) ++ ⟨T.toArray⟩).size = J.length + T.length := by rw [str_join, str_size, List.length_append]
      have HE : Hid (strV (Um.ansTo D (k + 1)) = .string ((⟨J.toArray⟩ : ByteArray) ++ ⟨T.toArray⟩ ++ ⟨#[10]⟩)) := hid (by
        rw [HJ.out, show (⟨#[10]⟩ : ByteArray) = ⟨([10] : List UInt8).toArray⟩ from rfl, str_join, str_join])
      clear HJ
      go_wp2_with fail
      refine (HLN _).out.mono ?_
      rintro e wa ⟨rfl, hb⟩
      replace hW := hW.trans (hb.mono hW.size)
      clear hb HLN y1
      go_wp2
      exact ⟨⟨k + 1, hkl, by simp, HE.out.symm, hW⟩, by simp [intOf]; omega⟩
    · obtain rfl : k = m := by omega
      rw [HAN.out]
      clear hk hkl hal
      have kE : (rt.toList == rt.toList) = true := by simp
      go_wp2
      go_returns
      exact ⟨rfl, hB.trans (hW.mono hB.size)⟩

set_option maxRecDepth 100000 in
set_option maxHeartbeats 16000000 in
theorem walk_some (t : ByteArray) (w : World) (hv : Hv w) (h : t.size ≤ 3000) (h0 : ¬ (Um.cutS 10 t.data.toList).2 = []) :
    Calls Tryz.prog 3 #[.string t] w fun e w' => e = .returned (.bool true) ∧ Below w.heap.size w w' := by
  have HRU := hid (sess_any t w hv (by unfold maxLen; omega))
  have hls : t.data.toList.length = t.size := by simp
  have e1 : Um.sessR t.data.toList = Um.ansR (Um.linesR t.data.toList) := if_neg (by rw [hls]; omega)
  rw [e1] at HRU
  have HCU := fun W => hid (rCut_any t 10 W (by omega))
  have k2 : decide ((3000 : Int) < (t.size : Int)) = false := decide_eq_false (by omega)
  have hlen := Um.cutL_length 10 t.data.toList
  have hsm := Um.cutL_small 10 t.data.toList
  rw [hls] at hlen hsm
  rw [last_some h0] at HRU
  have hcl : Um.cutL 10 t.data.toList = (Um.cutS 10 t.data.toList).1 ++ [(Um.cutS 10 t.data.toList).2] := rfl
  obtain ⟨m, hm⟩ : ∃ m, m = (Um.cutS 10 t.data.toList).1.length := ⟨_, rfl⟩
  have hpl : (Um.cutL 10 t.data.toList).length = m + 1 := by rw [hcl, List.length_append, hm]; rfl
  have hla : (Um.cutL 10 t.data.toList)[m]?.getD [] = (Um.cutS 10 t.data.toList).2 := by rw [hcl, hm, List.getElem?_append_right (Nat.le_refl _), Nat.sub_self]; rfl
  rw [hpl] at hlen
  obtain ⟨lt, hlt2⟩ : ∃ lt : ByteArray, lt = ⟨((Um.cutS 10 t.data.toList).2).toArray⟩ := ⟨_, rfl⟩
  have kL : lt.toList.isEmpty = false := by
    rw [hlt2, Lin.str_list]
    cases h : (Um.cutS 10 t.data.toList).2 with
    | nil => exact absurd h h0
    | cons a l => rfl
  have HLL : Hid (strV ((Um.cutL 10 t.data.toList)[m]?.getD []) = .string lt) := hid (by rw [hla, hlt2])
  generalize Um.cutL 10 t.data.toList = D at *
  have HPL := hid hpl
  have HSM : Hid (∀ j, j < m + 1 → (D[j]?.getD []).length ≤ 3000) := hid (fun j hj => by
    rw [List.getElem?_eq_getElem (by rw [hpl]; exact hj)]
    exact Nat.le_trans (hsm _ (List.getElem_mem _)) h)
  obtain ⟨rt, hrt⟩ : ∃ rt : ByteArray, rt = ⟨(Um.ansR D).toArray⟩ := ⟨_, rfl⟩
  rw [show strV (Um.ansR D) = .string rt from by rw [hrt]] at HRU
  have HAN : Hid (strV (Um.ansTo D (m + 1)) = .string rt) := hid (by rw [hrt, ← hpl]; rfl)
  have hm3 : m ≤ 3000 := by omega
  clear e1 hls hsm hpl hm hrt hcl h0 hla hlt2
  go_enter Tryz.func3, Tryz.ntmps3
  go_wp2_with fail
  refine HRU.out.mono ?_
  rintro e wn ⟨rfl, hB⟩
  clear HRU
  go_wp2_with fail
  refine (HCU _).out.mono ?_
  rintro e wc ⟨r, rfl, hr, hBn⟩
  obtain ⟨b, o, c, er, hcap, hlt, hcs⟩ := hr.open (fun e => by have := HPL.out; rw [e] at this; simp at this)
  rw [HPL.out] at er hcap hcs
  subst er
  have yL : wc.cell? ⟨b, o + m, none⟩ = some (.string lt) := by rw [hcs m (by omega)]; exact congrArg some HLL.out
  have HCS := hid hcs
  clear hr hcs HCU HPL
  replace hB := hB.trans (hBn.mono hB.size)
  clear hBn
  generalize wn = wz at *
  obtain ⟨wn, hwn⟩ : ∃ wn, wn = wc := ⟨_, rfl⟩
  subst hwn
  have hBn := Below.refl wn.heap.size wn
  obtain ⟨M, hM⟩ : ∃ M, M = m + 1 := ⟨_, rfl⟩
  rw [← hM] at HSM HAN HCS hlen hcap ⊢
  have q1 : (M : Int) - 1 = (m : Int) := by omega
  have q2 : (m : Int) < (M : Int) := by omega
  have q4 : IntKind.i64.wrap (m : Int) = (m : Int) := by rw [IntKind.wrap_i64]; omega
  have hM3 : M ≤ 3001 := by omega
  clear hM
  go_wp2
  go_loopw [5, 6, 7] (fun x i _ wq => ∃ k : Nat, k ≤ M ∧ i = .int .i64 k ∧ x = strV (Um.ansTo D k) ∧ Below wn.heap.size wn wq) (fun _ i _ _ => M - (intOf i).toNat)
  case atStart => exact ⟨0, Nat.zero_le _, rfl, rfl, hBn⟩
  case round =>
    obtain ⟨k, hk, rfl, rfl, hW⟩ := hrel
    have hal := Um.ans_length D k
    by_cases hkl : k < M
    · have hkk : (k : Int) < (M : Int) := by omega
      have y1 := (hW.cell (p := ⟨b, o + k, none⟩) hlt).trans (HCS.out k hkl)
      have HLN := fun W => hid (Lin.line_any ⟨(D[k]?.getD []).toArray⟩ W (by rw [str_size]; exact HSM.out k hkl))
      have hll := Um.line_length (D[k]?.getD [])
      have HJ : Hid (Um.ansTo D (k + 1) = Um.ansTo D k ++ Um.lineR (D[k]?.getD []) ++ [10]) := hid rfl
      rw [Lin.str_data] at HLN
      generalize D[k]?.getD [] = X at *
      generalize Um.lineR X = T at *
      generalize Um.ansTo D k = J at *
      have s1 : (⟨J.toArray⟩ : ByteArray).size = J.length := str_size J
      have s2 : (⟨T.toArray⟩ : ByteArray).size = T.length := str_size T
      have s3 : ((⟨J.toArray⟩ : ByteArray) ++ ⟨T.toArray⟩).size = J.length + T.length := by rw [str_join, str_size, List.length_append]
      have HE : Hid (strV (Um.ansTo D (k + 1)) = .string ((⟨J.toArray⟩ : ByteArray) ++ ⟨T.toArray⟩ ++ ⟨#[10]⟩)) := hid (by
        rw [HJ.out, show (⟨#[10]⟩ : ByteArray) = ⟨([10] : List UInt8).toArray⟩ from rfl, str_join, str_join])
      clear HJ
      go_wp2_with fail
      refine (HLN _).out.mono ?_
      rintro e wa ⟨rfl, hb⟩
      replace hW := hW.trans (hb.mono hW.size)
      clear hb HLN y1
      go_wp2
      exact ⟨⟨k + 1, hkl, by simp, HE.out.symm, hW⟩, by simp [intOf]; omega⟩
    · obtain rfl : k = M := by omega
      rw [HAN.out]
      clear hk hkl hal
      have kE : (rt.toList == rt.toList) = true := by simp
      go_wp2
      go_returns
      exact ⟨rfl, hB.trans (hW.mono hB.size)⟩

theorem walk (t : ByteArray) (w : World) (hv : Hv w) (ht : t.size ≤ maxLen) :
    Calls Tryz.prog 3 #[.string t] w fun e w' => e = .returned (.bool true) ∧ Below w.heap.size w w' := by
  by_cases h : 3000 < t.size
  · exact walk_long t w hv ht h
  · by_cases h0 : (Um.cutS 10 t.data.toList).2 = []
    · exact walk_none t w hv (by omega) h0
    · exact walk_some t w hv (by omega) h0
end Go.Proofs.YtkfalmdckmlneaaGreatDoor.RnAnswers
