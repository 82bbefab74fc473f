/-
  What the document's answer (package spanref2) to words and numbers of a line is.
-/
import Derived.Test.YtkfalmdckmlneaaGreatDoorLx
import Derived.Test.YtkfalmdckmlneaaGreatDoorTexts
import Derived.Test.YtkfalmdckmlneaaGreatDoorMems
import Derived.Test.YtkfalmdckmlneaaGreatDoorRefRead
import Derived.Test.YtkfalmdckmlneaaGreatDoorRefText
import Derived.Maps.AppendAt
import Derived.LoopTactic
namespace Go.Proofs.YtkfalmdckmlneaaGreatDoor
set_option linter.unusedSimpArgs false
open Go.RowKit

set_option maxRecDepth 100000 in
set_option maxHeartbeats 16000000 in
theorem rCut_any (s : ByteArray) (c : UInt8) (w : World) (hs : s.size ≤ 3000) :
    Calls Tryz.prog 7 #[.string s, .int .u8 (c.toNat : Int)] w fun e w' => ∃ r, e = .returned r ∧ Lx w'.heap.size w' r (Um.cutL c s.data.toList) ∧ Below w.heap.size w w' := by
  obtain ⟨i0, hi0, hz0, hz1, hz2⟩ := info_parts info_text
  go_enter Tryz.func7, Tryz.ntmps7
  go_wp2
  go_loopw [5, 6, 7] (fun u f i wq => ∃ k m : Nat, k ≤ s.size ∧ m ≤ k ∧ i = .int .i64 k ∧ f = .int .i64 m ∧ Hid ((s.data.toList.take k).drop m = (Um.cutS c (s.data.toList.take k)).2) ∧ wq.ownsRow w.heap.size 9 1 u (Um.cutS c (s.data.toList.take k)).1.length (strsV (Um.cutS c (s.data.toList.take k)).1) ∧ Below w.heap.size w wq) (fun _ _ i _ => s.size - (intOf i).toNat)
  case atStart => exact ⟨0, 0, Nat.zero_le _, Nat.le_refl _, rfl, rfl, rfl, World.ownsRow_nil _ _ _ _, Below.refl _ _⟩
  case round =>
    obtain ⟨k, m, hk, hm, rfl, rfl, hpc, ho, hB⟩ := hrel
    have hsz := hB.size
    have hlen : (Um.cutS c (s.data.toList.take k)).1.length ≤ 3000 := by
      have := Um.cutS_length c (s.data.toList.take k) [] []
      rw [List.length_take] at this
      simp only [List.length_nil, Nat.zero_add] at this
      unfold Um.cutS
      omega
    by_cases hkl : k < s.size
    · have hkk : (k : Int) < (s.size : Int) := by omega
      have hst : Um.cutS c (s.data.toList.take (k + 1)) = Um.cutStep c (Um.cutS c (s.data.toList.take k)) s[k] := by rw [str_take s k hkl, Um.cutS_snoc]
      by_cases hc : s[k] = c
      · have k1 : ((s[k].toNat : Int) == (c.toNat : Int)) = true := by rw [byte_eq]; exact decide_eq_true hc
        have HPC : Hid (s.extract m k = ⟨((Um.cutS c (s.data.toList.take k)).2).toArray⟩) := hid (by rw [str_piece, hpc.out])
        have HST : Hid (Um.cutS c (s.data.toList.take (k + 1)) = ((Um.cutS c (s.data.toList.take k)).1 ++ [(Um.cutS c (s.data.toList.take k)).2], [])) := hid (by rw [hst, Um.cutStep_yes hc])
        have HDR : Hid ((s.data.toList.take (k + 1)).drop (k + 1) = []) := hid (List.drop_of_length_le (by rw [List.length_take]; omega))
        have HO := hid ho
        clear hc hst hpc ho
        generalize hq : Um.cutS c (s.data.toList.take k) = q at *
        obtain ⟨N, hN⟩ : ∃ N, N = q.1.length := ⟨_, rfl⟩
        rw [← hN] at HO hlen
        have HN := hid hN
        obtain ⟨au, cu, eu⟩ := owns_slice HO.out
        subst eu
        clear hq hN
        go_wp2_with (at_builtin; refine wpList_append_own _ rfl _ _ 23 rfl w.heap.size 9 i0 (.string ⟨#[]⟩) 1 16 Tryz.underlying23 hi0 hz0 hz1 hz2 rfl (by decide) _ _ _ rfl (HO.out.alloc _) _ 1 1 [.string (s.extract m k)] rfl rfl (cell_one_new _ _ _) (by simp [Value.oneCell']) (by unfold maxLen; omega) (by omega) (by simp; omega) ?_; intro v' w1 hown' hgrow _)
        refine ⟨⟨k + 1, k + 1, hkl, Nat.le_refl _, by simp, by simp, ?_, ?_, (hB.alloc hsz _).grown hgrow (by simp; omega) (fun j e => owns_from HO.out j e)⟩, by simp [intOf]; omega⟩
        · rw [HST.out]; exact HDR
        · rw [HST.out, List.length_append, ← HN.out]
          show w1.ownsRow _ _ _ _ (N + 1) (strsV (q.1 ++ [q.2]))
          unfold strsV
          rw [List.map_append]
          rw [HPC.out] at hown'
          exact hown'
      · have k1 : ((s[k].toNat : Int) == (c.toNat : Int)) = false := by rw [byte_eq]; exact decide_eq_false hc
        have HST : Hid (Um.cutS c (s.data.toList.take (k + 1)) = ((Um.cutS c (s.data.toList.take k)).1, (Um.cutS c (s.data.toList.take k)).2 ++ [s[k]])) := hid (by rw [hst, Um.cutStep_no hc])
        have HDR : Hid ((s.data.toList.take (k + 1)).drop m = (Um.cutS c (s.data.toList.take k)).2 ++ [s[k]]) := hid (by rw [str_take s k hkl, List.drop_append_of_le_length (by rw [List.length_take]; simp; omega), hpc.out])
        clear hc hst hpc
        generalize hq : Um.cutS c (s.data.toList.take k) = q at *
        obtain ⟨au, cu, eu⟩ := owns_slice ho
        subst eu
        clear hq
        have HO := hid ho
        clear ho
        go_wp2
        refine ⟨⟨k + 1, m, hkl, by omega, by simp, rfl, ?_, ?_, hB⟩, by simp [intOf]; omega⟩
        · rw [HST.out]; exact HDR
        · rw [HST.out]; exact HO.out
    · obtain rfl : k = s.size := by omega
      have HPC : Hid (s.extract m s.size = ⟨((Um.cutS c s.data.toList).2).toArray⟩) := hid (by rw [str_piece, hpc.out, str_all])
      rw [str_all] at ho hlen
      have HO := hid ho
      have HR : Hid (Um.cutL c s.data.toList = (Um.cutS c s.data.toList).1 ++ [(Um.cutS c s.data.toList).2]) := hid rfl
      clear hpc ho
      generalize hq : Um.cutS c s.data.toList = q at *
      obtain ⟨N, hN⟩ : ∃ N, N = q.1.length := ⟨_, rfl⟩
      rw [← hN] at HO hlen
      have HN := hid hN
      obtain ⟨au, cu, eu⟩ := owns_slice HO.out
      subst eu
      clear hq hN
      go_wp2_with (at_builtin; refine wpList_append_own _ rfl _ _ 23 rfl w.heap.size 9 i0 (.string ⟨#[]⟩) 1 16 Tryz.underlying23 hi0 hz0 hz1 hz2 rfl (by decide) _ _ _ rfl (HO.out.alloc _) _ 1 1 [.string (s.extract m s.size)] rfl rfl (cell_one_new _ _ _) (by simp [Value.oneCell']) (by unfold maxLen; omega) (by omega) (by simp; omega) ?_; intro v' w1 hown' hgrow _)
      go_returns
      refine ⟨v', rfl, ?_, (hB.alloc hsz _).grown hgrow (by simp; omega) (fun j e => owns_from HO.out j e)⟩
      rw [HR.out]
      refine lx_owns (base := w.heap.size) (E := 9) ?_
      rw [List.length_append, ← HN.out]
      show w1.ownsRow _ _ _ _ (N + 1) (strsV (q.1 ++ [q.2]))
      unfold strsV
      rw [List.map_append]
      rw [HPC.out] at hown'
      exact hown'

theorem nums_take (l : List UInt8) {k : Nat} (h : k < (Um.cutL 44 l).length) : (Um.numsL l).take (k + 1) = (Um.numsL l).take k ++ [(Um.parseR ((Um.cutL 44 l)[k]?.getD [])).1] := by
  unfold Um.numsL
  rw [List.take_add_one, List.getElem?_map, List.getElem?_eq_getElem h]
  rfl
theorem nums_no {l : List UInt8} {k : Nat} (h : k < (Um.cutL 44 l).length) (hb : ¬ (Um.parseR ((Um.cutL 44 l)[k]?.getD [])).2 = 0) : Um.numsOk l = false := by
  unfold Um.numsOk
  rw [List.all_eq_false]
  refine ⟨(Um.cutL 44 l)[k], List.getElem_mem h, ?_⟩
  rw [List.getElem?_eq_getElem h] at hb
  simpa using hb
theorem nums_yes {l : List UInt8} (h : ∀ k, k < (Um.cutL 44 l).length → (Um.parseR ((Um.cutL 44 l)[k]?.getD [])).2 = 0) : Um.numsOk l = true := by
  unfold Um.numsOk
  rw [List.all_eq_true]
  intro x hx
  obtain ⟨k, hk, rfl⟩ := List.getElem_of_mem hx
  have := h k hk
  rw [List.getElem?_eq_getElem hk] at this
  simpa using this
theorem nums_length (l : List UInt8) : (Um.numsL l).length = (Um.cutL 44 l).length := by unfold Um.numsL; rw [List.length_map]
/-- What is told of a word: its numbers, or none. -/
abbrev numsA (l : List UInt8) : List Int := if Um.numsOk l = true then Um.numsL l else []

set_option maxRecDepth 100000 in
set_option maxHeartbeats 16000000 in
theorem rNums_any (s : ByteArray) (w : World) (hs : s.size ≤ 3000) :
    Calls Tryz.prog 25 #[.string s] w fun e w' => ∃ r, e = .returned (.tuple #[r, .bool (Um.numsOk s.data.toList)]) ∧ Li w'.heap.size w' r (numsA s.data.toList) ∧ Below w.heap.size w w' := by
  obtain ⟨i0, hi0, hz0, hz1, hz2⟩ := info_parts info_int
  have HCU := hid (rCut_any s 44 w hs)
  have HCL := hid (Um.cutL_length 44 s.data.toList)
  have HCP := hid (Um.cutL_pos 44 s.data.toList)
  have HSM := hid (Um.cutL_small 44 s.data.toList)
  have hsl : s.data.toList.length = s.size := by simp
  rw [hsl] at HCL HSM
  clear hsl
  go_enter Tryz.func25, Tryz.ntmps25
  go_wp2_with fail
  refine HCU.out.mono ?_
  rintro e wn ⟨r, rfl, hr, hB0⟩
  obtain ⟨b5, o5, c5, e5, -, l5, n5⟩ := hr.open (fun e => by have := HCP.out; rw [e] at this; exact absurd this (by decide))
  obtain ⟨D, hD⟩ : ∃ D, D = (Um.cutL 44 s.data.toList).length := ⟨_, rfl⟩
  rw [← hD] at e5 n5
  subst e5
  have HN5 := hid n5
  have HD := hid hD
  have hD2 : D ≤ 3001 := by rw [hD]; have := HCL.out; omega
  clear hr n5 HCU hD
  go_wp2
  go_loopw [5, 6] (fun u i wq => ∃ k : Nat, k ≤ D ∧ i = .int .i64 k ∧ wq.ownsRow wn.heap.size 3 1 u k (((Um.numsL s.data.toList).take k).map (Value.int .i64)) ∧ Hid (∀ j, j < k → (Um.parseR ((Um.cutL 44 s.data.toList)[j]?.getD [])).2 = 0) ∧ Below wn.heap.size wn wq) (fun _ i _ => D - (intOf i).toNat)
  case atStart => exact ⟨0, Nat.zero_le _, rfl, World.ownsRow_nil _ _ _ _, fun j hj => absurd hj (Nat.not_lt_zero _), Below.refl _ _⟩
  case round =>
    obtain ⟨k, hk, rfl, ho, hall, hB⟩ := hrel
    have hsz := hB.size
    by_cases hkl : k < D
    · have hkk : (k : Int) < (D : Int) := by omega
      have y5 := (hB.cell (p := ⟨b5, o5 + k, none⟩) l5).trans (HN5.out k hkl)
      have hk2 : k < (Um.cutL 44 s.data.toList).length := by rw [← HD.out]; exact hkl
      have hlen : ((Um.cutL 44 s.data.toList)[k]?.getD []).length ≤ 3000 := by
        rw [List.getElem?_eq_getElem hk2]
        have := HSM.out _ (List.getElem_mem hk2)
        simp only [Option.getD_some]
        omega
      have HRD := fun W => hid (rRead_any ⟨((Um.cutL 44 s.data.toList)[k]?.getD []).toArray⟩ W (by rw [str_size]; unfold maxLen; omega))
      have HTK := hid (nums_take s.data.toList hk2)
      have HNO := fun h => hid (nums_no (l := s.data.toList) hk2 h)
      have HNX : Hid ((Um.parseR ((Um.cutL 44 s.data.toList)[k]?.getD [])).2 = 0 → ∀ j, j < k + 1 → (Um.parseR ((Um.cutL 44 s.data.toList)[j]?.getD [])).2 = 0) := hid (fun h j hj => by
        rcases (by omega : j < k ∨ j = k) with q | rfl
        · exact hall.out j q
        · exact h)
      have HO := hid ho
      obtain ⟨au, cu, eu⟩ := owns_slice ho
      subst eu
      clear hall ho hk2
      have e8 : (⟨((Um.cutL 44 s.data.toList)[k]?.getD []).toArray⟩ : ByteArray).data.toList = (Um.cutL 44 s.data.toList)[k]?.getD [] := by simp
      rw [e8] at HRD
      clear e8
      generalize hx : Um.parseR ((Um.cutL 44 s.data.toList)[k]?.getD []) = x at *
      generalize (Um.cutL 44 s.data.toList)[k]?.getD [] = q at *
      clear hx
      by_cases h0 : x.2 = 0
      · have k1 : (x.2 != 0) = false := by simpa using h0
        have HN2 := hid (HNX.out h0)
        clear HNO HNX h0
        go_wp2_with fail
        refine (HRD _).out.mono ?_
        rintro e wk ⟨rfl, hq⟩
        subst wk
        go_wp2_with (at_builtin; refine wpList_append_own _ rfl _ _ 52 rfl wn.heap.size 3 i0 (.int .i64 0) 1 8 Tryz.underlying52 hi0 hz0 hz1 hz2 rfl (by decide) _ _ _ rfl (HO.out.alloc _) _ 1 1 [.int .i64 x.1] rfl rfl (cell_one_new _ _ _) (by simp [Value.oneCell']) (by unfold maxLen; omega) (by omega) (by simp; omega) ?_; intro v' w1 hown' hgrow _)
        refine ⟨⟨k + 1, hkl, by simp, ?_, HN2, (hB.alloc hsz _).grown hgrow (by simp; omega) (fun j e => owns_from HO.out j e)⟩, by simp [intOf]; omega⟩
        rw [HTK.out, List.map_append]
        exact hown'
      · have k1 : (x.2 != 0) = true := by simpa using h0
        have HN2 := HNO h0
        clear HNO HNX h0
        go_wp2_with fail
        refine (HRD _).out.mono ?_
        rintro e wk ⟨rfl, hq⟩
        subst wk
        go_wp2
        go_returns
        refine ⟨_, (by rw [HN2.out]; rfl), ?_, hB0.trans (hB.mono hB0.size)⟩
        unfold numsA
        rw [HN2.out]
        exact Li.nil _ _
    · obtain rfl : k = D := by omega
      have HY := hid (nums_yes (l := s.data.toList) (by rw [← HD.out]; exact hall.out))
      have HT : Hid ((Um.numsL s.data.toList).take k = Um.numsL s.data.toList) := hid (List.take_of_length_le (by rw [nums_length, ← HD.out]; exact Nat.le_refl _))
      have HLN : Hid ((Um.numsL s.data.toList).length = k) := hid (by rw [nums_length, ← HD.out])
      have HO := hid ho
      obtain ⟨au, cu, eu⟩ := owns_slice ho
      subst eu
      clear hall ho
      go_wp2
      go_returns
      refine ⟨_, (by rw [HY.out]; rfl), ?_, hB0.trans (hB.mono hB0.size)⟩
      unfold numsA
      rw [HY.out]
      refine li_owns (base := wn.heap.size) (E := 3) ?_
      have := HO.out
      rw [HT.out] at this
      show wr.ownsRow _ _ _ _ (Um.numsL s.data.toList).length _
      rw [HLN.out]
      exact this

/-- What is told of a word as a span. -/
abbrev spA (l : List UInt8) : Int × Int := if Um.spOk l = true then Um.spL l else (0, 0)
theorem sp_no1 {l : List UInt8} (h : Um.numsOk l = false) : Um.spOk l = false := by unfold Um.spOk; rw [h]; rfl
theorem sp_no2 {l : List UInt8} (h : ¬ (Um.numsL l).length = 2) : Um.spOk l = false := by unfold Um.spOk; rw [decide_eq_false (fun c => h c.1), Bool.and_false]
theorem sp_no3 {l : List UInt8} (h : ¬ (Um.spL l).1 ≤ (Um.spL l).2) : Um.spOk l = false := by unfold Um.spOk; rw [decide_eq_false (fun c => h c.2), Bool.and_false]
theorem sp_yes {l : List UInt8} (h1 : Um.numsOk l = true) (h2 : (Um.numsL l).length = 2) (h3 : (Um.spL l).1 ≤ (Um.spL l).2) : Um.spOk l = true := by unfold Um.spOk; rw [h1, decide_eq_true ⟨h2, h3⟩]; rfl

set_option maxRecDepth 100000 in
set_option maxHeartbeats 16000000 in
theorem rSp_any (s : ByteArray) (w : World) (hs : s.size ≤ 3000) :
    Calls Tryz.prog 15 #[.string s] w fun e w' => e = .returned (.tuple #[.agg #[.int .i64 (spA s.data.toList).1, .int .i64 (spA s.data.toList).2], .bool (Um.spOk s.data.toList)]) ∧ Below w.heap.size w w' := by
  have HNU := fun W => hid (rNums_any s W hs)
  have hF := (Fr.start w).push 0 0 rfl
  generalize s.data.toList = l at *
  by_cases h1 : Um.numsOk l = true
  · have HLA : Hid (numsA l = Um.numsL l) := hid (if_pos h1)
    rw [HLA.out, h1] at HNU
    by_cases h2 : (Um.numsL l).length = 2
    · have HV : Hid (Um.spL l = ((Um.numsL l)[0]?.getD 0, (Um.numsL l)[1]?.getD 0)) := hid rfl
      have HL2 := hid h2
      by_cases h3 : (Um.spL l).1 ≤ (Um.spL l).2
      · have HB := hid (sp_yes h1 h2 h3)
        have HA : Hid (spA l = Um.spL l) := hid (if_pos HB.out)
        have k3 : decide ((Um.spL l).2 < (Um.spL l).1) = false := decide_eq_false (by omega)
        clear h1 h2 h3 HLA
        generalize Um.spL l = V at *
        generalize Um.numsL l = q at *
        go_enter Tryz.func15, Tryz.ntmps15
        go_wp2_with fail
        refine (HNU _).out.mono ?_
        rintro e wn ⟨r, rfl, hr, hb⟩
        replace hF := hF.step hb
        clear hb HNU
        have y1 := (hF.at 0 rfl).fl
        have y2 := (hF.at 0 rfl).fh
        have y3 := (hF.at 0 rfl).lo
        have y4 := (hF.at 0 rfl).hi
        have y6 := fun n => ((hF.drewN n).at 0 rfl).r0
        have y7 := fun n => ((hF.drewN n).at 0 rfl).r1
        obtain ⟨b, off, cap, er, hlt, hcs⟩ := hr.out (fun e => by have := HL2.out; rw [e] at this; cases this)
        rw [HL2.out] at er
        subst er
        have c0 : wn.cell? ⟨b, off, none⟩ = some (.int .i64 V.1) := by rw [HV.out]; exact hcs 0 (by rw [HL2.out]; decide)
        have c1 : wn.cell? ⟨b, off + 1, none⟩ = some (.int .i64 V.2) := by rw [HV.out]; exact hcs 1 (by rw [HL2.out]; decide)
        clear hcs hr
        go_wp2
        go_quiet (fail)
        go_wp2
        go_region
        all_goals (go_wp2; refine bodyPost_ret (by simp [results, Tryz.results15, go_sem, y6, y7]; try rfl) rfl ?_; rw [HA.out, HB.out]; exact ⟨rfl, ((hF.drewN _).put 0 rfl _ _ rfl).below⟩)
      · have HB := hid (sp_no3 h3)
        have HA : Hid (spA l = (0, 0)) := hid (by unfold spA; rw [HB.out]; rfl)
        have k3 : decide ((Um.spL l).2 < (Um.spL l).1) = true := decide_eq_true (by omega)
        clear h1 h2 h3 HLA
        generalize Um.spL l = V at *
        generalize Um.numsL l = q at *
        go_enter Tryz.func15, Tryz.ntmps15
        go_wp2_with fail
        refine (HNU _).out.mono ?_
        rintro e wn ⟨r, rfl, hr, hb⟩
        replace hF := hF.step hb
        clear hb HNU
        have y1 := (hF.at 0 rfl).fl
        have y2 := (hF.at 0 rfl).fh
        have y3 := (hF.at 0 rfl).lo
        have y4 := (hF.at 0 rfl).hi
        have y6 := fun n => ((hF.drewN n).at 0 rfl).r0
        have y7 := fun n => ((hF.drewN n).at 0 rfl).r1
        obtain ⟨b, off, cap, er, hlt, hcs⟩ := hr.out (fun e => by have := HL2.out; rw [e] at this; cases this)
        rw [HL2.out] at er
        subst er
        have c0 : wn.cell? ⟨b, off, none⟩ = some (.int .i64 V.1) := by rw [HV.out]; exact hcs 0 (by rw [HL2.out]; decide)
        have c1 : wn.cell? ⟨b, off + 1, none⟩ = some (.int .i64 V.2) := by rw [HV.out]; exact hcs 1 (by rw [HL2.out]; decide)
        clear hcs hr
        go_wp2
        go_quiet (fail)
        go_wp2
        refine bodyPost_ret (by simp [results, Tryz.results15, go_sem, y6, y7]; try rfl) rfl ?_
        rw [HA.out, HB.out]
        exact ⟨rfl, ((hF.drewN _).put 0 rfl _ _ rfl).below⟩

    · have HB := hid (sp_no2 h2)
      have HA : Hid (spA l = (0, 0)) := hid (by unfold spA; rw [HB.out]; rfl)
      have k2 : (((Um.numsL l).length : Int) != 2) = true := by simp; omega
      clear h1 h2 HLA
      generalize Um.numsL l = q at *
      go_enter Tryz.func15, Tryz.ntmps15
      go_wp2_with fail
      refine (HNU _).out.mono ?_
      rintro e wn ⟨r, rfl, hr, hb⟩
      replace hF := hF.step hb
      clear hb HNU
      have y1 := (hF.at 0 rfl).fl
      have y2 := (hF.at 0 rfl).fh
      have y3 := (hF.at 0 rfl).lo
      have y4 := (hF.at 0 rfl).hi
      have y6 := fun n => ((hF.drewN n).at 0 rfl).r0
      have y7 := fun n => ((hF.drewN n).at 0 rfl).r1
      obtain ⟨a5, c5, e5, -⟩ := (id hr)
      generalize q.length = n5 at *
      subst e5
      clear hr
      go_wp2
      go_quiet (fail)
      go_wp2
      refine bodyPost_ret (by simp [results, Tryz.results15, go_sem, y6, y7]; try rfl) rfl ?_
      rw [HA.out, HB.out]
      exact ⟨rfl, ((hF.drewN _).put 0 rfl _ _ rfl).below⟩

  · replace h1 : Um.numsOk l = false := by simpa using h1
    have HB := hid (sp_no1 h1)
    have HA : Hid (spA l = (0, 0)) := hid (by unfold spA; rw [HB.out]; rfl)
    rw [h1] at HNU
    clear h1
    go_enter Tryz.func15, Tryz.ntmps15
    go_wp2_with fail
    refine (HNU _).out.mono ?_
    rintro e wn ⟨r, rfl, hr, hb⟩
    replace hF := hF.step hb
    clear hb HNU
    have y1 := (hF.at 0 rfl).fl
    have y2 := (hF.at 0 rfl).fh
    have y3 := (hF.at 0 rfl).lo
    have y4 := (hF.at 0 rfl).hi
    have y6 := fun n => ((hF.drewN n).at 0 rfl).r0
    have y7 := fun n => ((hF.drewN n).at 0 rfl).r1
    obtain ⟨a5, c5, e5, -⟩ := (id hr)
    generalize (numsA l).length = n5 at *
    subst e5
    clear hr
    go_wp2
    go_quiet (fail)
    go_wp2
    refine bodyPost_ret (by simp [results, Tryz.results15, go_sem, y6, y7]; try rfl) rfl ?_
    rw [HA.out, HB.out]
    exact ⟨rfl, ((hF.drewN _).put 0 rfl _ _ rfl).below⟩


set_option maxRecDepth 100000 in
set_option maxHeartbeats 8000000 in
theorem rTxt_any (lo hi : Int) (w : World) (h1 : Um.may lo = true) (h2 : Um.may hi = true) :
    Calls Tryz.prog 9 #[.agg #[.int .i64 lo, .int .i64 hi]] w fun e w' => e = .returned (strV (Um.textR (lo, hi))) ∧ Below w.heap.size w w' := by
  have H1 := fun W => hid (rText_any lo W h1)
  have H2 := fun W => hid (rText_any hi W h2)
  have l1 := Um.print_len h1
  have l2 := Um.print_len h2
  have HR : Hid (Um.textR (lo, hi) = Um.printR lo ++ [44] ++ Um.printR hi) := hid rfl
  clear h1 h2
  generalize Um.printR lo = a at *
  generalize Um.printR hi = b at *
  go_enter Tryz.func9, Tryz.ntmps9
  go_wp2_with fail
  refine (H1 _).out.mono ?_
  rintro e wn ⟨rfl, rfl⟩
  go_wp2_with fail
  refine (H2 _).out.mono ?_
  rintro e wn ⟨rfl, rfl⟩
  go_wp2
  go_returns
  refine ⟨?_, by go_grown⟩
  rw [HR.out]
  congr 1

set_option maxRecDepth 100000 in
set_option maxHeartbeats 8000000 in
theorem rName_any (e0 : Int) (w : World) (h1 : 0 ≤ e0) (h2 : e0 ≤ 8) :
    Calls Tryz.prog 23 #[.int .i64 e0] w fun e w' => e = .returned (strV (Um.nameR e0)) ∧ Below w.heap.size w w' := by
  rcases (by omega : e0 = 0 ∨ e0 = 1 ∨ e0 = 2 ∨ e0 = 3 ∨ e0 = 4 ∨ e0 = 5 ∨ e0 = 6 ∨ e0 = 7 ∨ e0 = 8) with rfl | rfl | rfl | rfl | rfl | rfl | rfl | rfl | rfl
  all_goals
    go_enter Tryz.func23, Tryz.ntmps23
    go_wp2
    go_returns
    exact ⟨rfl, by go_grown⟩

set_option maxRecDepth 100000 in
set_option maxHeartbeats 8000000 in
theorem rTold_any (r : Int × Int × Int) (w : World) (h1 : 0 ≤ r.2.2) (h2 : r.2.2 ≤ 8) (h3 : r.2.2 = 0 → Um.may r.1 = true ∧ Um.may r.2.1 = true) :
    Calls Tryz.prog 16 #[.agg #[.int .i64 r.1, .int .i64 r.2.1], .int .i64 r.2.2] w fun e w' => e = .returned (strV (Um.toldR r)) ∧ Below w.heap.size w w' := by
  obtain ⟨lo, hi, k⟩ := r
  simp only at h1 h2 h3
  by_cases h0 : k = 0
  · have k0 : (k != 0) = false := by simpa using h0
    have HT := fun W => hid (rTxt_any lo hi W (h3 h0).1 (h3 h0).2)
    have HR : Hid (Um.toldR (lo, hi, k) = Um.textR (lo, hi)) := hid (if_pos h0)
    clear h1 h2 h3 h0
    go_enter Tryz.func16, Tryz.ntmps16
    go_wp2_with fail
    refine (HT _).out.mono ?_
    rintro e wn ⟨rfl, hb⟩
    go_wp2
    go_returns
    rw [HR.out]
    exact ⟨rfl, (show Below w.heap.size w (w.alloc (.cells #[.int .i64 lo, .int .i64 hi] 29)) by go_grown).trans (hb.mono (by simp))⟩
  · have k0 : (k != 0) = true := by simpa using h0
    have HT := fun W => hid (rName_any k W h1 h2)
    have HR : Hid (Um.toldR (lo, hi, k) = Um.nameR k) := hid (if_neg h0)
    clear h1 h2 h3 h0
    go_enter Tryz.func16, Tryz.ntmps16
    go_wp2_with fail
    refine (HT _).out.mono ?_
    rintro e wn ⟨rfl, hb⟩
    go_wp2
    go_returns
    rw [HR.out]
    exact ⟨rfl, (show Below w.heap.size w (w.alloc (.cells #[.int .i64 lo, .int .i64 hi] 29)) by go_grown).trans (hb.mono (by simp))⟩
end Go.Proofs.YtkfalmdckmlneaaGreatDoor
