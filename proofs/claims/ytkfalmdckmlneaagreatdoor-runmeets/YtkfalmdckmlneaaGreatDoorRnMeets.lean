/-
  The walk over 'spanlaw3.RunMeets': for all ints a, b, c, d it returns true.
-/
import Derived.Test.YtkfalmdckmlneaaGreatDoorRun
import Derived.Test.YtkfalmdckmlneaaGreatDoorRefLine
import Derived.Test.YtkfalmdckmlneaaGreatDoorZfact
namespace Go.Proofs.YtkfalmdckmlneaaGreatDoor.RnMeets
set_option linter.unusedSimpArgs false
open Go.RowKit

set_option maxRecDepth 1000000 in
theorem turned_run (w : World) (hv : Hv w) : Calls Tryz.prog 6 #[.string ⟨([109, 101, 101, 116, 32, 48, 46, 48, 48, 48, 44, 49, 46, 48, 48, 48, 32, 49, 46, 48, 48, 48, 44, 48, 46, 48, 48, 48, 10] : List UInt8).toArray⟩] w fun e w' => e = .returned (strV [98, 97, 100, 10]) ∧ Below w.heap.size w w' := by
  have h := sess_any ⟨([109, 101, 101, 116, 32, 48, 46, 48, 48, 48, 44, 49, 46, 48, 48, 48, 32, 49, 46, 48, 48, 48, 44, 48, 46, 48, 48, 48, 10] : List UInt8).toArray⟩ w hv (by rw [str_size]; unfold maxLen; decide)
  rw [Lin.str_data, Um.sess_turned] at h
  exact h

set_option maxRecDepth 1000000 in
set_option maxHeartbeats 32000000 in
theorem walk_out (a b c d : Int) (w : World) (hv : Hv w) (h : a < 0 ∨ b < a ∨ c < b ∨ d < c ∨ 100000 < d) :
    Calls Tryz.prog 5 #[.int .i64 a, .int .i64 b, .int .i64 c, .int .i64 d] w fun e w' => e = .returned (.bool true) ∧ Below w.heap.size w w' := by
  have HTR := fun W h => hid (turned_run W h)
  obtain ⟨rt, hrt⟩ : ∃ rt : ByteArray, rt = ⟨([98, 97, 100, 10] : List UInt8).toArray⟩ := ⟨_, rfl⟩
  rw [show strV [98, 97, 100, 10] = .string rt from by rw [hrt]] at HTR
  have k1 : (rt.toList == [98, 97, 100, 10]) = true := by rw [hrt, Lin.str_list]; rfl
  clear hrt
  by_cases g0 : a < 0
  · have d0 : decide (a < 0) = true := decide_eq_true g0
    clear h
    go_enter Tryz.func5, Tryz.ntmps5
    go_wp2_with fail
    refine (HTR _ hv).out.mono ?_
    rintro e wn ⟨rfl, hB⟩
    go_wp2
    go_returns
    exact ⟨rfl, hB⟩
  · have d0 : decide (a < 0) = false := decide_eq_false g0
    by_cases g1 : b < a
    · have d1 : decide (b < a) = true := decide_eq_true g1
      clear h
      go_enter Tryz.func5, Tryz.ntmps5
      go_wp2_with fail
      refine (HTR _ hv).out.mono ?_
      rintro e wn ⟨rfl, hB⟩
      go_wp2
      go_returns
      exact ⟨rfl, hB⟩
    · have d1 : decide (b < a) = false := decide_eq_false g1
      by_cases g2 : c < b
      · have d2 : decide (c < b) = true := decide_eq_true g2
        clear h
        go_enter Tryz.func5, Tryz.ntmps5
        go_wp2_with fail
        refine (HTR _ hv).out.mono ?_
        rintro e wn ⟨rfl, hB⟩
        go_wp2
        go_returns
        exact ⟨rfl, hB⟩
      · have d2 : decide (c < b) = false := decide_eq_false g2
        by_cases g3 : d < c
        · have d3 : decide (d < c) = true := decide_eq_true g3
          clear h
          go_enter Tryz.func5, Tryz.ntmps5
          go_wp2_with fail
          refine (HTR _ hv).out.mono ?_
          rintro e wn ⟨rfl, hB⟩
          go_wp2
          go_returns
          exact ⟨rfl, hB⟩
        · have d3 : decide (d < c) = false := decide_eq_false g3
          have d4 : decide (100000 < d) = true := decide_eq_true (by omega)
          clear h
          go_enter Tryz.func5, Tryz.ntmps5
          go_wp2_with fail
          refine (HTR _ hv).out.mono ?_
          rintro e wn ⟨rfl, hB⟩
          go_wp2
          go_returns
          exact ⟨rfl, hB⟩

set_option maxRecDepth 1000000 in
set_option maxHeartbeats 32000000 in
theorem walk_in (a b c d : Int) (w : World) (hv : Hv w) (h1 : 0 ≤ a) (h2 : a ≤ b) (h3 : b ≤ c) (h4 : c ≤ d) (h5 : d ≤ 100000) :
    Calls Tryz.prog 5 #[.int .i64 a, .int .i64 b, .int .i64 c, .int .i64 d] w fun e w' => e = .returned (.bool true) ∧ Below w.heap.size w w' := by
  have mk : ∀ n : Int, 0 ≤ n → n ≤ 100000 → Um.may n = true := fun n p q => (Um.may_iff n).2 (by omega)
  have HX := fun W => hid (rTxt_any a c W (mk a h1 (by omega)) (mk c (by omega) (by omega)))
  have HY := fun W => hid (rTxt_any b d W (mk b (by omega) (by omega)) (mk d (by omega) (by omega)))
  have HM := fun W => hid (rTxt_any b c W (mk b (by omega) (by omega)) (mk c (by omega) (by omega)))
  have HH := fun W => hid (rTxt_any a d W (mk a h1 (by omega)) (mk d (by omega) (by omega)))
  have lx := Um.text_length (s := (a, c)) (mk a h1 (by omega)) (mk c (by omega) (by omega))
  have ly := Um.text_length (s := (b, d)) (mk b (by omega) (by omega)) (mk d (by omega) (by omega))
  have lm := Um.text_length (s := (b, c)) (mk b (by omega) (by omega)) (mk c (by omega) (by omega))
  have lh := Um.text_length (s := (a, d)) (mk a h1 (by omega)) (mk d (by omega) (by omega))
  have hse := Um.sess_meets h1 h2 h3 h4 h5
  have d0 : decide (a < 0) = false := decide_eq_false (by omega)
  have d1 : decide (b < a) = false := decide_eq_false (by omega)
  have d2 : decide (c < b) = false := decide_eq_false (by omega)
  have d3 : decide (d < c) = false := decide_eq_false (by omega)
  have d4 : decide (100000 < d) = false := decide_eq_false (by omega)
  clear mk h1 h2 h3 h4 h5
  generalize Um.textR (a, c) = X at *
  generalize Um.textR (b, d) = Y at *
  generalize Um.textR (b, c) = M at *
  generalize Um.textR (a, d) = H at *
  have es : ((((((((⟨#[109, 101, 101, 116, 32]⟩ ++ ⟨X.toArray⟩) ++ ⟨#[32]⟩) ++ ⟨Y.toArray⟩) ++ ⟨#[10, 104, 117, 108, 108, 32]⟩) ++ ⟨X.toArray⟩) ++ ⟨#[32]⟩) ++ ⟨Y.toArray⟩) ++ ⟨#[10]⟩ : ByteArray) = ⟨(Um.wMeet ++ 32 :: (X ++ 32 :: Y) ++ 10 :: (Um.wHull ++ 32 :: (X ++ 32 :: Y) ++ [10])).toArray⟩ := by
    rw [show (⟨#[109, 101, 101, 116, 32]⟩ : ByteArray) = ⟨([109, 101, 101, 116, 32] : List UInt8).toArray⟩ from rfl, show (⟨#[32]⟩ : ByteArray) = ⟨([32] : List UInt8).toArray⟩ from rfl, show (⟨#[10, 104, 117, 108, 108, 32]⟩ : ByteArray) = ⟨([10, 104, 117, 108, 108, 32] : List UInt8).toArray⟩ from rfl, show (⟨#[10]⟩ : ByteArray) = ⟨([10] : List UInt8).toArray⟩ from rfl]
    simp only [str_join]
    simp
  obtain ⟨st, hst⟩ : ∃ st : ByteArray, st = ⟨(M ++ [10] ++ H ++ [10]).toArray⟩ := ⟨_, rfl⟩
  have em : (((⟨M.toArray⟩ ++ ⟨#[10]⟩) ++ ⟨H.toArray⟩) ++ ⟨#[10]⟩ : ByteArray) = st := by
    rw [hst, show (⟨#[10]⟩ : ByteArray) = ⟨([10] : List UInt8).toArray⟩ from rfl]
    simp only [str_join]
  have hzl : (Um.wMeet ++ 32 :: (X ++ 32 :: Y) ++ 10 :: (Um.wHull ++ 32 :: (X ++ 32 :: Y) ++ [10])).length ≤ 200 := by
    simp only [List.length_append, List.length_cons, List.length_nil]; omega
  have HRU := fun W hv => hid (show Calls Tryz.prog 6 #[.string ((((((((⟨#[109, 101, 101, 116, 32]⟩ ++ ⟨X.toArray⟩) ++ ⟨#[32]⟩) ++ ⟨Y.toArray⟩) ++ ⟨#[10, 104, 117, 108, 108, 32]⟩) ++ ⟨X.toArray⟩) ++ ⟨#[32]⟩) ++ ⟨Y.toArray⟩) ++ ⟨#[10]⟩)] W fun e w' => e = .returned (.string st) ∧ Below W.heap.size W w' from by
    have h := sess_any ((((((((⟨#[109, 101, 101, 116, 32]⟩ ++ ⟨X.toArray⟩) ++ ⟨#[32]⟩) ++ ⟨Y.toArray⟩) ++ ⟨#[10, 104, 117, 108, 108, 32]⟩) ++ ⟨X.toArray⟩) ++ ⟨#[32]⟩) ++ ⟨Y.toArray⟩) ++ ⟨#[10]⟩) W hv (by rw [es, str_size]; unfold maxLen; omega)
    rw [show ((((((((⟨#[109, 101, 101, 116, 32]⟩ ++ ⟨X.toArray⟩) ++ ⟨#[32]⟩) ++ ⟨Y.toArray⟩) ++ ⟨#[10, 104, 117, 108, 108, 32]⟩) ++ ⟨X.toArray⟩) ++ ⟨#[32]⟩) ++ ⟨Y.toArray⟩) ++ ⟨#[10]⟩ : ByteArray).data.toList = Um.wMeet ++ 32 :: (X ++ 32 :: Y) ++ 10 :: (Um.wHull ++ 32 :: (X ++ 32 :: Y) ++ [10]) from by rw [es, Lin.str_data], hse] at h
    rw [hst]
    exact h)
  have sx : (⟨X.toArray⟩ : ByteArray).size = X.length := str_size X
  have sy : (⟨Y.toArray⟩ : ByteArray).size = Y.length := str_size Y
  have sm : (⟨M.toArray⟩ : ByteArray).size = M.length := str_size M
  have sh : (⟨H.toArray⟩ : ByteArray).size = H.length := str_size H
  have HEM := hid em
  clear es hst em hzl hse
  go_enter Tryz.func5, Tryz.ntmps5
  go_wp2_with fail
  refine (HX _).out.mono ?_
  rintro e wa ⟨rfl, hB⟩
  go_wp2_with fail
  refine (HY _).out.mono ?_
  rintro e wb ⟨rfl, hb⟩
  replace hB := hB.trans (hb.mono hB.size)
  clear hb HX HY
  have HV := hid (hv.step hB)
  go_wp2_with fail
  refine (HRU _ HV.out).out.mono ?_
  rintro e wc ⟨rfl, hb⟩
  replace hB := hB.trans (hb.mono hB.size)
  clear hb HRU
  go_wp2_with fail
  refine (HM _).out.mono ?_
  rintro e wd ⟨rfl, hb⟩
  replace hB := hB.trans (hb.mono hB.size)
  clear hb HM
  go_wp2_with fail
  refine (HH _).out.mono ?_
  rintro e we ⟨rfl, hb⟩
  replace hB := hB.trans (hb.mono hB.size)
  clear hb HH
  have k9 : (st.toList == (((⟨M.toArray⟩ ++ ⟨#[10]⟩) ++ ⟨H.toArray⟩) ++ ⟨#[10]⟩ : ByteArray).toList) = true := by rw [HEM.out]; exact beq_self_eq_true _
  go_wp2
  go_returns
  exact ⟨rfl, hB⟩

theorem walk (a b c d : Int) (w : World) (hv : Hv w) :
    Calls Tryz.prog 5 #[.int .i64 a, .int .i64 b, .int .i64 c, .int .i64 d] w fun e w' => e = .returned (.bool true) ∧ Below w.heap.size w w' := by
  by_cases h : a < 0 ∨ b < a ∨ c < b ∨ d < c ∨ 100000 < d
  · exact walk_out a b c d w hv h
  · exact walk_in a b c d w hv (by omega) (by omega) (by omega) (by omega) (by omega)
end Go.Proofs.YtkfalmdckmlneaaGreatDoor.RnMeets
