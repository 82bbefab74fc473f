/-
  Plain lists of bytes, no program: the sessions that stand in two laws, reckoned; a session that meets.
-/
import Derived.Test.YtkfalmdckmlneaaGreatDoorTexts
namespace Um
set_option linter.unusedSimpArgs false
open Go

set_option maxRecDepth 1000000 in
theorem sess_fact : sessR [97, 100, 100, 32, 49, 46, 48, 48, 48, 44, 50, 46, 48, 48, 48, 32, 48, 46, 53, 48, 48, 44, 48, 46, 53, 48, 48, 10, 116, 105, 109, 101, 115, 32, 45, 50, 46, 48, 48, 48, 44, 51, 46, 48, 48, 48, 32, 45, 49, 46, 48, 48, 48, 44, 52, 46, 48, 48, 48, 10, 98, 121, 32, 49, 46, 48, 48, 48, 44, 49, 46, 48, 48, 48, 32, 45, 49, 46, 48, 48, 48, 44, 49, 46, 48, 48, 48, 10, 102, 108, 121, 10, 112, 111, 119, 101, 114, 32, 45, 50, 46, 48, 48, 48, 44, 49, 46, 48, 48, 48, 32, 50, 10, 114, 97, 110, 103, 101, 32, 45, 50, 46, 48, 48, 48, 44, 49, 46, 48, 48, 48, 32, 48, 46, 48, 48, 48, 44, 56, 46, 48, 48, 48, 10, 110, 101, 119, 116, 111, 110, 32, 45, 50, 46, 48, 48, 48, 44, 49, 46, 48, 48, 48, 32, 48, 46, 48, 48, 48, 44, 56, 46, 48, 48, 48, 10, 109, 101, 101, 116, 32, 48, 46, 48, 48, 48, 44, 49, 46, 48, 48, 48, 32, 50, 46, 48, 48, 48, 44, 51, 46, 48, 48, 48, 10] = [49, 46, 53, 48, 48, 44, 50, 46, 53, 48, 48, 10, 45, 56, 46, 48, 48, 48, 44, 49, 50, 46, 48, 48, 48, 10, 69, 114, 114, 90, 101, 114, 111, 10, 98, 97, 100, 10, 48, 46, 48, 48, 48, 44, 52, 46, 48, 48, 48, 10, 45, 50, 46, 48, 48, 48, 44, 54, 46, 48, 48, 48, 10, 50, 46, 48, 48, 48, 44, 50, 46, 48, 48, 48, 10, 69, 114, 114, 78, 111, 110, 101, 10] := by decide +kernel
set_option maxRecDepth 1000000 in
theorem sess_turned : sessR [109, 101, 101, 116, 32, 48, 46, 48, 48, 48, 44, 49, 46, 48, 48, 48, 32, 49, 46, 48, 48, 48, 44, 48, 46, 48, 48, 48, 10] = [98, 97, 100, 10] := by decide +kernel
/-- The bytes of a number that is written. -/
theorem dec_bytes (n : Nat) : ∀ x ∈ Lib.decDigits n, 48 ≤ x.toNat ∧ x.toNat ≤ 57 := fun x hx => (isDig_iff x).1 (List.all_eq_true.1 (decDigits_digs n) x hx)
theorem wr_bytes (n : Nat) : ∀ x ∈ wr n, x = 46 ∨ 48 ≤ x.toNat ∧ x.toNat ≤ 57 := by
  intro x hx
  unfold wr at hx
  rw [List.mem_append, List.mem_append] at hx
  rcases hx with (h | h) | h
  · exact .inr (dec_bytes _ x h)
  · exact .inl (List.mem_singleton.1 h)
  · exact .inr (dec_bytes _ x (List.mem_of_mem_drop h))
theorem print_bytes (n : Int) : ∀ x ∈ printR n, x = 45 ∨ x = 46 ∨ 48 ≤ x.toNat ∧ x.toNat ≤ 57 := by
  intro x hx
  unfold printR at hx
  split at hx
  · rw [List.mem_append] at hx
    rcases hx with h | h
    · exact .inl (List.mem_singleton.1 h)
    · exact .inr (wr_bytes _ x h)
  · exact .inr (wr_bytes _ x hx)
theorem print_not (n : Int) {c : UInt8} (h1 : c ≠ 45) (h2 : c ≠ 46) (h3 : c.toNat < 48) : ∀ x ∈ printR n, x ≠ c := by
  intro x hx e
  rcases print_bytes n x hx with h | h | h
  · exact h1 (e.symm.trans h)
  · exact h2 (e.symm.trans h)
  · rw [e] at h; omega
theorem text_not (s : Int × Int) {c : UInt8} (h0 : c ≠ 44) (h1 : c ≠ 45) (h2 : c ≠ 46) (h3 : c.toNat < 48) : ∀ x ∈ textR s, x ≠ c := by
  intro x hx
  unfold textR at hx
  rw [List.mem_append, List.mem_append] at hx
  rcases hx with (h | h) | h
  · exact print_not s.1 h1 h2 h3 x h
  · rw [List.mem_singleton.1 h]; exact fun e => h0 e.symm
  · exact print_not s.2 h1 h2 h3 x h
/-- A span that is written is read as it was. -/
theorem text_reads {s : Int × Int} (h : chk s.1 s.2 = 0) : spOk (textR s) = true ∧ spL (textR s) = s := by
  obtain ⟨m1, m2, hl⟩ := chk_ok.1 h
  have e : cutL 44 (textR s) = [printR s.1, printR s.2] := by
    unfold textR
    rw [List.append_assoc]
    show cutL 44 (printR s.1 ++ 44 :: printR s.2) = _
    rw [cutL_cons (print_not s.1 (by decide) (by decide) (by decide)), cutL_one (print_not s.2 (by decide) (by decide) (by decide))]
  have en : numsL (textR s) = [s.1, s.2] := by
    unfold numsL
    rw [e]
    show [(parseR (printR s.1)).1, (parseR (printR s.2)).1] = _
    rw [parse_print m1, parse_print m2]
  have es : spL (textR s) = s := by unfold spL; rw [en]; rfl
  refine ⟨?_, es⟩
  unfold spOk
  rw [es, en, decide_eq_true ⟨rfl, hl⟩, Bool.and_true]
  unfold numsOk
  rw [e]
  show ((parseR (printR s.1)).2 == 0 && ((parseR (printR s.2)).2 == 0 && true)) = true
  rw [parse_print m1, parse_print m2]
  rfl
theorem line_words {k x y : List UInt8} (hk : ∀ z ∈ k, z ≠ 32) (hx : ∀ z ∈ x, z ≠ 32) (hy : ∀ z ∈ y, z ≠ 32) (ht : isTwo k = true) : lineR (k ++ 32 :: (x ++ 32 :: y)) = lineTwo k x y := by
  unfold lineR
  rw [cutL_cons hk, cutL_cons hx, cutL_one hy]
  exact if_pos ht
/-- A SESSION MEETS. -/
theorem sess_meets {a b c d : Int} (h1 : 0 ≤ a) (h2 : a ≤ b) (h3 : b ≤ c) (h4 : c ≤ d) (h5 : d ≤ 100000) :
    sessR (wMeet ++ 32 :: (textR (a, c) ++ 32 :: textR (b, d)) ++ 10 :: (wHull ++ 32 :: (textR (a, c) ++ 32 :: textR (b, d)) ++ [10])) = textR (b, c) ++ [10] ++ textR (a, d) ++ [10] := by
  have mk : ∀ n : Int, 0 ≤ n → n ≤ 100000 → may n = true := fun n p q => (may_iff n).2 (by omega)
  have ca : chk (a, c).1 (a, c).2 = 0 := chk_ok.2 ⟨mk a h1 (by omega), mk c (by omega) (by omega), by show a ≤ c; omega⟩
  have cb : chk (b, d).1 (b, d).2 = 0 := chk_ok.2 ⟨mk b (by omega) (by omega), mk d (by omega) (by omega), by show b ≤ d; omega⟩
  have ra := text_reads ca
  have rb := text_reads cb
  have ta := text_length (s := (a, c)) (chk_ok.1 ca).1 (chk_ok.1 ca).2.1
  have tb := text_length (s := (b, d)) (chk_ok.1 cb).1 (chk_ok.1 cb).2.1
  have xa := text_not (a, c) (c := 32) (by decide) (by decide) (by decide) (by decide)
  have xb := text_not (b, d) (c := 32) (by decide) (by decide) (by decide) (by decide)
  have na := text_not (a, c) (c := 10) (by decide) (by decide) (by decide) (by decide)
  have nb := text_not (b, d) (c := 10) (by decide) (by decide) (by decide) (by decide)
  have lm : lineR (wMeet ++ 32 :: (textR (a, c) ++ 32 :: textR (b, d))) = textR (b, c) := by
    rw [line_words (by decide) xa xb (by decide)]
    unfold lineTwo
    rw [if_pos ⟨ra.1, rb.1⟩, ra.2, rb.2]
    have e : opR wMeet (a, c) (b, d) = (b, c, 0) := by
      show meetR a c b d = _
      unfold meetR
      rw [if_pos (by omega), show max a b = b by omega, show min c d = c by omega]
    rw [e]; exact if_pos rfl
  have lh : lineR (wHull ++ 32 :: (textR (a, c) ++ 32 :: textR (b, d))) = textR (a, d) := by
    rw [line_words (by decide) xa xb (by decide)]
    unfold lineTwo
    rw [if_pos ⟨ra.1, rb.1⟩, ra.2, rb.2]
    have e : opR wHull (a, c) (b, d) = (a, d, 0) := by
      show hullR a c b d = _
      unfold hullR
      rw [show min a b = a by omega, show max c d = d by omega]
    rw [e]; exact if_pos rfl
  have nm : ∀ k : List UInt8, (∀ z ∈ k, z ≠ 10) → ∀ z ∈ k ++ 32 :: (textR (a, c) ++ 32 :: textR (b, d)), z ≠ 10 := by
    intro k hk z hz
    rw [List.mem_append, List.mem_cons, List.mem_append, List.mem_cons] at hz
    rcases hz with h | h | h | h | h
    · exact hk z h
    · rw [h]; decide
    · exact na z h
    · rw [h]; decide
    · exact nb z h
  have hn1 := nm wMeet (by decide)
  have hn2 := nm wHull (by decide)
  have hlen : (wMeet ++ 32 :: (textR (a, c) ++ 32 :: textR (b, d))).length ≤ 60 := by
    simp only [List.length_append, List.length_cons, List.length_nil]; omega
  have hlen2 : (wHull ++ 32 :: (textR (a, c) ++ 32 :: textR (b, d))).length ≤ 60 := by
    simp only [List.length_append, List.length_cons, List.length_nil]; omega
  generalize wMeet ++ 32 :: (textR (a, c) ++ 32 :: textR (b, d)) = P at *
  generalize wHull ++ 32 :: (textR (a, c) ++ 32 :: textR (b, d)) = R at *
  have el : linesR (P ++ 10 :: (R ++ [10])) = [P, R] := by
    unfold linesR
    rw [cutS_cons hn1, cutS_cons hn2]
    rfl
  unfold sessR
  rw [if_neg (by simp only [List.length_append, List.length_cons, List.length_nil]; omega), el]
  show [] ++ lineR P ++ [10] ++ lineR R ++ [10] = _
  rw [lm, lh, List.nil_append]
end Um
