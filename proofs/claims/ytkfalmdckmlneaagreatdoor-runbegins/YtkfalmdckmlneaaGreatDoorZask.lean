/-
  Plain lists of bytes, no program: what a line asks for, and how that is answered; strings.Split, Join and the lines of a text as the pieces of it.
-/
import Derived.Test.YtkfalmdckmlneaaGreatDoorTexts
import Derived.Test.YtkfalmdckmlneaaGreatDoorZcut
import Derived.Lib.SplitLaws
import Derived.Lib.Join
import Derived.Lib.Strings
namespace Um
set_option linter.unusedSimpArgs false
open Go

/-- strings.IndexByte. -/
theorem ib_byte {c : UInt8} (b : List UInt8) : ∀ (a : List UInt8), (∀ x ∈ a, x ≠ c) → Lib.indexByte (a ++ c :: b) c = a.length
  | [], _ => by simp [Lib.indexByte]
  | x :: a, h => by
    have i := ib_byte b a (fun y hy => h y (List.mem_cons_of_mem _ hy))
    have hx : ¬ x = c := h x (List.mem_cons_self ..)
    simp only [List.cons_append, Lib.indexByte, i]
    simp [hx]
theorem ib_none {c : UInt8} : ∀ (l : List UInt8), (∀ x ∈ l, x ≠ c) → Lib.indexByte l c = -1
  | [], _ => by simp [Lib.indexByte]
  | x :: a, h => by
    have i := ib_none a (fun y hy => h y (List.mem_cons_of_mem _ hy))
    have hx : ¬ x = c := h x (List.mem_cons_self ..)
    simp only [Lib.indexByte, i]
    simp [hx]
/-- strings.Split at one byte. -/
theorem split_cut (c : UInt8) : ∀ (n : Nat) (l : List UInt8), l.length ≤ n → Lib.splitK [c] 0 (Lib.count l [c]) l = cutL c l
  | n, l, hn => by
    rcases split_byte c l with h | ⟨a, b, rfl, ha⟩
    · rw [Lib.count_one, List.count_eq_zero.2 (fun hm => h c hm rfl), cutL_one h]
      rfl
    · have e : Lib.count (a ++ c :: b) [c] = Lib.count b [c] + 1 := by
        rw [Lib.count_one, Lib.count_one, List.count_append, List.count_eq_zero.2 (fun hm => ha c hm rfl), List.count_cons]
        simp
      match n, hn with
      | 0, hn => simp at hn
      | n + 1, hn =>
        have i := split_cut c n b (by simp at hn; omega)
        rw [e, Lib.splitK, index_byte b a ha, if_neg (by simp), cutL_cons ha, ← i]
        simp
/-- Spans, a blank between. -/
theorem join_to (l : List (Int × Int)) : ∀ k, k ≤ l.length → Lib.join ((l.take k).map textR) [32] = joinTo l k
  | 0, _ => rfl
  | k + 1, h => by
    have i := join_to l k (by omega)
    have e : l.take (k + 1) = l.take k ++ [l[k]?.getD (0, 0)] := by
      rw [List.take_add_one, List.getElem?_eq_getElem (by omega)]; rfl
    rw [e, List.map_append]
    show _ = joinTo l k ++ (if 0 < k then [32] else []) ++ textR (l[k]?.getD (0, 0))
    rw [← i]
    cases hk : l.take k with
    | nil =>
      have : k = 0 := by
        have q := congrArg List.length hk
        rw [List.length_take] at q
        simp only [List.length_nil] at q
        omega
      subst this
      simp [Lib.join_one, Lib.join_nil]
    | cons x r =>
      have : 0 < k := by
        rcases Nat.eq_zero_or_pos k with h0 | h0
        · rw [h0] at hk; simp at hk
        · exact h0
      rw [if_pos this]
      simp [Lib.join_cons, Lib.joinTail]
theorem join_all {l : List (Int × Int)} (h : l ≠ []) : Lib.join (l.map textR) [32] = rootsR l := by
  have := join_to l l.length (Nat.le_refl _)
  rw [List.take_length] at this
  unfold rootsR
  rw [if_neg h, this]
/-- A line's end is taken off. -/
theorem trim_line {a : List UInt8} : Lib.trimSuffix (a ++ [10]) [10] = a := by
  unfold Lib.trimSuffix Lib.hasSuffix
  rw [if_pos (by rw [List.isSuffixOf_iff_suffix]; exact ⟨a, rfl⟩)]
  simp
theorem trim_last {a : List UInt8} (h : ∀ x ∈ a, x ≠ 10) : Lib.trimSuffix a [10] = a := by
  unfold Lib.trimSuffix Lib.hasSuffix
  rw [if_neg]
  rw [List.isSuffixOf_iff_suffix]
  rintro ⟨q, rfl⟩
  exact h 10 (by simp) rfl
/-- What a line asks for: none where it cannot be read; else the spans, and the fault. -/
def oneR (r : Int × Int × Int) : List (Int × Int) × Int := if r.2.2 = 0 then ([(r.1, r.2.1)], 0) else ([], r.2.2)
def askTwo (R : Int → Int → Int → Int → Int × Int × Int) (g : List (List UInt8)) : Option (List (Int × Int) × Int) :=
  match g with
  | [x, y] => if spOk x = true ∧ spOk y = true then some (oneR (R (spL x).1 (spL x).2 (spL y).1 (spL y).2)) else none
  | _ => none
def digOk (y : List UInt8) : Bool := decide (y.length = 1) && isDig (y[0]?.getD 0)
def askPow (g : List (List UInt8)) : Option (List (Int × Int) × Int) :=
  match g with
  | [x, y] => if spOk x = true ∧ digOk y = true then some (oneR (ofR (spL x).1 (spL x).2 (digR y))) else none
  | _ => none
def askPoly (R : List Int → Int → Int → Int × Int × Int) (g : List (List UInt8)) : Option (List (Int × Int) × Int) :=
  match g with
  | [p, x] => if numsOk p = true ∧ spOk x = true then some (oneR (R (numsL p) (spL x).1 (spL x).2)) else none
  | _ => none
def askRoots (g : List (List UInt8)) : Option (List (Int × Int) × Int) :=
  match g with
  | [p, x, u] => if numsOk p = true ∧ spOk x = true ∧ (parseR u).2 = 0 then some (findAll (numsL p) (spL x).1 (spL x).2 (parseR u).1) else none
  | _ => none
def askR (k : List UInt8) (g : List (List UInt8)) : Option (List (Int × Int) × Int) :=
  if k = wAdd then askTwo addR g else if k = wLess then askTwo lessR g else if k = wTimes then askTwo stimesR g else if k = wBy then askTwo sbyR g else if k = wMeet then askTwo meetR g else if k = wHull then askTwo hullR g
  else if k = wPower then askPow g else if k = wRange then askPoly monoAll g else if k = wRoots then askRoots g else if k = wNewton then askPoly (fun p lo hi => runAll p lo hi 20) g else none
def ansOf (o : Option (List (Int × Int) × Int)) : List UInt8 :=
  match o with
  | none => wBad
  | some r => if r.2 = 0 then rootsR r.1 else nameR r.2
theorem roots_one (s : Int × Int) : rootsR [s] = textR s := by
  unfold rootsR
  rw [if_neg (by simp)]
  show joinTo [s] 1 = _
  simp [joinTo]
theorem ans_one (r : Int × Int × Int) : ansOf (some (oneR r)) = toldR r := by
  unfold ansOf oneR toldR
  by_cases h : r.2.2 = 0
  · simp only [h, if_true]
    exact roots_one _
  · simp only [h, if_false]
theorem ans_none : ansOf none = wBad := rfl
/-- A right line can be answered: a fault has a name, spans can be written. -/
def AskOk (o : Option (List (Int × Int) × Int)) : Prop :=
  ∀ r, o = some r → 0 ≤ r.2 ∧ r.2 ≤ 8 ∧ (r.2 = 0 → r.1.length ≤ 32 ∧ ∀ i, i < r.1.length → may (r.1[i]?.getD (0, 0)).1 = true ∧ may (r.1[i]?.getD (0, 0)).2 = true)
theorem ok_none : AskOk none := fun r h => (by cases h)
theorem ok_one {r : Int × Int × Int} (h : Told r) : AskOk (some (oneR r)) := by
  rintro q e
  obtain rfl := Option.some.inj e
  unfold oneR
  by_cases h0 : r.2.2 = 0
  · rw [if_pos h0]
    refine ⟨Int.le_refl _, (by decide : (0 : Int) ≤ 8), fun _ => ⟨by simp, fun i hi => ?_⟩⟩
    have : i = 0 := by simpa using hi
    subst this
    exact h.2.2 h0
  · rw [if_neg h0]
    exact ⟨h.1, h.2.1, fun e => absurd e h0⟩
theorem over_told {r : Int × Int × Int} {p : List Int} {lo hi : Int} (hc : chk lo hi = 0) (h : over p lo hi = 0 → Told r) : Told (if over p lo hi = 0 then r else (0, 0, over p lo hi)) := by
  by_cases ho : over p lo hi = 0
  · rw [if_pos ho]; exact h ho
  · rw [if_neg ho]
    have e : over p lo hi = pchk p := by
      unfold over at ho ⊢
      by_cases hp : pchk p = 0
      · rw [if_pos hp] at ho; exact absurd hc ho
      · rw [if_neg hp]
    have := pchk_few p
    exact ⟨by show 0 ≤ over p lo hi; omega, by show over p lo hi ≤ 8; omega, fun x => absurd x ho⟩
theorem mono_all {p : List Int} {lo hi : Int} (hc : chk lo hi = 0) : Told (monoAll p lo hi) := over_told hc (fun ho => mono_told ho)
theorem run_is (p : List Int) (lo hi : Int) : runAll p lo hi 20 = if over p lo hi = 0 then stR lo hi p 20 else (0, 0, over p lo hi) := by
  have e : runF p lo hi 20 = over p lo hi := by unfold runF; rw [if_pos (by decide)]
  unfold runAll
  rw [e]
  rfl
theorem run_all {p : List Int} {lo hi : Int} (hc : chk lo hi = 0) : Told (runAll p lo hi 20) := by
  rw [run_is]
  exact over_told hc (fun ho => st_told ho 20)
theorem pow_all {lo hi : Int} (hc : chk lo hi = 0) (n : Nat) : Told (ofR lo hi n) := by
  unfold ofR
  rw [if_pos hc]
  by_cases h : (n : Int) < 0 ∨ 4 < (n : Int)
  · rw [if_pos h]; exact ⟨by decide, by decide, fun e => absurd e (by decide)⟩
  · rw [if_neg h]; exact pow_told hc (by omega)
theorem ask_two_ok {R : Int → Int → Int → Int → Int × Int × Int} (h : ∀ a b c d, chk a b = 0 → chk c d = 0 → Told (R a b c d)) (g : List (List UInt8)) : AskOk (askTwo R g) := by
  unfold askTwo
  split
  · split
    · rename_i e; exact ok_one (h _ _ _ _ (sp_right e.1) (sp_right e.2))
    · exact ok_none
  · exact ok_none
theorem poly_ok {R : List Int → Int → Int → Int × Int × Int} (h : ∀ p a b, chk a b = 0 → Told (R p a b)) (g : List (List UInt8)) : AskOk (askPoly R g) := by
  unfold askPoly
  split
  · split
    · rename_i e; exact ok_one (h _ _ _ (sp_right e.2))
    · exact ok_none
  · exact ok_none
theorem ask_pow_ok (g : List (List UInt8)) : AskOk (askPow g) := by
  unfold askPow
  split
  · split
    · rename_i e; exact ok_one (pow_all (sp_right e.1) _)
    · exact ok_none
  · exact ok_none
theorem ask_roots_ok (g : List (List UInt8)) : AskOk (askRoots g) := by
  unfold askRoots
  split
  · rename_i p x u
    split
    · rename_i e
      intro r hr
      obtain rfl := Option.some.inj hr
      have hc := sp_right e.2.1
      have hm := (may_iff _).1 (print_parse e.2.2).1
      unfold findAll
      by_cases hf : findF (numsL p) (spL x).1 (spL x).2 (parseR u).1 = 0
      · rw [if_pos hf]
        have ho : over (numsL p) (spL x).1 (spL x).2 = 0 := by
          unfold findF at hf
          by_cases ho : over (numsL p) (spL x).1 (spL x).2 = 0
          · exact ho
          · rw [if_neg ho] at hf; exact hf
        have h1 : 1 ≤ (parseR u).1 := by
          unfold findF at hf
          rw [if_pos ho] at hf
          by_cases hb : 1 ≤ (parseR u).1 ∧ (parseR u).1 ≤ 1000000000
          · exact hb.1
          · rw [if_neg hb] at hf; exact absurd hf (by decide)
        have few := roots_few (numsL p) (spL x).1 (spL x).2 (parseR u).1
        exact ⟨few.1, few.2, fun h0 => roots_may ho h1 (by omega) h0⟩
      · rw [if_neg hf]
        have : 0 ≤ findF (numsL p) (spL x).1 (spL x).2 (parseR u).1 ∧ findF (numsL p) (spL x).1 (spL x).2 (parseR u).1 ≤ 8 := by
          unfold findF
          by_cases ho : over (numsL p) (spL x).1 (spL x).2 = 0
          · rw [if_pos ho]; split <;> decide
          · rw [if_neg ho]
            have t := over_told (r := (0, 0, 0)) (p := numsL p) hc (fun _ => ⟨by decide, by decide, fun _ => ⟨by decide, by decide⟩⟩)
            rw [if_neg ho] at t
            exact ⟨t.1, t.2.1⟩
        exact ⟨this.1, this.2, fun h0 => absurd h0 hf⟩
    · exact ok_none
  · exact ok_none
theorem ask_ok (k : List UInt8) (g : List (List UInt8)) : AskOk (askR k g) := by
  have two : ∀ (q : List UInt8) (R : Int → Int → Int → Int → Int × Int × Int), (∀ a b c d, opR q (a, b) (c, d) = R a b c d) → AskOk (askTwo R g) := fun q R e =>
    ask_two_ok (fun a b c d h1 h2 => by rw [← e]; exact op_told q (a := (a, b)) (b := (c, d)) h1 h2) g
  unfold askR
  split; · exact two wAdd _ (fun _ _ _ _ => rfl)
  split; · exact two wLess _ (fun _ _ _ _ => rfl)
  split; · exact two wTimes _ (fun _ _ _ _ => rfl)
  split; · exact two wBy _ (fun _ _ _ _ => rfl)
  split; · exact two wMeet _ (fun _ _ _ _ => rfl)
  split; · exact two wHull _ (fun _ _ _ _ => rfl)
  split; · exact ask_pow_ok g
  split; · exact poly_ok (fun p a b h => mono_all h) g
  split; · exact ask_roots_ok g
  split; · exact poly_ok (fun p a b h => run_all h) g
  exact ok_none
theorem over_is {p : List Int} {lo hi : Int} (hc : chk lo hi = 0) : over p lo hi = pchk p := by
  unfold over
  by_cases hp : pchk p = 0
  · rw [if_pos hp, hp, hc]
  · rw [if_neg hp]
theorem ans_poly {r : Int × Int × Int} {p : List Int} {lo hi : Int} (hc : chk lo hi = 0) : ansOf (some (oneR (if over p lo hi = 0 then r else (0, 0, over p lo hi)))) = if pchk p = 0 then toldR r else nameR (pchk p) := by
  rw [ans_one, over_is hc]
  by_cases hp : pchk p = 0
  · rw [if_pos hp, if_pos hp]
  · rw [if_neg hp, if_neg hp]
    unfold toldR
    rw [if_neg hp]
/-- A word, and no line of that many words. -/
theorem ask_less {k : List UInt8} {g : List (List UInt8)} (h : g.length ≠ 2 ∧ g.length ≠ 3) : askR k g = none := by
  have a : ∀ R, askTwo R g = none := fun R => by unfold askTwo; split <;> simp_all
  have b : askPow g = none := by unfold askPow; split <;> simp_all
  have c : ∀ R, askPoly R g = none := fun R => by unfold askPoly; split <;> simp_all
  have d : askRoots g = none := by unfold askRoots; split <;> simp_all
  unfold askR
  simp only [a, b, c, d, ite_self]
theorem words_ask (k : List UInt8) (g : List (List UInt8)) : wordsR (k :: g) = ansOf (askR k g) := by
  match g with
  | [] => rw [ask_less (by simp)]; rfl
  | [_] => rw [ask_less (by simp)]; rfl
  | _ :: _ :: _ :: _ :: _ => rw [ask_less (by simp)]; rfl
  | [p, x, u] =>
    show (if k = wRoots then lineRoots p x u else wBad) = _
    have a : ∀ R, askTwo R [p, x, u] = none := fun _ => rfl
    have b : askPow [p, x, u] = none := rfl
    have c : ∀ R, askPoly R [p, x, u] = none := fun _ => rfl
    unfold askR
    simp only [a, b, c]
    by_cases hk : k = wRoots
    · subst hk
      rw [if_pos rfl, if_neg (by decide), if_neg (by decide), if_neg (by decide), if_neg (by decide), if_neg (by decide), if_neg (by decide), if_neg (by decide), if_neg (by decide), if_pos rfl]
      unfold lineRoots askRoots
      by_cases h : numsOk p = true ∧ spOk x = true ∧ (parseR u).2 = 0
      · rw [if_pos h]
        show _ = ansOf (if numsOk p = true ∧ spOk x = true ∧ (parseR u).2 = 0 then _ else _)
        rw [if_pos h]
        have hc := sp_right h.2.1
        have hm := (may_iff _).1 (print_parse h.2.2).1
        by_cases hp : pchk (numsL p) = 0
        · rw [if_pos hp]
          by_cases hl : (parseR u).1 < 1
          · have e : findAll (numsL p) (spL x).1 (spL x).2 (parseR u).1 = ([], 1) := by
              unfold findAll findF
              have n1 : ¬ (1 ≤ (parseR u).1 ∧ (parseR u).1 ≤ 1000000000) := by omega
              simp only [over_is hc, hp, n1, if_true, if_false]
              rfl
            rw [if_pos hl, e]
            rfl
          · have e : findAll (numsL p) (spL x).1 (spL x).2 (parseR u).1 = findR (numsL p) (spL x).1 (spL x).2 (parseR u).1 := by
              unfold findAll findF
              rw [over_is hc, if_pos hp, if_pos (show 1 ≤ (parseR u).1 ∧ (parseR u).1 ≤ 1000000000 from ⟨by omega, by omega⟩), if_pos rfl]
            rw [if_neg hl, e]
            rfl
        · have e : findAll (numsL p) (spL x).1 (spL x).2 (parseR u).1 = ([], pchk (numsL p)) := by
            unfold findAll findF
            rw [over_is hc, if_neg hp, if_neg hp]
          rw [if_neg hp, e]
          show _ = if pchk (numsL p) = 0 then _ else _
          rw [if_neg hp]
      · rw [if_neg h]
        show _ = ansOf (if numsOk p = true ∧ spOk x = true ∧ (parseR u).2 = 0 then _ else _)
        rw [if_neg h]
        rfl
    · rw [if_neg hk]
      simp only [if_neg hk, ite_self]
      rfl
  | [x, y] =>
    show (if isTwo k = true then lineTwo k x y else if k = wPower then linePow x y else if k = wRange then lineRange x y else if k = wNewton then lineNewton x y else wBad) = _
    have two : ∀ (q : List UInt8) (R : Int → Int → Int → Int → Int × Int × Int), (∀ a b c d, opR q (a, b) (c, d) = R a b c d) → lineTwo q x y = ansOf (askTwo R [x, y]) := fun q R e => by
      unfold lineTwo
      show _ = ansOf (if spOk x = true ∧ spOk y = true then _ else _)
      by_cases h : spOk x = true ∧ spOk y = true
      · rw [if_pos h, if_pos h, ans_one, ← e]
      · rw [if_neg h, if_neg h]; rfl
    have no : ∀ q, isTwo q = false → q ≠ wAdd ∧ q ≠ wLess ∧ q ≠ wTimes ∧ q ≠ wBy ∧ q ≠ wMeet ∧ q ≠ wHull := fun q h => by
      refine ⟨?_, ?_, ?_, ?_, ?_, ?_⟩ <;> (rintro rfl; exact absurd h (by decide))
    by_cases h1 : k = wAdd
    · subst h1; exact two wAdd _ (fun _ _ _ _ => rfl)
    by_cases h2 : k = wLess
    · subst h2; exact two wLess _ (fun _ _ _ _ => rfl)
    by_cases h3 : k = wTimes
    · subst h3; exact two wTimes _ (fun _ _ _ _ => rfl)
    by_cases h4 : k = wBy
    · subst h4; exact two wBy _ (fun _ _ _ _ => rfl)
    by_cases h5 : k = wMeet
    · subst h5; exact two wMeet _ (fun _ _ _ _ => rfl)
    by_cases h6 : k = wHull
    · subst h6; exact two wHull _ (fun _ _ _ _ => rfl)
    have ht : isTwo k = false := by simp [isTwo, h1, h2, h3, h4, h5, h6]
    rw [ht]
    unfold askR
    simp only [if_neg h1, if_neg h2, if_neg h3, if_neg h4, if_neg h5, if_neg h6, Bool.false_eq_true, if_false]
    by_cases h7 : k = wPower
    · rw [if_pos h7, if_pos h7]
      unfold linePow
      show _ = ansOf (if spOk x = true ∧ digOk y = true then _ else _)
      by_cases h : spOk x = true ∧ y.length = 1 ∧ isDig (y[0]?.getD 0) = true
      · have hd : digOk y = true := by unfold digOk; rw [Bool.and_eq_true]; exact ⟨decide_eq_true h.2.1, h.2.2⟩
        have e : (if spOk x = true ∧ digOk y = true then some (oneR (ofR (spL x).1 (spL x).2 (digR y))) else none) = some (oneR (ofR (spL x).1 (spL x).2 (digR y))) := if_pos ⟨h.1, hd⟩
        rw [if_pos h, e, ans_one]
        have hc := sp_right h.1
        unfold ofR
        rw [if_pos hc]
        by_cases h4 : 4 < digR y
        · rw [if_pos h4, if_pos (by omega)]
          unfold toldR
          rw [if_neg (by decide)]
        · rw [if_neg h4, if_neg (by omega)]
          rfl
      · have hd : ¬ (spOk x = true ∧ digOk y = true) := by
          rintro ⟨e1, e2⟩
          unfold digOk at e2
          rw [Bool.and_eq_true] at e2
          exact h ⟨e1, of_decide_eq_true e2.1, e2.2⟩
        rw [if_neg h, if_neg hd]; rfl
    rw [if_neg h7, if_neg h7]
    by_cases h8 : k = wRange
    · rw [if_pos h8, if_pos h8]
      unfold lineRange
      show _ = ansOf (if numsOk x = true ∧ spOk y = true then _ else _)
      by_cases h : numsOk x = true ∧ spOk y = true
      · rw [if_pos h, if_pos h]
        unfold monoAll
        rw [ans_poly (sp_right h.2)]
      · rw [if_neg h, if_neg h]; rfl
    rw [if_neg h8, if_neg h8]
    by_cases h9 : k = wRoots
    · subst h9; rfl
    rw [if_neg h9]
    by_cases h10 : k = wNewton
    · rw [if_pos h10, if_pos h10]
      unfold lineNewton
      show _ = ansOf (if numsOk x = true ∧ spOk y = true then some (oneR (runAll _ _ _ 20)) else _)
      by_cases h : numsOk x = true ∧ spOk y = true
      · rw [if_pos h, if_pos h, run_is, ans_poly (sp_right h.2)]
      · rw [if_neg h, if_neg h]; rfl
    rw [if_neg h10, if_neg h10]
    rfl
end Um
