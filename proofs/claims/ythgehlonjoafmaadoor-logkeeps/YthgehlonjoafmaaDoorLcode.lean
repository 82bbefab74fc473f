/-
  Plain arithmetic of what a Log keeps, no program: boxes as bytes, which of them are whole, and what a Log is behind each call.
-/
import Derived.Test.YthgehlonjoafmaaDoorMaths2
namespace Um
set_option linter.unusedSimpArgs false

/-- The four bytes of a number. -/
def b4 (n : Int) : List Int := [n % 4294967296 / 16777216, n % 4294967296 / 65536 % 256, n % 4294967296 / 256 % 256, n % 256]
/-- The number of four bytes. -/
def num4 (a b c d : Int) : Int := (a * 16777216 + b * 65536 + c * 256 + d + 2147483648) % 4294967296 - 2147483648
theorem num_b4 {n : Int} (h1 : -2147483648 ≤ n) (h2 : n ≤ 2147483647) : num4 (n % 4294967296 / 16777216) (n % 4294967296 / 65536 % 256) (n % 4294967296 / 256 % 256) (n % 256) = n := by
  unfold num4
  omega
/-- The bytes of sides, and of a box: how many sides ahead. -/
def sidesB : List (Int × Int) → List Int
  | [] => []
  | s :: l => b4 s.1 ++ b4 s.2 ++ sidesB l
def recB (b : List (Int × Int)) : List Int := (b.length : Int) :: sidesB b
/-- The bytes of boxes. -/
def recsB : List (List (Int × Int)) → List Int
  | [] => []
  | b :: l => recB b ++ recsB l
theorem sidesB_len : ∀ b : List (Int × Int), (sidesB b).length = 8 * b.length
  | [] => rfl
  | s :: l => by
    have i := sidesB_len l
    show (b4 s.1 ++ b4 s.2 ++ sidesB l).length = 8 * (l.length + 1)
    simp only [List.length_append, b4, List.length_cons, List.length_nil, i]
    omega
theorem recB_len (b : List (Int × Int)) : (recB b).length = 1 + 8 * b.length := by
  show (sidesB b).length + 1 = _
  rw [sidesB_len]; omega
theorem sidesB_append : ∀ a b : List (Int × Int), sidesB (a ++ b) = sidesB a ++ sidesB b
  | [], _ => rfl
  | s :: l, b => by
    have i := sidesB_append l b
    show b4 s.1 ++ b4 s.2 ++ sidesB (l ++ b) = _
    rw [i]
    show _ = b4 s.1 ++ b4 s.2 ++ sidesB l ++ sidesB b
    simp only [List.append_assoc]
theorem take_sd {b : List (Int × Int)} {k : Nat} (h : k < b.length) : b.take (k + 1) = b.take k ++ [sd b k] := by
  rw [List.take_add_one, sd_some h]; rfl
theorem sidesB_next {b : List (Int × Int)} {k : Nat} (h : k < b.length) : sidesB (b.take (k + 1)) = sidesB (b.take k) ++ b4 (sd b k).1 ++ b4 (sd b k).2 := by
  rw [take_sd h, sidesB_append]
  show _ ++ (b4 (sd b k).1 ++ b4 (sd b k).2 ++ []) = _
  simp only [List.append_nil, List.append_assoc]
theorem drop_sd {b : List (Int × Int)} {k : Nat} (h : k < b.length) : b.drop k = sd b k :: b.drop (k + 1) := by
  rw [List.drop_eq_getElem_cons h]
  congr 1
  unfold sd; rw [List.getElem?_eq_getElem h]; rfl
theorem sidesB_drop : ∀ (b : List (Int × Int)) (k : Nat), (sidesB b).drop (8 * k) = sidesB (b.drop k)
  | b, 0 => by simp
  | [], k + 1 => by simp [sidesB]
  | s :: l, k + 1 => by
    have i := sidesB_drop l k
    show (b4 s.1 ++ b4 s.2 ++ sidesB l).drop (8 * (k + 1)) = sidesB (l.drop k)
    rw [show 8 * (k + 1) = 8 * k + 1 + 1 + 1 + 1 + 1 + 1 + 1 + 1 by omega]
    exact i
/-- The bytes of a side. -/
theorem rec_side {b : List (Int × Int)} {i : Nat} (h : i < b.length) : (recB b).drop (1 + 8 * i) = b4 (sd b i).1 ++ b4 (sd b i).2 ++ sidesB (b.drop (i + 1)) := by
  unfold recB
  rw [show 1 + 8 * i = 8 * i + 1 by omega, List.drop_succ_cons, sidesB_drop, drop_sd h]
  rfl
theorem recsB_append : ∀ a b : List (List (Int × Int)), recsB (a ++ b) = recsB a ++ recsB b
  | [], _ => rfl
  | s :: l, b => by
    have i := recsB_append l b
    show recB s ++ recsB (l ++ b) = recB s ++ recsB l ++ recsB b
    rw [i, List.append_assoc]
theorem recsB_len {n : Nat} : ∀ {l : List (List (Int × Int))}, (∀ b ∈ l, b.length = n) → (recsB l).length = (1 + 8 * n) * l.length
  | [], _ => rfl
  | b :: l, h => by
    have i := recsB_len (n := n) (l := l) (fun c hc => h c (List.mem_cons_of_mem _ hc))
    have e := h b (List.mem_cons_self ..)
    show (recB b ++ recsB l).length = (1 + 8 * n) * (l.length + 1)
    rw [List.length_append, recB_len, i, e, Nat.mul_add, Nat.mul_one, Nat.add_comm]
/-- What belongs to no whole record. -/
def tailP (n : Nat) (t : List Int) : Prop := t = [] ∨ (t.head? = some (n : Int) ∧ t.length < 1 + 8 * n)
theorem tail_rec {b : List (Int × Int)} {n : Nat} (h : b.length = n) {r : Nat} (hr : r < 1 + 8 * n) : tailP n ((recB b).take r) := by
  cases r with
  | zero => exact .inl (by simp)
  | succ r =>
    refine .inr ⟨?_, ?_⟩
    · show ((recB b).take (r + 1)).head? = _
      unfold recB
      rw [List.take_succ_cons]
      show some ((b.length : Int)) = _
      rw [h]
    · rw [List.length_take, recB_len]; omega
theorem tail_take {n : Nat} {t : List Int} (h : tailP n t) (r : Nat) : tailP n (t.take r) := by
  rcases h with rfl | ⟨h1, h2⟩
  · exact .inl (by simp)
  · cases r with
    | zero => exact .inl (by simp)
    | succ r =>
      refine .inr ⟨?_, by rw [List.length_take]; omega⟩
      cases t with
      | nil => cases h1
      | cons x t => exact h1
/-- Bytes that are cut off: whole records, and what belongs to none. -/
theorem take_recs {n : Nat} : ∀ {l : List (List (Int × Int))} {t : List Int}, (∀ b ∈ l, b.length = n) → tailP n t → ∀ c, c ≤ (recsB l ++ t).length →
    ∃ u, (recsB l ++ t).take c = recsB (l.take (min (c / (1 + 8 * n)) l.length)) ++ u ∧ tailP n u
  | [], t, _, ht, c, _ => ⟨t.take c, by simp [recsB], tail_take ht c⟩
  | b :: l, t, h, ht, c, hc => by
    have hb := h b (List.mem_cons_self ..)
    have e : recsB (b :: l) ++ t = recB b ++ (recsB l ++ t) := by show recB b ++ recsB l ++ t = _; rw [List.append_assoc]
    by_cases q : c < 1 + 8 * n
    · refine ⟨(recB b).take c, ?_, tail_rec hb q⟩
      rw [Nat.div_eq_of_lt q, Nat.zero_min]
      rw [e, List.take_append_of_le_length (by rw [recB_len, hb]; omega)]
      rfl
    · obtain ⟨u, hu, hu2⟩ := take_recs (l := l) (t := t) (fun x hx => h x (List.mem_cons_of_mem _ hx)) ht (c - (1 + 8 * n)) (by
        rw [e, List.length_append, recB_len, hb] at hc; omega)
      refine ⟨u, ?_, hu2⟩
      have e2 : c / (1 + 8 * n) = (c - (1 + 8 * n)) / (1 + 8 * n) + 1 := by
        rw [Nat.div_eq_sub_div (by omega) (by omega)]
      have e3 : min (c / (1 + 8 * n)) (b :: l).length = min ((c - (1 + 8 * n)) / (1 + 8 * n)) l.length + 1 := by
        rw [e2, List.length_cons]; omega
      rw [e3, List.take_succ_cons, e]
      show _ = recB b ++ recsB (l.take _) ++ u
      rw [List.append_assoc, ← hu, List.take_append, recB_len, hb, List.take_of_length_le (by rw [recB_len, hb]; omega)]
theorem recs_at {l : List (List (Int × Int))} {k : Nat} (h : k < l.length) : l.drop k = (l[k]?.getD []) :: l.drop (k + 1) := by
  rw [List.drop_eq_getElem_cons h, List.getElem?_eq_getElem h]; rfl

/-- What a Log is: how many sides, its boxes, the bytes behind them, how many bytes are safe, in how many steps it stops, whether it has. -/
structure LogS where
  sides : Nat
  done : List (List (Int × Int))
  half : List Int
  safe : Nat
  left : Int
  stop : Bool
def LogS.len (s : LogS) : Nat := 1 + 8 * s.sides
def LogS.bytes (s : LogS) : List Int := recsB s.done ++ s.half
structure LogS.Ok (s : LogS) : Prop where
  s1 : 1 ≤ s.sides
  s3 : s.sides ≤ 3
  box : ∀ b ∈ s.done, boxF b = 0 ∧ b.length = s.sides
  many : s.done.length ≤ 20
  tail : tailP s.sides s.half
  on : s.stop = false → s.half = []
  mark : ∃ m, m ≤ s.done.length ∧ s.safe = s.len * m
  low : -1 ≤ s.left
  high : s.left ≤ 9223372036854775807
theorem LogS.Ok.l9 {s : LogS} (h : s.Ok) : 9 ≤ s.len ∧ s.len ≤ 25 := by
  have := h.s1; have := h.s3; unfold LogS.len; omega
theorem LogS.Ok.recs {s : LogS} (h : s.Ok) : (recsB s.done).length = s.len * s.done.length := recsB_len fun b hb => (h.box b hb).2
theorem LogS.Ok.half_lt {s : LogS} (h : s.Ok) : s.half.length < s.len := by
  have := h.l9
  rcases h.tail with e | ⟨_, e⟩
  · rw [e]; simp only [List.length_nil]; omega
  · exact e
theorem LogS.Ok.size {s : LogS} (h : s.Ok) : s.bytes.length = s.len * s.done.length + s.half.length := by
  unfold LogS.bytes; rw [List.length_append, h.recs]
theorem LogS.Ok.small {s : LogS} (h : s.Ok) : s.bytes.length ≤ 525 := by
  rw [h.size]
  have h1 := h.half_lt
  have h2 := h.l9
  have h3 : s.len * s.done.length ≤ s.len * 20 := Nat.mul_le_mul_left _ h.many
  omega
theorem LogS.Ok.safe_le {s : LogS} (h : s.Ok) : s.safe ≤ s.bytes.length := by
  obtain ⟨m, hm, e⟩ := h.mark
  rw [h.size, e]
  have := Nat.mul_le_mul_left s.len hm
  omega
/-- A new one. -/
def newS (n : Nat) : LogS := ⟨n, [], [], 0, -1, false⟩
theorem new_ok {n : Nat} (h1 : 1 ≤ n) (h3 : n ≤ 3) : (newS n).Ok :=
  ⟨h1, h3, fun b hb => (by cases hb), Nat.zero_le _, .inl rfl, fun _ => rfl, ⟨0, Nat.le_refl _, rfl⟩, Int.le_refl _, by show (-1 : Int) ≤ _; decide⟩
/-- A step: whether it stops at it. -/
def stepS (s : LogS) : LogS := if s.left = 0 then { s with stop := true } else { s with left := if 0 < s.left then s.left - 1 else s.left }
def stepF (s : LogS) : Int := if s.left = 0 then 6 else 0
/-- Why a box does not come to a record. -/
def refF (s : LogS) (b : List (Int × Int)) : Int := if s.stop = true then 6 else if 20 ≤ s.done.length then 4 else if boxF b = 0 then (if b.length = s.sides then 0 else 3) else boxF b
def putF (s : LogS) (b : List (Int × Int)) : Int := if refF s b = 0 then stepF s else refF s b
def putS (s : LogS) (b : List (Int × Int)) : LogS := if refF s b = 0 then (if s.left = 0 then { s with half := (recB b).take (s.len / 2), stop := true } else { s with done := s.done ++ [b], left := if 0 < s.left then s.left - 1 else s.left }) else s
def syncF (s : LogS) : Int := if s.stop = true then 6 else stepF s
def syncS (s : LogS) : LogS := if s.stop = true then s else if s.left = 0 then { s with stop := true } else { s with safe := s.bytes.length, left := if 0 < s.left then s.left - 1 else s.left }
def failS (s : LogS) (n : Int) : LogS := { s with left := max n (-1) }
/-- How many bytes are left behind a crash, ahead of the cut to whole records; and how many records. -/
def cutN (s : LogS) (keep : Int) : Nat := s.safe + (min (max keep 0) ((s.bytes.length : Int) - s.safe)).toNat
def leftN (s : LogS) (keep : Int) : Nat := min (cutN s keep / s.len) s.done.length
def crashS (s : LogS) (keep : Int) : LogS := ⟨s.sides, s.done.take (leftN s keep), [], s.len * leftN s keep, -1, false⟩
theorem ref_ok {s : LogS} {b : List (Int × Int)} : refF s b = 0 ↔ s.stop = false ∧ s.done.length < 20 ∧ boxF b = 0 ∧ b.length = s.sides := by
  unfold refF
  by_cases h1 : s.stop = true
  · rw [if_pos h1]; exact ⟨fun e => absurd e (by decide), fun e => by rw [e.1] at h1; cases h1⟩
  · rw [if_neg h1]
    by_cases h2 : 20 ≤ s.done.length
    · rw [if_pos h2]; exact ⟨fun e => absurd e (by decide), fun e => by omega⟩
    · rw [if_neg h2]
      by_cases h3 : boxF b = 0
      · rw [if_pos h3]
        by_cases h4 : b.length = s.sides
        · rw [if_pos h4]; exact ⟨fun _ => ⟨by simpa using h1, by omega, h3, h4⟩, fun _ => rfl⟩
        · rw [if_neg h4]; exact ⟨fun e => absurd e (by decide), fun e => absurd e.2.2.2 h4⟩
      · rw [if_neg h3]; exact ⟨fun e => absurd e h3, fun e => absurd e.2.2.1 h3⟩
theorem put_not {s : LogS} {b : List (Int × Int)} (h : ¬ refF s b = 0) : putF s b = refF s b ∧ putS s b = s := by unfold putF putS; rw [if_neg h, if_neg h]; exact ⟨rfl, rfl⟩
theorem put_stop {s : LogS} {b : List (Int × Int)} (h : refF s b = 0) (h0 : s.left = 0) : putF s b = 6 ∧ putS s b = { s with half := (recB b).take (s.len / 2), stop := true } := by unfold putF putS stepF; rw [if_pos h, if_pos h, if_pos h0, if_pos h0]; exact ⟨rfl, rfl⟩
theorem put_yes {s : LogS} {b : List (Int × Int)} (h : refF s b = 0) (h0 : ¬ s.left = 0) : putF s b = 0 ∧ putS s b = { s with done := s.done ++ [b], left := if 0 < s.left then s.left - 1 else s.left } := by unfold putF putS stepF; rw [if_pos h, if_pos h, if_neg h0, if_neg h0]; exact ⟨rfl, rfl⟩
theorem next_low {l : Int} (h1 : -1 ≤ l) (h2 : l ≤ 9223372036854775807) : -1 ≤ (if 0 < l then l - 1 else l) ∧ (if 0 < l then l - 1 else l) ≤ 9223372036854775807 := by split <;> omega
theorem put_ok {s : LogS} {b : List (Int × Int)} (h : s.Ok) : (putS s b).Ok := by
  by_cases hr : refF s b = 0
  · obtain ⟨q1, q2, q3, q4⟩ := ref_ok.1 hr
    by_cases h0 : s.left = 0
    · rw [(put_stop hr h0).2]
      have := h.l9
      exact ⟨h.s1, h.s3, h.box, h.many, tail_rec q4 (by show s.len / 2 < s.len; omega), fun e => (by cases e), h.mark, h.low, h.high⟩
    · rw [(put_yes hr h0).2]
      refine ⟨h.s1, h.s3, fun c hc => ?_, ?_, h.tail, h.on, ?_, (next_low h.low h.high).1, (next_low h.low h.high).2⟩
      · rcases List.mem_append.1 hc with hc | hc
        · exact h.box c hc
        · rw [List.mem_singleton.1 hc]; exact ⟨q3, q4⟩
      · show (s.done ++ [b]).length ≤ 20
        rw [List.length_append]; simp only [List.length_cons, List.length_nil]; omega
      · obtain ⟨m, hm, e⟩ := h.mark
        exact ⟨m, by show m ≤ (s.done ++ [b]).length; rw [List.length_append]; omega, e⟩
  · rw [(put_not hr).2]; exact h
theorem sync_ok {s : LogS} (h : s.Ok) : (syncS s).Ok := by
  unfold syncS
  by_cases h1 : s.stop = true
  · rw [if_pos h1]; exact h
  · rw [if_neg h1]
    by_cases h0 : s.left = 0
    · rw [if_pos h0]; exact ⟨h.s1, h.s3, h.box, h.many, h.tail, fun e => (by cases e), h.mark, h.low, h.high⟩
    · rw [if_neg h0]
      refine ⟨h.s1, h.s3, h.box, h.many, h.tail, h.on, ⟨s.done.length, Nat.le_refl _, ?_⟩, (next_low h.low h.high).1, (next_low h.low h.high).2⟩
      show s.bytes.length = s.len * s.done.length
      rw [h.size, h.on (by simpa using h1)]; rfl
theorem fail_ok {s : LogS} {n : Int} (h : s.Ok) (hn : n ≤ 9223372036854775807) : (failS s n).Ok :=
  ⟨h.s1, h.s3, h.box, h.many, h.tail, h.on, h.mark, by show -1 ≤ max n (-1); omega, by show max n (-1) ≤ _; omega⟩
theorem crash_ok {s : LogS} {keep : Int} (h : s.Ok) : (crashS s keep).Ok :=
  ⟨h.s1, h.s3, fun b hb => h.box b (List.mem_of_mem_take hb), by show (s.done.take _).length ≤ 20; rw [List.length_take]; have := h.many; omega, .inl rfl, fun _ => rfl,
    ⟨leftN s keep, by show _ ≤ (s.done.take (leftN s keep)).length; rw [List.length_take]; unfold leftN; omega, rfl⟩, Int.le_refl _, by show (-1 : Int) ≤ _; decide⟩
theorem cut_le {s : LogS} {keep : Int} (h : s.Ok) : cutN s keep ≤ s.bytes.length := by
  have := h.safe_le
  unfold cutN; omega
/-- What a crash leaves: whole records, and what belongs to none. -/
theorem crash_cut {s : LogS} {keep : Int} (h : s.Ok) : ∃ u, s.bytes.take (cutN s keep) = recsB (crashS s keep).done ++ u ∧ tailP s.sides u := take_recs (fun b hb => (h.box b hb).2) h.tail _ (cut_le h)
theorem crash_size {s : LogS} {keep : Int} (h : s.Ok) : (crashS s keep).bytes.length = s.len * leftN s keep := by
  rw [(crash_ok h).size]
  show s.len * (s.done.take (leftN s keep)).length + 0 = _
  rw [List.length_take]
  unfold leftN
  rw [Nat.min_assoc, Nat.min_self]; rfl
/-- The hull of the first ones, and of all. -/
def hullTo (l : List (List (Int × Int))) : Nat → List (Int × Int)
  | 0 => l[0]?.getD []
  | m + 1 => hullN (hullTo l m) (l[m + 1]?.getD []) (hullTo l m).length
def hullF (l : List (List (Int × Int))) : List (Int × Int) := if l = [] then [] else hullTo l (l.length - 1)
def hullE (l : List (List (Int × Int))) : Int := if l = [] then 5 else 0
theorem hullTo_ok {l : List (List (Int × Int))} {n : Nat} (h : ∀ b ∈ l, boxF b = 0 ∧ b.length = n) : ∀ m, m < l.length → boxF (hullTo l m) = 0 ∧ (hullTo l m).length = n
  | 0, hm => by
    have e : hullTo l 0 = l[0] := by show l[0]?.getD [] = _; rw [List.getElem?_eq_getElem hm]; rfl
    rw [e]; exact h _ (List.getElem_mem hm)
  | m + 1, hm => by
    have i := hullTo_ok h m (by omega)
    have b := h _ (List.getElem_mem hm)
    have hb : boxesF (hullTo l m) (l[m + 1]?.getD []) = 0 := by
      rw [List.getElem?_eq_getElem hm]; exact boxes_ok.2 ⟨i.1, b.1, by rw [i.2]; exact b.2.symm⟩
    refine ⟨(hull_box hb).1, ?_⟩
    show (hullN _ _ _).length = n
    rw [hull_length, i.2]
theorem hullTo_two {l : List (List (Int × Int))} {n : Nat} (h : ∀ b ∈ l, boxF b = 0 ∧ b.length = n) {m : Nat} (hm : m + 1 < l.length) : boxesF (hullTo l m) (l[m + 1]?.getD []) = 0 := by
  have i := hullTo_ok h m (by omega)
  have b := h _ (List.getElem_mem hm)
  rw [List.getElem?_eq_getElem hm]; exact boxes_ok.2 ⟨i.1, b.1, by rw [i.2]; exact b.2.symm⟩
theorem hullF_some {l : List (List (Int × Int))} (h : l ≠ []) : hullF l = hullTo l (l.length - 1) ∧ hullE l = 0 := by unfold hullF hullE; rw [if_neg h, if_neg h]; exact ⟨rfl, rfl⟩
end Um
