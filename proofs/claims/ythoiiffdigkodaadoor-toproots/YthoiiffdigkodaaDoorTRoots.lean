/-
  The walk over 'spantop.TopRoots': for all p, x, least, many, n it returns true.
-/
import Derived.Test.YthoiiffdigkodaaDoorNewton
import Derived.Test.YthoiiffdigkodaaDoorSplit
import Derived.Test.YthoiiffdigkodaaDoorRootF
import Derived.Test.YthoiiffdigkodaaDoorRefVal
import Derived.Test.YthoiiffdigkodaaDoorSame
import Derived.Test.YthoiiffdigkodaaDoorTopOne
import Derived.Deep.CutRange
namespace Go.Proofs.YthoiiffdigkodaaDoor.TRoots
set_option linter.unusedSimpArgs false
open Go.RowKit

theorem nought_fl : Um.fl 0 1000000000000 = 0 := by decide +kernel
theorem nought_ce : Um.ce 0 1000000000000 = 0 := by decide +kernel
theorem split_zero {p : List Int} {lo hi many n : Int} (h : (Um.splitAll p lo hi many).2.2 = 0) (h1 : lo ≤ n) (h2 : n ≤ hi) (he : Um.exN n p p.length = 0) : (Um.splitAll p lo hi many).1 ≤ 0 ∧ 0 ≤ (Um.splitAll p lo hi many).2.1 := by
  have hf : Um.splitF p lo hi many = 0 := by
    by_cases hf : Um.splitF p lo hi many = 0
    · exact hf
    · unfold Um.splitAll at h; rw [if_neg hf] at h; exact absurd h hf
  obtain ⟨_, a, _⟩ := Um.split_ok.1 hf
  obtain ⟨m, rfl⟩ : ∃ m : Nat, many = (m : Int) + 1 := ⟨(many - 1).toNat, by omega⟩
  have g := Um.split_value h h1 h2
  rw [he, nought_fl, nought_ce] at g
  exact g
theorem mono_zero {p : List Int} {lo hi n : Int} (ho : Um.over p lo hi = 0) (h : (Um.monoAll p lo hi).2.2 = 0) (h1 : lo ≤ n) (h2 : n ≤ hi) (he : Um.exN n p p.length = 0) : (Um.monoAll p lo hi).1 ≤ 0 ∧ 0 ≤ (Um.monoAll p lo hi).2.1 := by
  unfold Um.monoAll at *
  rw [if_pos ho] at h ⊢
  have g := Um.mono_value ho h1 h2 h
  rw [he, nought_fl, nought_ce] at g
  exact g
theorem run_five {p : List Int} {lo hi n : Int} (ho : Um.over p lo hi = 0) (h1 : lo ≤ n) (h2 : n ≤ hi) (he : Um.exN n p p.length = 0) :
    ((Um.runAll p lo hi 5).2.2 = 0 → (Um.runAll p lo hi 5).1 ≤ n ∧ n ≤ (Um.runAll p lo hi 5).2.1) ∧ ¬ (Um.runAll p lo hi 5).2.2 = 5 := by
  have e : Um.runAll p lo hi 5 = Um.stR lo hi p 5 := by
    unfold Um.runAll
    rw [if_pos (Um.run_ok.2 ⟨⟨by decide, by decide⟩, ho⟩)]
    rfl
  rw [e]
  exact Um.st_keeps ho h1 h2 he 5

set_option maxRecDepth 100000 in
set_option maxHeartbeats 8000000 in
theorem walk_pre0 (p : List Int) (v : Value) (lo hi least many n : Int) (w : World) (hl : Li w.heap.size w v p)  (s1 : Um.small p n = false) :
    Calls Tryd.prog 6 #[v, .agg #[.int .i64 lo, .int .i64 hi], .int .i64 least, .int .i64 many, .int .i64 n] w fun e w' => e = .returned (.bool true) ∧ Below w.heap.size w w' := by
  have v0 := errV_none
  have q1 := errG
  have q2 := errGn
  have q3 := errE
  have q4 := errN
  have HS := fun w hl => hid (rSmall_any p v n w hl)
  have HC := fun w => hid (check_any lo hi w)
  have HP := fun B w hl => hid (pcheck_any B p v w hl)
  rw [s1] at HS
  clear s1
  generalize Um.chk lo hi = K at *
  generalize Um.pchk p = P at *
  have hF := (Fr.start w).push lo hi rfl
  obtain ⟨a0, cap0, rfl, -⟩ := (id hl)
  go_enter Tryd.func6, Tryd.ntmps6
  go_wp2_with (first | (go_at_call 17; refine (hid (one_any _)).out.mono ?_; rintro e wn ⟨rfl, hb⟩; replace hF := hF.step hb; clear hb; have x0l := (hF.at 0 rfl).lo; have x0h := (hF.at 0 rfl).hi) | (go_at_call 14; refine (HS _ (hF.li hl)).out.mono ?_; rintro e wn ⟨rfl, rfl⟩) | (go_at_call 18; refine (HC _).out.mono ?_; rintro e wn ⟨rfl, rfl⟩; replace hF := hF.alloc (.cells #[.int .i64 lo, .int .i64 hi] 28); clear x0l x0h; have x0l := (hF.at 0 rfl).lo; have x0h := (hF.at 0 rfl).hi) | (go_at_call 16; refine (HP _ _ (hF.li hl)).out.mono ?_; rintro e wn ⟨rfl, rfl⟩))
  go_returns
  exact ⟨rfl, hF.below⟩

set_option maxRecDepth 100000 in
set_option maxHeartbeats 8000000 in
theorem walk_pre1 (p : List Int) (v : Value) (lo hi least many n : Int) (w : World) (hl : Li w.heap.size w v p) (s1 : Um.small p n = true) (n1 : n < lo) :
    Calls Tryd.prog 6 #[v, .agg #[.int .i64 lo, .int .i64 hi], .int .i64 least, .int .i64 many, .int .i64 n] w fun e w' => e = .returned (.bool true) ∧ Below w.heap.size w w' := by
  have v0 := errV_none
  have q1 := errG
  have q2 := errGn
  have q3 := errE
  have q4 := errN
  have HS := fun w hl => hid (rSmall_any p v n w hl)
  have HE := fun s w hl => hid (rExact_any p v n w hl s)
  have HC := fun w => hid (check_any lo hi w)
  have HP := fun B w hl => hid (pcheck_any B p v w hl)
  rw [s1] at HS
  replace HE := fun w hl => HE s1 w hl
  have t1 : decide (n < lo) = true := by simpa using n1
  clear s1 n1
  generalize Um.exN n p p.length = E at *
  generalize Um.chk lo hi = K at *
  generalize Um.pchk p = P at *
  have hF := (Fr.start w).push lo hi rfl
  obtain ⟨a0, cap0, rfl, -⟩ := (id hl)
  go_enter Tryd.func6, Tryd.ntmps6
  go_wp2_with (first | (go_at_call 17; refine (hid (one_any _)).out.mono ?_; rintro e wn ⟨rfl, hb⟩; replace hF := hF.step hb; clear hb; have x0l := (hF.at 0 rfl).lo; have x0h := (hF.at 0 rfl).hi) | (go_at_call 14; refine (HS _ (hF.li hl)).out.mono ?_; rintro e wn ⟨rfl, rfl⟩) | (go_at_call 15; refine (HE _ (hF.li hl)).out.mono ?_; rintro e wn ⟨rfl, rfl⟩) | (go_at_call 18; refine (HC _).out.mono ?_; rintro e wn ⟨rfl, rfl⟩; replace hF := hF.alloc (.cells #[.int .i64 lo, .int .i64 hi] 28); clear x0l x0h; have x0l := (hF.at 0 rfl).lo; have x0h := (hF.at 0 rfl).hi) | (go_at_call 16; refine (HP _ _ (hF.li hl)).out.mono ?_; rintro e wn ⟨rfl, rfl⟩))
  go_returns
  exact ⟨rfl, hF.below⟩

set_option maxRecDepth 100000 in
set_option maxHeartbeats 8000000 in
theorem walk_pre2 (p : List Int) (v : Value) (lo hi least many n : Int) (w : World) (hl : Li w.heap.size w v p) (s1 : Um.small p n = true) (n1 : ¬ n < lo) (n2 : hi < n) :
    Calls Tryd.prog 6 #[v, .agg #[.int .i64 lo, .int .i64 hi], .int .i64 least, .int .i64 many, .int .i64 n] w fun e w' => e = .returned (.bool true) ∧ Below w.heap.size w w' := by
  have v0 := errV_none
  have q1 := errG
  have q2 := errGn
  have q3 := errE
  have q4 := errN
  have HS := fun w hl => hid (rSmall_any p v n w hl)
  have HE := fun s w hl => hid (rExact_any p v n w hl s)
  have HC := fun w => hid (check_any lo hi w)
  have HP := fun B w hl => hid (pcheck_any B p v w hl)
  rw [s1] at HS
  replace HE := fun w hl => HE s1 w hl
  have t1 : decide (n < lo) = false := by simpa using n1
  have t2 : decide (hi < n) = true := by simpa using n2
  clear s1 n1 n2
  generalize Um.exN n p p.length = E at *
  generalize Um.chk lo hi = K at *
  generalize Um.pchk p = P at *
  have hF := (Fr.start w).push lo hi rfl
  obtain ⟨a0, cap0, rfl, -⟩ := (id hl)
  go_enter Tryd.func6, Tryd.ntmps6
  go_wp2_with (first | (go_at_call 17; refine (hid (one_any _)).out.mono ?_; rintro e wn ⟨rfl, hb⟩; replace hF := hF.step hb; clear hb; have x0l := (hF.at 0 rfl).lo; have x0h := (hF.at 0 rfl).hi) | (go_at_call 14; refine (HS _ (hF.li hl)).out.mono ?_; rintro e wn ⟨rfl, rfl⟩) | (go_at_call 15; refine (HE _ (hF.li hl)).out.mono ?_; rintro e wn ⟨rfl, rfl⟩) | (go_at_call 18; refine (HC _).out.mono ?_; rintro e wn ⟨rfl, rfl⟩; replace hF := hF.alloc (.cells #[.int .i64 lo, .int .i64 hi] 28); clear x0l x0h; have x0l := (hF.at 0 rfl).lo; have x0h := (hF.at 0 rfl).hi) | (go_at_call 16; refine (HP _ _ (hF.li hl)).out.mono ?_; rintro e wn ⟨rfl, rfl⟩))
  go_returns
  exact ⟨rfl, hF.below⟩

set_option maxRecDepth 100000 in
set_option maxHeartbeats 8000000 in
theorem walk_pre3 (p : List Int) (v : Value) (lo hi least many n : Int) (w : World) (hl : Li w.heap.size w v p) (s1 : Um.small p n = true) (n1 : ¬ n < lo) (n2 : ¬ hi < n) (n3 : ¬ Um.exN n p p.length = 0) :
    Calls Tryd.prog 6 #[v, .agg #[.int .i64 lo, .int .i64 hi], .int .i64 least, .int .i64 many, .int .i64 n] w fun e w' => e = .returned (.bool true) ∧ Below w.heap.size w w' := by
  have v0 := errV_none
  have q1 := errG
  have q2 := errGn
  have q3 := errE
  have q4 := errN
  have HS := fun w hl => hid (rSmall_any p v n w hl)
  have HE := fun s w hl => hid (rExact_any p v n w hl s)
  have HC := fun w => hid (check_any lo hi w)
  have HP := fun B w hl => hid (pcheck_any B p v w hl)
  rw [s1] at HS
  replace HE := fun w hl => HE s1 w hl
  have t1 : decide (n < lo) = false := by simpa using n1
  have t2 : decide (hi < n) = false := by simpa using n2
  have t3 : (Um.exN n p p.length != 0) = true := by simpa using n3
  clear s1 n1 n2 n3
  generalize Um.exN n p p.length = E at *
  generalize Um.chk lo hi = K at *
  generalize Um.pchk p = P at *
  have hF := (Fr.start w).push lo hi rfl
  obtain ⟨a0, cap0, rfl, -⟩ := (id hl)
  go_enter Tryd.func6, Tryd.ntmps6
  go_wp2_with (first | (go_at_call 17; refine (hid (one_any _)).out.mono ?_; rintro e wn ⟨rfl, hb⟩; replace hF := hF.step hb; clear hb; have x0l := (hF.at 0 rfl).lo; have x0h := (hF.at 0 rfl).hi) | (go_at_call 14; refine (HS _ (hF.li hl)).out.mono ?_; rintro e wn ⟨rfl, rfl⟩) | (go_at_call 15; refine (HE _ (hF.li hl)).out.mono ?_; rintro e wn ⟨rfl, rfl⟩) | (go_at_call 18; refine (HC _).out.mono ?_; rintro e wn ⟨rfl, rfl⟩; replace hF := hF.alloc (.cells #[.int .i64 lo, .int .i64 hi] 28); clear x0l x0h; have x0l := (hF.at 0 rfl).lo; have x0h := (hF.at 0 rfl).hi) | (go_at_call 16; refine (HP _ _ (hF.li hl)).out.mono ?_; rintro e wn ⟨rfl, rfl⟩))
  go_returns
  exact ⟨rfl, hF.below⟩

set_option maxRecDepth 100000 in
set_option maxHeartbeats 8000000 in
theorem walk_pre4 (p : List Int) (v : Value) (lo hi least many n : Int) (w : World) (hl : Li w.heap.size w v p) (s1 : Um.small p n = true) (n1 : ¬ n < lo) (n2 : ¬ hi < n) (n3 : Um.exN n p p.length = 0) (n4 : ¬ Um.chk lo hi = 0) :
    Calls Tryd.prog 6 #[v, .agg #[.int .i64 lo, .int .i64 hi], .int .i64 least, .int .i64 many, .int .i64 n] w fun e w' => e = .returned (.bool true) ∧ Below w.heap.size w w' := by
  have v0 := errV_none
  have q1 := errG
  have q2 := errGn
  have q3 := errE
  have q4 := errN
  have HS := fun w hl => hid (rSmall_any p v n w hl)
  have HE := fun s w hl => hid (rExact_any p v n w hl s)
  have HC := fun w => hid (check_any lo hi w)
  have HP := fun B w hl => hid (pcheck_any B p v w hl)
  rw [s1] at HS
  replace HE := fun w hl => HE s1 w hl
  have t1 : decide (n < lo) = false := by simpa using n1
  have t2 : decide (hi < n) = false := by simpa using n2
  have t3 : (Um.exN n p p.length != 0) = false := by simpa using n3
  have t4 : (Um.chk lo hi != 0) = true := by simpa using n4
  clear s1 n1 n2 n3 n4
  generalize Um.exN n p p.length = E at *
  generalize Um.chk lo hi = K at *
  generalize Um.pchk p = P at *
  have hF := (Fr.start w).push lo hi rfl
  obtain ⟨a0, cap0, rfl, -⟩ := (id hl)
  go_enter Tryd.func6, Tryd.ntmps6
  go_wp2_with (first | (go_at_call 17; refine (hid (one_any _)).out.mono ?_; rintro e wn ⟨rfl, hb⟩; replace hF := hF.step hb; clear hb; have x0l := (hF.at 0 rfl).lo; have x0h := (hF.at 0 rfl).hi) | (go_at_call 14; refine (HS _ (hF.li hl)).out.mono ?_; rintro e wn ⟨rfl, rfl⟩) | (go_at_call 15; refine (HE _ (hF.li hl)).out.mono ?_; rintro e wn ⟨rfl, rfl⟩) | (go_at_call 18; refine (HC _).out.mono ?_; rintro e wn ⟨rfl, rfl⟩; replace hF := hF.alloc (.cells #[.int .i64 lo, .int .i64 hi] 28); clear x0l x0h; have x0l := (hF.at 0 rfl).lo; have x0h := (hF.at 0 rfl).hi) | (go_at_call 16; refine (HP _ _ (hF.li hl)).out.mono ?_; rintro e wn ⟨rfl, rfl⟩))
  go_returns
  exact ⟨rfl, hF.below⟩

set_option maxRecDepth 100000 in
set_option maxHeartbeats 8000000 in
theorem walk_pre5 (p : List Int) (v : Value) (lo hi least many n : Int) (w : World) (hl : Li w.heap.size w v p) (s1 : Um.small p n = true) (n1 : ¬ n < lo) (n2 : ¬ hi < n) (n3 : Um.exN n p p.length = 0) (n4 : Um.chk lo hi = 0) (n5 : ¬ Um.pchk p = 0) :
    Calls Tryd.prog 6 #[v, .agg #[.int .i64 lo, .int .i64 hi], .int .i64 least, .int .i64 many, .int .i64 n] w fun e w' => e = .returned (.bool true) ∧ Below w.heap.size w w' := by
  have v0 := errV_none
  have q1 := errG
  have q2 := errGn
  have q3 := errE
  have q4 := errN
  have HS := fun w hl => hid (rSmall_any p v n w hl)
  have HE := fun s w hl => hid (rExact_any p v n w hl s)
  have HC := fun w => hid (check_any lo hi w)
  have HP := fun B w hl => hid (pcheck_any B p v w hl)
  rw [s1] at HS
  replace HE := fun w hl => HE s1 w hl
  have t1 : decide (n < lo) = false := by simpa using n1
  have t2 : decide (hi < n) = false := by simpa using n2
  have t3 : (Um.exN n p p.length != 0) = false := by simpa using n3
  have t4 : (Um.chk lo hi != 0) = false := by simpa using n4
  have t5 : (Um.pchk p != 0) = true := by simpa using n5
  clear s1 n1 n2 n3 n4 n5
  generalize Um.exN n p p.length = E at *
  generalize Um.chk lo hi = K at *
  generalize Um.pchk p = P at *
  have hF := (Fr.start w).push lo hi rfl
  obtain ⟨a0, cap0, rfl, -⟩ := (id hl)
  go_enter Tryd.func6, Tryd.ntmps6
  go_wp2_with (first | (go_at_call 17; refine (hid (one_any _)).out.mono ?_; rintro e wn ⟨rfl, hb⟩; replace hF := hF.step hb; clear hb; have x0l := (hF.at 0 rfl).lo; have x0h := (hF.at 0 rfl).hi) | (go_at_call 14; refine (HS _ (hF.li hl)).out.mono ?_; rintro e wn ⟨rfl, rfl⟩) | (go_at_call 15; refine (HE _ (hF.li hl)).out.mono ?_; rintro e wn ⟨rfl, rfl⟩) | (go_at_call 18; refine (HC _).out.mono ?_; rintro e wn ⟨rfl, rfl⟩; replace hF := hF.alloc (.cells #[.int .i64 lo, .int .i64 hi] 28); clear x0l x0h; have x0l := (hF.at 0 rfl).lo; have x0h := (hF.at 0 rfl).hi) | (go_at_call 16; refine (HP _ _ (hF.li hl)).out.mono ?_; rintro e wn ⟨rfl, rfl⟩))
  go_returns
  exact ⟨rfl, hF.below⟩

set_option maxRecDepth 100000 in
set_option maxHeartbeats 8000000 in
theorem walk_err (p : List Int) (v : Value) (lo hi least many n : Int) (w : World) (hl : Li w.heap.size w v p) (s1 : Um.small p n = true) (n1 : ¬ n < lo) (n2 : ¬ hi < n) (n3 : Um.exN n p p.length = 0) (n4 : Um.chk lo hi = 0) (n5 : Um.pchk p = 0) (hf : ¬ (Um.findAll p lo hi least).2 = 0) :
    Calls Tryd.prog 6 #[v, .agg #[.int .i64 lo, .int .i64 hi], .int .i64 least, .int .i64 many, .int .i64 n] w fun e w' => e = .returned (.bool true) ∧ Below w.heap.size w w' := by
  have v0 := errV_none
  have q1 := errG
  have q2 := errGn
  have q3 := errE
  have q4 := errN
  have HS := fun w hl => hid (rSmall_any p v n w hl)
  have HE := fun s w hl => hid (rExact_any p v n w hl s)
  have HC := fun w => hid (check_any lo hi w)
  have HP := fun B w hl => hid (pcheck_any B p v w hl)
  have ho : Um.over p lo hi = 0 := Um.over_ok.2 ⟨n5, n4⟩
  have b1 : lo ≤ n := by omega
  have b2 : n ≤ hi := by omega
  have HSR := fun w hl => hid (srange_any p v lo hi many w hl)
  have HMR := fun w hl => hid (mrange_any p v lo hi w hl)
  have HFD := fun w hl => hid (find_any p v lo hi least w hl)
  have HSZ := hid (fun hs => split_zero (p := p) (many := many) hs b1 b2 n3)
  have HMZ := hid (fun hm => mono_zero ho hm b1 b2 n3)
  have kR : ((Um.findAll p lo hi least).2 != 0) = true := by simpa using hf
  rw [s1] at HS
  replace HE := fun w hl => HE s1 w hl
  have t1 : decide (n < lo) = false := by simpa using n1
  have t2 : decide (hi < n) = false := by simpa using n2
  have t3 : (Um.exN n p p.length != 0) = false := by simpa using n3
  have t4 : (Um.chk lo hi != 0) = false := by simpa using n4
  have t5 : (Um.pchk p != 0) = false := by simpa using n5
  clear s1 n1 n2 n4 n5 n3 hf b1 b2 ho
  generalize Um.exN n p p.length = E at *
  generalize Um.chk lo hi = K at *
  generalize Um.pchk p = P at *
  generalize Um.splitAll p lo hi many = S at *
  generalize Um.monoAll p lo hi = M at *
  generalize Um.findAll p lo hi least = R at *
  have hF := (Fr.start w).push lo hi rfl
  obtain ⟨ap, capp, rfl, -⟩ := (id hl)
  go_enter Tryd.func6, Tryd.ntmps6
  go_upto_region 5 with (first | (go_at_call 17; refine (hid (one_any _)).out.mono ?_; rintro e wn ⟨rfl, hb⟩; replace hF := hF.step hb; clear hb; have x0l := (hF.at 0 rfl).lo; have x0h := (hF.at 0 rfl).hi) | (go_at_call 14; refine (HS _ (hF.li hl)).out.mono ?_; rintro e wn ⟨rfl, rfl⟩))
  go_cut [56] from 21 to 56 (fun v wr => v = .bool false ∧ Fr w wr [(w.heap.size, lo, hi)])
  case first =>
    clear HSR HMR HFD HSZ HMZ
    go_wp2_with (first | (go_at_call 15; refine (HE _ (hF.li hl)).out.mono ?_; rintro e wn ⟨rfl, rfl⟩) | (go_at_call 18; refine (HC _).out.mono ?_; rintro e wn ⟨rfl, rfl⟩; replace hF := hF.alloc (.cells #[.int .i64 lo, .int .i64 hi] 28); clear x0l x0h; have x0l := (hF.at 0 rfl).lo; have x0h := (hF.at 0 rfl).hi) | (go_at_call 16; refine (HP _ _ (hF.li hl)).out.mono ?_; rintro e wn ⟨rfl, rfl⟩))
    go_meet
    case rel => exact ⟨rfl, hF⟩
  case rest =>
    clear hF x0l x0h HE HC HP t1 t2 t3 t4 t5
    obtain ⟨rfl, hF⟩ := hcut
    have x0l := (hF.at 0 rfl).lo
    have x0h := (hF.at 0 rfl).hi
    go_upto_region 8 with (first | (go_at_call 19; refine (HSR _ (hF.li hl)).out.mono ?_; rintro e wn ⟨rfl, hb⟩; replace hF := hF.step hb; clear hb; clear x0l x0h; replace hF := hF.push S.1 S.2.1 rfl; have x0l := (hF.at 0 rfl).lo; have x0h := (hF.at 0 rfl).hi; have x1l := (hF.at 1 rfl).lo; have x1h := (hF.at 1 rfl).hi))
    go_cut [75] from 57 to 75 (fun v wr => v = .bool false ∧ Fr w wr [(w.heap.size, lo, hi)])
    case first =>
      clear HMR HFD HMZ HSR
      by_cases h : S.2.2 = 0
      · have k : (S.2.2 == 0) = true := by simpa using h
        obtain ⟨g1, g2⟩ := HSZ.out h
        have c1 : decide (0 < S.1) = false := by simpa using g1
        have c2 : decide (S.2.1 < 0) = false := by simpa using g2
        clear h g1 g2 HSZ
        go_wp2
        go_meet
        case rel => exact ⟨rfl, hF.drop⟩
      · have k : (S.2.2 == 0) = false := by simpa using h
        clear h HSZ
        go_wp2
        go_meet
        case rel => exact ⟨rfl, hF.drop⟩
    case rest =>
      clear hF x0l x0h x1l x1h HSR HSZ
      obtain ⟨rfl, hF⟩ := hcut
      have x0l := (hF.at 0 rfl).lo
      have x0h := (hF.at 0 rfl).hi
      go_upto_region 11 with (first | (go_at_call 20; refine (HMR _ (hF.li hl)).out.mono ?_; rintro e wn ⟨rfl, hb⟩; replace hF := hF.step hb; clear hb; clear x0l x0h; replace hF := hF.push M.1 M.2.1 rfl; have x0l := (hF.at 0 rfl).lo; have x0h := (hF.at 0 rfl).hi; have x1l := (hF.at 1 rfl).lo; have x1h := (hF.at 1 rfl).hi))
      go_cut [93] from 76 to 93 (fun v wr => v = .bool false ∧ Fr w wr [(w.heap.size, lo, hi)])
      case first =>
        clear HFD HMR
        by_cases h : M.2.2 = 0
        · have k : (M.2.2 == 0) = true := by simpa using h
          obtain ⟨g1, g2⟩ := HMZ.out h
          have c1 : decide (0 < M.1) = false := by simpa using g1
          have c2 : decide (M.2.1 < 0) = false := by simpa using g2
          clear h g1 g2 HMZ
          go_wp2
          go_meet
          case rel => exact ⟨rfl, hF.drop⟩
        · have k : (M.2.2 == 0) = false := by simpa using h
          clear h HMZ
          go_wp2
          go_meet
          case rel => exact ⟨rfl, hF.drop⟩
      case rest =>
        clear hF x0l x0h x1l x1h HMR HMZ
        obtain ⟨rfl, hF⟩ := hcut
        have x0l := (hF.at 0 rfl).lo
        have x0h := (hF.at 0 rfl).hi
        go_wp2_with (first | (go_at_call 7; refine (HFD _ (hF.li hl)).out.mono ?_; rintro e wn ⟨u, rfl, hs, hb⟩; replace hF := hF.step hb; clear hb; clear x0l x0h; obtain ⟨a1, cap1, rfl, -⟩ := (id hs)))
        go_returns
        exact ⟨rfl, hF.below⟩

set_option maxRecDepth 100000 in
set_option maxHeartbeats 8000000 in
theorem walk_main (p : List Int) (v : Value) (lo hi least many n : Int) (w : World) (hl : Li w.heap.size w v p) (hg : HasErr w) (s1 : Um.small p n = true) (n1 : ¬ n < lo) (n2 : ¬ hi < n) (n3 : Um.exN n p p.length = 0) (n4 : Um.chk lo hi = 0) (n5 : Um.pchk p = 0) (hf : (Um.findAll p lo hi least).2 = 0) :
    Calls Tryd.prog 6 #[v, .agg #[.int .i64 lo, .int .i64 hi], .int .i64 least, .int .i64 many, .int .i64 n] w fun e w' => e = .returned (.bool true) ∧ Below w.heap.size w w' := by
  have v0 := errV_none
  have q1 := errG
  have q2 := errGn
  have q3 := errE
  have q4 := errN
  have HS := fun w hl => hid (rSmall_any p v n w hl)
  have HE := fun s w hl => hid (rExact_any p v n w hl s)
  have HC := fun w => hid (check_any lo hi w)
  have HP := fun B w hl => hid (pcheck_any B p v w hl)
  have ho : Um.over p lo hi = 0 := Um.over_ok.2 ⟨n5, n4⟩
  have b1 : lo ≤ n := by omega
  have b2 : n ≤ hi := by omega
  have HSR := fun w hl => hid (srange_any p v lo hi many w hl)
  have HMR := fun w hl => hid (mrange_any p v lo hi w hl)
  have HFD := fun w hl => hid (find_any p v lo hi least w hl)
  have HSZ := hid (fun hs => split_zero (p := p) (many := many) hs b1 b2 n3)
  have HMZ := hid (fun hm => mono_zero ho hm b1 b2 n3)
  have kR : ((Um.findAll p lo hi least).2 != 0) = false := by simpa using hf
  have HI := hid (Um.nought_in hf b1 b2 n3)
  have HR0 := hid (Um.find_row hf)
  have H32 := Um.find_most p lo hi least
  have HOV := hid ho
  have HZ := hid n3
  have HNE : Hid ((Um.findAll p lo hi least).1 ≠ []) := fun e => by
    have := HI.out
    rw [e] at this
    cases this
  rw [s1] at HS
  replace HE := fun w hl => HE s1 w hl
  have t1 : decide (n < lo) = false := by simpa using n1
  have t2 : decide (hi < n) = false := by simpa using n2
  have t3 : (Um.exN n p p.length != 0) = false := by simpa using n3
  have t4 : (Um.chk lo hi != 0) = false := by simpa using n4
  have t5 : (Um.pchk p != 0) = false := by simpa using n5
  clear s1 n1 n2 n4 n5 n3 hf b1 b2 ho
  generalize Um.chk lo hi = K at *
  generalize Um.pchk p = P at *
  generalize Um.splitAll p lo hi many = S at *
  generalize Um.monoAll p lo hi = M at *
  generalize Um.findAll p lo hi least = R at *
  have hF := (Fr.start w).push lo hi rfl
  obtain ⟨ap, capp, rfl, -⟩ := (id hl)
  go_enter Tryd.func6, Tryd.ntmps6
  go_upto_region 5 with (first | (go_at_call 17; refine (hid (one_any _)).out.mono ?_; rintro e wn ⟨rfl, hb⟩; replace hF := hF.step hb; clear hb; have x0l := (hF.at 0 rfl).lo; have x0h := (hF.at 0 rfl).hi) | (go_at_call 14; refine (HS _ (hF.li hl)).out.mono ?_; rintro e wn ⟨rfl, rfl⟩))
  go_cut [56] from 21 to 56 (fun v wr => v = .bool false ∧ Fr w wr [(w.heap.size, lo, hi)])
  case first =>
    clear HSR HMR HFD HSZ HMZ
    go_wp2_with (first | (go_at_call 15; refine (HE _ (hF.li hl)).out.mono ?_; rintro e wn ⟨rfl, rfl⟩) | (go_at_call 18; refine (HC _).out.mono ?_; rintro e wn ⟨rfl, rfl⟩; replace hF := hF.alloc (.cells #[.int .i64 lo, .int .i64 hi] 28); clear x0l x0h; have x0l := (hF.at 0 rfl).lo; have x0h := (hF.at 0 rfl).hi) | (go_at_call 16; refine (HP _ _ (hF.li hl)).out.mono ?_; rintro e wn ⟨rfl, rfl⟩))
    go_meet
    case rel => exact ⟨rfl, hF⟩
  case rest =>
    clear hF x0l x0h HE HC HP t1 t2 t3 t4 t5
    obtain ⟨rfl, hF⟩ := hcut
    have x0l := (hF.at 0 rfl).lo
    have x0h := (hF.at 0 rfl).hi
    go_upto_region 8 with (first | (go_at_call 19; refine (HSR _ (hF.li hl)).out.mono ?_; rintro e wn ⟨rfl, hb⟩; replace hF := hF.step hb; clear hb; clear x0l x0h; replace hF := hF.push S.1 S.2.1 rfl; have x0l := (hF.at 0 rfl).lo; have x0h := (hF.at 0 rfl).hi; have x1l := (hF.at 1 rfl).lo; have x1h := (hF.at 1 rfl).hi))
    go_cut [75] from 57 to 75 (fun v wr => v = .bool false ∧ Fr w wr [(w.heap.size, lo, hi)])
    case first =>
      clear HMR HFD HMZ HSR
      by_cases h : S.2.2 = 0
      · have k : (S.2.2 == 0) = true := by simpa using h
        obtain ⟨g1, g2⟩ := HSZ.out h
        have c1 : decide (0 < S.1) = false := by simpa using g1
        have c2 : decide (S.2.1 < 0) = false := by simpa using g2
        clear h g1 g2 HSZ
        go_wp2
        go_meet
        case rel => exact ⟨rfl, hF.drop⟩
      · have k : (S.2.2 == 0) = false := by simpa using h
        clear h HSZ
        go_wp2
        go_meet
        case rel => exact ⟨rfl, hF.drop⟩
    case rest =>
      clear hF x0l x0h x1l x1h HSR HSZ
      obtain ⟨rfl, hF⟩ := hcut
      have x0l := (hF.at 0 rfl).lo
      have x0h := (hF.at 0 rfl).hi
      go_upto_region 11 with (first | (go_at_call 20; refine (HMR _ (hF.li hl)).out.mono ?_; rintro e wn ⟨rfl, hb⟩; replace hF := hF.step hb; clear hb; clear x0l x0h; replace hF := hF.push M.1 M.2.1 rfl; have x0l := (hF.at 0 rfl).lo; have x0h := (hF.at 0 rfl).hi; have x1l := (hF.at 1 rfl).lo; have x1h := (hF.at 1 rfl).hi))
      go_cut [93] from 76 to 93 (fun v wr => v = .bool false ∧ Fr w wr [(w.heap.size, lo, hi)])
      case first =>
        clear HFD HMR
        by_cases h : M.2.2 = 0
        · have k : (M.2.2 == 0) = true := by simpa using h
          obtain ⟨g1, g2⟩ := HMZ.out h
          have c1 : decide (0 < M.1) = false := by simpa using g1
          have c2 : decide (M.2.1 < 0) = false := by simpa using g2
          clear h g1 g2 HMZ
          go_wp2
          go_meet
          case rel => exact ⟨rfl, hF.drop⟩
        · have k : (M.2.2 == 0) = false := by simpa using h
          clear h HMZ
          go_wp2
          go_meet
          case rel => exact ⟨rfl, hF.drop⟩
      case rest =>
        clear hF x0l x0h x1l x1h HMR HMZ
        obtain ⟨rfl, hF⟩ := hcut
        have x0l := (hF.at 0 rfl).lo
        have x0h := (hF.at 0 rfl).hi
        go_wp2_with (first | (go_at_call 7; refine (HFD _ (hF.li hl)).out.mono ?_; rintro e wn ⟨u, rfl, hs, hb⟩; replace hF := hF.step hb; clear hb; clear x0l x0h; obtain ⟨b1, off1, cap1, rfl, hcap1, hA⟩ := hs.open HNE.out; clear hs HNE))
        clear HFD
        replace hF := hF.drop
        go_loopw [17, 18] (fun u i wr => ∃ k : Nat, k ≤ R.1.length ∧ i = .int .i64 k ∧ u = .bool (Um.inL R.1 n k) ∧ Fr w wr [] ∧ LsAt wr b1 off1 R.1) (fun _ i _ => R.1.length - (intOf i).toNat)
        case atStart => exact ⟨0, Nat.zero_le _, rfl, rfl, hF, hA⟩
        case round =>
          clear hF hA
          obtain ⟨k, hk, rfl, rfl, hF, hA⟩ := hrel
          by_cases hkl : k < R.1.length
          · have HB := hid (Um.inL_succ R.1 n k)
            have hkk : (k : Int) < (R.1.length : Int) := by omega
            obtain ⟨⟨C0, C1⟩, hs⟩ : ∃ s, R.1[k]? = some s := ⟨_, List.getElem?_eq_getElem hkl⟩
            have e : R.1[k]?.getD (0, 0) = (C0, C1) := by rw [hs]; rfl
            rw [e] at HB
            obtain ⟨g1, g2, g3, g4⟩ := HR0.out.1 k _ hs
            simp only at HB g1 g2 g3 g4
            have z0 := hA.lo k hs rfl
            have z1 := hA.hi k hs rfl
            simp only at z0 z1
            have H5 := fun c d => run_five (n := n) (Um.over_in HOV.out g1 g2 g3) c d HZ.out
            have HY := fun w hl => hid (run_any p (.slice ap p.length capp) C0 C1 5 w hl)
            clear e hs g1 g2 g3 g4 HR0 HI HOV HZ
            generalize Um.inL R.1 n k = H at *
            by_cases u1 : n < C0
            · have t6 : decide (n < C0) = true := by simpa using u1
              have t6' : decide (C0 ≤ n) = false := decide_eq_false (by omega)
              rw [t6'] at HB
              clear u1 H5 HY
              go_wp2
              exact ⟨⟨k + 1, by omega, by simp, by first | (rw [HB.out]; done) | (rw [HB.out]; simp), hF, hA⟩, by simp [intOf] <;> omega⟩
            · have t6 : decide (n < C0) = false := by simpa using u1
              have t6' : decide (C0 ≤ n) = true := decide_eq_true (by omega)
              by_cases u2 : C1 < n
              · have t7 : decide (C1 < n) = true := by simpa using u2
                have t7' : decide (n ≤ C1) = false := decide_eq_false (by omega)
                rw [t6', t7'] at HB
                clear u1 u2 H5 HY
                go_wp2
                exact ⟨⟨k + 1, by omega, by simp, by first | (rw [HB.out]; done) | (rw [HB.out]; simp), hF, hA⟩, by simp [intOf] <;> omega⟩
              · have t7 : decide (C1 < n) = false := by simpa using u2
                have t7' : decide (n ≤ C1) = true := decide_eq_true (by omega)
                rw [t6', t7'] at HB
                obtain ⟨y1, y2⟩ := H5 (by omega) (by omega)
                clear u1 u2 H5
                generalize Um.runAll p C0 C1 5 = Y at *
                have k5 : (Y.2.2 == 5) = false := by simpa using y2
                by_cases y0 : Y.2.2 = 0
                · have kY : (Y.2.2 == 0) = true := by simpa using y0
                  obtain ⟨y3, y4⟩ := y1 y0
                  have t8 : decide (n < Y.1) = false := decide_eq_false (by omega)
                  have t9 : decide (Y.2.1 < n) = false := decide_eq_false (by omega)
                  clear y0 y1 y2 y3 y4
                  go_wp2_with (first | (go_at_call 13; refine (HY _ (hF.li hl)).out.mono ?_; rintro e wn ⟨rfl, hb⟩; replace hF := hF.step hb; replace hA := hA.step hb; clear hb z0 z1; replace hF := hF.push Y.1 Y.2.1 rfl; replace hA := hA.alloc (.cells #[.int .i64 Y.1, .int .i64 Y.2.1] 28); have x0l := (hF.at 0 rfl).lo; have x0h := (hF.at 0 rfl).hi) | (go_at_call 8; refine (hid (same_any _ _ _ (hg.below (B := w.heap.size) hF.below hg.size))).out.mono ?_; rintro e wn ⟨rfl, hb⟩; replace hF := hF.step hb; replace hA := hA.step hb; clear hb))
                  exact ⟨⟨k + 1, by omega, by simp, by first | (rw [HB.out]; done) | (rw [HB.out]; simp), hF.drop, hA⟩, by simp [intOf] <;> omega⟩
                · have kY : (Y.2.2 == 0) = false := by simpa using y0
                  clear y0 y1 y2
                  go_wp2_with (first | (go_at_call 13; refine (HY _ (hF.li hl)).out.mono ?_; rintro e wn ⟨rfl, hb⟩; replace hF := hF.step hb; replace hA := hA.step hb; clear hb z0 z1; replace hF := hF.push Y.1 Y.2.1 rfl; replace hA := hA.alloc (.cells #[.int .i64 Y.1, .int .i64 Y.2.1] 28); have x0l := (hF.at 0 rfl).lo; have x0h := (hF.at 0 rfl).hi) | (go_at_call 8; refine (hid (same_any _ _ _ (hg.below (B := w.heap.size) hF.below hg.size))).out.mono ?_; rintro e wn ⟨rfl, hb⟩; replace hF := hF.step hb; replace hA := hA.step hb; clear hb))
                  exact ⟨⟨k + 1, by omega, by simp, by first | (rw [HB.out]; done) | (rw [HB.out]; simp), hF.drop, hA⟩, by simp [intOf] <;> omega⟩
          · obtain rfl : k = R.1.length := by omega
            have hin := HI.out
            rw [hin]
            clear hin HI HR0 HOV HZ
            go_wp2
            go_returns
            exact ⟨rfl, hF.below⟩

theorem walk (p : List Int) (v : Value) (lo hi least many n : Int) (w : World) (hg : HasErr w) (hl : Li w.heap.size w v p) :
    Calls Tryd.prog 6 #[v, .agg #[.int .i64 lo, .int .i64 hi], .int .i64 least, .int .i64 many, .int .i64 n] w fun e w' => e = .returned (.bool true) ∧ Below w.heap.size w w' := by
  cases s1 : Um.small p n
  · exact walk_pre0 p v lo hi least many n w hl s1
  by_cases n1 : n < lo
  · exact walk_pre1 p v lo hi least many n w hl s1 n1
  by_cases n2 : hi < n
  · exact walk_pre2 p v lo hi least many n w hl s1 n1 n2
  by_cases n3 : Um.exN n p p.length = 0
  case neg => exact walk_pre3 p v lo hi least many n w hl s1 n1 n2 n3
  by_cases n4 : Um.chk lo hi = 0
  case neg => exact walk_pre4 p v lo hi least many n w hl s1 n1 n2 n3 n4
  by_cases n5 : Um.pchk p = 0
  case neg => exact walk_pre5 p v lo hi least many n w hl s1 n1 n2 n3 n4 n5
  by_cases hf : (Um.findAll p lo hi least).2 = 0
  · exact walk_main p v lo hi least many n w hl hg s1 n1 n2 n3 n4 n5 hf
  · exact walk_err p v lo hi least many n w hl s1 n1 n2 n3 n4 n5 hf
end Go.Proofs.YthoiiffdigkodaaDoor.TRoots
