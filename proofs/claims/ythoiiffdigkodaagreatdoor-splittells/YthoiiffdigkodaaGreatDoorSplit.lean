/-
  What package split answers: overAll of the pieces of a span, Range at every argument.
-/
import Derived.Test.YthoiiffdigkodaaGreatDoorMono
import Derived.Test.YthoiiffdigkodaaGreatDoorSplitP
import Derived.Test.YthoiiffdigkodaaGreatDoorMaths
namespace Go.Proofs.YthoiiffdigkodaaGreatDoor
set_option linter.unusedSimpArgs false
open Go.RowKit

set_option maxRecDepth 100000 in
set_option maxHeartbeats 8000000 in
theorem overAll_none (p : List Int) (v : Value) (u : Value) (lo hi many : Int) (n : Nat) (w : World) (hl : Li w.heap.size w v p) (hs : Ls w.heap.size w u (Um.cuts lo hi many n)) (hn : many = n) (h1 : 1 ≤ n) (h32 : n ≤ 32) (ho : Um.over p lo hi = 0) (h : ¬ (Um.monoR (Um.cutR lo hi many 0) (Um.cutR lo hi many 1) p).2.2 = 0) :
    Calls Tryz.prog 30 #[v, u] w fun e w' => e = .returned (.tuple #[.agg #[.int .i64 (Um.spR lo hi many p n).1, .int .i64 (Um.spR lo hi many p n).2.1], errV (Um.spR lo hi many p n).2.2]) ∧ Below w.heap.size w w' := by
  have v0 := errV_none
  have q1 := errG
  have q2 := errGn
  have q3 := errE
  have q4 := errN
  have HM := fun i (hi' : i < n) w hl => by
    have := mrange_any p v (Um.cutR lo hi many i) (Um.cutR lo hi many (i + 1)) w hl
    unfold Um.monoAll at this
    rw [if_pos (Um.piece_over ho hn (by omega) hi')] at this
    exact hid this
  obtain ⟨b, off, cap, rfl, hcap, hlt, hcs⟩ := hs.out (by intro e; have := congrArg List.length e; rw [Um.cuts_length] at this; simp at this; omega)
  rw [Um.cuts_length] at *
  have HC : Hid (∀ j, j < n → w.cell? ⟨b, off + j * 2, none⟩ = some (.int .i64 (Um.cutR lo hi many j)) ∧ w.cell? ⟨b, off + j * 2 + 1, none⟩ = some (.int .i64 (Um.cutR lo hi many (j + 1)))) := by
    intro j hj
    have := hcs j hj
    rw [Um.cuts_at hj] at this
    exact this
  have c0 : w.cell? ⟨b, off, none⟩ = some (.int .i64 (Um.cutR lo hi many 0)) := (HC.out 0 (by omega)).1
  have c1 : w.cell? ⟨b, off + 1, none⟩ = some (.int .i64 (Um.cutR lo hi many 1)) := (HC.out 0 (by omega)).2
  have H0 := fun w hl => HM 0 (by omega) w hl
  rw [show 0 + 1 = 1 from rfl] at H0
  clear hcs hs
  have hF := (Fr.start w).push 0 0 rfl
  have z0 := (hF.below.cell (p := ⟨b, off, none⟩) hlt).trans c0
  have z1 := (hF.below.cell (p := ⟨b, off + 1, none⟩) hlt).trans c1
  clear c0 c1
  obtain ⟨a0, cap0, rfl, -⟩ := (id hl)
  have HX : Hid (Um.spR lo hi many p n = (0, 0, (Um.monoR (Um.cutR lo hi many 0) (Um.cutR lo hi many 1) p).2.2)) := Um.sp_bad (k := 0) (by omega) h
  have k : ((Um.monoR (Um.cutR lo hi many 0) (Um.cutR lo hi many 1) p).2.2 != 0) = true := by simpa using h
  clear h HM HC
  generalize Um.spR lo hi many p n = R at *
  generalize Um.cutR lo hi many 0 = C0 at *
  generalize Um.cutR lo hi many 1 = C1 at *
  generalize Um.monoR C0 C1 p = M at *
  go_enter Tryz.func30, Tryz.ntmps30
  go_wp2_with (go_at_call 31; refine (H0 _ (hF.li hl)).out.mono ?_; rintro e wn ⟨rfl, hb⟩; replace hF := hF.step hb; clear hb; clear z0 z1; have y1 := (hF.at 0 rfl).fl; have y2 := (hF.at 0 rfl).fh; have y3 := (hF.at 0 rfl).lo; have y4 := (hF.at 0 rfl).hi; have y5 := (hF.at 0 rfl).lt; have y6 := (((hF.at 0 rfl).set 0 0).alloc (.cells #[.int .i64 M.1, .int .i64 M.2.1] 24)).lo; have y7 := (((hF.at 0 rfl).set 0 0).alloc (.cells #[.int .i64 M.1, .int .i64 M.2.1] 24)).hi)
  refine bodyPost_ret (by simp [results, Tryz.results30, go_sem, y6, y7]; try rfl) rfl ?_
  rw [HX.out]
  exact ⟨rfl, ((hF.put 0 rfl _ _ rfl).alloc _).below⟩

set_option maxRecDepth 100000 in
set_option maxHeartbeats 8000000 in
theorem overAll_more (p : List Int) (v : Value) (u : Value) (lo hi many : Int) (n : Nat) (w : World) (hl : Li w.heap.size w v p) (hs : Ls w.heap.size w u (Um.cuts lo hi many n)) (hn : many = n) (h1 : 1 ≤ n) (h32 : n ≤ 32) (ho : Um.over p lo hi = 0) (h2 : 2 ≤ n) (h : (Um.monoR (Um.cutR lo hi many 0) (Um.cutR lo hi many 1) p).2.2 = 0) :
    Calls Tryz.prog 30 #[v, u] w fun e w' => e = .returned (.tuple #[.agg #[.int .i64 (Um.spR lo hi many p n).1, .int .i64 (Um.spR lo hi many p n).2.1], errV (Um.spR lo hi many p n).2.2]) ∧ Below w.heap.size w w' := by
  have v0 := errV_none
  have q1 := errG
  have q2 := errGn
  have q3 := errE
  have q4 := errN
  have HM := fun i (hi' : i < n) w hl => by
    have := mrange_any p v (Um.cutR lo hi many i) (Um.cutR lo hi many (i + 1)) w hl
    unfold Um.monoAll at this
    rw [if_pos (Um.piece_over ho hn (by omega) hi')] at this
    exact hid this
  obtain ⟨b, off, cap, rfl, hcap, hlt, hcs⟩ := hs.out (by intro e; have := congrArg List.length e; rw [Um.cuts_length] at this; simp at this; omega)
  rw [Um.cuts_length] at *
  have HC : Hid (∀ j, j < n → w.cell? ⟨b, off + j * 2, none⟩ = some (.int .i64 (Um.cutR lo hi many j)) ∧ w.cell? ⟨b, off + j * 2 + 1, none⟩ = some (.int .i64 (Um.cutR lo hi many (j + 1)))) := by
    intro j hj
    have := hcs j hj
    rw [Um.cuts_at hj] at this
    exact this
  have c0 : w.cell? ⟨b, off, none⟩ = some (.int .i64 (Um.cutR lo hi many 0)) := (HC.out 0 (by omega)).1
  have c1 : w.cell? ⟨b, off + 1, none⟩ = some (.int .i64 (Um.cutR lo hi many 1)) := (HC.out 0 (by omega)).2
  have H0 := fun w hl => HM 0 (by omega) w hl
  rw [show 0 + 1 = 1 from rfl] at H0
  clear hcs hs
  have hF := (Fr.start w).push 0 0 rfl
  have z0 := (hF.below.cell (p := ⟨b, off, none⟩) hlt).trans c0
  have z1 := (hF.below.cell (p := ⟨b, off + 1, none⟩) hlt).trans c1
  clear c0 c1
  obtain ⟨a0, cap0, rfl, -⟩ := (id hl)
  have k : ((Um.monoR (Um.cutR lo hi many 0) (Um.cutR lo hi many 1) p).2.2 != 0) = false := by simpa using h
  have S0 : Hid ((Um.spR lo hi many p (0 + 1)).2.2 = 0 ∧ (Um.spR lo hi many p (0 + 1)).1 = (Um.monoR (Um.cutR lo hi many 0) (Um.cutR lo hi many 1) p).1 ∧ (Um.spR lo hi many p (0 + 1)).2.1 = (Um.monoR (Um.cutR lo hi many 0) (Um.cutR lo hi many 1) p).2.1) := by
    have e := Um.sp_first h
    show (Um.spR lo hi many p 1).2.2 = 0 ∧ (Um.spR lo hi many p 1).1 = _ ∧ (Um.spR lo hi many p 1).2.1 = _
    rw [e]
    exact ⟨h, rfl, rfl⟩
  have SC := fun j (h0 : 0 < j) (hj : j ≤ n) hz => hid (Um.sp_chk ho hn (by omega) j h0 hj hz)
  have MC := fun j (hj : j < n) hz => hid (Um.mono_chk (Um.piece_over ho hn (by omega) hj) hz)
  have hc1 : ¬ cap = 1 := by omega
  clear h ho hn
  generalize Um.cutR lo hi many 0 = C0 at *
  generalize Um.cutR lo hi many 1 = C1 at *
  generalize Um.monoR C0 C1 p = M at *
  go_enter Tryz.func30, Tryz.ntmps30
  go_wp2_with (go_at_call 31; refine (H0 _ (hF.li hl)).out.mono ?_; rintro e wn ⟨rfl, hb⟩; replace hF := hF.step hb; clear hb; clear z0 z1; replace hF := hF.push M.1 M.2.1 rfl; clear H0)
  generalize wn.heap.size = B1 at *
  go_loopw [27] (fun i wr => ∃ k : Nat, k + 1 ≤ n ∧ i = .int .i64 k ∧ Fr w wr [(B1, (Um.spR lo hi many p (k + 1)).1, (Um.spR lo hi many p (k + 1)).2.1), (w.heap.size, 0, 0)] ∧ Hid ((Um.spR lo hi many p (k + 1)).2.2 = 0)) (fun i _ => n - (intOf i).toNat)
  case atStart => exact ⟨0, by omega, rfl, by rw [S0.out.2.1, S0.out.2.2]; exact hF, S0.out.1⟩
  case round =>
    clear hF S0
    obtain ⟨k, hk, rfl, hF, hz⟩ := hrel
    by_cases hkl : k + 1 < n
    · have hkk : (k : Int) < ((n - 1 : Nat) : Int) := by omega
      have H1 := fun w hl => HM (k + 1) hkl w hl
      have c0 : w.cell? ⟨b, off + 2 + k * 2, none⟩ = some (.int .i64 (Um.cutR lo hi many (k + 1))) := by
        have := (HC.out (k + 1) hkl).1
        rw [show off + (k + 1) * 2 = off + 2 + k * 2 by omega] at this
        exact this
      have c1 : w.cell? ⟨b, off + 2 + k * 2 + 1, none⟩ = some (.int .i64 (Um.cutR lo hi many (k + 1 + 1))) := by
        have := (HC.out (k + 1) hkl).2
        rw [show off + (k + 1) * 2 + 1 = off + 2 + k * 2 + 1 by omega] at this
        exact this
      have z0 := (hF.below.cell (p := ⟨b, off + 2 + k * 2, none⟩) hlt).trans c0
      have z1 := (hF.below.cell (p := ⟨b, off + 2 + k * 2 + 1, none⟩) hlt).trans c1
      have HS := SC (k + 1) (by omega) (by omega) hz.out
      have HN := fun h2 => hid (Um.sp_next hz.out h2)
      have HG := fun h2 => MC (k + 1) hkl h2
      have HX := fun h2 => hid (Um.sp_bad (lo := lo) (hi := hi) (many := many) (p := p) hkl h2)
      clear HC MC SC HM hz c0 c1
      generalize Um.spR lo hi many p (k + 1) = A at *
      generalize Um.cutR lo hi many (k + 1) = D0 at *
      generalize Um.cutR lo hi many (k + 1 + 1) = D1 at *
      generalize Um.monoR D0 D1 p = N at *
      replace hF := hF.push D0 D1 rfl
      by_cases hN : N.2.2 = 0
      · have kN : (N.2.2 != 0) = false := by simpa using hN
        have HH := fun w => by
          have := hull_any A.1 A.2.1 N.1 N.2.1 w
          rw [Um.made_good HS.out (HG hN).out] at this
          exact hid this
        have HR := HN hN
        have HZ : Hid ((Um.hullR A.1 A.2.1 N.1 N.2.1).2.2 = 0) := hid rfl
        have kH : ((Um.hullR A.1 A.2.1 N.1 N.2.1).2.2 != 0) = false := rfl
        clear HX HG HS HN hN
        generalize Um.hullR A.1 A.2.1 N.1 N.2.1 = R at *
        go_wp2_with (first | (go_at_call 31; refine (H1 _ (hF.li hl)).out.mono ?_; rintro e wn ⟨rfl, hb⟩; replace hF := hF.step hb; clear hb; clear z0 z1 H1; replace hF := hF.push N.1 N.2.1 rfl; have x0l := (hF.at 0 rfl).lo; have x0h := (hF.at 0 rfl).hi; have x2l := (hF.at 2 rfl).lo; have x2h := (hF.at 2 rfl).hi) | (go_at_call 50; refine (HH _).out.mono ?_; rintro e wn ⟨rfl, hb⟩; replace hF := hF.step hb; clear hb; clear x0l x0h x2l x2h; clear HH; have y1 := (hF.at 2 rfl).fl; have y2 := (hF.at 2 rfl).fh; have y3 := (hF.at 2 rfl).lo; have y4 := (hF.at 2 rfl).hi; have y6 := (hF.at 2 rfl).r0; have y7 := (hF.at 2 rfl).r1))
        replace hF := ((hF.put 2 rfl R.1 R.2.1 rfl).drop).drop
        exact ⟨⟨k + 1, by omega, by simp, by rw [HR.out]; exact hF, by rw [HR.out]; exact HZ⟩, by simp [intOf]; omega⟩
      · have kN : (N.2.2 != 0) = true := by simpa using hN
        have HY := HX hN
        clear HX HG HS HN hN
        go_wp2_with (go_at_call 31; refine (H1 _ (hF.li hl)).out.mono ?_; rintro e wn ⟨rfl, hb⟩; replace hF := hF.step hb; clear hb; clear z0 z1 H1; have y1 := (hF.at 2 rfl).fl; have y2 := (hF.at 2 rfl).fh; have y3 := (hF.at 2 rfl).lo; have y4 := (hF.at 2 rfl).hi; have y5 := (hF.at 2 rfl).lt; have y6 := (((hF.at 2 rfl).set 0 0).alloc (.cells #[.int .i64 N.1, .int .i64 N.2.1] 24)).lo; have y7 := (((hF.at 2 rfl).set 0 0).alloc (.cells #[.int .i64 N.1, .int .i64 N.2.1] 24)).hi)
        refine bodyPost_ret (by simp [results, Tryz.results30, go_sem, y6, y7]; try rfl) rfl ?_
        rw [HY.out]
        exact ⟨rfl, ((hF.put 2 rfl _ _ rfl).alloc _).below⟩
    · obtain rfl : n = k + 1 := by omega
      have x0l := (hF.at 0 rfl).lo
      have x0h := (hF.at 0 rfl).hi
      have y1 := (hF.at 1 rfl).fl; have y2 := (hF.at 1 rfl).fh; have y3 := (hF.at 1 rfl).lo; have y4 := (hF.at 1 rfl).hi; have y6 := (hF.at 1 rfl).r0; have y7 := (hF.at 1 rfl).r1
      have HX : Hid (Um.spR lo hi many p (k + 1) = ((Um.spR lo hi many p (k + 1)).1, (Um.spR lo hi many p (k + 1)).2.1, 0)) := by rw [← hz.out]; exact hid rfl
      clear hz HC MC SC HM
      go_wp2
      refine bodyPost_ret (by simp [results, Tryz.results30, go_sem, y6, y7]; try rfl) rfl ?_
      rw [HX.out]
      exact ⟨rfl, (hF.put 1 rfl _ _ rfl).below⟩

set_option maxRecDepth 100000 in
set_option maxHeartbeats 8000000 in
theorem overAll_one (p : List Int) (v : Value) (u : Value) (lo hi many : Int) (n : Nat) (w : World) (hl : Li w.heap.size w v p) (hs : Ls w.heap.size w u (Um.cuts lo hi many n)) (hn : many = n) (ho : Um.over p lo hi = 0) (h2 : n = 1) (h : (Um.monoR (Um.cutR lo hi many 0) (Um.cutR lo hi many 1) p).2.2 = 0) :
    Calls Tryz.prog 30 #[v, u] w fun e w' => e = .returned (.tuple #[.agg #[.int .i64 (Um.spR lo hi many p n).1, .int .i64 (Um.spR lo hi many p n).2.1], errV (Um.spR lo hi many p n).2.2]) ∧ Below w.heap.size w w' := by
  have v0 := errV_none
  have q1 := errG
  have q2 := errGn
  have q3 := errE
  have q4 := errN
  have HM := fun i (hi' : i < n) w hl => by
    have := mrange_any p v (Um.cutR lo hi many i) (Um.cutR lo hi many (i + 1)) w hl
    unfold Um.monoAll at this
    rw [if_pos (Um.piece_over ho hn (by omega) hi')] at this
    exact hid this
  obtain ⟨b, off, cap, rfl, hcap, hlt, hcs⟩ := hs.out (by intro e; have := congrArg List.length e; rw [Um.cuts_length] at this; simp at this; omega)
  rw [Um.cuts_length] at *
  have HC : Hid (∀ j, j < n → w.cell? ⟨b, off + j * 2, none⟩ = some (.int .i64 (Um.cutR lo hi many j)) ∧ w.cell? ⟨b, off + j * 2 + 1, none⟩ = some (.int .i64 (Um.cutR lo hi many (j + 1)))) := by
    intro j hj
    have := hcs j hj
    rw [Um.cuts_at hj] at this
    exact this
  have c0 : w.cell? ⟨b, off, none⟩ = some (.int .i64 (Um.cutR lo hi many 0)) := (HC.out 0 (by omega)).1
  have c1 : w.cell? ⟨b, off + 1, none⟩ = some (.int .i64 (Um.cutR lo hi many 1)) := (HC.out 0 (by omega)).2
  have H0 := fun w hl => HM 0 (by omega) w hl
  rw [show 0 + 1 = 1 from rfl] at H0
  clear hcs hs
  have hF := (Fr.start w).push 0 0 rfl
  have z0 := (hF.below.cell (p := ⟨b, off, none⟩) hlt).trans c0
  have z1 := (hF.below.cell (p := ⟨b, off + 1, none⟩) hlt).trans c1
  clear c0 c1
  obtain ⟨a0, cap0, rfl, -⟩ := (id hl)
  have k : ((Um.monoR (Um.cutR lo hi many 0) (Um.cutR lo hi many 1) p).2.2 != 0) = false := by simpa using h
  have HX : Hid (Um.spR lo hi many p n = ((Um.monoR (Um.cutR lo hi many 0) (Um.cutR lo hi many 1) p).1, (Um.monoR (Um.cutR lo hi many 0) (Um.cutR lo hi many 1) p).2.1, 0)) := by
    rw [h2, Um.sp_first h, ← h]; exact hid rfl
  clear h ho HM HC hn
  generalize Um.spR lo hi many p n = R at *
  subst h2
  generalize Um.cutR lo hi many 0 = C0 at *
  generalize Um.cutR lo hi many 1 = C1 at *
  generalize Um.monoR C0 C1 p = M at *
  go_enter Tryz.func30, Tryz.ntmps30
  go_wp2_with (go_at_call 31; refine (H0 _ (hF.li hl)).out.mono ?_; rintro e wn ⟨rfl, hb⟩; replace hF := hF.step hb; clear hb; clear z0 z1; replace hF := hF.push M.1 M.2.1 rfl; have x0l := (hF.at 0 rfl).lo; have x0h := (hF.at 0 rfl).hi; have y1 := (hF.at 1 rfl).fl; have y2 := (hF.at 1 rfl).fh; have y3 := (hF.at 1 rfl).lo; have y4 := (hF.at 1 rfl).hi; have y6 := (hF.at 1 rfl).r0; have y7 := (hF.at 1 rfl).r1)
  all_goals
    refine wp_loop_rounds 1 ?_
    rw [rounds_succ]
    go_wp2
    refine bodyPost_ret (by simp [results, Tryz.results30, go_sem, y6, y7]; try rfl) rfl ?_
    rw [HX.out]
    exact ⟨rfl, (hF.put 1 rfl _ _ rfl).below⟩
theorem overAll_any (p : List Int) (v : Value) (u : Value) (lo hi many : Int) (n : Nat) (w : World) (hl : Li w.heap.size w v p) (hs : Ls w.heap.size w u (Um.cuts lo hi many n)) (hn : many = n) (h1 : 1 ≤ n) (h32 : n ≤ 32) (ho : Um.over p lo hi = 0) :
    Calls Tryz.prog 30 #[v, u] w fun e w' => e = .returned (.tuple #[.agg #[.int .i64 (Um.spR lo hi many p n).1, .int .i64 (Um.spR lo hi many p n).2.1], errV (Um.spR lo hi many p n).2.2]) ∧ Below w.heap.size w w' := by
  by_cases h : (Um.monoR (Um.cutR lo hi many 0) (Um.cutR lo hi many 1) p).2.2 = 0
  · by_cases h2 : n = 1
    · exact overAll_one p v u lo hi many n w hl hs hn ho h2 h
    · exact overAll_more p v u lo hi many n w hl hs hn h1 h32 ho (by omega) h
  · exact overAll_none p v u lo hi many n w hl hs hn h1 h32 ho h

set_option maxRecDepth 100000 in
set_option maxHeartbeats 4000000 in
theorem srange_poly (p : List Int) (v : Value) (lo hi many : Int) (w : World) (hl : Li w.heap.size w v p) (h : ¬ Um.pchk p = 0) :
    Calls Tryz.prog 13 #[v, .agg #[.int .i64 lo, .int .i64 hi], .int .i64 many] w fun e w' => e = .returned (.tuple #[.agg #[.int .i64 0, .int .i64 0], errV (Um.pchk p)]) ∧ Below w.heap.size w w' := by
  have v0 := errV_none
  have q1 := errG
  have q2 := errGn
  have q3 := errE
  have q4 := errN
  have HP := fun B w hl => hid (pcheck_any B p v w hl)
  have HI := fun w => hid (pieces_any lo hi many w)
  have hF := Fr.two w lo hi
  have x1l := (hF.at 1 rfl).lo
  have x1h := (hF.at 1 rfl).hi
  have k : (Um.pchk p != 0) = true := by simpa using h
  clear h
  generalize Um.pchk p = K at *
  obtain ⟨a0, cap0, rfl, -⟩ := (id hl)
  go_enter Tryz.func13, Tryz.ntmps13
  go_wp2_with (go_at_call 29; refine (HP _ _ (hF.li hl)).out.mono ?_; rintro e wn ⟨rfl, rfl⟩; )
  go_returns
  exact ⟨rfl, hF.below⟩

set_option maxRecDepth 100000 in
set_option maxHeartbeats 4000000 in
theorem srange_pie (p : List Int) (v : Value) (lo hi many : Int) (w : World) (hl : Li w.heap.size w v p) (hp : Um.pchk p = 0) (h : ¬ Um.pieF lo hi many = 0) :
    Calls Tryz.prog 13 #[v, .agg #[.int .i64 lo, .int .i64 hi], .int .i64 many] w fun e w' => e = .returned (.tuple #[.agg #[.int .i64 0, .int .i64 0], errV (Um.pieF lo hi many)]) ∧ Below w.heap.size w w' := by
  have v0 := errV_none
  have q1 := errG
  have q2 := errGn
  have q3 := errE
  have q4 := errN
  have HP := fun B w hl => hid (pcheck_any B p v w hl)
  have HI := fun w => hid (pieces_any lo hi many w)
  have hF := Fr.two w lo hi
  have x1l := (hF.at 1 rfl).lo
  have x1h := (hF.at 1 rfl).hi
  rw [hp] at HP
  have k : (Um.pieF lo hi many != 0) = true := by simpa using h
  clear h hp
  generalize Um.pieF lo hi many = K at *
  obtain ⟨a0, cap0, rfl, -⟩ := (id hl)
  go_enter Tryz.func13, Tryz.ntmps13
  go_wp2_with (first | (go_at_call 29; refine (HP _ _ (hF.li hl)).out.mono ?_; rintro e wn ⟨rfl, rfl⟩; ) | (go_at_call 7; refine (HI _).out.mono ?_; rintro e wn ⟨u, rfl, hs, hb⟩; replace hF := hF.step hb; clear hb; clear x1l x1h; obtain ⟨a1, cap1, rfl, -⟩ := (id hs); have y1 := (hF.at 0 rfl).fl; have y2 := (hF.at 0 rfl).fh; have y3 := (hF.at 0 rfl).lo; have y4 := (hF.at 0 rfl).hi; have y6 := (hF.at 0 rfl).r0; have y7 := (hF.at 0 rfl).r1))
  refine bodyPost_ret (by simp [results, Tryz.results13, go_sem, y6, y7]; try rfl) rfl ?_
  exact ⟨rfl, (hF.put 0 rfl _ _ rfl).below⟩

set_option maxRecDepth 100000 in
set_option maxHeartbeats 4000000 in
theorem srange_right (p : List Int) (v : Value) (lo hi many : Int) (w : World) (hl : Li w.heap.size w v p) (ho : Um.over p lo hi = 0) (h1 : 1 ≤ many) (h32 : many ≤ 32) :
    Calls Tryz.prog 13 #[v, .agg #[.int .i64 lo, .int .i64 hi], .int .i64 many] w fun e w' => e = .returned (.tuple #[.agg #[.int .i64 (Um.spR lo hi many p many.toNat).1, .int .i64 (Um.spR lo hi many p many.toNat).2.1], errV (Um.spR lo hi many p many.toNat).2.2]) ∧ Below w.heap.size w w' := by
  have v0 := errV_none
  have q1 := errG
  have q2 := errGn
  have q3 := errE
  have q4 := errN
  have HP := fun B w hl => hid (pcheck_any B p v w hl)
  have HI := fun w => hid (pieces_any lo hi many w)
  have hF := Fr.two w lo hi
  have x1l := (hF.at 1 rfl).lo
  have x1h := (hF.at 1 rfl).hi
  rw [(Um.over_ok.1 ho).1] at HP
  have e := Um.pie_ok.2 ⟨(Um.over_ok.1 ho).2, h1, h32⟩
  unfold Um.pieR at HI
  rw [if_pos e, e] at HI
  have HO := fun u w hl hs => hid (overAll_any p v u lo hi many many.toNat w hl hs (by omega) (by omega) (by omega) ho)
  clear ho e
  generalize Um.spR lo hi many p many.toNat = R at *
  obtain ⟨a0, cap0, rfl, -⟩ := (id hl)
  go_enter Tryz.func13, Tryz.ntmps13
  go_wp2_with (first | (go_at_call 29; refine (HP _ _ (hF.li hl)).out.mono ?_; rintro e wn ⟨rfl, rfl⟩; ) | (go_at_call 7; refine (HI _).out.mono ?_; rintro e wn ⟨u, rfl, hs, hb⟩; replace hF := hF.step hb; clear hb; clear x1l x1h; obtain ⟨a1, cap1, rfl, -⟩ := (id hs)) | (go_at_call 30; refine (HO _ _ (hF.li hl) hs).out.mono ?_; rintro e wn ⟨rfl, hb⟩; replace hF := hF.step hb; clear hb; have y1 := (hF.at 0 rfl).fl; have y2 := (hF.at 0 rfl).fh; have y3 := (hF.at 0 rfl).lo; have y4 := (hF.at 0 rfl).hi; have y6 := (hF.at 0 rfl).r0; have y7 := (hF.at 0 rfl).r1))
  refine bodyPost_ret (by simp [results, Tryz.results13, go_sem, y6, y7]; try rfl) rfl ?_
  exact ⟨rfl, (hF.put 0 rfl _ _ rfl).below⟩

/-- At every argument. -/
theorem srange_any (p : List Int) (v : Value) (lo hi many : Int) (w : World) (hl : Li w.heap.size w v p) :
    Calls Tryz.prog 13 #[v, .agg #[.int .i64 lo, .int .i64 hi], .int .i64 many] w fun e w' => e = .returned (.tuple #[.agg #[.int .i64 (Um.splitAll p lo hi many).1, .int .i64 (Um.splitAll p lo hi many).2.1], errV (Um.splitAll p lo hi many).2.2]) ∧ Below w.heap.size w w' := by
  unfold Um.splitAll
  by_cases h : Um.splitF p lo hi many = 0
  · rw [if_pos h]
    obtain ⟨ho, h1, h32⟩ := Um.split_ok.1 h
    exact srange_right p v lo hi many w hl ho h1 h32
  · rw [if_neg h]
    unfold Um.splitF at h ⊢
    by_cases hp : Um.pchk p = 0
    · rw [if_pos hp] at h ⊢
      exact srange_pie p v lo hi many w hl hp h
    · rw [if_neg hp]
      exact srange_poly p v lo hi many w hl hp
end Go.Proofs.YthoiiffdigkodaaGreatDoor
