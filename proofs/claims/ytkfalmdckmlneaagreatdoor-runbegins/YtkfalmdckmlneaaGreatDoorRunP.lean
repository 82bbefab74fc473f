/-
  What package run makes of the words of a line: of a polynomial over a span.
-/
import Derived.Test.YtkfalmdckmlneaaGreatDoorRunQ
import Derived.Test.YtkfalmdckmlneaaGreatDoorMono
import Derived.Test.YtkfalmdckmlneaaGreatDoorNewton
import Derived.Test.YtkfalmdckmlneaaGreatDoorRoots
import Derived.Deep.RegionWith
namespace Go.Proofs.YtkfalmdckmlneaaGreatDoor
set_option linter.unusedSimpArgs false
open Go.RowKit Go.Shelf

theorem poly_l (p x : List UInt8) (w : World) (hp : p.length ≤ 3000) (hx : x.length ≤ 3000) (hm : HasLen w) : Calls Tryz.prog 95 #[strV p, strV x] w fun e w' => PoTold p x w e w' := by
  have := polyOver_any ⟨p.toArray⟩ ⟨x.toArray⟩ w (by rw [str_size]; exact hp) (by rw [str_size]; exact hx) hm
  simpa using this

/-- A function of a polynomial and a span. -/
structure Pol (f : Nat) (R : List Int → Int → Int → Int × Int × Int) : Prop where
  enters : ∀ args w, (callFunc f args).run Tryz.prog w = .ok (.enter f args) w
  tells : ∀ p v a b w, Li w.heap.size w v p → Calls Tryz.prog f #[v, .agg #[.int .i64 a, .int .i64 b]] w fun e w' => e = .returned (.tuple #[.agg #[.int .i64 (R p a b).1, .int .i64 (R p a b).2.1], errV (R p a b).2.2]) ∧ Below w.heap.size w w'
theorem ofPoly_len {f : Nat} {R : List Int → Int → Int → Int × Int × Int} (v : Value) (g : List (List UInt8)) (w : World) (hl : Lx w.heap.size w v g) (h : ¬ g.length = 2) :
    Calls Tryz.prog 64 #[v, .func (.func f) #[] #[]] w fun e w' => AskTold (Um.askPoly R g) w e w' := by
  have ho : Um.askPoly R g = none := by unfold Um.askPoly; split <;> simp_all
  obtain ⟨a, cap, rfl⟩ := lx_slice hl
  have n2 : ((g.length : Int) != 2) = true := by simp; omega
  have h3 : ¬ (g.length : Int) = 2 := by omega
  have HO := hid ho
  clear hl ho
  generalize g.length = n at *
  go_enter Tryz.func64, Tryz.ntmps64
  go_wp2
  go_ret2
  exact ask_not HO.out (Below.refl _ _)
/-- What was read, and where it lies. -/
def PoRes (p x : List UInt8) (n : Nat) (rr : Value) (lo hi : Int) (er : Value) (w : World) : Prop :=
  (PoOk p x = true → lo = (Um.spL x).1 ∧ hi = (Um.spL x).2 ∧ er = .nilIface ∧ w.ownsRow n 3 1 rr (Um.numsL p).length ((Um.numsL p).map (Value.int .i64))) ∧ (PoOk p x = false → ∃ k, er = unV k)
theorem poly_res (p x : List UInt8) (w : World) (hp : p.length ≤ 3000) (hx : x.length ≤ 3000) (hm : HasLen w) : Calls Tryz.prog 95 #[strV p, strV x] w fun e w' => ∃ rr lo hi er, e = .returned (.tuple #[rr, .agg #[.int .i64 lo, .int .i64 hi], er]) ∧ Below w.heap.size w w' ∧ PoRes p x w.heap.size rr lo hi er w' :=
  (poly_l p x w hp hx hm).mono fun e w' h => by
    cases ho : PoOk p x
    · obtain ⟨k, hk⟩ := h.2.2 ho
      exact ⟨_, _, _, _, hk, h.1, fun h2 => (by rw [ho] at h2; cases h2), fun _ => ⟨k, rfl⟩⟩
    · obtain ⟨v, hv, hr⟩ := h.2.1 ho
      exact ⟨_, _, _, _, hv, h.1, fun _ => ⟨rfl, rfl, rfl, hr⟩, fun h2 => (by rw [ho] at h2; cases h2)⟩
theorem PoRes.alloc {p x : List UInt8} {n m : Nat} {rr : Value} {lo hi : Int} {er : Value} {w : World} (h : PoRes p x n rr lo hi er w) (hn : m ≤ n) (o : Obj) : PoRes p x m rr lo hi er (w.alloc o) :=
  ⟨fun ho => ⟨(h.1 ho).1, (h.1 ho).2.1, (h.1 ho).2.2.1, owns_low ((h.1 ho).2.2.2.alloc o) hn⟩, h.2⟩
theorem PoRes.put {p x : List UInt8} {n m c : Nat} {rr : Value} {lo hi : Int} {er : Value} {w : World} (h : PoRes p x n rr lo hi er w) (hn : m ≤ n) (hc : c < n) (u z : Value) : PoRes p x m rr lo hi er ((w.setCell ⟨c, 0, none⟩ u).setCell ⟨c, 1, none⟩ z) :=
  ⟨fun ho => ⟨(h.1 ho).1, (h.1 ho).2.1, (h.1 ho).2.2.1, owns_low (owns_put (owns_put (h.1 ho).2.2.2 hc _) hc _) hn⟩, h.2⟩
set_option maxRecDepth 100000 in
set_option maxHeartbeats 8000000 in
theorem ofPoly_two {f : Nat} {R : List Int → Int → Int → Int × Int × Int} (hf : Pol f R) (v : Value) (p x : List UInt8) (w : World) (hl : Lx w.heap.size w v [p, x]) (hp : p.length ≤ 3000) (hx : x.length ≤ 3000) (hm : HasLen w) :
    Calls Tryz.prog 64 #[v, .func (.func f) #[] #[]] w fun e w' => AskTold (Um.askPoly R [p, x]) w e w' := by
  have q1 := errG
  have q2 := errGn
  have q3 := errE
  have q4 := errN
  have ho : Um.askPoly R [p, x] = if PoOk p x = true then some (Um.oneR (R (Um.numsL p) (Um.spL x).1 (Um.spL x).2)) else none := by
    show (if Um.numsOk p = true ∧ Um.spOk x = true then _ else _) = _
    unfold PoOk
    simp only [Bool.and_eq_true]
  obtain ⟨b, off, cap, rfl, hcap, hlt, c0, c1⟩ := lx_two hl
  have HP := fun W (hW : Below w.heap.size w W) => hid (poly_res p x W hp hx (hm.below hW hm.size))
  have HO := hid ho
  have hE := hf.enters
  have HT := fun rr w hl => hid (hf.tells (Um.numsL p) rr (Um.spL x).1 (Um.spL x).2 w hl)
  clear hl ho hp hx hm
  go_enter Tryz.func64, Tryz.ntmps64
  go_upto_region 3 with fail
  go_cut [6, 7, 8] from 15 to 25 (fun v6 v7 v8 wr => ∃ c lo hi, v7 = .pointer (some ⟨c, 0, none⟩) ∧ Fr w wr [(c, lo, hi)] ∧ PoRes p x w.heap.size v6 lo hi v8 wr)
  case first =>
    go_region_with (go_at_call 95; first | (refine (HP _ (show Below w.heap.size w (w.alloc (.cells #[.int .i64 0, .int .i64 0] 29)).drew by go_grown)).out.mono ?_; rintro e w1 ⟨rr, lo, hi, er, rfl, hb, hr⟩; have hF := Fr.step (show Fr w (w.alloc (.cells #[.int .i64 0, .int .i64 0] 29)).drew [(w.heap.size, 0, 0)] from (Fr.push (Fr.start w) 0 0 (b := w.heap.size) rfl).step (Below.refl _ _).drew) hb; have hS := hF.at 0 rfl; have y1 := hS.fl; have y2 := hS.fh; have y3 := hS.lo; have y4 := hS.hi) | (refine (HP _ (show Below w.heap.size w w.drew by go_grown)).out.mono ?_; rintro e w1 ⟨rr, lo, hi, er, rfl, hb, hr⟩; have hF := Fr.step (show Fr w w.drew [] from (Fr.start w).step (Below.refl _ _).drew) hb))
    all_goals go_wp2
    all_goals go_meet
    all_goals first
      | (case rel => exact ⟨_, lo, hi, rfl, hF.push lo hi rfl, hr.alloc (Nat.le_refl _) _⟩)
      | (case rel => exact ⟨_, lo, hi, rfl, hF.put 0 rfl lo hi rfl, hr.put (by simp) (by simp) _ _⟩)
  case rest =>
    obtain ⟨c, lo, hi, rfl, hF, hr⟩ := hcut
    have x0l := (hF.at 0 rfl).lo; have x0h := (hF.at 0 rfl).hi
    cases hok : PoOk p x
    · obtain ⟨k, rfl⟩ := hr.2 hok
      have HN := hid (HO.out.trans (if_neg (by rw [hok]; decide)))
      clear hr hok HP HT
      go_wp2
      go_ret2
      exact ask_not HN.out hF.below
    · obtain ⟨rfl, rfl, rfl, hro⟩ := hr.1 hok
      have HN := hid (HO.out.trans (if_pos hok))
      have hli := li_owns hro
      clear hr hok HP HO
      generalize R (Um.numsL p) (Um.spL x).1 (Um.spL x).2 = r at *
      go_wp2_with (first | (go_at_fn f; refine (HT _ _ hli).out.mono ?_; rintro e w3 ⟨rfl, hb⟩; replace hF := hF.step hb; clear hb HT) | (go_at_call 80; refine (aloneR_any r.1 r.2.1 r.2.2 _).mono ?_; rintro e w4 ⟨u, rfl, hu, hb⟩; replace hF := hF.step hb; clear hb))
      go_ret2
      exact ask_one HN.out hF.below hu
theorem ofPoly_any {f : Nat} {R : List Int → Int → Int → Int × Int × Int} (hf : Pol f R) (v : Value) (g : List (List UInt8)) (w : World) (hl : Lx w.heap.size w v g) (hg : ∀ x ∈ g, x.length ≤ 3000) (hm : HasLen w) :
    Calls Tryz.prog 64 #[v, .func (.func f) #[] #[]] w fun e w' => AskTold (Um.askPoly R g) w e w' := by
  by_cases h : g.length = 2
  · obtain ⟨x, y, rfl⟩ := len_two h
    exact ofPoly_two hf v x y w hl (hg x (by simp)) (hg y (by simp)) hm
  · exact ofPoly_len v g w hl h
set_option maxHeartbeats 2000000 in
theorem nearest_any (p : List Int) (v : Value) (lo hi : Int) (w : World) (hl : Li w.heap.size w v p) :
    Calls Tryz.prog 67 #[v, .agg #[.int .i64 lo, .int .i64 hi]] w fun e w' => e = .returned (.tuple #[.agg #[.int .i64 (Um.runAll p lo hi 20).1, .int .i64 (Um.runAll p lo hi 20).2.1], errV (Um.runAll p lo hi 20).2.2]) ∧ Below w.heap.size w w' := by
  have hF := Fr.two w lo hi
  have hl2 := (hl.keep hF.below).wide hF.below.size
  have HR := fun w h => hid (run_any p v lo hi 20 w h)
  obtain ⟨a, cap, rfl, -⟩ := hl
  generalize Um.runAll p lo hi 20 = r at *
  have x1l := (hF.at 1 rfl).lo; have x1h := (hF.at 1 rfl).hi
  go_enter Tryz.func67, Tryz.ntmps67
  go_wp2_with (go_at_call 101; refine (HR _ hl2).out.mono ?_; rintro e w1 ⟨rfl, hb⟩; replace hF := hF.step hb; clear hb; have y1 := (hF.at 0 rfl).fl; have y2 := (hF.at 0 rfl).fh; have y3 := (hF.at 0 rfl).lo; have y4 := (hF.at 0 rfl).hi; have y6 := (hF.at 0 rfl).r0; have y7 := (hF.at 0 rfl).r1)
  refine bodyPost_ret (by simp [results, Tryz.results67, go_sem, y6, y7]; try rfl) rfl ?_
  exact ⟨rfl, (hF.put 0 rfl _ _ rfl).below⟩
end Go.Proofs.YtkfalmdckmlneaaGreatDoor
