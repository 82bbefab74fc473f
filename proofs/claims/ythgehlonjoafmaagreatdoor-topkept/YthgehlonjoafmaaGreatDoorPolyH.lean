/-
  What package poly's Horner answers, at every argument: a range over slices.Backward.
-/
import Derived.Test.YthgehlonjoafmaaGreatDoorPoly
import Derived.Test.YthgehlonjoafmaaGreatDoorMems
import Derived.RangeFuncNested
import Derived.RangeFuncBound
import Derived.RangeFuncCalls
import Derived.RangeFuncLeaves
import Derived.RangeFuncBox
import Derived.Shelf.Abstract
import Derived.Shelf.RegionOpen
import Derived.OwnWalkIn
import Derived.TacticsInMore
import Derived.LoopNIn
import Derived.LoopIn
namespace Go.Proofs.YthgehlonjoafmaaGreatDoor
set_option linter.unusedSimpArgs false
open Go.RowKit Go.Shelf
attribute [local go_sem] Oper.semAt_some

/-- What has come when k rounds are over: from the last one on. -/
def back (p : List Int) (k : Nat) : List (Int × Int) := (List.range k).map fun j => (((p.length - 1 - j : Nat) : Int), p[p.length - 1 - j]?.getD 0)
theorem back_length (p : List Int) (k : Nat) : (back p k).length = k := by simp [back]
theorem back_succ (p : List Int) (k : Nat) : back p (k + 1) = back p k ++ [(((p.length - 1 - k : Nat) : Int), p[p.length - 1 - k]?.getD 0)] := by simp [back, List.range_succ]
theorem back_step {p : List Int} {j : Nat} (h : j < p.length) : back p (p.length - j) = back p (p.length - (j + 1)) ++ [((j : Int), p[j]?.getD 0)] := by
  have e : p.length - j = p.length - (j + 1) + 1 := by omega
  rw [e, back_succ, show p.length - 1 - (p.length - (j + 1)) = j by omega]

/-- What a round keeps: all below n₀, and the block Bs. -/
def Kb (n₀ Bs : Nat) (W W' : World) : Prop := Below n₀ W W' ∧ W'.heap[Bs]? = W.heap[Bs]?
theorem Kb.refl (n₀ Bs : Nat) (W : World) : Kb n₀ Bs W W := ⟨Below.refl _ _, rfl⟩
theorem Kb.trans {n₀ Bs : Nat} {A B C : World} (h : Kb n₀ Bs A B) (k : Kb n₀ Bs B C) : Kb n₀ Bs A C := ⟨h.1.trans k.1, k.2.trans h.2⟩
theorem Kb.cell {n₀ Bs : Nat} {A B : World} (h : Kb n₀ Bs A B) : B.cell? ⟨Bs, 0, none⟩ = A.cell? ⟨Bs, 0, none⟩ := by
  simp [World.cell?, h.2]

set_option maxRecDepth 100000 in
set_option maxHeartbeats 2000000 in
theorem back1_in (F : Fence) (n : Nat) (hf : F.fn 95) (hro : F.round = none) (hn : 1 ≤ n) (l Bs n₀ b off cap : Nat) (p : List Int) (h5 : p.length ≤ 5) (hb : b < n₀) (J Jx : List (Int × Int) → World → Prop)
    (hY : ∀ pre x W, J pre W → pre.length < p.length → YieldAt F (n - 1) Tryz.prog l #[.int .i64 x.1, .int .i64 x.2] W fun e W' =>
      (e = .returned (.bool true) ∧ J (pre ++ [x]) W' ∧ Kb n₀ Bs W W') ∨ (e = .returned (.bool false) ∧ Jx (pre ++ [x]) W'))
    (W : World) (hBs : W.cell? ⟨Bs, 0, none⟩ = some (.slice (some ⟨b, off, none⟩) p.length cap)) (hc : ∀ j, j < p.length → W.cell? ⟨b, off + j, none⟩ = some (.int .i64 (p[j]?.getD 0))) (h0 : J [] W) :
    CallsIn F n Tryz.prog 95 #[.func (.yield l) #[] #[], .pointer (some ⟨Bs, 0, none⟩)] W fun e W' => (∃ v, e = .returned v) ∧
      ((∃ ys, ys = back p p.length ∧ J ys W') ∨ (∃ pre, (∃ k, k ≤ p.length ∧ pre = back p k) ∧ Jx pre W')) := by
  have HY := hid hY
  have HC := hid hc
  clear hY hc
  refine callsIn_of_wp Tryz.func95 rfl hf ?_ hro
  simp only [Tryz.ntmps95, List.size_toArray, List.length_cons, List.length_nil, Nat.reduceAdd, Nat.reduceSub, Array.replicate_succ, Array.replicate_zero, List.push_toArray, List.append_toArray, List.nil_append, List.cons_append]
  gi_wp2
  gi_loopw [3] (fun i wr => ∃ m : Nat, m ≤ p.length ∧ i = .int .i64 ((m : Int) - 1) ∧ J (back p (p.length - m)) wr ∧ Kb n₀ Bs W wr)
    (fun i _ => (intOf i + 1).toNat)
  case atStart => exact ⟨p.length, Nat.le_refl _, rfl, by rw [Nat.sub_self]; exact h0, Kb.refl _ _ _⟩
  case round =>
    obtain ⟨m, hm, rfl, hJs, hnx⟩ := hrel
    have hBx := hnx.cell.trans hBs
    cases m with
    | zero =>
      gi_wp2
      go_end0
      exact ⟨⟨_, rfl⟩, .inl ⟨_, rfl, hJs⟩⟩
    | succ j =>
      have hjl : j < p.length := by omega
      have ej : ((j + 1 : Nat) : Int) - 1 = (j : Int) := by omega
      rw [ej]
      have hcx : wr.cell? ⟨b, off + j, none⟩ = some (.int .i64 (p[j]?.getD 0)) := (hnx.1.cell (p := ⟨b, off + j, none⟩) hb).trans (HC.out j hjl)
      obtain ⟨fn, tmps, assign, body, hy, hR⟩ := HY.out _ ((j : Int), p[j]?.getD 0) wr hJs (by rw [back_length]; omega)
      rw [← back_step hjl] at hR
      dsimp only at hy
      have HE := hid ej
      have hjj : (j : Int) < (p.length : Int) := by omega
      clear ej
      generalize p[j]?.getD 0 = x at *
      gi_wp2
      refine hR.mono ?_
      rintro e W3 (⟨rfl, hJ3, hk3⟩ | ⟨rfl, hJx3⟩)
      · gi_wp2
        go_roundw
        case rel => exact ⟨j, by omega, rfl, hJ3, hnx.trans hk3⟩
        case measure => simp [intOf] <;> omega
      · gi_wp2
        refine bodyPost_ret (results_none rfl _ _ _) rfl ?_
        exact ⟨⟨_, rfl⟩, .inr ⟨_, ⟨p.length - j, by omega, rfl⟩, hJx3⟩⟩

set_option maxHeartbeats 1000000 in
theorem backward_any (a : Option Addr) (len cap : Nat) (w : World) :
    Calls Tryz.prog 77 #[.slice a len cap] w fun e w' => e = .returned (.func (.func 95) #[] #[.pointer (some ⟨w.heap.size, 0, none⟩)]) ∧ w' = w.alloc (.cells #[.slice a len cap] 52) := by
  go_enter Tryz.func77, Tryz.ntmps77
  go_wp2
  go_ret
  exact ⟨rfl, rfl⟩

theorem back_stops (n : Nat) (hn : 1 ≤ n) (Bs n₀ b off cap : Nat) (p : List Int) (h5 : p.length ≤ 5) (hb : b < n₀) (w : World) (hBs : Bs < w.heap.size) (hn₀ : n₀ ≤ w.heap.size)
    (hc : w.cell? ⟨Bs, 0, none⟩ = some (.slice (some ⟨b, off, none⟩) p.length cap)) (hl : ∀ j, j < p.length → w.cell? ⟨b, off + j, none⟩ = some (.int .i64 (p[j]?.getD 0))) :
    SeqStopsK Fence.wide n Tryz.prog 95 #[.pointer (some ⟨Bs, 0, none⟩)] (fun x : Int × Int => #[Value.int .i64 x.1, Value.int .i64 x.2]) (Kb n₀ Bs) (fun ys => ys = back p p.length)
      (fun pre => ∃ k, k ≤ p.length ∧ pre = back p k) p.length w := fun l J Jx W hW _ _ hY h0 =>
  back1_in Fence.wide n trivial rfl hn l Bs n₀ b off cap p h5 hb J Jx hY W ((hW.cell (p := ⟨Bs, 0, none⟩) hBs).trans hc)
    (fun j hj => (hW.cell (p := ⟨b, off + j, none⟩) (Nat.lt_of_lt_of_le hb hn₀)).trans (hl j hj)) h0

/-- The folding of the factors, as they come: an error stays. -/
def hfold (lo hi : Int) (xs : List (Int × Int)) : Int × Int × Int := xs.foldl (fun s x => if s.2.2 = 0 then Um.taR s.1 s.2.1 lo hi x.2 x.2 else s) (0, 0, 0)
theorem hfold_nil (lo hi : Int) : hfold lo hi [] = (0, 0, 0) := rfl
theorem hfold_snoc (lo hi : Int) (xs : List (Int × Int)) (x : Int × Int) (h : (hfold lo hi xs).2.2 = 0) : hfold lo hi (xs ++ [x]) = Um.taR (hfold lo hi xs).1 (hfold lo hi xs).2.1 lo hi x.2 x.2 := by
  unfold hfold at *
  rw [List.foldl_append]
  show (if (List.foldl _ (0, 0, 0) xs).2.2 = 0 then _ else _) = _
  rw [if_pos h]
theorem hfold_back {lo hi : Int} {p : List Int} (hc : Um.chk lo hi = 0) (hm : ∀ c ∈ p, Um.may c = true) : ∀ k, k ≤ p.length → hfold lo hi (back p k) = Um.hcR lo hi (Um.tl p k)
  | 0, _ => by rw [Um.tl_zero]; rfl
  | k + 1, hk => by
    have ih := hfold_back hc hm k (by omega)
    rw [Um.tl_succ (by omega), back_succ]
    have hs : hfold lo hi (back p k ++ [(((p.length - 1 - k : Nat) : Int), p[p.length - 1 - k]?.getD 0)]) = if (hfold lo hi (back p k)).2.2 = 0 then Um.taR (hfold lo hi (back p k)).1 (hfold lo hi (back p k)).2.1 lo hi (p[p.length - 1 - k]?.getD 0) (p[p.length - 1 - k]?.getD 0) else hfold lo hi (back p k) := by
      unfold hfold; rw [List.foldl_append]; rfl
    rw [hs, ih]
    show _ = Um.hstep lo hi (Um.hcR lo hi (Um.tl p k)) _
    by_cases h : (Um.hcR lo hi (Um.tl p k)).2.2 = 0
    · rw [if_pos h]
      exact Um.ta_horn hc (Um.hc_chk (Um.chk_ok.1 hc).2.2 _ (fun c hcm => hm c (Um.tl_mem hcm)) h) h (hm _ (Um.at_mem (by omega)))
    · rw [if_neg h]
      have e := (Um.hc_fault (lo := lo) (hi := hi) (Um.tl p k)).resolve_left h
      rw [e]; rfl
theorem hfold_all {lo hi : Int} {p : List Int} (hc : Um.chk lo hi = 0) (hm : ∀ c ∈ p, Um.may c = true) : hfold lo hi (back p p.length) = Um.hornR lo hi p := by
  rw [hfold_back hc hm _ (Nat.le_refl _), Um.tl_all, Um.hc_horn (Um.chk_ok.1 hc).2.2 p hm]
theorem hfold_stop {lo hi : Int} {p : List Int} {k : Nat} (hc : Um.chk lo hi = 0) (hm : ∀ c ∈ p, Um.may c = true) (hk : k ≤ p.length) (h : ¬ (hfold lo hi (back p k)).2.2 = 0) : (hfold lo hi (back p k)).2.2 = 4 ∧ Um.hornR lo hi p = (0, 0, 4) := by
  rw [hfold_back hc hm k hk] at h ⊢
  have e := (Um.hc_fault (lo := lo) (hi := hi) (Um.tl p k)).resolve_left h
  refine ⟨by rw [e], ?_⟩
  rw [← Um.hc_horn (Um.chk_ok.1 hc).2.2 p hm]
  have := Um.hc_stay hk (Nat.le_refl _) e
  rwa [Um.tl_all p] at this

-- THE WALK
/-- Between two rounds: what has been summed up, and what else lies there. -/
structure Hi (w W : World) (S : Nat) (lo hi : Int) (s : Int × Int × Int) : Prop where
  ok : s.2.2 = 0
  sum : Sp W S s.1 s.2.1
  x : Sp W w.heap.size lo hi
  res : Sp W (w.heap.size + 1) 0 0
  err : Blk W (w.heap.size + 1 + 1) 29 #[.nilIface]
  below : Below w.heap.size w W
  bs : S + 1 < W.heap.size
/-- A round has left: what is told. -/
structure Hx (w W : World) (s : Int × Int × Int) : Prop where
  no : ¬ s.2.2 = 0
  res : Sp W (w.heap.size + 1) 0 0
  err : Blk W (w.heap.size + 1 + 1) 29 #[errV s.2.2]
  below : Below w.heap.size w W
theorem Sp.kept {W W' : World} {row : Option Nat} {b : Nat} {lo hi : Int} (h : Sp W b lo hi) (hg : W.grownBy W' row) (hr : ∀ r, row = some r → ∃ o : Obj, W.heap[r]? = some o ∧ o.isCells = false) : Sp W' b lo hi :=
  (hg.block b h.lt (fun e => by obtain ⟨_, ho, hc⟩ := hr b e.symm; unfold Sp at h; rw [h] at ho; cases ho; cases hc)).trans h
theorem Blk.kept {W W' : World} {row : Option Nat} {b : Nat} {T : TypeId} {cs : Array Value} (h : Blk W b T cs) (hg : W.grownBy W' row) (hr : ∀ r, row = some r → ∃ o : Obj, W.heap[r]? = some o ∧ o.isCells = false) : Blk W' b T cs :=
  (hg.block b h.lt (fun e => by obtain ⟨_, ho, hc⟩ := hr b e.symm; unfold Blk at h; rw [h] at ho; cases ho; cases hc)).trans h
theorem Hi.step {w W W' : World} {S : Nat} {lo hi : Int} {s : Int × Int × Int} (h : Hi w W S lo hi s) (hb : Below W.heap.size W W') : Hi w W' S lo hi s :=
  ⟨h.ok, h.sum.step hb, h.x.step hb, h.res.step hb, h.err.step hb, h.below.trans (hb.mono h.below.size), Nat.lt_of_lt_of_le h.bs hb.size⟩
theorem Hi.own {w : World} {S B : Nat} {lo hi : Int} (f : List (Int × Int) → Int × Int × Int) (hB : w.heap.size ≤ B) : OwnFrom B (fun s W => Hi w W S lo hi (f s)) := fun _ A C row hs hg hr =>
  ⟨hs.ok, hs.sum.kept hg (fun r e => (hr r e).2), hs.x.kept hg (fun r e => (hr r e).2), hs.res.kept hg (fun r e => (hr r e).2), hs.err.kept hg (fun r e => (hr r e).2), ownFrom_below (β := Unit) (Nat.le_refl _) hB () A C row hs.below hg hr, Nat.lt_of_lt_of_le hs.bs hg.size⟩
theorem Hx.own {w : World} {B : Nat} (c : Code) (f : List (Int × Int) → Int × Int × Int) (hB : w.heap.size ≤ B) : OwnFrom B (fun s W => c = .ret ∧ Hx w W (f s)) := fun _ A C row hs hg hr =>
  ⟨hs.1, hs.2.no, hs.2.res.kept hg (fun r e => (hr r e).2), hs.2.err.kept hg (fun r e => (hr r e).2), ownFrom_below (β := Unit) (Nat.le_refl _) hB () A C row hs.2.below hg hr⟩
theorem keeps_of {B : Nat} {W W' : World} (hb : Below W.heap.size W W') : KeepsFrom B W W' := ⟨hb.size, fun k _ _ hk _ => (hb.block k (Array.getElem?_eq_some_iff.1 hk).1).trans hk⟩
theorem Kb.putObj {n₀ Bs : Nat} {w : World} (h1 : n₀ ≤ w.heap.size) (h2 : Bs < w.heap.size) (W : World) (l : Nat) (o o' : Obj) (hl : w.heap.size ≤ l) (h : W.heap[l]? = some o) (hc : o.isCells = false) (hw : o.isWalk = false) : Kb n₀ Bs W (W.putObj l o') :=
  ⟨belowK_b (w := w) h1 W l o o' hl h hc hw, World.putObj_heap_other (by omega)⟩

set_option maxRecDepth 100000 in
set_option maxHeartbeats 4000000 in
theorem horner_right (p : List Int) (v : Value) (lo hi : Int) (w : World) (hl : Li w.heap.size w v p) (h : Um.over p lo hi = 0) :
    Calls Tryz.prog 61 #[v, .agg #[.int .i64 lo, .int .i64 hi]] w fun e w' => e = .returned (.tuple #[.agg #[.int .i64 (Um.hornR lo hi p).1, .int .i64 (Um.hornR lo hi p).2.1], errV (Um.hornR lo hi p).2.2]) ∧ Below w.heap.size w w' := by
  have q1 := errG
  have q2 := errGn
  have q3 := errE
  have q4 := errN
  have HO := fun w hl => hid (checkOver_any p v lo hi w hl)
  rw [h] at HO
  obtain ⟨hp, hc⟩ := Um.over_ok.1 h
  obtain ⟨h0, h5, hm⟩ := Um.pchk_ok.1 hp
  obtain ⟨b, off, cap, rfl, hlt, hcs⟩ := hl.out h0
  have HA := hid (hfold_all hc hm)
  have HS := fun (k : Nat) (hk : k ≤ p.length) hn => hid (hfold_stop hc hm hk hn)
  have HC := hid hcs
  have hX : Sp (((w.alloc (.cells #[.int .i64 lo, .int .i64 hi] 49)).alloc (.cells #[.int .i64 0, .int .i64 0] 49)).alloc (.cells #[.nilIface] 29)) w.heap.size lo hi := ((Sp.new w lo hi).alloc _).alloc _
  have hR : Sp (((w.alloc (.cells #[.int .i64 lo, .int .i64 hi] 49)).alloc (.cells #[.int .i64 0, .int .i64 0] 49)).alloc (.cells #[.nilIface] 29)) (w.heap.size + 1) 0 0 := by
    simpa using (Sp.new (w.alloc (.cells #[.int .i64 lo, .int .i64 hi] 49)) 0 0).alloc (.cells #[.nilIface] 29)
  have hE : Blk (((w.alloc (.cells #[.int .i64 lo, .int .i64 hi] 49)).alloc (.cells #[.int .i64 0, .int .i64 0] 49)).alloc (.cells #[.nilIface] 29)) (w.heap.size + 1 + 1) 29 #[.nilIface] := by
    simpa using Blk.new ((w.alloc (.cells #[.int .i64 lo, .int .i64 hi] 49)).alloc (.cells #[.int .i64 0, .int .i64 0] 49)) 29 #[.nilIface]
  have hB : Below w.heap.size w (((w.alloc (.cells #[.int .i64 lo, .int .i64 hi] 49)).alloc (.cells #[.int .i64 0, .int .i64 0] 49)).alloc (.cells #[.nilIface] 29)) := by go_grown
  have hL := (hl.keep hB).wide hB.size
  clear hcs hm h0 hp hc h hl
  refine (callsIn_wide (n := 6)).1 ?_
  refine callsIn_of_wp_marks Tryz.func61 rfl trivial ?_ rfl
  simp only [Tryz.ntmps61, List.size_toArray, List.length_cons, List.length_nil, Nat.reduceAdd, Nat.reduceSub, Array.replicate_succ, Array.replicate_zero, List.push_toArray, List.append_toArray, List.nil_append, List.cons_append]
  gi_wp2_with (first | (refine ⟨trivial, ?_⟩; gi_at_call 38; refine (callsIn_wide.2 ((HO _ hL).out)).mono ?_; rintro e w1 ⟨rfl, hb⟩; replace hX := hX.step hb; replace hR := hR.step hb; replace hE := hE.step hb; replace hB := hB.trans (hb.mono hB.size); clear hb hL) | (refine ⟨trivial, ?_⟩; gi_at_call 42; refine (callsIn_wide.2 (alone_any _ _)).mono ?_; rintro e w2 ⟨rfl, rfl⟩) | (refine ⟨trivial, ?_⟩; gi_at_call 77; refine (callsIn_wide.2 (backward_any _ _ _ _)).mono ?_; rintro e w2 ⟨rfl, rfl⟩))
  have hs0 := hB.size
  have hB2 : Below w1.heap.size w1 (((w1.alloc (.cells #[.int .i64 0, .int .i64 0] 49)).alloc (.cells #[.int .i64 0, .int .i64 0] 49)).alloc (.cells #[.slice (some ⟨b, off, none⟩) p.length cap] 52)) := by go_grown
  have hB3 : Below w.heap.size w (((w1.alloc (.cells #[.int .i64 0, .int .i64 0] 49)).alloc (.cells #[.int .i64 0, .int .i64 0] 49)).alloc (.cells #[.slice (some ⟨b, off, none⟩) p.length cap] 52)) := hB.trans (hB2.mono hs0)
  have hS : Sp (((w1.alloc (.cells #[.int .i64 0, .int .i64 0] 49)).alloc (.cells #[.int .i64 0, .int .i64 0] 49)).alloc (.cells #[.slice (some ⟨b, off, none⟩) p.length cap] 52)) (w1.heap.size + 1) 0 0 := by
    simpa using (Sp.new (w1.alloc (.cells #[.int .i64 0, .int .i64 0] 49)) 0 0).alloc (.cells #[.slice (some ⟨b, off, none⟩) p.length cap] 52)
  have hN : Blk (((w1.alloc (.cells #[.int .i64 0, .int .i64 0] 49)).alloc (.cells #[.int .i64 0, .int .i64 0] 49)).alloc (.cells #[.slice (some ⟨b, off, none⟩) p.length cap] 52)) (w1.heap.size + 1 + 1) 52 #[.slice (some ⟨b, off, none⟩) p.length cap] := by
    simpa using Blk.new ((w1.alloc (.cells #[.int .i64 0, .int .i64 0] 49)).alloc (.cells #[.int .i64 0, .int .i64 0] 49)) 52 #[.slice (some ⟨b, off, none⟩) p.length cap]
  have hl3 := hX.lt
  have hl4 := hR.lt
  have hl5 := hE.lt
  refine wpIn_rangeFunc_ownG rfl (by omega) (gf := 95) (lb := #[.pointer (some ⟨w1.heap.size + 1 + 1, 0, none⟩)]) rfl trivial (enters_of Tryz.func95 (by kernel_rfl) rfl)
    (back_stops _ (by omega) (w1.heap.size + 1 + 1) w.heap.size b off cap p h5 hlt _ (by simp) (by simp; omega) (hN.cell 0 rfl) (fun j hj => (hB3.cell (p := ⟨b, off + j, none⟩) hlt).trans (HC.out j hj)))
    (fun h k => Kb.trans h k) (Kb.putObj (by simp; omega) (by simp)) (Below.refl _ _) (fun _ => rfl)
    (fun pre W => Hi w W (w1.heap.size + 1) lo hi (hfold lo hi pre)) (fun c pre W => c = .ret ∧ Hx w W (hfold lo hi pre))
    (Hi.own _ (by simp; omega)) (fun c => Hx.own c _ (by simp; omega))
    ⟨rfl, hS, hX.step hB2, hR.step hB2, hE.step hB2, hB3, by simp⟩
    (fun x => { tmps := #[.slice (some ⟨b, off, none⟩) p.length cap, .agg #[.int .i64 lo, .int .i64 hi], undef, .pointer (some ⟨w.heap.size, 0, none⟩), .pointer (some ⟨w.heap.size + 1, 0, none⟩), .pointer (some ⟨w.heap.size + 1 + 1, 0, none⟩), errV 0, .pointer (some ⟨w1.heap.size + 1, 0, none⟩), undef, .int .i64 x.2, undef, undef, .slice (some ⟨b, off, none⟩) p.length cap, .agg #[.int .i64 lo, .int .i64 hi], errV 0, errV 0, .bool false, undef, undef, .agg #[.int .i64 0, .int .i64 0], .slice (some ⟨b, off, none⟩) p.length cap, .func (.func 95) #[] #[.pointer (some ⟨w1.heap.size + 1 + 1, 0, none⟩)], .int .i64 x.1, .int .i64 x.2, undef, undef, undef, undef, undef, undef, undef, undef, undef, undef, undef, undef, undef, undef], defers := [] }) ?assign ?body ?done ?stop
  case assign =>
    intro l x W K hK
    gi_wp2
    exact hK
  case body =>
    rintro l pre x W hI _
    have hmx : Tryz.prog.follows .mixedOrders = true := by kernel_rfl
    have HF := hid (hfold_snoc lo hi pre x hI.ok)
    obtain ⟨R', hR'⟩ : ∃ R', hfold lo hi (pre ++ [x]) = R' := ⟨_, rfl⟩
    have HR := hid hR'
    clear hR'
    rw [HR.out] at HF
    generalize hfold lo hi pre = s at *
    have HT := fun w => hid (timesAdd_any s.1 s.2.1 lo hi x.2 x.2 w)
    rw [← HF.out] at HT
    clear HF
    gi_wp2
    obtain ⟨Inv, hInv⟩ : ∃ Inv : Array Bool → Act → World → Prop, ∀ listed a W', Inv listed a W' ↔ (∃ v25 v26 v27 v28 v29 v24 v30 v31 v10 v11 : Value, a = { tmps := #[.slice (some ⟨b, off, none⟩) p.length cap, .agg #[.int .i64 lo, .int .i64 hi], undef, .pointer (some ⟨w.heap.size, 0, none⟩), .pointer (some ⟨w.heap.size + 1, 0, none⟩), .pointer (some ⟨w.heap.size + 1 + 1, 0, none⟩), errV 0, .pointer (some ⟨w1.heap.size + 1, 0, none⟩), undef, .int .i64 x.2, v10, v11, .slice (some ⟨b, off, none⟩) p.length cap, .agg #[.int .i64 lo, .int .i64 hi], errV 0, errV 0, .bool false, undef, undef, .agg #[.int .i64 0, .int .i64 0], .slice (some ⟨b, off, none⟩) p.length cap, .func (.func 95) #[] #[.pointer (some ⟨w1.heap.size + 1 + 1, 0, none⟩)], .int .i64 x.1, .int .i64 x.2, v24, v25, v26, v27, v28, v29, v30, v31, undef, undef, undef, undef, undef, undef], defers := [] } ∧ Below W.heap.size W W' ∧
      (listed.getD 0 false = true → v25 = .agg #[.int .i64 s.1, .int .i64 s.2.1]) ∧ (listed.getD 1 false = true → v26 = .agg #[.int .i64 lo, .int .i64 hi]) ∧ (listed.getD 2 false = true → v27 = .int .i64 x.2) ∧ (listed.getD 3 false = true → v28 = .agg #[.int .i64 x.2, .int .i64 x.2]) ∧
      (listed.getD 4 false = true → v29 = .tuple #[.agg #[.int .i64 (R').1, .int .i64 (R').2.1], errV (R').2.2]) ∧ (listed.getD 5 false = true → v24 = .tuple #[.agg #[.int .i64 (R').1, .int .i64 (R').2.1], errV (R').2.2]) ∧ (listed.getD 6 false = true → v30 = .agg #[.int .i64 R'.1, .int .i64 R'.2.1]) ∧ (listed.getD 7 false = true → v31 = errV R'.2.2) ∧
      (listed.getD 8 false = true → ∃ c, v10 = .pointer (some ⟨c, 0, none⟩) ∧ W.heap.size ≤ c ∧ Sp W' c (if listed.getD 9 false then R'.1 else 0) (if listed.getD 9 false then R'.2.1 else 0)) ∧ (listed.getD 10 false = true → v11 = errV R'.2.2) ∧ (listed.getD 9 false = true → listed.getD 8 false = true)) := ⟨_, fun _ _ _ => Iff.rfl⟩
    have HI := hid hInv
    clear hInv
    refine Free.regionIn hmx (by kernel_rfl) Inv ?s1 ?s2 ?s3
    case s1 =>
      exact (HI.out _ _ _).2 ⟨undef, undef, undef, undef, undef, undef, undef, undef, undef, undef, rfl, by exact (Below.refl _ _).drew, Free.not_yet, Free.not_yet, Free.not_yet, Free.not_yet, Free.not_yet, Free.not_yet, Free.not_yet, Free.not_yet, Free.not_yet, Free.not_yet, Free.not_yet⟩
    case s2 =>
      intro i listed a W1 hi hne hnl hsz hv
      obtain ⟨v25, v26, v27, v28, v29, v24, v30, v31, v10, v11, rfl, hW, l0, l1, l2, l3, l4, l5, l6, l7, l8, l10, l9⟩ := (HI.out _ _ _).1 hv
      clear hv
      replace hi : i < 11 := hi
      replace hsz : listed.size = 11 := hsz
      have z1 := (hI.sum.step hW).lo
      have z2 := (hI.sum.step hW).hi
      have z3 := (hI.x.step hW).lo
      have z4 := (hI.x.step hW).hi
      rcases (by omega : i = 0 ∨ i = 1 ∨ i = 2 ∨ i = 3 ∨ i = 4 ∨ i = 5 ∨ i = 6 ∨ i = 7 ∨ i = 8 ∨ i = 9 ∨ i = 10) with rfl | rfl | rfl | rfl | rfl | rfl | rfl | rfl | rfl | rfl | rfl
      · refine Free.opIn rfl rfl (fun K hK => ?_)
        go_simp
        refine hK _ _ ((HI.out _ _ _).2 ⟨_, v26, v27, v28, v29, v24, v30, v31, v10, v11, rfl, hW, fun _ => rfl, Free.of_set (by decide) l1, Free.of_set (by decide) l2, Free.of_set (by decide) l3, Free.of_set (by decide) l4, Free.of_set (by decide) l5, Free.of_set (by decide) l6, Free.of_set (by decide) l7, by rw [Free.set_other (by decide) false, Free.set_other (by decide) false]; exact l8, Free.of_set (by decide) l10, by rw [Free.set_other (by decide) false]; exact fun e => Free.set_other (listed := listed) (by decide) false |>.trans (l9 e)⟩)
      · refine Free.opIn rfl rfl (fun K hK => ?_)
        go_simp
        refine hK _ _ ((HI.out _ _ _).2 ⟨v25, _, v27, v28, v29, v24, v30, v31, v10, v11, rfl, hW, Free.of_set (by decide) l0, fun _ => rfl, Free.of_set (by decide) l2, Free.of_set (by decide) l3, Free.of_set (by decide) l4, Free.of_set (by decide) l5, Free.of_set (by decide) l6, Free.of_set (by decide) l7, by rw [Free.set_other (by decide) false, Free.set_other (by decide) false]; exact l8, Free.of_set (by decide) l10, by rw [Free.set_other (by decide) false]; exact fun e => Free.set_other (listed := listed) (by decide) false |>.trans (l9 e)⟩)
      · refine Free.opIn rfl rfl (fun K hK => ?_)
        go_simp
        refine hK _ _ ((HI.out _ _ _).2 ⟨v25, v26, _, v28, v29, v24, v30, v31, v10, v11, rfl, hW, Free.of_set (by decide) l0, Free.of_set (by decide) l1, fun _ => rfl, Free.of_set (by decide) l3, Free.of_set (by decide) l4, Free.of_set (by decide) l5, Free.of_set (by decide) l6, Free.of_set (by decide) l7, by rw [Free.set_other (by decide) false, Free.set_other (by decide) false]; exact l8, Free.of_set (by decide) l10, by rw [Free.set_other (by decide) false]; exact fun e => Free.set_other (listed := listed) (by decide) false |>.trans (l9 e)⟩)
      · refine Free.opIn rfl rfl (fun K hK => ?_)
        obtain rfl := l2 (hne 2 (by kernel_rfl))
        gi_wp2_with (refine ⟨trivial, ?_⟩; gi_at_call 42; refine (CallsIn.inRound l (callsIn_wide.2 (alone_any _ _))).mono ?_; rintro e W2 ⟨rfl, rfl⟩)
        exact (HI.out _ _ _).2 ⟨v25, v26, _, _, v29, v24, v30, v31, v10, v11, rfl, hW.alloc hW.size _, Free.of_set (by decide) l0, Free.of_set (by decide) l1, fun _ => rfl, fun _ => rfl, Free.of_set (by decide) l4, Free.of_set (by decide) l5, Free.of_set (by decide) l6, Free.of_set (by decide) l7, by rw [Free.set_other (by decide) false, Free.set_other (by decide) false]; exact fun e => (l8 e).imp fun c h => ⟨h.1, h.2.1, h.2.2.alloc _⟩, Free.of_set (by decide) l10, by rw [Free.set_other (by decide) false]; exact fun e => Free.set_other (listed := listed) (by decide) false |>.trans (l9 e)⟩
      · refine Free.opIn rfl rfl (fun K hK => ?_)
        obtain rfl := l0 (hne 0 (by kernel_rfl))
        obtain rfl := l1 (hne 1 (by kernel_rfl))
        obtain rfl := l3 (hne 3 (by kernel_rfl))
        gi_wp2_with (refine ⟨trivial, ?_⟩; gi_at_call 78; refine (CallsIn.inRound l (callsIn_wide.2 ((HT _).out))).mono ?_; rintro e W2 ⟨rfl, hb⟩)
        exact (HI.out _ _ _).2 ⟨_, _, v27, _, _, v24, v30, v31, v10, v11, rfl, hW.trans (hb.mono hW.size), fun _ => rfl, fun _ => rfl, Free.of_set (by decide) l2, fun _ => rfl, fun _ => rfl, Free.of_set (by decide) l5, Free.of_set (by decide) l6, Free.of_set (by decide) l7, by rw [Free.set_other (by decide) false, Free.set_other (by decide) false]; exact fun e => (l8 e).imp fun c h => ⟨h.1, h.2.1, h.2.2.step hb⟩, Free.of_set (by decide) l10, by rw [Free.set_other (by decide) false]; exact fun e => Free.set_other (listed := listed) (by decide) false |>.trans (l9 e)⟩
      · refine Free.opIn rfl rfl (fun K hK => ?_)
        obtain rfl := l4 (hne 4 (by kernel_rfl))
        go_simp
        refine hK _ _ ((HI.out _ _ _).2 ⟨v25, v26, v27, v28, _, _, v30, v31, v10, v11, rfl, hW, Free.of_set (by decide) l0, Free.of_set (by decide) l1, Free.of_set (by decide) l2, Free.of_set (by decide) l3, fun _ => rfl, fun _ => rfl, Free.of_set (by decide) l6, Free.of_set (by decide) l7, by rw [Free.set_other (by decide) false, Free.set_other (by decide) false]; exact l8, Free.of_set (by decide) l10, by rw [Free.set_other (by decide) false]; exact fun e => Free.set_other (listed := listed) (by decide) false |>.trans (l9 e)⟩)
      · refine Free.opIn rfl rfl (fun K hK => ?_)
        obtain rfl := l5 (hne 5 (by kernel_rfl))
        go_simp
        refine hK _ _ ((HI.out _ _ _).2 ⟨v25, v26, v27, v28, v29, _, _, v31, v10, v11, rfl, hW, Free.of_set (by decide) l0, Free.of_set (by decide) l1, Free.of_set (by decide) l2, Free.of_set (by decide) l3, Free.of_set (by decide) l4, fun _ => rfl, fun _ => rfl, Free.of_set (by decide) l7, by rw [Free.set_other (by decide) false, Free.set_other (by decide) false]; exact l8, Free.of_set (by decide) l10, by rw [Free.set_other (by decide) false]; exact fun e => Free.set_other (listed := listed) (by decide) false |>.trans (l9 e)⟩)
      · refine Free.opIn rfl rfl (fun K hK => ?_)
        obtain rfl := l5 (hne 5 (by kernel_rfl))
        go_simp
        refine hK _ _ ((HI.out _ _ _).2 ⟨v25, v26, v27, v28, v29, _, v30, _, v10, v11, rfl, hW, Free.of_set (by decide) l0, Free.of_set (by decide) l1, Free.of_set (by decide) l2, Free.of_set (by decide) l3, Free.of_set (by decide) l4, fun _ => rfl, Free.of_set (by decide) l6, fun _ => rfl, by rw [Free.set_other (by decide) false, Free.set_other (by decide) false]; exact l8, Free.of_set (by decide) l10, by rw [Free.set_other (by decide) false]; exact fun e => Free.set_other (listed := listed) (by decide) false |>.trans (l9 e)⟩)
      · have h8 := Free.off hnl
        have h9 : listed.getD 9 false = false := by
          cases e : listed.getD 9 false
          · rfl
          · rw [l9 e] at h8; cases h8
        refine Free.opIn rfl rfl (fun K hK => ?_)
        go_simp
        refine hK _ _ ((HI.out _ _ _).2 ⟨v25, v26, v27, v28, v29, v24, v30, v31, _, v11, rfl, hW.alloc hW.size _, Free.of_set (by decide) l0, Free.of_set (by decide) l1, Free.of_set (by decide) l2, Free.of_set (by decide) l3, Free.of_set (by decide) l4, Free.of_set (by decide) l5, Free.of_set (by decide) l6, Free.of_set (by decide) l7, by rw [Free.set_other (i := 8) (j := 9) (by decide) false, h9]; exact fun _ => ⟨W1.heap.size, rfl, hW.size, Sp.new _ _ _⟩, Free.of_set (by decide) l10, fun _ => Free.set_same (by omega)⟩)
      · have h9 := Free.off hnl
        have h8 := hne 8 (by kernel_rfl)
        obtain ⟨c, rfl, hle, hsp⟩ := l8 h8
        rw [h9] at hsp
        replace hsp : Sp W1 c 0 0 := hsp
        have y1 := hsp.fl
        have y2 := hsp.fh
        have y3 := hsp.lo
        have y4 := hsp.hi
        refine Free.opIn rfl rfl (fun K hK => ?_)
        obtain rfl := l6 (hne 6 (by kernel_rfl))
        go_simp
        refine hK _ _ ((HI.out _ _ _).2 ⟨v25, v26, v27, v28, v29, v24, _, v31, _, v11, rfl, (hW.setCell (by simpa using hle) _).setCell (by simpa using hle) _, Free.of_set (by decide) l0, Free.of_set (by decide) l1, Free.of_set (by decide) l2, Free.of_set (by decide) l3, Free.of_set (by decide) l4, Free.of_set (by decide) l5, fun _ => rfl, Free.of_set (by decide) l7, by rw [Free.set_same (i := 9) (by omega)]; exact fun _ => ⟨c, rfl, hle, hsp.set _ _⟩, Free.of_set (by decide) l10, fun _ => Free.set_other (listed := listed) (by decide) false |>.trans h8⟩)
      · refine Free.opIn rfl rfl (fun K hK => ?_)
        obtain rfl := l7 (hne 7 (by kernel_rfl))
        go_simp
        refine hK _ _ ((HI.out _ _ _).2 ⟨v25, v26, v27, v28, v29, v24, v30, _, v10, _, rfl, hW, Free.of_set (by decide) l0, Free.of_set (by decide) l1, Free.of_set (by decide) l2, Free.of_set (by decide) l3, Free.of_set (by decide) l4, Free.of_set (by decide) l5, Free.of_set (by decide) l6, fun _ => rfl, by rw [Free.set_other (by decide) false, Free.set_other (by decide) false]; exact l8, fun _ => rfl, by rw [Free.set_other (by decide) false]; exact fun e => Free.set_other (listed := listed) (by decide) false |>.trans (l9 e)⟩)
    case s3 =>
      intro listed a W1 hall hsz hv
      obtain ⟨v25, v26, v27, v28, v29, v24, v30, v31, v10, v11, rfl, hW, l0, l1, l2, l3, l4, l5, l6, l7, l8, l10, l9⟩ := (HI.out _ _ _).1 hv
      clear hv HI
      have h9 := Free.listed_of hall hsz 9 (by decide)
      obtain ⟨c, rfl, hle, hsp⟩ := l8 (Free.listed_of hall hsz 8 (by decide))
      obtain rfl := l10 (Free.listed_of hall hsz 10 (by decide))
      rw [h9] at hsp
      replace hsp : Sp W1 c R'.1 R'.2.1 := hsp
      clear l0 l1 l2 l3 l4 l5 l6 l7 l8 l9 l10 hall hsz HT
      have hJ := hI.step hW
      have hk0 : KeepsFrom _ W W1 := keeps_of (B := (((w1.alloc (.cells #[.int .i64 0, .int .i64 0] 49)).alloc (.cells #[.int .i64 0, .int .i64 0] 49)).alloc (.cells #[.slice (some ⟨b, off, none⟩) p.length cap] 52)).heap.size) hW
      have hbs := hI.bs
      by_cases hr : R'.2.2 = 0
      · have kr : (R'.2.2 != 0) = false := by simpa using hr
        have c1 := hsp.lo
        have c2 := hsp.hi
        have y1 := hJ.sum.fl
        have y2 := hJ.sum.fh
        have y3 := hJ.sum.lo
        have y4 := hJ.sum.hi
        gi_wp2
        refine ⟨(hk0.trans ((KeepsOthers.setCell _ _ _).from _)).trans ((KeepsOthers.setCell _ _ _).from _), ⟨((hW.mono hI.below.size).setCell (by simp only []; omega) _).setCell (by simp only []; omega) _, ?_⟩, ?_⟩
        · rw [Below.heap_setCell _ _ _ _ (by simp only []; omega), Below.heap_setCell _ _ _ _ (by simp only []; omega)]
          exact hW.block _ (by omega)
        · show Hi w _ _ lo hi (hfold lo hi (pre ++ [x]))
          rw [HR.out]
          exact ⟨hr, hJ.sum.set _ _, (hJ.x.other _ _ (by simp only []; omega)).other _ _ (by simp only []; omega), (hJ.res.other _ _ (by simp only []; omega)).other _ _ (by simp only []; omega), (hJ.err.other _ _ (by simp only []; omega)).other _ _ (by simp only []; omega), (hJ.below.setCell (by simp only []; omega) _).setCell (by simp only []; omega) _, by simpa using hJ.bs⟩
      · have kr : (R'.2.2 != 0) = true := by simpa using hr
        have y1 := hJ.res.fl
        have y2 := hJ.res.fh
        have y3 := hJ.res.lo
        have y4 := hJ.res.hi
        have e1 := hJ.err.cell 0 rfl
        have e2 := hJ.err.free 0
        have ev := errV_some hr
        have HV := hid ev
        gi_wp2
        refine ⟨((hk0.trans ((KeepsOthers.setCell _ _ _).from _)).trans ((KeepsOthers.setCell _ _ _).from _)).trans ((KeepsOthers.setCell _ _ _).from _), rfl, ?_⟩
        show Hx w _ (hfold lo hi (pre ++ [x]))
        rw [HR.out]
        refine ⟨hr, ?_, ?_, ?_⟩
        · exact (hJ.res.set 0 0).other _ _ (by simp only []; omega)
        · rw [HV.out]
          exact Blk.set (cs := #[.nilIface]) ((hJ.err.other _ _ (by simp only []; omega)).other _ _ (by simp only []; omega)) 0 _ rfl
        · exact ((hJ.below.setCell (by simp only []; omega) _).setCell (by simp only []; omega) _).setCell (by simp only []; omega) _
  case done =>
    rintro D ys W hD rfl hI hK
    have HAo := HA.out
    rw [HAo] at hI
    clear HAo HA HS HC
    obtain ⟨R, hR'⟩ : ∃ R, Um.hornR lo hi p = R := ⟨_, rfl⟩
    rw [hR'] at hI
    have HR := hid hR'
    clear hR'
    have c1 := hI.sum.lo
    have c2 := hI.sum.hi
    have y1 := hI.res.fl
    have y2 := hI.res.fh
    have y3 := hI.res.lo
    have y4 := hI.res.hi
    have e1 := hI.err.cell 0 rfl
    have e2 := hI.err.free 0
    gi_wp2
    have hK' := (((KeepsOthers.setCell W ⟨w.heap.size + 1, 0, none⟩ (.int .i64 R.1)).trans (KeepsOthers.setCell _ ⟨w.heap.size + 1, 1, none⟩ (.int .i64 R.2.1))).trans (KeepsOthers.setCell _ ⟨w.heap.size + 1 + 1, 0, none⟩ .nilIface)).same D _ hK rfl
    refine ⟨by simp, .inl ⟨_, _, rfl, run_takeDeferred hK', ?_⟩⟩
    have s1 : Sp (((W.setCell ⟨w.heap.size + 1, 0, none⟩ (.int .i64 R.1)).setCell ⟨w.heap.size + 1, 1, none⟩ (.int .i64 R.2.1)).setCell ⟨w.heap.size + 1 + 1, 0, none⟩ .nilIface) (w.heap.size + 1) R.1 R.2.1 := (hI.res.set _ _).other _ _ (by simp only []; omega)
    have s2 : Blk (((W.setCell ⟨w.heap.size + 1, 0, none⟩ (.int .i64 R.1)).setCell ⟨w.heap.size + 1, 1, none⟩ (.int .i64 R.2.1)).setCell ⟨w.heap.size + 1 + 1, 0, none⟩ .nilIface) (w.heap.size + 1 + 1) 29 #[.nilIface] :=
      Blk.set (cs := #[.nilIface]) ((hI.err.other _ _ (by simp only []; omega)).other _ _ (by simp only []; omega)) 0 _ rfl
    have s3 := s1.kept (grownBy_putObj' _ D (.deferred none)) (fun r e => by cases e; exact ⟨_, hK', rfl⟩)
    have s4 := s2.kept (grownBy_putObj' _ D (.deferred none)) (fun r e => by cases e; exact ⟨_, hK', rfl⟩)
    have d1 := s3.lo
    have d2 := s3.hi
    have d3 := s4.cell 0 rfl
    rw [HR.out, hI.ok]
    refine ⟨.tuple #[.agg #[.int .i64 R.1, .int .i64 R.2.1], .nilIface], ?_, rfl, (((hI.below.setCell (by simp only []; omega) _).setCell (by simp only []; omega) _).setCell (by simp only []; omega) _).trans (belowK_b (w := w) (Nat.le_refl _) _ D _ _ (by simp at hD; omega) hK' rfl rfl)⟩
    simp [results, Tryz.f61, go_sem, d1, d2, d3]
  case stop =>
    rintro D c pre W hD ⟨k, hk, rfl⟩ ⟨rfl, hI⟩ hK
    obtain ⟨t1, t2⟩ := (HS k hk hI.no).out
    have HT1 := hid t1
    have HT2 := hid t2
    clear t1 t2 HS HA HC
    gi_wp2
    refine ⟨by simp, .inl ⟨_, _, rfl, run_takeDeferred hK, ?_⟩⟩
    have s3 := hI.res.kept (grownBy_putObj' _ D (.deferred none)) (fun r e => by cases e; exact ⟨_, hK, rfl⟩)
    have s4 := hI.err.kept (grownBy_putObj' _ D (.deferred none)) (fun r e => by cases e; exact ⟨_, hK, rfl⟩)
    rw [HT1.out] at s4
    have d1 := s3.lo
    have d2 := s3.hi
    have d3 := s4.cell 0 rfl
    rw [HT2.out]
    refine ⟨.tuple #[.agg #[.int .i64 0, .int .i64 0], errV 4], ?_, rfl, hI.below.trans (belowK_b (w := w) (Nat.le_refl _) _ D _ _ (by simp at hD; omega) hK rfl rfl)⟩
    simp [results, Tryz.f61, go_sem, d1, d2, d3]

set_option maxHeartbeats 1000000 in
theorem horner_wrong (p : List Int) (v : Value) (lo hi : Int) (w : World) (hl : Li w.heap.size w v p) (h : ¬ Um.over p lo hi = 0) :
    Calls Tryz.prog 61 #[v, .agg #[.int .i64 lo, .int .i64 hi]] w fun e w' => e = .returned (.tuple #[.agg #[.int .i64 0, .int .i64 0], errV (Um.over p lo hi)]) ∧ Below w.heap.size w w' := by
  have q1 := errG
  have q2 := errGn
  have q3 := errE
  have q4 := errN
  have HO := fun w hl => hid (checkOver_any p v lo hi w hl)
  have k : (Um.over p lo hi != 0) = true := by simpa using h
  have ev := errV_some h
  rw [ev]
  rw [ev] at HO
  clear h ev
  have hR : Sp (((w.alloc (.cells #[.int .i64 lo, .int .i64 hi] 49)).alloc (.cells #[.int .i64 0, .int .i64 0] 49)).alloc (.cells #[.nilIface] 29)) (w.heap.size + 1) 0 0 := by
    simpa using (Sp.new (w.alloc (.cells #[.int .i64 lo, .int .i64 hi] 49)) 0 0).alloc (.cells #[.nilIface] 29)
  have hE : Blk (((w.alloc (.cells #[.int .i64 lo, .int .i64 hi] 49)).alloc (.cells #[.int .i64 0, .int .i64 0] 49)).alloc (.cells #[.nilIface] 29)) (w.heap.size + 1 + 1) 29 #[.nilIface] := by
    simpa using Blk.new ((w.alloc (.cells #[.int .i64 lo, .int .i64 hi] 49)).alloc (.cells #[.int .i64 0, .int .i64 0] 49)) 29 #[.nilIface]
  have hB : Below w.heap.size w (((w.alloc (.cells #[.int .i64 lo, .int .i64 hi] 49)).alloc (.cells #[.int .i64 0, .int .i64 0] 49)).alloc (.cells #[.nilIface] 29)) := by go_grown
  have hL := (hl.keep hB).wide hB.size
  obtain ⟨a, cap, rfl, -⟩ := hl
  generalize Um.over p lo hi = T at *
  go_enter Tryz.func61, Tryz.ntmps61
  go_wp2_with (go_at_call 38; refine (HO _ hL).out.mono ?_; rintro e w1 ⟨rfl, hb⟩; replace hR := hR.step hb; replace hE := hE.step hb; replace hB := hB.trans (hb.mono hB.size); clear hb hL; have y1 := hR.fl; have y2 := hR.fh; have y3 := hR.lo; have y4 := hR.hi; have e1 := hE.cell 0 rfl; have e2 := hE.free 0)
  have s1 := (hR.set 0 0).other ⟨w.heap.size + 1 + 1, 0, none⟩ (.iface 53 (.int .i64 T)) (by simp only []; omega)
  have s2 : Blk (((w1.setCell ⟨w.heap.size + 1, 0, none⟩ (.int .i64 0)).setCell ⟨w.heap.size + 1, 1, none⟩ (.int .i64 0)).setCell ⟨w.heap.size + 1 + 1, 0, none⟩ (.iface 53 (.int .i64 T))) (w.heap.size + 1 + 1) 29 #[.iface 53 (.int .i64 T)] :=
    Blk.set (cs := #[.nilIface]) ((hE.other _ _ (by simp only []; omega)).other _ _ (by simp only []; omega)) 0 _ rfl
  have d1 := s1.lo
  have d2 := s1.hi
  have d3 := s2.cell 0 rfl
  refine bodyPost_ret (by simp [results, Tryz.results61, go_sem, d1, d2, d3]; try rfl) rfl ?_
  exact ⟨rfl, ((hB.setCell (by simp only []; omega) _).setCell (by simp only []; omega) _).setCell (by simp only []; omega) _⟩

/-- At every argument. -/
theorem horner_any (p : List Int) (v : Value) (lo hi : Int) (w : World) (hl : Li w.heap.size w v p) :
    Calls Tryz.prog 61 #[v, .agg #[.int .i64 lo, .int .i64 hi]] w fun e w' => e = .returned (.tuple #[.agg #[.int .i64 (Um.hornAll p lo hi).1, .int .i64 (Um.hornAll p lo hi).2.1], errV (Um.hornAll p lo hi).2.2]) ∧ Below w.heap.size w w' := by
  unfold Um.hornAll
  by_cases h : Um.over p lo hi = 0
  · rw [if_pos h]; exact horner_right p v lo hi w hl h
  · rw [if_neg h]; exact horner_wrong p v lo hi w hl h
end Go.Proofs.YthgehlonjoafmaaGreatDoor
