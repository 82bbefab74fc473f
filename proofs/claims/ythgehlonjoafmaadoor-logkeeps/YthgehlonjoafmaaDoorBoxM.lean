/-
  What package box answers: Hull, Meet at every argument.
-/
import Derived.Test.YthgehlonjoafmaaDoorBoxC
import Derived.Test.YthgehlonjoafmaaDoorSpanHull
import Derived.Test.YthgehlonjoafmaaDoorMems
namespace Um
/-- What is made side by side, of the first k sides; the first fault. -/
def sideN (R : Nat → Int × Int × Int) : Nat → List (Int × Int) × Int
  | 0 => ([], 0)
  | k + 1 => if (sideN R k).2 = 0 then (if (R k).2.2 = 0 then ((sideN R k).1 ++ [((R k).1, (R k).2.1)], 0) else ([], (R k).2.2)) else sideN R k
theorem side_next {R : Nat → Int × Int × Int} {k : Nat} (h : (sideN R k).2 = 0) (h2 : (R k).2.2 = 0) : sideN R (k + 1) = ((sideN R k).1 ++ [((R k).1, (R k).2.1)], 0) := by
  show (if (sideN R k).2 = 0 then _ else _) = _
  rw [if_pos h, if_pos h2]
theorem side_bad {R : Nat → Int × Int × Int} {k : Nat} (h : (sideN R k).2 = 0) (h2 : ¬ (R k).2.2 = 0) : ∀ {n : Nat}, k < n → sideN R n = ([], (R k).2.2) := by
  intro n hn
  induction n with
  | zero => omega
  | succ n ih =>
    show (if (sideN R n).2 = 0 then _ else _) = _
    rcases (by omega : k = n ∨ k < n) with rfl | q
    · rw [if_pos h, if_neg h2]
    · rw [ih q, if_neg h2]
theorem hull_all {a b : List (Int × Int)} (h : boxesF a b = 0) : ∀ k, k ≤ a.length → sideN (fun k => made (hullR (sd a k).1 (sd a k).2 (sd b k).1 (sd b k).2) (sd a k).1 (sd a k).2 (sd b k).1 (sd b k).2) k = (hullN a b k, 0)
  | 0, _ => rfl
  | k + 1, hk => by
    have ih := hull_all h k (by omega)
    obtain ⟨ha, hb, hl⟩ := boxes_ok.1 h
    have e := made_good (R := hullR (sd a k).1 (sd a k).2 (sd b k).1 (sd b k).2) (box_side ha (show k < a.length by omega)) (box_side hb (show k < b.length by omega))
    rw [side_next (by rw [ih]) (by simp only [e]; rfl), ih]
    simp only [e]
    rfl
theorem meet_all {a b : List (Int × Int)} (h : boxesF a b = 0) : ∀ k, k ≤ a.length → sideN (fun k => made (meetR (sd a k).1 (sd a k).2 (sd b k).1 (sd b k).2) (sd a k).1 (sd a k).2 (sd b k).1 (sd b k).2) k = meetN a b k
  | 0, _ => rfl
  | k + 1, hk => by
    have ih := meet_all h k (by omega)
    obtain ⟨ha, hb, hl⟩ := boxes_ok.1 h
    have e := made_good (R := meetR (sd a k).1 (sd a k).2 (sd b k).1 (sd b k).2) (box_side ha (show k < a.length by omega)) (box_side hb (show k < b.length by omega))
    by_cases h0 : (meetN a b k).2 = 0
    · by_cases hm : max (sd a k).1 (sd b k).1 ≤ min (sd a k).2 (sd b k).2
      · rw [side_next (by rw [ih]; exact h0) (by simp only [e]; rw [meet_yes hm]), ih, meetN_next h0 hm]
        simp only [e]
        rw [meet_yes hm]
      · rw [side_bad (k := k) (by rw [ih]; exact h0) (by simp only [e]; rw [meet_no hm]; decide) (Nat.lt_succ_self k), meetN_bad (Nat.lt_succ_self k) hm]
        simp only [e]
        rw [meet_no hm]
    · have e2 := (meetN_fault a b k).resolve_left h0
      have := meetN_stay h0 1
      rw [this]
      show (if (sideN _ k).2 = 0 then _ else sideN _ k) = _
      rw [ih, if_neg h0, e2]
end Um
namespace Go.Proofs.YthgehlonjoafmaaDoor
set_option linter.unusedSimpArgs false
open Go.RowKit

theorem info_side : (Tryd.prog.info? 28).map (fun i => (i.zero, i.size, i.bytes)) = some (some (.agg #[.int .i64 0, .int .i64 0]), 2, 16) := by kernel_rfl
/-- A row of n spans of a call's own that is being filled: the first ones are l. -/
structure RowAt (w : World) (n B : Nat) (l : List (Int × Int)) (wr : World) : Prop where
  below : Below w.heap.size w wr
  row : wr.ownsRow w.heap.size 28 2 (.slice (some ⟨B, 0, none⟩) n n) n (cellsOf (l ++ List.replicate (n - l.length) (0, 0)))
theorem RowAt.start {w w0 : World} {n B : Nat} (hg : w.grownBy w0 none)
    (hr : w0.ownsRow w.heap.size 28 2 (.slice (some ⟨B, 0, none⟩) n n) n (madeCells (Value.agg #[.int .i64 0, .int .i64 0]).cells (n * 2)).toList) : RowAt w n B [] w0 := by
  refine ⟨(Below.refl w.heap.size w).grown hg (Nat.le_refl _) (fun j e => by cases e), ?_⟩
  have e : (Value.agg #[.int .i64 0, .int .i64 0]).cells = #[.int .i64 0, .int .i64 0] := rfl
  rw [e, cellsOf_zeros] at hr
  exact hr
theorem RowAt.lo0 {w wr : World} {n B : Nat} {l : List (Int × Int)} (h : RowAt w n B l wr) {k : Nat} (hl : l.length = k) (hk : k < n) : wr.cell? ⟨B, k * 2, none⟩ = some (.int .i64 0) := by
  subst hl
  rw [h.row.cellAt (l.length * 2) (by omega), cellsOf_lo _ l.length (by rw [List.length_append, List.length_replicate]; omega), List.getElem?_append_right (Nat.le_refl _), Nat.sub_self]
  simp [show 0 < n - l.length by omega]
theorem RowAt.hi0 {w wr : World} {n B : Nat} {l : List (Int × Int)} (h : RowAt w n B l wr) {k : Nat} (hl : l.length = k) (hk : k < n) : wr.cell? ⟨B, k * 2 + 1, none⟩ = some (.int .i64 0) := by
  subst hl
  rw [h.row.cellAt (l.length * 2 + 1) (by omega), cellsOf_hi _ l.length (by rw [List.length_append, List.length_replicate]; omega), List.getElem?_append_right (Nat.le_refl _), Nat.sub_self]
  simp [show 0 < n - l.length by omega]
theorem RowAt.ge {w wr : World} {n B : Nat} {l : List (Int × Int)} (h : RowAt w n B l wr) : w.heap.size ≤ B := owns_from h.row B rfl
theorem set_behind : ∀ (l : List (Int × Int)) (m : Nat) (s : Int × Int), (l ++ List.replicate (m + 1) (0, 0)).set l.length s = l ++ [s] ++ List.replicate m (0, 0)
  | [], m, s => rfl
  | x :: l, m, s => by
    show x :: (l ++ List.replicate (m + 1) (0, 0)).set l.length s = x :: (l ++ [s] ++ List.replicate m (0, 0))
    rw [set_behind l m s]
theorem RowAt.put {w wr : World} {n B : Nat} {l : List (Int × Int)} (h : RowAt w n B l wr) {k : Nat} (hl : l.length = k) (hk : k < n) (x y : Int) :
    RowAt w n B (l ++ [(x, y)]) ((wr.setCell ⟨B, k * 2, none⟩ (.int .i64 x)).setCell ⟨B, k * 2 + 1, none⟩ (.int .i64 y)) := by
  subst hl
  have g := h.ge
  have s1 := (h.row.stored (l.length * 2) (.int .i64 x)).1
  have s2 := (s1.stored (l.length * 2 + 1) (.int .i64 y)).1
  refine ⟨(h.below.setCell (by show w.heap.size ≤ B; omega) _).setCell (by show w.heap.size ≤ B; omega) _, ?_⟩
  rw [cellsOf_set, show n - l.length = (n - (l ++ [(x, y)]).length) + 1 by simp; omega, set_behind] at s2
  exact s2
theorem RowAt.step {w wr w' : World} {n B : Nat} {l : List (Int × Int)} (h : RowAt w n B l wr) (hb : Below wr.heap.size wr w') : RowAt w n B l w' := ⟨h.below.trans (hb.mono h.below.size), owns_keep h.row hb⟩
theorem RowAt.ls {w wr : World} {n B : Nat} {l : List (Int × Int)} (h : RowAt w n B l wr) (hl : l.length = n) : Ls wr.heap.size wr (.slice (some ⟨B, 0, none⟩) n n) l := by
  have := h.row
  rw [hl, Nat.sub_self, List.replicate_zero, List.append_nil] at this
  subst hl
  exact ls_owns this
theorem RowAt.own {w wr : World} {n B : Nat} {l : List (Int × Int)} (h : RowAt w n B l wr) (hl : l.length = n) {base : Nat} (hb : base ≤ w.heap.size) : wr.ownsRow base 28 2 (.slice (some ⟨B, 0, none⟩) n n) n (cellsOf l) := by
  have := h.row
  rw [hl, Nat.sub_self, List.replicate_zero, List.append_nil] at this
  obtain ⟨e, h2⟩ := this
  refine ⟨e, h2.imp id ?_⟩
  rintro ⟨g1, cap1, cur, e1, hg, r⟩
  exact ⟨g1, cap1, cur, e1, Nat.le_trans hb hg, r⟩

set_option maxRecDepth 100000 in
set_option maxHeartbeats 8000000 in
theorem side_hull (a b : List (Int × Int)) (u v : Value) (w : World) (hs1 : Ls w.heap.size w u a) (hs2 : Ls w.heap.size w v b) (h : Um.boxesF a b = 0) :
    Calls Tryd.prog 38 #[u, v, .func (.func 39) #[] #[]] w fun e w' => ∃ r, e = .returned (.tuple #[r, errV (Um.sideN (fun k => Um.made (Um.hullR (Um.sd a k).1 (Um.sd a k).2 (Um.sd b k).1 (Um.sd b k).2) (Um.sd a k).1 (Um.sd a k).2 (Um.sd b k).1 (Um.sd b k).2) a.length).2]) ∧ Ls w'.heap.size w' r (Um.sideN (fun k => Um.made (Um.hullR (Um.sd a k).1 (Um.sd a k).2 (Um.sd b k).1 (Um.sd b k).2) (Um.sd a k).1 (Um.sd a k).2 (Um.sd b k).1 (Um.sd b k).2) a.length).1 ∧ Below w.heap.size w w' ∧ ((Um.sideN (fun k => Um.made (Um.hullR (Um.sd a k).1 (Um.sd a k).2 (Um.sd b k).1 (Um.sd b k).2) (Um.sd a k).1 (Um.sd a k).2 (Um.sd b k).1 (Um.sd b k).2) a.length).2 = 0 → w'.ownsRow w.heap.size 28 2 r a.length (cellsOf (Um.sideN (fun k => Um.made (Um.hullR (Um.sd a k).1 (Um.sd a k).2 (Um.sd b k).1 (Um.sd b k).2) (Um.sd a k).1 (Um.sd a k).2 (Um.sd b k).1 (Um.sd b k).2) a.length).1)) := by
  have v0 := errV_none
  have q1 := errG
  have q2 := errGn
  have q3 := errE
  have q4 := errN
  have hmx : Tryd.prog.follows .mixedOrders = true := by kernel_rfl
  obtain ⟨ha, hb, hl⟩ := Um.boxes_ok.1 h
  have hln := Um.box_len ha
  have HC := fun w hs1 hs2 => hid (checkTwo_any a b u v w hs1 hs2)
  rw [h] at HC
  have HD := fun k w => hid (hull_any (Um.sd a k).1 (Um.sd a k).2 (Um.sd b k).1 (Um.sd b k).2 w)
  have hN1 := hid (Um.box_ok.1 ha).1
  have hN2 := hid (Um.box_ok.1 hb).1
  obtain ⟨R, hR⟩ : ∃ R : Nat → Int × Int × Int, R = (fun k => Um.made (Um.hullR (Um.sd a k).1 (Um.sd a k).2 (Um.sd b k).1 (Um.sd b k).2) (Um.sd a k).1 (Um.sd a k).2 (Um.sd b k).1 (Um.sd b k).2) := ⟨_, rfl⟩
  have HDR := fun k w => by
    have := (HD k w).out
    rw [show Um.made (Um.hullR (Um.sd a k).1 (Um.sd a k).2 (Um.sd b k).1 (Um.sd b k).2) (Um.sd a k).1 (Um.sd a k).2 (Um.sd b k).1 (Um.sd b k).2 = R k by rw [hR]] at this
    exact hid this
  rw [← hR]
  have HL := hid hl
  clear HD hR h ha hb hl
  have hF := Fr.start w
  obtain ⟨i0, hi0, hz0, hz1, hz2⟩ := info_parts info_side
  obtain ⟨b1, off1, cap1, rfl, -, -⟩ := hs1.open hN1.out
  obtain ⟨b2, off2, cap2, rfl, -, -⟩ := hs2.open hN2.out
  go_enter Tryd.func38, Tryd.ntmps38
  go_wp2_with (first | (go_at_call 46; refine (HC _ hs1 hs2).out.mono ?_; rintro e wn ⟨rfl, hb⟩; replace hF := hF.step hb; replace hs1 := hs1.step hb; replace hs2 := hs2.step hb; clear hb) | (at_make; refine wpList_make_full _ rfl _ _ 29 rfl wn.heap.size 28 i0 (.agg #[.int .i64 0, .int .i64 0]) 2 Tryd.underlying29 hi0 hz0 hz1 .i64 .i64 _ _ a.length rfl rfl (by first | rfl | omega) (by first | rfl | omega) (by rw [hz2]; omega) (by unfold maxLen; omega) (by simp) ?_; intro w0 hown hgrow; have hP := RowAt.start hgrow hown; clear hown hgrow))
  obtain ⟨_, _, _, e1, -, hA0⟩ := hs1.open hN1.out
  cases e1
  obtain ⟨_, _, _, e2, -, hB0⟩ := hs2.open hN2.out
  cases e2
  clear HC hs1 hs2 hN1 hN2
  have HP0 := hid hP
  clear hP
  generalize wn.heap.size = B at HP0 ⊢
  go_loopw [24] (fun i wr => ∃ k : Nat, k ≤ a.length ∧ i = .int .i64 k ∧ RowAt wn a.length B (Um.sideN R k).1 wr ∧ Hid ((Um.sideN R k).2 = 0 ∧ (Um.sideN R k).1.length = k)) (fun i _ => a.length - (intOf i).toNat)
  case atStart => exact ⟨0, Nat.zero_le _, rfl, HP0.out, ⟨rfl, rfl⟩⟩
  case round =>
    clear HP0
    obtain ⟨k, hk, rfl, hP, hZ⟩ := hrel
    by_cases hkl : k < a.length
    · have hkk : (k : Int) < (a.length : Int) := by omega
      have hkk2 : (k : Int) < (b.length : Int) := by have := HL.out; omega
      have hA := hA0.step hP.below
      have hB := hB0.step hP.below
      have HR := fun w => HDR k w
      have HA := hid (Um.sd_some hkl)
      have HB := hid (Um.sd_some (show k < b.length by have := HL.out; omega))
      have HY := fun h2 => hid (Um.side_next hZ.out.1 h2)
      have HX := fun h2 => hid (Um.side_bad hZ.out.1 h2 hkl)
      clear HDR hA0 hB0
      generalize Um.sd a k = s1 at *
      generalize Um.sd b k = s2 at *
      obtain ⟨A0, A1⟩ := s1
      obtain ⟨C0, C1⟩ := s2
      generalize R k = S at *
      simp only at HR
      by_cases hc : S.2.2 = 0
      · have kS : (S.2.2 != 0) = false := by simpa using hc
        have HM := HY hc
        clear HX HY hc
        go_wp2
        obtain ⟨Inv, hInv⟩ : ∃ Inv : Array Bool → Act → World → Prop, ∀ listed aq W', Inv listed aq W' ↔ (∃ v28 v29 v30 v31 v32 v33 v34 v35 v36 v37 v27 v38 v39 v11 v12 : Value, aq = { tmps := #[Value.slice (some { block := b1, off := off1 }) a.length cap1, Value.slice (some { block := b2, off := off2 }) b.length cap2, Value.func (.func 39) #[] #[], undef, undef, undef, u6, u7, Value.nilIface, Value.slice (some { block := B, off := 0 }) a.length a.length, Value.int IntKind.i64 ↑k, v11, v12, Value.slice (some { block := b1, off := off1 }) a.length cap1, Value.slice (some { block := b2, off := off2 }) b.length cap2, Value.nilIface, Value.nilIface, Value.bool false, undef, Value.slice (some { block := b1, off := off1 }) a.length cap1, Value.int IntKind.i64 ↑a.length, Value.slice (some { block := B, off := 0 }) a.length a.length, Value.slice (some { block := B, off := 0 }) a.length a.length, Value.int IntKind.i64 ↑a.length, Value.int IntKind.i64 ↑k, Value.bool true, Value.int IntKind.i64 ↑k, v27, v28, v29, v30, v31, v32, v33, v34, v35, v36, v37, v38, v39, u40, u41, u42, u43, u44, u45, u46, u47, undef], defers := [] } ∧ Below (wr).heap.size (wr) W' ∧ (listed.getD 0 false = true → v28 = Value.func (.func 39) #[] #[]) ∧ (listed.getD 1 false = true → v29 = Value.slice (some { block := b1, off := off1 }) a.length cap1) ∧ (listed.getD 2 false = true → v30 = Value.int IntKind.i64 ↑k) ∧ (listed.getD 3 false = true → v31 = .pointer (some ⟨b1, off1 + k * 2, none⟩)) ∧ (listed.getD 4 false = true → v32 = .agg #[.int .i64 A0, .int .i64 A1]) ∧ (listed.getD 5 false = true → v33 = Value.slice (some { block := b2, off := off2 }) b.length cap2) ∧ (listed.getD 6 false = true → v34 = Value.int IntKind.i64 ↑k) ∧ (listed.getD 7 false = true → v35 = .pointer (some ⟨b2, off2 + k * 2, none⟩)) ∧ (listed.getD 8 false = true → v36 = .agg #[.int .i64 C0, .int .i64 C1]) ∧ (listed.getD 9 false = true → v37 = (.tuple #[.agg #[.int .i64 S.1, .int .i64 S.2.1], errV S.2.2])) ∧ (listed.getD 10 false = true → v27 = (.tuple #[.agg #[.int .i64 S.1, .int .i64 S.2.1], errV S.2.2])) ∧ (listed.getD 11 false = true → v38 = .agg #[.int .i64 S.1, .int .i64 S.2.1]) ∧ (listed.getD 12 false = true → v39 = errV S.2.2) ∧ (listed.getD 15 false = true → v12 = errV S.2.2) ∧ (listed.getD 13 false = true → ∃ (bn : Nat) (cn dn : Int), v11 = .pointer (some ⟨bn, 0, none⟩) ∧ (wr).heap.size ≤ bn ∧ Sp W' bn cn dn ∧ (listed.getD 14 false = true → cn = S.1 ∧ dn = S.2.1)) ∧ (listed.getD 14 false = true → listed.getD 13 false = true)) := ⟨_, fun _ _ _ => Iff.rfl⟩
        have HI := hid hInv
        clear hInv
        refine Free.region hmx (by kernel_rfl) Inv ?s1 ?s2 ?s3
        case s1 =>
          exact (HI.out _ _ _).2 ⟨u28, u29, u30, u31, u32, u33, u34, u35, u36, u37, u27, u38, u39, u11, u12, rfl, (Below.refl _ _).drew, Free.not_yet, Free.not_yet, Free.not_yet, Free.not_yet, Free.not_yet, Free.not_yet, Free.not_yet, Free.not_yet, Free.not_yet, Free.not_yet, Free.not_yet, Free.not_yet, Free.not_yet, Free.not_yet, Free.not_yet, Free.not_yet⟩
        case s2 =>
          intro i listed aq W1 hix hne hnl hsz hv
          obtain ⟨v28, v29, v30, v31, v32, v33, v34, v35, v36, v37, v27, v38, v39, v11, v12, rfl, hW, l0, l1, l2, l3, l4, l5, l6, l7, l8, l9, l10, l11, l12, l15, ln, lp⟩ := (HI.out _ _ _).1 hv
          clear hv
          replace hix : i < 16 := hix
          replace hsz : listed.size = 16 := hsz
          rcases (by omega : i = 0 ∨ i = 1 ∨ i = 2 ∨ i = 3 ∨ i = 4 ∨ i = 5 ∨ i = 6 ∨ i = 7 ∨ i = 8 ∨ i = 9 ∨ i = 10 ∨ i = 11 ∨ i = 12 ∨ i = 13 ∨ i = 14 ∨ i = 15) with rfl | rfl | rfl | rfl | rfl | rfl | rfl | rfl | rfl | rfl | rfl | rfl | rfl | rfl | rfl | rfl
          · refine Free.op rfl rfl (fun K hK => ?_)
            go_simp
            exact hK _ _ ((HI.out _ _ _).2 ⟨_, v29, v30, v31, v32, v33, v34, v35, v36, v37, v27, v38, v39, v11, v12, rfl, hW, fun _ => rfl, Free.of_set (by decide) l1, Free.of_set (by decide) l2, Free.of_set (by decide) l3, Free.of_set (by decide) l4, Free.of_set (by decide) l5, Free.of_set (by decide) l6, Free.of_set (by decide) l7, Free.of_set (by decide) l8, Free.of_set (by decide) l9, Free.of_set (by decide) l10, Free.of_set (by decide) l11, Free.of_set (by decide) l12, Free.of_set (by decide) l15, fun e => by obtain ⟨bn, cn, dn, q1, q2, q3, q4⟩ := ln (Free.back (by decide) e); exact ⟨bn, cn, dn, q1, q2, q3, fun e2 => q4 (Free.back (by decide) e2)⟩, fun e => Free.fore (by decide) (lp (Free.back (by decide) e))⟩)
          · refine Free.op rfl rfl (fun K hK => ?_)
            go_simp
            exact hK _ _ ((HI.out _ _ _).2 ⟨v28, _, v30, v31, v32, v33, v34, v35, v36, v37, v27, v38, v39, v11, v12, rfl, hW, Free.of_set (by decide) l0, fun _ => rfl, Free.of_set (by decide) l2, Free.of_set (by decide) l3, Free.of_set (by decide) l4, Free.of_set (by decide) l5, Free.of_set (by decide) l6, Free.of_set (by decide) l7, Free.of_set (by decide) l8, Free.of_set (by decide) l9, Free.of_set (by decide) l10, Free.of_set (by decide) l11, Free.of_set (by decide) l12, Free.of_set (by decide) l15, fun e => by obtain ⟨bn, cn, dn, q1, q2, q3, q4⟩ := ln (Free.back (by decide) e); exact ⟨bn, cn, dn, q1, q2, q3, fun e2 => q4 (Free.back (by decide) e2)⟩, fun e => Free.fore (by decide) (lp (Free.back (by decide) e))⟩)
          · refine Free.op rfl rfl (fun K hK => ?_)
            go_simp
            exact hK _ _ ((HI.out _ _ _).2 ⟨v28, v29, _, v31, v32, v33, v34, v35, v36, v37, v27, v38, v39, v11, v12, rfl, hW, Free.of_set (by decide) l0, Free.of_set (by decide) l1, fun _ => rfl, Free.of_set (by decide) l3, Free.of_set (by decide) l4, Free.of_set (by decide) l5, Free.of_set (by decide) l6, Free.of_set (by decide) l7, Free.of_set (by decide) l8, Free.of_set (by decide) l9, Free.of_set (by decide) l10, Free.of_set (by decide) l11, Free.of_set (by decide) l12, Free.of_set (by decide) l15, fun e => by obtain ⟨bn, cn, dn, q1, q2, q3, q4⟩ := ln (Free.back (by decide) e); exact ⟨bn, cn, dn, q1, q2, q3, fun e2 => q4 (Free.back (by decide) e2)⟩, fun e => Free.fore (by decide) (lp (Free.back (by decide) e))⟩)
          · refine Free.op rfl rfl (fun K hK => ?_)
            obtain rfl := l1 (hne 1 (by kernel_rfl))
            obtain rfl := l2 (hne 2 (by kernel_rfl))
            go_simp
            exact hK _ _ ((HI.out _ _ _).2 ⟨v28, _, _, _, v32, v33, v34, v35, v36, v37, v27, v38, v39, v11, v12, rfl, hW, Free.of_set (by decide) l0, fun _ => rfl, fun _ => rfl, fun _ => rfl, Free.of_set (by decide) l4, Free.of_set (by decide) l5, Free.of_set (by decide) l6, Free.of_set (by decide) l7, Free.of_set (by decide) l8, Free.of_set (by decide) l9, Free.of_set (by decide) l10, Free.of_set (by decide) l11, Free.of_set (by decide) l12, Free.of_set (by decide) l15, fun e => by obtain ⟨bn, cn, dn, q1, q2, q3, q4⟩ := ln (Free.back (by decide) e); exact ⟨bn, cn, dn, q1, q2, q3, fun e2 => q4 (Free.back (by decide) e2)⟩, fun e => Free.fore (by decide) (lp (Free.back (by decide) e))⟩)
          · have z0 := (hA.step hW).lo k HA.out rfl
            have z1 := (hA.step hW).hi k HA.out rfl
            refine Free.op rfl rfl (fun K hK => ?_)
            obtain rfl := l3 (hne 3 (by kernel_rfl))
            go_simp
            exact hK _ _ ((HI.out _ _ _).2 ⟨v28, v29, v30, _, _, v33, v34, v35, v36, v37, v27, v38, v39, v11, v12, rfl, hW, Free.of_set (by decide) l0, Free.of_set (by decide) l1, Free.of_set (by decide) l2, fun _ => rfl, fun _ => rfl, Free.of_set (by decide) l5, Free.of_set (by decide) l6, Free.of_set (by decide) l7, Free.of_set (by decide) l8, Free.of_set (by decide) l9, Free.of_set (by decide) l10, Free.of_set (by decide) l11, Free.of_set (by decide) l12, Free.of_set (by decide) l15, fun e => by obtain ⟨bn, cn, dn, q1, q2, q3, q4⟩ := ln (Free.back (by decide) e); exact ⟨bn, cn, dn, q1, q2, q3, fun e2 => q4 (Free.back (by decide) e2)⟩, fun e => Free.fore (by decide) (lp (Free.back (by decide) e))⟩)
          · refine Free.op rfl rfl (fun K hK => ?_)
            go_simp
            exact hK _ _ ((HI.out _ _ _).2 ⟨v28, v29, v30, v31, v32, _, v34, v35, v36, v37, v27, v38, v39, v11, v12, rfl, hW, Free.of_set (by decide) l0, Free.of_set (by decide) l1, Free.of_set (by decide) l2, Free.of_set (by decide) l3, Free.of_set (by decide) l4, fun _ => rfl, Free.of_set (by decide) l6, Free.of_set (by decide) l7, Free.of_set (by decide) l8, Free.of_set (by decide) l9, Free.of_set (by decide) l10, Free.of_set (by decide) l11, Free.of_set (by decide) l12, Free.of_set (by decide) l15, fun e => by obtain ⟨bn, cn, dn, q1, q2, q3, q4⟩ := ln (Free.back (by decide) e); exact ⟨bn, cn, dn, q1, q2, q3, fun e2 => q4 (Free.back (by decide) e2)⟩, fun e => Free.fore (by decide) (lp (Free.back (by decide) e))⟩)
          · refine Free.op rfl rfl (fun K hK => ?_)
            go_simp
            exact hK _ _ ((HI.out _ _ _).2 ⟨v28, v29, v30, v31, v32, v33, _, v35, v36, v37, v27, v38, v39, v11, v12, rfl, hW, Free.of_set (by decide) l0, Free.of_set (by decide) l1, Free.of_set (by decide) l2, Free.of_set (by decide) l3, Free.of_set (by decide) l4, Free.of_set (by decide) l5, fun _ => rfl, Free.of_set (by decide) l7, Free.of_set (by decide) l8, Free.of_set (by decide) l9, Free.of_set (by decide) l10, Free.of_set (by decide) l11, Free.of_set (by decide) l12, Free.of_set (by decide) l15, fun e => by obtain ⟨bn, cn, dn, q1, q2, q3, q4⟩ := ln (Free.back (by decide) e); exact ⟨bn, cn, dn, q1, q2, q3, fun e2 => q4 (Free.back (by decide) e2)⟩, fun e => Free.fore (by decide) (lp (Free.back (by decide) e))⟩)
          · refine Free.op rfl rfl (fun K hK => ?_)
            obtain rfl := l5 (hne 5 (by kernel_rfl))
            obtain rfl := l6 (hne 6 (by kernel_rfl))
            go_simp
            exact hK _ _ ((HI.out _ _ _).2 ⟨v28, v29, v30, v31, v32, _, _, _, v36, v37, v27, v38, v39, v11, v12, rfl, hW, Free.of_set (by decide) l0, Free.of_set (by decide) l1, Free.of_set (by decide) l2, Free.of_set (by decide) l3, Free.of_set (by decide) l4, fun _ => rfl, fun _ => rfl, fun _ => rfl, Free.of_set (by decide) l8, Free.of_set (by decide) l9, Free.of_set (by decide) l10, Free.of_set (by decide) l11, Free.of_set (by decide) l12, Free.of_set (by decide) l15, fun e => by obtain ⟨bn, cn, dn, q1, q2, q3, q4⟩ := ln (Free.back (by decide) e); exact ⟨bn, cn, dn, q1, q2, q3, fun e2 => q4 (Free.back (by decide) e2)⟩, fun e => Free.fore (by decide) (lp (Free.back (by decide) e))⟩)
          · have z0 := (hB.step hW).lo k HB.out rfl
            have z1 := (hB.step hW).hi k HB.out rfl
            refine Free.op rfl rfl (fun K hK => ?_)
            obtain rfl := l7 (hne 7 (by kernel_rfl))
            go_simp
            exact hK _ _ ((HI.out _ _ _).2 ⟨v28, v29, v30, v31, v32, v33, v34, _, _, v37, v27, v38, v39, v11, v12, rfl, hW, Free.of_set (by decide) l0, Free.of_set (by decide) l1, Free.of_set (by decide) l2, Free.of_set (by decide) l3, Free.of_set (by decide) l4, Free.of_set (by decide) l5, Free.of_set (by decide) l6, fun _ => rfl, fun _ => rfl, Free.of_set (by decide) l9, Free.of_set (by decide) l10, Free.of_set (by decide) l11, Free.of_set (by decide) l12, Free.of_set (by decide) l15, fun e => by obtain ⟨bn, cn, dn, q1, q2, q3, q4⟩ := ln (Free.back (by decide) e); exact ⟨bn, cn, dn, q1, q2, q3, fun e2 => q4 (Free.back (by decide) e2)⟩, fun e => Free.fore (by decide) (lp (Free.back (by decide) e))⟩)
          · refine Free.op rfl rfl (fun K hK => ?_)
            obtain rfl := l0 (hne 0 (by kernel_rfl))
            obtain rfl := l4 (hne 4 (by kernel_rfl))
            obtain rfl := l8 (hne 8 (by kernel_rfl))
            go_wp2_with (go_at_call 39; refine (HR _).out.mono ?_; rintro e W3 ⟨rfl, hb⟩)
            exact (HI.out _ _ _).2 ⟨_, v29, v30, v31, _, v33, v34, v35, _, _, v27, v38, v39, v11, v12, rfl, hW.trans (hb.mono hW.size), fun _ => rfl, Free.of_set (by decide) l1, Free.of_set (by decide) l2, Free.of_set (by decide) l3, fun _ => rfl, Free.of_set (by decide) l5, Free.of_set (by decide) l6, Free.of_set (by decide) l7, fun _ => rfl, fun _ => rfl, Free.of_set (by decide) l10, Free.of_set (by decide) l11, Free.of_set (by decide) l12, Free.of_set (by decide) l15, fun e => by obtain ⟨bn, cn, dn, q1, q2, q3, q4⟩ := ln (Free.back (by decide) e); exact ⟨bn, cn, dn, q1, q2, (q3.step hb), fun e2 => q4 (Free.back (by decide) e2)⟩, fun e => Free.fore (by decide) (lp (Free.back (by decide) e))⟩
          · refine Free.op rfl rfl (fun K hK => ?_)
            obtain rfl := l9 (hne 9 (by kernel_rfl))
            go_simp
            exact hK _ _ ((HI.out _ _ _).2 ⟨v28, v29, v30, v31, v32, v33, v34, v35, v36, _, _, v38, v39, v11, v12, rfl, hW, Free.of_set (by decide) l0, Free.of_set (by decide) l1, Free.of_set (by decide) l2, Free.of_set (by decide) l3, Free.of_set (by decide) l4, Free.of_set (by decide) l5, Free.of_set (by decide) l6, Free.of_set (by decide) l7, Free.of_set (by decide) l8, fun _ => rfl, fun _ => rfl, Free.of_set (by decide) l11, Free.of_set (by decide) l12, Free.of_set (by decide) l15, fun e => by obtain ⟨bn, cn, dn, q1, q2, q3, q4⟩ := ln (Free.back (by decide) e); exact ⟨bn, cn, dn, q1, q2, q3, fun e2 => q4 (Free.back (by decide) e2)⟩, fun e => Free.fore (by decide) (lp (Free.back (by decide) e))⟩)
          · refine Free.op rfl rfl (fun K hK => ?_)
            obtain rfl := l10 (hne 10 (by kernel_rfl))
            go_simp
            exact hK _ _ ((HI.out _ _ _).2 ⟨v28, v29, v30, v31, v32, v33, v34, v35, v36, v37, _, _, v39, v11, v12, rfl, hW, Free.of_set (by decide) l0, Free.of_set (by decide) l1, Free.of_set (by decide) l2, Free.of_set (by decide) l3, Free.of_set (by decide) l4, Free.of_set (by decide) l5, Free.of_set (by decide) l6, Free.of_set (by decide) l7, Free.of_set (by decide) l8, Free.of_set (by decide) l9, fun _ => rfl, fun _ => rfl, Free.of_set (by decide) l12, Free.of_set (by decide) l15, fun e => by obtain ⟨bn, cn, dn, q1, q2, q3, q4⟩ := ln (Free.back (by decide) e); exact ⟨bn, cn, dn, q1, q2, q3, fun e2 => q4 (Free.back (by decide) e2)⟩, fun e => Free.fore (by decide) (lp (Free.back (by decide) e))⟩)
          · refine Free.op rfl rfl (fun K hK => ?_)
            obtain rfl := l10 (hne 10 (by kernel_rfl))
            go_simp
            exact hK _ _ ((HI.out _ _ _).2 ⟨v28, v29, v30, v31, v32, v33, v34, v35, v36, v37, _, v38, _, v11, v12, rfl, hW, Free.of_set (by decide) l0, Free.of_set (by decide) l1, Free.of_set (by decide) l2, Free.of_set (by decide) l3, Free.of_set (by decide) l4, Free.of_set (by decide) l5, Free.of_set (by decide) l6, Free.of_set (by decide) l7, Free.of_set (by decide) l8, Free.of_set (by decide) l9, fun _ => rfl, Free.of_set (by decide) l11, fun _ => rfl, Free.of_set (by decide) l15, fun e => by obtain ⟨bn, cn, dn, q1, q2, q3, q4⟩ := ln (Free.back (by decide) e); exact ⟨bn, cn, dn, q1, q2, q3, fun e2 => q4 (Free.back (by decide) e2)⟩, fun e => Free.fore (by decide) (lp (Free.back (by decide) e))⟩)
          · have hs : listed.getD 14 false = false := by
              cases e : listed.getD 14 false
              · rfl
              · rw [Free.off hnl] at lp; cases lp e
            refine Free.op rfl rfl (fun K hK => ?_)
            go_simp
            exact hK _ _ ((HI.out _ _ _).2 ⟨v28, v29, v30, v31, v32, v33, v34, v35, v36, v37, v27, v38, v39, _, v12, rfl, hW.alloc hW.size _, Free.of_set (by decide) l0, Free.of_set (by decide) l1, Free.of_set (by decide) l2, Free.of_set (by decide) l3, Free.of_set (by decide) l4, Free.of_set (by decide) l5, Free.of_set (by decide) l6, Free.of_set (by decide) l7, Free.of_set (by decide) l8, Free.of_set (by decide) l9, Free.of_set (by decide) l10, Free.of_set (by decide) l11, Free.of_set (by decide) l12, Free.of_set (by decide) l15, fun _ => ⟨_, _, _, rfl, hW.size, Sp.new _ _ _, fun e => by rw [Free.set_other (by decide), hs] at e; cases e⟩, fun e => by rw [Free.set_other (by decide), hs] at e; cases e⟩)
          · have N := hid (hne 13 (by kernel_rfl))
            obtain ⟨bn, cn, dn, q1, q2, q3, q4⟩ := ln N.out
            subst q1
            have y1 := q3.fl
            have y2 := q3.fh
            have y3 := q3.lo
            have y4 := q3.hi
            refine Free.op rfl rfl (fun K hK => ?_)
            obtain rfl := l11 (hne 11 (by kernel_rfl))
            go_simp
            exact hK _ _ ((HI.out _ _ _).2 ⟨v28, v29, v30, v31, v32, v33, v34, v35, v36, v37, v27, _, v39, _, v12, rfl, (hW.setCell q2 _).setCell q2 _, Free.of_set (by decide) l0, Free.of_set (by decide) l1, Free.of_set (by decide) l2, Free.of_set (by decide) l3, Free.of_set (by decide) l4, Free.of_set (by decide) l5, Free.of_set (by decide) l6, Free.of_set (by decide) l7, Free.of_set (by decide) l8, Free.of_set (by decide) l9, Free.of_set (by decide) l10, fun _ => rfl, Free.of_set (by decide) l12, Free.of_set (by decide) l15, fun _ => ⟨_, _, _, rfl, q2, q3.set _ _, fun _ => ⟨rfl, rfl⟩⟩, fun _ => Free.fore (by decide) N.out⟩)
          · refine Free.op rfl rfl (fun K hK => ?_)
            obtain rfl := l12 (hne 12 (by kernel_rfl))
            go_simp
            exact hK _ _ ((HI.out _ _ _).2 ⟨v28, v29, v30, v31, v32, v33, v34, v35, v36, v37, v27, v38, _, v11, _, rfl, hW, Free.of_set (by decide) l0, Free.of_set (by decide) l1, Free.of_set (by decide) l2, Free.of_set (by decide) l3, Free.of_set (by decide) l4, Free.of_set (by decide) l5, Free.of_set (by decide) l6, Free.of_set (by decide) l7, Free.of_set (by decide) l8, Free.of_set (by decide) l9, Free.of_set (by decide) l10, Free.of_set (by decide) l11, fun _ => rfl, fun _ => rfl, fun e => by obtain ⟨bn, cn, dn, q1, q2, q3, q4⟩ := ln (Free.back (by decide) e); exact ⟨bn, cn, dn, q1, q2, q3, fun e2 => q4 (Free.back (by decide) e2)⟩, fun e => Free.fore (by decide) (lp (Free.back (by decide) e))⟩)
        case s3 =>
          intro listed aq W1 hall hsz hv
          obtain ⟨v28, v29, v30, v31, v32, v33, v34, v35, v36, v37, v27, v38, v39, v11, v12, rfl, hW, l0, l1, l2, l3, l4, l5, l6, l7, l8, l9, l10, l11, l12, l15, ln, lp⟩ := (HI.out _ _ _).1 hv
          clear hv HI
          obtain ⟨bn, cn, dn, rfl, hbn, hSn, q4⟩ := ln (Free.listed_of hall hsz 13 (by decide))
          obtain ⟨rfl, rfl⟩ := q4 (Free.listed_of hall hsz 14 (by decide))
          clear ln lp
          obtain rfl := l0 (Free.listed_of hall hsz 0 (by decide))
          obtain rfl := l1 (Free.listed_of hall hsz 1 (by decide))
          obtain rfl := l2 (Free.listed_of hall hsz 2 (by decide))
          obtain rfl := l3 (Free.listed_of hall hsz 3 (by decide))
          obtain rfl := l4 (Free.listed_of hall hsz 4 (by decide))
          obtain rfl := l5 (Free.listed_of hall hsz 5 (by decide))
          obtain rfl := l6 (Free.listed_of hall hsz 6 (by decide))
          obtain rfl := l7 (Free.listed_of hall hsz 7 (by decide))
          obtain rfl := l8 (Free.listed_of hall hsz 8 (by decide))
          obtain rfl := l9 (Free.listed_of hall hsz 9 (by decide))
          obtain rfl := l10 (Free.listed_of hall hsz 10 (by decide))
          obtain rfl := l11 (Free.listed_of hall hsz 11 (by decide))
          obtain rfl := l12 (Free.listed_of hall hsz 12 (by decide))
          obtain rfl := l15 (Free.listed_of hall hsz 15 (by decide))
          clear hall hsz
          have x0l := hSn.lo
          have x0h := hSn.hi
          replace hP := hP.step hW
          have y1 := hP.row.frozenAt (k * 2)
          have y2 := hP.row.frozenAt (k * 2 + 1)
          have y3 := hP.lo0 hZ.out.2 hkl
          have y4 := hP.hi0 hZ.out.2 hkl
          have HQ := hid (hP.put hZ.out.2 hkl S.1 S.2.1)
          clear hP hA hB
          go_wp2
          exact ⟨⟨k + 1, by omega, by simp, by rw [HM.out]; exact HQ.out, by rw [HM.out]; exact ⟨rfl, by rw [List.length_append, hZ.out.2]; rfl⟩⟩, by simp [intOf]; omega⟩

      · have kS : (S.2.2 != 0) = true := by simpa using hc
        have HM := HX hc
        have HCZ := hid hc
        clear HX HY hc
        go_wp2
        obtain ⟨Inv, hInv⟩ : ∃ Inv : Array Bool → Act → World → Prop, ∀ listed aq W', Inv listed aq W' ↔ (∃ v28 v29 v30 v31 v32 v33 v34 v35 v36 v37 v27 v38 v39 v11 v12 : Value, aq = { tmps := #[Value.slice (some { block := b1, off := off1 }) a.length cap1, Value.slice (some { block := b2, off := off2 }) b.length cap2, Value.func (.func 39) #[] #[], undef, undef, undef, u6, u7, Value.nilIface, Value.slice (some { block := B, off := 0 }) a.length a.length, Value.int IntKind.i64 ↑k, v11, v12, Value.slice (some { block := b1, off := off1 }) a.length cap1, Value.slice (some { block := b2, off := off2 }) b.length cap2, Value.nilIface, Value.nilIface, Value.bool false, undef, Value.slice (some { block := b1, off := off1 }) a.length cap1, Value.int IntKind.i64 ↑a.length, Value.slice (some { block := B, off := 0 }) a.length a.length, Value.slice (some { block := B, off := 0 }) a.length a.length, Value.int IntKind.i64 ↑a.length, Value.int IntKind.i64 ↑k, Value.bool true, Value.int IntKind.i64 ↑k, v27, v28, v29, v30, v31, v32, v33, v34, v35, v36, v37, v38, v39, u40, u41, u42, u43, u44, u45, u46, u47, undef], defers := [] } ∧ Below (wr).heap.size (wr) W' ∧ (listed.getD 0 false = true → v28 = Value.func (.func 39) #[] #[]) ∧ (listed.getD 1 false = true → v29 = Value.slice (some { block := b1, off := off1 }) a.length cap1) ∧ (listed.getD 2 false = true → v30 = Value.int IntKind.i64 ↑k) ∧ (listed.getD 3 false = true → v31 = .pointer (some ⟨b1, off1 + k * 2, none⟩)) ∧ (listed.getD 4 false = true → v32 = .agg #[.int .i64 A0, .int .i64 A1]) ∧ (listed.getD 5 false = true → v33 = Value.slice (some { block := b2, off := off2 }) b.length cap2) ∧ (listed.getD 6 false = true → v34 = Value.int IntKind.i64 ↑k) ∧ (listed.getD 7 false = true → v35 = .pointer (some ⟨b2, off2 + k * 2, none⟩)) ∧ (listed.getD 8 false = true → v36 = .agg #[.int .i64 C0, .int .i64 C1]) ∧ (listed.getD 9 false = true → v37 = (.tuple #[.agg #[.int .i64 S.1, .int .i64 S.2.1], errV S.2.2])) ∧ (listed.getD 10 false = true → v27 = (.tuple #[.agg #[.int .i64 S.1, .int .i64 S.2.1], errV S.2.2])) ∧ (listed.getD 11 false = true → v38 = .agg #[.int .i64 S.1, .int .i64 S.2.1]) ∧ (listed.getD 12 false = true → v39 = errV S.2.2) ∧ (listed.getD 15 false = true → v12 = errV S.2.2) ∧ (listed.getD 13 false = true → ∃ (bn : Nat) (cn dn : Int), v11 = .pointer (some ⟨bn, 0, none⟩) ∧ (wr).heap.size ≤ bn ∧ Sp W' bn cn dn ∧ (listed.getD 14 false = true → cn = S.1 ∧ dn = S.2.1)) ∧ (listed.getD 14 false = true → listed.getD 13 false = true)) := ⟨_, fun _ _ _ => Iff.rfl⟩
        have HI := hid hInv
        clear hInv
        refine Free.region hmx (by kernel_rfl) Inv ?s1 ?s2 ?s3
        case s1 =>
          exact (HI.out _ _ _).2 ⟨u28, u29, u30, u31, u32, u33, u34, u35, u36, u37, u27, u38, u39, u11, u12, rfl, (Below.refl _ _).drew, Free.not_yet, Free.not_yet, Free.not_yet, Free.not_yet, Free.not_yet, Free.not_yet, Free.not_yet, Free.not_yet, Free.not_yet, Free.not_yet, Free.not_yet, Free.not_yet, Free.not_yet, Free.not_yet, Free.not_yet, Free.not_yet⟩
        case s2 =>
          intro i listed aq W1 hix hne hnl hsz hv
          obtain ⟨v28, v29, v30, v31, v32, v33, v34, v35, v36, v37, v27, v38, v39, v11, v12, rfl, hW, l0, l1, l2, l3, l4, l5, l6, l7, l8, l9, l10, l11, l12, l15, ln, lp⟩ := (HI.out _ _ _).1 hv
          clear hv
          replace hix : i < 16 := hix
          replace hsz : listed.size = 16 := hsz
          rcases (by omega : i = 0 ∨ i = 1 ∨ i = 2 ∨ i = 3 ∨ i = 4 ∨ i = 5 ∨ i = 6 ∨ i = 7 ∨ i = 8 ∨ i = 9 ∨ i = 10 ∨ i = 11 ∨ i = 12 ∨ i = 13 ∨ i = 14 ∨ i = 15) with rfl | rfl | rfl | rfl | rfl | rfl | rfl | rfl | rfl | rfl | rfl | rfl | rfl | rfl | rfl | rfl
          · refine Free.op rfl rfl (fun K hK => ?_)
            go_simp
            exact hK _ _ ((HI.out _ _ _).2 ⟨_, v29, v30, v31, v32, v33, v34, v35, v36, v37, v27, v38, v39, v11, v12, rfl, hW, fun _ => rfl, Free.of_set (by decide) l1, Free.of_set (by decide) l2, Free.of_set (by decide) l3, Free.of_set (by decide) l4, Free.of_set (by decide) l5, Free.of_set (by decide) l6, Free.of_set (by decide) l7, Free.of_set (by decide) l8, Free.of_set (by decide) l9, Free.of_set (by decide) l10, Free.of_set (by decide) l11, Free.of_set (by decide) l12, Free.of_set (by decide) l15, fun e => by obtain ⟨bn, cn, dn, q1, q2, q3, q4⟩ := ln (Free.back (by decide) e); exact ⟨bn, cn, dn, q1, q2, q3, fun e2 => q4 (Free.back (by decide) e2)⟩, fun e => Free.fore (by decide) (lp (Free.back (by decide) e))⟩)
          · refine Free.op rfl rfl (fun K hK => ?_)
            go_simp
            exact hK _ _ ((HI.out _ _ _).2 ⟨v28, _, v30, v31, v32, v33, v34, v35, v36, v37, v27, v38, v39, v11, v12, rfl, hW, Free.of_set (by decide) l0, fun _ => rfl, Free.of_set (by decide) l2, Free.of_set (by decide) l3, Free.of_set (by decide) l4, Free.of_set (by decide) l5, Free.of_set (by decide) l6, Free.of_set (by decide) l7, Free.of_set (by decide) l8, Free.of_set (by decide) l9, Free.of_set (by decide) l10, Free.of_set (by decide) l11, Free.of_set (by decide) l12, Free.of_set (by decide) l15, fun e => by obtain ⟨bn, cn, dn, q1, q2, q3, q4⟩ := ln (Free.back (by decide) e); exact ⟨bn, cn, dn, q1, q2, q3, fun e2 => q4 (Free.back (by decide) e2)⟩, fun e => Free.fore (by decide) (lp (Free.back (by decide) e))⟩)
          · refine Free.op rfl rfl (fun K hK => ?_)
            go_simp
            exact hK _ _ ((HI.out _ _ _).2 ⟨v28, v29, _, v31, v32, v33, v34, v35, v36, v37, v27, v38, v39, v11, v12, rfl, hW, Free.of_set (by decide) l0, Free.of_set (by decide) l1, fun _ => rfl, Free.of_set (by decide) l3, Free.of_set (by decide) l4, Free.of_set (by decide) l5, Free.of_set (by decide) l6, Free.of_set (by decide) l7, Free.of_set (by decide) l8, Free.of_set (by decide) l9, Free.of_set (by decide) l10, Free.of_set (by decide) l11, Free.of_set (by decide) l12, Free.of_set (by decide) l15, fun e => by obtain ⟨bn, cn, dn, q1, q2, q3, q4⟩ := ln (Free.back (by decide) e); exact ⟨bn, cn, dn, q1, q2, q3, fun e2 => q4 (Free.back (by decide) e2)⟩, fun e => Free.fore (by decide) (lp (Free.back (by decide) e))⟩)
          · refine Free.op rfl rfl (fun K hK => ?_)
            obtain rfl := l1 (hne 1 (by kernel_rfl))
            obtain rfl := l2 (hne 2 (by kernel_rfl))
            go_simp
            exact hK _ _ ((HI.out _ _ _).2 ⟨v28, _, _, _, v32, v33, v34, v35, v36, v37, v27, v38, v39, v11, v12, rfl, hW, Free.of_set (by decide) l0, fun _ => rfl, fun _ => rfl, fun _ => rfl, Free.of_set (by decide) l4, Free.of_set (by decide) l5, Free.of_set (by decide) l6, Free.of_set (by decide) l7, Free.of_set (by decide) l8, Free.of_set (by decide) l9, Free.of_set (by decide) l10, Free.of_set (by decide) l11, Free.of_set (by decide) l12, Free.of_set (by decide) l15, fun e => by obtain ⟨bn, cn, dn, q1, q2, q3, q4⟩ := ln (Free.back (by decide) e); exact ⟨bn, cn, dn, q1, q2, q3, fun e2 => q4 (Free.back (by decide) e2)⟩, fun e => Free.fore (by decide) (lp (Free.back (by decide) e))⟩)
          · have z0 := (hA.step hW).lo k HA.out rfl
            have z1 := (hA.step hW).hi k HA.out rfl
            refine Free.op rfl rfl (fun K hK => ?_)
            obtain rfl := l3 (hne 3 (by kernel_rfl))
            go_simp
            exact hK _ _ ((HI.out _ _ _).2 ⟨v28, v29, v30, _, _, v33, v34, v35, v36, v37, v27, v38, v39, v11, v12, rfl, hW, Free.of_set (by decide) l0, Free.of_set (by decide) l1, Free.of_set (by decide) l2, fun _ => rfl, fun _ => rfl, Free.of_set (by decide) l5, Free.of_set (by decide) l6, Free.of_set (by decide) l7, Free.of_set (by decide) l8, Free.of_set (by decide) l9, Free.of_set (by decide) l10, Free.of_set (by decide) l11, Free.of_set (by decide) l12, Free.of_set (by decide) l15, fun e => by obtain ⟨bn, cn, dn, q1, q2, q3, q4⟩ := ln (Free.back (by decide) e); exact ⟨bn, cn, dn, q1, q2, q3, fun e2 => q4 (Free.back (by decide) e2)⟩, fun e => Free.fore (by decide) (lp (Free.back (by decide) e))⟩)
          · refine Free.op rfl rfl (fun K hK => ?_)
            go_simp
            exact hK _ _ ((HI.out _ _ _).2 ⟨v28, v29, v30, v31, v32, _, v34, v35, v36, v37, v27, v38, v39, v11, v12, rfl, hW, Free.of_set (by decide) l0, Free.of_set (by decide) l1, Free.of_set (by decide) l2, Free.of_set (by decide) l3, Free.of_set (by decide) l4, fun _ => rfl, Free.of_set (by decide) l6, Free.of_set (by decide) l7, Free.of_set (by decide) l8, Free.of_set (by decide) l9, Free.of_set (by decide) l10, Free.of_set (by decide) l11, Free.of_set (by decide) l12, Free.of_set (by decide) l15, fun e => by obtain ⟨bn, cn, dn, q1, q2, q3, q4⟩ := ln (Free.back (by decide) e); exact ⟨bn, cn, dn, q1, q2, q3, fun e2 => q4 (Free.back (by decide) e2)⟩, fun e => Free.fore (by decide) (lp (Free.back (by decide) e))⟩)
          · refine Free.op rfl rfl (fun K hK => ?_)
            go_simp
            exact hK _ _ ((HI.out _ _ _).2 ⟨v28, v29, v30, v31, v32, v33, _, v35, v36, v37, v27, v38, v39, v11, v12, rfl, hW, Free.of_set (by decide) l0, Free.of_set (by decide) l1, Free.of_set (by decide) l2, Free.of_set (by decide) l3, Free.of_set (by decide) l4, Free.of_set (by decide) l5, fun _ => rfl, Free.of_set (by decide) l7, Free.of_set (by decide) l8, Free.of_set (by decide) l9, Free.of_set (by decide) l10, Free.of_set (by decide) l11, Free.of_set (by decide) l12, Free.of_set (by decide) l15, fun e => by obtain ⟨bn, cn, dn, q1, q2, q3, q4⟩ := ln (Free.back (by decide) e); exact ⟨bn, cn, dn, q1, q2, q3, fun e2 => q4 (Free.back (by decide) e2)⟩, fun e => Free.fore (by decide) (lp (Free.back (by decide) e))⟩)
          · refine Free.op rfl rfl (fun K hK => ?_)
            obtain rfl := l5 (hne 5 (by kernel_rfl))
            obtain rfl := l6 (hne 6 (by kernel_rfl))
            go_simp
            exact hK _ _ ((HI.out _ _ _).2 ⟨v28, v29, v30, v31, v32, _, _, _, v36, v37, v27, v38, v39, v11, v12, rfl, hW, Free.of_set (by decide) l0, Free.of_set (by decide) l1, Free.of_set (by decide) l2, Free.of_set (by decide) l3, Free.of_set (by decide) l4, fun _ => rfl, fun _ => rfl, fun _ => rfl, Free.of_set (by decide) l8, Free.of_set (by decide) l9, Free.of_set (by decide) l10, Free.of_set (by decide) l11, Free.of_set (by decide) l12, Free.of_set (by decide) l15, fun e => by obtain ⟨bn, cn, dn, q1, q2, q3, q4⟩ := ln (Free.back (by decide) e); exact ⟨bn, cn, dn, q1, q2, q3, fun e2 => q4 (Free.back (by decide) e2)⟩, fun e => Free.fore (by decide) (lp (Free.back (by decide) e))⟩)
          · have z0 := (hB.step hW).lo k HB.out rfl
            have z1 := (hB.step hW).hi k HB.out rfl
            refine Free.op rfl rfl (fun K hK => ?_)
            obtain rfl := l7 (hne 7 (by kernel_rfl))
            go_simp
            exact hK _ _ ((HI.out _ _ _).2 ⟨v28, v29, v30, v31, v32, v33, v34, _, _, v37, v27, v38, v39, v11, v12, rfl, hW, Free.of_set (by decide) l0, Free.of_set (by decide) l1, Free.of_set (by decide) l2, Free.of_set (by decide) l3, Free.of_set (by decide) l4, Free.of_set (by decide) l5, Free.of_set (by decide) l6, fun _ => rfl, fun _ => rfl, Free.of_set (by decide) l9, Free.of_set (by decide) l10, Free.of_set (by decide) l11, Free.of_set (by decide) l12, Free.of_set (by decide) l15, fun e => by obtain ⟨bn, cn, dn, q1, q2, q3, q4⟩ := ln (Free.back (by decide) e); exact ⟨bn, cn, dn, q1, q2, q3, fun e2 => q4 (Free.back (by decide) e2)⟩, fun e => Free.fore (by decide) (lp (Free.back (by decide) e))⟩)
          · refine Free.op rfl rfl (fun K hK => ?_)
            obtain rfl := l0 (hne 0 (by kernel_rfl))
            obtain rfl := l4 (hne 4 (by kernel_rfl))
            obtain rfl := l8 (hne 8 (by kernel_rfl))
            go_wp2_with (go_at_call 39; refine (HR _).out.mono ?_; rintro e W3 ⟨rfl, hb⟩)
            exact (HI.out _ _ _).2 ⟨_, v29, v30, v31, _, v33, v34, v35, _, _, v27, v38, v39, v11, v12, rfl, hW.trans (hb.mono hW.size), fun _ => rfl, Free.of_set (by decide) l1, Free.of_set (by decide) l2, Free.of_set (by decide) l3, fun _ => rfl, Free.of_set (by decide) l5, Free.of_set (by decide) l6, Free.of_set (by decide) l7, fun _ => rfl, fun _ => rfl, Free.of_set (by decide) l10, Free.of_set (by decide) l11, Free.of_set (by decide) l12, Free.of_set (by decide) l15, fun e => by obtain ⟨bn, cn, dn, q1, q2, q3, q4⟩ := ln (Free.back (by decide) e); exact ⟨bn, cn, dn, q1, q2, (q3.step hb), fun e2 => q4 (Free.back (by decide) e2)⟩, fun e => Free.fore (by decide) (lp (Free.back (by decide) e))⟩
          · refine Free.op rfl rfl (fun K hK => ?_)
            obtain rfl := l9 (hne 9 (by kernel_rfl))
            go_simp
            exact hK _ _ ((HI.out _ _ _).2 ⟨v28, v29, v30, v31, v32, v33, v34, v35, v36, _, _, v38, v39, v11, v12, rfl, hW, Free.of_set (by decide) l0, Free.of_set (by decide) l1, Free.of_set (by decide) l2, Free.of_set (by decide) l3, Free.of_set (by decide) l4, Free.of_set (by decide) l5, Free.of_set (by decide) l6, Free.of_set (by decide) l7, Free.of_set (by decide) l8, fun _ => rfl, fun _ => rfl, Free.of_set (by decide) l11, Free.of_set (by decide) l12, Free.of_set (by decide) l15, fun e => by obtain ⟨bn, cn, dn, q1, q2, q3, q4⟩ := ln (Free.back (by decide) e); exact ⟨bn, cn, dn, q1, q2, q3, fun e2 => q4 (Free.back (by decide) e2)⟩, fun e => Free.fore (by decide) (lp (Free.back (by decide) e))⟩)
          · refine Free.op rfl rfl (fun K hK => ?_)
            obtain rfl := l10 (hne 10 (by kernel_rfl))
            go_simp
            exact hK _ _ ((HI.out _ _ _).2 ⟨v28, v29, v30, v31, v32, v33, v34, v35, v36, v37, _, _, v39, v11, v12, rfl, hW, Free.of_set (by decide) l0, Free.of_set (by decide) l1, Free.of_set (by decide) l2, Free.of_set (by decide) l3, Free.of_set (by decide) l4, Free.of_set (by decide) l5, Free.of_set (by decide) l6, Free.of_set (by decide) l7, Free.of_set (by decide) l8, Free.of_set (by decide) l9, fun _ => rfl, fun _ => rfl, Free.of_set (by decide) l12, Free.of_set (by decide) l15, fun e => by obtain ⟨bn, cn, dn, q1, q2, q3, q4⟩ := ln (Free.back (by decide) e); exact ⟨bn, cn, dn, q1, q2, q3, fun e2 => q4 (Free.back (by decide) e2)⟩, fun e => Free.fore (by decide) (lp (Free.back (by decide) e))⟩)
          · refine Free.op rfl rfl (fun K hK => ?_)
            obtain rfl := l10 (hne 10 (by kernel_rfl))
            go_simp
            exact hK _ _ ((HI.out _ _ _).2 ⟨v28, v29, v30, v31, v32, v33, v34, v35, v36, v37, _, v38, _, v11, v12, rfl, hW, Free.of_set (by decide) l0, Free.of_set (by decide) l1, Free.of_set (by decide) l2, Free.of_set (by decide) l3, Free.of_set (by decide) l4, Free.of_set (by decide) l5, Free.of_set (by decide) l6, Free.of_set (by decide) l7, Free.of_set (by decide) l8, Free.of_set (by decide) l9, fun _ => rfl, Free.of_set (by decide) l11, fun _ => rfl, Free.of_set (by decide) l15, fun e => by obtain ⟨bn, cn, dn, q1, q2, q3, q4⟩ := ln (Free.back (by decide) e); exact ⟨bn, cn, dn, q1, q2, q3, fun e2 => q4 (Free.back (by decide) e2)⟩, fun e => Free.fore (by decide) (lp (Free.back (by decide) e))⟩)
          · have hs : listed.getD 14 false = false := by
              cases e : listed.getD 14 false
              · rfl
              · rw [Free.off hnl] at lp; cases lp e
            refine Free.op rfl rfl (fun K hK => ?_)
            go_simp
            exact hK _ _ ((HI.out _ _ _).2 ⟨v28, v29, v30, v31, v32, v33, v34, v35, v36, v37, v27, v38, v39, _, v12, rfl, hW.alloc hW.size _, Free.of_set (by decide) l0, Free.of_set (by decide) l1, Free.of_set (by decide) l2, Free.of_set (by decide) l3, Free.of_set (by decide) l4, Free.of_set (by decide) l5, Free.of_set (by decide) l6, Free.of_set (by decide) l7, Free.of_set (by decide) l8, Free.of_set (by decide) l9, Free.of_set (by decide) l10, Free.of_set (by decide) l11, Free.of_set (by decide) l12, Free.of_set (by decide) l15, fun _ => ⟨_, _, _, rfl, hW.size, Sp.new _ _ _, fun e => by rw [Free.set_other (by decide), hs] at e; cases e⟩, fun e => by rw [Free.set_other (by decide), hs] at e; cases e⟩)
          · have N := hid (hne 13 (by kernel_rfl))
            obtain ⟨bn, cn, dn, q1, q2, q3, q4⟩ := ln N.out
            subst q1
            have y1 := q3.fl
            have y2 := q3.fh
            have y3 := q3.lo
            have y4 := q3.hi
            refine Free.op rfl rfl (fun K hK => ?_)
            obtain rfl := l11 (hne 11 (by kernel_rfl))
            go_simp
            exact hK _ _ ((HI.out _ _ _).2 ⟨v28, v29, v30, v31, v32, v33, v34, v35, v36, v37, v27, _, v39, _, v12, rfl, (hW.setCell q2 _).setCell q2 _, Free.of_set (by decide) l0, Free.of_set (by decide) l1, Free.of_set (by decide) l2, Free.of_set (by decide) l3, Free.of_set (by decide) l4, Free.of_set (by decide) l5, Free.of_set (by decide) l6, Free.of_set (by decide) l7, Free.of_set (by decide) l8, Free.of_set (by decide) l9, Free.of_set (by decide) l10, fun _ => rfl, Free.of_set (by decide) l12, Free.of_set (by decide) l15, fun _ => ⟨_, _, _, rfl, q2, q3.set _ _, fun _ => ⟨rfl, rfl⟩⟩, fun _ => Free.fore (by decide) N.out⟩)
          · refine Free.op rfl rfl (fun K hK => ?_)
            obtain rfl := l12 (hne 12 (by kernel_rfl))
            go_simp
            exact hK _ _ ((HI.out _ _ _).2 ⟨v28, v29, v30, v31, v32, v33, v34, v35, v36, v37, v27, v38, _, v11, _, rfl, hW, Free.of_set (by decide) l0, Free.of_set (by decide) l1, Free.of_set (by decide) l2, Free.of_set (by decide) l3, Free.of_set (by decide) l4, Free.of_set (by decide) l5, Free.of_set (by decide) l6, Free.of_set (by decide) l7, Free.of_set (by decide) l8, Free.of_set (by decide) l9, Free.of_set (by decide) l10, Free.of_set (by decide) l11, fun _ => rfl, fun _ => rfl, fun e => by obtain ⟨bn, cn, dn, q1, q2, q3, q4⟩ := ln (Free.back (by decide) e); exact ⟨bn, cn, dn, q1, q2, q3, fun e2 => q4 (Free.back (by decide) e2)⟩, fun e => Free.fore (by decide) (lp (Free.back (by decide) e))⟩)
        case s3 =>
          intro listed aq W1 hall hsz hv
          obtain ⟨v28, v29, v30, v31, v32, v33, v34, v35, v36, v37, v27, v38, v39, v11, v12, rfl, hW, l0, l1, l2, l3, l4, l5, l6, l7, l8, l9, l10, l11, l12, l15, ln, lp⟩ := (HI.out _ _ _).1 hv
          clear hv HI
          obtain ⟨bn, cn, dn, rfl, hbn, hSn, q4⟩ := ln (Free.listed_of hall hsz 13 (by decide))
          obtain ⟨rfl, rfl⟩ := q4 (Free.listed_of hall hsz 14 (by decide))
          clear ln lp
          obtain rfl := l0 (Free.listed_of hall hsz 0 (by decide))
          obtain rfl := l1 (Free.listed_of hall hsz 1 (by decide))
          obtain rfl := l2 (Free.listed_of hall hsz 2 (by decide))
          obtain rfl := l3 (Free.listed_of hall hsz 3 (by decide))
          obtain rfl := l4 (Free.listed_of hall hsz 4 (by decide))
          obtain rfl := l5 (Free.listed_of hall hsz 5 (by decide))
          obtain rfl := l6 (Free.listed_of hall hsz 6 (by decide))
          obtain rfl := l7 (Free.listed_of hall hsz 7 (by decide))
          obtain rfl := l8 (Free.listed_of hall hsz 8 (by decide))
          obtain rfl := l9 (Free.listed_of hall hsz 9 (by decide))
          obtain rfl := l10 (Free.listed_of hall hsz 10 (by decide))
          obtain rfl := l11 (Free.listed_of hall hsz 11 (by decide))
          obtain rfl := l12 (Free.listed_of hall hsz 12 (by decide))
          obtain rfl := l15 (Free.listed_of hall hsz 15 (by decide))
          clear hall hsz
          replace hP := hP.step hW
          have HQ := hid hP.below
          clear hP hA hB
          go_wp2
          go_returns
          rw [HM.out]
          exact ⟨_, rfl, Ls.nil _ _, hF.below.trans (HQ.out.mono hF.size), fun e => absurd e HCZ.out⟩

    · obtain rfl : k = a.length := by omega
      have HQ := hid (hP.ls hZ.out.2)
      have HO := hid (hP.own hZ.out.2 hF.size)
      have HE := hid hZ.out.1
      have HB := hid hP.below
      clear hP HDR hA0 hB0 hZ
      go_wp2
      go_returns
      rw [HE.out, errV_none]
      exact ⟨_, rfl, HQ.out, hF.below.trans (HB.out.mono hF.size), fun _ => HO.out⟩

/-- The hull of two, whatever they are. -/
def hullA (a b : List (Int × Int)) : List (Int × Int) := if Um.boxesF a b = 0 then Um.hullN a b a.length else []
/-- What both have, whatever they are; the fault. -/
def meetA (a b : List (Int × Int)) : List (Int × Int) × Int := if Um.boxesF a b = 0 then Um.meetN a b a.length else ([], Um.boxesF a b)

set_option maxHeartbeats 4000000 in
theorem side_hull_wrong (a b : List (Int × Int)) (u v : Value) (w : World) (hs1 : Ls w.heap.size w u a) (hs2 : Ls w.heap.size w v b) (h : ¬ Um.boxesF a b = 0) :
    Calls Tryd.prog 38 #[u, v, .func (.func 39) #[] #[]] w fun e w' => e = .returned (.tuple #[.slice none 0 0, errV (Um.boxesF a b)]) ∧ Below w.heap.size w w' := by
  have v0 := errV_none
  have q1 := errG
  have q2 := errGn
  have q3 := errE
  have q4 := errN
  have HC := fun w hs1 hs2 => hid (checkTwo_any a b u v w hs1 hs2)
  have hF := Fr.start w
  have k : (Um.boxesF a b != 0) = true := by simpa using h
  clear h
  obtain ⟨a0, cap0, rfl, -, -⟩ := (id hs1)
  obtain ⟨a1, cap1, rfl, -, -⟩ := (id hs2)
  generalize Um.boxesF a b = G at *
  go_enter Tryd.func38, Tryd.ntmps38
  go_wp2_with (go_at_call 46; refine (HC _ hs1 hs2).out.mono ?_; rintro e wn ⟨rfl, hb⟩; replace hF := hF.step hb; clear hb)
  go_returns
  exact ⟨rfl, hF.below⟩
theorem side_hull_any (a b : List (Int × Int)) (u v : Value) (w : World) (hs1 : Ls w.heap.size w u a) (hs2 : Ls w.heap.size w v b) :
    Calls Tryd.prog 38 #[u, v, .func (.func 39) #[] #[]] w fun e w' => ∃ r, e = .returned (.tuple #[r, errV ((hullA a b, Um.boxesF a b)).2]) ∧ Ls w'.heap.size w' r ((hullA a b, Um.boxesF a b)).1 ∧ Below w.heap.size w w' := by
  unfold hullA
  by_cases h : Um.boxesF a b = 0
  · have := side_hull a b u v w hs1 hs2 h
    rw [Um.hull_all h a.length (Nat.le_refl _)] at this
    simp only [if_pos h]
    simp only [h]
    refine this.mono ?_
    rintro e w' ⟨r, e1, e2, e3, -⟩
    exact ⟨r, e1, e2, e3⟩
  · refine (side_hull_wrong a b u v w hs1 hs2 h).mono ?_
    rintro e w' ⟨rfl, hb⟩
    simp only [if_neg h]
    exact ⟨_, rfl, Ls.nil _ _, hb⟩
set_option maxHeartbeats 4000000 in
/-- At every argument. -/
theorem bhull_any (a b : List (Int × Int)) (u v : Value) (w : World) (hs1 : Ls w.heap.size w u a) (hs2 : Ls w.heap.size w v b) :
    Calls Tryd.prog 29 #[u, v] w fun e w' => ∃ r, e = .returned (.tuple #[r, errV ((hullA a b, Um.boxesF a b)).2]) ∧ Ls w'.heap.size w' r ((hullA a b, Um.boxesF a b)).1 ∧ Below w.heap.size w w' := by
  have HS := fun w hs1 hs2 => hid (side_hull_any a b u v w hs1 hs2)
  obtain ⟨a0, cap0, rfl, -, -⟩ := (id hs1)
  obtain ⟨a1, cap1, rfl, -, -⟩ := (id hs2)
  generalize (hullA a b, Um.boxesF a b) = R at *
  go_enter Tryd.func29, Tryd.ntmps29
  go_wp2_with (go_at_call 38; refine (HS _ hs1 hs2).out.mono ?_; rintro e wn ⟨r, rfl, hr, hb⟩; )
  go_returns
  exact ⟨_, rfl, hr, hb⟩

theorem side_hull_own (a b : List (Int × Int)) (u v : Value) (w : World) (hs1 : Ls w.heap.size w u a) (hs2 : Ls w.heap.size w v b) (h : Um.boxesF a b = 0) :
    Calls Tryd.prog 38 #[u, v, .func (.func 39) #[] #[]] w fun e w' => ∃ r, e = .returned (.tuple #[r, errV 0]) ∧ w'.ownsRow w.heap.size 28 2 r (Um.hullN a b a.length).length (cellsOf (Um.hullN a b a.length)) ∧ Below w.heap.size w w' := by
  have := side_hull a b u v w hs1 hs2 h
  rw [Um.hull_all h a.length (Nat.le_refl _)] at this
  rw [Um.hull_length]
  refine this.mono ?_
  rintro e w' ⟨r, e1, -, e3, e4⟩
  exact ⟨r, e1, e4 rfl, e3⟩
set_option maxHeartbeats 4000000 in
/-- Of two that are right it lies in a row of the caller's own. -/
theorem bhull_own (a b : List (Int × Int)) (u v : Value) (w : World) (hs1 : Ls w.heap.size w u a) (hs2 : Ls w.heap.size w v b) (h : Um.boxesF a b = 0) :
    Calls Tryd.prog 29 #[u, v] w fun e w' => ∃ r, e = .returned (.tuple #[r, errV 0]) ∧ w'.ownsRow w.heap.size 28 2 r (Um.hullN a b a.length).length (cellsOf (Um.hullN a b a.length)) ∧ Below w.heap.size w w' := by
  have HS := fun w hs1 hs2 => hid (side_hull_own a b u v w hs1 hs2 h)
  obtain ⟨a0, cap0, rfl, -, -⟩ := (id hs1)
  obtain ⟨a1, cap1, rfl, -, -⟩ := (id hs2)
  generalize Um.hullN a b a.length = R at *
  generalize (0 : Int) = K at HS ⊢
  clear h
  go_enter Tryd.func29, Tryd.ntmps29
  go_wp2_with (go_at_call 38; refine (HS _ hs1 hs2).out.mono ?_; rintro e wn ⟨r, rfl, hr, hb⟩; )
  go_returns
  exact ⟨_, rfl, hr, hb⟩
end Go.Proofs.YthgehlonjoafmaaDoor
