/-
  What the document's answer (package spanref1) to the pieces of a right span is; spansame.Box of two lists that are the same.
-/
import Derived.Test.YthoiiffdigkodaaGreatDoorMaths
import Derived.Test.YthoiiffdigkodaaGreatDoorMems
import Derived.Maps.AppendAt
namespace Go.Proofs.YthoiiffdigkodaaGreatDoor
set_option linter.unusedSimpArgs false
open Go.RowKit

theorem wrap_in {x : Int} (h1 : -9223372036854775808 ≤ x) (h2 : x ≤ 9223372036854775807) : IntKind.i64.wrap x = x := by rw [IntKind.wrap_i64]; omega
theorem info_spans : (Tryz.prog.info? 24).map (fun i => (i.zero, i.size, i.bytes)) = some (some (.agg #[.int .i64 0, .int .i64 0]), 2, 16) := by kernel_rfl
theorem cell_two_new (w : World) (x y : Value) (t : TypeId) : ∀ j u, [x, y][j]? = some u → (w.alloc (.cells #[x, y] t)).cell? ((⟨w.heap.size, 0, none⟩ : Addr).add j) = some u := by
  intro j u hj
  match j, hj with
  | 0, hj => simp at hj; subst hj; simp [Addr.add]
  | 1, hj => simp at hj; subst hj; simp [Addr.add]
theorem Sp.below' {w w' : World} {b B : Nat} {lo hi : Int} (h : Sp w b lo hi) (hb : Below B w w') (hlt : b < B) : Sp w' b lo hi := by
  unfold Sp at *
  rw [hb.block b hlt]; exact h
/-- What is owned stays so behind a call of someone else's. -/
theorem owns_step {w w' : World} {base E size n : Nat} {v : Value} {xs : List Value} (h : w.ownsRow base E size v n xs) (hb : Below w.heap.size w w') : w'.ownsRow base E size v n xs := by
  refine ⟨h.1, ?_⟩
  rcases h.2 with h2 | ⟨g, cap, cur, e, hg, hh, h3⟩
  · exact .inl h2
  · exact .inr ⟨g, cap, cur, e, hg, (hb.block g (Array.getElem?_eq_some_iff.1 hh).1).trans hh, h3⟩

set_option maxRecDepth 100000 in
set_option maxHeartbeats 8000000 in
theorem rPieces_any (lo hi : Int) (n : Nat) (w : World) (h : Um.chk lo hi = 0) (h1 : 1 ≤ n) (h2 : n ≤ 32) :
    Calls Tryz.prog 6 #[.agg #[.int .i64 lo, .int .i64 hi], .int .i64 (n : Int)] w fun e w' => ∃ v, e = .returned v ∧ Ls w'.heap.size w' v (Um.cuts lo hi n n) ∧ Below w.heap.size w w' := by
  have hmx : Tryz.prog.follows .mixedOrders = true := by kernel_rfl
  obtain ⟨m1, m2, hl⟩ := Um.chk_ok.1 h
  obtain ⟨m1, m3⟩ := (Um.may_iff _).1 m1
  obtain ⟨m4, m2⟩ := (Um.may_iff _).1 m2
  clear h
  obtain ⟨i0, hi0, hz0, hz1, hz2⟩ := info_parts info_spans
  have nz : ¬ n = 0 := by omega
  go_enter Tryz.func6, Tryz.ntmps6
  go_wp2
  go_loopw [5, 6] (fun u i wr => ∃ k : Nat, k ≤ n ∧ i = .int .i64 k ∧ wr.ownsRow (w.heap.size + 1) 24 2 u k (cellsOf (Um.cuts lo hi n k)) ∧ Below w.heap.size w wr ∧ Sp wr w.heap.size lo hi) (fun _ i _ => n - (intOf i).toNat)
  case atStart => exact ⟨0, Nat.zero_le _, rfl, World.ownsRow_nil _ _ _ _, by go_grown, Sp.new _ _ _⟩
  case round =>
    obtain ⟨k, hk, rfl, hown, hB, hS⟩ := hrel
    by_cases hkl : k < n
    · have hkk : (k : Int) < (n : Int) := by omega
      have b1 := Um.mul_by (A := 2000000000) (B := 33) (show (-2000000000 : Int) ≤ hi - lo by omega) (show hi - lo ≤ 2000000000 by omega) (show (-33 : Int) ≤ (k : Int) by omega) (show (k : Int) ≤ 33 by omega) (by decide)
      have b2 := Um.mul_by (A := 2000000000) (B := 33) (show (-2000000000 : Int) ≤ hi - lo by omega) (show hi - lo ≤ 2000000000 by omega) (show (-33 : Int) ≤ (k : Int) + 1 by omega) (show (k : Int) + 1 ≤ 33 by omega) (by decide)
      have cc := Um.cut_in (lo := lo) (hi := hi) (many := n) (k := n) rfl (by omega) hl hk
      have cd := Um.cut_in (lo := lo) (hi := hi) (many := n) (k := n) rfl (by omega) hl (show k + 1 ≤ n by omega)
      have HC := hid (Um.cuts_succ lo hi n k)
      rw [← Um.cut_ref hl k] at cc HC
      rw [← Um.cut_ref1 hl k] at cd HC
      have w1 : IntKind.i64.wrap (hi - lo) = hi - lo := wrap_in (by omega) (by omega)
      have w2 : IntKind.i64.wrap ((hi - lo) * (k : Int)) = (hi - lo) * (k : Int) := wrap_in (by omega) (by omega)
      have w3 : IntKind.i64.wrap ((hi - lo) * ((k : Int) + 1)) = (hi - lo) * ((k : Int) + 1) := wrap_in (by omega) (by omega)
      have w4 : IntKind.i64.wrap ((k : Int) + 1) = (k : Int) + 1 := wrap_in (by omega) (by omega)
      have w5 : IntKind.i64.wrap (((hi - lo) * (k : Int)).tdiv (n : Int)) = ((hi - lo) * (k : Int)).tdiv (n : Int) := wrap_in (by omega) (by omega)
      have w6 : IntKind.i64.wrap (((hi - lo) * ((k : Int) + 1)).tdiv (n : Int)) = ((hi - lo) * ((k : Int) + 1)).tdiv (n : Int) := wrap_in (by omega) (by omega)
      have w7 : IntKind.i64.wrap (lo + ((hi - lo) * (k : Int)).tdiv (n : Int)) = lo + ((hi - lo) * (k : Int)).tdiv (n : Int) := wrap_in (by omega) (by omega)
      have w8 : IntKind.i64.wrap (lo + ((hi - lo) * ((k : Int) + 1)).tdiv (n : Int)) = lo + ((hi - lo) * ((k : Int) + 1)).tdiv (n : Int) := wrap_in (by omega) (by omega)
      obtain ⟨b1, b1'⟩ := b1
      obtain ⟨b2, b2'⟩ := b2
      obtain ⟨cc, cc'⟩ := cc
      obtain ⟨cd, cd'⟩ := cd
      go_wp2
      obtain ⟨Inv, hInv⟩ : ∃ Inv : Array Bool → Act → World → Prop, ∀ listed a W', Inv listed a W' ↔ (∃ v13 v14 v15 v16 v17 v18 v19 v20 v21 v22 v23 v24 v25 v26 v27 v28 v29 v30 v31 v32 v33 v34 v35 v36 v37 v38 v7 : Value, a = { tmps := #[Value.agg #[Value.int IntKind.i64 lo, Value.int IntKind.i64 hi], Value.int IntKind.i64 ↑n, Value.pointer (some { block := w.heap.size, off := 0 }), undef, Value.slice none 0 0, u5, Value.int IntKind.i64 ↑k, v7, Value.int IntKind.i64 ↑k, Value.int IntKind.i64 ↑n, Value.bool true, u11, u12, v13, v14, v15, v16, v17, v18, v19, v20, v21, v22, v23, v24, v25, v26, v27, v28, v29, v30, v31, v32, v33, v34, v35, v36, v37, v38, u39, u40, u41, u42, undef], defers := [] } ∧ Below (wr).heap.size (wr) W' ∧ (listed.getD 0 false = true → v13 = .pointer (some ⟨w.heap.size, 0, none⟩)) ∧ (listed.getD 1 false = true → v14 = .int .i64 (lo)) ∧ (listed.getD 2 false = true → v15 = .pointer (some ⟨w.heap.size, 1, none⟩)) ∧ (listed.getD 3 false = true → v16 = .int .i64 (hi)) ∧ (listed.getD 4 false = true → v17 = .pointer (some ⟨w.heap.size, 0, none⟩)) ∧ (listed.getD 5 false = true → v18 = .int .i64 (lo)) ∧ (listed.getD 6 false = true → v19 = .int .i64 (hi - lo)) ∧ (listed.getD 7 false = true → v20 = Value.int IntKind.i64 ↑k) ∧ (listed.getD 8 false = true → v21 = .int .i64 ((hi - lo) * (k : Int))) ∧ (listed.getD 9 false = true → v22 = Value.int IntKind.i64 ↑n) ∧ (listed.getD 10 false = true → v23 = .int .i64 (((hi - lo) * (k : Int)).tdiv (n : Int))) ∧ (listed.getD 11 false = true → v24 = .int .i64 (lo + ((hi - lo) * (k : Int)).tdiv (n : Int))) ∧ (listed.getD 12 false = true → v25 = .pointer (some ⟨w.heap.size, 0, none⟩)) ∧ (listed.getD 13 false = true → v26 = .int .i64 (lo)) ∧ (listed.getD 14 false = true → v27 = .pointer (some ⟨w.heap.size, 1, none⟩)) ∧ (listed.getD 15 false = true → v28 = .int .i64 (hi)) ∧ (listed.getD 16 false = true → v29 = .pointer (some ⟨w.heap.size, 0, none⟩)) ∧ (listed.getD 17 false = true → v30 = .int .i64 (lo)) ∧ (listed.getD 18 false = true → v31 = .int .i64 (hi - lo)) ∧ (listed.getD 19 false = true → v32 = Value.int IntKind.i64 ↑k) ∧ (listed.getD 20 false = true → v33 = .int .i64 ((k : Int) + 1)) ∧ (listed.getD 21 false = true → v34 = .int .i64 ((hi - lo) * ((k : Int) + 1))) ∧ (listed.getD 22 false = true → v35 = Value.int IntKind.i64 ↑n) ∧ (listed.getD 23 false = true → v36 = .int .i64 (((hi - lo) * ((k : Int) + 1)).tdiv (n : Int))) ∧ (listed.getD 24 false = true → v37 = .int .i64 (lo + ((hi - lo) * ((k : Int) + 1)).tdiv (n : Int))) ∧ (listed.getD 25 false = true → v38 = .agg #[.int .i64 (lo + ((hi - lo) * (k : Int)).tdiv (n : Int)), .int .i64 (lo + ((hi - lo) * ((k : Int) + 1)).tdiv (n : Int))]) ∧ (listed.getD 26 false = true → ∃ (bn : Nat) (cn dn : Int), v7 = .pointer (some ⟨bn, 0, none⟩) ∧ (wr).heap.size ≤ bn ∧ Sp W' bn cn dn ∧ (listed.getD 27 false = true → cn = lo + ((hi - lo) * (k : Int)).tdiv (n : Int) ∧ dn = lo + ((hi - lo) * ((k : Int) + 1)).tdiv (n : Int))) ∧ (listed.getD 27 false = true → listed.getD 26 false = true)) := ⟨_, fun _ _ _ => Iff.rfl⟩
      have HI := hid hInv
      clear hInv
      refine Free.region hmx (by kernel_rfl) Inv ?s1 ?s2 ?s3
      case s1 =>
        exact (HI.out _ _ _).2 ⟨u13, u14, u15, u16, u17, u18, u19, u20, u21, u22, u23, u24, u25, u26, u27, u28, u29, u30, u31, u32, u33, u34, u35, u36, u37, u38, u7, rfl, (Below.refl _ _).drew, Free.not_yet, Free.not_yet, Free.not_yet, Free.not_yet, Free.not_yet, Free.not_yet, Free.not_yet, Free.not_yet, Free.not_yet, Free.not_yet, Free.not_yet, Free.not_yet, Free.not_yet, Free.not_yet, Free.not_yet, Free.not_yet, Free.not_yet, Free.not_yet, Free.not_yet, Free.not_yet, Free.not_yet, Free.not_yet, Free.not_yet, Free.not_yet, Free.not_yet, Free.not_yet, Free.not_yet, Free.not_yet⟩
      case s2 =>
        intro i listed a W1 hix hne hnl hsz hv
        obtain ⟨v13, v14, v15, v16, v17, v18, v19, v20, v21, v22, v23, v24, v25, v26, v27, v28, v29, v30, v31, v32, v33, v34, v35, v36, v37, v38, v7, rfl, hW, l0, l1, l2, l3, l4, l5, l6, l7, l8, l9, l10, l11, l12, l13, l14, l15, l16, l17, l18, l19, l20, l21, l22, l23, l24, l25, ln, lp⟩ := (HI.out _ _ _).1 hv
        clear hv
        replace hix : i < 28 := hix
        replace hsz : listed.size = 28 := hsz
        rcases (by omega : i = 0 ∨ i = 1 ∨ i = 2 ∨ i = 3 ∨ i = 4 ∨ i = 5 ∨ i = 6 ∨ i = 7 ∨ i = 8 ∨ i = 9 ∨ i = 10 ∨ i = 11 ∨ i = 12 ∨ i = 13 ∨ i = 14 ∨ i = 15 ∨ i = 16 ∨ i = 17 ∨ i = 18 ∨ i = 19 ∨ i = 20 ∨ i = 21 ∨ i = 22 ∨ i = 23 ∨ i = 24 ∨ i = 25 ∨ i = 26 ∨ i = 27) with rfl | rfl | rfl | rfl | rfl | rfl | rfl | rfl | rfl | rfl | rfl | rfl | rfl | rfl | rfl | rfl | rfl | rfl | rfl | rfl | rfl | rfl | rfl | rfl | rfl | rfl | rfl | rfl
        · refine Free.op rfl rfl (fun K hK => ?_)
          go_simp
          exact hK _ _ ((HI.out _ _ _).2 ⟨_, v14, v15, v16, v17, v18, v19, v20, v21, v22, v23, v24, v25, v26, v27, v28, v29, v30, v31, v32, v33, v34, v35, v36, v37, v38, v7, rfl, hW, fun _ => rfl, Free.of_set (by decide) l1, Free.of_set (by decide) l2, Free.of_set (by decide) l3, Free.of_set (by decide) l4, Free.of_set (by decide) l5, Free.of_set (by decide) l6, Free.of_set (by decide) l7, Free.of_set (by decide) l8, Free.of_set (by decide) l9, Free.of_set (by decide) l10, Free.of_set (by decide) l11, Free.of_set (by decide) l12, Free.of_set (by decide) l13, Free.of_set (by decide) l14, Free.of_set (by decide) l15, Free.of_set (by decide) l16, Free.of_set (by decide) l17, Free.of_set (by decide) l18, Free.of_set (by decide) l19, Free.of_set (by decide) l20, Free.of_set (by decide) l21, Free.of_set (by decide) l22, Free.of_set (by decide) l23, Free.of_set (by decide) l24, Free.of_set (by decide) l25, fun e => by obtain ⟨bn, cn, dn, q1, q2, q3, q4⟩ := ln (Free.back (by decide) e); exact ⟨bn, cn, dn, q1, q2, q3, fun e2 => q4 (Free.back (by decide) e2)⟩, fun e => Free.fore (by decide) (lp (Free.back (by decide) e))⟩)
        · have z1 := (hS.step hW).lo
          have z2 := (hS.step hW).hi
          refine Free.op rfl rfl (fun K hK => ?_)
          obtain rfl := l0 (hne 0 (by kernel_rfl))
          go_simp
          exact hK _ _ ((HI.out _ _ _).2 ⟨_, _, v15, v16, v17, v18, v19, v20, v21, v22, v23, v24, v25, v26, v27, v28, v29, v30, v31, v32, v33, v34, v35, v36, v37, v38, v7, rfl, hW, fun _ => rfl, fun _ => rfl, Free.of_set (by decide) l2, Free.of_set (by decide) l3, Free.of_set (by decide) l4, Free.of_set (by decide) l5, Free.of_set (by decide) l6, Free.of_set (by decide) l7, Free.of_set (by decide) l8, Free.of_set (by decide) l9, Free.of_set (by decide) l10, Free.of_set (by decide) l11, Free.of_set (by decide) l12, Free.of_set (by decide) l13, Free.of_set (by decide) l14, Free.of_set (by decide) l15, Free.of_set (by decide) l16, Free.of_set (by decide) l17, Free.of_set (by decide) l18, Free.of_set (by decide) l19, Free.of_set (by decide) l20, Free.of_set (by decide) l21, Free.of_set (by decide) l22, Free.of_set (by decide) l23, Free.of_set (by decide) l24, Free.of_set (by decide) l25, fun e => by obtain ⟨bn, cn, dn, q1, q2, q3, q4⟩ := ln (Free.back (by decide) e); exact ⟨bn, cn, dn, q1, q2, q3, fun e2 => q4 (Free.back (by decide) e2)⟩, fun e => Free.fore (by decide) (lp (Free.back (by decide) e))⟩)
        · refine Free.op rfl rfl (fun K hK => ?_)
          go_simp
          exact hK _ _ ((HI.out _ _ _).2 ⟨v13, v14, _, v16, v17, v18, v19, v20, v21, v22, v23, v24, v25, v26, v27, v28, v29, v30, v31, v32, v33, v34, v35, v36, v37, v38, v7, rfl, hW, Free.of_set (by decide) l0, Free.of_set (by decide) l1, fun _ => rfl, Free.of_set (by decide) l3, Free.of_set (by decide) l4, Free.of_set (by decide) l5, Free.of_set (by decide) l6, Free.of_set (by decide) l7, Free.of_set (by decide) l8, Free.of_set (by decide) l9, Free.of_set (by decide) l10, Free.of_set (by decide) l11, Free.of_set (by decide) l12, Free.of_set (by decide) l13, Free.of_set (by decide) l14, Free.of_set (by decide) l15, Free.of_set (by decide) l16, Free.of_set (by decide) l17, Free.of_set (by decide) l18, Free.of_set (by decide) l19, Free.of_set (by decide) l20, Free.of_set (by decide) l21, Free.of_set (by decide) l22, Free.of_set (by decide) l23, Free.of_set (by decide) l24, Free.of_set (by decide) l25, fun e => by obtain ⟨bn, cn, dn, q1, q2, q3, q4⟩ := ln (Free.back (by decide) e); exact ⟨bn, cn, dn, q1, q2, q3, fun e2 => q4 (Free.back (by decide) e2)⟩, fun e => Free.fore (by decide) (lp (Free.back (by decide) e))⟩)
        · have z1 := (hS.step hW).lo
          have z2 := (hS.step hW).hi
          refine Free.op rfl rfl (fun K hK => ?_)
          obtain rfl := l2 (hne 2 (by kernel_rfl))
          go_simp
          exact hK _ _ ((HI.out _ _ _).2 ⟨v13, v14, _, _, v17, v18, v19, v20, v21, v22, v23, v24, v25, v26, v27, v28, v29, v30, v31, v32, v33, v34, v35, v36, v37, v38, v7, rfl, hW, Free.of_set (by decide) l0, Free.of_set (by decide) l1, fun _ => rfl, fun _ => rfl, Free.of_set (by decide) l4, Free.of_set (by decide) l5, Free.of_set (by decide) l6, Free.of_set (by decide) l7, Free.of_set (by decide) l8, Free.of_set (by decide) l9, Free.of_set (by decide) l10, Free.of_set (by decide) l11, Free.of_set (by decide) l12, Free.of_set (by decide) l13, Free.of_set (by decide) l14, Free.of_set (by decide) l15, Free.of_set (by decide) l16, Free.of_set (by decide) l17, Free.of_set (by decide) l18, Free.of_set (by decide) l19, Free.of_set (by decide) l20, Free.of_set (by decide) l21, Free.of_set (by decide) l22, Free.of_set (by decide) l23, Free.of_set (by decide) l24, Free.of_set (by decide) l25, fun e => by obtain ⟨bn, cn, dn, q1, q2, q3, q4⟩ := ln (Free.back (by decide) e); exact ⟨bn, cn, dn, q1, q2, q3, fun e2 => q4 (Free.back (by decide) e2)⟩, fun e => Free.fore (by decide) (lp (Free.back (by decide) e))⟩)
        · refine Free.op rfl rfl (fun K hK => ?_)
          go_simp
          exact hK _ _ ((HI.out _ _ _).2 ⟨v13, v14, v15, v16, _, v18, v19, v20, v21, v22, v23, v24, v25, v26, v27, v28, v29, v30, v31, v32, v33, v34, v35, v36, v37, v38, v7, rfl, hW, Free.of_set (by decide) l0, Free.of_set (by decide) l1, Free.of_set (by decide) l2, Free.of_set (by decide) l3, fun _ => rfl, Free.of_set (by decide) l5, Free.of_set (by decide) l6, Free.of_set (by decide) l7, Free.of_set (by decide) l8, Free.of_set (by decide) l9, Free.of_set (by decide) l10, Free.of_set (by decide) l11, Free.of_set (by decide) l12, Free.of_set (by decide) l13, Free.of_set (by decide) l14, Free.of_set (by decide) l15, Free.of_set (by decide) l16, Free.of_set (by decide) l17, Free.of_set (by decide) l18, Free.of_set (by decide) l19, Free.of_set (by decide) l20, Free.of_set (by decide) l21, Free.of_set (by decide) l22, Free.of_set (by decide) l23, Free.of_set (by decide) l24, Free.of_set (by decide) l25, fun e => by obtain ⟨bn, cn, dn, q1, q2, q3, q4⟩ := ln (Free.back (by decide) e); exact ⟨bn, cn, dn, q1, q2, q3, fun e2 => q4 (Free.back (by decide) e2)⟩, fun e => Free.fore (by decide) (lp (Free.back (by decide) e))⟩)
        · have z1 := (hS.step hW).lo
          have z2 := (hS.step hW).hi
          refine Free.op rfl rfl (fun K hK => ?_)
          obtain rfl := l4 (hne 4 (by kernel_rfl))
          go_simp
          exact hK _ _ ((HI.out _ _ _).2 ⟨v13, v14, v15, v16, _, _, v19, v20, v21, v22, v23, v24, v25, v26, v27, v28, v29, v30, v31, v32, v33, v34, v35, v36, v37, v38, v7, rfl, hW, Free.of_set (by decide) l0, Free.of_set (by decide) l1, Free.of_set (by decide) l2, Free.of_set (by decide) l3, fun _ => rfl, fun _ => rfl, Free.of_set (by decide) l6, Free.of_set (by decide) l7, Free.of_set (by decide) l8, Free.of_set (by decide) l9, Free.of_set (by decide) l10, Free.of_set (by decide) l11, Free.of_set (by decide) l12, Free.of_set (by decide) l13, Free.of_set (by decide) l14, Free.of_set (by decide) l15, Free.of_set (by decide) l16, Free.of_set (by decide) l17, Free.of_set (by decide) l18, Free.of_set (by decide) l19, Free.of_set (by decide) l20, Free.of_set (by decide) l21, Free.of_set (by decide) l22, Free.of_set (by decide) l23, Free.of_set (by decide) l24, Free.of_set (by decide) l25, fun e => by obtain ⟨bn, cn, dn, q1, q2, q3, q4⟩ := ln (Free.back (by decide) e); exact ⟨bn, cn, dn, q1, q2, q3, fun e2 => q4 (Free.back (by decide) e2)⟩, fun e => Free.fore (by decide) (lp (Free.back (by decide) e))⟩)
        · refine Free.op rfl rfl (fun K hK => ?_)
          obtain rfl := l3 (hne 3 (by kernel_rfl))
          obtain rfl := l5 (hne 5 (by kernel_rfl))
          go_simp
          exact hK _ _ ((HI.out _ _ _).2 ⟨v13, v14, v15, _, v17, _, _, v20, v21, v22, v23, v24, v25, v26, v27, v28, v29, v30, v31, v32, v33, v34, v35, v36, v37, v38, v7, rfl, hW, Free.of_set (by decide) l0, Free.of_set (by decide) l1, Free.of_set (by decide) l2, fun _ => rfl, Free.of_set (by decide) l4, fun _ => rfl, fun _ => rfl, Free.of_set (by decide) l7, Free.of_set (by decide) l8, Free.of_set (by decide) l9, Free.of_set (by decide) l10, Free.of_set (by decide) l11, Free.of_set (by decide) l12, Free.of_set (by decide) l13, Free.of_set (by decide) l14, Free.of_set (by decide) l15, Free.of_set (by decide) l16, Free.of_set (by decide) l17, Free.of_set (by decide) l18, Free.of_set (by decide) l19, Free.of_set (by decide) l20, Free.of_set (by decide) l21, Free.of_set (by decide) l22, Free.of_set (by decide) l23, Free.of_set (by decide) l24, Free.of_set (by decide) l25, fun e => by obtain ⟨bn, cn, dn, q1, q2, q3, q4⟩ := ln (Free.back (by decide) e); exact ⟨bn, cn, dn, q1, q2, q3, fun e2 => q4 (Free.back (by decide) e2)⟩, fun e => Free.fore (by decide) (lp (Free.back (by decide) e))⟩)
        · refine Free.op rfl rfl (fun K hK => ?_)
          go_simp
          exact hK _ _ ((HI.out _ _ _).2 ⟨v13, v14, v15, v16, v17, v18, v19, _, v21, v22, v23, v24, v25, v26, v27, v28, v29, v30, v31, v32, v33, v34, v35, v36, v37, v38, v7, rfl, hW, Free.of_set (by decide) l0, Free.of_set (by decide) l1, Free.of_set (by decide) l2, Free.of_set (by decide) l3, Free.of_set (by decide) l4, Free.of_set (by decide) l5, Free.of_set (by decide) l6, fun _ => rfl, Free.of_set (by decide) l8, Free.of_set (by decide) l9, Free.of_set (by decide) l10, Free.of_set (by decide) l11, Free.of_set (by decide) l12, Free.of_set (by decide) l13, Free.of_set (by decide) l14, Free.of_set (by decide) l15, Free.of_set (by decide) l16, Free.of_set (by decide) l17, Free.of_set (by decide) l18, Free.of_set (by decide) l19, Free.of_set (by decide) l20, Free.of_set (by decide) l21, Free.of_set (by decide) l22, Free.of_set (by decide) l23, Free.of_set (by decide) l24, Free.of_set (by decide) l25, fun e => by obtain ⟨bn, cn, dn, q1, q2, q3, q4⟩ := ln (Free.back (by decide) e); exact ⟨bn, cn, dn, q1, q2, q3, fun e2 => q4 (Free.back (by decide) e2)⟩, fun e => Free.fore (by decide) (lp (Free.back (by decide) e))⟩)
        · refine Free.op rfl rfl (fun K hK => ?_)
          obtain rfl := l6 (hne 6 (by kernel_rfl))
          obtain rfl := l7 (hne 7 (by kernel_rfl))
          go_simp
          exact hK _ _ ((HI.out _ _ _).2 ⟨v13, v14, v15, v16, v17, v18, _, _, _, v22, v23, v24, v25, v26, v27, v28, v29, v30, v31, v32, v33, v34, v35, v36, v37, v38, v7, rfl, hW, Free.of_set (by decide) l0, Free.of_set (by decide) l1, Free.of_set (by decide) l2, Free.of_set (by decide) l3, Free.of_set (by decide) l4, Free.of_set (by decide) l5, fun _ => rfl, fun _ => rfl, fun _ => rfl, Free.of_set (by decide) l9, Free.of_set (by decide) l10, Free.of_set (by decide) l11, Free.of_set (by decide) l12, Free.of_set (by decide) l13, Free.of_set (by decide) l14, Free.of_set (by decide) l15, Free.of_set (by decide) l16, Free.of_set (by decide) l17, Free.of_set (by decide) l18, Free.of_set (by decide) l19, Free.of_set (by decide) l20, Free.of_set (by decide) l21, Free.of_set (by decide) l22, Free.of_set (by decide) l23, Free.of_set (by decide) l24, Free.of_set (by decide) l25, fun e => by obtain ⟨bn, cn, dn, q1, q2, q3, q4⟩ := ln (Free.back (by decide) e); exact ⟨bn, cn, dn, q1, q2, q3, fun e2 => q4 (Free.back (by decide) e2)⟩, fun e => Free.fore (by decide) (lp (Free.back (by decide) e))⟩)
        · refine Free.op rfl rfl (fun K hK => ?_)
          go_simp
          exact hK _ _ ((HI.out _ _ _).2 ⟨v13, v14, v15, v16, v17, v18, v19, v20, v21, _, v23, v24, v25, v26, v27, v28, v29, v30, v31, v32, v33, v34, v35, v36, v37, v38, v7, rfl, hW, Free.of_set (by decide) l0, Free.of_set (by decide) l1, Free.of_set (by decide) l2, Free.of_set (by decide) l3, Free.of_set (by decide) l4, Free.of_set (by decide) l5, Free.of_set (by decide) l6, Free.of_set (by decide) l7, Free.of_set (by decide) l8, fun _ => rfl, Free.of_set (by decide) l10, Free.of_set (by decide) l11, Free.of_set (by decide) l12, Free.of_set (by decide) l13, Free.of_set (by decide) l14, Free.of_set (by decide) l15, Free.of_set (by decide) l16, Free.of_set (by decide) l17, Free.of_set (by decide) l18, Free.of_set (by decide) l19, Free.of_set (by decide) l20, Free.of_set (by decide) l21, Free.of_set (by decide) l22, Free.of_set (by decide) l23, Free.of_set (by decide) l24, Free.of_set (by decide) l25, fun e => by obtain ⟨bn, cn, dn, q1, q2, q3, q4⟩ := ln (Free.back (by decide) e); exact ⟨bn, cn, dn, q1, q2, q3, fun e2 => q4 (Free.back (by decide) e2)⟩, fun e => Free.fore (by decide) (lp (Free.back (by decide) e))⟩)
        · refine Free.op rfl rfl (fun K hK => ?_)
          obtain rfl := l8 (hne 8 (by kernel_rfl))
          obtain rfl := l9 (hne 9 (by kernel_rfl))
          go_simp
          exact hK _ _ ((HI.out _ _ _).2 ⟨v13, v14, v15, v16, v17, v18, v19, v20, _, _, _, v24, v25, v26, v27, v28, v29, v30, v31, v32, v33, v34, v35, v36, v37, v38, v7, rfl, hW, Free.of_set (by decide) l0, Free.of_set (by decide) l1, Free.of_set (by decide) l2, Free.of_set (by decide) l3, Free.of_set (by decide) l4, Free.of_set (by decide) l5, Free.of_set (by decide) l6, Free.of_set (by decide) l7, fun _ => rfl, fun _ => rfl, fun _ => rfl, Free.of_set (by decide) l11, Free.of_set (by decide) l12, Free.of_set (by decide) l13, Free.of_set (by decide) l14, Free.of_set (by decide) l15, Free.of_set (by decide) l16, Free.of_set (by decide) l17, Free.of_set (by decide) l18, Free.of_set (by decide) l19, Free.of_set (by decide) l20, Free.of_set (by decide) l21, Free.of_set (by decide) l22, Free.of_set (by decide) l23, Free.of_set (by decide) l24, Free.of_set (by decide) l25, fun e => by obtain ⟨bn, cn, dn, q1, q2, q3, q4⟩ := ln (Free.back (by decide) e); exact ⟨bn, cn, dn, q1, q2, q3, fun e2 => q4 (Free.back (by decide) e2)⟩, fun e => Free.fore (by decide) (lp (Free.back (by decide) e))⟩)
        · refine Free.op rfl rfl (fun K hK => ?_)
          obtain rfl := l1 (hne 1 (by kernel_rfl))
          obtain rfl := l10 (hne 10 (by kernel_rfl))
          go_simp
          exact hK _ _ ((HI.out _ _ _).2 ⟨v13, _, v15, v16, v17, v18, v19, v20, v21, v22, _, _, v25, v26, v27, v28, v29, v30, v31, v32, v33, v34, v35, v36, v37, v38, v7, rfl, hW, Free.of_set (by decide) l0, fun _ => rfl, Free.of_set (by decide) l2, Free.of_set (by decide) l3, Free.of_set (by decide) l4, Free.of_set (by decide) l5, Free.of_set (by decide) l6, Free.of_set (by decide) l7, Free.of_set (by decide) l8, Free.of_set (by decide) l9, fun _ => rfl, fun _ => rfl, Free.of_set (by decide) l12, Free.of_set (by decide) l13, Free.of_set (by decide) l14, Free.of_set (by decide) l15, Free.of_set (by decide) l16, Free.of_set (by decide) l17, Free.of_set (by decide) l18, Free.of_set (by decide) l19, Free.of_set (by decide) l20, Free.of_set (by decide) l21, Free.of_set (by decide) l22, Free.of_set (by decide) l23, Free.of_set (by decide) l24, Free.of_set (by decide) l25, fun e => by obtain ⟨bn, cn, dn, q1, q2, q3, q4⟩ := ln (Free.back (by decide) e); exact ⟨bn, cn, dn, q1, q2, q3, fun e2 => q4 (Free.back (by decide) e2)⟩, fun e => Free.fore (by decide) (lp (Free.back (by decide) e))⟩)
        · refine Free.op rfl rfl (fun K hK => ?_)
          go_simp
          exact hK _ _ ((HI.out _ _ _).2 ⟨v13, v14, v15, v16, v17, v18, v19, v20, v21, v22, v23, v24, _, v26, v27, v28, v29, v30, v31, v32, v33, v34, v35, v36, v37, v38, v7, rfl, hW, Free.of_set (by decide) l0, Free.of_set (by decide) l1, Free.of_set (by decide) l2, Free.of_set (by decide) l3, Free.of_set (by decide) l4, Free.of_set (by decide) l5, Free.of_set (by decide) l6, Free.of_set (by decide) l7, Free.of_set (by decide) l8, Free.of_set (by decide) l9, Free.of_set (by decide) l10, Free.of_set (by decide) l11, fun _ => rfl, Free.of_set (by decide) l13, Free.of_set (by decide) l14, Free.of_set (by decide) l15, Free.of_set (by decide) l16, Free.of_set (by decide) l17, Free.of_set (by decide) l18, Free.of_set (by decide) l19, Free.of_set (by decide) l20, Free.of_set (by decide) l21, Free.of_set (by decide) l22, Free.of_set (by decide) l23, Free.of_set (by decide) l24, Free.of_set (by decide) l25, fun e => by obtain ⟨bn, cn, dn, q1, q2, q3, q4⟩ := ln (Free.back (by decide) e); exact ⟨bn, cn, dn, q1, q2, q3, fun e2 => q4 (Free.back (by decide) e2)⟩, fun e => Free.fore (by decide) (lp (Free.back (by decide) e))⟩)
        · have z1 := (hS.step hW).lo
          have z2 := (hS.step hW).hi
          refine Free.op rfl rfl (fun K hK => ?_)
          obtain rfl := l12 (hne 12 (by kernel_rfl))
          go_simp
          exact hK _ _ ((HI.out _ _ _).2 ⟨v13, v14, v15, v16, v17, v18, v19, v20, v21, v22, v23, v24, _, _, v27, v28, v29, v30, v31, v32, v33, v34, v35, v36, v37, v38, v7, rfl, hW, Free.of_set (by decide) l0, Free.of_set (by decide) l1, Free.of_set (by decide) l2, Free.of_set (by decide) l3, Free.of_set (by decide) l4, Free.of_set (by decide) l5, Free.of_set (by decide) l6, Free.of_set (by decide) l7, Free.of_set (by decide) l8, Free.of_set (by decide) l9, Free.of_set (by decide) l10, Free.of_set (by decide) l11, fun _ => rfl, fun _ => rfl, Free.of_set (by decide) l14, Free.of_set (by decide) l15, Free.of_set (by decide) l16, Free.of_set (by decide) l17, Free.of_set (by decide) l18, Free.of_set (by decide) l19, Free.of_set (by decide) l20, Free.of_set (by decide) l21, Free.of_set (by decide) l22, Free.of_set (by decide) l23, Free.of_set (by decide) l24, Free.of_set (by decide) l25, fun e => by obtain ⟨bn, cn, dn, q1, q2, q3, q4⟩ := ln (Free.back (by decide) e); exact ⟨bn, cn, dn, q1, q2, q3, fun e2 => q4 (Free.back (by decide) e2)⟩, fun e => Free.fore (by decide) (lp (Free.back (by decide) e))⟩)
        · refine Free.op rfl rfl (fun K hK => ?_)
          go_simp
          exact hK _ _ ((HI.out _ _ _).2 ⟨v13, v14, v15, v16, v17, v18, v19, v20, v21, v22, v23, v24, v25, v26, _, v28, v29, v30, v31, v32, v33, v34, v35, v36, v37, v38, v7, rfl, hW, Free.of_set (by decide) l0, Free.of_set (by decide) l1, Free.of_set (by decide) l2, Free.of_set (by decide) l3, Free.of_set (by decide) l4, Free.of_set (by decide) l5, Free.of_set (by decide) l6, Free.of_set (by decide) l7, Free.of_set (by decide) l8, Free.of_set (by decide) l9, Free.of_set (by decide) l10, Free.of_set (by decide) l11, Free.of_set (by decide) l12, Free.of_set (by decide) l13, fun _ => rfl, Free.of_set (by decide) l15, Free.of_set (by decide) l16, Free.of_set (by decide) l17, Free.of_set (by decide) l18, Free.of_set (by decide) l19, Free.of_set (by decide) l20, Free.of_set (by decide) l21, Free.of_set (by decide) l22, Free.of_set (by decide) l23, Free.of_set (by decide) l24, Free.of_set (by decide) l25, fun e => by obtain ⟨bn, cn, dn, q1, q2, q3, q4⟩ := ln (Free.back (by decide) e); exact ⟨bn, cn, dn, q1, q2, q3, fun e2 => q4 (Free.back (by decide) e2)⟩, fun e => Free.fore (by decide) (lp (Free.back (by decide) e))⟩)
        · have z1 := (hS.step hW).lo
          have z2 := (hS.step hW).hi
          refine Free.op rfl rfl (fun K hK => ?_)
          obtain rfl := l14 (hne 14 (by kernel_rfl))
          go_simp
          exact hK _ _ ((HI.out _ _ _).2 ⟨v13, v14, v15, v16, v17, v18, v19, v20, v21, v22, v23, v24, v25, v26, _, _, v29, v30, v31, v32, v33, v34, v35, v36, v37, v38, v7, rfl, hW, Free.of_set (by decide) l0, Free.of_set (by decide) l1, Free.of_set (by decide) l2, Free.of_set (by decide) l3, Free.of_set (by decide) l4, Free.of_set (by decide) l5, Free.of_set (by decide) l6, Free.of_set (by decide) l7, Free.of_set (by decide) l8, Free.of_set (by decide) l9, Free.of_set (by decide) l10, Free.of_set (by decide) l11, Free.of_set (by decide) l12, Free.of_set (by decide) l13, fun _ => rfl, fun _ => rfl, Free.of_set (by decide) l16, Free.of_set (by decide) l17, Free.of_set (by decide) l18, Free.of_set (by decide) l19, Free.of_set (by decide) l20, Free.of_set (by decide) l21, Free.of_set (by decide) l22, Free.of_set (by decide) l23, Free.of_set (by decide) l24, Free.of_set (by decide) l25, fun e => by obtain ⟨bn, cn, dn, q1, q2, q3, q4⟩ := ln (Free.back (by decide) e); exact ⟨bn, cn, dn, q1, q2, q3, fun e2 => q4 (Free.back (by decide) e2)⟩, fun e => Free.fore (by decide) (lp (Free.back (by decide) e))⟩)
        · refine Free.op rfl rfl (fun K hK => ?_)
          go_simp
          exact hK _ _ ((HI.out _ _ _).2 ⟨v13, v14, v15, v16, v17, v18, v19, v20, v21, v22, v23, v24, v25, v26, v27, v28, _, v30, v31, v32, v33, v34, v35, v36, v37, v38, v7, rfl, hW, Free.of_set (by decide) l0, Free.of_set (by decide) l1, Free.of_set (by decide) l2, Free.of_set (by decide) l3, Free.of_set (by decide) l4, Free.of_set (by decide) l5, Free.of_set (by decide) l6, Free.of_set (by decide) l7, Free.of_set (by decide) l8, Free.of_set (by decide) l9, Free.of_set (by decide) l10, Free.of_set (by decide) l11, Free.of_set (by decide) l12, Free.of_set (by decide) l13, Free.of_set (by decide) l14, Free.of_set (by decide) l15, fun _ => rfl, Free.of_set (by decide) l17, Free.of_set (by decide) l18, Free.of_set (by decide) l19, Free.of_set (by decide) l20, Free.of_set (by decide) l21, Free.of_set (by decide) l22, Free.of_set (by decide) l23, Free.of_set (by decide) l24, Free.of_set (by decide) l25, fun e => by obtain ⟨bn, cn, dn, q1, q2, q3, q4⟩ := ln (Free.back (by decide) e); exact ⟨bn, cn, dn, q1, q2, q3, fun e2 => q4 (Free.back (by decide) e2)⟩, fun e => Free.fore (by decide) (lp (Free.back (by decide) e))⟩)
        · have z1 := (hS.step hW).lo
          have z2 := (hS.step hW).hi
          refine Free.op rfl rfl (fun K hK => ?_)
          obtain rfl := l16 (hne 16 (by kernel_rfl))
          go_simp
          exact hK _ _ ((HI.out _ _ _).2 ⟨v13, v14, v15, v16, v17, v18, v19, v20, v21, v22, v23, v24, v25, v26, v27, v28, _, _, v31, v32, v33, v34, v35, v36, v37, v38, v7, rfl, hW, Free.of_set (by decide) l0, Free.of_set (by decide) l1, Free.of_set (by decide) l2, Free.of_set (by decide) l3, Free.of_set (by decide) l4, Free.of_set (by decide) l5, Free.of_set (by decide) l6, Free.of_set (by decide) l7, Free.of_set (by decide) l8, Free.of_set (by decide) l9, Free.of_set (by decide) l10, Free.of_set (by decide) l11, Free.of_set (by decide) l12, Free.of_set (by decide) l13, Free.of_set (by decide) l14, Free.of_set (by decide) l15, fun _ => rfl, fun _ => rfl, Free.of_set (by decide) l18, Free.of_set (by decide) l19, Free.of_set (by decide) l20, Free.of_set (by decide) l21, Free.of_set (by decide) l22, Free.of_set (by decide) l23, Free.of_set (by decide) l24, Free.of_set (by decide) l25, fun e => by obtain ⟨bn, cn, dn, q1, q2, q3, q4⟩ := ln (Free.back (by decide) e); exact ⟨bn, cn, dn, q1, q2, q3, fun e2 => q4 (Free.back (by decide) e2)⟩, fun e => Free.fore (by decide) (lp (Free.back (by decide) e))⟩)
        · refine Free.op rfl rfl (fun K hK => ?_)
          obtain rfl := l15 (hne 15 (by kernel_rfl))
          obtain rfl := l17 (hne 17 (by kernel_rfl))
          go_simp
          exact hK _ _ ((HI.out _ _ _).2 ⟨v13, v14, v15, v16, v17, v18, v19, v20, v21, v22, v23, v24, v25, v26, v27, _, v29, _, _, v32, v33, v34, v35, v36, v37, v38, v7, rfl, hW, Free.of_set (by decide) l0, Free.of_set (by decide) l1, Free.of_set (by decide) l2, Free.of_set (by decide) l3, Free.of_set (by decide) l4, Free.of_set (by decide) l5, Free.of_set (by decide) l6, Free.of_set (by decide) l7, Free.of_set (by decide) l8, Free.of_set (by decide) l9, Free.of_set (by decide) l10, Free.of_set (by decide) l11, Free.of_set (by decide) l12, Free.of_set (by decide) l13, Free.of_set (by decide) l14, fun _ => rfl, Free.of_set (by decide) l16, fun _ => rfl, fun _ => rfl, Free.of_set (by decide) l19, Free.of_set (by decide) l20, Free.of_set (by decide) l21, Free.of_set (by decide) l22, Free.of_set (by decide) l23, Free.of_set (by decide) l24, Free.of_set (by decide) l25, fun e => by obtain ⟨bn, cn, dn, q1, q2, q3, q4⟩ := ln (Free.back (by decide) e); exact ⟨bn, cn, dn, q1, q2, q3, fun e2 => q4 (Free.back (by decide) e2)⟩, fun e => Free.fore (by decide) (lp (Free.back (by decide) e))⟩)
        · refine Free.op rfl rfl (fun K hK => ?_)
          go_simp
          exact hK _ _ ((HI.out _ _ _).2 ⟨v13, v14, v15, v16, v17, v18, v19, v20, v21, v22, v23, v24, v25, v26, v27, v28, v29, v30, v31, _, v33, v34, v35, v36, v37, v38, v7, rfl, hW, Free.of_set (by decide) l0, Free.of_set (by decide) l1, Free.of_set (by decide) l2, Free.of_set (by decide) l3, Free.of_set (by decide) l4, Free.of_set (by decide) l5, Free.of_set (by decide) l6, Free.of_set (by decide) l7, Free.of_set (by decide) l8, Free.of_set (by decide) l9, Free.of_set (by decide) l10, Free.of_set (by decide) l11, Free.of_set (by decide) l12, Free.of_set (by decide) l13, Free.of_set (by decide) l14, Free.of_set (by decide) l15, Free.of_set (by decide) l16, Free.of_set (by decide) l17, Free.of_set (by decide) l18, fun _ => rfl, Free.of_set (by decide) l20, Free.of_set (by decide) l21, Free.of_set (by decide) l22, Free.of_set (by decide) l23, Free.of_set (by decide) l24, Free.of_set (by decide) l25, fun e => by obtain ⟨bn, cn, dn, q1, q2, q3, q4⟩ := ln (Free.back (by decide) e); exact ⟨bn, cn, dn, q1, q2, q3, fun e2 => q4 (Free.back (by decide) e2)⟩, fun e => Free.fore (by decide) (lp (Free.back (by decide) e))⟩)
        · refine Free.op rfl rfl (fun K hK => ?_)
          obtain rfl := l19 (hne 19 (by kernel_rfl))
          go_simp
          exact hK _ _ ((HI.out _ _ _).2 ⟨v13, v14, v15, v16, v17, v18, v19, v20, v21, v22, v23, v24, v25, v26, v27, v28, v29, v30, v31, _, _, v34, v35, v36, v37, v38, v7, rfl, hW, Free.of_set (by decide) l0, Free.of_set (by decide) l1, Free.of_set (by decide) l2, Free.of_set (by decide) l3, Free.of_set (by decide) l4, Free.of_set (by decide) l5, Free.of_set (by decide) l6, Free.of_set (by decide) l7, Free.of_set (by decide) l8, Free.of_set (by decide) l9, Free.of_set (by decide) l10, Free.of_set (by decide) l11, Free.of_set (by decide) l12, Free.of_set (by decide) l13, Free.of_set (by decide) l14, Free.of_set (by decide) l15, Free.of_set (by decide) l16, Free.of_set (by decide) l17, Free.of_set (by decide) l18, fun _ => rfl, fun _ => rfl, Free.of_set (by decide) l21, Free.of_set (by decide) l22, Free.of_set (by decide) l23, Free.of_set (by decide) l24, Free.of_set (by decide) l25, fun e => by obtain ⟨bn, cn, dn, q1, q2, q3, q4⟩ := ln (Free.back (by decide) e); exact ⟨bn, cn, dn, q1, q2, q3, fun e2 => q4 (Free.back (by decide) e2)⟩, fun e => Free.fore (by decide) (lp (Free.back (by decide) e))⟩)
        · refine Free.op rfl rfl (fun K hK => ?_)
          obtain rfl := l18 (hne 18 (by kernel_rfl))
          obtain rfl := l20 (hne 20 (by kernel_rfl))
          go_simp
          exact hK _ _ ((HI.out _ _ _).2 ⟨v13, v14, v15, v16, v17, v18, v19, v20, v21, v22, v23, v24, v25, v26, v27, v28, v29, v30, _, v32, _, _, v35, v36, v37, v38, v7, rfl, hW, Free.of_set (by decide) l0, Free.of_set (by decide) l1, Free.of_set (by decide) l2, Free.of_set (by decide) l3, Free.of_set (by decide) l4, Free.of_set (by decide) l5, Free.of_set (by decide) l6, Free.of_set (by decide) l7, Free.of_set (by decide) l8, Free.of_set (by decide) l9, Free.of_set (by decide) l10, Free.of_set (by decide) l11, Free.of_set (by decide) l12, Free.of_set (by decide) l13, Free.of_set (by decide) l14, Free.of_set (by decide) l15, Free.of_set (by decide) l16, Free.of_set (by decide) l17, fun _ => rfl, Free.of_set (by decide) l19, fun _ => rfl, fun _ => rfl, Free.of_set (by decide) l22, Free.of_set (by decide) l23, Free.of_set (by decide) l24, Free.of_set (by decide) l25, fun e => by obtain ⟨bn, cn, dn, q1, q2, q3, q4⟩ := ln (Free.back (by decide) e); exact ⟨bn, cn, dn, q1, q2, q3, fun e2 => q4 (Free.back (by decide) e2)⟩, fun e => Free.fore (by decide) (lp (Free.back (by decide) e))⟩)
        · refine Free.op rfl rfl (fun K hK => ?_)
          go_simp
          exact hK _ _ ((HI.out _ _ _).2 ⟨v13, v14, v15, v16, v17, v18, v19, v20, v21, v22, v23, v24, v25, v26, v27, v28, v29, v30, v31, v32, v33, v34, _, v36, v37, v38, v7, rfl, hW, Free.of_set (by decide) l0, Free.of_set (by decide) l1, Free.of_set (by decide) l2, Free.of_set (by decide) l3, Free.of_set (by decide) l4, Free.of_set (by decide) l5, Free.of_set (by decide) l6, Free.of_set (by decide) l7, Free.of_set (by decide) l8, Free.of_set (by decide) l9, Free.of_set (by decide) l10, Free.of_set (by decide) l11, Free.of_set (by decide) l12, Free.of_set (by decide) l13, Free.of_set (by decide) l14, Free.of_set (by decide) l15, Free.of_set (by decide) l16, Free.of_set (by decide) l17, Free.of_set (by decide) l18, Free.of_set (by decide) l19, Free.of_set (by decide) l20, Free.of_set (by decide) l21, fun _ => rfl, Free.of_set (by decide) l23, Free.of_set (by decide) l24, Free.of_set (by decide) l25, fun e => by obtain ⟨bn, cn, dn, q1, q2, q3, q4⟩ := ln (Free.back (by decide) e); exact ⟨bn, cn, dn, q1, q2, q3, fun e2 => q4 (Free.back (by decide) e2)⟩, fun e => Free.fore (by decide) (lp (Free.back (by decide) e))⟩)
        · refine Free.op rfl rfl (fun K hK => ?_)
          obtain rfl := l21 (hne 21 (by kernel_rfl))
          obtain rfl := l22 (hne 22 (by kernel_rfl))
          go_simp
          exact hK _ _ ((HI.out _ _ _).2 ⟨v13, v14, v15, v16, v17, v18, v19, v20, v21, v22, v23, v24, v25, v26, v27, v28, v29, v30, v31, v32, v33, _, _, _, v37, v38, v7, rfl, hW, Free.of_set (by decide) l0, Free.of_set (by decide) l1, Free.of_set (by decide) l2, Free.of_set (by decide) l3, Free.of_set (by decide) l4, Free.of_set (by decide) l5, Free.of_set (by decide) l6, Free.of_set (by decide) l7, Free.of_set (by decide) l8, Free.of_set (by decide) l9, Free.of_set (by decide) l10, Free.of_set (by decide) l11, Free.of_set (by decide) l12, Free.of_set (by decide) l13, Free.of_set (by decide) l14, Free.of_set (by decide) l15, Free.of_set (by decide) l16, Free.of_set (by decide) l17, Free.of_set (by decide) l18, Free.of_set (by decide) l19, Free.of_set (by decide) l20, fun _ => rfl, fun _ => rfl, fun _ => rfl, Free.of_set (by decide) l24, Free.of_set (by decide) l25, fun e => by obtain ⟨bn, cn, dn, q1, q2, q3, q4⟩ := ln (Free.back (by decide) e); exact ⟨bn, cn, dn, q1, q2, q3, fun e2 => q4 (Free.back (by decide) e2)⟩, fun e => Free.fore (by decide) (lp (Free.back (by decide) e))⟩)
        · refine Free.op rfl rfl (fun K hK => ?_)
          obtain rfl := l13 (hne 13 (by kernel_rfl))
          obtain rfl := l23 (hne 23 (by kernel_rfl))
          go_simp
          exact hK _ _ ((HI.out _ _ _).2 ⟨v13, v14, v15, v16, v17, v18, v19, v20, v21, v22, v23, v24, v25, _, v27, v28, v29, v30, v31, v32, v33, v34, v35, _, _, v38, v7, rfl, hW, Free.of_set (by decide) l0, Free.of_set (by decide) l1, Free.of_set (by decide) l2, Free.of_set (by decide) l3, Free.of_set (by decide) l4, Free.of_set (by decide) l5, Free.of_set (by decide) l6, Free.of_set (by decide) l7, Free.of_set (by decide) l8, Free.of_set (by decide) l9, Free.of_set (by decide) l10, Free.of_set (by decide) l11, Free.of_set (by decide) l12, fun _ => rfl, Free.of_set (by decide) l14, Free.of_set (by decide) l15, Free.of_set (by decide) l16, Free.of_set (by decide) l17, Free.of_set (by decide) l18, Free.of_set (by decide) l19, Free.of_set (by decide) l20, Free.of_set (by decide) l21, Free.of_set (by decide) l22, fun _ => rfl, fun _ => rfl, Free.of_set (by decide) l25, fun e => by obtain ⟨bn, cn, dn, q1, q2, q3, q4⟩ := ln (Free.back (by decide) e); exact ⟨bn, cn, dn, q1, q2, q3, fun e2 => q4 (Free.back (by decide) e2)⟩, fun e => Free.fore (by decide) (lp (Free.back (by decide) e))⟩)
        · refine Free.op rfl rfl (fun K hK => ?_)
          obtain rfl := l11 (hne 11 (by kernel_rfl))
          obtain rfl := l24 (hne 24 (by kernel_rfl))
          go_simp
          exact hK _ _ ((HI.out _ _ _).2 ⟨v13, v14, v15, v16, v17, v18, v19, v20, v21, v22, v23, _, v25, v26, v27, v28, v29, v30, v31, v32, v33, v34, v35, v36, _, _, v7, rfl, hW, Free.of_set (by decide) l0, Free.of_set (by decide) l1, Free.of_set (by decide) l2, Free.of_set (by decide) l3, Free.of_set (by decide) l4, Free.of_set (by decide) l5, Free.of_set (by decide) l6, Free.of_set (by decide) l7, Free.of_set (by decide) l8, Free.of_set (by decide) l9, Free.of_set (by decide) l10, fun _ => rfl, Free.of_set (by decide) l12, Free.of_set (by decide) l13, Free.of_set (by decide) l14, Free.of_set (by decide) l15, Free.of_set (by decide) l16, Free.of_set (by decide) l17, Free.of_set (by decide) l18, Free.of_set (by decide) l19, Free.of_set (by decide) l20, Free.of_set (by decide) l21, Free.of_set (by decide) l22, Free.of_set (by decide) l23, fun _ => rfl, fun _ => rfl, fun e => by obtain ⟨bn, cn, dn, q1, q2, q3, q4⟩ := ln (Free.back (by decide) e); exact ⟨bn, cn, dn, q1, q2, q3, fun e2 => q4 (Free.back (by decide) e2)⟩, fun e => Free.fore (by decide) (lp (Free.back (by decide) e))⟩)
        · have hs : listed.getD 27 false = false := by
            cases e : listed.getD 27 false
            · rfl
            · rw [Free.off hnl] at lp; cases lp e
          refine Free.op rfl rfl (fun K hK => ?_)
          go_simp
          exact hK _ _ ((HI.out _ _ _).2 ⟨v13, v14, v15, v16, v17, v18, v19, v20, v21, v22, v23, v24, v25, v26, v27, v28, v29, v30, v31, v32, v33, v34, v35, v36, v37, v38, _, rfl, hW.alloc hW.size _, Free.of_set (by decide) l0, Free.of_set (by decide) l1, Free.of_set (by decide) l2, Free.of_set (by decide) l3, Free.of_set (by decide) l4, Free.of_set (by decide) l5, Free.of_set (by decide) l6, Free.of_set (by decide) l7, Free.of_set (by decide) l8, Free.of_set (by decide) l9, Free.of_set (by decide) l10, Free.of_set (by decide) l11, Free.of_set (by decide) l12, Free.of_set (by decide) l13, Free.of_set (by decide) l14, Free.of_set (by decide) l15, Free.of_set (by decide) l16, Free.of_set (by decide) l17, Free.of_set (by decide) l18, Free.of_set (by decide) l19, Free.of_set (by decide) l20, Free.of_set (by decide) l21, Free.of_set (by decide) l22, Free.of_set (by decide) l23, Free.of_set (by decide) l24, Free.of_set (by decide) l25, fun _ => ⟨_, _, _, rfl, hW.size, Sp.new _ _ _, fun e => by rw [Free.set_other (by decide), hs] at e; cases e⟩, fun e => by rw [Free.set_other (by decide), hs] at e; cases e⟩)
        · have N := hid (hne 26 (by kernel_rfl))
          obtain ⟨bn, cn, dn, q1, q2, q3, q4⟩ := ln N.out
          subst q1
          have y1 := q3.fl
          have y2 := q3.fh
          have y3 := q3.lo
          have y4 := q3.hi
          refine Free.op rfl rfl (fun K hK => ?_)
          obtain rfl := l25 (hne 25 (by kernel_rfl))
          go_simp
          exact hK _ _ ((HI.out _ _ _).2 ⟨v13, v14, v15, v16, v17, v18, v19, v20, v21, v22, v23, v24, v25, v26, v27, v28, v29, v30, v31, v32, v33, v34, v35, v36, v37, _, _, rfl, (hW.setCell q2 _).setCell q2 _, Free.of_set (by decide) l0, Free.of_set (by decide) l1, Free.of_set (by decide) l2, Free.of_set (by decide) l3, Free.of_set (by decide) l4, Free.of_set (by decide) l5, Free.of_set (by decide) l6, Free.of_set (by decide) l7, Free.of_set (by decide) l8, Free.of_set (by decide) l9, Free.of_set (by decide) l10, Free.of_set (by decide) l11, Free.of_set (by decide) l12, Free.of_set (by decide) l13, Free.of_set (by decide) l14, Free.of_set (by decide) l15, Free.of_set (by decide) l16, Free.of_set (by decide) l17, Free.of_set (by decide) l18, Free.of_set (by decide) l19, Free.of_set (by decide) l20, Free.of_set (by decide) l21, Free.of_set (by decide) l22, Free.of_set (by decide) l23, Free.of_set (by decide) l24, fun _ => rfl, fun _ => ⟨_, _, _, rfl, q2, q3.set _ _, fun _ => ⟨rfl, rfl⟩⟩, fun _ => Free.fore (by decide) N.out⟩)
      case s3 =>
        intro listed a W1 hall hsz hv
        obtain ⟨v13, v14, v15, v16, v17, v18, v19, v20, v21, v22, v23, v24, v25, v26, v27, v28, v29, v30, v31, v32, v33, v34, v35, v36, v37, v38, v7, rfl, hW, l0, l1, l2, l3, l4, l5, l6, l7, l8, l9, l10, l11, l12, l13, l14, l15, l16, l17, l18, l19, l20, l21, l22, l23, l24, l25, ln, lp⟩ := (HI.out _ _ _).1 hv
        clear hv HI
        obtain ⟨bn, cn, dn, rfl, hbn, hSn, q4⟩ := ln (Free.listed_of hall hsz 26 (by decide))
        obtain ⟨rfl, rfl⟩ := q4 (Free.listed_of hall hsz 27 (by decide))
        clear ln lp
        obtain rfl := l0 (Free.listed_of hall hsz 0 (by decide))
        obtain rfl := l1 (Free.listed_of hall hsz 1 (by decide))
        obtain rfl := l2 (Free.listed_of hall hsz 2 (by decide))
        obtain rfl := l3 (Free.listed_of hall hsz 3 (by decide))
        obtain rfl := l4 (Free.listed_of hall hsz 4 (by decide))
        obtain rfl := l5 (Free.listed_of hall hsz 5 (by decide))
        obtain rfl := l6 (Free.listed_of hall hsz 6 (by decide))
        obtain rfl := l7 (Free.listed_of hall hsz 7 (by decide))
        obtain rfl := l8 (Free.listed_of hall hsz 8 (by decide))
        obtain rfl := l9 (Free.listed_of hall hsz 9 (by decide))
        obtain rfl := l10 (Free.listed_of hall hsz 10 (by decide))
        obtain rfl := l11 (Free.listed_of hall hsz 11 (by decide))
        obtain rfl := l12 (Free.listed_of hall hsz 12 (by decide))
        obtain rfl := l13 (Free.listed_of hall hsz 13 (by decide))
        obtain rfl := l14 (Free.listed_of hall hsz 14 (by decide))
        obtain rfl := l15 (Free.listed_of hall hsz 15 (by decide))
        obtain rfl := l16 (Free.listed_of hall hsz 16 (by decide))
        obtain rfl := l17 (Free.listed_of hall hsz 17 (by decide))
        obtain rfl := l18 (Free.listed_of hall hsz 18 (by decide))
        obtain rfl := l19 (Free.listed_of hall hsz 19 (by decide))
        obtain rfl := l20 (Free.listed_of hall hsz 20 (by decide))
        obtain rfl := l21 (Free.listed_of hall hsz 21 (by decide))
        obtain rfl := l22 (Free.listed_of hall hsz 22 (by decide))
        obtain rfl := l23 (Free.listed_of hall hsz 23 (by decide))
        obtain rfl := l24 (Free.listed_of hall hsz 24 (by decide))
        obtain rfl := l25 (Free.listed_of hall hsz 25 (by decide))
        clear hall hsz
        have y1 := hSn.lo
        have y2 := hSn.hi
        have hown1 := owns_step hown hW
        have hB1 := hB.trans (hW.mono hB.size)
        have hS1 := hS.step hW
        have hsz := hB1.size
        have hz := hS1.lt
        have HO := hid hown1
        have HB := hid hB1
        have HS := hid hS1
        clear hown hB hS hW hSn hB1 hS1
        go_wp2_with (at_builtin; refine wpList_append_own _ rfl _ _ 26 rfl (w.heap.size + 1) 24 i0 (.agg #[.int .i64 0, .int .i64 0]) 2 16 Tryz.underlying26 hi0 hz0 hz1 hz2 rfl (by decide) _ _ _ rfl (hown1.alloc _) _ 1 1 [.int .i64 (lo + ((hi - lo) * (k : Int)).tdiv (n : Int)), .int .i64 (lo + ((hi - lo) * ((k : Int) + 1)).tdiv (n : Int))] rfl rfl (cell_two_new _ _ _ _) (by simp [Value.oneCell']) (by unfold maxLen; omega) (by omega) (by simp; omega) ?_; intro v' w1 hown' hgrow _)
        have HN := hid hown'
        have hb2 := (Below.refl (w.heap.size + 1) (W1.alloc (.cells #[.int .i64 (lo + ((hi - lo) * (k : Int)).tdiv (n : Int)), .int .i64 (lo + ((hi - lo) * ((k : Int) + 1)).tdiv (n : Int))] 24))).grown hgrow (by simp; omega) (fun j e => owns_from HO.out j e)
        refine ⟨⟨k + 1, by omega, by simp, ?_, (HB.out.alloc hsz _).trans (hb2.mono (by omega)), (HS.out.alloc _).below' hb2 (by omega)⟩, by simp [intOf]; omega⟩
        rw [HC.out, cellsOf_append]
        exact HN.out

    · obtain rfl : k = n := by omega
      have hli : Ls wr.heap.size wr _ (Um.cuts lo hi k k) := ls_owns (by rw [Um.cuts_length]; exact hown)
      have HL := hid hli
      clear hown hli
      go_wp2
      go_returns
      exact ⟨_, rfl, HL.out, hB⟩

set_option maxHeartbeats 4000000 in
/-- Of two lists that are the same. -/
theorem box_same (q : List (Int × Int)) (u v : Value) (w : World) (hu : Ls w.heap.size w u q) (hv : Ls w.heap.size w v q) (h32 : q.length ≤ 1000) :
    Calls Tryz.prog 9 #[u, v] w fun e w' => e = .returned (.bool true) ∧ Below w.heap.size w w' := by
  by_cases h0 : q = []
  · subst h0
    obtain ⟨a1, c1, rfl, -, -⟩ := hu
    obtain ⟨a2, c2, rfl, -, -⟩ := hv
    have z : ([] : List (Int × Int)).length = 0 := rfl
    rw [z]
    go_enter Tryz.func9, Tryz.ntmps9
    go_wp2
    go_rounds 1
    go_returns
    exact ⟨rfl, Below.refl _ _⟩
  · obtain ⟨b1, o1, c1, rfl, -, l1, hc1⟩ := hu.out h0
    obtain ⟨b2, o2, c2, rfl, -, l2, hc2⟩ := hv.out h0
    have H1 := hid hc1
    have H2 := hid hc2
    clear hc1 hc2 h0 hu hv
    go_enter Tryz.func9, Tryz.ntmps9
    go_wp2
    go_loopw [5] (fun i wr => ∃ k : Nat, k ≤ q.length ∧ i = .int .i64 k ∧ Below w.heap.size w wr) (fun i _ => q.length - (intOf i).toNat)
    case atStart => exact ⟨0, Nat.zero_le _, rfl, Below.refl _ _⟩
    case round =>
      obtain ⟨k, hk, rfl, hB⟩ := hrel
      by_cases hkl : k < q.length
      · have x1 := (hB.cell (p := ⟨b1, o1 + k * 2, none⟩) l1).trans (H1.out k hkl).1
        have x2 := (hB.cell (p := ⟨b1, o1 + k * 2 + 1, none⟩) l1).trans (H1.out k hkl).2
        have x3 := (hB.cell (p := ⟨b2, o2 + k * 2, none⟩) l2).trans (H2.out k hkl).1
        have x4 := (hB.cell (p := ⟨b2, o2 + k * 2 + 1, none⟩) l2).trans (H2.out k hkl).2
        have hkk : (k : Int) < (q.length : Int) := by omega
        generalize (q[k]?.getD (0, 0)).1 = x at *
        generalize (q[k]?.getD (0, 0)).2 = y at *
        clear H1 H2
        go_wp2
        go_quiet (fail)
        go_wp2
        exact ⟨⟨k + 1, by omega, rfl, below_drewN hB _⟩, by simp [intOf]; omega⟩
      · obtain rfl : k = q.length := by omega
        clear H1 H2
        go_wp2
        go_returns
        exact ⟨rfl, hB⟩
end Go.Proofs.YthoiiffdigkodaaGreatDoor
