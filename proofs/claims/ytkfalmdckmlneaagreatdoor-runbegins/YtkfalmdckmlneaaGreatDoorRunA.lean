/-
  What package run tells of one span, and how spans are written.
-/
import Derived.Test.YtkfalmdckmlneaaGreatDoorRunW
namespace Go.Proofs.YtkfalmdckmlneaaGreatDoor
set_option linter.unusedSimpArgs false
open Go.RowKit

theorem ls_lit (w : World) (lo hi : Int) {B : Nat} (hB : B = w.heap.size) : Ls (w.alloc (.cells #[.int .i64 lo, .int .i64 hi] 29)).heap.size (w.alloc (.cells #[.int .i64 lo, .int .i64 hi] 29)) (.slice (some ⟨B, 0, none⟩) 1 1) [(lo, hi)] := by
  subst hB
  have h := Sp.new w lo hi
  refine ⟨_, _, rfl, Nat.le_refl _, .inr ⟨w.heap.size, 0, rfl, by simp, fun j hj => ?_⟩⟩
  obtain rfl : j = 0 := by simpa using hj
  exact ⟨h.lo, h.hi⟩
theorem aloneR_any (lo hi k : Int) (w : World) :
    Calls Tryz.prog 80 #[.agg #[.int .i64 lo, .int .i64 hi], errV k] w fun e w' => ∃ u, e = .returned (.tuple #[u, errV k]) ∧ Ls w'.heap.size w' u (Um.oneR (lo, hi, k)).1 ∧ Below w.heap.size w w' := by
  have q1 := errG
  have q2 := errGn
  have q3 := errE
  have q4 := errN
  by_cases h : k = 0
  · subst h
    have HL := hid (ls_lit (w.alloc (.cells #[.int .i64 lo, .int .i64 hi] 29)) lo hi (B := w.heap.size + 1) (by simp))
    rw [errV_none]
    go_enter Tryz.func80, Tryz.ntmps80
    go_wp2
    go_ret2
    exact ⟨_, rfl, HL.out, by go_grown⟩
  · have HE : Hid ((Um.oneR (lo, hi, k)).1 = []) := hid (by unfold Um.oneR; rw [if_neg h])
    rw [HE.out, errV_some h]
    clear h HE
    go_enter Tryz.func80, Tryz.ntmps80
    go_wp2
    go_ret2
    exact ⟨_, rfl, Ls.nil _ _, by go_grown⟩

/-- A span that may be is written. -/
theorem print_may (n : Int) (w : World) (hp : HasPow w) (h : Um.may n = true) : Calls Tryz.prog 109 #[.int .i64 n] w fun e w' => e = .returned (.tuple #[strV (Um.printR n), .nilIface]) ∧ Below w.heap.size w w' :=
  (print_any n w hp).mono fun e w' hh => ⟨by rw [hh.1]; unfold printT printE; rw [if_pos h, if_pos h]; rfl, hh.2⟩
set_option maxHeartbeats 1000000 in
theorem wspan_any (lo hi : Int) (w : World) (hp : HasPow w) (h1 : Um.may lo = true) (h2 : Um.may hi = true) :
    Calls Tryz.prog 71 #[.agg #[.int .i64 lo, .int .i64 hi]] w fun e w' => e = .returned (.tuple #[strV (Um.textR (lo, hi)), .nilIface]) ∧ Below w.heap.size w w' := by
  have H1 := fun w h => hid (print_may lo w h h1)
  have H2 := fun w h => hid (print_may hi w h h2)
  have HP := hid hp
  have e1 : ((⟨(Um.printR lo).toArray⟩ : ByteArray) ++ ⟨#[44]⟩) ++ ⟨(Um.printR hi).toArray⟩ = ⟨(Um.textR (lo, hi)).toArray⟩ := by
    rw [show (⟨#[44]⟩ : ByteArray) = ⟨[44].toArray⟩ from rfl, str_join, str_join]; rfl
  have hF := Fr.push (Fr.start w) lo hi (b := w.heap.size) rfl
  have hpA : HasPow (w.alloc (.cells #[.int .i64 lo, .int .i64 hi] 29)) := hp.below (by go_grown)
  have HE := hid e1
  have l1 := print_may lo
  have n1 : (Um.printR lo).length ≤ 12 := printR_length h1
  have n2 : (Um.printR hi).length ≤ 12 := printR_length h2
  have x0l := (hF.at 0 rfl).lo; have x0h := (hF.at 0 rfl).hi
  clear l1 h1 h2 hp e1
  generalize Um.printR lo = A at *
  generalize Um.printR hi = C at *
  go_enter Tryz.func71, Tryz.ntmps71
  go_upto_region 4 with (go_at_call 109; refine (H1 _ hpA).out.mono ?_; rintro e w1 ⟨rfl, hb⟩; replace hF := hF.step hb; clear hb x0l x0h; have x0l := (hF.at 0 rfl).lo; have x0h := (hF.at 0 rfl).hi; have hp1 := HP.out.below hF.below)
  go_wp2_with (go_at_call 109; refine (H2 _ hp1).out.mono ?_; rintro e w2 ⟨rfl, hb⟩; replace hF := hF.step hb; clear hb)
  go_ret2
  refine ⟨?_, hF.below⟩
  show Ending.returned (.tuple #[.string ((⟨A.toArray⟩ : ByteArray) ++ ⟨#[44]⟩ ++ ⟨C.toArray⟩), .nilIface]) = _
  rw [HE.out]

/-- A row of texts that make makes and a loop fills. -/
structure RowT (w : World) (n B : Nat) (wr : World) (l : List (List UInt8)) : Prop where
  below : Below w.heap.size w wr
  most : l.length ≤ n
  row : wr.ownsRow w.heap.size 9 1 (.slice (some ⟨B, 0, none⟩) n n) n ((l ++ List.replicate (n - l.length) []).map strV)
theorem empty_texts (n : Nat) : (madeCells #[Value.string ⟨#[]⟩] (n * 1)).toList = (List.replicate n []).map strV := by
  apply List.ext_getElem?
  intro i
  by_cases h : i < n
  · simp [madeCells, h, Nat.mod_one]
  · have e1 : (madeCells #[Value.string ⟨#[]⟩] (n * 1)).toList[i]? = none := List.getElem?_eq_none (by simp [madeCells]; omega)
    have e2 : ((List.replicate n ([] : List UInt8)).map strV)[i]? = none := List.getElem?_eq_none (by simp; omega)
    rw [e1, e2]
theorem RowT.start {w w0 : World} {n B : Nat} (hg : w.grownBy w0 none)
    (hr : w0.ownsRow w.heap.size 9 1 (.slice (some ⟨B, 0, none⟩) n n) n (madeCells (Value.string ⟨#[]⟩).cells (n * 1)).toList) : RowT w n B w0 [] := by
  refine ⟨(Below.refl w.heap.size w).grown hg (Nat.le_refl _) (fun j e => by cases e), Nat.zero_le _, ?_⟩
  have e : (Value.string ⟨#[]⟩).cells = #[Value.string ⟨#[]⟩] := rfl
  rw [e, empty_texts] at hr
  exact hr
theorem RowT.step {w wr w' : World} {n B : Nat} {l : List (List UInt8)} (h : RowT w n B wr l) (hb : Below wr.heap.size wr w') : RowT w n B w' l :=
  ⟨h.below.trans (hb.mono h.below.size), h.most, owns_keep h.row hb⟩
theorem RowT.ge {w wr : World} {n B : Nat} {l : List (List UInt8)} (h : RowT w n B wr l) : w.heap.size ≤ B := own_from h.row B rfl
theorem RowT.at0 {w wr : World} {n B : Nat} {l : List (List UInt8)} (h : RowT w n B wr l) {k : Nat} (hk : k = l.length) (hn : k < n) : wr.cell? ⟨B, k, none⟩ = some (strV []) := by
  subst hk
  rw [h.row.cellAt l.length (by omega), List.getElem?_map, List.getElem?_append_right (Nat.le_refl _), Nat.sub_self]
  simp [show 0 < n - l.length by omega]
theorem set_nextT {α : Type} (l : List α) (z a : α) (m : Nat) : (l ++ List.replicate (m + 1) z).set l.length a = l ++ [a] ++ List.replicate m z := by
  rw [List.set_append_right _ _ (Nat.le_refl _), Nat.sub_self, List.replicate_succ, List.set_cons_zero, List.append_assoc]
  rfl
theorem RowT.put {w wr : World} {n B : Nat} {l : List (List UInt8)} (h : RowT w n B wr l) {k : Nat} (hk : k = l.length) (hn : k < n) (c : List UInt8) :
    RowT w n B (wr.setCell ⟨B, k, none⟩ (strV c)) (l ++ [c]) := by
  subst hk
  have g := h.ge
  have s1 := (h.row.stored l.length (strV c)).1
  refine ⟨h.below.setCell (by show w.heap.size ≤ B; omega) _, by rw [List.length_append]; show l.length + 1 ≤ n; omega, ?_⟩
  rw [← List.map_set, show n - l.length = (n - (l.length + 1)) + 1 by omega, set_nextT] at s1
  rw [List.length_append]
  exact s1
theorem RowT.all {w wr : World} {n B : Nat} {l : List (List UInt8)} (h : RowT w n B wr l) (hl : l.length = n) : ∀ (j : Nat) x, (l.map fun t => (⟨t.toArray⟩ : ByteArray))[j]? = some x → wr.cell? ⟨B, 0 + j, none⟩ = some (.string x) := by
  subst hl
  have hr := h.row
  rw [Nat.sub_self, List.replicate_zero, List.append_nil] at hr
  intro j x hx
  rw [List.getElem?_map] at hx
  obtain ⟨t, ht, rfl⟩ := Option.map_eq_some_iff.1 hx
  have hj : j < l.length := (List.getElem?_eq_some_iff.1 ht).1
  rw [Nat.zero_add, hr.cellAt j (by omega), List.getElem?_map, ht]
  rfl

set_option maxRecDepth 100000 in
set_option maxHeartbeats 4000000 in
theorem rwritten_any (v : Value) (l : List (Int × Int)) (w : World) (hp : HasPow w) (hl : Ls w.heap.size w v l) (h32 : l.length ≤ 32) (hm : ∀ i, i < l.length → Um.may (l[i]?.getD (0, 0)).1 = true ∧ Um.may (l[i]?.getD (0, 0)).2 = true) :
    Calls Tryz.prog 38 #[v] w fun e w' => e = .returned (.tuple #[strV (Um.rootsR l), .nilIface]) ∧ Below w.heap.size w w' := by
  by_cases h0 : l = []
  · subst h0
    obtain ⟨a, cap, rfl, -⟩ := hl
    have e : ((([] : List (Int × Int)).length : Nat) : Int) = 0 := rfl
    clear hp hm
    go_enter Tryz.func38, Tryz.ntmps38
    go_wp2
    go_ret2
    exact ⟨rfl, Below.refl _ _⟩
  · obtain ⟨b, off, cap, rfl, hcap, hlt, hc⟩ := hl.out h0
    have hpos : 0 < l.length := List.length_pos_iff.2 h0
    have HC := hid hc
    have HM := hid hm
    have HP := hid hp
    have H0 := hid h0
    obtain ⟨i0, hi0, hz0, hz1, hz2⟩ := info_parts info_text
    have n0 : ((l.length : Int) == 0) = false := by simp; omega
    have n1 : ¬ (l.length : Int) = 0 := by omega
    clear hl hc hm hp h0
    generalize hn : l.length = n at *
    replace hn := hid hn
    go_enter Tryz.func38, Tryz.ntmps38
    go_wp2_with (at_make; refine wpList_make_full _ rfl _ _ 23 rfl w.heap.size 9 i0 (.string ⟨#[]⟩) 1 Tryz.underlying23 hi0 hz0 hz1 .i64 .i64 _ _ n rfl rfl (by first | rfl | omega) (by first | rfl | omega) (by rw [hz2]; omega) (by unfold maxLen; omega) (by simp) ?_; intro w0 hown hgrow)
    have hR := RowT.start hgrow hown
    clear hown hgrow
    go_loopw [17] (fun i wr => ∃ k : Nat, k ≤ n ∧ i = .int .i64 k ∧ RowT w n w.heap.size wr ((l.take k).map Um.textR)) (fun i _ => n - (intOf i).toNat)
    case atStart => exact ⟨0, Nat.zero_le _, rfl, hR⟩
    case round =>
      clear hR
      obtain ⟨k, hk, rfl, hR⟩ := hrel
      have hlen : ((l.take k).map Um.textR).length = k := by rw [List.length_map, List.length_take, hn.out]; omega
      by_cases hkn : k < n
      · obtain ⟨c0, c1⟩ := HC.out k hkn
        obtain ⟨m0, m1⟩ := HM.out k hkn
        have hB := hR.below
        have d0 := (hB.cell (p := ⟨b, off + k * 2, none⟩) hlt).trans c0
        have d1 := (hB.cell (p := ⟨b, off + k * 2 + 1, none⟩) hlt).trans c1
        have HR2 : Hid ((l.take (k + 1)).map Um.textR = (l.take k).map Um.textR ++ [Um.textR (l[k]?.getD (0, 0))]) := hid (by
          rw [List.take_add_one, List.getElem?_eq_getElem (by rw [hn.out]; exact hkn), List.map_append]; rfl)
        have hs0 := hB.size
        have hlb : b < wr.heap.size := by omega
        have hpw := HP.out.below hB
        have hpA : HasPow (wr.alloc (.cells #[.int .i64 (l[k]?.getD (0, 0)).1, .int .i64 (l[k]?.getD (0, 0)).2] 29)) := hpw.below (by go_grown)
        have HW := hid (wspan_any (l[k]?.getD (0, 0)).1 (l[k]?.getD (0, 0)).2 _ hpA m0 m1)
        replace hR := hR.step ((Below.refl _ _).alloc (Nat.le_refl _) (.cells #[.int .i64 (l[k]?.getD (0, 0)).1, .int .i64 (l[k]?.getD (0, 0)).2] 29))
        have hHL := hid hlen
        clear c0 c1 m0 m1 hB hpw hpA hlen hs0
        generalize l[k]?.getD (0, 0) = s at *
        go_wp2_with (go_at_call 71; refine HW.out.mono ?_; rintro e w1 ⟨rfl, hb⟩; replace hR := hR.step hb; clear hb; have z0 := hR.at0 (k := k) hHL.out.symm hkn; have z1 := hR.row.frozenAt k)
        go_roundw
        case rel => exact ⟨k + 1, by omega, by go_num, by rw [HR2.out]; exact hR.put hHL.out.symm hkn _⟩
        case measure => simp [intOf]; omega
      · obtain rfl : k = n := by omega
        have HJ := fun (hb : w.heap.size < wr.heap.size) => hid (Tryz.strings_Join w.heap.size 0 k (l.map fun s => (⟨(Um.textR s).toArray⟩ : ByteArray)) ⟨#[32]⟩ wr (by
            have := hR.all hlen
            rw [List.take_of_length_le (by rw [hn.out]; exact Nat.le_refl _), List.map_map] at this
            exact this) hb (by rw [List.length_map, hn.out]; omega) (by rw [List.length_map, hn.out]; exact Nat.le_refl _) (by
            rw [List.map_map]
            show (Lib.join (l.map Um.textR) [32]).length ≤ _
            rw [Um.join_all H0.out]
            unfold Um.rootsR
            rw [if_neg H0.out]
            have := Um.join_length (l := l) l.length (by rw [hn.out]; exact HM.out)
            rw [hn.out] at this ⊢
            omega))
        have hb : w.heap.size < wr.heap.size := by
          rcases hR.row.2 with ⟨h, -⟩ | ⟨g, c, cur, e, -, hg, -⟩
          · cases h
          · cases e; exact (Array.getElem?_eq_some_iff.1 hg).1
        have HJ2 : Hid (Calls Tryz.prog 72 #[.slice (some ⟨w.heap.size, 0, none⟩) k k, .string ⟨#[32]⟩] wr fun e w' => e = .returned (strV (Um.rootsR l)) ∧ Below wr.heap.size wr w') := by
          have h := (HJ hb).out
          rw [List.length_map, hn.out, List.map_map] at h
          refine hid (h.mono fun e w' hh => ⟨?_, hh.2⟩)
          rw [hh.1]
          show Ending.returned (strV (Lib.join (l.map Um.textR) [32])) = _
          rw [Um.join_all H0.out]
        have hBw := hid hR.below
        clear HJ hb hlen hR
        go_wp2_with (go_at_call 72; refine HJ2.out.mono ?_; rintro e w1 ⟨rfl, hb⟩)
        go_ret2
        exact ⟨rfl, hBw.out.trans (hb.mono hBw.out.size)⟩
end Go.Proofs.YtkfalmdckmlneaaGreatDoor
