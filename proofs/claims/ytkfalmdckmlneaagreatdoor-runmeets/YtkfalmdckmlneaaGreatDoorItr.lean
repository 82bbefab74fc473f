/-
  strings.Lines and strings.SplitSeq at one byte: what their closures bring to a loop, piece by piece.
-/
import Derived.Test.YtkfalmdckmlneaaGreatDoorRv
import Derived.Test.YtkfalmdckmlneaaGreatDoorZask
import Derived.Test.YtkfalmdckmlneaaGreatDoorLx
import Derived.Test.YtkfalmdckmlneaaGreatDoorShelf
import Derived.Shelf.Abstract
import Derived.Shelf.RegionOpen
import Derived.OwnWalkIn
import Derived.TacticsInMore
import Derived.LoopNIn
import Derived.LoopIn
namespace Go.Proofs.YtkfalmdckmlneaaGreatDoor
set_option linter.unusedSimpArgs false
open Go.RowKit Go.Shelf
attribute [local go_sem] Oper.semAt_some

/-- A text that is not too long. -/
abbrev Str := { x : ByteArray // x.size ≤ 3000 }
/-- How much of the text in block V is left. -/
def leftIn (V : Nat) (w : World) : Nat := match w.cell? ⟨V, 0, none⟩ with | some (.string s) => s.size | _ => 0
theorem left_is {V : Nat} {w : World} {s : ByteArray} (h : w.cell? ⟨V, 0, none⟩ = some (.string s)) : leftIn V w = s.size := by unfold leftIn; rw [h]
theorem box_same {V m k : Nat} {A B : World} {T : TypeId} {v : Value} (h : Boxed A k T v) (hs : Rv.Same V m A B) (h1 : V ≤ k) (h2 : k < V + m) : Boxed B k T v := (hs k h1 h2).trans h
theorem box_below {B : Nat} {w w' : World} {k : Nat} {T : TypeId} {v : Value} (h : Boxed w k T v) (hb : Below B w w') (hk : k < B) : Boxed w' k T v := (hb.block k hk).trans h

theorem lines_make (t : ByteArray) (w : World) :
    Calls Tryz.prog 10 #[.string t] w fun e w' => e = .returned (.func (.func 32) #[] #[.pointer (some ⟨w.heap.size, 0, none⟩)]) ∧ w' = w.alloc (.cells #[.string t] 9) := by
  go_enter Tryz.func10, Tryz.ntmps10
  go_wp2
  go_ret
  exact ⟨rfl, rfl⟩
theorem splitSeq_make (t c : ByteArray) (k : Int) (w : World) :
    Calls Tryz.prog 157 #[.string t, .string c, .int .i64 k] w fun e w' => e = .returned (.func (.func 164) #[] #[.pointer (some ⟨w.heap.size + 1, 0, none⟩), .pointer (some ⟨w.heap.size, 0, none⟩), .pointer (some ⟨w.heap.size + 1 + 1, 0, none⟩)]) ∧ w' = ((w.alloc (.cells #[.string t] 9)).alloc (.cells #[.string c] 9)).alloc (.cells #[.int .i64 k] 3) := by
  go_enter Tryz.func157, Tryz.ntmps157
  go_wp2
  go_ret
  exact ⟨rfl, rfl⟩
theorem split_make (t c : ByteArray) (w : World) :
    Calls Tryz.prog 137 #[.string t, .string c] w fun e w' => e = .returned (.func (.func 164) #[] #[.pointer (some ⟨w.heap.size + 1, 0, none⟩), .pointer (some ⟨w.heap.size, 0, none⟩), .pointer (some ⟨w.heap.size + 1 + 1, 0, none⟩)]) ∧ w' = ((w.alloc (.cells #[.string t] 9)).alloc (.cells #[.string c] 9)).alloc (.cells #[.int .i64 0] 3) := by
  go_enter Tryz.func137, Tryz.ntmps137
  go_wp2_with (go_at_call 157; refine (splitSeq_make _ _ _ _).mono ?_; rintro e w1 ⟨rfl, rfl⟩)
  go_ret
  exact ⟨rfl, rfl⟩

/-- The line in a piece. -/
def lineOf (x : Str) : List UInt8 := Lib.trimSuffix x.1.data.toList [10]

set_option maxRecDepth 100000 in
set_option maxHeartbeats 2000000 in
theorem lines_owes (n : Nat) (hn : 1 ≤ n) (V : Nat) (t : ByteArray) (ht : t.size ≤ 3000) (w : World) (hV : Boxed w V 9 (.string t)) :
    Rv.Owes Fence.wide n Tryz.prog 32 #[.pointer (some ⟨V, 0, none⟩)] (fun x : Str => #[Value.string x.1]) V 1 (fun xs => xs.map lineOf = Um.linesR t.data.toList) (fun _ => True) (Um.linesR t.data.toList).length w := by
  intro l J Jx W hW hJ hD hY h0
  have HY := hid hY
  have HJ := hid hJ
  have HD := hid hD
  clear hY hJ hD
  replace hV := box_below hV hW hV.lt
  clear hW
  refine callsIn_of_wp Tryz.func32 rfl trivial ?_ rfl
  simp only [Tryz.ntmps32, List.size_toArray, List.length_cons, List.length_nil, Nat.reduceAdd, Nat.reduceSub, Array.replicate_succ, Array.replicate_zero, List.push_toArray, List.append_toArray, List.nil_append, List.cons_append]
  gi_wp2
  gi_loopw [3] (fun _ wr => ∃ (pre : List Str) (s : ByteArray), Boxed wr V 9 (.string s) ∧ Hid (s.size ≤ 3000) ∧ Hid (Um.linesR t.data.toList = pre.map lineOf ++ Um.linesR s.data.toList) ∧ J pre wr)
    (fun _ wr => leftIn V wr)
  case atStart => exact ⟨[], t, hV, hid ht, hid rfl, h0⟩
  case round =>
    obtain ⟨pre, s, hb, hs, hl, hJs⟩ := hrel
    have c0 := hb.cell
    have f0 := hb.frozen
    rcases Nat.eq_zero_or_pos s.size with h0s | hps
    · have t0 : decide ((0 : Int) < (s.size : Int)) = false := decide_eq_false (by omega)
      have el : Um.linesR s.data.toList = [] := by
        have : s.data.toList = [] := List.length_eq_zero_iff.1 (by rw [← str_size, str_back]; exact h0s)
        rw [this]; rfl
      have HL := hl.out
      rw [el, List.append_nil] at HL
      replace HL := hid HL
      clear el
      gi_wp2
      go_end0
      exact ⟨⟨_, rfl⟩, .inl ⟨pre, HL.out.symm, hJs⟩⟩
    · have t0 : (0 : Int) < (s.size : Int) := by omega
      have t00 : 0 < s.size := hps
      rcases Um.split_byte 10 s.data.toList with hno | ⟨a, b, hab, ha⟩
      · have hi : ∀ w, Hid (Calls Tryz.prog 33 #[.string s, .int .u8 10] w fun e w' => e = .returned (.int .i64 (-1)) ∧ w' = w) := fun w => hid ((Tryz.strings_IndexByte s 10 w).mono fun e w' h => ⟨by rw [h.1, show (10 : Int).toNat.toUInt8 = 10 by decide, Um.ib_none _ hno], h.2⟩)
        have ne : s.data.toList ≠ [] := fun e => by
          have h9 : s.data.toList.length = s.size := by rw [← str_size, str_back]
          rw [e] at h9
          simp at h9
          omega
        have HL := hl.out
        rw [Um.lines_one hno ne] at HL
        have hsn : lineOf ⟨s, hs.out⟩ = s.data.toList := Um.trim_last hno
        obtain ⟨fn, tmps, assign, body, hy, hR⟩ := HY.out pre ⟨s, hs.out⟩ (wr.setCell ⟨V, 0, none⟩ (.string ⟨#[]⟩)) (HJ.out _ _ _ hJs) (by rw [HL]; simp)
        have hb2 := hid (hb.set (.string ⟨#[]⟩))
        have HL2 : Hid (Um.linesR t.data.toList = (pre ++ [(⟨s, hs.out⟩ : Str)]).map lineOf ++ Um.linesR (⟨#[]⟩ : ByteArray).data.toList) := hid (by rw [HL, List.map_append, List.map_cons, List.map_nil, hsn]; simp [Um.lines_nil])
        clear HL hno ne hsn
        dsimp only at hy
        gi_wp2_with (refine ⟨trivial, ?_⟩; gi_at_call 33; refine (callsIn_wide.2 (hi _).out).mono ?_; rintro e w1 ⟨rfl, rfl⟩)
        refine hR.mono ?_
        rintro e W3 (⟨rfl, hJ3, hk3⟩ | ⟨rfl, hJx3⟩)
        · gi_wp2
          go_roundw
          case rel => exact ⟨pre ++ [⟨s, hs.out⟩], ⟨#[]⟩, box_same hb2.out hk3 (Nat.le_refl _) (by omega), hid (by decide), HL2, hJ3⟩
          case measure =>
            rw [left_is (box_same hb2.out hk3 (Nat.le_refl _) (by omega)).cell, left_is c0]
            exact hps
        · gi_wp2
          refine bodyPost_ret (results_none rfl _ _ _) rfl ?_
          exact ⟨⟨_, rfl⟩, .inr ⟨_, trivial, hJx3⟩⟩
      · have hi : ∀ w, Hid (Calls Tryz.prog 33 #[.string s, .int .u8 10] w fun e w' => e = .returned (.int .i64 (a.length : Int)) ∧ w' = w) := fun w => hid ((Tryz.strings_IndexByte s 10 w).mono fun e w' h => ⟨by rw [h.1, show (10 : Int).toNat.toUInt8 = 10 by decide, hab, Um.ib_byte b a ha], h.2⟩)
        have hsz : s.size = a.length + 1 + b.length := by
          have h9 : s.data.toList.length = s.size := by rw [← str_size, str_back]
          rw [hab] at h9
          simp at h9
          omega
        have e1 : (s.extract 0 (a.length + 1)) = ⟨(a ++ [10]).toArray⟩ := by
          rw [str_piece, hab]
          congr 1
          rw [List.drop_zero, show a ++ 10 :: b = (a ++ [10]) ++ b by simp, List.take_left' (by simp)]
        have e2 : (s.extract (a.length + 1) s.size) = ⟨b.toArray⟩ := by
          rw [str_piece, hab]; congr 1
          rw [List.take_of_length_le (by simp; omega)]; simp
        have x1 : (⟨(a ++ [10]).toArray⟩ : ByteArray).size ≤ 3000 := by rw [str_size]; have := hs.out; simp; omega
        have HL := hl.out
        rw [hab, Um.lines_cons ha] at HL
        have hsn : lineOf ⟨⟨(a ++ [10]).toArray⟩, x1⟩ = a := by unfold lineOf; simp only [List.toList_toArray]; exact Um.trim_line
        obtain ⟨fn, tmps, assign, body, hy, hR⟩ := HY.out pre ⟨⟨(a ++ [10]).toArray⟩, x1⟩ (wr.setCell ⟨V, 0, none⟩ (.string ⟨b.toArray⟩)).drew (HD.out _ _ (HJ.out _ _ _ hJs)) (by rw [HL]; simp)
        have hb2 := hid (hb.set (.string ⟨b.toArray⟩))
        have HL2 : Hid (Um.linesR t.data.toList = (pre ++ [(⟨⟨(a ++ [10]).toArray⟩, x1⟩ : Str)]).map lineOf ++ Um.linesR (⟨b.toArray⟩ : ByteArray).data.toList) := hid (by rw [HL, List.map_append, List.map_cons, List.map_nil, hsn]; simp)
        have HB : Hid (b.length < s.size) := hid (by omega)
        have HX : Hid ((⟨b.toArray⟩ : ByteArray).size ≤ 3000) := hid (by rw [str_size]; have := hs.out; omega)
        have i0 : (0 : Int) ≤ (a.length : Int) := by omega
        have i1 : (a.length : Int) + 1 ≤ (s.size : Int) := by omega
        have i2 : a.length + 1 ≤ s.size := by omega
        have i3 : wrap64 ((a.length : Int) + 1) = (a.length : Int) + 1 := w64 (by omega) (by have := hs.out; omega)
        clear HL hab ha hsn hsz
        dsimp only at hy
        gi_wp2_with (refine ⟨trivial, ?_⟩; gi_at_call 33; refine (callsIn_wide.2 (hi _).out).mono ?_; rintro e w1 ⟨rfl, rfl⟩)
        gi_region
        gi_wp2
        refine hR.mono ?_
        rintro e W3 (⟨rfl, hJ3, hk3⟩ | ⟨rfl, hJx3⟩)
        · gi_wp2
          go_roundw
          case rel => exact ⟨pre ++ [⟨⟨(a ++ [10]).toArray⟩, x1⟩], ⟨b.toArray⟩, box_same hb2.out hk3 (Nat.le_refl _) (by omega), HX, HL2, hJ3⟩
          case measure =>
            rw [left_is (box_same hb2.out hk3 (Nat.le_refl _) (by omega)).cell, left_is c0, str_size]
            exact HB.out
        · gi_wp2
          refine bodyPost_ret (results_none rfl _ _ _) rfl ?_
          exact ⟨⟨_, rfl⟩, .inr ⟨_, trivial, hJx3⟩⟩

/-- The bytes of a piece. -/
def bytesOf (x : Str) : List UInt8 := x.1.data.toList

set_option maxRecDepth 100000 in
set_option maxHeartbeats 2000000 in
theorem split_owes (n : Nat) (hn : 1 ≤ n) (V : Nat) (t : ByteArray) (ht : t.size ≤ 3000) (w : World) (hV : Boxed w V 9 (.string t)) (hV1 : Boxed w (V + 1) 9 (.string ⟨#[44]⟩)) (hV2 : Boxed w (V + 1 + 1) 3 (.int .i64 0)) :
    Rv.Owes Fence.wide n Tryz.prog 164 #[.pointer (some ⟨V + 1, 0, none⟩), .pointer (some ⟨V, 0, none⟩), .pointer (some ⟨V + 1 + 1, 0, none⟩)] (fun x : Str => #[Value.string x.1]) V 3 (fun xs => xs.map bytesOf = Um.cutL 44 t.data.toList) (fun xs => ∃ r, Um.cutL 44 t.data.toList = xs.map bytesOf ++ r) (Um.cutL 44 t.data.toList).length w := by
  intro l J Jx W hW hJ hD hY h0
  have HY := hid hY
  have HJ := hid hJ
  clear hY hJ hD
  replace hV := box_below hV hW hV.lt
  replace hV1 := box_below hV1 hW hV1.lt
  replace hV2 := box_below hV2 hW hV2.lt
  clear hW
  have k1 := hV1.cell
  refine callsIn_of_wp Tryz.func164 rfl trivial ?_ rfl
  simp only [Tryz.ntmps164, List.size_toArray, List.length_cons, List.length_nil, Nat.reduceAdd, Nat.reduceSub, Array.replicate_succ, Array.replicate_zero, List.push_toArray, List.append_toArray, List.nil_append, List.cons_append]
  gi_wp2
  gi_loopw [7] (fun _ wr => ∃ (pre : List Str) (s : ByteArray), Boxed wr V 9 (.string s) ∧ Boxed wr (V + 1) 9 (.string ⟨#[44]⟩) ∧ Boxed wr (V + 1 + 1) 3 (.int .i64 0) ∧ Hid (s.size ≤ 3000) ∧ Hid (Um.cutL 44 t.data.toList = pre.map bytesOf ++ Um.cutL 44 s.data.toList) ∧ J pre wr)
    (fun _ wr => leftIn V wr)
  case atStart => exact ⟨[], t, hV, hV1, hV2, hid ht, hid rfl, h0⟩
  case round =>
    obtain ⟨pre, s, hb, hb1, hb2, hs, hl, hJs⟩ := hrel
    have c0 := hb.cell
    have f0 := hb.frozen
    have c1 := hb1.cell
    have c2 := hb2.cell
    rcases Um.split_byte 44 s.data.toList with hno | ⟨a, b, hab, ha⟩
    · have hi : ∀ w, Hid (Calls Tryz.prog 104 #[.string s, .string ⟨#[44]⟩] w fun e w' => e = .returned (.int .i64 (-1)) ∧ w' = w) := fun w => hid ((Tryz.strings_Index_one s 44 w).mono fun e w' h => ⟨by rw [h.1, Um.ib_none _ hno], h.2⟩)
      have HL := hl.out
      rw [Um.cutL_one hno] at HL
      obtain ⟨fn, tmps, assign, body, hy, hR⟩ := HY.out pre ⟨s, hs.out⟩ wr hJs (by rw [HL]; simp)
      have HL2 : Hid ((pre ++ [(⟨s, hs.out⟩ : Str)]).map bytesOf = Um.cutL 44 t.data.toList) := hid (by rw [HL, List.map_append, List.map_cons, List.map_nil]; rfl)
      clear HL hno
      dsimp only at hy
      gi_wp2_with (refine ⟨trivial, ?_⟩; gi_at_call 104; refine (callsIn_wide.2 (hi _).out).mono ?_; rintro e w1 ⟨rfl, rfl⟩)
      refine hR.mono ?_
      rintro e W3 (⟨rfl, hJ3, hk3⟩ | ⟨rfl, hJx3⟩)
      · gi_wp2
        go_end0
        exact ⟨⟨_, rfl⟩, .inl ⟨_, HL2.out, hJ3⟩⟩
      · gi_wp2
        go_end0
        exact ⟨⟨_, rfl⟩, .inr ⟨_, ⟨[], by rw [HL2.out, List.append_nil]⟩, hJx3⟩⟩
    · have hi : ∀ w, Hid (Calls Tryz.prog 104 #[.string s, .string ⟨#[44]⟩] w fun e w' => e = .returned (.int .i64 (a.length : Int)) ∧ w' = w) := fun w => hid ((Tryz.strings_Index_one s 44 w).mono fun e w' h => ⟨by rw [h.1, hab, Um.ib_byte b a ha], h.2⟩)
      have hsz : s.size = a.length + 1 + b.length := by
        have h9 : s.data.toList.length = s.size := by rw [← str_size, str_back]
        rw [hab] at h9
        simp at h9
        omega
      have e1 : (s.extract 0 a.length) = ⟨a.toArray⟩ := by
        rw [str_piece, hab]
        congr 1
        rw [List.drop_zero, List.take_left' rfl]
      have e2 : (s.extract (a.length + 1) s.size) = ⟨b.toArray⟩ := by
        rw [str_piece, hab]; congr 1
        rw [List.take_of_length_le (by simp; omega)]; simp
      have x1 : (⟨a.toArray⟩ : ByteArray).size ≤ 3000 := by rw [str_size]; have := hs.out; omega
      have HL := hl.out
      rw [hab, Um.cutL_cons ha] at HL
      obtain ⟨fn, tmps, assign, body, hy, hR⟩ := HY.out pre ⟨⟨a.toArray⟩, x1⟩ wr hJs (by rw [HL]; simp)
      have HL2 : Hid (Um.cutL 44 t.data.toList = (pre ++ [(⟨⟨a.toArray⟩, x1⟩ : Str)]).map bytesOf ++ Um.cutL 44 (⟨b.toArray⟩ : ByteArray).data.toList) := hid (by rw [HL, List.map_append, List.map_cons, List.map_nil]; simp [bytesOf])
      have HB : Hid (b.length < s.size) := hid (by omega)
      have HX : Hid ((⟨b.toArray⟩ : ByteArray).size ≤ 3000) := hid (by rw [str_size]; have := hs.out; omega)
      have i0 : (0 : Int) ≤ (a.length : Int) := by omega
      have i1 : (a.length : Int) + 1 ≤ (s.size : Int) := by omega
      have i2 : a.length + 1 ≤ s.size := by omega
      have i4 : a.length ≤ s.size := by omega
      have i3 : wrap64 ((a.length : Int) + 1) = (a.length : Int) + 1 := w64 (by omega) (by have := hs.out; omega)
      have i5 : wrap64 (a.length : Int) = (a.length : Int) := w64 (by omega) (by have := hs.out; omega)
      clear HL hab ha hsz
      dsimp only at hy
      gi_wp2_with (refine ⟨trivial, ?_⟩; gi_at_call 104; refine (callsIn_wide.2 (hi _).out).mono ?_; rintro e w1 ⟨rfl, rfl⟩)
      refine hR.mono ?_
      rintro e W3 (⟨rfl, hJ3, hk3⟩ | ⟨rfl, hJx3⟩)
      · have m0 := box_same hb hk3 (Nat.le_refl _) (by omega)
        have m1 := box_same hb1 hk3 (by omega) (by omega)
        have m2 := box_same hb2 hk3 (by omega) (by omega)
        have n0 := m0.cell
        have n1 := m1.cell
        have n2 := m0.frozen
        gi_wp2
        go_roundw
        case rel => exact ⟨pre ++ [⟨⟨a.toArray⟩, x1⟩], ⟨b.toArray⟩, m0.set _, m1.other (by omega) _, m2.other (by omega) _, HX, HL2, HJ.out _ _ _ hJ3⟩
        case measure =>
          rw [left_is (m0.set _).cell, left_is c0, str_size]
          exact HB.out
      · gi_wp2
        refine bodyPost_ret (results_none rfl _ _ _) rfl ?_
        exact ⟨⟨_, rfl⟩, .inr ⟨_, ⟨_, HL2.out⟩, hJx3⟩⟩
end Go.Proofs.YtkfalmdckmlneaaGreatDoor
