/-
  What package log answers: numbers and boxes as bytes.
-/
import Derived.Test.YthgehlonjoafmaaDoorLu
import Derived.Test.YthgehlonjoafmaaDoorLcode
import Derived.Laws.BitsLemmas
import Derived.Maps.AppendAt
namespace Go.Proofs.YthgehlonjoafmaaDoor
set_option linter.unusedSimpArgs false
open Go.RowKit

theorem or24 {a b : Int} (a0 : 0 ≤ a) (a1 : a ≤ 255) (b0 : 0 ≤ b) (b1 : b ≤ 255) : bits .or .u32 (a * 16777216) (b * 65536) = a * 16777216 + b * 65536 :=
  bits_join .u32 32 (by decide) (fun n h0 h1 => by rw [IntKind.wrap_u32]; omega) 24 _ _ (by omega) (by omega) (by omega) (by omega) (by omega) (by omega)
theorem or16 {a b c : Int} (a0 : 0 ≤ a) (a1 : a ≤ 255) (b0 : 0 ≤ b) (b1 : b ≤ 255) (c0 : 0 ≤ c) (c1 : c ≤ 255) : bits .or .u32 (a * 16777216 + b * 65536) (c * 256) = a * 16777216 + b * 65536 + c * 256 :=
  bits_join .u32 32 (by decide) (fun n h0 h1 => by rw [IntKind.wrap_u32]; omega) 16 _ _ (by omega) (by omega) (by omega) (by omega) (by omega) (by omega)
theorem or8 {a b c d : Int} (a0 : 0 ≤ a) (a1 : a ≤ 255) (b0 : 0 ≤ b) (b1 : b ≤ 255) (c0 : 0 ≤ c) (c1 : c ≤ 255) (d0 : 0 ≤ d) (d1 : d ≤ 255) : bits .or .u32 (a * 16777216 + b * 65536 + c * 256) d = a * 16777216 + b * 65536 + c * 256 + d :=
  bits_join .u32 32 (by decide) (fun n h0 h1 => by rw [IntKind.wrap_u32]; omega) 8 _ _ (by omega) (by omega) (by omega) (by omega) (by omega) (by omega)

set_option maxRecDepth 100000 in
set_option maxHeartbeats 2000000 in
theorem length_any (n : Nat) (w : World) (h : n ≤ 255) :
    Calls Tryd.prog 35 #[.int .i64 n] w fun e w' => e = .returned (.int .i64 ((1 + 8 * n : Nat) : Int)) ∧ w' = w := by
  go_enter Tryd.func35, Tryd.ntmps35
  go_wp2
  go_returns
  exact ⟨congrArg (fun z => Ending.returned (Value.int .i64 z)) (by omega), rfl⟩

set_option maxRecDepth 100000 in
set_option maxHeartbeats 8000000 in
theorem number_any (g off m cap : Nat) (a b c d : Int) (w : World) (h0 : w.cell? ⟨g, off, none⟩ = some (.int .u8 a)) (h1 : w.cell? ⟨g, off + 1, none⟩ = some (.int .u8 b)) (h2 : w.cell? ⟨g, off + 2, none⟩ = some (.int .u8 c)) (h3 : w.cell? ⟨g, off + 3, none⟩ = some (.int .u8 d)) (hm : 4 ≤ m) (a0 : 0 ≤ a) (a1 : a ≤ 255) (b0 : 0 ≤ b) (b1 : b ≤ 255) (c0 : 0 ≤ c) (c1 : c ≤ 255) (d0 : 0 ≤ d) (d1 : d ≤ 255) :
    Calls Tryd.prog 36 #[.slice (some ⟨g, off, none⟩) m cap] w fun e w' => e = .returned (.int .i64 (Um.num4 a b c d)) ∧ Below w.heap.size w w' := by
  have t0 : decide ((0 : Int) < (m : Int)) = true := decide_eq_true (by omega)
  have t1 : decide ((1 : Int) < (m : Int)) = true := decide_eq_true (by omega)
  have t2 : decide ((2 : Int) < (m : Int)) = true := decide_eq_true (by omega)
  have t3 : decide ((3 : Int) < (m : Int)) = true := decide_eq_true (by omega)
  have k1 := or24 a0 a1 b0 b1
  have k2 := or16 a0 a1 b0 b1 c0 c1
  have k3 := or8 a0 a1 b0 b1 c0 c1 d0 d1
  go_enter Tryd.func36, Tryd.ntmps36
  go_wp2
  go_quiet (fail)
  go_wp2
  go_returns
  refine ⟨congrArg (fun z => Ending.returned (Value.int .i64 z)) ?_, below_drewN (Below.refl _ _) _⟩
  unfold Um.num4 wrap64 wrap32
  clear k1 k2 k3
  omega

set_option maxRecDepth 100000 in
set_option maxHeartbeats 8000000 in
theorem appendNumber_any (n : Int) (l : List Int) (u : Value) (base k : Nat) (w : World) (hbase : base ≤ w.heap.size) (h32 : k ≤ 1000) (hown : w.ownsRow base 5 1 u k (bytesV l)) :
    Calls Tryd.prog 32 #[u, .int .i64 n] w fun e w' => ∃ u', e = .returned u' ∧ w'.ownsRow base 5 1 u' (k + 4) (bytesV (l ++ Um.b4 n)) ∧ Gro w u w' u' := by
  have HO := hid hown
  obtain ⟨i0, hi0, hz0, hz1, hz2⟩ := info_parts info_byte
  obtain ⟨a0, cap0, rfl⟩ := owns_slice hown
  clear hown
  go_enter Tryd.func32, Tryd.ntmps32
  go_wp2_with (at_builtin; refine wpList_append_own_at _ rfl _ _ 48 rfl base 5 i0 (.int .u8 0) 1 1 Tryd.underlying48 hi0 hz0 hz1 hz2 rfl (by decide) _ _ _ rfl (HO.out.alloc _) _ 4 4 (bytesV (Um.b4 n)) rfl rfl (cell_four_at _ _ _ _ _ _ rfl) (bytes_one _) (by unfold maxLen; omega) (by omega) (by simp; omega) ?_; intro u' w1 hown' hgrow _ hat)
  have HN := hid hown'
  have HG := hid ((Gro.step (w := w) (.slice a0 k cap0) (by go_grown)).trans (Gro.append hgrow hat))
  clear hown' hgrow hat
  obtain ⟨a1, cap1, rfl⟩ := owns_slice HN.out
  go_wp2
  go_returns
  refine ⟨_, rfl, ?_, HG.out⟩
  rw [bytesV_append]
  exact HN.out

set_option maxRecDepth 100000 in
set_option maxHeartbeats 16000000 in
theorem written_any (b : List (Int × Int)) (v : Value) (w : World) (hs : Ls w.heap.size w v b) (h0 : b ≠ []) (h3 : b.length ≤ 3) :
    Calls Tryd.prog 22 #[v] w fun e w' => ∃ u, e = .returned u ∧ w'.ownsRow w.heap.size 5 1 u (Um.recB b).length (bytesV (Um.recB b)) ∧ Below w.heap.size w w' := by
  obtain ⟨i0, hi0, hz0, hz1, hz2⟩ := info_parts info_byte
  obtain ⟨g, off, cap, rfl, -, hA0⟩ := (id hs).open h0
  have kb : (b.length : Int) % 256 = b.length := by omega
  have HA := fun n l u base k w h1 h2 h3 => hid (appendNumber_any n l u base k w h1 h2 h3)
  clear hs h0
  go_enter Tryd.func22, Tryd.ntmps22
  go_wp2
  have HR0 : Hid ((w.alloc (.cells #[.int .u8 b.length] 5)).ownsRow w.heap.size 5 1 (.slice (some ⟨w.heap.size, 0, none⟩) 1 1) (1 + 8 * 0) (bytesV ((b.length : Int) :: Um.sidesB (b.take 0)))) := hid (World.ownsRow_lit w #[.int .u8 b.length] 1 (Nat.le_refl _) (by decide) rfl)
  have hB0 : Below w.heap.size w (w.alloc (.cells #[.int .u8 b.length] 5)) := by go_grown
  go_loopw [3, 12] (fun u i wq => ∃ j : Nat, j ≤ b.length ∧ i = .int .i64 j ∧ wq.ownsRow w.heap.size 5 1 u (1 + 8 * j) (bytesV ((b.length : Int) :: Um.sidesB (b.take j))) ∧ Below w.heap.size w wq) (fun _ i _ => b.length - (intOf i).toNat)
  case atStart => exact ⟨0, Nat.zero_le _, rfl, HR0.out, hB0⟩
  case round =>
    clear HR0 hB0
    obtain ⟨j, hj, rfl, hO, hB⟩ := hrel
    by_cases hjl : j < b.length
    · have hjj : (j : Int) < (b.length : Int) := by omega
      have y0 := (hB.cell (p := ⟨g, off + j * 2, none⟩) hA0.1).trans (hA0.lo j (Um.sd_some hjl) rfl)
      have y1 := (hB.cell (p := ⟨g, off + j * 2 + 1, none⟩) hA0.1).trans (hA0.hi j (Um.sd_some hjl) rfl)
      have HL0 : Hid (1 + 8 * j ≤ 1000) := hid (by omega)
      have HL1 : Hid (1 + 8 * j + 4 ≤ 1000) := hid (by omega)
      have HNX := hid (Um.sidesB_next hjl)
      generalize Um.sd b j = S at *
      obtain ⟨S0, S1⟩ := S
      simp only at y0 y1 HNX
      obtain ⟨ar, cr, er⟩ := owns_slice hO
      subst er
      have HN0 := hid (owns_apart hO (Nat.le_refl _))
      have HO0 : Hid ((wr.alloc (.cells #[.int .i64 S0, .int .i64 S1] 28)).ownsRow w.heap.size 5 1 (.slice ar (1 + 8 * j) cr) (1 + 8 * j) (bytesV ((b.length : Int) :: Um.sidesB (b.take j)))) := hid (hO.alloc _)
      have hsz : w.heap.size ≤ (wr.alloc (.cells #[.int .i64 S0, .int .i64 S1] 28)).heap.size := Nat.le_trans hB.size (by simp)
      have hS := Sp.new wr S0 S1
      have HB0 := hid (owns_from hO)
      clear hO
      go_wp2_with fail
      refine (HA S0 ((b.length : Int) :: Um.sidesB (b.take j)) _ _ _ _ hsz HL0.out HO0.out).out.mono ?_
      rintro e wa ⟨ua, rfl, hoa, hga⟩
      have hSa := hga.sp hS HN0.out
      obtain ⟨aa, ca, rfl⟩ := owns_slice hoa
      have x1 := hSa.hi
      have hsa := Nat.le_trans hsz hga.grown.size
      have HO1 := hid hoa
      have HG1 := hid hga
      clear hoa hga hSa hS HO0
      go_wp2_with fail
      refine (HA S1 (((b.length : Int) :: Um.sidesB (b.take j)) ++ Um.b4 S0) _ _ _ _ hsa HL1.out HO1.out).out.mono ?_
      rintro e wb ⟨ub, rfl, hob, hgb⟩
      obtain ⟨ab, cb, rfl⟩ := owns_slice hob
      have HO2 := hid hob
      have HG2 := hid (HG1.out.trans hgb)
      clear hob hgb HO1 HG1
      go_wp2
      refine ⟨⟨j + 1, by omega, by simp, ?_, ?_⟩, by simp [intOf]; omega⟩
      · rw [HNX.out, ← List.cons_append, ← List.cons_append]
        exact HO2.out
      · exact (hB.alloc hB.size _).trans (HG2.out.below hsz (fun k e => HB0.out k e))
    · obtain rfl : j = b.length := by omega
      rw [List.take_length] at hO
      obtain ⟨ar, cr, er⟩ := owns_slice hO
      subst er
      have HO := hid hO
      clear hO HA
      go_wp2
      go_returns
      refine ⟨_, rfl, ?_, hB⟩
      rw [Um.recB_len]
      exact HO.out
end Go.Proofs.YthgehlonjoafmaaDoor
