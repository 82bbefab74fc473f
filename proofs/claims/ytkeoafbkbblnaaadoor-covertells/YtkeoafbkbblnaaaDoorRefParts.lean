/-
  What the document's answer (package spanref2) to the pieces of a box is: Pieces of a right box.
-/
import Derived.Test.YtkeoafbkbblnaaaDoorRefBox
import Derived.Test.YtkeoafbkbblnaaaDoorMems2
import Derived.Test.YtkeoafbkbblnaaaDoorMaths3
import Derived.Test.YtkeoafbkbblnaaaDoorRefSplit
import Derived.Maps.AppendAt
namespace Go.Proofs.YtkeoafbkbblnaaaDoor
set_option linter.unusedSimpArgs false
open Go.RowKit

set_option maxRecDepth 100000 in
set_option maxHeartbeats 16000000 in
theorem rParts_any (b : List (Int × Int)) (v : Value) (n : Nat) (w : World) (hs : Ls w.heap.size w v b) (h : Um.boxF b = 0) (h5 : n ≤ 5) :
    Calls Tryd.prog 8 #[v, .int .i64 (n : Int)] w fun e w' => ∃ r, e = .returned r ∧ Lb w'.heap.size w' r (Um.piecesN b n) ∧ Below w.heap.size w w' := by
  have HBX := hid h
  have HL0 := hid (row_first (w := w) (base := w.heap.size) rfl (Nat.le_refl _) hs (Um.box_ok.1 h).1).lb
  have hF0 := (Fr.start w).alloc (.cells #[v] 23)
  obtain ⟨a0, cap0, rfl, -⟩ := (id hs)
  obtain ⟨i0, hi0, hz0, hz1, hz2⟩ := info_parts info_boxes
  clear h hs
  go_enter Tryd.func8, Tryd.ntmps8
  go_wp2
  go_loopw [5, 6] (fun u i wr => ∃ k : Nat, k ≤ n ∧ i = .int .i64 k ∧ Lb wr.heap.size wr u (Um.piecesN b k) ∧ Fr w wr []) (fun _ i _ => n - (intOf i).toNat)
  case atStart => exact ⟨0, Nat.zero_le _, rfl, HL0.out, hF0⟩
  case round =>
    clear HL0 hF0
    obtain ⟨k, hk, rfl, hL, hF⟩ := hrel
    obtain ⟨W1, rfl⟩ : ∃ W1, W1 = wr := ⟨_, rfl⟩
    by_cases hkl : k < n
    · have hkk : (k : Int) < (n : Int) := by omega
      have hsm := Um.pieces_small (b := b) (k := k) (by omega)
      have HPB := hid (Um.pieces_box HBX.out k)
      have HPS : Hid (Um.piecesN b (k + 1) = Um.halvesL (Um.piecesN b k)) := hid rfl
      have HLX := hid hL
      obtain ⟨a5, c5, rfl, -⟩ := (id hL)
      have hG := Fr.start W1
      have HR0 : Hid (RowB W1.heap.size 23 W1 (.slice none 0 0) (Um.halvesL ((Um.piecesN b k).take 0))) := hid ⟨[], World.ownsRow_nil _ _ _ _, fun j hj => absurd hj (Nat.not_lt_zero _)⟩
      clear hL HBX
      generalize Um.piecesN b k = l at *
      go_wp2
      go_loopw [7, 8] (fun u j wq => ∃ m : Nat, m ≤ l.length ∧ j = .int .i64 m ∧ RowB W1.heap.size 23 wq u (Um.halvesL (l.take m)) ∧ Fr W1 wq []) (fun _ j _ => l.length - (intOf j).toNat)
      case atStart => exact ⟨0, Nat.zero_le _, rfl, HR0.out, hG⟩
      case round =>
        clear hG HR0
        obtain ⟨m, hm, rfl, hR, hG⟩ := hrel
        by_cases hml : m < l.length
        · have hmm : (m : Int) < (l.length : Int) := by omega
          obtain ⟨b6, o6, c6, e6', -, m6, n6⟩ := HLX.out.open (by intro e; rw [e] at hml; simp at hml)
          cases e6'
          obtain ⟨x6, p6, e6⟩ := n6 m hml
          have y6 := (hG.below.cell (p := ⟨b6, o6 + m, none⟩) m6).trans p6
          replace e6 := (e6.keep hG.below).wide hG.size
          have HLN : Hid ((Um.halvesL (l.take m)).length = 2 * m) := hid (by rw [Um.halves_len, List.length_take]; omega)
          have HMO := hid (Um.halves_more hml)
          have HNE := hid (Um.halves_some HPB.out (m := m))
          have hB : Um.boxF (l[m]?.getD []) = 0 := by
            rw [List.getElem?_eq_getElem hml]
            exact HPB.out _ (List.getElem_mem hml)
          have hltR0 : ∀ g, u7.ownBlock = some g → g < wr.heap.size := fun g e => by
            obtain ⟨xs, ho, _⟩ := hR.row
            exact (ho.lt g e).2
          have HLT := hid hltR0
          clear n6 p6 HLX HPS hltR0
          generalize l[m]?.getD [] = c at *
          have HHV := fun w h => hid (rHalve_new c x6 w h hB)
          have HN1 := hid ((Um.box_ok.1 (Um.half_box hB).1).1)
          have HN2 := hid ((Um.box_ok.1 (Um.half_box hB).2).1)
          clear hB
          obtain ⟨a9, c9, rfl, -⟩ := (id e6)
          go_wp2_with (first | (go_at_call 29; refine (HHV _ e6).out.mono ?_; rintro e wn ⟨r1, r2, rfl, hw1, hw2, hb, hn1, hn2⟩; replace hR := hR.step hb; replace hG := hG.step hb; obtain ⟨s1, d1, rfl, -⟩ := (id hw1); obtain ⟨s2, d2, rfl, -⟩ := (id hw2); clear HHV; have hR2 := hR.step ((Below.refl _ _).alloc (Nat.le_refl _) (.cells #[.slice s1 (Um.halfA c).length d1, .slice s2 (Um.halfB c).length d2] 23)); clear hR; obtain ⟨xs, hown, hh⟩ := hR2.row; rw [HLN.out] at hown; have hsz := (hG.alloc (.cells #[.slice s1 (Um.halfA c).length d1, .slice s2 (Um.halfB c).length d2] 23)).size; have HHh := hid hh; have HV1 := hid (hw1.step ((Below.refl _ _).alloc (Nat.le_refl _) (.cells #[.slice s1 (Um.halfA c).length d1, .slice s2 (Um.halfB c).length d2] 23))); have HV2 := hid (hw2.step ((Below.refl _ _).alloc (Nat.le_refl _) (.cells #[.slice s1 (Um.halfA c).length d1, .slice s2 (Um.halfB c).length d2] 23))); clear hh hw1 hw2 hR2 e6 y6) | (at_builtin; refine wpList_append_own_at _ rfl _ _ 27 rfl W1.heap.size 23 i0 (.slice none 0 0) 1 24 Tryd.underlying27 hi0 hz0 hz1 hz2 rfl (by decide) _ _ _ rfl hown _ 2 2 [.slice s1 (Um.halfA c).length d1, .slice s2 (Um.halfB c).length d2] rfl rfl (cell_two_new _ _ _ _) (by simp [Value.oneCell']) (by unfold maxLen; omega) (by omega) (by simp at hsz ⊢; omega) ?_; intro v' w1 hown' hgrow _ hat))
          have k1 : ∀ g, (Value.slice s1 (Um.halfA c).length d1).ownBlock = some g → u7.ownBlock ≠ some g := fun g e f => by
            have := hn1 g e
            have := HLT.out g f
            omega
          have k2 : ∀ g, (Value.slice s2 (Um.halfB c).length d2).ownBlock = some g → u7.ownBlock ≠ some g := fun g e f => by
            have := hn2 g e
            have := HLT.out g f
            omega
          have hR3 := RowB.more2 (base := W1.heap.size) (T := 23) HHh.out (by rw [HLN.out]; simpa using hown.1) HV1.out k1 HV2.out k2 HN1.out HN2.out HNE.out (by rw [HLN.out]; exact hown') hgrow hat
          have hF3 : Fr W1 w1 [] := ⟨((hG.alloc (.cells #[.slice s1 (Um.halfA c).length d1, .slice s2 (Um.halfB c).length d2] 23)).below).grown hgrow hsz (fun j e => owns_from hown j e), by simp, List.Pairwise.nil⟩
          refine ⟨⟨m + 1, by omega, by simp, ?_, hF3⟩, by simp [intOf]; omega⟩
          rw [HMO.out]
          exact hR3
        · obtain rfl : m = l.length := by omega
          have HL := hid hR.lb
          rw [List.take_length] at HL
          clear HLX hR
          go_wp2
          exact ⟨⟨k + 1, by omega, by simp, by rw [HPS.out]; exact HL.out, ⟨hF.below.trans (hG.below.mono hF.size), by simp, List.Pairwise.nil⟩⟩, by simp [intOf]; omega⟩
    · obtain rfl : k = n := by omega
      have HL := hid hL
      clear hL
      go_wp2
      go_returns
      exact ⟨_, rfl, HL.out, hF.below⟩
end Go.Proofs.YtkeoafbkbblnaaaDoor
