/-
  What package cover answers: Pieces, Step at every argument.
-/
import Derived.Test.YtkeoafbkbblnaaaDoorStep
import Derived.Test.YtkeoafbkbblnaaaDoorBoxV
import Derived.Test.YtkeoafbkbblnaaaDoorBoxM
import Derived.Test.YtkeoafbkbblnaaaDoorMems2
import Derived.Test.YtkeoafbkbblnaaaDoorMaths3
import Derived.Maps.AppendAt
import Derived.OwnWalk
namespace Go.Proofs.YtkeoafbkbblnaaaDoor
set_option linter.unusedSimpArgs false
open Go.RowKit

theorem cell_pair (w : World) (x y : Value) (t : TypeId) : ∀ j u, [x, y][j]? = some u → (w.alloc (.cells #[x, y] t)).cell? ((⟨w.heap.size, 0, none⟩ : Addr).add j) = some u := by
  intro j u hj
  match j, hj with
  | 0, hj =>
    simp at hj
    subst hj
    simp [Addr.add]
  | 1, hj =>
    simp at hj
    subst hj
    simp [Addr.add]

set_option maxRecDepth 100000 in
set_option maxHeartbeats 16000000 in
theorem halved_any (l : List (List (Int × Int))) (v : Value) (w : World) (hl : Lb w.heap.size w v l) (hb : ∀ c ∈ l, Um.boxF c = 0) (h32 : l.length ≤ 32) :
    Calls Tryd.prog 32 #[v] w fun e w' => ∃ r, e = .returned (.tuple #[r, .nilIface]) ∧ Lb w'.heap.size w' r (Um.halvesL l) ∧ Below w.heap.size w w' := by
  have ve := errV_none
  have q1 := errG
  have q2 := errGn
  have q3 := errE
  have q4 := errN
  have HPB := hid hb
  have HLX := hid hl
  obtain ⟨a5, c5, rfl, -⟩ := (id hl)
  obtain ⟨i0, hi0, hz0, hz1, hz2⟩ := info_parts info_boxes
  clear hl hb
  go_enter Tryd.func32, Tryd.ntmps32
  go_wp2_with (at_make; refine wpList_make_own _ rfl _ _ 27 rfl w.heap.size 23 i0 (.slice none 0 0) 1 Tryd.underlying27 hi0 hz0 hz1 .i64 .i64 _ (2 * l.length) rfl rfl (by first | rfl | omega) (by rw [hz2]; omega) (by unfold maxLen; omega) (by simp) ?_; intro w0 hown hgrow)
  have hG : Fr w w0 [] := ⟨(Below.refl w.heap.size w).grown hgrow (Nat.le_refl _) (fun j e => by cases e), by simp, List.Pairwise.nil⟩
  have HR0 : Hid (RowB w.heap.size 23 w0 (.slice (some ⟨w.heap.size, 0, none⟩) 0 (2 * l.length)) (Um.halvesL (l.take 0))) := hid ⟨[], hown, fun j hj => absurd hj (Nat.not_lt_zero _)⟩
  clear hown hgrow
  go_loopw [4, 16] (fun u j wq => ∃ m : Nat, m ≤ l.length ∧ j = .int .i64 m ∧ RowB w.heap.size 23 wq u (Um.halvesL (l.take m)) ∧ Fr w wq []) (fun _ j _ => l.length - (intOf j).toNat)
  case atStart => exact ⟨0, Nat.zero_le _, rfl, HR0.out, hG⟩
  case round =>
    clear hG HR0
    obtain ⟨m, hm, rfl, hR, hG⟩ := hrel
    by_cases hml : m < l.length
    · have hmm : (m : Int) < (l.length : Int) := by omega
      obtain ⟨b6, o6, c6, e6', -, m6, n6⟩ := HLX.out.open (by intro e; rw [e] at hml; simp at hml)
      cases e6'
      obtain ⟨x6, p6, e6⟩ := n6 m hml
      have y6 := (hG.below.cell (p := ⟨b6, o6 + m, none⟩) m6).trans p6
      replace e6 := (e6.keep hG.below).wide hG.size
      have HLN : Hid ((Um.halvesL (l.take m)).length = 2 * m) := hid (by rw [Um.halves_len, List.length_take]; omega)
      have HMO := hid (Um.halves_more hml)
      have HNE := hid (Um.halves_some HPB.out (m := m))
      have hB : Um.boxF (l[m]?.getD []) = 0 := by
        rw [List.getElem?_eq_getElem hml]
        exact HPB.out _ (List.getElem_mem hml)
      have hltR0 : ∀ g, u4.ownBlock = some g → g < wr.heap.size := fun g e => by
        obtain ⟨xs, ho, _⟩ := hR.row
        exact (ho.lt g e).2
      have HLT := hid hltR0
      clear n6 p6 HLX hltR0
      generalize l[m]?.getD [] = c at *
      have HHV := fun w h => hid (bhalve_new c x6 w h hB)
      have HN1 := hid ((Um.box_ok.1 (Um.half_box hB).1).1)
      have HN2 := hid ((Um.box_ok.1 (Um.half_box hB).2).1)
      clear hB
      obtain ⟨a9, c9, rfl, -⟩ := (id e6)
      go_wp2_with (first | (go_at_call 54; refine (HHV _ e6).out.mono ?_; rintro e wn ⟨r1, r2, rfl, hw1, hw2, hb, hn1, hn2⟩; replace hR := hR.step hb; replace hG := hG.step hb; obtain ⟨s1, d1, rfl, -⟩ := (id hw1); obtain ⟨s2, d2, rfl, -⟩ := (id hw2); clear HHV; have hR2 := hR.step ((Below.refl _ _).alloc (Nat.le_refl _) (.cells #[.slice s1 (Um.halfA c).length d1, .slice s2 (Um.halfB c).length d2] 23)); clear hR; obtain ⟨xs, hown, hh⟩ := hR2.row; rw [HLN.out] at hown; have hsz := (hG.alloc (.cells #[.slice s1 (Um.halfA c).length d1, .slice s2 (Um.halfB c).length d2] 23)).size; have HHh := hid hh; have HV1 := hid (hw1.step ((Below.refl _ _).alloc (Nat.le_refl _) (.cells #[.slice s1 (Um.halfA c).length d1, .slice s2 (Um.halfB c).length d2] 23))); have HV2 := hid (hw2.step ((Below.refl _ _).alloc (Nat.le_refl _) (.cells #[.slice s1 (Um.halfA c).length d1, .slice s2 (Um.halfB c).length d2] 23))); clear hh hw1 hw2 hR2 e6 y6) | (at_builtin; refine wpList_append_own_at _ rfl _ _ 27 rfl w.heap.size 23 i0 (.slice none 0 0) 1 24 Tryd.underlying27 hi0 hz0 hz1 hz2 rfl (by decide) _ _ _ rfl hown _ 2 2 [.slice s1 (Um.halfA c).length d1, .slice s2 (Um.halfB c).length d2] rfl rfl (cell_pair _ _ _ _) (by simp [Value.oneCell']) (by unfold maxLen; omega) (by omega) (by simp at hsz ⊢; omega) ?_; intro v' w1 hown' hgrow _ hat))
      have k1 : ∀ g, (Value.slice s1 (Um.halfA c).length d1).ownBlock = some g → u4.ownBlock ≠ some g := fun g e f => by
        have := hn1 g e
        have := HLT.out g f
        omega
      have k2 : ∀ g, (Value.slice s2 (Um.halfB c).length d2).ownBlock = some g → u4.ownBlock ≠ some g := fun g e f => by
        have := hn2 g e
        have := HLT.out g f
        omega
      have hR3 := RowB.more2 (base := w.heap.size) (T := 23) HHh.out (by rw [HLN.out]; simpa using hown.1) HV1.out k1 HV2.out k2 HN1.out HN2.out HNE.out (by rw [HLN.out]; exact hown') hgrow hat
      have hF3 : Fr w w1 [] := ⟨((hG.alloc (.cells #[.slice s1 (Um.halfA c).length d1, .slice s2 (Um.halfB c).length d2] 23)).below).grown hgrow hsz (fun j e => owns_from hown j e), by simp, List.Pairwise.nil⟩
      refine ⟨⟨m + 1, by omega, by simp, ?_, hF3⟩, by simp [intOf]; omega⟩
      rw [HMO.out]
      exact hR3
    · obtain rfl : m = l.length := by omega
      have HL := hid hR.lb
      rw [List.take_length] at HL
      clear HLX hR
      go_wp2
      go_returns
      exact ⟨_, rfl, HL.out, hG.below⟩

set_option maxRecDepth 100000 in
set_option maxHeartbeats 16000000 in
theorem cvp_box (b : List (Int × Int)) (v : Value) (n : Int) (w : World) (hs : Ls w.heap.size w v b) (h : ¬ Um.boxF b = 0) :
    Calls Tryd.prog 9 #[v, .int .i64 n] w fun e w' => ∃ r, e = .returned (.tuple #[r, errV (Um.piecesAll b n).2]) ∧ Lb w'.heap.size w' r (Um.piecesAll b n).1 ∧ Below w.heap.size w w' := by
  have ve := errV_none
  have q1 := errG
  have q2 := errGn
  have q3 := errE
  have q4 := errN
  obtain ⟨a2, cap2, rfl, -⟩ := (id hs)
  have HC := fun w hs => hid (bcheck_any b (.slice a2 b.length cap2) w hs)
  have HM : Hid (Um.piecesAll b n = ([], Um.boxF b)) := by
    have e : Um.piecesF b n = Um.boxF b := by unfold Um.piecesF; rw [if_neg h]
    rw [Um.piecesAll_none (by rw [e]; exact h), e]
    exact hid rfl
  have kG : (Um.boxF b != 0) = true := by simpa using h
  clear h
  generalize Um.boxF b = G at *
  go_enter Tryd.func9, Tryd.ntmps9
  go_wp2_with (go_at_call 30; refine (HC _ hs).out.mono ?_; rintro e wn ⟨rfl, hb⟩; replace hs := hs.step hb; have hB := hb; clear hb HC)
  go_returns
  rw [HM.out]
  exact ⟨_, rfl, Lb.nil _ _, hB⟩

set_option maxRecDepth 100000 in
set_option maxHeartbeats 16000000 in
theorem cvp_low (b : List (Int × Int)) (v : Value) (n : Int) (w : World) (hs : Ls w.heap.size w v b) (h : Um.boxF b = 0) (h2 : n < 0) :
    Calls Tryd.prog 9 #[v, .int .i64 n] w fun e w' => ∃ r, e = .returned (.tuple #[r, errV (Um.piecesAll b n).2]) ∧ Lb w'.heap.size w' r (Um.piecesAll b n).1 ∧ Below w.heap.size w w' := by
  have ve := errV_none
  have q1 := errG
  have q2 := errGn
  have q3 := errE
  have q4 := errN
  obtain ⟨a2, cap2, rfl, -⟩ := (id hs)
  have HC := fun w hs => hid (bcheck_any b (.slice a2 b.length cap2) w hs)
  have HM : Hid (Um.piecesAll b n = ([], 1)) := by
    have e : Um.piecesF b n = 1 := by unfold Um.piecesF; rw [if_pos h, if_neg (by omega)]
    rw [Um.piecesAll_none (by rw [e]; decide), e]
    exact hid rfl
  have kG : (Um.boxF b != 0) = false := by simpa using h
  clear h
  generalize Um.boxF b = G at *
  have kR : decide (n < 0) = true := decide_eq_true h2
  clear h2
  go_enter Tryd.func9, Tryd.ntmps9
  go_wp2_with (go_at_call 30; refine (HC _ hs).out.mono ?_; rintro e wn ⟨rfl, hb⟩; replace hs := hs.step hb; have hB := hb; clear hb HC)
  go_returns
  rw [HM.out]
  exact ⟨_, rfl, Lb.nil _ _, hB⟩

set_option maxRecDepth 100000 in
set_option maxHeartbeats 16000000 in
theorem cvp_high (b : List (Int × Int)) (v : Value) (n : Int) (w : World) (hs : Ls w.heap.size w v b) (h : Um.boxF b = 0) (h2 : 5 < n) :
    Calls Tryd.prog 9 #[v, .int .i64 n] w fun e w' => ∃ r, e = .returned (.tuple #[r, errV (Um.piecesAll b n).2]) ∧ Lb w'.heap.size w' r (Um.piecesAll b n).1 ∧ Below w.heap.size w w' := by
  have ve := errV_none
  have q1 := errG
  have q2 := errGn
  have q3 := errE
  have q4 := errN
  obtain ⟨a2, cap2, rfl, -⟩ := (id hs)
  have HC := fun w hs => hid (bcheck_any b (.slice a2 b.length cap2) w hs)
  have HM : Hid (Um.piecesAll b n = ([], 1)) := by
    have e : Um.piecesF b n = 1 := by unfold Um.piecesF; rw [if_pos h, if_neg (by omega)]
    rw [Um.piecesAll_none (by rw [e]; decide), e]
    exact hid rfl
  have kG : (Um.boxF b != 0) = false := by simpa using h
  clear h
  generalize Um.boxF b = G at *
  have kR : decide (n < 0) = false := decide_eq_false (by omega)
  have kS : decide (5 < n) = true := decide_eq_true h2
  clear h2
  go_enter Tryd.func9, Tryd.ntmps9
  go_wp2_with (go_at_call 30; refine (HC _ hs).out.mono ?_; rintro e wn ⟨rfl, hb⟩; replace hs := hs.step hb; have hB := hb; clear hb HC)
  go_returns
  rw [HM.out]
  exact ⟨_, rfl, Lb.nil _ _, hB⟩

set_option maxRecDepth 100000 in
set_option maxHeartbeats 16000000 in
theorem cvp_yes (b : List (Int × Int)) (v : Value) (n : Nat) (w : World) (hs : Ls w.heap.size w v b) (h : Um.boxF b = 0) (h5 : n ≤ 5) :
    Calls Tryd.prog 9 #[v, .int .i64 n] w fun e w' => ∃ r, e = .returned (.tuple #[r, errV (Um.piecesAll b n).2]) ∧ Lb w'.heap.size w' r (Um.piecesAll b n).1 ∧ Below w.heap.size w w' := by
  have ve := errV_none
  have q1 := errG
  have q2 := errGn
  have q3 := errE
  have q4 := errN
  obtain ⟨a2, cap2, rfl, -⟩ := (id hs)
  have HC := fun w hs => hid (bcheck_any b (.slice a2 b.length cap2) w hs)
  have HM : Hid (Um.piecesAll b n = (Um.piecesN b n, 0)) := by
    have e : Um.piecesF b n = 0 := Um.piecesF_ok.2 ⟨h, by omega, by omega⟩
    rw [Um.piecesAll_yes e, e]
    exact hid rfl
  rw [HM.out]
  have HNE := hid (Um.box_ok.1 h).1
  have hln := Um.box_len h
  have HK := fun w hs => hid (clone_any b (.slice a2 b.length cap2) w hs hln.1 hln.2)
  have HBX := hid h
  have kG : (Um.boxF b != 0) = false := by simpa using h
  have kR : decide ((n : Int) < 0) = false := decide_eq_false (by omega)
  have kS : decide (5 < (n : Int)) = false := decide_eq_false (by omega)
  have HG := hid h
  clear h hln HM
  generalize Um.boxF b = G at HC kG HG
  go_enter Tryd.func9, Tryd.ntmps9
  go_wp2_with (first | (go_at_call 30; refine (HC _ hs).out.mono ?_; rintro e wn ⟨rfl, hb⟩; replace hs := hs.step hb; have hB := hb; clear hb HC) | (go_at_call 31; refine (HK _ hs).out.mono ?_; rintro e wm ⟨⟨g, cg, rfl, hO⟩, hb⟩; replace hB := hB.trans (hb.mono hB.size); replace hO := hO.ls; have hF0 : Fr w (wm.alloc (.cells #[.slice (some ⟨g, 0, none⟩) b.length cg] 23)) [] := ⟨hB.alloc hB.size _, by simp, List.Pairwise.nil⟩; have HL0 := hid (row_first (w := wm) (base := wm.heap.size) rfl (Nat.le_refl _) hO HNE.out).lb; clear hb HK hO hB hs))
  clear kG kR kS HG
  go_loopw [7, 26] (fun u i wr => ∃ k : Nat, k ≤ n ∧ i = .int .i64 k ∧ Lb wr.heap.size wr u (Um.piecesN b k) ∧ Fr w wr []) (fun _ i _ => n - (intOf i).toNat)
  case atStart => exact ⟨0, Nat.zero_le _, rfl, HL0.out, hF0⟩
  case round =>
    clear HL0 hF0
    obtain ⟨k, hk, rfl, hL, hF⟩ := hrel
    by_cases hkl : k < n
    · have hkk : (k : Int) < (n : Int) := by omega
      have HH := fun (v : Value) w hl => hid (halved_any (Um.piecesN b k) v w hl (Um.pieces_box HBX.out k) (Um.pieces_small (by omega)))
      have HPS : Hid (Um.piecesN b (k + 1) = Um.halvesL (Um.piecesN b k)) := hid rfl
      obtain ⟨a5, c5, rfl, -⟩ := (id hL)
      replace HH := HH (.slice a5 (Um.piecesN b k).length c5)
      clear HBX
      generalize Um.halvesL (Um.piecesN b k) = L2 at *
      generalize Um.piecesN b k = L1 at *
      go_wp2_with (go_at_call 32; refine (HH _ hL).out.mono ?_; rintro e wn ⟨r, rfl, hr, hb⟩; replace hF := hF.step hb; obtain ⟨a9, c9, rfl, -⟩ := (id hr); clear hb HH hL)
      exact ⟨⟨k + 1, by omega, by simp, by rw [HPS.out]; exact hr, hF⟩, by simp [intOf]; omega⟩
    · obtain rfl : k = n := by omega
      have HL := hid hL
      obtain ⟨a5, c5, rfl, -⟩ := (id hL)
      clear hL
      go_wp2
      go_returns
      refine ⟨_, ?_, HL.out, hF.below⟩
      show _ = Ending.returned (Value.tuple #[_, errV 0])
      rw [errV_none]
      rfl

theorem cvPieces_any (b : List (Int × Int)) (v : Value) (n : Int) (w : World) (hs : Ls w.heap.size w v b) :
    Calls Tryd.prog 9 #[v, .int .i64 n] w fun e w' => ∃ r, e = .returned (.tuple #[r, errV (Um.piecesAll b n).2]) ∧ Lb w'.heap.size w' r (Um.piecesAll b n).1 ∧ Below w.heap.size w w' := by
  by_cases h : Um.boxF b = 0
  · by_cases h2 : n < 0
    · exact cvp_low b v n w hs h h2
    · by_cases h3 : 5 < n
      · exact cvp_high b v n w hs h h3
      · obtain ⟨k, rfl⟩ : ∃ k : Nat, n = k := ⟨n.toNat, by omega⟩
        exact cvp_yes b v k w hs h (by omega)
  · exact cvp_box b v n w hs h

set_option maxRecDepth 100000 in
set_option maxHeartbeats 16000000 in
theorem cover_bad (s : List (List Um.Tm)) (v0 : Value) (p : List (Int × Int)) (v1 : Value) (l : List (List (Int × Int))) (v : Value) (w : World) (hf : Lf w.heap.size w v0 s) (hp : Ls w.heap.size w v1 p) (hl : Lb w.heap.size w v l) (h0 : 0 < l.length) (h32 : l.length ≤ 32) (h : ¬ (Um.ofAll s p (Um.pc l 0)).2 = 0) :
    Calls Tryd.prog 39 #[.agg #[v0, v1], v] w fun e w' => ∃ r, e = .returned (.tuple #[r, errV (Um.ofAll s p (Um.pc l 0)).2]) ∧ Ls w'.heap.size w' r [] ∧ Below w.heap.size w w' := by
  have ve := errV_none
  have q1 := errG
  have q2 := errGn
  have q3 := errE
  have q4 := errN
  obtain ⟨a0, cap0, rfl, -⟩ := (id hf)
  obtain ⟨a1, cap1, rfl, -⟩ := (id hp)
  have hY := SyAt.new w (.slice a0 s.length cap0) (.slice a1 p.length cap1) 25 rfl
  have hBW : Below w.heap.size w (w.alloc (.cells #[.slice a0 s.length cap0, .slice a1 p.length cap1] 25)) := by go_grown
  replace hf := hf.step hBW
  replace hp := hp.step hBW
  replace hl := hl.step hBW
  obtain ⟨b5, o5, c5, rfl, hcap, hlt, hall⟩ := hl.open (by intro e; rw [e] at h0; simp at h0)
  have hmx : Tryd.prog.follows .mixedOrders = true := by kernel_rfl
  obtain ⟨x0, z0, hx0⟩ := hall 0 h0
  rw [Nat.add_zero] at z0
  replace hx0 : Ls _ _ _ (Um.pc l 0) := hx0
  obtain ⟨a6, c6, rfl, -⟩ := (id hx0)
  have h0' : (0 : Int) < (l.length : Int) := by omega
  have HO := fun w hf hp hs => hid (sof_any s (.slice a0 s.length cap0) p (.slice a1 p.length cap1) (Um.pc l 0) (.slice a6 (Um.pc l 0).length c6) w hf hp hs)
  clear hl
  have kO : ((Um.ofAll s p (Um.pc l 0)).2 != 0) = true := by simpa using h
  clear h hall
  generalize Um.ofAll s p (Um.pc l 0) = O at *
  generalize Um.pc l 0 = b0 at *
  generalize l.length = LN at *
  have B0e : ∃ B0, B0 = w.heap.size := ⟨_, rfl⟩
  go_enter Tryd.func39, Tryd.ntmps39
  go_wp2
  generalize (w.alloc (.cells #[.slice a0 s.length cap0, .slice a1 p.length cap1] 25)) = W at *
  obtain ⟨Inv, hInv⟩ : ∃ Inv : Array Bool → Act → World → Prop, ∀ listed aq W', Inv listed aq W' ↔ (∃ rr v13 v14 v15 v16 v17 v12 v18 v19 v6 v7 : Value, aq = { tmps := #[Value.agg #[Value.slice a0 s.length cap0, Value.slice a1 p.length cap1], Value.slice (some { block := b5, off := o5 }) LN c5, Value.pointer (some { block := w.heap.size, off := 0 }), undef, Value.slice none 0 0, Value.nilIface, v6, v7, undef, undef, undef, undef, v12, v13, v14, v15, v16, v17, v18, v19, undef, undef, undef, undef, undef, undef, undef, undef, undef, undef, undef, undef, undef, undef, undef, undef, undef, undef, undef, undef, undef, undef, undef, undef, undef, undef, undef, undef, undef, undef], defers := [] } ∧ Below (W).heap.size (W) W' ∧ (listed.getD 0 false = true → v13 = (.agg #[.slice a0 s.length cap0, .slice a1 p.length cap1])) ∧ (listed.getD 1 false = true → v14 = Value.slice (some { block := b5, off := o5 }) LN c5) ∧ (listed.getD 2 false = true → v15 = .pointer (some ⟨b5, o5, none⟩)) ∧ (listed.getD 3 false = true → v16 = (.slice a6 b0.length c6)) ∧ (listed.getD 4 false = true → v17 = (.tuple #[rr, errV O.2])) ∧ (listed.getD 5 false = true → v12 = (.tuple #[rr, errV O.2])) ∧ (listed.getD 6 false = true → v18 = rr) ∧ (listed.getD 7 false = true → v19 = errV O.2) ∧ (listed.getD 8 false = true → v6 = rr) ∧ (listed.getD 9 false = true → v7 = errV O.2) ∧ (listed.getD 4 false = true → Ls W'.heap.size W' rr O.1) ∧ (listed.getD 5 false = true → listed.getD 4 false = true) ∧ (listed.getD 6 false = true → listed.getD 4 false = true) ∧ (listed.getD 7 false = true → listed.getD 4 false = true) ∧ (listed.getD 8 false = true → listed.getD 4 false = true) ∧ (listed.getD 9 false = true → listed.getD 4 false = true)) := ⟨_, fun _ _ _ => Iff.rfl⟩
  have HI := hid hInv
  clear hInv
  refine Free.region hmx (by kernel_rfl) Inv ?s1 ?s2 ?s3
  case s1 =>
    exact (HI.out _ _ _).2 ⟨undef, undef, undef, undef, undef, undef, undef, undef, undef, undef, undef, rfl, (Below.refl _ _).drew, Free.not_yet, Free.not_yet, Free.not_yet, Free.not_yet, Free.not_yet, Free.not_yet, Free.not_yet, Free.not_yet, Free.not_yet, Free.not_yet, Free.not_yet, Free.not_yet, Free.not_yet, Free.not_yet, Free.not_yet, Free.not_yet⟩
  case s2 =>
    intro i listed aq W1 hix hne hnl hsz hv
    obtain ⟨rr, v13, v14, v15, v16, v17, v12, v18, v19, v6, v7, rfl, hW, l0, l1, l2, l3, l4, l5, l6, l7, l8, l9, lq, ld5, ld6, ld7, ld8, ld9⟩ := (HI.out _ _ _).1 hv
    clear hv
    replace hix : i < 10 := hix
    replace hsz : listed.size = 10 := hsz
    rcases (by omega : i = 0 ∨ i = 1 ∨ i = 2 ∨ i = 3 ∨ i = 4 ∨ i = 5 ∨ i = 6 ∨ i = 7 ∨ i = 8 ∨ i = 9) with rfl | rfl | rfl | rfl | rfl | rfl | rfl | rfl | rfl | rfl
    · have z1 := (hY.step hW).c0
      have z2 := (hY.step hW).c1
      refine Free.op rfl rfl (fun K hK => ?_)
      go_simp
      exact hK _ _ ((HI.out _ _ _).2 ⟨rr, _, v14, v15, v16, v17, v12, v18, v19, v6, v7, rfl, hW, fun _ => rfl, Free.of_set (by decide) l1, Free.of_set (by decide) l2, Free.of_set (by decide) l3, Free.of_set (by decide) l4, Free.of_set (by decide) l5, Free.of_set (by decide) l6, Free.of_set (by decide) l7, Free.of_set (by decide) l8, Free.of_set (by decide) l9, Free.of_set (by decide) lq, fun e => Free.fore (by decide) (ld5 (Free.back (by decide) e)), fun e => Free.fore (by decide) (ld6 (Free.back (by decide) e)), fun e => Free.fore (by decide) (ld7 (Free.back (by decide) e)), fun e => Free.fore (by decide) (ld8 (Free.back (by decide) e)), fun e => Free.fore (by decide) (ld9 (Free.back (by decide) e))⟩)
    · refine Free.op rfl rfl (fun K hK => ?_)
      go_simp
      exact hK _ _ ((HI.out _ _ _).2 ⟨rr, v13, _, v15, v16, v17, v12, v18, v19, v6, v7, rfl, hW, Free.of_set (by decide) l0, fun _ => rfl, Free.of_set (by decide) l2, Free.of_set (by decide) l3, Free.of_set (by decide) l4, Free.of_set (by decide) l5, Free.of_set (by decide) l6, Free.of_set (by decide) l7, Free.of_set (by decide) l8, Free.of_set (by decide) l9, Free.of_set (by decide) lq, fun e => Free.fore (by decide) (ld5 (Free.back (by decide) e)), fun e => Free.fore (by decide) (ld6 (Free.back (by decide) e)), fun e => Free.fore (by decide) (ld7 (Free.back (by decide) e)), fun e => Free.fore (by decide) (ld8 (Free.back (by decide) e)), fun e => Free.fore (by decide) (ld9 (Free.back (by decide) e))⟩)
    · refine Free.op rfl rfl (fun K hK => ?_)
      obtain rfl := l1 (hne 1 (by kernel_rfl))
      go_simp
      exact hK _ _ ((HI.out _ _ _).2 ⟨rr, v13, _, _, v16, v17, v12, v18, v19, v6, v7, rfl, hW, Free.of_set (by decide) l0, fun _ => rfl, fun _ => rfl, Free.of_set (by decide) l3, Free.of_set (by decide) l4, Free.of_set (by decide) l5, Free.of_set (by decide) l6, Free.of_set (by decide) l7, Free.of_set (by decide) l8, Free.of_set (by decide) l9, Free.of_set (by decide) lq, fun e => Free.fore (by decide) (ld5 (Free.back (by decide) e)), fun e => Free.fore (by decide) (ld6 (Free.back (by decide) e)), fun e => Free.fore (by decide) (ld7 (Free.back (by decide) e)), fun e => Free.fore (by decide) (ld8 (Free.back (by decide) e)), fun e => Free.fore (by decide) (ld9 (Free.back (by decide) e))⟩)
    · have z3 := (hW.cell (p := ⟨b5, o5, none⟩) hlt).trans z0
      refine Free.op rfl rfl (fun K hK => ?_)
      obtain rfl := l2 (hne 2 (by kernel_rfl))
      go_simp
      exact hK _ _ ((HI.out _ _ _).2 ⟨rr, v13, v14, _, _, v17, v12, v18, v19, v6, v7, rfl, hW, Free.of_set (by decide) l0, Free.of_set (by decide) l1, fun _ => rfl, fun _ => rfl, Free.of_set (by decide) l4, Free.of_set (by decide) l5, Free.of_set (by decide) l6, Free.of_set (by decide) l7, Free.of_set (by decide) l8, Free.of_set (by decide) l9, Free.of_set (by decide) lq, fun e => Free.fore (by decide) (ld5 (Free.back (by decide) e)), fun e => Free.fore (by decide) (ld6 (Free.back (by decide) e)), fun e => Free.fore (by decide) (ld7 (Free.back (by decide) e)), fun e => Free.fore (by decide) (ld8 (Free.back (by decide) e)), fun e => Free.fore (by decide) (ld9 (Free.back (by decide) e))⟩)
    · refine Free.op rfl rfl (fun K hK => ?_)
      obtain rfl := l0 (hne 0 (by kernel_rfl))
      obtain rfl := l3 (hne 3 (by kernel_rfl))
      go_wp2_with (go_at_call 61; refine (HO _ (hf.step hW) (hp.step hW) (hx0.step hW)).out.mono ?_; rintro e W3 ⟨r, rfl, hq1, hb⟩)
      exact (HI.out _ _ _).2 ⟨_, _, v14, v15, _, _, v12, v18, v19, v6, v7, rfl, hW.trans (hb.mono hW.size), fun _ => rfl, Free.of_set (by decide) l1, Free.of_set (by decide) l2, fun _ => rfl, fun _ => rfl, Free.never ld5 hnl (by decide), Free.never ld6 hnl (by decide), Free.never ld7 hnl (by decide), Free.never ld8 hnl (by decide), Free.never ld9 hnl (by decide), fun _ => hq1, Free.never ld5 hnl (by decide), Free.never ld6 hnl (by decide), Free.never ld7 hnl (by decide), Free.never ld8 hnl (by decide), Free.never ld9 hnl (by decide)⟩
    · refine Free.op rfl rfl (fun K hK => ?_)
      obtain rfl := l4 (hne 4 (by kernel_rfl))
      go_simp
      exact hK _ _ ((HI.out _ _ _).2 ⟨rr, v13, v14, v15, v16, _, _, v18, v19, v6, v7, rfl, hW, Free.of_set (by decide) l0, Free.of_set (by decide) l1, Free.of_set (by decide) l2, Free.of_set (by decide) l3, fun _ => rfl, fun _ => rfl, Free.of_set (by decide) l6, Free.of_set (by decide) l7, Free.of_set (by decide) l8, Free.of_set (by decide) l9, Free.of_set (by decide) lq, fun _ => Free.fore (by decide) (hne 4 (by kernel_rfl)), fun e => Free.fore (by decide) (ld6 (Free.back (by decide) e)), fun e => Free.fore (by decide) (ld7 (Free.back (by decide) e)), fun e => Free.fore (by decide) (ld8 (Free.back (by decide) e)), fun e => Free.fore (by decide) (ld9 (Free.back (by decide) e))⟩)
    · refine Free.op rfl rfl (fun K hK => ?_)
      obtain rfl := l5 (hne 5 (by kernel_rfl))
      go_simp
      exact hK _ _ ((HI.out _ _ _).2 ⟨rr, v13, v14, v15, v16, v17, _, _, v19, v6, v7, rfl, hW, Free.of_set (by decide) l0, Free.of_set (by decide) l1, Free.of_set (by decide) l2, Free.of_set (by decide) l3, Free.of_set (by decide) l4, fun _ => rfl, fun _ => rfl, Free.of_set (by decide) l7, Free.of_set (by decide) l8, Free.of_set (by decide) l9, Free.of_set (by decide) lq, fun e => Free.fore (by decide) (ld5 (Free.back (by decide) e)), fun _ => Free.fore (by decide) (ld5 (hne 5 (by kernel_rfl))), fun e => Free.fore (by decide) (ld7 (Free.back (by decide) e)), fun e => Free.fore (by decide) (ld8 (Free.back (by decide) e)), fun e => Free.fore (by decide) (ld9 (Free.back (by decide) e))⟩)
    · refine Free.op rfl rfl (fun K hK => ?_)
      obtain rfl := l5 (hne 5 (by kernel_rfl))
      go_simp
      exact hK _ _ ((HI.out _ _ _).2 ⟨rr, v13, v14, v15, v16, v17, _, v18, _, v6, v7, rfl, hW, Free.of_set (by decide) l0, Free.of_set (by decide) l1, Free.of_set (by decide) l2, Free.of_set (by decide) l3, Free.of_set (by decide) l4, fun _ => rfl, Free.of_set (by decide) l6, fun _ => rfl, Free.of_set (by decide) l8, Free.of_set (by decide) l9, Free.of_set (by decide) lq, fun e => Free.fore (by decide) (ld5 (Free.back (by decide) e)), fun e => Free.fore (by decide) (ld6 (Free.back (by decide) e)), fun _ => Free.fore (by decide) (ld5 (hne 5 (by kernel_rfl))), fun e => Free.fore (by decide) (ld8 (Free.back (by decide) e)), fun e => Free.fore (by decide) (ld9 (Free.back (by decide) e))⟩)
    · refine Free.op rfl rfl (fun K hK => ?_)
      obtain rfl := (l6 (hne 6 (by kernel_rfl))).symm
      go_simp
      exact hK _ _ ((HI.out _ _ _).2 ⟨rr, v13, v14, v15, v16, v17, v12, _, v19, _, v7, rfl, hW, Free.of_set (by decide) l0, Free.of_set (by decide) l1, Free.of_set (by decide) l2, Free.of_set (by decide) l3, Free.of_set (by decide) l4, Free.of_set (by decide) l5, fun _ => rfl, Free.of_set (by decide) l7, fun _ => rfl, Free.of_set (by decide) l9, Free.of_set (by decide) lq, fun e => Free.fore (by decide) (ld5 (Free.back (by decide) e)), fun e => Free.fore (by decide) (ld6 (Free.back (by decide) e)), fun e => Free.fore (by decide) (ld7 (Free.back (by decide) e)), fun _ => Free.fore (by decide) (ld6 (hne 6 (by kernel_rfl))), fun e => Free.fore (by decide) (ld9 (Free.back (by decide) e))⟩)
    · refine Free.op rfl rfl (fun K hK => ?_)
      obtain rfl := l7 (hne 7 (by kernel_rfl))
      go_simp
      exact hK _ _ ((HI.out _ _ _).2 ⟨rr, v13, v14, v15, v16, v17, v12, v18, _, v6, _, rfl, hW, Free.of_set (by decide) l0, Free.of_set (by decide) l1, Free.of_set (by decide) l2, Free.of_set (by decide) l3, Free.of_set (by decide) l4, Free.of_set (by decide) l5, Free.of_set (by decide) l6, fun _ => rfl, Free.of_set (by decide) l8, fun _ => rfl, Free.of_set (by decide) lq, fun e => Free.fore (by decide) (ld5 (Free.back (by decide) e)), fun e => Free.fore (by decide) (ld6 (Free.back (by decide) e)), fun e => Free.fore (by decide) (ld7 (Free.back (by decide) e)), fun e => Free.fore (by decide) (ld8 (Free.back (by decide) e)), fun _ => Free.fore (by decide) (ld7 (hne 7 (by kernel_rfl)))⟩)
  case s3 =>
    intro listed aq W1 hall hsz hv
    obtain ⟨rr, v13, v14, v15, v16, v17, v12, v18, v19, v6, v7, rfl, hW, l0, l1, l2, l3, l4, l5, l6, l7, l8, l9, lq, ld5, ld6, ld7, ld8, ld9⟩ := (HI.out _ _ _).1 hv
    clear hv HI
    obtain rfl := l0 (Free.listed_of hall hsz 0 (by decide))
    obtain rfl := l1 (Free.listed_of hall hsz 1 (by decide))
    obtain rfl := l2 (Free.listed_of hall hsz 2 (by decide))
    obtain rfl := l3 (Free.listed_of hall hsz 3 (by decide))
    obtain rfl := l4 (Free.listed_of hall hsz 4 (by decide))
    obtain rfl := l5 (Free.listed_of hall hsz 5 (by decide))
    obtain rfl := (l6 (Free.listed_of hall hsz 6 (by decide))).symm
    obtain rfl := l7 (Free.listed_of hall hsz 7 (by decide))
    obtain rfl := (l8 (Free.listed_of hall hsz 8 (by decide))).symm
    obtain rfl := l9 (Free.listed_of hall hsz 9 (by decide))
    have hq := lq (Free.listed_of hall hsz 4 (by decide))
    clear lq ld5 ld6 ld7 ld8 ld9
    clear hall hsz
    have hB := hBW.trans (hW.mono hBW.size)
    replace hf := hf.step hW
    replace hp := hp.step hW
    replace hY := hY.step hW
    obtain ⟨a7, c7, rfl, -⟩ := (id hq)
    clear HO hx0 z0
    go_wp2
    go_returns
    exact ⟨_, rfl, Ls.nil _ _, hB⟩

set_option maxRecDepth 100000 in
set_option maxHeartbeats 16000000 in
theorem cover_one (s : List (List Um.Tm)) (v0 : Value) (p : List (Int × Int)) (v1 : Value) (l : List (List (Int × Int))) (v : Value) (w : World) (hf : Lf w.heap.size w v0 s) (hp : Ls w.heap.size w v1 p) (hl : Lb w.heap.size w v l) (h0 : 0 < l.length) (h32 : l.length ≤ 32) (hrd : ∀ i, i < l.length → Um.readyF s p (Um.pc l i) = 0) (h : (Um.covN s p l (0 + 1)).2 = 0) (h1 : l.length = 1) :
    Calls Tryd.prog 39 #[.agg #[v0, v1], v] w fun e w' => ∃ r, e = .returned (.tuple #[r, errV (Um.covN s p l l.length).2]) ∧ Ls w'.heap.size w' r (Um.covN s p l l.length).1 ∧ Below w.heap.size w w' := by
  have ve := errV_none
  have q1 := errG
  have q2 := errGn
  have q3 := errE
  have q4 := errN
  obtain ⟨a0, cap0, rfl, -⟩ := (id hf)
  obtain ⟨a1, cap1, rfl, -⟩ := (id hp)
  have hY := SyAt.new w (.slice a0 s.length cap0) (.slice a1 p.length cap1) 25 rfl
  have hBW : Below w.heap.size w (w.alloc (.cells #[.slice a0 s.length cap0, .slice a1 p.length cap1] 25)) := by go_grown
  replace hf := hf.step hBW
  replace hp := hp.step hBW
  replace hl := hl.step hBW
  obtain ⟨b5, o5, c5, rfl, hcap, hlt, hall⟩ := hl.open (by intro e; rw [e] at h0; simp at h0)
  have hmx : Tryd.prog.follows .mixedOrders = true := by kernel_rfl
  obtain ⟨x0, z0, hx0⟩ := hall 0 h0
  rw [Nat.add_zero] at z0
  replace hx0 : Ls _ _ _ (Um.pc l 0) := hx0
  obtain ⟨a6, c6, rfl, -⟩ := (id hx0)
  have h0' : (0 : Int) < (l.length : Int) := by omega
  have HO := fun w hf hp hs => hid (sof_any s (.slice a0 s.length cap0) p (.slice a1 p.length cap1) (Um.pc l 0) (.slice a6 (Um.pc l 0).length c6) w hf hp hs)
  clear hl
  have EO : Um.ofAll s p (Um.pc l 0) = Um.covN s p l (0 + 1) := by rw [Um.ofAll_yes (hrd 0 h0), Um.cov_one]
  rw [EO] at HO
  have kO : ((Um.covN s p l (0 + 1)).2 != 0) = false := by simpa using h
  have HZ := hid h
  clear h EO
  have HE : Hid (Um.covN s p l l.length = Um.covN s p l (0 + 1)) := by rw [h1]; exact hid rfl
  rw [HE.out]
  clear HE hall hrd
  generalize Um.covN s p l (0 + 1) = O at *
  generalize Um.pc l 0 = b0 at *
  generalize l.length = LN at *
  replace h1 := hid h1
  have B0e : ∃ B0, B0 = w.heap.size := ⟨_, rfl⟩
  go_enter Tryd.func39, Tryd.ntmps39
  go_wp2
  generalize (w.alloc (.cells #[.slice a0 s.length cap0, .slice a1 p.length cap1] 25)) = W at *
  obtain ⟨Inv, hInv⟩ : ∃ Inv : Array Bool → Act → World → Prop, ∀ listed aq W', Inv listed aq W' ↔ (∃ rr v13 v14 v15 v16 v17 v12 v18 v19 v6 v7 : Value, aq = { tmps := #[Value.agg #[Value.slice a0 s.length cap0, Value.slice a1 p.length cap1], Value.slice (some { block := b5, off := o5 }) LN c5, Value.pointer (some { block := w.heap.size, off := 0 }), undef, Value.slice none 0 0, Value.nilIface, v6, v7, undef, undef, undef, undef, v12, v13, v14, v15, v16, v17, v18, v19, undef, undef, undef, undef, undef, undef, undef, undef, undef, undef, undef, undef, undef, undef, undef, undef, undef, undef, undef, undef, undef, undef, undef, undef, undef, undef, undef, undef, undef, undef], defers := [] } ∧ Below (W).heap.size (W) W' ∧ (listed.getD 0 false = true → v13 = (.agg #[.slice a0 s.length cap0, .slice a1 p.length cap1])) ∧ (listed.getD 1 false = true → v14 = Value.slice (some { block := b5, off := o5 }) LN c5) ∧ (listed.getD 2 false = true → v15 = .pointer (some ⟨b5, o5, none⟩)) ∧ (listed.getD 3 false = true → v16 = (.slice a6 b0.length c6)) ∧ (listed.getD 4 false = true → v17 = (.tuple #[rr, errV O.2])) ∧ (listed.getD 5 false = true → v12 = (.tuple #[rr, errV O.2])) ∧ (listed.getD 6 false = true → v18 = rr) ∧ (listed.getD 7 false = true → v19 = errV O.2) ∧ (listed.getD 8 false = true → v6 = rr) ∧ (listed.getD 9 false = true → v7 = errV O.2) ∧ (listed.getD 4 false = true → Ls W'.heap.size W' rr O.1) ∧ (listed.getD 5 false = true → listed.getD 4 false = true) ∧ (listed.getD 6 false = true → listed.getD 4 false = true) ∧ (listed.getD 7 false = true → listed.getD 4 false = true) ∧ (listed.getD 8 false = true → listed.getD 4 false = true) ∧ (listed.getD 9 false = true → listed.getD 4 false = true)) := ⟨_, fun _ _ _ => Iff.rfl⟩
  have HI := hid hInv
  clear hInv
  refine Free.region hmx (by kernel_rfl) Inv ?s1 ?s2 ?s3
  case s1 =>
    exact (HI.out _ _ _).2 ⟨undef, undef, undef, undef, undef, undef, undef, undef, undef, undef, undef, rfl, (Below.refl _ _).drew, Free.not_yet, Free.not_yet, Free.not_yet, Free.not_yet, Free.not_yet, Free.not_yet, Free.not_yet, Free.not_yet, Free.not_yet, Free.not_yet, Free.not_yet, Free.not_yet, Free.not_yet, Free.not_yet, Free.not_yet, Free.not_yet⟩
  case s2 =>
    intro i listed aq W1 hix hne hnl hsz hv
    obtain ⟨rr, v13, v14, v15, v16, v17, v12, v18, v19, v6, v7, rfl, hW, l0, l1, l2, l3, l4, l5, l6, l7, l8, l9, lq, ld5, ld6, ld7, ld8, ld9⟩ := (HI.out _ _ _).1 hv
    clear hv
    replace hix : i < 10 := hix
    replace hsz : listed.size = 10 := hsz
    rcases (by omega : i = 0 ∨ i = 1 ∨ i = 2 ∨ i = 3 ∨ i = 4 ∨ i = 5 ∨ i = 6 ∨ i = 7 ∨ i = 8 ∨ i = 9) with rfl | rfl | rfl | rfl | rfl | rfl | rfl | rfl | rfl | rfl
    · have z1 := (hY.step hW).c0
      have z2 := (hY.step hW).c1
      refine Free.op rfl rfl (fun K hK => ?_)
      go_simp
      exact hK _ _ ((HI.out _ _ _).2 ⟨rr, _, v14, v15, v16, v17, v12, v18, v19, v6, v7, rfl, hW, fun _ => rfl, Free.of_set (by decide) l1, Free.of_set (by decide) l2, Free.of_set (by decide) l3, Free.of_set (by decide) l4, Free.of_set (by decide) l5, Free.of_set (by decide) l6, Free.of_set (by decide) l7, Free.of_set (by decide) l8, Free.of_set (by decide) l9, Free.of_set (by decide) lq, fun e => Free.fore (by decide) (ld5 (Free.back (by decide) e)), fun e => Free.fore (by decide) (ld6 (Free.back (by decide) e)), fun e => Free.fore (by decide) (ld7 (Free.back (by decide) e)), fun e => Free.fore (by decide) (ld8 (Free.back (by decide) e)), fun e => Free.fore (by decide) (ld9 (Free.back (by decide) e))⟩)
    · refine Free.op rfl rfl (fun K hK => ?_)
      go_simp
      exact hK _ _ ((HI.out _ _ _).2 ⟨rr, v13, _, v15, v16, v17, v12, v18, v19, v6, v7, rfl, hW, Free.of_set (by decide) l0, fun _ => rfl, Free.of_set (by decide) l2, Free.of_set (by decide) l3, Free.of_set (by decide) l4, Free.of_set (by decide) l5, Free.of_set (by decide) l6, Free.of_set (by decide) l7, Free.of_set (by decide) l8, Free.of_set (by decide) l9, Free.of_set (by decide) lq, fun e => Free.fore (by decide) (ld5 (Free.back (by decide) e)), fun e => Free.fore (by decide) (ld6 (Free.back (by decide) e)), fun e => Free.fore (by decide) (ld7 (Free.back (by decide) e)), fun e => Free.fore (by decide) (ld8 (Free.back (by decide) e)), fun e => Free.fore (by decide) (ld9 (Free.back (by decide) e))⟩)
    · refine Free.op rfl rfl (fun K hK => ?_)
      obtain rfl := l1 (hne 1 (by kernel_rfl))
      go_simp
      exact hK _ _ ((HI.out _ _ _).2 ⟨rr, v13, _, _, v16, v17, v12, v18, v19, v6, v7, rfl, hW, Free.of_set (by decide) l0, fun _ => rfl, fun _ => rfl, Free.of_set (by decide) l3, Free.of_set (by decide) l4, Free.of_set (by decide) l5, Free.of_set (by decide) l6, Free.of_set (by decide) l7, Free.of_set (by decide) l8, Free.of_set (by decide) l9, Free.of_set (by decide) lq, fun e => Free.fore (by decide) (ld5 (Free.back (by decide) e)), fun e => Free.fore (by decide) (ld6 (Free.back (by decide) e)), fun e => Free.fore (by decide) (ld7 (Free.back (by decide) e)), fun e => Free.fore (by decide) (ld8 (Free.back (by decide) e)), fun e => Free.fore (by decide) (ld9 (Free.back (by decide) e))⟩)
    · have z3 := (hW.cell (p := ⟨b5, o5, none⟩) hlt).trans z0
      refine Free.op rfl rfl (fun K hK => ?_)
      obtain rfl := l2 (hne 2 (by kernel_rfl))
      go_simp
      exact hK _ _ ((HI.out _ _ _).2 ⟨rr, v13, v14, _, _, v17, v12, v18, v19, v6, v7, rfl, hW, Free.of_set (by decide) l0, Free.of_set (by decide) l1, fun _ => rfl, fun _ => rfl, Free.of_set (by decide) l4, Free.of_set (by decide) l5, Free.of_set (by decide) l6, Free.of_set (by decide) l7, Free.of_set (by decide) l8, Free.of_set (by decide) l9, Free.of_set (by decide) lq, fun e => Free.fore (by decide) (ld5 (Free.back (by decide) e)), fun e => Free.fore (by decide) (ld6 (Free.back (by decide) e)), fun e => Free.fore (by decide) (ld7 (Free.back (by decide) e)), fun e => Free.fore (by decide) (ld8 (Free.back (by decide) e)), fun e => Free.fore (by decide) (ld9 (Free.back (by decide) e))⟩)
    · refine Free.op rfl rfl (fun K hK => ?_)
      obtain rfl := l0 (hne 0 (by kernel_rfl))
      obtain rfl := l3 (hne 3 (by kernel_rfl))
      go_wp2_with (go_at_call 61; refine (HO _ (hf.step hW) (hp.step hW) (hx0.step hW)).out.mono ?_; rintro e W3 ⟨r, rfl, hq1, hb⟩)
      exact (HI.out _ _ _).2 ⟨_, _, v14, v15, _, _, v12, v18, v19, v6, v7, rfl, hW.trans (hb.mono hW.size), fun _ => rfl, Free.of_set (by decide) l1, Free.of_set (by decide) l2, fun _ => rfl, fun _ => rfl, Free.never ld5 hnl (by decide), Free.never ld6 hnl (by decide), Free.never ld7 hnl (by decide), Free.never ld8 hnl (by decide), Free.never ld9 hnl (by decide), fun _ => hq1, Free.never ld5 hnl (by decide), Free.never ld6 hnl (by decide), Free.never ld7 hnl (by decide), Free.never ld8 hnl (by decide), Free.never ld9 hnl (by decide)⟩
    · refine Free.op rfl rfl (fun K hK => ?_)
      obtain rfl := l4 (hne 4 (by kernel_rfl))
      go_simp
      exact hK _ _ ((HI.out _ _ _).2 ⟨rr, v13, v14, v15, v16, _, _, v18, v19, v6, v7, rfl, hW, Free.of_set (by decide) l0, Free.of_set (by decide) l1, Free.of_set (by decide) l2, Free.of_set (by decide) l3, fun _ => rfl, fun _ => rfl, Free.of_set (by decide) l6, Free.of_set (by decide) l7, Free.of_set (by decide) l8, Free.of_set (by decide) l9, Free.of_set (by decide) lq, fun _ => Free.fore (by decide) (hne 4 (by kernel_rfl)), fun e => Free.fore (by decide) (ld6 (Free.back (by decide) e)), fun e => Free.fore (by decide) (ld7 (Free.back (by decide) e)), fun e => Free.fore (by decide) (ld8 (Free.back (by decide) e)), fun e => Free.fore (by decide) (ld9 (Free.back (by decide) e))⟩)
    · refine Free.op rfl rfl (fun K hK => ?_)
      obtain rfl := l5 (hne 5 (by kernel_rfl))
      go_simp
      exact hK _ _ ((HI.out _ _ _).2 ⟨rr, v13, v14, v15, v16, v17, _, _, v19, v6, v7, rfl, hW, Free.of_set (by decide) l0, Free.of_set (by decide) l1, Free.of_set (by decide) l2, Free.of_set (by decide) l3, Free.of_set (by decide) l4, fun _ => rfl, fun _ => rfl, Free.of_set (by decide) l7, Free.of_set (by decide) l8, Free.of_set (by decide) l9, Free.of_set (by decide) lq, fun e => Free.fore (by decide) (ld5 (Free.back (by decide) e)), fun _ => Free.fore (by decide) (ld5 (hne 5 (by kernel_rfl))), fun e => Free.fore (by decide) (ld7 (Free.back (by decide) e)), fun e => Free.fore (by decide) (ld8 (Free.back (by decide) e)), fun e => Free.fore (by decide) (ld9 (Free.back (by decide) e))⟩)
    · refine Free.op rfl rfl (fun K hK => ?_)
      obtain rfl := l5 (hne 5 (by kernel_rfl))
      go_simp
      exact hK _ _ ((HI.out _ _ _).2 ⟨rr, v13, v14, v15, v16, v17, _, v18, _, v6, v7, rfl, hW, Free.of_set (by decide) l0, Free.of_set (by decide) l1, Free.of_set (by decide) l2, Free.of_set (by decide) l3, Free.of_set (by decide) l4, fun _ => rfl, Free.of_set (by decide) l6, fun _ => rfl, Free.of_set (by decide) l8, Free.of_set (by decide) l9, Free.of_set (by decide) lq, fun e => Free.fore (by decide) (ld5 (Free.back (by decide) e)), fun e => Free.fore (by decide) (ld6 (Free.back (by decide) e)), fun _ => Free.fore (by decide) (ld5 (hne 5 (by kernel_rfl))), fun e => Free.fore (by decide) (ld8 (Free.back (by decide) e)), fun e => Free.fore (by decide) (ld9 (Free.back (by decide) e))⟩)
    · refine Free.op rfl rfl (fun K hK => ?_)
      obtain rfl := (l6 (hne 6 (by kernel_rfl))).symm
      go_simp
      exact hK _ _ ((HI.out _ _ _).2 ⟨rr, v13, v14, v15, v16, v17, v12, _, v19, _, v7, rfl, hW, Free.of_set (by decide) l0, Free.of_set (by decide) l1, Free.of_set (by decide) l2, Free.of_set (by decide) l3, Free.of_set (by decide) l4, Free.of_set (by decide) l5, fun _ => rfl, Free.of_set (by decide) l7, fun _ => rfl, Free.of_set (by decide) l9, Free.of_set (by decide) lq, fun e => Free.fore (by decide) (ld5 (Free.back (by decide) e)), fun e => Free.fore (by decide) (ld6 (Free.back (by decide) e)), fun e => Free.fore (by decide) (ld7 (Free.back (by decide) e)), fun _ => Free.fore (by decide) (ld6 (hne 6 (by kernel_rfl))), fun e => Free.fore (by decide) (ld9 (Free.back (by decide) e))⟩)
    · refine Free.op rfl rfl (fun K hK => ?_)
      obtain rfl := l7 (hne 7 (by kernel_rfl))
      go_simp
      exact hK _ _ ((HI.out _ _ _).2 ⟨rr, v13, v14, v15, v16, v17, v12, v18, _, v6, _, rfl, hW, Free.of_set (by decide) l0, Free.of_set (by decide) l1, Free.of_set (by decide) l2, Free.of_set (by decide) l3, Free.of_set (by decide) l4, Free.of_set (by decide) l5, Free.of_set (by decide) l6, fun _ => rfl, Free.of_set (by decide) l8, fun _ => rfl, Free.of_set (by decide) lq, fun e => Free.fore (by decide) (ld5 (Free.back (by decide) e)), fun e => Free.fore (by decide) (ld6 (Free.back (by decide) e)), fun e => Free.fore (by decide) (ld7 (Free.back (by decide) e)), fun e => Free.fore (by decide) (ld8 (Free.back (by decide) e)), fun _ => Free.fore (by decide) (ld7 (hne 7 (by kernel_rfl)))⟩)
  case s3 =>
    intro listed aq W1 hall hsz hv
    obtain ⟨rr, v13, v14, v15, v16, v17, v12, v18, v19, v6, v7, rfl, hW, l0, l1, l2, l3, l4, l5, l6, l7, l8, l9, lq, ld5, ld6, ld7, ld8, ld9⟩ := (HI.out _ _ _).1 hv
    clear hv HI
    obtain rfl := l0 (Free.listed_of hall hsz 0 (by decide))
    obtain rfl := l1 (Free.listed_of hall hsz 1 (by decide))
    obtain rfl := l2 (Free.listed_of hall hsz 2 (by decide))
    obtain rfl := l3 (Free.listed_of hall hsz 3 (by decide))
    obtain rfl := l4 (Free.listed_of hall hsz 4 (by decide))
    obtain rfl := l5 (Free.listed_of hall hsz 5 (by decide))
    obtain rfl := (l6 (Free.listed_of hall hsz 6 (by decide))).symm
    obtain rfl := l7 (Free.listed_of hall hsz 7 (by decide))
    obtain rfl := (l8 (Free.listed_of hall hsz 8 (by decide))).symm
    obtain rfl := l9 (Free.listed_of hall hsz 9 (by decide))
    have hq := lq (Free.listed_of hall hsz 4 (by decide))
    clear lq ld5 ld6 ld7 ld8 ld9
    clear hall hsz
    have hB := hBW.trans (hW.mono hBW.size)
    replace hf := hf.step hW
    replace hp := hp.step hW
    replace hY := hY.step hW
    obtain ⟨a7, c7, rfl, -⟩ := (id hq)
    clear HO hx0 z0
    replace h1 := h1.out
    subst h1
    go_wp2
    all_goals
      refine wp_loop_rounds 1 ?_
      rw [rounds_succ]
      go_wp2
      go_returns
      refine ⟨_, ?_, hq, hB⟩
      rw [HZ.out, errV_none]
      rfl

theorem cover_hull {a b : List (Int × Int)} {Z : List (Int × Int) × Int} (h : Um.boxesF a b = 0) (e : Z = (Um.hullN a b a.length, 0)) (u v : Value) (w : World) (hs1 : Ls w.heap.size w u a) (hs2 : Ls w.heap.size w v b) :
    Calls Tryd.prog 62 #[u, v] w fun e w' => ∃ r, e = .returned (.tuple #[r, errV Z.2]) ∧ Ls w'.heap.size w' r Z.1 ∧ Below w.heap.size w w' := by
  have := bhull_any a b u v w hs1 hs2
  have e2 : (hullA a b, Um.boxesF a b) = Z := by unfold hullA; rw [if_pos h, h, e]
  rw [e2] at this
  exact this

set_option maxRecDepth 100000 in
set_option maxHeartbeats 16000000 in
theorem cover_more (s : List (List Um.Tm)) (v0 : Value) (p : List (Int × Int)) (v1 : Value) (l : List (List (Int × Int))) (v : Value) (w : World) (hf : Lf w.heap.size w v0 s) (hp : Ls w.heap.size w v1 p) (hl : Lb w.heap.size w v l) (h0 : 0 < l.length) (h32 : l.length ≤ 32) (hrd : ∀ i, i < l.length → Um.readyF s p (Um.pc l i) = 0) (h : (Um.covN s p l (0 + 1)).2 = 0) (h2 : 2 ≤ l.length) :
    Calls Tryd.prog 39 #[.agg #[v0, v1], v] w fun e w' => ∃ r, e = .returned (.tuple #[r, errV (Um.covN s p l l.length).2]) ∧ Ls w'.heap.size w' r (Um.covN s p l l.length).1 ∧ Below w.heap.size w w' := by
  have ve := errV_none
  have q1 := errG
  have q2 := errGn
  have q3 := errE
  have q4 := errN
  obtain ⟨a0, cap0, rfl, -⟩ := (id hf)
  obtain ⟨a1, cap1, rfl, -⟩ := (id hp)
  have hY := SyAt.new w (.slice a0 s.length cap0) (.slice a1 p.length cap1) 25 rfl
  have hBW : Below w.heap.size w (w.alloc (.cells #[.slice a0 s.length cap0, .slice a1 p.length cap1] 25)) := by go_grown
  replace hf := hf.step hBW
  replace hp := hp.step hBW
  replace hl := hl.step hBW
  obtain ⟨b5, o5, c5, rfl, hcap, hlt, hall⟩ := hl.open (by intro e; rw [e] at h0; simp at h0)
  have hmx : Tryd.prog.follows .mixedOrders = true := by kernel_rfl
  obtain ⟨x0, z0, hx0⟩ := hall 0 h0
  rw [Nat.add_zero] at z0
  replace hx0 : Ls _ _ _ (Um.pc l 0) := hx0
  obtain ⟨a6, c6, rfl, -⟩ := (id hx0)
  have h0' : (0 : Int) < (l.length : Int) := by omega
  have HO := fun w hf hp hs => hid (sof_any s (.slice a0 s.length cap0) p (.slice a1 p.length cap1) (Um.pc l 0) (.slice a6 (Um.pc l 0).length c6) w hf hp hs)
  clear hl
  have EO : Um.ofAll s p (Um.pc l 0) = Um.covN s p l (0 + 1) := by rw [Um.ofAll_yes (hrd 0 h0), Um.cov_one]
  rw [EO] at HO
  have kO : ((Um.covN s p l (0 + 1)).2 != 0) = false := by simpa using h
  have HZ := hid h
  clear h EO
  have HALL := hid hall
  have hc1 : ¬ c5 = 1 := by omega
  have HRD := hid hrd
  have HMO := fun (k : Nat) (hk : k + 1 < l.length) hz hu => hid (Um.cov_more hrd hk (k := k) hz hu)
  have HHA := fun (k : Nat) (hk : k < l.length) hu => hid (Um.cov_halt (s := s) (p := p) (l := l) hk (k := k) hu)
  clear hall hrd
  generalize eA : Um.covN s p l (0 + 1) = O at HO kO HZ
  replace eA := hid eA
  generalize Um.pc l 0 = b0 at HO hx0 z0
  generalize l.length = LN at *
  have B0e : ∃ B0, B0 = w.heap.size := ⟨_, rfl⟩
  go_enter Tryd.func39, Tryd.ntmps39
  go_wp2
  generalize (w.alloc (.cells #[.slice a0 s.length cap0, .slice a1 p.length cap1] 25)) = W at *
  obtain ⟨Inv, hInv⟩ : ∃ Inv : Array Bool → Act → World → Prop, ∀ listed aq W', Inv listed aq W' ↔ (∃ rr v13 v14 v15 v16 v17 v12 v18 v19 v6 v7 : Value, aq = { tmps := #[Value.agg #[Value.slice a0 s.length cap0, Value.slice a1 p.length cap1], Value.slice (some { block := b5, off := o5 }) LN c5, Value.pointer (some { block := w.heap.size, off := 0 }), undef, Value.slice none 0 0, Value.nilIface, v6, v7, undef, undef, undef, undef, v12, v13, v14, v15, v16, v17, v18, v19, undef, undef, undef, undef, undef, undef, undef, undef, undef, undef, undef, undef, undef, undef, undef, undef, undef, undef, undef, undef, undef, undef, undef, undef, undef, undef, undef, undef, undef, undef], defers := [] } ∧ Below (W).heap.size (W) W' ∧ (listed.getD 0 false = true → v13 = (.agg #[.slice a0 s.length cap0, .slice a1 p.length cap1])) ∧ (listed.getD 1 false = true → v14 = Value.slice (some { block := b5, off := o5 }) LN c5) ∧ (listed.getD 2 false = true → v15 = .pointer (some ⟨b5, o5, none⟩)) ∧ (listed.getD 3 false = true → v16 = (.slice a6 b0.length c6)) ∧ (listed.getD 4 false = true → v17 = (.tuple #[rr, errV O.2])) ∧ (listed.getD 5 false = true → v12 = (.tuple #[rr, errV O.2])) ∧ (listed.getD 6 false = true → v18 = rr) ∧ (listed.getD 7 false = true → v19 = errV O.2) ∧ (listed.getD 8 false = true → v6 = rr) ∧ (listed.getD 9 false = true → v7 = errV O.2) ∧ (listed.getD 4 false = true → Ls W'.heap.size W' rr O.1) ∧ (listed.getD 5 false = true → listed.getD 4 false = true) ∧ (listed.getD 6 false = true → listed.getD 4 false = true) ∧ (listed.getD 7 false = true → listed.getD 4 false = true) ∧ (listed.getD 8 false = true → listed.getD 4 false = true) ∧ (listed.getD 9 false = true → listed.getD 4 false = true)) := ⟨_, fun _ _ _ => Iff.rfl⟩
  have HI := hid hInv
  clear hInv
  refine Free.region hmx (by kernel_rfl) Inv ?s1 ?s2 ?s3
  case s1 =>
    exact (HI.out _ _ _).2 ⟨undef, undef, undef, undef, undef, undef, undef, undef, undef, undef, undef, rfl, (Below.refl _ _).drew, Free.not_yet, Free.not_yet, Free.not_yet, Free.not_yet, Free.not_yet, Free.not_yet, Free.not_yet, Free.not_yet, Free.not_yet, Free.not_yet, Free.not_yet, Free.not_yet, Free.not_yet, Free.not_yet, Free.not_yet, Free.not_yet⟩
  case s2 =>
    intro i listed aq W1 hix hne hnl hsz hv
    obtain ⟨rr, v13, v14, v15, v16, v17, v12, v18, v19, v6, v7, rfl, hW, l0, l1, l2, l3, l4, l5, l6, l7, l8, l9, lq, ld5, ld6, ld7, ld8, ld9⟩ := (HI.out _ _ _).1 hv
    clear hv
    replace hix : i < 10 := hix
    replace hsz : listed.size = 10 := hsz
    rcases (by omega : i = 0 ∨ i = 1 ∨ i = 2 ∨ i = 3 ∨ i = 4 ∨ i = 5 ∨ i = 6 ∨ i = 7 ∨ i = 8 ∨ i = 9) with rfl | rfl | rfl | rfl | rfl | rfl | rfl | rfl | rfl | rfl
    · have z1 := (hY.step hW).c0
      have z2 := (hY.step hW).c1
      refine Free.op rfl rfl (fun K hK => ?_)
      go_simp
      exact hK _ _ ((HI.out _ _ _).2 ⟨rr, _, v14, v15, v16, v17, v12, v18, v19, v6, v7, rfl, hW, fun _ => rfl, Free.of_set (by decide) l1, Free.of_set (by decide) l2, Free.of_set (by decide) l3, Free.of_set (by decide) l4, Free.of_set (by decide) l5, Free.of_set (by decide) l6, Free.of_set (by decide) l7, Free.of_set (by decide) l8, Free.of_set (by decide) l9, Free.of_set (by decide) lq, fun e => Free.fore (by decide) (ld5 (Free.back (by decide) e)), fun e => Free.fore (by decide) (ld6 (Free.back (by decide) e)), fun e => Free.fore (by decide) (ld7 (Free.back (by decide) e)), fun e => Free.fore (by decide) (ld8 (Free.back (by decide) e)), fun e => Free.fore (by decide) (ld9 (Free.back (by decide) e))⟩)
    · refine Free.op rfl rfl (fun K hK => ?_)
      go_simp
      exact hK _ _ ((HI.out _ _ _).2 ⟨rr, v13, _, v15, v16, v17, v12, v18, v19, v6, v7, rfl, hW, Free.of_set (by decide) l0, fun _ => rfl, Free.of_set (by decide) l2, Free.of_set (by decide) l3, Free.of_set (by decide) l4, Free.of_set (by decide) l5, Free.of_set (by decide) l6, Free.of_set (by decide) l7, Free.of_set (by decide) l8, Free.of_set (by decide) l9, Free.of_set (by decide) lq, fun e => Free.fore (by decide) (ld5 (Free.back (by decide) e)), fun e => Free.fore (by decide) (ld6 (Free.back (by decide) e)), fun e => Free.fore (by decide) (ld7 (Free.back (by decide) e)), fun e => Free.fore (by decide) (ld8 (Free.back (by decide) e)), fun e => Free.fore (by decide) (ld9 (Free.back (by decide) e))⟩)
    · refine Free.op rfl rfl (fun K hK => ?_)
      obtain rfl := l1 (hne 1 (by kernel_rfl))
      go_simp
      exact hK _ _ ((HI.out _ _ _).2 ⟨rr, v13, _, _, v16, v17, v12, v18, v19, v6, v7, rfl, hW, Free.of_set (by decide) l0, fun _ => rfl, fun _ => rfl, Free.of_set (by decide) l3, Free.of_set (by decide) l4, Free.of_set (by decide) l5, Free.of_set (by decide) l6, Free.of_set (by decide) l7, Free.of_set (by decide) l8, Free.of_set (by decide) l9, Free.of_set (by decide) lq, fun e => Free.fore (by decide) (ld5 (Free.back (by decide) e)), fun e => Free.fore (by decide) (ld6 (Free.back (by decide) e)), fun e => Free.fore (by decide) (ld7 (Free.back (by decide) e)), fun e => Free.fore (by decide) (ld8 (Free.back (by decide) e)), fun e => Free.fore (by decide) (ld9 (Free.back (by decide) e))⟩)
    · have z3 := (hW.cell (p := ⟨b5, o5, none⟩) hlt).trans z0
      refine Free.op rfl rfl (fun K hK => ?_)
      obtain rfl := l2 (hne 2 (by kernel_rfl))
      go_simp
      exact hK _ _ ((HI.out _ _ _).2 ⟨rr, v13, v14, _, _, v17, v12, v18, v19, v6, v7, rfl, hW, Free.of_set (by decide) l0, Free.of_set (by decide) l1, fun _ => rfl, fun _ => rfl, Free.of_set (by decide) l4, Free.of_set (by decide) l5, Free.of_set (by decide) l6, Free.of_set (by decide) l7, Free.of_set (by decide) l8, Free.of_set (by decide) l9, Free.of_set (by decide) lq, fun e => Free.fore (by decide) (ld5 (Free.back (by decide) e)), fun e => Free.fore (by decide) (ld6 (Free.back (by decide) e)), fun e => Free.fore (by decide) (ld7 (Free.back (by decide) e)), fun e => Free.fore (by decide) (ld8 (Free.back (by decide) e)), fun e => Free.fore (by decide) (ld9 (Free.back (by decide) e))⟩)
    · refine Free.op rfl rfl (fun K hK => ?_)
      obtain rfl := l0 (hne 0 (by kernel_rfl))
      obtain rfl := l3 (hne 3 (by kernel_rfl))
      go_wp2_with (go_at_call 61; refine (HO _ (hf.step hW) (hp.step hW) (hx0.step hW)).out.mono ?_; rintro e W3 ⟨r, rfl, hq1, hb⟩)
      exact (HI.out _ _ _).2 ⟨_, _, v14, v15, _, _, v12, v18, v19, v6, v7, rfl, hW.trans (hb.mono hW.size), fun _ => rfl, Free.of_set (by decide) l1, Free.of_set (by decide) l2, fun _ => rfl, fun _ => rfl, Free.never ld5 hnl (by decide), Free.never ld6 hnl (by decide), Free.never ld7 hnl (by decide), Free.never ld8 hnl (by decide), Free.never ld9 hnl (by decide), fun _ => hq1, Free.never ld5 hnl (by decide), Free.never ld6 hnl (by decide), Free.never ld7 hnl (by decide), Free.never ld8 hnl (by decide), Free.never ld9 hnl (by decide)⟩
    · refine Free.op rfl rfl (fun K hK => ?_)
      obtain rfl := l4 (hne 4 (by kernel_rfl))
      go_simp
      exact hK _ _ ((HI.out _ _ _).2 ⟨rr, v13, v14, v15, v16, _, _, v18, v19, v6, v7, rfl, hW, Free.of_set (by decide) l0, Free.of_set (by decide) l1, Free.of_set (by decide) l2, Free.of_set (by decide) l3, fun _ => rfl, fun _ => rfl, Free.of_set (by decide) l6, Free.of_set (by decide) l7, Free.of_set (by decide) l8, Free.of_set (by decide) l9, Free.of_set (by decide) lq, fun _ => Free.fore (by decide) (hne 4 (by kernel_rfl)), fun e => Free.fore (by decide) (ld6 (Free.back (by decide) e)), fun e => Free.fore (by decide) (ld7 (Free.back (by decide) e)), fun e => Free.fore (by decide) (ld8 (Free.back (by decide) e)), fun e => Free.fore (by decide) (ld9 (Free.back (by decide) e))⟩)
    · refine Free.op rfl rfl (fun K hK => ?_)
      obtain rfl := l5 (hne 5 (by kernel_rfl))
      go_simp
      exact hK _ _ ((HI.out _ _ _).2 ⟨rr, v13, v14, v15, v16, v17, _, _, v19, v6, v7, rfl, hW, Free.of_set (by decide) l0, Free.of_set (by decide) l1, Free.of_set (by decide) l2, Free.of_set (by decide) l3, Free.of_set (by decide) l4, fun _ => rfl, fun _ => rfl, Free.of_set (by decide) l7, Free.of_set (by decide) l8, Free.of_set (by decide) l9, Free.of_set (by decide) lq, fun e => Free.fore (by decide) (ld5 (Free.back (by decide) e)), fun _ => Free.fore (by decide) (ld5 (hne 5 (by kernel_rfl))), fun e => Free.fore (by decide) (ld7 (Free.back (by decide) e)), fun e => Free.fore (by decide) (ld8 (Free.back (by decide) e)), fun e => Free.fore (by decide) (ld9 (Free.back (by decide) e))⟩)
    · refine Free.op rfl rfl (fun K hK => ?_)
      obtain rfl := l5 (hne 5 (by kernel_rfl))
      go_simp
      exact hK _ _ ((HI.out _ _ _).2 ⟨rr, v13, v14, v15, v16, v17, _, v18, _, v6, v7, rfl, hW, Free.of_set (by decide) l0, Free.of_set (by decide) l1, Free.of_set (by decide) l2, Free.of_set (by decide) l3, Free.of_set (by decide) l4, fun _ => rfl, Free.of_set (by decide) l6, fun _ => rfl, Free.of_set (by decide) l8, Free.of_set (by decide) l9, Free.of_set (by decide) lq, fun e => Free.fore (by decide) (ld5 (Free.back (by decide) e)), fun e => Free.fore (by decide) (ld6 (Free.back (by decide) e)), fun _ => Free.fore (by decide) (ld5 (hne 5 (by kernel_rfl))), fun e => Free.fore (by decide) (ld8 (Free.back (by decide) e)), fun e => Free.fore (by decide) (ld9 (Free.back (by decide) e))⟩)
    · refine Free.op rfl rfl (fun K hK => ?_)
      obtain rfl := (l6 (hne 6 (by kernel_rfl))).symm
      go_simp
      exact hK _ _ ((HI.out _ _ _).2 ⟨rr, v13, v14, v15, v16, v17, v12, _, v19, _, v7, rfl, hW, Free.of_set (by decide) l0, Free.of_set (by decide) l1, Free.of_set (by decide) l2, Free.of_set (by decide) l3, Free.of_set (by decide) l4, Free.of_set (by decide) l5, fun _ => rfl, Free.of_set (by decide) l7, fun _ => rfl, Free.of_set (by decide) l9, Free.of_set (by decide) lq, fun e => Free.fore (by decide) (ld5 (Free.back (by decide) e)), fun e => Free.fore (by decide) (ld6 (Free.back (by decide) e)), fun e => Free.fore (by decide) (ld7 (Free.back (by decide) e)), fun _ => Free.fore (by decide) (ld6 (hne 6 (by kernel_rfl))), fun e => Free.fore (by decide) (ld9 (Free.back (by decide) e))⟩)
    · refine Free.op rfl rfl (fun K hK => ?_)
      obtain rfl := l7 (hne 7 (by kernel_rfl))
      go_simp
      exact hK _ _ ((HI.out _ _ _).2 ⟨rr, v13, v14, v15, v16, v17, v12, v18, _, v6, _, rfl, hW, Free.of_set (by decide) l0, Free.of_set (by decide) l1, Free.of_set (by decide) l2, Free.of_set (by decide) l3, Free.of_set (by decide) l4, Free.of_set (by decide) l5, Free.of_set (by decide) l6, fun _ => rfl, Free.of_set (by decide) l8, fun _ => rfl, Free.of_set (by decide) lq, fun e => Free.fore (by decide) (ld5 (Free.back (by decide) e)), fun e => Free.fore (by decide) (ld6 (Free.back (by decide) e)), fun e => Free.fore (by decide) (ld7 (Free.back (by decide) e)), fun e => Free.fore (by decide) (ld8 (Free.back (by decide) e)), fun _ => Free.fore (by decide) (ld7 (hne 7 (by kernel_rfl)))⟩)
  case s3 =>
    intro listed aq W1 hall hsz hv
    obtain ⟨rr, v13, v14, v15, v16, v17, v12, v18, v19, v6, v7, rfl, hW, l0, l1, l2, l3, l4, l5, l6, l7, l8, l9, lq, ld5, ld6, ld7, ld8, ld9⟩ := (HI.out _ _ _).1 hv
    clear hv HI
    obtain rfl := l0 (Free.listed_of hall hsz 0 (by decide))
    obtain rfl := l1 (Free.listed_of hall hsz 1 (by decide))
    obtain rfl := l2 (Free.listed_of hall hsz 2 (by decide))
    obtain rfl := l3 (Free.listed_of hall hsz 3 (by decide))
    obtain rfl := l4 (Free.listed_of hall hsz 4 (by decide))
    obtain rfl := l5 (Free.listed_of hall hsz 5 (by decide))
    obtain rfl := (l6 (Free.listed_of hall hsz 6 (by decide))).symm
    obtain rfl := l7 (Free.listed_of hall hsz 7 (by decide))
    obtain rfl := (l8 (Free.listed_of hall hsz 8 (by decide))).symm
    obtain rfl := l9 (Free.listed_of hall hsz 9 (by decide))
    have hq := lq (Free.listed_of hall hsz 4 (by decide))
    clear lq ld5 ld6 ld7 ld8 ld9
    clear hall hsz
    have hB := hBW.trans (hW.mono hBW.size)
    replace hf := hf.step hW
    replace hp := hp.step hW
    replace hY := hY.step hW
    obtain ⟨a7, c7, rfl, -⟩ := (id hq)
    clear HO hx0 z0
    go_wp2
    have hF := Fr.start W1
    go_loopw [6, 26] (fun u i wr => ∃ k : Nat, k + 1 ≤ LN ∧ i = .int .i64 k ∧ Ls wr.heap.size wr u (Um.covN s p l (k + 1)).1 ∧ Hid ((Um.covN s p l (k + 1)).2 = 0) ∧ Fr W1 wr []) (fun _ i _ => LN - (intOf i).toNat)
    case atStart => exact ⟨0, by omega, rfl, by rw [eA.out]; exact hq, by rw [eA.out]; exact HZ, hF⟩
    case round =>
      clear hF hq eA HZ kO
      obtain ⟨k, hk, rfl, hA, hz, hF⟩ := hrel
      replace hf := hf.step hF.below
      replace hp := hp.step hF.below
      replace hY := hY.step hF.below
      have y0 := hY.c0
      have y1 := hY.c1
      by_cases hkl : k + 1 < LN
      · have hkk : (k : Int) < ((LN - 1 : Nat) : Int) := by omega
        obtain ⟨xk, pk, hs⟩ := HALL.out (k + 1) hkl
        have hBX := hW.trans (hF.below.mono hW.size)
        have yk := (hBX.cell (p := ⟨b5, o5 + (k + 1), none⟩) hlt).trans pk
        rw [show o5 + (k + 1) = o5 + 1 + k by omega] at yk
        replace hs : Ls _ _ _ (Um.pc l (k + 1)) := (hs.keep hBX).wide hBX.size
        obtain ⟨a3, c3, rfl, -⟩ := (id hs)
        have HO1 := fun w hf hp hs => hid (sof_any s (.slice a0 s.length cap0) p (.slice a1 p.length cap1) (Um.pc l (k + 1)) (.slice a3 (Um.pc l (k + 1)).length c3) w hf hp hs)
        rw [Um.ofAll_yes (HRD.out (k + 1) hkl)] at HO1
        have HM := fun hu => HMO k hkl hz.out hu
        have HX := fun hu => HHA (k + 1) hkl hu
        obtain ⟨a4, c4, rfl, -⟩ := (id hA)
        clear HALL HRD HMO HHA hz pk hBX
        generalize e9 : Um.covN s p l (k + 1 + 1) = A2 at HM
        replace e9 := hid e9
        generalize Um.covN s p l (k + 1) = A at *
        generalize Um.behR s p (Um.pc l (k + 1)) = N at *
        generalize Um.pc l (k + 1) = bk at *
        by_cases hN : N.2 = 0
        · have kN : (N.2 != 0) = false := by simpa using hN
          have HMM := HM hN
          have HH := fun (y : Value) w h1 h2 => hid (cover_hull HMM.out.1 HMM.out.2 (.slice a4 A.1.length c4) y w h1 h2)
          have HZ2 : Hid (A2.2 = 0) := by rw [HMM.out.2]; exact hid rfl
          have kA : (A2.2 != 0) = false := by simpa using HZ2.out
          clear HM HX hN HMM
          go_wp2_with (first | (go_at_call 61; refine (HO1 _ hf hp hs).out.mono ?_; rintro e wn ⟨r, rfl, hr, hb⟩; replace hf := hf.step hb; replace hp := hp.step hb; replace hY := hY.step hb; replace hA := hA.step hb; replace hF := hF.step hb; obtain ⟨a8, c8, rfl, -⟩ := (id hr); clear hb HO1 hs yk y0 y1) | (go_at_call 62; refine (HH _ _ hA hr).out.mono ?_; rintro e wm ⟨r2, rfl, hr2, hb⟩; replace hF := hF.step hb; obtain ⟨a9, c9, rfl, -⟩ := (id hr2); clear hb HH hA hr))
          exact ⟨⟨k + 1, by omega, by simp, by rw [e9.out]; exact hr2, by rw [e9.out]; exact HZ2, hF⟩, by simp [intOf]; omega⟩
        · have kN : (N.2 != 0) = true := by simpa using hN
          have HY := HX hN
          clear HM HX hN
          go_wp2_with (go_at_call 61; refine (HO1 _ hf hp hs).out.mono ?_; rintro e wn ⟨r, rfl, hr, hb⟩; replace hf := hf.step hb; replace hp := hp.step hb; replace hY := hY.step hb; replace hA := hA.step hb; replace hF := hF.step hb; obtain ⟨a8, c8, rfl, -⟩ := (id hr); clear hb HO1 hs yk y0 y1)
          go_returns
          rw [HY.out]
          exact ⟨_, rfl, Ls.nil _ _, hB.trans (hF.below.mono hB.size)⟩
      · obtain rfl : LN = k + 1 := by omega
        clear HALL HRD HMO HHA y0 y1
        obtain ⟨a4, c4, rfl, -⟩ := (id hA)
        go_wp2
        go_returns
        refine ⟨_, ?_, hA, hB.trans (hF.below.mono hB.size)⟩
        rw [hz.out, errV_none]
        rfl

theorem cover_any (s : List (List Um.Tm)) (v0 : Value) (p : List (Int × Int)) (v1 : Value) (b : List (Int × Int)) (n : Nat) (v : Value) (w : World) (hf : Lf w.heap.size w v0 s) (hp : Ls w.heap.size w v1 p) (hl : Lb w.heap.size w v (Um.piecesN b n)) (h : Um.sysF s p = 0) (h2 : Um.piecesF b n = 0) :
    Calls Tryd.prog 39 #[.agg #[v0, v1], v] w fun e w' => ∃ r, e = .returned (.tuple #[r, errV (Um.covAll s p b n).2]) ∧ Ls w'.heap.size w' r (Um.covAll s p b n).1 ∧ Below w.heap.size w w' := by
  obtain ⟨hb, g0, g5⟩ := Um.piecesF_ok.1 h2
  have h0 := Um.pieces_pos b n
  have h32 := Um.pieces_small (b := b) (k := n) (by omega)
  by_cases h3 : b.length = s.length
  · have hr := Um.ready_ok.2 ⟨h, hb, h3⟩
    rw [Um.covAll_is (Um.covF_ok.2 ⟨hr, g0, g5⟩)]
    have hrd : ∀ i, i < (Um.piecesN b n).length → Um.readyF s p (Um.pc (Um.piecesN b n) i) = 0 := fun i hi => Um.piece_ready hr n hi
    by_cases h4 : (Um.covN s p (Um.piecesN b n) (0 + 1)).2 = 0
    · by_cases h5 : (Um.piecesN b n).length = 1
      · exact cover_one s v0 p v1 _ v w hf hp hl h0 h32 hrd h4 h5
      · exact cover_more s v0 p v1 _ v w hf hp hl h0 h32 hrd h4 (by omega)
    · have e : Um.ofAll s p (Um.pc (Um.piecesN b n) 0) = Um.behR s p (Um.pc (Um.piecesN b n) 0) := Um.ofAll_yes (hrd 0 h0)
      rw [Um.cov_one] at h4
      rw [Um.cov_halt h0 h4]
      rw [← e] at h4 ⊢
      exact cover_bad s v0 p v1 _ v w hf hp hl h0 h32 h4
  · rw [Um.covAll_shape h h2 h3]
    have e := Um.piece_shape h hb h3 n
    have := cover_bad s v0 p v1 _ v w hf hp hl h0 h32 (by rw [e]; decide)
    rw [e] at this
    exact this

set_option maxRecDepth 100000 in
set_option maxHeartbeats 8000000 in
theorem cvs_sys (s : List (List Um.Tm)) (v0 : Value) (p : List (Int × Int)) (v1 : Value) (b : List (Int × Int)) (v : Value) (n : Int) (w : World) (hf : Lf w.heap.size w v0 s) (hp : Ls w.heap.size w v1 p) (hs : Ls w.heap.size w v b) (h : ¬ Um.sysF s p = 0) :
    Calls Tryd.prog 15 #[.agg #[v0, v1], v, .int .i64 n] w fun e w' => ∃ r, e = .returned (.tuple #[r, errV (Um.covAll s p b n).2]) ∧ Ls w'.heap.size w' r (Um.covAll s p b n).1 ∧ Below w.heap.size w w' := by
  have ve := errV_none
  have q1 := errG
  have q2 := errGn
  have q3 := errE
  have q4 := errN
  obtain ⟨a0, cap0, rfl, -⟩ := (id hf)
  obtain ⟨a1, cap1, rfl, -⟩ := (id hp)
  obtain ⟨a2, cap2, rfl, -⟩ := (id hs)
  have hY := SyAt.new w (.slice a0 s.length cap0) (.slice a1 p.length cap1) 25 rfl
  have hBW : Below w.heap.size w (w.alloc (.cells #[.slice a0 s.length cap0, .slice a1 p.length cap1] 25)) := by go_grown
  have y0 := hY.c0
  have y1 := hY.c1
  replace hf := hf.step hBW
  replace hp := hp.step hBW
  replace hs := hs.step hBW
  have HV := fun w hf hp => hid (scheck_any s (.slice a0 s.length cap0) p (.slice a1 p.length cap1) w hf hp)
  have HM : Hid (Um.covAll s p b n = ([], Um.sysF s p)) := by
    have e : Um.covF s p b n = Um.sysF s p := by unfold Um.covF; rw [if_neg h]
    rw [Um.covAll_not (by rw [e]; exact h), e]
    exact hid rfl
  have kG : (Um.sysF s p != 0) = true := by simpa using h
  clear h
  generalize Um.sysF s p = G at *
  go_enter Tryd.func15, Tryd.ntmps15
  go_wp2_with (go_at_call 38; refine (HV _ hf hp).out.mono ?_; rintro e wn ⟨rfl, hb⟩; replace hf := hf.step hb; replace hp := hp.step hb; replace hs := hs.step hb; replace hY := hY.step hb; have hB := hBW.trans (hb.mono hBW.size); clear hb HV hBW y0 y1)
  go_returns
  rw [HM.out]
  exact ⟨_, rfl, Ls.nil _ _, hB⟩

set_option maxRecDepth 100000 in
set_option maxHeartbeats 8000000 in
theorem cvs_pie (s : List (List Um.Tm)) (v0 : Value) (p : List (Int × Int)) (v1 : Value) (b : List (Int × Int)) (v : Value) (n : Int) (w : World) (hf : Lf w.heap.size w v0 s) (hp : Ls w.heap.size w v1 p) (hs : Ls w.heap.size w v b) (h : Um.sysF s p = 0) (h2 : ¬ Um.piecesF b n = 0) :
    Calls Tryd.prog 15 #[.agg #[v0, v1], v, .int .i64 n] w fun e w' => ∃ r, e = .returned (.tuple #[r, errV (Um.covAll s p b n).2]) ∧ Ls w'.heap.size w' r (Um.covAll s p b n).1 ∧ Below w.heap.size w w' := by
  have ve := errV_none
  have q1 := errG
  have q2 := errGn
  have q3 := errE
  have q4 := errN
  obtain ⟨a0, cap0, rfl, -⟩ := (id hf)
  obtain ⟨a1, cap1, rfl, -⟩ := (id hp)
  obtain ⟨a2, cap2, rfl, -⟩ := (id hs)
  have hY := SyAt.new w (.slice a0 s.length cap0) (.slice a1 p.length cap1) 25 rfl
  have hBW : Below w.heap.size w (w.alloc (.cells #[.slice a0 s.length cap0, .slice a1 p.length cap1] 25)) := by go_grown
  have y0 := hY.c0
  have y1 := hY.c1
  replace hf := hf.step hBW
  replace hp := hp.step hBW
  replace hs := hs.step hBW
  have HV := fun w hf hp => hid (scheck_any s (.slice a0 s.length cap0) p (.slice a1 p.length cap1) w hf hp)
  have HP := fun w hs => hid (cvPieces_any b (.slice a2 b.length cap2) n w hs)
  have HM : Hid (Um.covAll s p b n = ([], Um.piecesF b n)) := by
    have e : Um.covF s p b n = Um.piecesF b n := by unfold Um.covF; rw [if_pos h, if_neg h2]
    rw [Um.covAll_not (by rw [e]; exact h2), e]
    exact hid rfl
  rw [Um.piecesAll_none h2] at HP
  have kP : (Um.piecesF b n != 0) = true := by simpa using h2
  have kG : (Um.sysF s p != 0) = false := by simpa using h
  clear h h2
  generalize Um.sysF s p = G at *
  generalize Um.piecesF b n = P at *
  go_enter Tryd.func15, Tryd.ntmps15
  go_wp2_with (first | (go_at_call 38; refine (HV _ hf hp).out.mono ?_; rintro e wn ⟨rfl, hb⟩; replace hf := hf.step hb; replace hp := hp.step hb; replace hs := hs.step hb; replace hY := hY.step hb; have hB := hBW.trans (hb.mono hBW.size); clear hb HV hBW y0 y1) | (go_at_call 9; refine (HP _ hs).out.mono ?_; rintro e wk ⟨r, rfl, hr, hb⟩; replace hf := hf.step hb; replace hp := hp.step hb; replace hY := hY.step hb; replace hB := hB.trans (hb.mono hB.size); have y0 := hY.c0; have y1 := hY.c1; obtain ⟨a8, c8, rfl, -⟩ := (id hr); clear hb hs HP))
  go_returns
  rw [HM.out]
  exact ⟨_, rfl, Ls.nil _ _, hB⟩

set_option maxRecDepth 100000 in
set_option maxHeartbeats 8000000 in
theorem cvs_yes (s : List (List Um.Tm)) (v0 : Value) (p : List (Int × Int)) (v1 : Value) (b : List (Int × Int)) (v : Value) (n : Nat) (w : World) (hf : Lf w.heap.size w v0 s) (hp : Ls w.heap.size w v1 p) (hs : Ls w.heap.size w v b) (h : Um.sysF s p = 0) (h2 : Um.piecesF b n = 0) :
    Calls Tryd.prog 15 #[.agg #[v0, v1], v, .int .i64 n] w fun e w' => ∃ r, e = .returned (.tuple #[r, errV (Um.covAll s p b n).2]) ∧ Ls w'.heap.size w' r (Um.covAll s p b n).1 ∧ Below w.heap.size w w' := by
  have ve := errV_none
  have q1 := errG
  have q2 := errGn
  have q3 := errE
  have q4 := errN
  obtain ⟨a0, cap0, rfl, -⟩ := (id hf)
  obtain ⟨a1, cap1, rfl, -⟩ := (id hp)
  obtain ⟨a2, cap2, rfl, -⟩ := (id hs)
  have hY := SyAt.new w (.slice a0 s.length cap0) (.slice a1 p.length cap1) 25 rfl
  have hBW : Below w.heap.size w (w.alloc (.cells #[.slice a0 s.length cap0, .slice a1 p.length cap1] 25)) := by go_grown
  have y0 := hY.c0
  have y1 := hY.c1
  replace hf := hf.step hBW
  replace hp := hp.step hBW
  replace hs := hs.step hBW
  have HV := fun w hf hp => hid (scheck_any s (.slice a0 s.length cap0) p (.slice a1 p.length cap1) w hf hp)
  have HP := fun w hs => hid (cvPieces_any b (.slice a2 b.length cap2) n w hs)
  rw [Um.piecesAll_yes h2] at HP
  have HN := fun (y : Value) wz hf hp hl => hid (cover_any s (.slice a0 s.length cap0) p (.slice a1 p.length cap1) b n y wz hf hp hl h h2)
  have kP : (Um.piecesF b n != 0) = false := by simpa using h2
  have kG : (Um.sysF s p != 0) = false := by simpa using h
  clear h h2
  generalize Um.covAll s p b n = O at *
  generalize Um.sysF s p = G at *
  generalize Um.piecesF b n = P at *
  generalize Um.piecesN b n = L at *
  go_enter Tryd.func15, Tryd.ntmps15
  go_wp2_with (first | (go_at_call 38; refine (HV _ hf hp).out.mono ?_; rintro e wn ⟨rfl, hb⟩; replace hf := hf.step hb; replace hp := hp.step hb; replace hs := hs.step hb; replace hY := hY.step hb; have hB := hBW.trans (hb.mono hBW.size); clear hb HV hBW y0 y1) | (go_at_call 9; refine (HP _ hs).out.mono ?_; rintro e wk ⟨r, rfl, hr, hb⟩; replace hf := hf.step hb; replace hp := hp.step hb; replace hY := hY.step hb; replace hB := hB.trans (hb.mono hB.size); have y0 := hY.c0; have y1 := hY.c1; obtain ⟨a8, c8, rfl, -⟩ := (id hr); clear hb hs HP) | (go_at_call 39; refine (HN _ _ hf hp hr).out.mono ?_; rintro e wm ⟨r2, rfl, hr2, hb⟩; replace hB := hB.trans (hb.mono hB.size); obtain ⟨a9, c9, rfl, -⟩ := (id hr2); clear hb HN))
  go_returns
  exact ⟨_, rfl, hr2, hB⟩

theorem cvStep_any (s : List (List Um.Tm)) (v0 : Value) (p : List (Int × Int)) (v1 : Value) (b : List (Int × Int)) (v : Value) (n : Int) (w : World) (hf : Lf w.heap.size w v0 s) (hp : Ls w.heap.size w v1 p) (hs : Ls w.heap.size w v b) :
    Calls Tryd.prog 15 #[.agg #[v0, v1], v, .int .i64 n] w fun e w' => ∃ r, e = .returned (.tuple #[r, errV (Um.covAll s p b n).2]) ∧ Ls w'.heap.size w' r (Um.covAll s p b n).1 ∧ Below w.heap.size w w' := by
  by_cases h : Um.sysF s p = 0
  · by_cases h2 : Um.piecesF b n = 0
    · have g := Um.piecesF_ok.1 h2
      obtain ⟨k, rfl⟩ : ∃ k : Nat, n = k := ⟨n.toNat, by omega⟩
      exact cvs_yes s v0 p v1 b v k w hf hp hs h h2
    · exact cvs_pie s v0 p v1 b v n w hf hp hs h h2
  · exact cvs_sys s v0 p v1 b v n w hf hp hs h
end Go.Proofs.YtkeoafbkbblnaaaDoor
