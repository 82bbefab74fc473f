/-
  What package log answers: All, Hull.
-/
import Derived.Test.YthgehlonjoafmaaDoorLogW
import Derived.Test.YthgehlonjoafmaaDoorBoxM
import Derived.Test.YthgehlonjoafmaaDoorMems2
namespace Go.Proofs.YthgehlonjoafmaaDoor
set_option linter.unusedSimpArgs false
open Go.RowKit

set_option maxRecDepth 100000 in
set_option maxHeartbeats 16000000 in
theorem lgAll (base p : Nat) (k : Option Nat) (s : Um.LogS) (w : World) (hL : Lg base w p k s) :
    Calls Tryd.prog 12 #[.pointer (some ⟨p, 0, none⟩)] w fun e w' => ∃ r, e = .returned r ∧ Lb w'.heap.size w' r s.done ∧ Below w.heap.size w w' := by
  have ve := errV_none
  have q1 := errG
  have q2 := errGn
  have q3 := errE
  have q4 := errN
  obtain ⟨i0, hi0, hz0, hz1, hz2⟩ := info_parts info_boxes
  obtain ⟨kv, rfl, hb, ho⟩ := (id hL).cells
  have x1 : w.cell? ⟨p, 1, none⟩ = some (kv) := hb.cell 1 rfl
  obtain ⟨ak, ck, rfl⟩ := owns_slice ho
  have HWH := hid (lgWhole base s (.slice ak s.bytes.length ck) w hL.ok ho)
  have HBX := hid hL.ok.box
  have h20 := hL.ok.many
  clear hL hb ho
  generalize s.bytes.length = N at *
  generalize s.done = ds at *
  go_enter Tryd.func12, Tryd.ntmps12
  go_wp2_with fail
  refine HWH.out.mono ?_
  rintro e wn ⟨ar, cr, rfl, hr, hB0⟩
  have HRR := hid hr
  have HLM : Hid ((ds.map Um.recB).length = ds.length) := hid (List.length_map _)
  clear hr HWH x1
  go_wp2
  have HR0 : Hid (RowB wn.heap.size 29 wn (.slice none 0 0) (ds.take 0)) := hid ⟨[], World.ownsRow_nil _ _ _ _, fun j hj => absurd hj (Nat.not_lt_zero _)⟩
  go_loopw [3, 12] (fun u i wq => ∃ m : Nat, m ≤ ds.length ∧ i = .int .i64 m ∧ RowB wn.heap.size 29 wq u (ds.take m) ∧ Below wn.heap.size wn wq) (fun _ i _ => ds.length - (intOf i).toNat)
  case atStart => exact ⟨0, Nat.zero_le _, rfl, HR0.out, Below.refl _ _⟩
  case round =>
    clear HR0
    obtain ⟨m, hm, rfl, hR, hB⟩ := hrel
    by_cases hml : m < ds.length
    · have hmm : (m : Int) < (ds.length : Int) := by omega
      obtain ⟨b6, o6, c6, e6', -, m6, n6⟩ := HRR.out.open (by intro e; have := HLM.out; rw [e] at this; simp at this; omega)
      rw [HLM.out] at e6'
      cases e6'
      obtain ⟨x6, p6, e6⟩ := n6 m (by rw [HLM.out]; exact hml)
      have y6 := (hB.cell (p := ⟨b6, o6 + m, none⟩) m6).trans p6
      replace e6 := (e6.keep hB).wide hB.size
      have hbm := HBX.out _ (List.getElem_mem hml)
      have e7 : (ds.map Um.recB)[m]?.getD [] = Um.recB ds[m] := by rw [List.getElem?_map, List.getElem?_eq_getElem hml]; rfl
      rw [e7] at e6
      have HTK : Hid (ds.take (m + 1) = ds.take m ++ [ds[m]]) := hid (by rw [List.take_add_one, List.getElem?_eq_getElem hml]; rfl)
      have HNE : Hid (∀ j, j < (ds.take m).length → (ds.take m)[j]?.getD [] ≠ []) := hid (by
        intro j hj
        have hj2 : j < ds.length := by rw [List.length_take] at hj; omega
        have hj3 : j < m := by rw [List.length_take] at hj; omega
        rw [List.getElem?_take_of_lt hj3, List.getElem?_eq_getElem hj2]
        exact (Um.box_ok.1 (HBX.out _ (List.getElem_mem hj2)).1).1)
      have HTL : Hid ((ds.take m).length = m) := hid (by rw [List.length_take]; omega)
      generalize ds[m] = bx at *
      have HRD := fun w h => hid (read_any bx x6 w h hbm.1)
      have HBN := hid (Um.box_ok.1 hbm.1).1
      clear n6 p6 e7 hbm
      obtain ⟨a9, c9, rfl, -⟩ := (id e6)
      generalize (Um.recB bx).length = n9 at *
      obtain ⟨xs0, ho0, -⟩ := hR.row
      rw [HTL.out] at ho0
      obtain ⟨au, cu, eu⟩ := owns_slice ho0
      subst eu
      have HLT := hid (fun g e => (ho0.lt g e).2)
      clear ho0
      go_wp2_with fail
      refine (HRD _ e6).out.mono ?_
      rintro e wk ⟨r, rfl, hr, hb, hn⟩
      obtain ⟨a8, c8, e8, -⟩ := (id hr)
      obtain ⟨n8, h8⟩ : ∃ n8, n8 = bx.length := ⟨_, rfl⟩
      rw [← h8] at e8
      subst e8
      replace hB := hB.trans (hb.mono hB.size)
      have hR2 := (hR.step hb).step ((Below.refl _ _).alloc (Nat.le_refl _) (.cells #[.slice a8 n8 c8] 29))
      obtain ⟨xs, hown, hh⟩ := hR2.row
      rw [HTL.out] at hown
      have HO := hid hown
      have HH := hid hh
      have HV1 := hid (hr.step ((Below.refl _ _).alloc (Nat.le_refl _) (.cells #[.slice a8 n8 c8] 29)))
      have HK1 : Hid (∀ g, (Value.slice a8 n8 c8).ownBlock = some g → (Value.slice au m cu).ownBlock ≠ some g) := hid (fun g e f => by
        have := hn g e
        have := HLT.out g f
        omega)
      have HSZ : Hid (wn.heap.size ≤ (wk.alloc (.cells #[.slice a8 n8 c8] 29)).heap.size) := hid (Nat.le_trans hB.size (by simp))
      clear hR hR2 hown hh hr hn hb e6 HRD y6 h8
      go_wp2_with (at_builtin; refine wpList_append_own_at _ rfl _ _ 34 rfl wn.heap.size 29 i0 (.slice none 0 0) 1 24 Tryd.underlying34 hi0 hz0 hz1 hz2 rfl (by decide) _ _ _ rfl HO.out _ 1 1 [.slice a8 n8 c8] rfl rfl (cell_one_at _ _ _ rfl) (by simp [Value.oneCell']) (by unfold maxLen; omega) (by omega) HSZ.out ?_; intro v' w1 hown' hgrow _ hat; obtain ⟨a7, c7, e7⟩ := owns_slice hown'; subst e7)
      have HR3 := hid (RowB.more (base := wn.heap.size) (T := 29) HH.out (by rw [HTL.out]; simpa using HO.out.1) HV1.out HK1.out (fun z q hz g hg hq => ls_block hz hq g hg) HBN.out HNE.out (by rw [HTL.out]; exact hown') hgrow hat)
      have HB3 : Hid (Below wn.heap.size wn w1) := hid ((hB.alloc hB.size _).grown hgrow HSZ.out (fun j e => owns_from HO.out j e))
      refine ⟨⟨m + 1, hml, by simp, ?_, HB3.out⟩, by simp [intOf]; omega⟩
      rw [HTK.out]
      exact HR3.out
    · obtain rfl : m = ds.length := by omega
      have HL := hid hR.lb
      rw [List.take_length] at HL
      obtain ⟨a7, c7, e7, -⟩ := (id HL.out)
      subst e7
      clear hR
      go_wp2
      go_returns
      exact ⟨_, rfl, HL.out, hB0.trans (hB.mono hB0.size)⟩

set_option maxRecDepth 100000 in
set_option maxHeartbeats 8000000 in
theorem lgHull_none (base p : Nat) (k : Option Nat) (s : Um.LogS) (w : World) (hL : Lg base w p k s) (h : s.done = []) :
    Calls Tryd.prog 16 #[.pointer (some ⟨p, 0, none⟩)] w fun e w' => ∃ r, e = .returned (.tuple #[r, errV (Um.hullE s.done)]) ∧ Ls w'.heap.size w' r (Um.hullF s.done) ∧ Below w.heap.size w w' := by
  have ve := errV_none
  have q1 := errG
  have q2 := errGn
  have q3 := errE
  have q4 := errN
  have HAL := hid (lgAll base p k s w hL)
  have HF : Hid (Um.hullE s.done = 5 ∧ Um.hullF s.done = []) := hid (by unfold Um.hullE Um.hullF; rw [if_pos h, if_pos h]; exact ⟨rfl, rfl⟩)
  clear hL
  go_enter Tryd.func16, Tryd.ntmps16
  go_wp2_with fail
  refine HAL.out.mono ?_
  rintro e wn ⟨r, rfl, hr, hB0⟩
  obtain ⟨ar, cr, er, -⟩ := (id hr)
  rw [h] at er
  replace er : r = .slice ar 0 cr := er
  subst er
  clear hr h HAL
  go_wp2
  go_returns
  rw [HF.out.1, HF.out.2]
  exact ⟨_, rfl, Ls.nil _ _, hB0⟩

set_option maxRecDepth 100000 in
set_option maxHeartbeats 16000000 in
theorem lgHull_some (base p : Nat) (k : Option Nat) (s : Um.LogS) (w : World) (hL : Lg base w p k s) (h : s.done ≠ []) :
    Calls Tryd.prog 16 #[.pointer (some ⟨p, 0, none⟩)] w fun e w' => ∃ r, e = .returned (.tuple #[r, errV (Um.hullE s.done)]) ∧ Ls w'.heap.size w' r (Um.hullF s.done) ∧ Below w.heap.size w w' := by
  have ve := errV_none
  have q1 := errG
  have q2 := errGn
  have q3 := errE
  have q4 := errN
  have HAL := hid (lgAll base p k s w hL)
  have HF := hid (Um.hullF_some h)
  have HBX := hid hL.ok.box
  have h20 := hL.ok.many
  have hp : 0 < s.done.length := List.length_pos_iff.2 h
  generalize s.sides = sn at *
  generalize s.done = ds at *
  clear h hL
  have k0 : ((ds.length : Int) == 0) = false := beq_false_of_ne (by omega)
  go_enter Tryd.func16, Tryd.ntmps16
  go_wp2_with fail
  refine HAL.out.mono ?_
  rintro e wn ⟨r, rfl, hr, hB0⟩
  obtain ⟨b6, o6, c6, e6, hc6, m6, n6⟩ := hr.open (fun e => by rw [e] at hp; exact absurd hp (by decide))
  subst e6
  obtain ⟨x0, p0, e0⟩ := n6 0 hp
  have HN6 := hid n6
  replace p0 : wn.cell? ⟨b6, o6, none⟩ = some x0 := p0
  obtain ⟨a1, c1, e1, -⟩ := (id e0)
  obtain ⟨n1, hn1⟩ : ∃ n1, n1 = (ds[0]?.getD []).length := ⟨_, rfl⟩
  rw [← hn1] at e1
  subst e1
  have HE0 : Hid (Ls wn.heap.size wn (.slice a1 n1 c1) (Um.hullTo ds 0)) := hid e0
  clear HAL hr e0 hn1 n6
  have HHU := fun m (hm : m + 1 < ds.length) u v w h1 h2 => hid (bhull_any (Um.hullTo ds m) (ds[m + 1]?.getD []) u v w h1 h2)
  have HTW := fun m (hm : m + 1 < ds.length) => hid (Um.hullTo_two HBX.out hm)
  by_cases hq : c6 = 1
  · have hd : ds.length = 1 := by omega
    subst hq
    have HX : Hid (Um.hullTo ds (ds.length - 1) = Um.hullTo ds 0) := hid (by rw [hd])
    obtain ⟨D, hD⟩ : ∃ D, D = ds.length := ⟨_, rfl⟩
    have HE := hid HF.out.2
    have HG := hid (HF.out.1.trans HX.out)
    clear HHU HTW HF HX HN6
    rw [← hD] at k0 hp h20 hd hc6 ⊢
    have HDD := hid hD
    clear hD
    subst hd
    go_wp2
    refine wp_loop_rounds 1 ?_
    rw [rounds_succ]
    go_wp2
    go_returns
    rw [HG.out, HE.out]
    exact ⟨_, by rw [errV_none]; rfl, HE0.out, hB0⟩
  · obtain ⟨D, hD⟩ : ∃ D, D + 1 = ds.length := ⟨ds.length - 1, by omega⟩
    have HD := hid hD
    rw [← hD] at hp h20 hc6 ⊢
    clear hD k0
    have k0 : ((D : Int) + 1 == 0) = false := beq_false_of_ne (by omega)
    go_wp2
    go_loopw [5, 22] (fun u i wq => ∃ m : Nat, m ≤ D ∧ i = .int .i64 m ∧ Ls wq.heap.size wq u (Um.hullTo ds m) ∧ Below wn.heap.size wn wq) (fun _ i _ => D - (intOf i).toNat)
    case atStart => exact ⟨0, Nat.zero_le _, rfl, HE0.out, Below.refl _ _⟩
    case round =>
      clear HE0
      obtain ⟨m, hm, rfl, hu, hB⟩ := hrel
      obtain ⟨a2, c2, e2, -⟩ := (id hu)
      obtain ⟨n2, hn2⟩ : ∃ n2, n2 = (Um.hullTo ds m).length := ⟨_, rfl⟩
      rw [← hn2] at e2
      subst e2
      clear hn2
      by_cases hml : m < D
      · have hmm : (m : Int) < (D : Int) := by omega
        have hm1 : m + 1 < ds.length := by rw [← HD.out]; omega
        obtain ⟨x6, p6, e6⟩ := HN6.out (m + 1) hm1
        rw [show o6 + (m + 1) = o6 + 1 + m by omega] at p6
        have y6 := (hB.cell (p := ⟨b6, o6 + 1 + m, none⟩) m6).trans p6
        have hbx := (e6.keep hB).wide hB.size
        replace HHU := HHU m hm1
        have HT := HTW m hm1
        have HNX : Hid (Um.hullTo ds (m + 1) = Um.hullN (Um.hullTo ds m) (ds[m + 1]?.getD []) (Um.hullTo ds m).length) := hid rfl
        generalize ds[m + 1]?.getD [] = bx at *
        have HHA : Hid (hullA (Um.hullTo ds m) bx = Um.hullN (Um.hullTo ds m) bx (Um.hullTo ds m).length) := hid (by unfold hullA; rw [if_pos HT.out])
        have kZ : (Um.boxesF (Um.hullTo ds m) bx != 0) = false := by simpa using HT.out
        rw [HHA.out] at HHU
        rw [← HNX.out] at HHU
        generalize Um.boxesF (Um.hullTo ds m) bx = Z at *
        obtain ⟨a9, c9, e9, -⟩ := (id hbx)
        obtain ⟨n9, hn9⟩ : ∃ n9, n9 = bx.length := ⟨_, rfl⟩
        rw [← hn9] at e9
        subst e9
        obtain ⟨H1, hH1⟩ : ∃ H1, H1 = Um.hullTo ds (m + 1) := ⟨_, rfl⟩
        rw [← hH1] at HHU
        have HH1 := hid hH1
        clear HTW HT HHA p6 hn9 e6 hH1 HNX
        go_wp2_with (go_at_call 29; refine (HHU _ _ _ hu hbx).out.mono ?_; rintro e wk ⟨r2, rfl, hr2, hb2⟩; obtain ⟨a3, c3, e3, -⟩ := (id hr2); subst e3; replace hB := hB.trans (hb2.mono hB.size); clear HHU y6)
        refine ⟨⟨m + 1, hml, by simp, ?_, hB⟩, by simp [intOf]; omega⟩
        rw [← HH1.out]
        exact hr2
      · obtain rfl : m = D := by omega
        have HU := hid hu
        clear hu HHU HTW HN6
        go_wp2
        go_returns
        rw [HF.out.1, HF.out.2, ← HD.out]
        exact ⟨_, by rw [errV_none]; rfl, HU.out, hB0.trans (hB.mono hB0.size)⟩

theorem lgHull (base p : Nat) (k : Option Nat) (s : Um.LogS) (w : World) (hL : Lg base w p k s) :
    Calls Tryd.prog 16 #[.pointer (some ⟨p, 0, none⟩)] w fun e w' => ∃ r, e = .returned (.tuple #[r, errV (Um.hullE s.done)]) ∧ Ls w'.heap.size w' r (Um.hullF s.done) ∧ Below w.heap.size w w' := by
  by_cases h : s.done = []
  · exact lgHull_none base p k s w hL h
  · exact lgHull_some base p k s w hL h
end Go.Proofs.YthgehlonjoafmaaDoor
