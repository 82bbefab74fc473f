/-
  What package log answers: Put at every argument, Crash.
-/
import Derived.Test.YthgehlonjoafmaaDoorLogW
import Derived.Test.YthgehlonjoafmaaDoorMems
namespace Go.Proofs.YthgehlonjoafmaaDoor
set_option linter.unusedSimpArgs false
open Go.RowKit

theorem wp_append_at {P : Program} (w : World) {o : Oper} {a : Act} {K : Act → World → Prop} {Q : Exit → Act → World → Prop} (s x : Operand) (t : TypeId)
    (ho : o.op = .call { callee := .builtin .append, args := #[s, x], argTypes := #[t, t] })
    (base : Nat) (e : TypeId) (i : TypeInfo) (z : Value) (size bytes : Nat) (ht : P.underlying t = some (.slice e)) (hi : P.info? e = some i) (hz : i.zero = some z)
    (hsize : i.size = size) (hby : i.bytes = bytes) (hzs : z.cells.size = size) (hsz : 0 < size)
    (v : Value) (n : Nat) (xs : List Value) (hs : a.eval s = v) (hown : w.ownsRow base e size v n xs)
    (ad : Addr) (m c : Nat) (news : List Value) (hx : a.eval x = .slice (some ad) m c) (hl : news.length = m * size) (hnews : ∀ j u, news[j]? = some u → w.cell? (ad.add j) = some u) (h1 : ∀ u ∈ news, u.oneCell' = true)
    (h63 : n + m ≤ maxLen) (hbytes : (n + m) * bytes ≤ 140737488355328) (hbase : base ≤ w.heap.size)
    (h : ∀ v' w', w'.ownsRow base e size v' (n + m) (xs ++ news) → w.grownBy w' v.ownBlock → (v'.ownBlock = v.ownBlock ∨ v'.ownBlock = some w.heap.size) → K (a.put o.dst v') w') : o.wp P a w K Q := by
  obtain ⟨v', w', hr, h2, h3, _, h5⟩ := run_append_own_at (P := P) w base t o.type e i z size bytes ht hi hz hsize hby hzs hsz v n xs hown ad m c news hl hnews h1 h63 hbytes hbase
  exact Lib.wp_append_run w s x t t ho v _ hs hx v' w' hr (h v' w' h2 h3 h5)

set_option maxRecDepth 100000 in
set_option maxHeartbeats 16000000 in
theorem lgPut_stop (base p : Nat) (k : Option Nat) (s : Um.LogS) (b : List (Int × Int)) (v : Value) (w : World) (hL : Lg base w p k s) (hs : Ls w.heap.size w v b) (h : Um.refF s b = 0) (h0 : s.left = 0) :
    Calls Tryd.prog 8 #[.pointer (some ⟨p, 0, none⟩), v] w fun e w' => ∃ k', e = .returned (errV (Um.putF s b)) ∧ Lg base w' p k' (Um.putS s b) ∧ Wrote w w' p k k' := by
  have ve := errV_none
  have q1 := errG
  have q2 := errGn
  have q3 := errE
  have q4 := errN
  have hmx : Tryd.prog.follows .mixedOrders = true := by kernel_rfl
  obtain ⟨i0, hi0, hz0, hz1, hz2⟩ := info_parts info_byte
  obtain ⟨av, cv, rfl, -⟩ := (id hs)
  obtain ⟨q1', q2', q3', q4'⟩ := Um.ref_ok.1 h
  obtain ⟨hb0, hb3⟩ := Um.box_len q3'
  have HF := hid (Um.put_stop h h0)
  have HOK := hid (Um.put_ok (b := b) hL.ok)
  have HRF := fun w hL hs => hid (lgRef_any base p k s b (.slice av b.length cv) w hL hs)
  obtain ⟨R, hR⟩ : ∃ R, R = (Um.recB b).length := ⟨_, rfl⟩
  have HWR := fun w hs => hid (show Calls Tryd.prog 22 #[.slice av b.length cv] w fun e w' => ∃ u, e = .returned u ∧ w'.ownsRow w.heap.size 5 1 u R (bytesV (Um.recB b)) ∧ Below w.heap.size w w' from by rw [hR]; exact written_any b (.slice av b.length cv) w hs (Um.box_ok.1 q3').1 hb3)
  have HR : Hid ((Um.recB b).length = R) := hid hR.symm
  have HST := fun w hL => hid (lgStep_any base p k s w hL)
  have HSS : Hid (Um.stepS s = { s with stop := true }) := hid (by unfold Um.stepS; rw [if_pos h0])
  have HBY : Hid ((Um.stepS s).bytes = s.bytes) := hid (by rw [HSS.out]; rfl)
  obtain ⟨H, hH⟩ : ∃ H, H = R / 2 := ⟨_, rfl⟩
  have hHL : H = s.len / 2 := by rw [hH, hR, Um.recB_len, q4']; rfl
  have HNB : Hid ((Um.putS s b).bytes = s.bytes ++ (Um.recB b).take H) := hid (by
    rw [HF.out.2]
    unfold Um.LogS.bytes
    show Um.recsB s.done ++ (Um.recB b).take (s.len / 2) = _
    rw [hL.ok.on q1', hHL, List.append_nil])
  have HRN : Hid (Um.recB b ≠ []) := hid (by unfold Um.recB; exact List.cons_ne_nil _ _)
  have h525 := hL.ok.small
  have kG : (Um.refF s b != 0) = false := by simpa using h
  have kS : (Um.stepF s != 0) = true := by unfold Um.stepF; rw [if_pos h0]; rfl
  have HGS : Hid (Um.stepF s = 6) := hid (by unfold Um.stepF; rw [if_pos h0])
  have hRL : R ≤ 25 := by rw [hR, Um.recB_len]; omega
  have hR9 : 9 ≤ R := by rw [hR, Um.recB_len]; omega
  have HH : Hid (((Um.recB b).take H).length = H) := hid (by rw [List.length_take, ← hR, hH]; omega)
  have hHR : H ≤ R := by omega
  have qH : (R : Int) / 2 = (H : Int) := by omega
  have hH1 : 0 < H := by omega
  clear hR h h0 q1' q2' q3' q4' hH hHL
  generalize Um.refF s b = G at *
  generalize Um.stepF s = GS at *
  go_enter Tryd.func8, Tryd.ntmps8
  go_wp2_with (go_at_call 21; refine (HRF _ hL hs).out.mono ?_; rintro e wn ⟨rfl, hB⟩; clear HRF)
  go_wp2_with fail
  refine (HWR _ (hs.step hB)).out.mono ?_
  rintro e wq ⟨ur, rfl, hor, hBr⟩
  have hL1 := (hL.step hB).step hBr
  have hpl := (hL.step hB).lt
  have hkl := fun j e => ((hL.step hB).from j e).2
  have hLr : Lu wq.heap.size wq ur (Um.recB b) := lu_owns (by rw [HR.out]; exact hor)
  have hrf := owns_from hor
  have hrl := fun g e => (hor.lt g e).2
  obtain ⟨arr, crr, err⟩ := owns_slice hor
  subst err
  have HB1 := hid (hB.trans (hBr.mono hB.size))
  clear hor hBr hB HWR hs
  go_wp2_with fail
  refine (HST _ hL1).out.mono ?_
  rintro e wm ⟨rfl, hL2, hW⟩
  replace hLr := lu_blk hLr (fun g e => (hW.other (hrl g e) (by have := hrf g e; omega) (fun e2 => by have := hrf g e; have := hkl g e2; omega)).1) hW.size
  have HW := hid ((Wrote.none (p := p) (k := k) HB1.out).trans hW)
  clear HST hL1 hW hrf hrl hkl hpl HB1
  obtain ⟨kv, ek, hb2, ho2⟩ := (id hL2).cells
  rw [HBY.out] at ho2
  obtain ⟨ak, ck, ev⟩ := owns_slice ho2
  subst ev
  have z1 : wm.cell? ⟨p, 1, none⟩ = some (.slice ak s.bytes.length ck) := hb2.cell 1 rfl
  have HAP := hid hL2.apart
  have HGE := hid hL2.ge
  have HLT := hid hL2.lt
  have HFR := hid hL2.from
  have HB2 := hid hb2
  have HO2 := hid ho2
  have hsz : base ≤ wm.heap.size := Nat.le_of_lt (Nat.lt_of_le_of_lt hL2.ge hL2.lt)
  obtain ⟨N, hN⟩ : ∃ N, N = s.bytes.length := ⟨_, rfl⟩
  rw [← hN] at z1 HO2 ek HB2 h525
  have HN := hid hN
  clear hN hb2 ho2 hL2 hL
  obtain ⟨gr, og, cr2, er2, hcr, hlr, hqr⟩ := hLr.out HRN.out
  rw [HR.out] at er2 hcr
  cases er2
  have HCH : Hid (∀ j, j < ((Um.recB b).take H).length → wm.cell? ⟨gr, og + j, none⟩ = some (.int .u8 (((Um.recB b).take H)[j]?.getD 0))) := hid (fun j hj => by
    rw [HH.out] at hj
    rw [hqr j (by rw [HR.out]; omega), List.getElem?_take_of_lt hj])
  have HBS := hid hsz
  clear hLr hqr hlr hsz
  go_wp2
  obtain ⟨Inv, hInv⟩ : ∃ Inv : Array Bool → Act → World → Prop, ∀ listed aq W', Inv listed aq W' ↔ (∃ (v20 v21 v22 v23 v24 v25 v26 v27 v28 v29 v30 v31 v32 : Value) (X1 X2 : World), aq = { tmps := #[Value.pointer (some { block := p, off := 0 }), Value.slice av b.length cv, undef, undef, Value.nilIface, errV G, Value.slice (some { block := gr, off := og }) R crr, errV GS, Value.pointer (some { block := p, off := 0 }), Value.slice av b.length cv, errV G, errV G, Value.bool false, undef, Value.slice av b.length cv, Value.slice (some { block := gr, off := og }) R crr, Value.pointer (some { block := p, off := 0 }), errV GS, errV GS, Value.bool true, v20, v21, v22, v23, v24, v25, v26, v27, v28, v29, v30, v31, v32, undef, undef, undef, undef, undef, undef, undef, undef, undef, undef], defers := [] } ∧ (listed.getD 10 false = false → W' = (wm).drew) ∧ (listed.getD 10 false = true → listed.getD 13 false = false → W' = X1) ∧ (listed.getD 13 false = true → W' = X2) ∧ (listed.getD 10 false = true → X1.ownsRow base 5 1 v30 (N + H) (bytesV s.bytes ++ bytesV ((Um.recB b).take H)) ∧ wm.grownBy X1 (Value.slice ak N ck).ownBlock ∧ (v30.ownBlock = (Value.slice ak N ck).ownBlock ∨ v30.ownBlock = some wm.heap.size)) ∧ (listed.getD 13 false = true → ∃ a7 c7, v30 = .slice a7 (N + H) c7 ∧ X2 = X1.setCell ⟨p, 1, none⟩ (.slice a7 (N + H) c7)) ∧ (listed.getD 13 false = true → listed.getD 10 false = true) ∧ (listed.getD 0 false = true → v20 = Value.pointer (some { block := p, off := 0 })) ∧ (listed.getD 1 false = true → v21 = Value.pointer (some { block := p, off := 0 })) ∧ (listed.getD 2 false = true → v22 = .pointer (some ⟨p, 0, none⟩)) ∧ (listed.getD 3 false = true → v23 = .pointer (some ⟨p, 1, none⟩)) ∧ (listed.getD 4 false = true → v24 = .slice ak N ck) ∧ (listed.getD 5 false = true → v25 = Value.slice (some { block := gr, off := og }) R crr) ∧ (listed.getD 6 false = true → v26 = Value.slice (some { block := gr, off := og }) R crr) ∧ (listed.getD 7 false = true → v27 = .int .i64 (R : Int)) ∧ (listed.getD 8 false = true → v28 = .int .i64 (H : Int)) ∧ (listed.getD 9 false = true → v29 = .slice (some ⟨gr, og, none⟩) H crr) ∧ (listed.getD 11 false = true → v31 = .pointer (some ⟨p, 0, none⟩)) ∧ (listed.getD 12 false = true → v32 = .pointer (some ⟨p, 1, none⟩)) ∧ (listed.getD 10 false = true → listed.getD 4 false = true)) := ⟨_, fun _ _ _ => Iff.rfl⟩
  have HI := hid hInv
  clear hInv
  refine Free.region hmx (by kernel_rfl) Inv ?s1 ?s2 ?s3
  case s1 =>
    exact (HI.out _ _ _).2 ⟨undef, undef, undef, undef, undef, undef, undef, undef, undef, undef, undef, undef, undef, wm, wm, rfl, fun _ => rfl, fun e _ => Free.not_yet e, Free.not_yet, Free.not_yet, Free.not_yet, Free.not_yet, Free.not_yet, Free.not_yet, Free.not_yet, Free.not_yet, Free.not_yet, Free.not_yet, Free.not_yet, Free.not_yet, Free.not_yet, Free.not_yet, Free.not_yet, Free.not_yet, Free.not_yet⟩
  case s2 =>
    intro i listed aq W1 hix hne hnl hsz hv
    obtain ⟨v20, v21, v22, v23, v24, v25, v26, v27, v28, v29, v30, v31, v32, X1, X2, rfl, hw0, hw1, hw2, hp1, hp2, hc1, l0, l1, l2, l3, l4, l5, l6, l7, l8, l9, l11, l12, lc10_4⟩ := (HI.out _ _ _).1 hv
    clear hv
    replace hix : i < 14 := hix
    replace hsz : listed.size = 14 := hsz
    rcases (by omega : i = 0 ∨ i = 1 ∨ i = 2 ∨ i = 3 ∨ i = 4 ∨ i = 5 ∨ i = 6 ∨ i = 7 ∨ i = 8 ∨ i = 9 ∨ i = 10 ∨ i = 11 ∨ i = 12 ∨ i = 13) with rfl | rfl | rfl | rfl | rfl | rfl | rfl | rfl | rfl | rfl | rfl | rfl | rfl | rfl
    · refine Free.op rfl rfl (fun K hK => ?_)
      go_simp
      exact hK _ _ ((HI.out _ _ _).2 ⟨_, v21, v22, v23, v24, v25, v26, v27, v28, v29, v30, v31, v32, X1, X2, rfl, fun e => hw0 ((Free.set_other (by decide) false).symm.trans e), fun e f => hw1 (Free.back (by decide) e) ((Free.set_other (by decide) false).symm.trans f), Free.of_set (by decide) hw2, Free.of_set (by decide) hp1, Free.of_set (by decide) hp2, fun e => Free.fore (by decide) (hc1 (Free.back (by decide) e)), fun _ => rfl, Free.of_set (by decide) l1, Free.of_set (by decide) l2, Free.of_set (by decide) l3, Free.of_set (by decide) l4, Free.of_set (by decide) l5, Free.of_set (by decide) l6, Free.of_set (by decide) l7, Free.of_set (by decide) l8, Free.of_set (by decide) l9, Free.of_set (by decide) l11, Free.of_set (by decide) l12, fun e => Free.fore (by decide) (lc10_4 (Free.back (by decide) e))⟩)
    · refine Free.op rfl rfl (fun K hK => ?_)
      go_simp
      exact hK _ _ ((HI.out _ _ _).2 ⟨v20, _, v22, v23, v24, v25, v26, v27, v28, v29, v30, v31, v32, X1, X2, rfl, fun e => hw0 ((Free.set_other (by decide) false).symm.trans e), fun e f => hw1 (Free.back (by decide) e) ((Free.set_other (by decide) false).symm.trans f), Free.of_set (by decide) hw2, Free.of_set (by decide) hp1, Free.of_set (by decide) hp2, fun e => Free.fore (by decide) (hc1 (Free.back (by decide) e)), Free.of_set (by decide) l0, fun _ => rfl, Free.of_set (by decide) l2, Free.of_set (by decide) l3, Free.of_set (by decide) l4, Free.of_set (by decide) l5, Free.of_set (by decide) l6, Free.of_set (by decide) l7, Free.of_set (by decide) l8, Free.of_set (by decide) l9, Free.of_set (by decide) l11, Free.of_set (by decide) l12, fun e => Free.fore (by decide) (lc10_4 (Free.back (by decide) e))⟩)
    · refine Free.op rfl rfl (fun K hK => ?_)
      obtain rfl := l1 (hne 1 (by kernel_rfl))
      go_simp
      exact hK _ _ ((HI.out _ _ _).2 ⟨v20, _, _, v23, v24, v25, v26, v27, v28, v29, v30, v31, v32, X1, X2, rfl, fun e => hw0 ((Free.set_other (by decide) false).symm.trans e), fun e f => hw1 (Free.back (by decide) e) ((Free.set_other (by decide) false).symm.trans f), Free.of_set (by decide) hw2, Free.of_set (by decide) hp1, Free.of_set (by decide) hp2, fun e => Free.fore (by decide) (hc1 (Free.back (by decide) e)), Free.of_set (by decide) l0, fun _ => rfl, fun _ => rfl, Free.of_set (by decide) l3, Free.of_set (by decide) l4, Free.of_set (by decide) l5, Free.of_set (by decide) l6, Free.of_set (by decide) l7, Free.of_set (by decide) l8, Free.of_set (by decide) l9, Free.of_set (by decide) l11, Free.of_set (by decide) l12, fun e => Free.fore (by decide) (lc10_4 (Free.back (by decide) e))⟩)
    · refine Free.op rfl rfl (fun K hK => ?_)
      obtain rfl := l2 (hne 2 (by kernel_rfl))
      go_simp
      exact hK _ _ ((HI.out _ _ _).2 ⟨v20, v21, _, _, v24, v25, v26, v27, v28, v29, v30, v31, v32, X1, X2, rfl, fun e => hw0 ((Free.set_other (by decide) false).symm.trans e), fun e f => hw1 (Free.back (by decide) e) ((Free.set_other (by decide) false).symm.trans f), Free.of_set (by decide) hw2, Free.of_set (by decide) hp1, Free.of_set (by decide) hp2, fun e => Free.fore (by decide) (hc1 (Free.back (by decide) e)), Free.of_set (by decide) l0, Free.of_set (by decide) l1, fun _ => rfl, fun _ => rfl, Free.of_set (by decide) l4, Free.of_set (by decide) l5, Free.of_set (by decide) l6, Free.of_set (by decide) l7, Free.of_set (by decide) l8, Free.of_set (by decide) l9, Free.of_set (by decide) l11, Free.of_set (by decide) l12, fun e => Free.fore (by decide) (lc10_4 (Free.back (by decide) e))⟩)
    · have h8 : listed.getD 10 false = false := by
        cases e : listed.getD 10 false
        · rfl
        · have q := lc10_4 e; rw [Free.off hnl] at q; cases q
      obtain rfl := hw0 h8
      refine Free.op rfl rfl (fun K hK => ?_)
      obtain rfl := l3 (hne 3 (by kernel_rfl))
      go_simp
      exact hK _ _ ((HI.out _ _ _).2 ⟨v20, v21, v22, _, _, v25, v26, v27, v28, v29, v30, v31, v32, X1, X2, rfl, fun e => hw0 ((Free.set_other (by decide) false).symm.trans e), fun e f => hw1 (Free.back (by decide) e) ((Free.set_other (by decide) false).symm.trans f), Free.of_set (by decide) hw2, Free.of_set (by decide) hp1, Free.of_set (by decide) hp2, fun e => Free.fore (by decide) (hc1 (Free.back (by decide) e)), Free.of_set (by decide) l0, Free.of_set (by decide) l1, Free.of_set (by decide) l2, fun _ => rfl, fun _ => rfl, Free.of_set (by decide) l5, Free.of_set (by decide) l6, Free.of_set (by decide) l7, Free.of_set (by decide) l8, Free.of_set (by decide) l9, Free.of_set (by decide) l11, Free.of_set (by decide) l12, fun _ => Free.set_same (by omega)⟩)
    · refine Free.op rfl rfl (fun K hK => ?_)
      go_simp
      exact hK _ _ ((HI.out _ _ _).2 ⟨v20, v21, v22, v23, v24, _, v26, v27, v28, v29, v30, v31, v32, X1, X2, rfl, fun e => hw0 ((Free.set_other (by decide) false).symm.trans e), fun e f => hw1 (Free.back (by decide) e) ((Free.set_other (by decide) false).symm.trans f), Free.of_set (by decide) hw2, Free.of_set (by decide) hp1, Free.of_set (by decide) hp2, fun e => Free.fore (by decide) (hc1 (Free.back (by decide) e)), Free.of_set (by decide) l0, Free.of_set (by decide) l1, Free.of_set (by decide) l2, Free.of_set (by decide) l3, Free.of_set (by decide) l4, fun _ => rfl, Free.of_set (by decide) l6, Free.of_set (by decide) l7, Free.of_set (by decide) l8, Free.of_set (by decide) l9, Free.of_set (by decide) l11, Free.of_set (by decide) l12, fun e => Free.fore (by decide) (lc10_4 (Free.back (by decide) e))⟩)
    · refine Free.op rfl rfl (fun K hK => ?_)
      go_simp
      exact hK _ _ ((HI.out _ _ _).2 ⟨v20, v21, v22, v23, v24, v25, _, v27, v28, v29, v30, v31, v32, X1, X2, rfl, fun e => hw0 ((Free.set_other (by decide) false).symm.trans e), fun e f => hw1 (Free.back (by decide) e) ((Free.set_other (by decide) false).symm.trans f), Free.of_set (by decide) hw2, Free.of_set (by decide) hp1, Free.of_set (by decide) hp2, fun e => Free.fore (by decide) (hc1 (Free.back (by decide) e)), Free.of_set (by decide) l0, Free.of_set (by decide) l1, Free.of_set (by decide) l2, Free.of_set (by decide) l3, Free.of_set (by decide) l4, Free.of_set (by decide) l5, fun _ => rfl, Free.of_set (by decide) l7, Free.of_set (by decide) l8, Free.of_set (by decide) l9, Free.of_set (by decide) l11, Free.of_set (by decide) l12, fun e => Free.fore (by decide) (lc10_4 (Free.back (by decide) e))⟩)
    · refine Free.op rfl rfl (fun K hK => ?_)
      obtain rfl := l6 (hne 6 (by kernel_rfl))
      go_simp
      exact hK _ _ ((HI.out _ _ _).2 ⟨v20, v21, v22, v23, v24, v25, _, _, v28, v29, v30, v31, v32, X1, X2, rfl, fun e => hw0 ((Free.set_other (by decide) false).symm.trans e), fun e f => hw1 (Free.back (by decide) e) ((Free.set_other (by decide) false).symm.trans f), Free.of_set (by decide) hw2, Free.of_set (by decide) hp1, Free.of_set (by decide) hp2, fun e => Free.fore (by decide) (hc1 (Free.back (by decide) e)), Free.of_set (by decide) l0, Free.of_set (by decide) l1, Free.of_set (by decide) l2, Free.of_set (by decide) l3, Free.of_set (by decide) l4, Free.of_set (by decide) l5, fun _ => rfl, fun _ => rfl, Free.of_set (by decide) l8, Free.of_set (by decide) l9, Free.of_set (by decide) l11, Free.of_set (by decide) l12, fun e => Free.fore (by decide) (lc10_4 (Free.back (by decide) e))⟩)
    · have qW : IntKind.i64.wrap (H : Int) = (H : Int) := by rw [IntKind.wrap_i64]; omega
      refine Free.op rfl rfl (fun K hK => ?_)
      obtain rfl := l7 (hne 7 (by kernel_rfl))
      go_simp
      exact hK _ _ ((HI.out _ _ _).2 ⟨v20, v21, v22, v23, v24, v25, v26, _, _, v29, v30, v31, v32, X1, X2, rfl, fun e => hw0 ((Free.set_other (by decide) false).symm.trans e), fun e f => hw1 (Free.back (by decide) e) ((Free.set_other (by decide) false).symm.trans f), Free.of_set (by decide) hw2, Free.of_set (by decide) hp1, Free.of_set (by decide) hp2, fun e => Free.fore (by decide) (hc1 (Free.back (by decide) e)), Free.of_set (by decide) l0, Free.of_set (by decide) l1, Free.of_set (by decide) l2, Free.of_set (by decide) l3, Free.of_set (by decide) l4, Free.of_set (by decide) l5, Free.of_set (by decide) l6, fun _ => rfl, fun _ => rfl, Free.of_set (by decide) l9, Free.of_set (by decide) l11, Free.of_set (by decide) l12, fun e => Free.fore (by decide) (lc10_4 (Free.back (by decide) e))⟩)
    · have q9 : H ≤ crr := by omega
      refine Free.op rfl rfl (fun K hK => ?_)
      obtain rfl := l5 (hne 5 (by kernel_rfl))
      obtain rfl := l8 (hne 8 (by kernel_rfl))
      go_simp
      exact hK _ _ ((HI.out _ _ _).2 ⟨v20, v21, v22, v23, v24, _, v26, v27, _, _, v30, v31, v32, X1, X2, rfl, fun e => hw0 ((Free.set_other (by decide) false).symm.trans e), fun e f => hw1 (Free.back (by decide) e) ((Free.set_other (by decide) false).symm.trans f), Free.of_set (by decide) hw2, Free.of_set (by decide) hp1, Free.of_set (by decide) hp2, fun e => Free.fore (by decide) (hc1 (Free.back (by decide) e)), Free.of_set (by decide) l0, Free.of_set (by decide) l1, Free.of_set (by decide) l2, Free.of_set (by decide) l3, Free.of_set (by decide) l4, fun _ => rfl, Free.of_set (by decide) l6, Free.of_set (by decide) l7, fun _ => rfl, fun _ => rfl, Free.of_set (by decide) l11, Free.of_set (by decide) l12, fun e => Free.fore (by decide) (lc10_4 (Free.back (by decide) e))⟩)
    · have z10 := hid (Free.off hnl)
      have z13 : Hid (listed.getD 13 false = false) := by
        cases e : listed.getD 13 false
        · exact hid rfl
        · have q := hc1 e; rw [z10.out] at q; cases q
      obtain rfl := hw0 z10.out
      refine Free.op rfl rfl (fun K hK => ?_)
      obtain rfl := l4 (hne 4 (by kernel_rfl))
      obtain rfl := l9 (hne 9 (by kernel_rfl))
      refine wp_append_at _ _ _ 48 rfl base 5 i0 (.int .u8 0) 1 1 Tryd.underlying48 hi0 hz0 hz1 hz2 rfl (by decide) _ _ _ rfl HO2.out _ H _ (bytesV ((Um.recB b).take H)) rfl (by rw [List.length_map, Nat.mul_one]; exact HH.out) (bytes_cells HCH.out) (bytes_one _) (by unfold maxLen; omega) (by omega) HBS.out ?_
      intro v' w1 hown' hgrow hat
      exact hK _ _ ((HI.out _ _ _).2 ⟨v20, v21, v22, v23, _, v25, v26, v27, v28, _, _, v31, v32, _, X2, rfl, (fun e => by rw [Free.set_same (by omega)] at e; cases e), fun _ _ => rfl, (fun e => by rw [Free.set_other (by decide), z13.out] at e; cases e), fun _ => ⟨hown', ⟨hgrow.os, hgrow.tape, hgrow.output, hgrow.size, hgrow.block⟩, hat⟩, (fun e => by rw [Free.set_other (by decide), z13.out] at e; cases e), (fun e => by rw [Free.set_other (by decide), z13.out] at e; cases e), Free.of_set (by decide) l0, Free.of_set (by decide) l1, Free.of_set (by decide) l2, Free.of_set (by decide) l3, fun _ => rfl, Free.of_set (by decide) l5, Free.of_set (by decide) l6, Free.of_set (by decide) l7, Free.of_set (by decide) l8, fun _ => rfl, Free.of_set (by decide) l11, Free.of_set (by decide) l12, fun _ => Free.fore (by decide) (hne 4 (by kernel_rfl))⟩)
    · refine Free.op rfl rfl (fun K hK => ?_)
      obtain rfl := l0 (hne 0 (by kernel_rfl))
      go_simp
      exact hK _ _ ((HI.out _ _ _).2 ⟨_, v21, v22, v23, v24, v25, v26, v27, v28, v29, v30, _, v32, X1, X2, rfl, fun e => hw0 ((Free.set_other (by decide) false).symm.trans e), fun e f => hw1 (Free.back (by decide) e) ((Free.set_other (by decide) false).symm.trans f), Free.of_set (by decide) hw2, Free.of_set (by decide) hp1, Free.of_set (by decide) hp2, fun e => Free.fore (by decide) (hc1 (Free.back (by decide) e)), fun _ => rfl, Free.of_set (by decide) l1, Free.of_set (by decide) l2, Free.of_set (by decide) l3, Free.of_set (by decide) l4, Free.of_set (by decide) l5, Free.of_set (by decide) l6, Free.of_set (by decide) l7, Free.of_set (by decide) l8, Free.of_set (by decide) l9, fun _ => rfl, Free.of_set (by decide) l12, fun e => Free.fore (by decide) (lc10_4 (Free.back (by decide) e))⟩)
    · refine Free.op rfl rfl (fun K hK => ?_)
      obtain rfl := l11 (hne 11 (by kernel_rfl))
      go_simp
      exact hK _ _ ((HI.out _ _ _).2 ⟨v20, v21, v22, v23, v24, v25, v26, v27, v28, v29, v30, _, _, X1, X2, rfl, fun e => hw0 ((Free.set_other (by decide) false).symm.trans e), fun e f => hw1 (Free.back (by decide) e) ((Free.set_other (by decide) false).symm.trans f), Free.of_set (by decide) hw2, Free.of_set (by decide) hp1, Free.of_set (by decide) hp2, fun e => Free.fore (by decide) (hc1 (Free.back (by decide) e)), Free.of_set (by decide) l0, Free.of_set (by decide) l1, Free.of_set (by decide) l2, Free.of_set (by decide) l3, Free.of_set (by decide) l4, Free.of_set (by decide) l5, Free.of_set (by decide) l6, Free.of_set (by decide) l7, Free.of_set (by decide) l8, Free.of_set (by decide) l9, fun _ => rfl, fun _ => rfl, fun e => Free.fore (by decide) (lc10_4 (Free.back (by decide) e))⟩)
    · have z13 := hid (Free.off hnl)
      have n10 : Hid (listed.getD 10 false = true) := hid (hne 10 (by kernel_rfl))
      obtain rfl := hw1 n10.out z13.out
      have hq1 := hp1 n10.out
      obtain ⟨a7, c7, e7⟩ := owns_slice hq1.1
      subst e7
      have hb3 := HB2.out.grown hq1.2.1 (show (Value.slice ak N ck).ownBlock ≠ some p by rw [ek]; exact HAP.out)
      have z3 : W1.cell? ⟨p, 1, none⟩ = some (.slice ak N ck) := hb3.cell 1 rfl
      have z4 := hb3.free 1
      refine Free.op rfl rfl (fun K hK => ?_)
      obtain rfl := l12 (hne 12 (by kernel_rfl))
      go_simp
      exact hK _ _ ((HI.out _ _ _).2 ⟨v20, v21, v22, v23, v24, v25, v26, v27, v28, v29, _, v31, _, W1, _, rfl, (fun e => by rw [Free.set_other (by decide), n10.out] at e; cases e), (fun _ e => by rw [Free.set_same (by omega)] at e; cases e), fun _ => rfl, Free.of_set (by decide) hp1, fun _ => ⟨_, _, rfl, rfl⟩, fun _ => Free.fore (by decide) n10.out, Free.of_set (by decide) l0, Free.of_set (by decide) l1, Free.of_set (by decide) l2, Free.of_set (by decide) l3, Free.of_set (by decide) l4, Free.of_set (by decide) l5, Free.of_set (by decide) l6, Free.of_set (by decide) l7, Free.of_set (by decide) l8, Free.of_set (by decide) l9, Free.of_set (by decide) l11, fun _ => rfl, fun e => Free.fore (by decide) (lc10_4 (Free.back (by decide) e))⟩)
  case s3 =>
    intro listed aq W1 hall hsz hv
    obtain ⟨v20, v21, v22, v23, v24, v25, v26, v27, v28, v29, v30, v31, v32, X1, X2, rfl, hw0, hw1, hw2, hp1, hp2, hc1, l0, l1, l2, l3, l4, l5, l6, l7, l8, l9, l11, l12, lc10_4⟩ := (HI.out _ _ _).1 hv
    clear hv HI
    replace hp1 := hp1 (Free.listed_of hall hsz 10 (by decide))
    replace hp2 := hp2 (Free.listed_of hall hsz 13 (by decide))
    obtain rfl := hw2 (Free.listed_of hall hsz 13 (by decide))
    obtain rfl := l0 (Free.listed_of hall hsz 0 (by decide))
    obtain rfl := l1 (Free.listed_of hall hsz 1 (by decide))
    obtain rfl := l2 (Free.listed_of hall hsz 2 (by decide))
    obtain rfl := l3 (Free.listed_of hall hsz 3 (by decide))
    obtain rfl := l4 (Free.listed_of hall hsz 4 (by decide))
    obtain rfl := l5 (Free.listed_of hall hsz 5 (by decide))
    obtain rfl := l6 (Free.listed_of hall hsz 6 (by decide))
    obtain rfl := l7 (Free.listed_of hall hsz 7 (by decide))
    obtain rfl := l8 (Free.listed_of hall hsz 8 (by decide))
    obtain rfl := l9 (Free.listed_of hall hsz 9 (by decide))
    obtain rfl := l11 (Free.listed_of hall hsz 11 (by decide))
    obtain rfl := l12 (Free.listed_of hall hsz 12 (by decide))
    clear hall hsz hw0 hw1 hw2 hc1 lc10_4
    obtain ⟨ho3, hg1, hat⟩ := hp1
    obtain ⟨a7, c7, e7, rfl⟩ := hp2
    subst e7
    have HAT := hid hat
    have HG1 := hid hg1
    have HO3 := hid ho3
    have HB3 := hid (HB2.out.grown hg1 (show (Value.slice ak N ck).ownBlock ≠ some p by rw [ek]; exact HAP.out))
    clear hat hg1 ho3
    go_wp2
    go_returns
    rw [HF.out.1]
    have ap : (Value.slice a7 (N + H) c7).ownBlock ≠ some p := fun e => by
      rcases HAT.out with q | q
      · exact HAP.out (by rw [← ek, ← q]; exact e)
      · exact absurd (Option.some.inj (q.symm.trans e)) (Nat.ne_of_gt HLT.out)
    refine ⟨by rw [HGS.out]; rfl, (Value.slice a7 (N + H) c7).ownBlock, ⟨HOK.out, HGE.out, ⟨.slice a7 (N + H) c7, rfl, ?_, ?_⟩, ap⟩, (HW.out.trans (Wrote.grown (k' := (Value.slice a7 (N + H) c7).ownBlock) (by rw [← ek]; exact HG1.out) (by rw [← ek]; exact HAT.out))).trans (Wrote.set _ _ _ _ _)⟩
    · rw [HF.out.2]
      have := HB3.out.set 1 (.slice a7 (N + H) c7) rfl
      rw [HSS.out] at this
      exact this
    · rw [HNB.out, List.length_append, HH.out, ← HN.out, bytesV_append]
      exact owns_other HO3.out ap

theorem lgPut (base p : Nat) (k : Option Nat) (s : Um.LogS) (b : List (Int × Int)) (v : Value) (w : World) (hL : Lg base w p k s) (hs : Ls w.heap.size w v b) :
    Calls Tryd.prog 8 #[.pointer (some ⟨p, 0, none⟩), v] w fun e w' => ∃ k', e = .returned (errV (Um.putF s b)) ∧ Lg base w' p k' (Um.putS s b) ∧ Wrote w w' p k k' := by
  by_cases h : Um.refF s b = 0
  · by_cases h0 : s.left = 0
    · exact lgPut_stop base p k s b v w hL hs h h0
    · exact lgPut_yes base p k s b v w hL hs h h0
  · exact lgPut_not base p k s b v w hL hs h
theorem owns_mono {w : World} {base base' E size n : Nat} {v : Value} {xs : List Value} (h : w.ownsRow base E size v n xs) (hb : base' ≤ base) : w.ownsRow base' E size v n xs := by
  refine ⟨h.1, ?_⟩
  rcases h.2 with h2 | ⟨g, cap, cur, e, hg, h3⟩
  · exact .inl h2
  · exact .inr ⟨g, cap, cur, e, Nat.le_trans hb hg, h3⟩
theorem lu_cut {w : World} {base E N C : Nat} {a : Option Addr} {c : Nat} {l : List Int} (h : w.ownsRow base E 1 (.slice a N c) N (bytesV l)) (hN : N = l.length) (hC : C ≤ N) : Lu w.heap.size w (.slice a C c) (l.take C) := by
  subst hN
  have hl := lu_owns h
  obtain ⟨a2, c2, e2, hc, h2⟩ := hl
  cases e2
  have hlen : (l.take C).length = C := by rw [List.length_take]; omega
  refine ⟨a, c, by rw [hlen], by omega, ?_⟩
  rcases h2 with h2 | ⟨b, off, e3, hlt, hh⟩
  · exact .inl (by rw [h2, List.take_nil])
  · refine .inr ⟨b, off, e3, hlt, fun j hj => ?_⟩
    rw [hh j (by omega), List.getElem?_take_of_lt (by omega)]
theorem recs_flat : ∀ l : List (List (Int × Int)), (l.map Um.recB).flatten = Um.recsB l
  | [] => rfl
  | b :: l => by
    rw [List.map_cons, List.flatten_cons, recs_flat l]
    rfl

set_option maxRecDepth 100000 in
set_option maxHeartbeats 16000000 in
theorem lgCrash (base p : Nat) (k : Option Nat) (s : Um.LogS) (keep : Int) (w : World) (hL : Lg base w p k s) :
    Calls Tryd.prog 11 #[.pointer (some ⟨p, 0, none⟩), .int .i64 keep] w fun e w' => ∃ k', e = .returned (.tuple #[]) ∧ Lg base w' p k' (Um.crashS s keep) ∧ Wrote w w' p k k' := by
  have ve := errV_none
  have q1 := errG
  have q2 := errGn
  have q3 := errE
  have q4 := errN
  have hmx : Tryd.prog.follows .mixedOrders = true := by kernel_rfl
  have hok := hL.ok
  have HK0 := hid hok
  obtain ⟨u, hu, hut⟩ := Um.crash_cut (keep := keep) hok
  have HOK := hid (Um.crash_ok (keep := keep) hok)
  have HWH := fun (v : Value) W hl => hid (whole_any s.sides (Um.crashS s keep).done u v W hl hok.s3 (fun b hb => (HOK.out.box b hb).2) hut HOK.out.many)
  obtain ⟨NB, hNB⟩ : ∃ NB, NB = (Um.crashS s keep).bytes.length := ⟨_, rfl⟩
  have HNB := hid hNB
  have hflat : ((Um.crashS s keep).done.map Um.recB).flatten = (Um.crashS s keep).bytes := by rw [recs_flat]; unfold Um.LogS.bytes; show _ = _ ++ []; rw [List.append_nil]
  have HCC : ∀ (v : Value) (W : World), Lw W.heap.size W v ((Um.crashS s keep).done.map Um.recB) → Hid (Calls Tryd.prog 25 #[v] W fun e w' => ∃ u, e = .returned u ∧ w'.ownsRow W.heap.size 5 1 u NB (bytesV (Um.crashS s keep).bytes) ∧ Below W.heap.size W w') := by
    intro v W hl
    have := concat_any _ v W hl (fun r hr => by obtain ⟨b, hb, rfl⟩ := List.mem_map.1 hr; unfold Um.recB; exact List.cons_ne_nil _ _) (fun r hr => by obtain ⟨b, hb, rfl⟩ := List.mem_map.1 hr; rw [Um.recB_len, (HOK.out.box b hb).2]; have := HOK.out.s3; omega) (by rw [List.length_map]; exact HOK.out.many)
    rw [hflat, ← hNB] at this
    exact hid this
  have h525 := hok.small
  have hsf := hok.safe_le
  have hcl := Um.cut_le (keep := keep) hok
  have hcd : (Um.cutN s keep : Int) = (s.safe : Int) + min (max keep 0) ((s.bytes.length : Int) - s.safe) := by unfold Um.cutN; omega
  obtain ⟨kv, rfl, hb, ho⟩ := (id hL).cells
  have x1 : w.cell? ⟨p, 1, none⟩ = some (kv) := hb.cell 1 rfl
  have x2 : w.cell? ⟨p, 2, none⟩ = some (.int .i64 (s.safe : Int)) := hb.cell 2 rfl
  obtain ⟨ak, ck, rfl⟩ := owns_slice ho
  have HLU := hid (lu_cut ho rfl hcl)
  rw [hu] at HLU
  have HAP := hid hL.apart
  have HGE := hid hL.ge
  have HLT := hid hL.lt
  have HB2 := hid hb
  have HO2 := hid ho
  obtain ⟨N, hN⟩ : ∃ N, N = s.bytes.length := ⟨_, rfl⟩
  obtain ⟨C, hC⟩ : ∃ C, C = Um.cutN s keep := ⟨_, rfl⟩
  rw [← hC] at hcl hcd HLU
  rw [← hN] at x1 HO2 hcl hsf h525 hcd HB2
  have hcc : C ≤ ck := by
    have := lu_owns ho
    obtain ⟨a2, c2, e2, h2, -⟩ := this
    cases e2
    omega
  clear hN hC ho hb hL hok hNB hflat hu hut
  have z1 := x1
  have z2 := x2
  obtain ⟨SF, hSF⟩ : ∃ SF, SF = s.safe := ⟨_, rfl⟩
  rw [← hSF] at x2 z2 hsf hcd
  have HSF := hid hSF
  clear hSF
  obtain ⟨MO, hMO⟩ : ∃ MO : Nat, (MO : Int) = min (max keep 0) ((N : Int) - (SF : Int)) := ⟨(min (max keep 0) ((N : Int) - (SF : Int))).toNat, by omega⟩
  rw [← hMO] at hcd
  have HCD : Hid ((SF : Int) + (MO : Int) = (C : Int)) := hid hcd.symm
  clear hcd
  have HMO := hid hMO
  have qM : min (max keep 0) ((N : Int) - (SF : Int)) = (MO : Int) := hMO.symm
  clear hMO
  go_enter Tryd.func11, Tryd.ntmps11
  go_wp2
  go_quiet (fail)
  go_wp2
  obtain ⟨Inv, hInv⟩ : ∃ Inv : Array Bool → Act → World → Prop, ∀ listed aq W', Inv listed aq W' ↔ (∃ (v18 v19 v20 v21 v22 v23 v24 v25 v26 v27 v28 v29 v30 v31 v32 v33 : Value) (X1 X2 X3 : World), aq = { tmps := #[Value.pointer (some { block := p, off := 0 }), Value.int IntKind.i64 keep, undef, undef, Value.int IntKind.i64 ↑MO, Value.int IntKind.i64 keep, Value.int IntKind.i64 (max keep 0), Value.pointer (some { block := p, off := 0 }), Value.pointer (some { block := p, off := 0 }), Value.pointer (some { block := p, off := 1 }), Value.slice ak N ck, Value.int IntKind.i64 ↑N, Value.pointer (some { block := p, off := 0 }), Value.pointer (some { block := p, off := 0 }), Value.pointer (some { block := p, off := 2 }), Value.int IntKind.i64 ↑SF, Value.int IntKind.i64 (↑N - ↑SF), Value.int IntKind.i64 ↑MO, v18, v19, v20, v21, v22, v23, v24, v25, v26, v27, v28, v29, v30, v31, v32, v33, undef, undef, undef, undef, undef, undef, undef, undef, undef, undef, undef, undef, undef, undef], defers := [] } ∧ (listed.getD 12 false = false → W' = (w.drewN nq).drew) ∧ (listed.getD 12 false = true → listed.getD 13 false = false → W' = X1) ∧ (listed.getD 13 false = true → listed.getD 16 false = false → W' = X2) ∧ (listed.getD 16 false = true → W' = X3) ∧ (listed.getD 12 false = true → Lw X1.heap.size X1 v30 ((Um.crashS s keep).done.map Um.recB) ∧ Below (w.drewN nq).drew.heap.size (w.drewN nq).drew X1) ∧ (listed.getD 13 false = true → X2.ownsRow X1.heap.size 5 1 v31 NB (bytesV (Um.crashS s keep).bytes) ∧ Below X1.heap.size X1 X2) ∧ (listed.getD 16 false = true → ∃ a7 c7, v31 = .slice a7 NB c7 ∧ X3 = X2.setCell ⟨p, 1, none⟩ (.slice a7 NB c7)) ∧ (listed.getD 13 false = true → listed.getD 12 false = true) ∧ (listed.getD 16 false = true → listed.getD 13 false = true) ∧ (listed.getD 0 false = true → v18 = Value.pointer (some { block := p, off := 0 })) ∧ (listed.getD 1 false = true → v19 = Value.pointer (some { block := p, off := 0 })) ∧ (listed.getD 2 false = true → v20 = .pointer (some ⟨p, 0, none⟩)) ∧ (listed.getD 3 false = true → v21 = .pointer (some ⟨p, 1, none⟩)) ∧ (listed.getD 4 false = true → v22 = .slice ak N ck) ∧ (listed.getD 5 false = true → v23 = Value.pointer (some { block := p, off := 0 })) ∧ (listed.getD 6 false = true → v24 = .pointer (some ⟨p, 0, none⟩)) ∧ (listed.getD 7 false = true → v25 = .pointer (some ⟨p, 2, none⟩)) ∧ (listed.getD 8 false = true → v26 = .int .i64 (SF : Int)) ∧ (listed.getD 9 false = true → v27 = Value.int IntKind.i64 ↑MO) ∧ (listed.getD 10 false = true → v28 = .int .i64 (C : Int)) ∧ (listed.getD 11 false = true → v29 = .slice ak C ck) ∧ (listed.getD 14 false = true → v32 = .pointer (some ⟨p, 0, none⟩)) ∧ (listed.getD 15 false = true → v33 = .pointer (some ⟨p, 1, none⟩)) ∧ (listed.getD 11 false = true → listed.getD 4 false = true) ∧ (listed.getD 12 false = true → listed.getD 4 false = true) ∧ (listed.getD 10 false = true → listed.getD 8 false = true) ∧ (listed.getD 11 false = true → listed.getD 8 false = true) ∧ (listed.getD 12 false = true → listed.getD 8 false = true)) := ⟨_, fun _ _ _ => Iff.rfl⟩
  have HI := hid hInv
  clear hInv
  refine Free.region hmx (by kernel_rfl) Inv ?s1 ?s2 ?s3
  case s1 =>
    exact (HI.out _ _ _).2 ⟨undef, undef, undef, undef, undef, undef, undef, undef, undef, undef, undef, undef, undef, undef, undef, undef, w.drewN nq, w.drewN nq, w.drewN nq, rfl, fun _ => rfl, fun e _ => Free.not_yet e, fun e _ => Free.not_yet e, Free.not_yet, Free.not_yet, Free.not_yet, Free.not_yet, Free.not_yet, Free.not_yet, Free.not_yet, Free.not_yet, Free.not_yet, Free.not_yet, Free.not_yet, Free.not_yet, Free.not_yet, Free.not_yet, Free.not_yet, Free.not_yet, Free.not_yet, Free.not_yet, Free.not_yet, Free.not_yet, Free.not_yet, Free.not_yet, Free.not_yet, Free.not_yet, Free.not_yet⟩
  case s2 =>
    intro i listed aq W1 hix hne hnl hsz hv
    obtain ⟨v18, v19, v20, v21, v22, v23, v24, v25, v26, v27, v28, v29, v30, v31, v32, v33, X1, X2, X3, rfl, hw0, hw1, hw2, hw3, hp1, hp2, hp3, hc1, hc2, l0, l1, l2, l3, l4, l5, l6, l7, l8, l9, l10, l11, l14, l15, lc11_4, lc12_4, lc10_8, lc11_8, lc12_8⟩ := (HI.out _ _ _).1 hv
    clear hv
    replace hix : i < 17 := hix
    replace hsz : listed.size = 17 := hsz
    rcases (by omega : i = 0 ∨ i = 1 ∨ i = 2 ∨ i = 3 ∨ i = 4 ∨ i = 5 ∨ i = 6 ∨ i = 7 ∨ i = 8 ∨ i = 9 ∨ i = 10 ∨ i = 11 ∨ i = 12 ∨ i = 13 ∨ i = 14 ∨ i = 15 ∨ i = 16) with rfl | rfl | rfl | rfl | rfl | rfl | rfl | rfl | rfl | rfl | rfl | rfl | rfl | rfl | rfl | rfl | rfl
    · refine Free.op rfl rfl (fun K hK => ?_)
      go_simp
      exact hK _ _ ((HI.out _ _ _).2 ⟨_, v19, v20, v21, v22, v23, v24, v25, v26, v27, v28, v29, v30, v31, v32, v33, X1, X2, X3, rfl, fun e => hw0 ((Free.set_other (by decide) false).symm.trans e), fun e f => hw1 (Free.back (by decide) e) ((Free.set_other (by decide) false).symm.trans f), fun e f => hw2 (Free.back (by decide) e) ((Free.set_other (by decide) false).symm.trans f), Free.of_set (by decide) hw3, Free.of_set (by decide) hp1, Free.of_set (by decide) hp2, Free.of_set (by decide) hp3, fun e => Free.fore (by decide) (hc1 (Free.back (by decide) e)), fun e => Free.fore (by decide) (hc2 (Free.back (by decide) e)), fun _ => rfl, Free.of_set (by decide) l1, Free.of_set (by decide) l2, Free.of_set (by decide) l3, Free.of_set (by decide) l4, Free.of_set (by decide) l5, Free.of_set (by decide) l6, Free.of_set (by decide) l7, Free.of_set (by decide) l8, Free.of_set (by decide) l9, Free.of_set (by decide) l10, Free.of_set (by decide) l11, Free.of_set (by decide) l14, Free.of_set (by decide) l15, fun e => Free.fore (by decide) (lc11_4 (Free.back (by decide) e)), fun e => Free.fore (by decide) (lc12_4 (Free.back (by decide) e)), fun e => Free.fore (by decide) (lc10_8 (Free.back (by decide) e)), fun e => Free.fore (by decide) (lc11_8 (Free.back (by decide) e)), fun e => Free.fore (by decide) (lc12_8 (Free.back (by decide) e))⟩)
    · refine Free.op rfl rfl (fun K hK => ?_)
      go_simp
      exact hK _ _ ((HI.out _ _ _).2 ⟨v18, _, v20, v21, v22, v23, v24, v25, v26, v27, v28, v29, v30, v31, v32, v33, X1, X2, X3, rfl, fun e => hw0 ((Free.set_other (by decide) false).symm.trans e), fun e f => hw1 (Free.back (by decide) e) ((Free.set_other (by decide) false).symm.trans f), fun e f => hw2 (Free.back (by decide) e) ((Free.set_other (by decide) false).symm.trans f), Free.of_set (by decide) hw3, Free.of_set (by decide) hp1, Free.of_set (by decide) hp2, Free.of_set (by decide) hp3, fun e => Free.fore (by decide) (hc1 (Free.back (by decide) e)), fun e => Free.fore (by decide) (hc2 (Free.back (by decide) e)), Free.of_set (by decide) l0, fun _ => rfl, Free.of_set (by decide) l2, Free.of_set (by decide) l3, Free.of_set (by decide) l4, Free.of_set (by decide) l5, Free.of_set (by decide) l6, Free.of_set (by decide) l7, Free.of_set (by decide) l8, Free.of_set (by decide) l9, Free.of_set (by decide) l10, Free.of_set (by decide) l11, Free.of_set (by decide) l14, Free.of_set (by decide) l15, fun e => Free.fore (by decide) (lc11_4 (Free.back (by decide) e)), fun e => Free.fore (by decide) (lc12_4 (Free.back (by decide) e)), fun e => Free.fore (by decide) (lc10_8 (Free.back (by decide) e)), fun e => Free.fore (by decide) (lc11_8 (Free.back (by decide) e)), fun e => Free.fore (by decide) (lc12_8 (Free.back (by decide) e))⟩)
    · refine Free.op rfl rfl (fun K hK => ?_)
      obtain rfl := l1 (hne 1 (by kernel_rfl))
      go_simp
      exact hK _ _ ((HI.out _ _ _).2 ⟨v18, _, _, v21, v22, v23, v24, v25, v26, v27, v28, v29, v30, v31, v32, v33, X1, X2, X3, rfl, fun e => hw0 ((Free.set_other (by decide) false).symm.trans e), fun e f => hw1 (Free.back (by decide) e) ((Free.set_other (by decide) false).symm.trans f), fun e f => hw2 (Free.back (by decide) e) ((Free.set_other (by decide) false).symm.trans f), Free.of_set (by decide) hw3, Free.of_set (by decide) hp1, Free.of_set (by decide) hp2, Free.of_set (by decide) hp3, fun e => Free.fore (by decide) (hc1 (Free.back (by decide) e)), fun e => Free.fore (by decide) (hc2 (Free.back (by decide) e)), Free.of_set (by decide) l0, fun _ => rfl, fun _ => rfl, Free.of_set (by decide) l3, Free.of_set (by decide) l4, Free.of_set (by decide) l5, Free.of_set (by decide) l6, Free.of_set (by decide) l7, Free.of_set (by decide) l8, Free.of_set (by decide) l9, Free.of_set (by decide) l10, Free.of_set (by decide) l11, Free.of_set (by decide) l14, Free.of_set (by decide) l15, fun e => Free.fore (by decide) (lc11_4 (Free.back (by decide) e)), fun e => Free.fore (by decide) (lc12_4 (Free.back (by decide) e)), fun e => Free.fore (by decide) (lc10_8 (Free.back (by decide) e)), fun e => Free.fore (by decide) (lc11_8 (Free.back (by decide) e)), fun e => Free.fore (by decide) (lc12_8 (Free.back (by decide) e))⟩)
    · refine Free.op rfl rfl (fun K hK => ?_)
      obtain rfl := l2 (hne 2 (by kernel_rfl))
      go_simp
      exact hK _ _ ((HI.out _ _ _).2 ⟨v18, v19, _, _, v22, v23, v24, v25, v26, v27, v28, v29, v30, v31, v32, v33, X1, X2, X3, rfl, fun e => hw0 ((Free.set_other (by decide) false).symm.trans e), fun e f => hw1 (Free.back (by decide) e) ((Free.set_other (by decide) false).symm.trans f), fun e f => hw2 (Free.back (by decide) e) ((Free.set_other (by decide) false).symm.trans f), Free.of_set (by decide) hw3, Free.of_set (by decide) hp1, Free.of_set (by decide) hp2, Free.of_set (by decide) hp3, fun e => Free.fore (by decide) (hc1 (Free.back (by decide) e)), fun e => Free.fore (by decide) (hc2 (Free.back (by decide) e)), Free.of_set (by decide) l0, Free.of_set (by decide) l1, fun _ => rfl, fun _ => rfl, Free.of_set (by decide) l4, Free.of_set (by decide) l5, Free.of_set (by decide) l6, Free.of_set (by decide) l7, Free.of_set (by decide) l8, Free.of_set (by decide) l9, Free.of_set (by decide) l10, Free.of_set (by decide) l11, Free.of_set (by decide) l14, Free.of_set (by decide) l15, fun e => Free.fore (by decide) (lc11_4 (Free.back (by decide) e)), fun e => Free.fore (by decide) (lc12_4 (Free.back (by decide) e)), fun e => Free.fore (by decide) (lc10_8 (Free.back (by decide) e)), fun e => Free.fore (by decide) (lc11_8 (Free.back (by decide) e)), fun e => Free.fore (by decide) (lc12_8 (Free.back (by decide) e))⟩)
    · have h8 : listed.getD 12 false = false := by
        cases e : listed.getD 12 false
        · rfl
        · have q := lc12_4 e; rw [Free.off hnl] at q; cases q
      obtain rfl := hw0 h8
      refine Free.op rfl rfl (fun K hK => ?_)
      obtain rfl := l3 (hne 3 (by kernel_rfl))
      go_simp
      exact hK _ _ ((HI.out _ _ _).2 ⟨v18, v19, v20, _, _, v23, v24, v25, v26, v27, v28, v29, v30, v31, v32, v33, X1, X2, X3, rfl, fun e => hw0 ((Free.set_other (by decide) false).symm.trans e), fun e f => hw1 (Free.back (by decide) e) ((Free.set_other (by decide) false).symm.trans f), fun e f => hw2 (Free.back (by decide) e) ((Free.set_other (by decide) false).symm.trans f), Free.of_set (by decide) hw3, Free.of_set (by decide) hp1, Free.of_set (by decide) hp2, Free.of_set (by decide) hp3, fun e => Free.fore (by decide) (hc1 (Free.back (by decide) e)), fun e => Free.fore (by decide) (hc2 (Free.back (by decide) e)), Free.of_set (by decide) l0, Free.of_set (by decide) l1, Free.of_set (by decide) l2, fun _ => rfl, fun _ => rfl, Free.of_set (by decide) l5, Free.of_set (by decide) l6, Free.of_set (by decide) l7, Free.of_set (by decide) l8, Free.of_set (by decide) l9, Free.of_set (by decide) l10, Free.of_set (by decide) l11, Free.of_set (by decide) l14, Free.of_set (by decide) l15, fun _ => Free.set_same (by omega), fun _ => Free.set_same (by omega), fun e => Free.fore (by decide) (lc10_8 (Free.back (by decide) e)), fun e => Free.fore (by decide) (lc11_8 (Free.back (by decide) e)), fun e => Free.fore (by decide) (lc12_8 (Free.back (by decide) e))⟩)
    · refine Free.op rfl rfl (fun K hK => ?_)
      go_simp
      exact hK _ _ ((HI.out _ _ _).2 ⟨v18, v19, v20, v21, v22, _, v24, v25, v26, v27, v28, v29, v30, v31, v32, v33, X1, X2, X3, rfl, fun e => hw0 ((Free.set_other (by decide) false).symm.trans e), fun e f => hw1 (Free.back (by decide) e) ((Free.set_other (by decide) false).symm.trans f), fun e f => hw2 (Free.back (by decide) e) ((Free.set_other (by decide) false).symm.trans f), Free.of_set (by decide) hw3, Free.of_set (by decide) hp1, Free.of_set (by decide) hp2, Free.of_set (by decide) hp3, fun e => Free.fore (by decide) (hc1 (Free.back (by decide) e)), fun e => Free.fore (by decide) (hc2 (Free.back (by decide) e)), Free.of_set (by decide) l0, Free.of_set (by decide) l1, Free.of_set (by decide) l2, Free.of_set (by decide) l3, Free.of_set (by decide) l4, fun _ => rfl, Free.of_set (by decide) l6, Free.of_set (by decide) l7, Free.of_set (by decide) l8, Free.of_set (by decide) l9, Free.of_set (by decide) l10, Free.of_set (by decide) l11, Free.of_set (by decide) l14, Free.of_set (by decide) l15, fun e => Free.fore (by decide) (lc11_4 (Free.back (by decide) e)), fun e => Free.fore (by decide) (lc12_4 (Free.back (by decide) e)), fun e => Free.fore (by decide) (lc10_8 (Free.back (by decide) e)), fun e => Free.fore (by decide) (lc11_8 (Free.back (by decide) e)), fun e => Free.fore (by decide) (lc12_8 (Free.back (by decide) e))⟩)
    · refine Free.op rfl rfl (fun K hK => ?_)
      obtain rfl := l5 (hne 5 (by kernel_rfl))
      go_simp
      exact hK _ _ ((HI.out _ _ _).2 ⟨v18, v19, v20, v21, v22, _, _, v25, v26, v27, v28, v29, v30, v31, v32, v33, X1, X2, X3, rfl, fun e => hw0 ((Free.set_other (by decide) false).symm.trans e), fun e f => hw1 (Free.back (by decide) e) ((Free.set_other (by decide) false).symm.trans f), fun e f => hw2 (Free.back (by decide) e) ((Free.set_other (by decide) false).symm.trans f), Free.of_set (by decide) hw3, Free.of_set (by decide) hp1, Free.of_set (by decide) hp2, Free.of_set (by decide) hp3, fun e => Free.fore (by decide) (hc1 (Free.back (by decide) e)), fun e => Free.fore (by decide) (hc2 (Free.back (by decide) e)), Free.of_set (by decide) l0, Free.of_set (by decide) l1, Free.of_set (by decide) l2, Free.of_set (by decide) l3, Free.of_set (by decide) l4, fun _ => rfl, fun _ => rfl, Free.of_set (by decide) l7, Free.of_set (by decide) l8, Free.of_set (by decide) l9, Free.of_set (by decide) l10, Free.of_set (by decide) l11, Free.of_set (by decide) l14, Free.of_set (by decide) l15, fun e => Free.fore (by decide) (lc11_4 (Free.back (by decide) e)), fun e => Free.fore (by decide) (lc12_4 (Free.back (by decide) e)), fun e => Free.fore (by decide) (lc10_8 (Free.back (by decide) e)), fun e => Free.fore (by decide) (lc11_8 (Free.back (by decide) e)), fun e => Free.fore (by decide) (lc12_8 (Free.back (by decide) e))⟩)
    · refine Free.op rfl rfl (fun K hK => ?_)
      obtain rfl := l6 (hne 6 (by kernel_rfl))
      go_simp
      exact hK _ _ ((HI.out _ _ _).2 ⟨v18, v19, v20, v21, v22, v23, _, _, v26, v27, v28, v29, v30, v31, v32, v33, X1, X2, X3, rfl, fun e => hw0 ((Free.set_other (by decide) false).symm.trans e), fun e f => hw1 (Free.back (by decide) e) ((Free.set_other (by decide) false).symm.trans f), fun e f => hw2 (Free.back (by decide) e) ((Free.set_other (by decide) false).symm.trans f), Free.of_set (by decide) hw3, Free.of_set (by decide) hp1, Free.of_set (by decide) hp2, Free.of_set (by decide) hp3, fun e => Free.fore (by decide) (hc1 (Free.back (by decide) e)), fun e => Free.fore (by decide) (hc2 (Free.back (by decide) e)), Free.of_set (by decide) l0, Free.of_set (by decide) l1, Free.of_set (by decide) l2, Free.of_set (by decide) l3, Free.of_set (by decide) l4, Free.of_set (by decide) l5, fun _ => rfl, fun _ => rfl, Free.of_set (by decide) l8, Free.of_set (by decide) l9, Free.of_set (by decide) l10, Free.of_set (by decide) l11, Free.of_set (by decide) l14, Free.of_set (by decide) l15, fun e => Free.fore (by decide) (lc11_4 (Free.back (by decide) e)), fun e => Free.fore (by decide) (lc12_4 (Free.back (by decide) e)), fun e => Free.fore (by decide) (lc10_8 (Free.back (by decide) e)), fun e => Free.fore (by decide) (lc11_8 (Free.back (by decide) e)), fun e => Free.fore (by decide) (lc12_8 (Free.back (by decide) e))⟩)
    · have h8 : listed.getD 12 false = false := by
        cases e : listed.getD 12 false
        · rfl
        · have q := lc12_8 e; rw [Free.off hnl] at q; cases q
      obtain rfl := hw0 h8
      refine Free.op rfl rfl (fun K hK => ?_)
      obtain rfl := l7 (hne 7 (by kernel_rfl))
      go_simp
      exact hK _ _ ((HI.out _ _ _).2 ⟨v18, v19, v20, v21, v22, v23, v24, _, _, v27, v28, v29, v30, v31, v32, v33, X1, X2, X3, rfl, fun e => hw0 ((Free.set_other (by decide) false).symm.trans e), fun e f => hw1 (Free.back (by decide) e) ((Free.set_other (by decide) false).symm.trans f), fun e f => hw2 (Free.back (by decide) e) ((Free.set_other (by decide) false).symm.trans f), Free.of_set (by decide) hw3, Free.of_set (by decide) hp1, Free.of_set (by decide) hp2, Free.of_set (by decide) hp3, fun e => Free.fore (by decide) (hc1 (Free.back (by decide) e)), fun e => Free.fore (by decide) (hc2 (Free.back (by decide) e)), Free.of_set (by decide) l0, Free.of_set (by decide) l1, Free.of_set (by decide) l2, Free.of_set (by decide) l3, Free.of_set (by decide) l4, Free.of_set (by decide) l5, Free.of_set (by decide) l6, fun _ => rfl, fun _ => rfl, Free.of_set (by decide) l9, Free.of_set (by decide) l10, Free.of_set (by decide) l11, Free.of_set (by decide) l14, Free.of_set (by decide) l15, fun e => Free.fore (by decide) (lc11_4 (Free.back (by decide) e)), fun e => Free.fore (by decide) (lc12_4 (Free.back (by decide) e)), fun _ => Free.set_same (by omega), fun _ => Free.set_same (by omega), fun _ => Free.set_same (by omega)⟩)
    · refine Free.op rfl rfl (fun K hK => ?_)
      go_simp
      exact hK _ _ ((HI.out _ _ _).2 ⟨v18, v19, v20, v21, v22, v23, v24, v25, v26, _, v28, v29, v30, v31, v32, v33, X1, X2, X3, rfl, fun e => hw0 ((Free.set_other (by decide) false).symm.trans e), fun e f => hw1 (Free.back (by decide) e) ((Free.set_other (by decide) false).symm.trans f), fun e f => hw2 (Free.back (by decide) e) ((Free.set_other (by decide) false).symm.trans f), Free.of_set (by decide) hw3, Free.of_set (by decide) hp1, Free.of_set (by decide) hp2, Free.of_set (by decide) hp3, fun e => Free.fore (by decide) (hc1 (Free.back (by decide) e)), fun e => Free.fore (by decide) (hc2 (Free.back (by decide) e)), Free.of_set (by decide) l0, Free.of_set (by decide) l1, Free.of_set (by decide) l2, Free.of_set (by decide) l3, Free.of_set (by decide) l4, Free.of_set (by decide) l5, Free.of_set (by decide) l6, Free.of_set (by decide) l7, Free.of_set (by decide) l8, fun _ => rfl, Free.of_set (by decide) l10, Free.of_set (by decide) l11, Free.of_set (by decide) l14, Free.of_set (by decide) l15, fun e => Free.fore (by decide) (lc11_4 (Free.back (by decide) e)), fun e => Free.fore (by decide) (lc12_4 (Free.back (by decide) e)), fun e => Free.fore (by decide) (lc10_8 (Free.back (by decide) e)), fun e => Free.fore (by decide) (lc11_8 (Free.back (by decide) e)), fun e => Free.fore (by decide) (lc12_8 (Free.back (by decide) e))⟩)
    · have q10 := HCD.out
      have qW : IntKind.i64.wrap (C : Int) = (C : Int) := by rw [IntKind.wrap_i64]; omega
      refine Free.op rfl rfl (fun K hK => ?_)
      obtain rfl := l8 (hne 8 (by kernel_rfl))
      obtain rfl := l9 (hne 9 (by kernel_rfl))
      go_simp
      exact hK _ _ ((HI.out _ _ _).2 ⟨v18, v19, v20, v21, v22, v23, v24, v25, _, _, _, v29, v30, v31, v32, v33, X1, X2, X3, rfl, fun e => hw0 ((Free.set_other (by decide) false).symm.trans e), fun e f => hw1 (Free.back (by decide) e) ((Free.set_other (by decide) false).symm.trans f), fun e f => hw2 (Free.back (by decide) e) ((Free.set_other (by decide) false).symm.trans f), Free.of_set (by decide) hw3, Free.of_set (by decide) hp1, Free.of_set (by decide) hp2, Free.of_set (by decide) hp3, fun e => Free.fore (by decide) (hc1 (Free.back (by decide) e)), fun e => Free.fore (by decide) (hc2 (Free.back (by decide) e)), Free.of_set (by decide) l0, Free.of_set (by decide) l1, Free.of_set (by decide) l2, Free.of_set (by decide) l3, Free.of_set (by decide) l4, Free.of_set (by decide) l5, Free.of_set (by decide) l6, Free.of_set (by decide) l7, fun _ => rfl, fun _ => rfl, fun _ => rfl, Free.of_set (by decide) l11, Free.of_set (by decide) l14, Free.of_set (by decide) l15, fun e => Free.fore (by decide) (lc11_4 (Free.back (by decide) e)), fun e => Free.fore (by decide) (lc12_4 (Free.back (by decide) e)), fun _ => Free.fore (by decide) (hne 8 (by kernel_rfl)), fun e => Free.fore (by decide) (lc11_8 (Free.back (by decide) e)), fun e => Free.fore (by decide) (lc12_8 (Free.back (by decide) e))⟩)
    · refine Free.op rfl rfl (fun K hK => ?_)
      obtain rfl := l4 (hne 4 (by kernel_rfl))
      obtain rfl := l10 (hne 10 (by kernel_rfl))
      go_simp
      exact hK _ _ ((HI.out _ _ _).2 ⟨v18, v19, v20, v21, _, v23, v24, v25, v26, v27, _, _, v30, v31, v32, v33, X1, X2, X3, rfl, fun e => hw0 ((Free.set_other (by decide) false).symm.trans e), fun e f => hw1 (Free.back (by decide) e) ((Free.set_other (by decide) false).symm.trans f), fun e f => hw2 (Free.back (by decide) e) ((Free.set_other (by decide) false).symm.trans f), Free.of_set (by decide) hw3, Free.of_set (by decide) hp1, Free.of_set (by decide) hp2, Free.of_set (by decide) hp3, fun e => Free.fore (by decide) (hc1 (Free.back (by decide) e)), fun e => Free.fore (by decide) (hc2 (Free.back (by decide) e)), Free.of_set (by decide) l0, Free.of_set (by decide) l1, Free.of_set (by decide) l2, Free.of_set (by decide) l3, fun _ => rfl, Free.of_set (by decide) l5, Free.of_set (by decide) l6, Free.of_set (by decide) l7, Free.of_set (by decide) l8, Free.of_set (by decide) l9, fun _ => rfl, fun _ => rfl, Free.of_set (by decide) l14, Free.of_set (by decide) l15, fun _ => Free.fore (by decide) (hne 4 (by kernel_rfl)), fun e => Free.fore (by decide) (lc12_4 (Free.back (by decide) e)), fun e => Free.fore (by decide) (lc10_8 (Free.back (by decide) e)), fun _ => Free.fore (by decide) (lc10_8 (hne 10 (by kernel_rfl))), fun e => Free.fore (by decide) (lc12_8 (Free.back (by decide) e))⟩)
    · have z12 := hid (Free.off hnl)
      have z13 : Hid (listed.getD 13 false = false) := by
        cases e : listed.getD 13 false
        · exact hid rfl
        · have q := hc1 e; rw [z12.out] at q; cases q
      have z16 : Hid (listed.getD 16 false = false) := by
        cases e : listed.getD 16 false
        · exact hid rfl
        · have q := hc2 e; rw [z13.out] at q; cases q
      obtain rfl := hw0 z12.out
      refine Free.op rfl rfl (fun K hK => ?_)
      obtain rfl := l11 (hne 11 (by kernel_rfl))
      go_wp2_with (go_at_call 26; refine (HWH _ _ (show Lu (w.drewN nq).drew.heap.size (w.drewN nq).drew _ _ from HLU.out)).out.mono ?_; rintro e W3 ⟨r, rfl, hr, hb⟩)
      exact (HI.out _ _ _).2 ⟨v18, v19, v20, v21, v22, v23, v24, v25, v26, v27, v28, _, _, v31, v32, v33, _, X2, X3, rfl, (fun e => by rw [Free.set_same (by omega)] at e; cases e), fun _ _ => rfl, (fun e _ => by rw [Free.set_other (by decide), z13.out] at e; cases e), (fun e => by rw [Free.set_other (by decide), z16.out] at e; cases e), fun _ => ⟨hr, hb⟩, (fun e => by rw [Free.set_other (by decide), z13.out] at e; cases e), (fun e => by rw [Free.set_other (by decide), z16.out] at e; cases e), (fun e => by rw [Free.set_other (by decide), z13.out] at e; cases e), (fun e => by rw [Free.set_other (by decide), z16.out] at e; cases e), Free.of_set (by decide) l0, Free.of_set (by decide) l1, Free.of_set (by decide) l2, Free.of_set (by decide) l3, Free.of_set (by decide) l4, Free.of_set (by decide) l5, Free.of_set (by decide) l6, Free.of_set (by decide) l7, Free.of_set (by decide) l8, Free.of_set (by decide) l9, Free.of_set (by decide) l10, fun _ => rfl, Free.of_set (by decide) l14, Free.of_set (by decide) l15, fun e => Free.fore (by decide) (lc11_4 (Free.back (by decide) e)), fun _ => Free.fore (by decide) (lc11_4 (hne 11 (by kernel_rfl))), fun e => Free.fore (by decide) (lc10_8 (Free.back (by decide) e)), fun e => Free.fore (by decide) (lc11_8 (Free.back (by decide) e)), fun _ => Free.fore (by decide) (lc11_8 (hne 11 (by kernel_rfl)))⟩
    · have z13 := hid (Free.off hnl)
      have n12 : Hid (listed.getD 12 false = true) := hid (hne 12 (by kernel_rfl))
      have z16 : Hid (listed.getD 16 false = false) := by
        cases e : listed.getD 16 false
        · exact hid rfl
        · have q := hc2 e; rw [z13.out] at q; cases q
      obtain rfl := hw1 n12.out z13.out
      have hq1 := hp1 n12.out
      refine Free.op rfl rfl (fun K hK => ?_)
      go_wp2_with (go_at_call 25; refine (HCC _ _ hq1.1).out.mono ?_; rintro e W3 ⟨r, rfl, hr, hb⟩)
      exact (HI.out _ _ _).2 ⟨v18, v19, v20, v21, v22, v23, v24, v25, v26, v27, v28, v29, v30, _, v32, v33, W1, _, X3, rfl, (fun e => by rw [Free.set_other (by decide), n12.out] at e; cases e), (fun _ e => by rw [Free.set_same (by omega)] at e; cases e), fun _ _ => rfl, (fun e => by rw [Free.set_other (by decide), z16.out] at e; cases e), Free.of_set (by decide) hp1, fun _ => ⟨hr, hb⟩, (fun e => by rw [Free.set_other (by decide), z16.out] at e; cases e), fun _ => Free.fore (by decide) n12.out, (fun e => by rw [Free.set_other (by decide), z16.out] at e; cases e), Free.of_set (by decide) l0, Free.of_set (by decide) l1, Free.of_set (by decide) l2, Free.of_set (by decide) l3, Free.of_set (by decide) l4, Free.of_set (by decide) l5, Free.of_set (by decide) l6, Free.of_set (by decide) l7, Free.of_set (by decide) l8, Free.of_set (by decide) l9, Free.of_set (by decide) l10, Free.of_set (by decide) l11, Free.of_set (by decide) l14, Free.of_set (by decide) l15, fun e => Free.fore (by decide) (lc11_4 (Free.back (by decide) e)), fun e => Free.fore (by decide) (lc12_4 (Free.back (by decide) e)), fun e => Free.fore (by decide) (lc10_8 (Free.back (by decide) e)), fun e => Free.fore (by decide) (lc11_8 (Free.back (by decide) e)), fun e => Free.fore (by decide) (lc12_8 (Free.back (by decide) e))⟩
    · refine Free.op rfl rfl (fun K hK => ?_)
      obtain rfl := l0 (hne 0 (by kernel_rfl))
      go_simp
      exact hK _ _ ((HI.out _ _ _).2 ⟨_, v19, v20, v21, v22, v23, v24, v25, v26, v27, v28, v29, v30, v31, _, v33, X1, X2, X3, rfl, fun e => hw0 ((Free.set_other (by decide) false).symm.trans e), fun e f => hw1 (Free.back (by decide) e) ((Free.set_other (by decide) false).symm.trans f), fun e f => hw2 (Free.back (by decide) e) ((Free.set_other (by decide) false).symm.trans f), Free.of_set (by decide) hw3, Free.of_set (by decide) hp1, Free.of_set (by decide) hp2, Free.of_set (by decide) hp3, fun e => Free.fore (by decide) (hc1 (Free.back (by decide) e)), fun e => Free.fore (by decide) (hc2 (Free.back (by decide) e)), fun _ => rfl, Free.of_set (by decide) l1, Free.of_set (by decide) l2, Free.of_set (by decide) l3, Free.of_set (by decide) l4, Free.of_set (by decide) l5, Free.of_set (by decide) l6, Free.of_set (by decide) l7, Free.of_set (by decide) l8, Free.of_set (by decide) l9, Free.of_set (by decide) l10, Free.of_set (by decide) l11, fun _ => rfl, Free.of_set (by decide) l15, fun e => Free.fore (by decide) (lc11_4 (Free.back (by decide) e)), fun e => Free.fore (by decide) (lc12_4 (Free.back (by decide) e)), fun e => Free.fore (by decide) (lc10_8 (Free.back (by decide) e)), fun e => Free.fore (by decide) (lc11_8 (Free.back (by decide) e)), fun e => Free.fore (by decide) (lc12_8 (Free.back (by decide) e))⟩)
    · refine Free.op rfl rfl (fun K hK => ?_)
      obtain rfl := l14 (hne 14 (by kernel_rfl))
      go_simp
      exact hK _ _ ((HI.out _ _ _).2 ⟨v18, v19, v20, v21, v22, v23, v24, v25, v26, v27, v28, v29, v30, v31, _, _, X1, X2, X3, rfl, fun e => hw0 ((Free.set_other (by decide) false).symm.trans e), fun e f => hw1 (Free.back (by decide) e) ((Free.set_other (by decide) false).symm.trans f), fun e f => hw2 (Free.back (by decide) e) ((Free.set_other (by decide) false).symm.trans f), Free.of_set (by decide) hw3, Free.of_set (by decide) hp1, Free.of_set (by decide) hp2, Free.of_set (by decide) hp3, fun e => Free.fore (by decide) (hc1 (Free.back (by decide) e)), fun e => Free.fore (by decide) (hc2 (Free.back (by decide) e)), Free.of_set (by decide) l0, Free.of_set (by decide) l1, Free.of_set (by decide) l2, Free.of_set (by decide) l3, Free.of_set (by decide) l4, Free.of_set (by decide) l5, Free.of_set (by decide) l6, Free.of_set (by decide) l7, Free.of_set (by decide) l8, Free.of_set (by decide) l9, Free.of_set (by decide) l10, Free.of_set (by decide) l11, fun _ => rfl, fun _ => rfl, fun e => Free.fore (by decide) (lc11_4 (Free.back (by decide) e)), fun e => Free.fore (by decide) (lc12_4 (Free.back (by decide) e)), fun e => Free.fore (by decide) (lc10_8 (Free.back (by decide) e)), fun e => Free.fore (by decide) (lc11_8 (Free.back (by decide) e)), fun e => Free.fore (by decide) (lc12_8 (Free.back (by decide) e))⟩)
    · have z16 := hid (Free.off hnl)
      have n13 : Hid (listed.getD 13 false = true) := hid (hne 13 (by kernel_rfl))
      have n12 : Hid (listed.getD 12 false = true) := hid (hc1 n13.out)
      obtain rfl := hw2 n13.out z16.out
      have hq1 := hp1 n12.out
      have hq2 := hp2 n13.out
      obtain ⟨a7, c7, e7⟩ := owns_slice hq2.1
      subst e7
      have hB9 : Below w.heap.size w X1 := ⟨hq1.2.os, hq1.2.tape, hq1.2.output, hq1.2.size, hq1.2.block⟩
      have hb3 := (HB2.out.step hB9).step hq2.2
      have z3 : W1.cell? ⟨p, 1, none⟩ = some (.slice ak N ck) := hb3.cell 1 rfl
      have z4 := hb3.free 1
      refine Free.op rfl rfl (fun K hK => ?_)
      obtain rfl := l15 (hne 15 (by kernel_rfl))
      go_simp
      exact hK _ _ ((HI.out _ _ _).2 ⟨v18, v19, v20, v21, v22, v23, v24, v25, v26, v27, v28, v29, v30, _, v32, _, X1, W1, _, rfl, (fun e => by rw [Free.set_other (by decide), n12.out] at e; cases e), (fun _ e => by rw [Free.set_other (by decide), n13.out] at e; cases e), (fun _ e => by rw [Free.set_same (by omega)] at e; cases e), fun _ => rfl, Free.of_set (by decide) hp1, Free.of_set (by decide) hp2, fun _ => ⟨_, _, rfl, rfl⟩, fun e => Free.fore (by decide) (hc1 (Free.back (by decide) e)), fun _ => Free.fore (by decide) n13.out, Free.of_set (by decide) l0, Free.of_set (by decide) l1, Free.of_set (by decide) l2, Free.of_set (by decide) l3, Free.of_set (by decide) l4, Free.of_set (by decide) l5, Free.of_set (by decide) l6, Free.of_set (by decide) l7, Free.of_set (by decide) l8, Free.of_set (by decide) l9, Free.of_set (by decide) l10, Free.of_set (by decide) l11, Free.of_set (by decide) l14, fun _ => rfl, fun e => Free.fore (by decide) (lc11_4 (Free.back (by decide) e)), fun e => Free.fore (by decide) (lc12_4 (Free.back (by decide) e)), fun e => Free.fore (by decide) (lc10_8 (Free.back (by decide) e)), fun e => Free.fore (by decide) (lc11_8 (Free.back (by decide) e)), fun e => Free.fore (by decide) (lc12_8 (Free.back (by decide) e))⟩)
  case s3 =>
    intro listed aq W1 hall hsz hv
    obtain ⟨v18, v19, v20, v21, v22, v23, v24, v25, v26, v27, v28, v29, v30, v31, v32, v33, X1, X2, X3, rfl, hw0, hw1, hw2, hw3, hp1, hp2, hp3, hc1, hc2, l0, l1, l2, l3, l4, l5, l6, l7, l8, l9, l10, l11, l14, l15, lc11_4, lc12_4, lc10_8, lc11_8, lc12_8⟩ := (HI.out _ _ _).1 hv
    clear hv HI
    replace hp1 := hp1 (Free.listed_of hall hsz 12 (by decide))
    replace hp2 := hp2 (Free.listed_of hall hsz 13 (by decide))
    replace hp3 := hp3 (Free.listed_of hall hsz 16 (by decide))
    obtain rfl := hw3 (Free.listed_of hall hsz 16 (by decide))
    obtain rfl := l0 (Free.listed_of hall hsz 0 (by decide))
    obtain rfl := l1 (Free.listed_of hall hsz 1 (by decide))
    obtain rfl := l2 (Free.listed_of hall hsz 2 (by decide))
    obtain rfl := l3 (Free.listed_of hall hsz 3 (by decide))
    obtain rfl := l4 (Free.listed_of hall hsz 4 (by decide))
    obtain rfl := l5 (Free.listed_of hall hsz 5 (by decide))
    obtain rfl := l6 (Free.listed_of hall hsz 6 (by decide))
    obtain rfl := l7 (Free.listed_of hall hsz 7 (by decide))
    obtain rfl := l8 (Free.listed_of hall hsz 8 (by decide))
    obtain rfl := l9 (Free.listed_of hall hsz 9 (by decide))
    obtain rfl := l10 (Free.listed_of hall hsz 10 (by decide))
    obtain rfl := l11 (Free.listed_of hall hsz 11 (by decide))
    obtain rfl := l14 (Free.listed_of hall hsz 14 (by decide))
    obtain rfl := l15 (Free.listed_of hall hsz 15 (by decide))
    clear hall hsz hw0 hw1 hw2 hw3 hc1 hc2 lc11_4 lc12_4 lc10_8 lc11_8 lc12_8
    obtain ⟨-, hB1⟩ := hp1
    obtain ⟨ho3, hB2⟩ := hp2
    obtain ⟨a7, c7, e7, rfl⟩ := hp3
    subst e7
    replace hB1 : Below w.heap.size w X1 := ⟨hB1.os, hB1.tape, hB1.output, hB1.size, hB1.block⟩
    have hs1 := hB1.size
    have hnew := owns_from ho3
    have HBW := hid (hB1.trans (hB2.mono hB1.size))
    have hb3 := ((HB2.out.step hB1).step hB2).set 1 (.slice a7 NB c7) rfl
    have hlt := HLT.out
    have hap : (Value.slice a7 NB c7).ownBlock ≠ some p := fun e => by have := hnew p e; omega
    have ho4 : (X2.setCell ⟨p, 1, none⟩ (.slice a7 NB c7)).ownsRow base 5 1 (.slice a7 NB c7) NB (bytesV (Um.crashS s keep).bytes) := owns_other (owns_mono ho3 (by have := HGE.out; omega)) hap
    have HW3 : Hid (Wrote w (X2.setCell ⟨p, 1, none⟩ (.slice a7 NB c7)) p (Value.slice ak s.bytes.length ck).ownBlock (Value.slice ak s.bytes.length ck).ownBlock) := hid ((Wrote.none HBW.out).trans (Wrote.set _ _ _ _ _))
    have HKN : Hid (∀ j, (Value.slice a7 NB c7).ownBlock = some j → w.heap.size ≤ j) := hid (fun j e => by have := hnew j e; omega)
    clear hB1 hB2 hs1 hnew ho3 HBW z1 z2
    generalize X2.setCell ⟨p, 1, none⟩ (.slice a7 NB c7) = Y at *
    have z1 : Y.cell? ⟨p, 1, none⟩ = some (.slice a7 NB c7) := hb3.cell 1 rfl
    have z2 : Y.cell? ⟨p, 2, none⟩ = some (.int .i64 (SF : Int)) := by rw [HSF.out]; exact hb3.cell 2 rfl
    have z3 : Y.cell? ⟨p, 3, none⟩ = some (.int .i64 s.left) := hb3.cell 3 rfl
    have z4 : Y.cell? ⟨p, 4, none⟩ = some (.bool s.stop) := hb3.cell 4 rfl
    have f2 := hb3.free 2
    have f3 := hb3.free 3
    have f4 := hb3.free 4
    have HB5 := hid (((hb3.set 2 (.int .i64 (NB : Int)) rfl).set 3 (.int .i64 (-1)) rfl).set 4 (.bool false) rfl)
    have HO5 := hid ho4
    clear hb3 ho4
    go_wp2
    go_returns
    refine ⟨rfl, (Value.slice a7 NB c7).ownBlock, ⟨HOK.out, HGE.out, ⟨.slice a7 NB c7, rfl, ?_, ?_⟩, hap⟩, ((((HW3.out.trans (Wrote.set _ _ _ _ _)).trans (Wrote.set _ _ _ _ _)).trans (Wrote.set _ _ _ _ _)).anew HKN.out)⟩
    · show Blk _ p _ #[.int .i64 (s.sides : Int), .slice a7 NB c7, .int .i64 ((Um.crashS s keep).safe : Int), .int .i64 (-1), .bool false]
      rw [show (Um.crashS s keep).safe = NB by rw [HNB.out, Um.crash_size HK0.out]; rfl]
      exact HB5.out
    · rw [← HNB.out]
      exact owns_other (owns_other (owns_other HO5.out hap) hap) hap
end Go.Proofs.YthgehlonjoafmaaDoor
