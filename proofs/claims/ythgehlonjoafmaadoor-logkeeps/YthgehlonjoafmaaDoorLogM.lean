/-
  What package log answers: the whole records that bytes begin with, and the box of one; bytes put together.
-/
import Derived.Test.YthgehlonjoafmaaDoorLogB
import Derived.Test.YthgehlonjoafmaaDoorBoxM
import Derived.Lib.AppendZeros
namespace Go.Proofs.YthgehlonjoafmaaDoor
set_option linter.unusedSimpArgs false
open Go.RowKit

def sliceLen : Value → Nat
  | .slice _ n _ => n
  | _ => 0

set_option maxRecDepth 100000 in
set_option maxHeartbeats 16000000 in
theorem whole_any (n : Nat) (ds : List (List (Int × Int))) (t : List Int) (v : Value) (w : World) (hl : Lu w.heap.size w v (Um.recsB ds ++ t)) (h3 : n ≤ 3) (hd : ∀ b ∈ ds, b.length = n) (ht : Um.tailP n t) (h20 : ds.length ≤ 20) :
    Calls Tryd.prog 26 #[v] w fun e w' => ∃ r, e = .returned r ∧ Lw w'.heap.size w' r (ds.map Um.recB) ∧ Below w.heap.size w w' := by
  obtain ⟨i0, hi0, hz0, hz1, hz2⟩ := info_parts info_bytes
  have HLX := hid hl
  have HD := hid hd
  have HT := hid ht
  obtain ⟨a5, c5, rfl, -⟩ := (id hl)
  generalize (Um.recsB ds ++ t).length = n5 at *
  obtain ⟨L, hL⟩ : ∃ L : Nat, L = 1 + 8 * n := ⟨_, rfl⟩
  have HLL := hid hL
  have HLE := fun w => hid (show Calls Tryd.prog 35 #[.int .i64 n] w fun e w' => e = .returned (.int .i64 (L : Int)) ∧ w' = w from by rw [hL]; exact length_any n w (by omega))
  clear hl hd ht hL
  go_enter Tryd.func26, Tryd.ntmps26
  go_wp2
  go_loopw [0, 3] (fun kv rv wq => ∃ m : Nat, m ≤ ds.length ∧ Lu w.heap.size w kv (Um.recsB (ds.drop m) ++ t) ∧ RowW w wq 48 rv ((ds.map Um.recB).take m)) (fun kv _ _ => sliceLen kv)
  case atStart => exact ⟨0, Nat.zero_le _, HLX.out, RowW.start w _⟩
  case round =>
    clear HLX
    obtain ⟨m, hm, hK, hR⟩ := hrel
    by_cases hml : m < ds.length
    · have HAT := hid (Um.recs_at hml)
      have HBL : Hid ((ds[m]?.getD []).length = n) := hid (by rw [List.getElem?_eq_getElem hml]; exact HD.out _ (List.getElem_mem hml))
      have hTK : (ds.map Um.recB).take (m + 1) = (ds.map Um.recB).take m ++ [Um.recB (ds[m]?.getD [])] := by rw [List.take_add_one, List.getElem?_map, List.getElem?_eq_getElem hml]; rfl
      have HTK := hid hTK
      clear hTK
      generalize ds[m]?.getD [] = b at *
      have e1 : (Um.recsB (ds.drop m) ++ t) = Um.recB b ++ (Um.recsB (ds.drop (m + 1)) ++ t) := by rw [HAT.out]; show Um.recB b ++ _ ++ _ = _; rw [List.append_assoc]
      rw [e1] at hK
      have hne : Um.recB b ++ (Um.recsB (ds.drop (m + 1)) ++ t) ≠ [] := by unfold Um.recB; exact List.cons_ne_nil _ _
      obtain ⟨g, off, cap, rfl, hcap, hlt, hc⟩ := hK.out hne
      have hN : (Um.recB b ++ (Um.recsB (ds.drop (m + 1)) ++ t)).length = L + (Um.recsB (ds.drop (m + 1)) ++ t).length := by rw [List.length_append, Um.recB_len, HBL.out, HLL.out]
      have x0 : w.cell? ⟨g, off, none⟩ = some (.int .u8 n) := by
        have := hc 0 (by rw [hN, HLL.out]; omega)
        rw [show (Um.recB b ++ (Um.recsB (ds.drop (m + 1)) ++ t))[0]?.getD 0 = (b.length : Int) from rfl, HBL.out] at this
        exact this
      have HCC := hid hc
      have HRL : Hid ((Um.recB b ++ (Um.recsB (ds.drop (m + 1)) ++ t)).take L = Um.recB b ∧ (Um.recB b ++ (Um.recsB (ds.drop (m + 1)) ++ t)).drop L = Um.recsB (ds.drop (m + 1)) ++ t ∧ (Um.recB b).length = L) := by
        have hbl : (Um.recB b).length = L := by rw [Um.recB_len, HBL.out, HLL.out]
        rw [← hbl]
        exact hid ⟨List.take_left, List.drop_left, rfl⟩
      obtain ⟨M, hM⟩ : ∃ M, M = (Um.recsB (ds.drop (m + 1)) ++ t).length := ⟨_, rfl⟩
      have HMM := hid hM
      rw [← hM] at hN
      rw [hN] at hcap
      have HNN := hid hN
      rw [hN]
      clear hc hM e1 hne HAT hK
      have y0 := (hR.below.cell (p := ⟨g, off, none⟩) hlt).trans x0
      have L0 : 0 < L := by rw [HLL.out]; omega
      have L25 : L ≤ 25 := by rw [HLL.out]; omega
      clear hN
      have t1 : decide ((0 : Int) < ((L + M : Nat) : Int)) = true := decide_eq_true (by omega)
      have t2 : decide (((L + M : Nat) : Int) < (L : Int)) = false := decide_eq_false (by omega)
      have n0 : (0 : Int) ≤ (n : Int) := by omega
      have n3 : (n : Int) ≤ 3 := by omega
      obtain ⟨xs, ho, hh⟩ := hR.row
      have hB := hR.below
      have hsz := hR.below.size
      rw [List.length_take, List.length_map, Nat.min_eq_left hm] at ho
      obtain ⟨ar, cr, er⟩ := owns_slice ho
      subst er
      have HO := hid ho
      have HH := hid hh
      clear ho hh hR
      have HNX : Hid (∀ (ad : Option Addr) c, (¬ cap = L → ad = some ⟨g, off + L, none⟩) → M ≤ c → Lu w.heap.size w (.slice ad M c) (Um.recsB (ds.drop (m + 1)) ++ t)) := hid (by
        intro ad c h1 h2
        by_cases q : cap = L
        · exact Lu.none HMM.out (List.length_eq_zero_iff.1 (by rw [← HMM.out]; omega)) h2
        · rw [h1 q]
          exact Lu.rest hlt HCC.out HMM.out h2 rfl HRL.out.2.1.symm)
      have HEL : Hid (Lu w.heap.size w (.slice (some ⟨g, off, none⟩) L cap) (Um.recB b)) := hid (Lu.head hlt HCC.out HRL.out.2.2.symm (by omega) HRL.out.1.symm)
      clear HCC HRL HMM HNN x0 hlt
      go_wp2_with (first | (go_at_call 35; refine (HLE _).out.mono ?_; rintro e wl ⟨rfl, hq⟩; subst wl; clear HLE) | (at_builtin; refine wpList_append_own_at _ rfl _ _ 54 rfl w.heap.size 48 i0 (.slice none 0 0) 1 24 Tryd.underlying54 hi0 hz0 hz1 hz2 rfl (by decide) _ _ _ rfl (HO.out.alloc _) _ 1 1 [.slice (some ⟨g, off, none⟩) L cap] rfl rfl (cell_one_at _ _ _ rfl) (by simp [Value.oneCell']) (by unfold maxLen; omega) (by omega) (by simp; omega) ?_; intro v' w1 hown' hgrow _ hat))
      have HB1 : Hid (Below w.heap.size w w1) := hid ((hB.alloc hB.size _).grown hgrow (Nat.le_trans hB.size (by simp)) (fun k e => owns_from HO.out k e))
      have HR1 := hid (RowW.more HB1.out HH.out (by rw [List.length_take, List.length_map, Nat.min_eq_left hm]) (by simpa using HO.out.1) HEL.out hown')
      clear hown' hgrow hat y0
      rw [← HTK.out] at HR1
      obtain ⟨a9, c9, e9⟩ : ∃ a c, v' = .slice a (m + 1) c := by
        obtain ⟨xs9, h9, -⟩ := HR1.out.row
        rw [List.length_take, List.length_map, Nat.min_eq_left (show m + 1 ≤ ds.length from hml)] at h9
        exact owns_slice h9
      subst e9
      by_cases hq : cap = L
      · subst hq
        go_wp2
        exact ⟨⟨m + 1, hml, HNX.out _ _ (by simp) (by omega), HR1.out⟩, by simp [sliceLen]; omega⟩
      · go_wp2
        exact ⟨⟨m + 1, hml, HNX.out _ _ (fun _ => rfl) (by omega), HR1.out⟩, by simp [sliceLen]; omega⟩
    · obtain rfl : m = ds.length := by omega
      have HE := hid hR.lw
      have HB := hid hR.below
      rw [show (ds.map Um.recB).take ds.length = ds.map Um.recB from List.take_of_length_le (by rw [List.length_map]; exact Nat.le_refl _)] at HE
      rw [List.drop_length] at hK
      replace hK : Lu w.heap.size w _ t := hK
      obtain ⟨ar, cr, er, -⟩ := (id HE.out)
      subst er
      rw [List.length_map] at HE ⊢
      clear HD hm
      rcases HT.out with e0 | ⟨e1, e2⟩
      · subst e0
        obtain ⟨ak, ck, ek, -⟩ := (id hK)
        replace ek := ek.trans (show _ = Value.slice ak 0 ck from rfl)
        subst ek
        clear hK HT HLE hR
        go_wp2
        go_returns
        exact ⟨_, rfl, HE.out, HB.out⟩
      · have hne : t ≠ [] := fun e => by rw [e] at e1; cases e1
        obtain ⟨g, off, cap, ek, hcap, hlt, hc⟩ := hK.out hne
        subst ek
        have x0 : w.cell? ⟨g, off, none⟩ = some (.int .u8 n) := by
          have hp : 0 < t.length := List.length_pos_iff.2 hne
          have := hc 0 hp
          rw [show t[0]?.getD 0 = (n : Int) by rw [← List.head?_eq_getElem?, e1]; rfl] at this
          exact this
        have y0 := (hR.below.cell (p := ⟨g, off, none⟩) hlt).trans x0
        have hp : 0 < t.length := List.length_pos_iff.2 hne
        have h9 : t.length < L := by rw [HLL.out]; exact e2
        generalize t.length = M at *
        have t1 : decide ((0 : Int) < (M : Int)) = true := decide_eq_true (by omega)
        have t2 : decide ((M : Int) < (L : Int)) = true := decide_eq_true (by omega)
        have n0 : (0 : Int) ≤ (n : Int) := by omega
        have n3 : (n : Int) ≤ 3 := by omega
        clear hK HT hR e1 e2 hc x0 hne
        go_wp2_with (go_at_call 35; refine (HLE _).out.mono ?_; rintro e wl ⟨rfl, hq⟩; subst wl; clear HLE)
        go_returns
        exact ⟨_, rfl, HE.out, HB.out⟩

set_option maxRecDepth 100000 in
set_option maxHeartbeats 16000000 in
theorem read_any (b : List (Int × Int)) (v : Value) (w : World) (hl : Lu w.heap.size w v (Um.recB b)) (hb : Um.boxF b = 0) :
    Calls Tryd.prog 27 #[v] w fun e w' => ∃ r, e = .returned r ∧ Ls w'.heap.size w' r b ∧ Below w.heap.size w w' ∧ ∀ g, r.ownBlock = some g → w.heap.size ≤ g := by
  have hmx : Tryd.prog.follows .mixedOrders = true := by kernel_rfl
  obtain ⟨i0, hi0, hz0, hz1, hz2⟩ := info_parts info_side
  obtain ⟨hb0, hb3⟩ := Um.box_len hb
  obtain ⟨g, off, cap, rfl, hcap, hlt, hc⟩ := hl.out (by unfold Um.recB; exact List.cons_ne_nil _ _)
  have hLN := Um.recB_len b
  have x0 : w.cell? ⟨g, off, none⟩ = some (.int .u8 b.length) := hc 0 (by rw [hLN]; omega)
  have HCC := hid hc
  have HBX := hid hb
  rw [hLN] at hcap
  rw [hLN]
  have HLN := hid hLN
  clear hl hc hb hLN
  obtain ⟨n, hn⟩ : ∃ n, n = b.length := ⟨_, rfl⟩
  rw [← hn] at x0 hb0 hb3 hcap ⊢
  have HNB := hid hn
  clear hn
  go_enter Tryd.func27, Tryd.ntmps27
  go_wp2_with (at_make; refine wpList_make_full _ rfl _ _ 29 rfl w.heap.size 28 i0 (.agg #[.int .i64 0, .int .i64 0]) 2 Tryd.underlying29 hi0 hz0 hz1 .u8 .u8 _ _ n rfl rfl rfl rfl (by rw [hz2]; omega) (by unfold maxLen; omega) (Nat.le_refl _) ?_; intro w0 hown hgrow)
  have HP0 := hid (RowAt.start hgrow hown)
  clear hown hgrow
  go_wp2
  go_loopw [12] (fun i wq => ∃ k : Nat, k ≤ n ∧ i = .int .i64 k ∧ RowAt w n w.heap.size (b.take k) wq) (fun i _ => n - (intOf i).toNat)
  case atStart => exact ⟨0, Nat.zero_le _, rfl, HP0.out⟩
  case round =>
    clear HP0
    obtain ⟨k, hk, rfl, hP⟩ := hrel
    by_cases hkn : k < n
    · have hkk : (k : Int) < (n : Int) := by omega
      have HKL : Hid ((b.take k).length = k) := hid (by rw [List.length_take, ← HNB.out]; omega)
      have hkb : k < b.length := by rw [← HNB.out]; exact hkn
      have HTK := hid (Um.take_sd hkb)
      have HS := hid (Um.rec_side hkb)
      have hsb := side_b HBX.out hkb
      obtain ⟨O, hO⟩ : ∃ O : Nat, O = 1 + 8 * k := ⟨_, rfl⟩
      have HLE := fun w => hid (show Calls Tryd.prog 35 #[.int .i64 k] w fun e w' => e = .returned (.int .i64 (O : Int)) ∧ w' = w from by rw [hO]; exact length_any k w (by omega))
      have HOO := hid hO
      have HCL : Hid (∀ j, j < 8 → w.cell? ⟨g, off + O + j, none⟩ = some (.int .u8 ((Um.b4 (Um.sd b k).1 ++ Um.b4 (Um.sd b k).2)[j]?.getD 0))) := hid (by
        intro j hj
        rw [Nat.add_assoc, HCC.out (O + j) (by rw [HLN.out]; omega)]
        have e := congrArg (fun l => l[j]?.getD 0) HS.out
        simp only [List.getElem?_drop] at e
        rw [hO, e, List.getElem?_append_left (by simp [Um.b4]; omega)])
      clear hO HS
      generalize Um.sd b k = S at *
      obtain ⟨S0, S1⟩ := S
      simp only at HTK HCL hsb
      obtain ⟨s1, s2, s3, s4, -⟩ := hsb
      obtain ⟨M, hM⟩ : ∃ M : Nat, M = 1 + 8 * n - O := ⟨_, rfl⟩
      obtain ⟨C, hC⟩ : ∃ C : Nat, C = cap - O := ⟨_, rfl⟩
      have h8 : 8 ≤ M := by rw [hM, HOO.out]; omega
      have hMC : M ≤ C := by rw [hM, hC, HOO.out]; omega
      have hOL : O ≤ 1 + 8 * n := by rw [HOO.out]; omega
      have hOC : ¬ cap = O := by rw [HOO.out]; omega
      have HN0 : ∀ W1, Below wr.heap.size wr W1 → Hid (Calls Tryd.prog 36 #[.slice (some ⟨g, off + O, none⟩) M C] W1 fun e w' => e = .returned (.int .i64 S0) ∧ Below W1.heap.size W1 w') := by
        intro W1 hW
        have cl : ∀ j, j < 8 → W1.cell? ⟨g, off + O + j, none⟩ = _ := fun j hj => ((hP.below.trans (hW.mono hP.below.size)).cell (p := ⟨g, off + O + j, none⟩) hlt).trans (HCL.out j hj)
        have := number_any g (off + O) M C (S0 % 4294967296 / 16777216) (S0 % 4294967296 / 65536 % 256) (S0 % 4294967296 / 256 % 256) (S0 % 256) W1 (cl 0 (by decide)) (cl 1 (by decide)) (cl 2 (by decide)) (cl 3 (by decide)) (by omega) (by omega) (by omega) (by omega) (by omega) (by omega) (by omega) (by omega) (by omega)
        rw [Um.num_b4 (by omega) (by omega)] at this
        exact hid this
      have HN1 : ∀ W1, Below wr.heap.size wr W1 → Hid (Calls Tryd.prog 36 #[.slice (some ⟨g, off + O + 4, none⟩) (M - 4) (C - 4)] W1 fun e w' => e = .returned (.int .i64 S1) ∧ Below W1.heap.size W1 w') := by
        intro W1 hW
        have cl : ∀ j, j < 8 → W1.cell? ⟨g, off + O + j, none⟩ = _ := fun j hj => ((hP.below.trans (hW.mono hP.below.size)).cell (p := ⟨g, off + O + j, none⟩) hlt).trans (HCL.out j hj)
        have := number_any g (off + O + 4) (M - 4) (C - 4) (S1 % 4294967296 / 16777216) (S1 % 4294967296 / 65536 % 256) (S1 % 4294967296 / 256 % 256) (S1 % 256) W1 (cl 4 (by decide)) (cl 5 (by decide)) (cl 6 (by decide)) (cl 7 (by decide)) (by omega) (by omega) (by omega) (by omega) (by omega) (by omega) (by omega) (by omega) (by omega)
        rw [Um.num_b4 (by omega) (by omega)] at this
        exact hid this
      clear HCL HLN HBX HCC x0 s1 s2 s3 s4 hkb HOO
      go_wp2_with (go_at_call 35; refine (HLE _).out.mono ?_; rintro e wl ⟨rfl, hq⟩; subst wl; clear HLE)
      rw [← hM, ← hC]
      clear hM hC
      obtain ⟨Inv, hInv⟩ : ∃ Inv : Array Bool → Act → World → Prop, ∀ listed aq W', Inv listed aq W' ↔ (∃ v19 v20 v21 v22 v23 v24 v25 v26 v27 : Value, aq = { tmps := #[Value.slice (some { block := g, off := off }) (1 + 8 * n) cap, undef, Value.slice none 0 0, Value.slice (some { block := w.heap.size, off := 0 }) n n, Value.int IntKind.i64 ↑k, Value.slice (some { block := g, off := off + O }) M C, Value.slice (some { block := g, off := off }) (1 + 8 * n) cap, Value.pointer (some { block := g, off := off }), Value.int IntKind.u8 ↑n, Value.slice (some { block := w.heap.size, off := 0 }) n n, Value.slice (some { block := w.heap.size, off := 0 }) n n, Value.int IntKind.i64 ↑n, Value.int IntKind.i64 ↑k, Value.bool true, Value.int IntKind.i64 ↑k, Value.slice (some { block := g, off := off }) (1 + 8 * n) cap, Value.int IntKind.i64 ↑k, Value.int IntKind.i64 ↑O, Value.slice (some { block := g, off := off + O }) M C, v19, v20, v21, v22, v23, v24, v25, v26, v27, u28, undef], defers := [] } ∧ (∃ W2 : World, Below wr.heap.size wr W2 ∧ W' = if listed.getD 9 false = true then ((W2.setCell ⟨w.heap.size, k * 2, none⟩ (.int .i64 S0)).setCell ⟨w.heap.size, k * 2 + 1, none⟩ (.int .i64 S1)) else W2) ∧ (listed.getD 0 false = true → v19 = Value.slice (some { block := w.heap.size, off := 0 }) n n) ∧ (listed.getD 1 false = true → v20 = Value.int IntKind.i64 ↑k) ∧ (listed.getD 2 false = true → v21 = Value.slice (some { block := g, off := off + O }) M C) ∧ (listed.getD 3 false = true → v22 = .int .i64 S0) ∧ (listed.getD 4 false = true → v23 = Value.slice (some { block := g, off := off + O }) M C) ∧ (listed.getD 5 false = true → v24 = .slice (some ⟨g, off + O + 4, none⟩) (M - 4) (C - 4)) ∧ (listed.getD 6 false = true → v25 = .int .i64 S1) ∧ (listed.getD 7 false = true → v26 = .agg #[.int .i64 S0, .int .i64 S1]) ∧ (listed.getD 8 false = true → v27 = .pointer (some ⟨w.heap.size, k * 2, none⟩)) ∧ (listed.getD 9 false = true → listed.getD 3 false = true ∧ listed.getD 6 false = true)) := ⟨_, fun _ _ _ => Iff.rfl⟩
      have HI := hid hInv
      clear hInv
      refine Free.region hmx (by kernel_rfl) Inv ?s1 ?s2 ?s3
      case s1 =>
        exact (HI.out _ _ _).2 ⟨u19, u20, u21, u22, u23, u24, u25, u26, u27, rfl, ⟨_, (Below.refl _ _).drew, by rw [Free.none_yet]; rfl⟩, Free.not_yet, Free.not_yet, Free.not_yet, Free.not_yet, Free.not_yet, Free.not_yet, Free.not_yet, Free.not_yet, Free.not_yet, Free.not_yet⟩
      case s2 =>
        intro i listed aq W1 hi hne hnl hsz hv
        obtain ⟨v19, v20, v21, v22, v23, v24, v25, v26, v27, rfl, ⟨W2, hW, hWW⟩, l0, l1, l2, l3, l4, l5, l6, l7, l8, l9⟩ := (HI.out _ _ _).1 hv
        have HWW := hid hWW
        clear hv hWW
        replace hi : i < 10 := hi
        replace hsz : listed.size = 10 := hsz
        rcases (by omega : i = 0 ∨ i = 1 ∨ i = 2 ∨ i = 3 ∨ i = 4 ∨ i = 5 ∨ i = 6 ∨ i = 7 ∨ i = 8 ∨ i = 9) with rfl | rfl | rfl | rfl | rfl | rfl | rfl | rfl | rfl | rfl
        · refine Free.op rfl rfl (fun K hK => ?_)
          go_simp
          exact hK _ _ ((HI.out _ _ _).2 ⟨_, v20, v21, v22, v23, v24, v25, v26, v27, rfl, ⟨W2, hW, by rw [Free.set_other (by decide)]; exact HWW.out⟩, fun _ => rfl, Free.of_set (by decide) l1, Free.of_set (by decide) l2, Free.of_set (by decide) l3, Free.of_set (by decide) l4, Free.of_set (by decide) l5, Free.of_set (by decide) l6, Free.of_set (by decide) l7, Free.of_set (by decide) l8, fun e => by rw [Free.set_other (by decide)] at e; rw [Free.set_other (by decide), Free.set_other (by decide)]; exact l9 e⟩)
        · refine Free.op rfl rfl (fun K hK => ?_)
          go_simp
          exact hK _ _ ((HI.out _ _ _).2 ⟨v19, _, v21, v22, v23, v24, v25, v26, v27, rfl, ⟨W2, hW, by rw [Free.set_other (by decide)]; exact HWW.out⟩, Free.of_set (by decide) l0, fun _ => rfl, Free.of_set (by decide) l2, Free.of_set (by decide) l3, Free.of_set (by decide) l4, Free.of_set (by decide) l5, Free.of_set (by decide) l6, Free.of_set (by decide) l7, Free.of_set (by decide) l8, fun e => by rw [Free.set_other (by decide)] at e; rw [Free.set_other (by decide), Free.set_other (by decide)]; exact l9 e⟩)
        · refine Free.op rfl rfl (fun K hK => ?_)
          go_simp
          exact hK _ _ ((HI.out _ _ _).2 ⟨v19, v20, _, v22, v23, v24, v25, v26, v27, rfl, ⟨W2, hW, by rw [Free.set_other (by decide)]; exact HWW.out⟩, Free.of_set (by decide) l0, Free.of_set (by decide) l1, fun _ => rfl, Free.of_set (by decide) l3, Free.of_set (by decide) l4, Free.of_set (by decide) l5, Free.of_set (by decide) l6, Free.of_set (by decide) l7, Free.of_set (by decide) l8, fun e => by rw [Free.set_other (by decide)] at e; rw [Free.set_other (by decide), Free.set_other (by decide)]; exact l9 e⟩)
        · have hf := Free.off hnl
          have hs : listed.getD 9 false = false := by
            cases e : listed.getD 9 false
            · rfl
            · rw [(l9 e).1] at hf; cases hf
          have hWW := HWW.out
          rw [hs] at hWW
          obtain rfl : W1 = W2 := hWW
          clear HWW
          refine Free.op rfl rfl (fun K hK => ?_)
          obtain rfl := l2 (hne 2 (by kernel_rfl))
          go_wp2_with (go_at_call 36; refine (HN0 _ hW).out.mono ?_; rintro e W3 ⟨rfl, hb⟩)
          exact (HI.out _ _ _).2 ⟨v19, v20, _, _, v23, v24, v25, v26, v27, rfl, ⟨_, hW.trans (hb.mono hW.size), by rw [Free.set_other (by decide), hs]; rfl⟩, Free.of_set (by decide) l0, Free.of_set (by decide) l1, fun _ => rfl, fun _ => rfl, Free.of_set (by decide) l4, Free.of_set (by decide) l5, Free.of_set (by decide) l6, Free.of_set (by decide) l7, Free.of_set (by decide) l8, fun e => by rw [Free.set_other (by decide), hs] at e; cases e⟩
        · refine Free.op rfl rfl (fun K hK => ?_)
          go_simp
          exact hK _ _ ((HI.out _ _ _).2 ⟨v19, v20, v21, v22, _, v24, v25, v26, v27, rfl, ⟨W2, hW, by rw [Free.set_other (by decide)]; exact HWW.out⟩, Free.of_set (by decide) l0, Free.of_set (by decide) l1, Free.of_set (by decide) l2, Free.of_set (by decide) l3, fun _ => rfl, Free.of_set (by decide) l5, Free.of_set (by decide) l6, Free.of_set (by decide) l7, Free.of_set (by decide) l8, fun e => by rw [Free.set_other (by decide)] at e; rw [Free.set_other (by decide), Free.set_other (by decide)]; exact l9 e⟩)
        · have q5 : ¬ C = 4 := by omega
          have q6 : (4 : Int) ≤ (M : Int) := by omega
          refine Free.op rfl rfl (fun K hK => ?_)
          obtain rfl := l4 (hne 4 (by kernel_rfl))
          go_simp
          exact hK _ _ ((HI.out _ _ _).2 ⟨v19, v20, v21, v22, _, _, v25, v26, v27, rfl, ⟨W2, hW, by rw [Free.set_other (by decide)]; exact HWW.out⟩, Free.of_set (by decide) l0, Free.of_set (by decide) l1, Free.of_set (by decide) l2, Free.of_set (by decide) l3, fun _ => rfl, fun _ => rfl, Free.of_set (by decide) l6, Free.of_set (by decide) l7, Free.of_set (by decide) l8, fun e => by rw [Free.set_other (by decide)] at e; rw [Free.set_other (by decide), Free.set_other (by decide)]; exact l9 e⟩)
        · have hf := Free.off hnl
          have hs : listed.getD 9 false = false := by
            cases e : listed.getD 9 false
            · rfl
            · rw [(l9 e).2] at hf; cases hf
          have hWW := HWW.out
          rw [hs] at hWW
          obtain rfl : W1 = W2 := hWW
          clear HWW
          refine Free.op rfl rfl (fun K hK => ?_)
          obtain rfl := l5 (hne 5 (by kernel_rfl))
          go_wp2_with (go_at_call 36; refine (HN1 _ hW).out.mono ?_; rintro e W3 ⟨rfl, hb⟩)
          exact (HI.out _ _ _).2 ⟨v19, v20, v21, v22, v23, _, _, v26, v27, rfl, ⟨_, hW.trans (hb.mono hW.size), by rw [Free.set_other (by decide), hs]; rfl⟩, Free.of_set (by decide) l0, Free.of_set (by decide) l1, Free.of_set (by decide) l2, Free.of_set (by decide) l3, Free.of_set (by decide) l4, fun _ => rfl, fun _ => rfl, Free.of_set (by decide) l7, Free.of_set (by decide) l8, fun e => by rw [Free.set_other (by decide), hs] at e; cases e⟩
        · refine Free.op rfl rfl (fun K hK => ?_)
          obtain rfl := l3 (hne 3 (by kernel_rfl))
          obtain rfl := l6 (hne 6 (by kernel_rfl))
          go_simp
          exact hK _ _ ((HI.out _ _ _).2 ⟨v19, v20, v21, _, v23, v24, _, _, v27, rfl, ⟨W2, hW, by rw [Free.set_other (by decide)]; exact HWW.out⟩, Free.of_set (by decide) l0, Free.of_set (by decide) l1, Free.of_set (by decide) l2, fun _ => rfl, Free.of_set (by decide) l4, Free.of_set (by decide) l5, fun _ => rfl, fun _ => rfl, Free.of_set (by decide) l8, fun e => by rw [Free.set_other (by decide)] at e; rw [Free.set_other (by decide), Free.set_other (by decide)]; exact l9 e⟩)
        · refine Free.op rfl rfl (fun K hK => ?_)
          obtain rfl := l0 (hne 0 (by kernel_rfl))
          obtain rfl := l1 (hne 1 (by kernel_rfl))
          go_simp
          exact hK _ _ ((HI.out _ _ _).2 ⟨_, _, v21, v22, v23, v24, v25, v26, _, rfl, ⟨W2, hW, by rw [Free.set_other (by decide)]; exact HWW.out⟩, fun _ => rfl, fun _ => rfl, Free.of_set (by decide) l2, Free.of_set (by decide) l3, Free.of_set (by decide) l4, Free.of_set (by decide) l5, Free.of_set (by decide) l6, Free.of_set (by decide) l7, fun _ => rfl, fun e => by rw [Free.set_other (by decide)] at e; rw [Free.set_other (by decide), Free.set_other (by decide)]; exact l9 e⟩)
        · have hs := Free.off hnl
          have N := hid (And.intro (hne 3 (by kernel_rfl)) (hne 6 (by kernel_rfl)))
          have hWW := HWW.out
          rw [hs] at hWW
          obtain rfl : W1 = W2 := hWW
          clear HWW
          have hP2 := hP.step hW
          have y1 := hP2.row.frozenAt (k * 2)
          have y2 := hP2.row.frozenAt (k * 2 + 1)
          have y3 := hP2.lo0 HKL.out hkn
          have y4 := hP2.hi0 HKL.out hkn
          refine Free.op rfl rfl (fun K hK => ?_)
          obtain rfl := l7 (hne 7 (by kernel_rfl))
          obtain rfl := l8 (hne 8 (by kernel_rfl))
          go_simp
          exact hK _ _ ((HI.out _ _ _).2 ⟨v19, v20, v21, v22, v23, v24, v25, _, _, rfl, ⟨W1, hW, by rw [Free.set_same (by omega)]; rfl⟩, Free.of_set (by decide) l0, Free.of_set (by decide) l1, Free.of_set (by decide) l2, Free.of_set (by decide) l3, Free.of_set (by decide) l4, Free.of_set (by decide) l5, Free.of_set (by decide) l6, fun _ => rfl, fun _ => rfl, fun _ => by rw [Free.set_other (by decide), Free.set_other (by decide)]; exact N.out⟩)
      case s3 =>
        intro listed aq W1 hall hsz hv
        obtain ⟨v19, v20, v21, v22, v23, v24, v25, v26, v27, rfl, ⟨W2, hW, hWW⟩, l0, l1, l2, l3, l4, l5, l6, l7, l8, l9⟩ := (HI.out _ _ _).1 hv
        clear hv HI
        rw [Free.listed_of hall hsz 9 (by decide)] at hWW
        obtain rfl : W1 = ((W2.setCell ⟨w.heap.size, k * 2, none⟩ (.int .i64 S0)).setCell ⟨w.heap.size, k * 2 + 1, none⟩ (.int .i64 S1)) := hWW
        obtain rfl := l0 (Free.listed_of hall hsz 0 (by decide))
        obtain rfl := l1 (Free.listed_of hall hsz 1 (by decide))
        obtain rfl := l2 (Free.listed_of hall hsz 2 (by decide))
        obtain rfl := l3 (Free.listed_of hall hsz 3 (by decide))
        obtain rfl := l4 (Free.listed_of hall hsz 4 (by decide))
        obtain rfl := l5 (Free.listed_of hall hsz 5 (by decide))
        obtain rfl := l6 (Free.listed_of hall hsz 6 (by decide))
        obtain rfl := l7 (Free.listed_of hall hsz 7 (by decide))
        obtain rfl := l8 (Free.listed_of hall hsz 8 (by decide))
        clear  l9 hall hsz
        have hP2 := (hP.step hW).put HKL.out hkn S0 S1
        clear hW hP
        go_wp2
        exact ⟨⟨k + 1, hkn, by simp, by rw [HTK.out]; exact hP2⟩, by simp [intOf]; omega⟩
    · obtain rfl : k = n := by omega
      have HL := hid (hP.ls (by rw [List.length_take, ← HNB.out]; omega))
      rw [List.take_of_length_le (by rw [← HNB.out]; exact Nat.le_refl _)] at HL
      have hB := hP.below
      clear hP
      go_wp2
      go_returns
      exact ⟨_, rfl, HL.out, hB, fun j e => by cases e; exact Nat.le_refl _⟩

set_option maxRecDepth 100000 in
set_option maxHeartbeats 4000000 in
theorem grow_none  (w : World)  :
    Calls Tryd.prog 34 #[.slice none 0 0, .int .i64 0] w fun e w' => ∃ u, e = .returned u ∧ w'.ownsRow w.heap.size 5 1 u 0 (bytesV []) ∧ Below w.heap.size w w' := by
  go_enter Tryd.func34, Tryd.ntmps34
  go_wp2
  go_returns
  exact ⟨_, rfl, World.ownsRow_nil _ _ _ _, Below.refl _ _⟩

set_option maxRecDepth 100000 in
set_option maxHeartbeats 8000000 in
theorem grow_some (n : Nat) (w : World) (h0 : 0 < n) (h9 : n ≤ 1000) :
    Calls Tryd.prog 34 #[.slice none 0 0, .int .i64 n] w fun e w' => ∃ u, e = .returned u ∧ w'.ownsRow w.heap.size 5 1 u 0 (bytesV []) ∧ Below w.heap.size w w' := by
  obtain ⟨i0, hi0, hz0, hz1, hz2⟩ := info_parts info_byte
  have HR := fun ty => hid (Lib.run_append_nil_zeros (P := Tryd.prog) w 48 3 ty 5 i0 (.int .u8 0) .i64 .i64 Tryd.underlying48 Tryd.underlying3 hi0 hz0 n h0 (by omega) (by omega) (by rw [hz2]; omega))
  have d1 : decide ((0 : Int) < (n : Int)) = true := decide_eq_true (by omega)
  have d2 : decide ((n : Int) < 0) = false := decide_eq_false (by omega)
  have hcm := grownCap_le_maxLen w n 0 5 (by unfold maxLen; omega)
  have hge := grownCap_ge w n 0 5
  have HC := hid hcm
  clear hcm
  have HG : Hid ((Builtin.zeroCells #[Value.int .u8 0] n ++ Builtin.zeroCells #[Value.int .u8 0] (grownCap w n 0 5 - n)).size = grownCap w n 0 5 * 1) := hid (by rw [Array.size_append, size_zeroCells, size_zeroCells]; simp; omega)
  generalize grownCap w n 0 5 = cp at *
  go_enter Tryd.func34, Tryd.ntmps34
  go_wp2_with (at_builtin; refine Lib.wpList_append_run _ rfl _ _ _ _ rfl _ _ rfl rfl _ _ (HR _).out ?_)
  go_returns
  exact ⟨_, rfl, World.ownsRow_made (base := w.heap.size) (e := 5) (size := 1) w.drew _ cp (Nat.le_refl _) HC.out HG.out, by go_grown⟩

theorem cat_next {rs : List (List Int)} {m : Nat} (h : m < rs.length) : (rs.take (m + 1)).flatten = (rs.take m).flatten ++ (rs[m]?.getD []) := by
  rw [List.take_add_one, List.flatten_append, List.getElem?_eq_getElem h]
  simp
theorem cat_len {rs : List (List Int)} (h : ∀ r ∈ rs, r.length ≤ 25) : ∀ m, m ≤ rs.length → (rs.take m).flatten.length ≤ 25 * m
  | 0, _ => by simp
  | m + 1, hm => by
    have i := cat_len h m (by omega)
    have hlt : m < rs.length := by omega
    have q := h _ (List.getElem_mem hlt)
    rw [cat_next hlt, List.length_append, List.getElem?_eq_getElem hlt]
    show _ + (rs[m]).length ≤ _
    omega

set_option maxRecDepth 100000 in
set_option maxHeartbeats 16000000 in
theorem concat_any (rs : List (List Int)) (v : Value) (w : World) (hl : Lw w.heap.size w v rs) (h0 : ∀ r ∈ rs, r ≠ []) (h25 : ∀ r ∈ rs, r.length ≤ 25) (h20 : rs.length ≤ 20) :
    Calls Tryd.prog 25 #[v] w fun e w' => ∃ u, e = .returned u ∧ w'.ownsRow w.heap.size 5 1 u rs.flatten.length (bytesV rs.flatten) ∧ Below w.heap.size w w' := by
  obtain ⟨i0, hi0, hz0, hz1, hz2⟩ := info_parts info_byte
  have HLX := hid hl
  have H0 := hid h0
  have H25 := hid h25
  obtain ⟨a5, c5, rfl, -⟩ := (id hl)
  clear hl h0 h25
  go_enter Tryd.func25, Tryd.ntmps25
  go_wp2
  go_loop [3, 11] (fun z i => ∃ m : Nat, m ≤ rs.length ∧ i = .int .i64 m ∧ z = .int .i64 ((rs.take m).flatten.length : Nat)) (fun _ i => rs.length - (intOf i).toNat)
  case atStart => exact ⟨0, Nat.zero_le _, rfl, rfl⟩
  case round =>
    obtain ⟨m, hm, rfl, rfl⟩ := hrel
    by_cases hml : m < rs.length
    · have hmm : (m : Int) < (rs.length : Int) := by omega
      obtain ⟨b6, o6, c6, e6', -, m6, n6⟩ := HLX.out.open (by intro e; rw [e] at hml; simp at hml)
      cases e6'
      obtain ⟨x6, p6, e6⟩ := n6 m hml
      have HNX := hid (cat_next hml)
      have hc1 := cat_len H25.out m hm
      have hc2 := cat_len H25.out (m + 1) hml
      rw [cat_next hml, List.length_append] at hc2
      generalize rs[m]?.getD [] = q at *
      obtain ⟨a9, c9, rfl, -⟩ := (id e6)
      obtain ⟨Z, hZ⟩ : ∃ Z, Z = (rs.take m).flatten.length := ⟨_, rfl⟩
      rw [← hZ] at hc1 hc2
      have HZ := hid hZ
      rw [← hZ]
      clear hZ n6 HLX
      have t1 : decide ((Z : Int) + (q.length : Int) < 0) = false := decide_eq_false (by omega)
      go_wp2
      refine ⟨⟨m + 1, hml, by simp, ?_⟩, by simp [intOf]; omega⟩
      rw [HNX.out, List.length_append, HZ.out]
      simp
    · obtain rfl : m = rs.length := by omega
      rw [List.take_length]
      have hc1 := cat_len H25.out rs.length (Nat.le_refl _)
      rw [List.take_length] at hc1
      have HGR : Hid (Calls Tryd.prog 34 #[.slice none 0 0, .int .i64 (rs.flatten.length : Nat)] w fun e w' => ∃ u, e = .returned u ∧ w'.ownsRow w.heap.size 5 1 u 0 (bytesV []) ∧ Below w.heap.size w w') := by
        by_cases q : rs.flatten.length = 0
        · rw [q]; exact hid (grow_none w)
        · exact hid (grow_some _ w (by omega) (by omega))
      obtain ⟨Z, hZ⟩ : ∃ Z, Z = rs.flatten.length := ⟨_, rfl⟩
      rw [← hZ] at HGR ⊢
      have HZ := hid hZ
      clear hZ
      go_wp2_with fail
      refine HGR.out.mono ?_
      rintro e w0 ⟨u0, rfl, ho0, hB0⟩
      have HO0 := hid ho0
      obtain ⟨a0, c0, e0⟩ := owns_slice ho0
      subst e0
      clear ho0 HGR
      go_wp2
      have HR0 : Hid (w0.ownsRow w.heap.size 5 1 (.slice a0 0 c0) (rs.take 0).flatten.length (bytesV (rs.take 0).flatten)) := HO0
      go_loopw [6, 27] (fun u i wq => ∃ m : Nat, m ≤ rs.length ∧ i = .int .i64 m ∧ wq.ownsRow w.heap.size 5 1 u (rs.take m).flatten.length (bytesV (rs.take m).flatten) ∧ Below w.heap.size w wq) (fun _ i _ => rs.length - (intOf i).toNat)
      case atStart => exact ⟨0, Nat.zero_le _, rfl, HR0.out, hB0⟩
      case round =>
        clear HR0 hB0 HO0
        obtain ⟨m, hm, rfl, hO, hB⟩ := hrel
        by_cases hml : m < rs.length
        · have hmm : (m : Int) < (rs.length : Int) := by omega
          obtain ⟨b6, o6, c6, e6', -, m6, n6⟩ := HLX.out.open (by intro e; rw [e] at hml; simp at hml)
          cases e6'
          obtain ⟨x6, p6, e6⟩ := n6 m hml
          have y6 := (hB.cell (p := ⟨b6, o6 + m, none⟩) m6).trans p6
          have HNX := hid (cat_next hml)
          have hc1' := cat_len H25.out m hm
          have hc2 := cat_len H25.out (m + 1) hml
          rw [cat_next hml, List.length_append] at hc2
          have hq0 : rs[m]?.getD [] ≠ [] := by rw [List.getElem?_eq_getElem hml]; exact H0.out _ (List.getElem_mem hml)
          generalize rs[m]?.getD [] = q at *
          obtain ⟨g9, o9, c9, rfl, hc9, hg9, hq9⟩ := e6.out hq0
          have HCQ : Hid (∀ j, j < q.length → wr.cell? ⟨g9, o9 + j, none⟩ = some (.int .u8 (q[j]?.getD 0))) := hid fun j hj => (hB.cell (p := ⟨g9, o9 + j, none⟩) hg9).trans (hq9 j hj)
          obtain ⟨Q, hQ⟩ : ∃ Q, Q = q.length := ⟨_, rfl⟩
          obtain ⟨Y, hY⟩ : ∃ Y, Y = (rs.take m).flatten.length := ⟨_, rfl⟩
          rw [← hY] at hc1' hc2 hO
          rw [← hQ] at hc2 hc9 y6
          have HQ : Hid (q.length = Q) := hid hQ.symm
          have HY := hid hY
          have hsz := hB.size
          obtain ⟨ar, cr, er⟩ := owns_slice hO
          subst er
          have HO := hid hO
          clear hY hQ n6 p6 HLX hq0 e6 hq9 hO
          go_wp2_with (at_builtin; refine wpList_append_own_at _ rfl _ _ 48 rfl w.heap.size 5 i0 (.int .u8 0) 1 1 Tryd.underlying48 hi0 hz0 hz1 hz2 rfl (by decide) _ _ _ rfl HO.out _ Q _ (bytesV q) rfl (by rw [List.length_map, Nat.mul_one]; exact HQ.out) (bytes_cells HCQ.out) (bytes_one _) (by unfold maxLen; omega) (by omega) hsz ?_; intro v' w1 hown' hgrow _ hat)
          have HN := hid hown'
          have HB1 : Hid (Below w.heap.size w w1) := hid (hB.grown hgrow hsz (fun k e => owns_from HO.out k e))
          obtain ⟨a8, c8, e8⟩ := owns_slice hown'
          subst e8
          clear hown' hgrow hat y6
          go_wp2
          refine ⟨⟨m + 1, hml, by simp, ?_, HB1.out⟩, by simp [intOf]; omega⟩
          rw [HNX.out, List.length_append, ← HY.out, HQ.out, bytesV_append]
          exact HN.out
        · obtain rfl : m = rs.length := by omega
          rw [List.take_length] at hO
          have HO := hid hO
          obtain ⟨ar, cr, er⟩ := owns_slice hO
          subst er
          clear hO HLX
          go_wp2
          go_returns
          exact ⟨_, rfl, HO.out, hB⟩
end Go.Proofs.YthgehlonjoafmaaDoor
