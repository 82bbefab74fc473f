/-
  What package run tells of the words of a line.
-/
import Derived.Test.YtkfalmdckmlneaaGreatDoorRunO
import Derived.Test.YtkfalmdckmlneaaGreatDoorSpans
import Derived.Shelf.Abstract
namespace Go.Proofs.YtkfalmdckmlneaaGreatDoor
set_option linter.unusedSimpArgs false
open Go.RowKit Go.Shelf

theorem text_list (l : List UInt8) : (⟨l.toArray⟩ : ByteArray).toList = l := by
  rw [Lib.toList_data]
theorem twoAdd : Two 57 Um.addR :=
  ⟨enters_of Tryz.func57 (by kernel_rfl) rfl, fun a b c d w h1 h2 => (add_any a b c d w).mono fun e w' h => by rw [Um.made_good h1 h2] at h; exact h⟩
theorem twoLess : Two 58 Um.lessR :=
  ⟨enters_of Tryz.func58 (by kernel_rfl) rfl, fun a b c d w h1 h2 => (less_any a b c d w).mono fun e w' h => by rw [Um.made_good h1 h2] at h; exact h⟩
theorem twoTimes : Two 59 Um.stimesR :=
  ⟨enters_of Tryz.func59 (by kernel_rfl) rfl, fun a b c d w h1 h2 => (stimes_any a b c d w).mono fun e w' h => by rw [Um.made_good h1 h2] at h; exact h⟩
theorem twoBy : Two 60 Um.sbyR :=
  ⟨enters_of Tryz.func60 (by kernel_rfl) rfl, fun a b c d w h1 h2 => (sby_any a b c d w).mono fun e w' h => by rw [Um.made_good h1 h2] at h; exact h⟩
theorem twoMeet : Two 61 Um.meetR :=
  ⟨enters_of Tryz.func61 (by kernel_rfl) rfl, fun a b c d w h1 h2 => (meet_any a b c d w).mono fun e w' h => by rw [Um.made_good h1 h2] at h; exact h⟩
theorem twoHull : Two 62 Um.hullR :=
  ⟨enters_of Tryz.func62 (by kernel_rfl) rfl, fun a b c d w h1 h2 => (hull_any a b c d w).mono fun e w' h => by rw [Um.made_good h1 h2] at h; exact h⟩
theorem polRange : Pol 65 Um.monoAll := ⟨enters_of Tryz.func65 (by kernel_rfl) rfl, fun p v a b w h => mrange_any p v a b w h⟩
theorem polNear : Pol 67 (fun p lo hi => Um.runAll p lo hi 20) := ⟨enters_of Tryz.func67 (by kernel_rfl) rfl, fun p v a b w h => nearest_any p v a b w h⟩
theorem AskTold.shape {o : Option (List (Int × Int) × Int)} {w w' : World} {e : Ending} (h : AskTold o w e w') : ∃ u er, e = .returned (.tuple #[u, er]) := by
  cases ho : o with
  | none => obtain ⟨k, hk⟩ := h.2.1 ho; exact ⟨_, _, hk⟩
  | some r => obtain ⟨u, hu, -⟩ := h.2.2 r ho; exact ⟨_, _, hu⟩
theorem lx_rest {w : World} {K : List UInt8} {g : List (List UInt8)} {b off cap : Nat} (hc : ∀ j, j < (K :: g).length → w.cell? ⟨b, off + j, none⟩ = some (strV ((K :: g)[j]?.getD []))) (hlt : b < w.heap.size) (hcap : (K :: g).length ≤ cap) :
    Lx w.heap.size w (.slice (some ⟨b, off + 1, none⟩) g.length (cap - 1)) g ∧ (cap = 1 → Lx w.heap.size w (.slice (some ⟨b, off, none⟩) g.length 0) g) := by
  have hcap' : g.length + 1 ≤ cap := hcap
  refine ⟨⟨_, _, rfl, by omega, .inr ⟨b, off + 1, rfl, hlt, fun j hj => ?_⟩⟩, fun h1 => ?_⟩
  · have := hc (j + 1) (by show j + 1 < g.length + 1; omega)
    rw [show off + (j + 1) = off + 1 + j by omega] at this
    simpa using this
  · have : g = [] := List.length_eq_zero_iff.1 (by omega)
    subst this
    exact ⟨_, _, rfl, Nat.le_refl _, .inl rfl⟩
set_option maxRecDepth 100000 in
set_option maxHeartbeats 4000000 in
theorem askedAdd (v : Value) (g : List (List UInt8)) (w : World) (hl : Lx w.heap.size w v (Um.wAdd :: g)) (hg : ∀ x ∈ g, x.length ≤ 3000) (hm : HasLen w) :
    Calls Tryz.prog 35 #[v] w fun e w' => AskTold (Um.askTwo Um.addR g) w e w' := by
  obtain ⟨rt, hrt⟩ : ∃ rt : ByteArray, rt = ⟨(Um.wAdd).toArray⟩ := ⟨_, rfl⟩
  have t0 : (rt.toList == [97, 100, 100]) = true := by rw [hrt, text_list]; decide
  obtain ⟨b, off, cap, rfl, hcap, hlt, hc⟩ := hl.open (by simp)
  have c0 : w.cell? ⟨b, off, none⟩ = some (strV Um.wAdd) := hc 0 (by simp)
  have c00 : w.cell? ⟨b, off, none⟩ = some (.string rt) := by rw [hrt]; exact c0
  have e1 : (Um.wAdd :: g).length = g.length + 1 := rfl
  have hX := lx_rest hc hlt hcap
  rw [e1] at hcap ⊢
  clear hrt hc c0 hl e1
  by_cases h1 : cap = 1
  · have g0 : g = [] := List.length_eq_zero_iff.1 (by omega)
    subst h1 g0
    have hx : Lx w.heap.size w (.slice (some ⟨b, off, none⟩) 0 0) [] := hX.2 rfl
    have HA := hid (ofTwo_any twoAdd _ [] w hx hg hm)
    clear hX hm hg
    go_enter Tryz.func35, Tryz.ntmps35
    go_wp2_with (go_at_call 56; refine HA.out.mono ?_; intro e w1 h; obtain ⟨u, er, rfl⟩ := h.shape; replace h := hid h)
    go_ret2
    exact h.out
  · have hx := hX.1
    have HA := hid (ofTwo_any twoAdd _ g w hx hg hm)
    clear hX hm hg
    go_enter Tryz.func35, Tryz.ntmps35
    go_wp2_with (go_at_call 56; refine HA.out.mono ?_; intro e w1 h; obtain ⟨u, er, rfl⟩ := h.shape; replace h := hid h)
    go_ret2
    exact h.out
set_option maxRecDepth 100000 in
set_option maxHeartbeats 4000000 in
theorem askedLess (v : Value) (g : List (List UInt8)) (w : World) (hl : Lx w.heap.size w v (Um.wLess :: g)) (hg : ∀ x ∈ g, x.length ≤ 3000) (hm : HasLen w) :
    Calls Tryz.prog 35 #[v] w fun e w' => AskTold (Um.askTwo Um.lessR g) w e w' := by
  obtain ⟨rt, hrt⟩ : ∃ rt : ByteArray, rt = ⟨(Um.wLess).toArray⟩ := ⟨_, rfl⟩
  have t0 : (rt.toList == [97, 100, 100]) = false := by rw [hrt, text_list]; decide
  have t1 : (rt.toList == [108, 101, 115, 115]) = true := by rw [hrt, text_list]; decide
  obtain ⟨b, off, cap, rfl, hcap, hlt, hc⟩ := hl.open (by simp)
  have c0 : w.cell? ⟨b, off, none⟩ = some (strV Um.wLess) := hc 0 (by simp)
  have c00 : w.cell? ⟨b, off, none⟩ = some (.string rt) := by rw [hrt]; exact c0
  have e1 : (Um.wLess :: g).length = g.length + 1 := rfl
  have hX := lx_rest hc hlt hcap
  rw [e1] at hcap ⊢
  clear hrt hc c0 hl e1
  by_cases h1 : cap = 1
  · have g0 : g = [] := List.length_eq_zero_iff.1 (by omega)
    subst h1 g0
    have hx : Lx w.heap.size w (.slice (some ⟨b, off, none⟩) 0 0) [] := hX.2 rfl
    have HA := hid (ofTwo_any twoLess _ [] w hx hg hm)
    clear hX hm hg
    go_enter Tryz.func35, Tryz.ntmps35
    go_wp2_with (go_at_call 56; refine HA.out.mono ?_; intro e w1 h; obtain ⟨u, er, rfl⟩ := h.shape; replace h := hid h)
    go_ret2
    exact h.out
  · have hx := hX.1
    have HA := hid (ofTwo_any twoLess _ g w hx hg hm)
    clear hX hm hg
    go_enter Tryz.func35, Tryz.ntmps35
    go_wp2_with (go_at_call 56; refine HA.out.mono ?_; intro e w1 h; obtain ⟨u, er, rfl⟩ := h.shape; replace h := hid h)
    go_ret2
    exact h.out
set_option maxRecDepth 100000 in
set_option maxHeartbeats 4000000 in
theorem askedTimes (v : Value) (g : List (List UInt8)) (w : World) (hl : Lx w.heap.size w v (Um.wTimes :: g)) (hg : ∀ x ∈ g, x.length ≤ 3000) (hm : HasLen w) :
    Calls Tryz.prog 35 #[v] w fun e w' => AskTold (Um.askTwo Um.stimesR g) w e w' := by
  obtain ⟨rt, hrt⟩ : ∃ rt : ByteArray, rt = ⟨(Um.wTimes).toArray⟩ := ⟨_, rfl⟩
  have t0 : (rt.toList == [97, 100, 100]) = false := by rw [hrt, text_list]; decide
  have t1 : (rt.toList == [108, 101, 115, 115]) = false := by rw [hrt, text_list]; decide
  have t2 : (rt.toList == [116, 105, 109, 101, 115]) = true := by rw [hrt, text_list]; decide
  obtain ⟨b, off, cap, rfl, hcap, hlt, hc⟩ := hl.open (by simp)
  have c0 : w.cell? ⟨b, off, none⟩ = some (strV Um.wTimes) := hc 0 (by simp)
  have c00 : w.cell? ⟨b, off, none⟩ = some (.string rt) := by rw [hrt]; exact c0
  have e1 : (Um.wTimes :: g).length = g.length + 1 := rfl
  have hX := lx_rest hc hlt hcap
  rw [e1] at hcap ⊢
  clear hrt hc c0 hl e1
  by_cases h1 : cap = 1
  · have g0 : g = [] := List.length_eq_zero_iff.1 (by omega)
    subst h1 g0
    have hx : Lx w.heap.size w (.slice (some ⟨b, off, none⟩) 0 0) [] := hX.2 rfl
    have HA := hid (ofTwo_any twoTimes _ [] w hx hg hm)
    clear hX hm hg
    go_enter Tryz.func35, Tryz.ntmps35
    go_wp2_with (go_at_call 56; refine HA.out.mono ?_; intro e w1 h; obtain ⟨u, er, rfl⟩ := h.shape; replace h := hid h)
    go_ret2
    exact h.out
  · have hx := hX.1
    have HA := hid (ofTwo_any twoTimes _ g w hx hg hm)
    clear hX hm hg
    go_enter Tryz.func35, Tryz.ntmps35
    go_wp2_with (go_at_call 56; refine HA.out.mono ?_; intro e w1 h; obtain ⟨u, er, rfl⟩ := h.shape; replace h := hid h)
    go_ret2
    exact h.out
set_option maxRecDepth 100000 in
set_option maxHeartbeats 4000000 in
theorem askedBy (v : Value) (g : List (List UInt8)) (w : World) (hl : Lx w.heap.size w v (Um.wBy :: g)) (hg : ∀ x ∈ g, x.length ≤ 3000) (hm : HasLen w) :
    Calls Tryz.prog 35 #[v] w fun e w' => AskTold (Um.askTwo Um.sbyR g) w e w' := by
  obtain ⟨rt, hrt⟩ : ∃ rt : ByteArray, rt = ⟨(Um.wBy).toArray⟩ := ⟨_, rfl⟩
  have t0 : (rt.toList == [97, 100, 100]) = false := by rw [hrt, text_list]; decide
  have t1 : (rt.toList == [108, 101, 115, 115]) = false := by rw [hrt, text_list]; decide
  have t2 : (rt.toList == [116, 105, 109, 101, 115]) = false := by rw [hrt, text_list]; decide
  have t3 : (rt.toList == [98, 121]) = true := by rw [hrt, text_list]; decide
  obtain ⟨b, off, cap, rfl, hcap, hlt, hc⟩ := hl.open (by simp)
  have c0 : w.cell? ⟨b, off, none⟩ = some (strV Um.wBy) := hc 0 (by simp)
  have c00 : w.cell? ⟨b, off, none⟩ = some (.string rt) := by rw [hrt]; exact c0
  have e1 : (Um.wBy :: g).length = g.length + 1 := rfl
  have hX := lx_rest hc hlt hcap
  rw [e1] at hcap ⊢
  clear hrt hc c0 hl e1
  by_cases h1 : cap = 1
  · have g0 : g = [] := List.length_eq_zero_iff.1 (by omega)
    subst h1 g0
    have hx : Lx w.heap.size w (.slice (some ⟨b, off, none⟩) 0 0) [] := hX.2 rfl
    have HA := hid (ofTwo_any twoBy _ [] w hx hg hm)
    clear hX hm hg
    go_enter Tryz.func35, Tryz.ntmps35
    go_wp2_with (go_at_call 56; refine HA.out.mono ?_; intro e w1 h; obtain ⟨u, er, rfl⟩ := h.shape; replace h := hid h)
    go_ret2
    exact h.out
  · have hx := hX.1
    have HA := hid (ofTwo_any twoBy _ g w hx hg hm)
    clear hX hm hg
    go_enter Tryz.func35, Tryz.ntmps35
    go_wp2_with (go_at_call 56; refine HA.out.mono ?_; intro e w1 h; obtain ⟨u, er, rfl⟩ := h.shape; replace h := hid h)
    go_ret2
    exact h.out
set_option maxRecDepth 100000 in
set_option maxHeartbeats 4000000 in
theorem askedMeet (v : Value) (g : List (List UInt8)) (w : World) (hl : Lx w.heap.size w v (Um.wMeet :: g)) (hg : ∀ x ∈ g, x.length ≤ 3000) (hm : HasLen w) :
    Calls Tryz.prog 35 #[v] w fun e w' => AskTold (Um.askTwo Um.meetR g) w e w' := by
  obtain ⟨rt, hrt⟩ : ∃ rt : ByteArray, rt = ⟨(Um.wMeet).toArray⟩ := ⟨_, rfl⟩
  have t0 : (rt.toList == [97, 100, 100]) = false := by rw [hrt, text_list]; decide
  have t1 : (rt.toList == [108, 101, 115, 115]) = false := by rw [hrt, text_list]; decide
  have t2 : (rt.toList == [116, 105, 109, 101, 115]) = false := by rw [hrt, text_list]; decide
  have t3 : (rt.toList == [98, 121]) = false := by rw [hrt, text_list]; decide
  have t4 : (rt.toList == [109, 101, 101, 116]) = true := by rw [hrt, text_list]; decide
  obtain ⟨b, off, cap, rfl, hcap, hlt, hc⟩ := hl.open (by simp)
  have c0 : w.cell? ⟨b, off, none⟩ = some (strV Um.wMeet) := hc 0 (by simp)
  have c00 : w.cell? ⟨b, off, none⟩ = some (.string rt) := by rw [hrt]; exact c0
  have e1 : (Um.wMeet :: g).length = g.length + 1 := rfl
  have hX := lx_rest hc hlt hcap
  rw [e1] at hcap ⊢
  clear hrt hc c0 hl e1
  by_cases h1 : cap = 1
  · have g0 : g = [] := List.length_eq_zero_iff.1 (by omega)
    subst h1 g0
    have hx : Lx w.heap.size w (.slice (some ⟨b, off, none⟩) 0 0) [] := hX.2 rfl
    have HA := hid (ofTwo_any twoMeet _ [] w hx hg hm)
    clear hX hm hg
    go_enter Tryz.func35, Tryz.ntmps35
    go_wp2_with (go_at_call 56; refine HA.out.mono ?_; intro e w1 h; obtain ⟨u, er, rfl⟩ := h.shape; replace h := hid h)
    go_ret2
    exact h.out
  · have hx := hX.1
    have HA := hid (ofTwo_any twoMeet _ g w hx hg hm)
    clear hX hm hg
    go_enter Tryz.func35, Tryz.ntmps35
    go_wp2_with (go_at_call 56; refine HA.out.mono ?_; intro e w1 h; obtain ⟨u, er, rfl⟩ := h.shape; replace h := hid h)
    go_ret2
    exact h.out
set_option maxRecDepth 100000 in
set_option maxHeartbeats 4000000 in
theorem askedHull (v : Value) (g : List (List UInt8)) (w : World) (hl : Lx w.heap.size w v (Um.wHull :: g)) (hg : ∀ x ∈ g, x.length ≤ 3000) (hm : HasLen w) :
    Calls Tryz.prog 35 #[v] w fun e w' => AskTold (Um.askTwo Um.hullR g) w e w' := by
  obtain ⟨rt, hrt⟩ : ∃ rt : ByteArray, rt = ⟨(Um.wHull).toArray⟩ := ⟨_, rfl⟩
  have t0 : (rt.toList == [97, 100, 100]) = false := by rw [hrt, text_list]; decide
  have t1 : (rt.toList == [108, 101, 115, 115]) = false := by rw [hrt, text_list]; decide
  have t2 : (rt.toList == [116, 105, 109, 101, 115]) = false := by rw [hrt, text_list]; decide
  have t3 : (rt.toList == [98, 121]) = false := by rw [hrt, text_list]; decide
  have t4 : (rt.toList == [109, 101, 101, 116]) = false := by rw [hrt, text_list]; decide
  have t5 : (rt.toList == [104, 117, 108, 108]) = true := by rw [hrt, text_list]; decide
  obtain ⟨b, off, cap, rfl, hcap, hlt, hc⟩ := hl.open (by simp)
  have c0 : w.cell? ⟨b, off, none⟩ = some (strV Um.wHull) := hc 0 (by simp)
  have c00 : w.cell? ⟨b, off, none⟩ = some (.string rt) := by rw [hrt]; exact c0
  have e1 : (Um.wHull :: g).length = g.length + 1 := rfl
  have hX := lx_rest hc hlt hcap
  rw [e1] at hcap ⊢
  clear hrt hc c0 hl e1
  by_cases h1 : cap = 1
  · have g0 : g = [] := List.length_eq_zero_iff.1 (by omega)
    subst h1 g0
    have hx : Lx w.heap.size w (.slice (some ⟨b, off, none⟩) 0 0) [] := hX.2 rfl
    have HA := hid (ofTwo_any twoHull _ [] w hx hg hm)
    clear hX hm hg
    go_enter Tryz.func35, Tryz.ntmps35
    go_wp2_with (go_at_call 56; refine HA.out.mono ?_; intro e w1 h; obtain ⟨u, er, rfl⟩ := h.shape; replace h := hid h)
    go_ret2
    exact h.out
  · have hx := hX.1
    have HA := hid (ofTwo_any twoHull _ g w hx hg hm)
    clear hX hm hg
    go_enter Tryz.func35, Tryz.ntmps35
    go_wp2_with (go_at_call 56; refine HA.out.mono ?_; intro e w1 h; obtain ⟨u, er, rfl⟩ := h.shape; replace h := hid h)
    go_ret2
    exact h.out
set_option maxRecDepth 100000 in
set_option maxHeartbeats 4000000 in
theorem askedPower (v : Value) (g : List (List UInt8)) (w : World) (hl : Lx w.heap.size w v (Um.wPower :: g)) (hg : ∀ x ∈ g, x.length ≤ 3000) (hm : HasLen w) :
    Calls Tryz.prog 35 #[v] w fun e w' => AskTold (Um.askPow g) w e w' := by
  obtain ⟨rt, hrt⟩ : ∃ rt : ByteArray, rt = ⟨(Um.wPower).toArray⟩ := ⟨_, rfl⟩
  have t0 : (rt.toList == [97, 100, 100]) = false := by rw [hrt, text_list]; decide
  have t1 : (rt.toList == [108, 101, 115, 115]) = false := by rw [hrt, text_list]; decide
  have t2 : (rt.toList == [116, 105, 109, 101, 115]) = false := by rw [hrt, text_list]; decide
  have t3 : (rt.toList == [98, 121]) = false := by rw [hrt, text_list]; decide
  have t4 : (rt.toList == [109, 101, 101, 116]) = false := by rw [hrt, text_list]; decide
  have t5 : (rt.toList == [104, 117, 108, 108]) = false := by rw [hrt, text_list]; decide
  have t6 : (rt.toList == [112, 111, 119, 101, 114]) = true := by rw [hrt, text_list]; decide
  obtain ⟨b, off, cap, rfl, hcap, hlt, hc⟩ := hl.open (by simp)
  have c0 : w.cell? ⟨b, off, none⟩ = some (strV Um.wPower) := hc 0 (by simp)
  have c00 : w.cell? ⟨b, off, none⟩ = some (.string rt) := by rw [hrt]; exact c0
  have e1 : (Um.wPower :: g).length = g.length + 1 := rfl
  have hX := lx_rest hc hlt hcap
  rw [e1] at hcap ⊢
  clear hrt hc c0 hl e1
  by_cases h1 : cap = 1
  · have g0 : g = [] := List.length_eq_zero_iff.1 (by omega)
    subst h1 g0
    have hx : Lx w.heap.size w (.slice (some ⟨b, off, none⟩) 0 0) [] := hX.2 rfl
    have HA := hid (powerOf_any _ [] w hx hg hm)
    clear hX hm hg
    go_enter Tryz.func35, Tryz.ntmps35
    go_wp2_with (go_at_call 63; refine HA.out.mono ?_; intro e w1 h; obtain ⟨u, er, rfl⟩ := h.shape; replace h := hid h)
    go_ret2
    exact h.out
  · have hx := hX.1
    have HA := hid (powerOf_any _ g w hx hg hm)
    clear hX hm hg
    go_enter Tryz.func35, Tryz.ntmps35
    go_wp2_with (go_at_call 63; refine HA.out.mono ?_; intro e w1 h; obtain ⟨u, er, rfl⟩ := h.shape; replace h := hid h)
    go_ret2
    exact h.out
set_option maxRecDepth 100000 in
set_option maxHeartbeats 4000000 in
theorem askedRange (v : Value) (g : List (List UInt8)) (w : World) (hl : Lx w.heap.size w v (Um.wRange :: g)) (hg : ∀ x ∈ g, x.length ≤ 3000) (hm : HasLen w) :
    Calls Tryz.prog 35 #[v] w fun e w' => AskTold (Um.askPoly Um.monoAll g) w e w' := by
  obtain ⟨rt, hrt⟩ : ∃ rt : ByteArray, rt = ⟨(Um.wRange).toArray⟩ := ⟨_, rfl⟩
  have t0 : (rt.toList == [97, 100, 100]) = false := by rw [hrt, text_list]; decide
  have t1 : (rt.toList == [108, 101, 115, 115]) = false := by rw [hrt, text_list]; decide
  have t2 : (rt.toList == [116, 105, 109, 101, 115]) = false := by rw [hrt, text_list]; decide
  have t3 : (rt.toList == [98, 121]) = false := by rw [hrt, text_list]; decide
  have t4 : (rt.toList == [109, 101, 101, 116]) = false := by rw [hrt, text_list]; decide
  have t5 : (rt.toList == [104, 117, 108, 108]) = false := by rw [hrt, text_list]; decide
  have t6 : (rt.toList == [112, 111, 119, 101, 114]) = false := by rw [hrt, text_list]; decide
  have t7 : (rt.toList == [114, 97, 110, 103, 101]) = true := by rw [hrt, text_list]; decide
  obtain ⟨b, off, cap, rfl, hcap, hlt, hc⟩ := hl.open (by simp)
  have c0 : w.cell? ⟨b, off, none⟩ = some (strV Um.wRange) := hc 0 (by simp)
  have c00 : w.cell? ⟨b, off, none⟩ = some (.string rt) := by rw [hrt]; exact c0
  have e1 : (Um.wRange :: g).length = g.length + 1 := rfl
  have hX := lx_rest hc hlt hcap
  rw [e1] at hcap ⊢
  clear hrt hc c0 hl e1
  by_cases h1 : cap = 1
  · have g0 : g = [] := List.length_eq_zero_iff.1 (by omega)
    subst h1 g0
    have hx : Lx w.heap.size w (.slice (some ⟨b, off, none⟩) 0 0) [] := hX.2 rfl
    have HA := hid (ofPoly_any polRange _ [] w hx hg hm)
    clear hX hm hg
    go_enter Tryz.func35, Tryz.ntmps35
    go_wp2_with (go_at_call 64; refine HA.out.mono ?_; intro e w1 h; obtain ⟨u, er, rfl⟩ := h.shape; replace h := hid h)
    go_ret2
    exact h.out
  · have hx := hX.1
    have HA := hid (ofPoly_any polRange _ g w hx hg hm)
    clear hX hm hg
    go_enter Tryz.func35, Tryz.ntmps35
    go_wp2_with (go_at_call 64; refine HA.out.mono ?_; intro e w1 h; obtain ⟨u, er, rfl⟩ := h.shape; replace h := hid h)
    go_ret2
    exact h.out
set_option maxRecDepth 100000 in
set_option maxHeartbeats 4000000 in
theorem askedRoots (v : Value) (g : List (List UInt8)) (w : World) (hl : Lx w.heap.size w v (Um.wRoots :: g)) (hg : ∀ x ∈ g, x.length ≤ 3000) (hm : HasLen w) :
    Calls Tryz.prog 35 #[v] w fun e w' => AskTold (Um.askRoots g) w e w' := by
  obtain ⟨rt, hrt⟩ : ∃ rt : ByteArray, rt = ⟨(Um.wRoots).toArray⟩ := ⟨_, rfl⟩
  have t0 : (rt.toList == [97, 100, 100]) = false := by rw [hrt, text_list]; decide
  have t1 : (rt.toList == [108, 101, 115, 115]) = false := by rw [hrt, text_list]; decide
  have t2 : (rt.toList == [116, 105, 109, 101, 115]) = false := by rw [hrt, text_list]; decide
  have t3 : (rt.toList == [98, 121]) = false := by rw [hrt, text_list]; decide
  have t4 : (rt.toList == [109, 101, 101, 116]) = false := by rw [hrt, text_list]; decide
  have t5 : (rt.toList == [104, 117, 108, 108]) = false := by rw [hrt, text_list]; decide
  have t6 : (rt.toList == [112, 111, 119, 101, 114]) = false := by rw [hrt, text_list]; decide
  have t7 : (rt.toList == [114, 97, 110, 103, 101]) = false := by rw [hrt, text_list]; decide
  have t8 : (rt.toList == [114, 111, 111, 116, 115]) = true := by rw [hrt, text_list]; decide
  obtain ⟨b, off, cap, rfl, hcap, hlt, hc⟩ := hl.open (by simp)
  have c0 : w.cell? ⟨b, off, none⟩ = some (strV Um.wRoots) := hc 0 (by simp)
  have c00 : w.cell? ⟨b, off, none⟩ = some (.string rt) := by rw [hrt]; exact c0
  have e1 : (Um.wRoots :: g).length = g.length + 1 := rfl
  have hX := lx_rest hc hlt hcap
  rw [e1] at hcap ⊢
  clear hrt hc c0 hl e1
  by_cases h1 : cap = 1
  · have g0 : g = [] := List.length_eq_zero_iff.1 (by omega)
    subst h1 g0
    have hx : Lx w.heap.size w (.slice (some ⟨b, off, none⟩) 0 0) [] := hX.2 rfl
    have HA := hid (rootsOf_any _ [] w hx hg hm)
    clear hX hm hg
    go_enter Tryz.func35, Tryz.ntmps35
    go_wp2_with (go_at_call 66; refine HA.out.mono ?_; intro e w1 h; obtain ⟨u, er, rfl⟩ := h.shape; replace h := hid h)
    go_ret2
    exact h.out
  · have hx := hX.1
    have HA := hid (rootsOf_any _ g w hx hg hm)
    clear hX hm hg
    go_enter Tryz.func35, Tryz.ntmps35
    go_wp2_with (go_at_call 66; refine HA.out.mono ?_; intro e w1 h; obtain ⟨u, er, rfl⟩ := h.shape; replace h := hid h)
    go_ret2
    exact h.out
set_option maxRecDepth 100000 in
set_option maxHeartbeats 4000000 in
theorem askedNewton (v : Value) (g : List (List UInt8)) (w : World) (hl : Lx w.heap.size w v (Um.wNewton :: g)) (hg : ∀ x ∈ g, x.length ≤ 3000) (hm : HasLen w) :
    Calls Tryz.prog 35 #[v] w fun e w' => AskTold (Um.askPoly (fun p lo hi => Um.runAll p lo hi 20) g) w e w' := by
  obtain ⟨rt, hrt⟩ : ∃ rt : ByteArray, rt = ⟨(Um.wNewton).toArray⟩ := ⟨_, rfl⟩
  have t0 : (rt.toList == [97, 100, 100]) = false := by rw [hrt, text_list]; decide
  have t1 : (rt.toList == [108, 101, 115, 115]) = false := by rw [hrt, text_list]; decide
  have t2 : (rt.toList == [116, 105, 109, 101, 115]) = false := by rw [hrt, text_list]; decide
  have t3 : (rt.toList == [98, 121]) = false := by rw [hrt, text_list]; decide
  have t4 : (rt.toList == [109, 101, 101, 116]) = false := by rw [hrt, text_list]; decide
  have t5 : (rt.toList == [104, 117, 108, 108]) = false := by rw [hrt, text_list]; decide
  have t6 : (rt.toList == [112, 111, 119, 101, 114]) = false := by rw [hrt, text_list]; decide
  have t7 : (rt.toList == [114, 97, 110, 103, 101]) = false := by rw [hrt, text_list]; decide
  have t8 : (rt.toList == [114, 111, 111, 116, 115]) = false := by rw [hrt, text_list]; decide
  have t9 : (rt.toList == [110, 101, 119, 116, 111, 110]) = true := by rw [hrt, text_list]; decide
  obtain ⟨b, off, cap, rfl, hcap, hlt, hc⟩ := hl.open (by simp)
  have c0 : w.cell? ⟨b, off, none⟩ = some (strV Um.wNewton) := hc 0 (by simp)
  have c00 : w.cell? ⟨b, off, none⟩ = some (.string rt) := by rw [hrt]; exact c0
  have e1 : (Um.wNewton :: g).length = g.length + 1 := rfl
  have hX := lx_rest hc hlt hcap
  rw [e1] at hcap ⊢
  clear hrt hc c0 hl e1
  by_cases h1 : cap = 1
  · have g0 : g = [] := List.length_eq_zero_iff.1 (by omega)
    subst h1 g0
    have hx : Lx w.heap.size w (.slice (some ⟨b, off, none⟩) 0 0) [] := hX.2 rfl
    have HA := hid (ofPoly_any polNear _ [] w hx hg hm)
    clear hX hm hg
    go_enter Tryz.func35, Tryz.ntmps35
    go_wp2_with (go_at_call 64; refine HA.out.mono ?_; intro e w1 h; obtain ⟨u, er, rfl⟩ := h.shape; replace h := hid h)
    go_ret2
    exact h.out
  · have hx := hX.1
    have HA := hid (ofPoly_any polNear _ g w hx hg hm)
    clear hX hm hg
    go_enter Tryz.func35, Tryz.ntmps35
    go_wp2_with (go_at_call 64; refine HA.out.mono ?_; intro e w1 h; obtain ⟨u, er, rfl⟩ := h.shape; replace h := hid h)
    go_ret2
    exact h.out
set_option maxRecDepth 100000 in
set_option maxHeartbeats 4000000 in
theorem askedNone (v : Value) (k : List UInt8) (g : List (List UInt8)) (w : World) (hl : Lx w.heap.size w v (k :: g)) (h0 : ¬ k = Um.wAdd) (h1 : ¬ k = Um.wLess) (h2 : ¬ k = Um.wTimes) (h3 : ¬ k = Um.wBy) (h4 : ¬ k = Um.wMeet) (h5 : ¬ k = Um.wHull) (h6 : ¬ k = Um.wPower) (h7 : ¬ k = Um.wRange) (h8 : ¬ k = Um.wRoots) (h9 : ¬ k = Um.wNewton) :
    Calls Tryz.prog 35 #[v] w fun e w' => AskTold none w e w' := by
  obtain ⟨rt, hrt⟩ : ∃ rt : ByteArray, rt = ⟨k.toArray⟩ := ⟨_, rfl⟩
  have t0 : (rt.toList == [97, 100, 100]) = false := by rw [hrt, text_list]; simpa using h0
  have t1 : (rt.toList == [108, 101, 115, 115]) = false := by rw [hrt, text_list]; simpa using h1
  have t2 : (rt.toList == [116, 105, 109, 101, 115]) = false := by rw [hrt, text_list]; simpa using h2
  have t3 : (rt.toList == [98, 121]) = false := by rw [hrt, text_list]; simpa using h3
  have t4 : (rt.toList == [109, 101, 101, 116]) = false := by rw [hrt, text_list]; simpa using h4
  have t5 : (rt.toList == [104, 117, 108, 108]) = false := by rw [hrt, text_list]; simpa using h5
  have t6 : (rt.toList == [112, 111, 119, 101, 114]) = false := by rw [hrt, text_list]; simpa using h6
  have t7 : (rt.toList == [114, 97, 110, 103, 101]) = false := by rw [hrt, text_list]; simpa using h7
  have t8 : (rt.toList == [114, 111, 111, 116, 115]) = false := by rw [hrt, text_list]; simpa using h8
  have t9 : (rt.toList == [110, 101, 119, 116, 111, 110]) = false := by rw [hrt, text_list]; simpa using h9
  obtain ⟨b, off, cap, rfl, hcap, hlt, hc⟩ := hl.open (by simp)
  have c0 : w.cell? ⟨b, off, none⟩ = some (strV k) := hc 0 (by simp)
  have c00 : w.cell? ⟨b, off, none⟩ = some (.string rt) := by rw [hrt]; exact c0
  have e1 : (k :: g).length = g.length + 1 := rfl
  rw [e1] at hcap ⊢
  clear hrt hc c0 hl e1 h0 h1 h2 h3 h4 h5 h6 h7 h8 h9
  go_enter Tryz.func35, Tryz.ntmps35
  go_wp2
  all_goals
    go_ret2
    exact ask_not rfl (Below.refl _ _)
theorem asked_any (v : Value) (k : List UInt8) (g : List (List UInt8)) (w : World) (hl : Lx w.heap.size w v (k :: g)) (hg : ∀ x ∈ g, x.length ≤ 3000) (hm : HasLen w) :
    Calls Tryz.prog 35 #[v] w fun e w' => AskTold (Um.askR k g) w e w' := by
  unfold Um.askR
  by_cases h0 : k = Um.wAdd
  · subst h0
    exact askedAdd v g w hl hg hm
  rw [if_neg h0]
  by_cases h1 : k = Um.wLess
  · subst h1
    exact askedLess v g w hl hg hm
  rw [if_neg h1]
  by_cases h2 : k = Um.wTimes
  · subst h2
    exact askedTimes v g w hl hg hm
  rw [if_neg h2]
  by_cases h3 : k = Um.wBy
  · subst h3
    exact askedBy v g w hl hg hm
  rw [if_neg h3]
  by_cases h4 : k = Um.wMeet
  · subst h4
    exact askedMeet v g w hl hg hm
  rw [if_neg h4]
  by_cases h5 : k = Um.wHull
  · subst h5
    exact askedHull v g w hl hg hm
  rw [if_neg h5]
  by_cases h6 : k = Um.wPower
  · subst h6
    exact askedPower v g w hl hg hm
  rw [if_neg h6]
  by_cases h7 : k = Um.wRange
  · subst h7
    exact askedRange v g w hl hg hm
  rw [if_neg h7]
  by_cases h8 : k = Um.wRoots
  · subst h8
    exact askedRoots v g w hl hg hm
  rw [if_neg h8]
  by_cases h9 : k = Um.wNewton
  · subst h9
    exact askedNewton v g w hl hg hm
  rw [if_neg h9]
  exact askedNone v k g w hl h0 h1 h2 h3 h4 h5 h6 h7 h8 h9
end Go.Proofs.YtkfalmdckmlneaaGreatDoor
