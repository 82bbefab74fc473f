/-
  What package run answers to a line.
-/
import Derived.Test.YtkfalmdckmlneaaGreatDoorRunX
import Derived.Test.YtkfalmdckmlneaaGreatDoorRw
namespace Go.Proofs.YtkfalmdckmlneaaGreatDoor
set_option linter.unusedSimpArgs false
open Go.RowKit Go.Shelf

/-- strings.Split at a blank. -/
theorem split_texts (s : ByteArray) : (Lib.splitB ⟨#[32]⟩ 0 (Lib.countB s ⟨#[32]⟩) s).map (·.data.toList) = Um.cutL 32 s.data.toList := by
  rw [Lib.splitB_data]
  exact Um.split_cut 32 _ _ (Nat.le_refl _)
theorem split_cells (s : ByteArray) : (Lib.splitB ⟨#[32]⟩ 0 (Lib.countB s ⟨#[32]⟩) s).map Value.string = strsV (Um.cutL 32 s.data.toList) := by
  rw [← split_texts]
  unfold strsV
  rw [List.map_map]
  apply List.map_congr_left
  intro x _
  show Value.string x = strV x.data.toList
  unfold strV
  rw [str_back]
theorem split_count (s : ByteArray) : Lib.countB s ⟨#[32]⟩ + 1 = (Um.cutL 32 s.data.toList).length := by
  rw [← split_texts, List.length_map, Lib.splitB_all ⟨#[32]⟩ (by decide) 0 _ s rfl]
theorem split_lx (s : ByteArray) (w : World) (hs : s.size ≤ 3000) (hm : HasLen w) :
    Calls Tryz.prog 36 #[.string s, .string ⟨#[32]⟩] w fun e w' => ∃ v, e = .returned v ∧ Lx w'.heap.size w' v (Um.cutL 32 s.data.toList) ∧ Below w.heap.size w w' := by
  obtain ⟨m, hm⟩ := hm
  refine (Tryz.strings_Split s ⟨#[32]⟩ m w (by omega) hm (by decide)).mono ?_
  rintro e w' ⟨rfl, rfl⟩
  refine ⟨_, rfl, ?_, (Below.refl _ _).alloc (Nat.le_refl _) _⟩
  rw [split_count, split_cells]
  refine ⟨_, _, rfl, Nat.le_refl _, .inr ⟨w.heap.size, 0, rfl, by simp, fun j hj => ?_⟩⟩
  rw [World.cell?_alloc_at _ _ _ _ rfl]
  simp [List.getElem?_map, List.getElem?_eq_getElem hj]
theorem pieces_small (s : ByteArray) (hs : s.size ≤ 3000) : ∀ x ∈ Um.cutL 32 s.data.toList, x.length ≤ 3000 := fun x hx => by
  have := Um.cutL_small 32 s.data.toList x hx
  have h9 : s.data.toList.length = s.size := by rw [← str_size, str_back]
  omega

set_option maxRecDepth 100000 in
set_option maxHeartbeats 4000000 in
theorem answer_any (s : ByteArray) (w : World) (hs : s.size ≤ 3000) (hv : Hv w) :
    Calls Tryz.prog 12 #[.string s] w fun e w' => e = .returned (strV (Um.lineR s.data.toList)) ∧ Below w.heap.size w w' := by
  have q1 := errG
  have q2 := errGn
  have q3 := errE
  have q4 := errN
  have hne : Um.cutL 32 s.data.toList ≠ [] := fun e => by have := Um.cutL_pos 32 s.data.toList; rw [e] at this; cases this
  obtain ⟨k, g, hkg⟩ := List.exists_cons_of_ne_nil hne
  have HS := hid (split_lx s w hs hv.len)
  have hsm := pieces_small s hs
  have hans : Um.lineR s.data.toList = Um.ansOf (Um.askR k g) := by
    unfold Um.lineR
    rw [hkg, Um.words_ask]
  rw [hkg] at HS hsm
  have HA := fun v w hl hm => hid (asked_any v k g w hl (fun x hx => hsm x (List.mem_cons_of_mem _ hx)) hm)
  have hok := Um.ask_ok k g
  have HV := hid hv
  rw [hans]
  clear hans hsm hkg hne hs hv
  generalize Um.askR k g = o at *
  cases o with
  | none =>
    clear hok
    go_enter Tryz.func12, Tryz.ntmps12
    go_upto_region 3 with (first | (go_at_call 36; refine HS.out.mono ?_; rintro e w1 ⟨v, rfl, hl, hb1⟩; have hv1 := HV.out.step hb1) | (go_at_call 35; refine (HA _ _ hl hv1.len).out.mono ?_; rintro e w2 ⟨hb2, h1, -⟩; obtain ⟨z, rfl⟩ := h1 rfl; have hv2 := hv1.step hb2; clear h1))
    go_wp2_with (go_at_call 37; refine (told_unread _ _ hv2.err).mono ?_; rintro e w3 ⟨rfl, hb3⟩)
    go_ret
    exact ⟨rfl, (hb1.trans (hb2.mono hb1.size)).trans (hb3.mono (Nat.le_trans hb1.size hb2.size))⟩
  | some r =>
    obtain ⟨r1, r2, r3⟩ := hok r rfl
    have he : Um.ansOf (some r) = if r.2 = 0 then Um.rootsR r.1 else Um.nameR r.2 := rfl
    rw [he]
    by_cases h0 : r.2 = 0
    · obtain ⟨m1, m2⟩ := r3 h0
      rw [if_pos h0]
      have HA2 : ∀ v w, Lx w.heap.size w v (k :: g) → HasLen w → Hid (Calls Tryz.prog 35 #[v] w fun e w' => ∃ u, e = .returned (.tuple #[u, .nilIface]) ∧ Ls w'.heap.size w' u r.1 ∧ Below w.heap.size w w') := fun v w hl hm => hid ((HA v w hl hm).out.mono fun e w' h => by
        obtain ⟨u, hu, hu2⟩ := h.2.2 r rfl
        rw [h0] at hu
        exact ⟨u, hu, hu2, h.1⟩)
      have HW := fun v w hp hl => hid (rwritten_any v r.1 w hp hl m1 m2)
      clear HA h0 he m1 m2 r1 r2 r3
      generalize r.1 = l at *
      go_enter Tryz.func12, Tryz.ntmps12
      go_upto_region 4 with (first | (go_at_call 36; refine HS.out.mono ?_; rintro e w1 ⟨v, rfl, hl, hb1⟩; have hv1 := HV.out.step hb1) | (go_at_call 35; refine (HA2 _ _ hl hv1.len).out.mono ?_; rintro e w2 ⟨u, rfl, hu, hb2⟩; have hv2 := hv1.step hb2))
      go_wp2_with (go_at_call 38; refine (HW _ _ hv2.pow hu).out.mono ?_; rintro e w3 ⟨rfl, hb3⟩)
      go_ret
      exact ⟨rfl, (hb1.trans (hb2.mono hb1.size)).trans (hb3.mono (Nat.le_trans hb1.size hb2.size))⟩
    · rw [if_neg h0]
      have HA2 : ∀ v w, Lx w.heap.size w v (k :: g) → HasLen w → Hid (Calls Tryz.prog 35 #[v] w fun e w' => ∃ u, e = .returned (.tuple #[u, .iface 85 (.int .i64 r.2)]) ∧ Below w.heap.size w w') := fun v w hl hm => hid ((HA v w hl hm).out.mono fun e w' h => by
        obtain ⟨u, hu, hu2⟩ := h.2.2 r rfl
        rw [errV_some h0] at hu
        exact ⟨u, hu, h.1⟩)
      have HT := fun w h => hid (told_errno r.2 r1 r2 w h)
      clear HA h0 he r1 r2 r3
      generalize r.2 = j at *
      go_enter Tryz.func12, Tryz.ntmps12
      go_upto_region 3 with (first | (go_at_call 36; refine HS.out.mono ?_; rintro e w1 ⟨v, rfl, hl, hb1⟩; have hv1 := HV.out.step hb1) | (go_at_call 35; refine (HA2 _ _ hl hv1.len).out.mono ?_; rintro e w2 ⟨u, rfl, hb2⟩; have hv2 := hv1.step hb2))
      go_wp2_with (go_at_call 37; refine (HT _ hv2.err).out.mono ?_; rintro e w3 ⟨rfl, hb3⟩)
      go_ret
      exact ⟨rfl, (hb1.trans (hb2.mono hb1.size)).trans (hb3.mono (Nat.le_trans hb1.size hb2.size))⟩
end Go.Proofs.YtkfalmdckmlneaaGreatDoor
