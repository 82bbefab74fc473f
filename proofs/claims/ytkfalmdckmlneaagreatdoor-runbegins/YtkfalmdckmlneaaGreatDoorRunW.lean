/-
  What package run reads of a polynomial over a span, the list of one span, and how spans are written.
-/
import Derived.Test.YtkfalmdckmlneaaGreatDoorRunS
import Derived.Test.YtkfalmdckmlneaaGreatDoorMems
import Derived.Test.YtkfalmdckmlneaaGreatDoorLx
import Derived.Laws.OwnMore
namespace Go.Proofs.YtkfalmdckmlneaaGreatDoor
set_option linter.unusedSimpArgs false
open Go.RowKit

/-- A polynomial and its span that can be read, or none. -/
def PoOk (p x : List UInt8) : Bool := Um.numsOk p && Um.spOk x
def PoTold (p x : List UInt8) (w : World) (e : Ending) (w' : World) : Prop :=
  Below w.heap.size w w' ∧ (PoOk p x = true → ∃ v, e = .returned (.tuple #[v, .agg #[.int .i64 (Um.spL x).1, .int .i64 (Um.spL x).2], .nilIface]) ∧ w'.ownsRow w.heap.size 3 1 v (Um.numsL p).length ((Um.numsL p).map (Value.int .i64))) ∧ (PoOk p x = false → ∃ k, e = .returned (.tuple #[.slice none 0 0, .agg #[.int .i64 0, .int .i64 0], unV k]))
set_option maxRecDepth 100000 in
set_option maxHeartbeats 4000000 in
theorem polyOver_any (p x : ByteArray) (w : World) (hp : p.size ≤ 3000) (hx : x.size ≤ 3000) (hm : HasLen w) :
    Calls Tryz.prog 95 #[.string p, .string x] w fun e w' => PoTold p.data.toList x.data.toList w e w' := by
  have hB0 : Below w.heap.size w (w.alloc (.cells #[.int .i64 0, .int .i64 0] 29)) := by go_grown
  have HN := hid (numbers_any p (w.alloc (.cells #[.int .i64 0, .int .i64 0] 29)) hp (hm.below hB0 hm.size))
  have hF := Fr.push (Fr.start w) 0 0 (b := w.heap.size) rfl
  have HS := fun w h => hid (span_any x w hx h)
  have HM := hid hm
  clear hB0 hm
  cases hn : Um.numsOk p.data.toList
  · have HK := hid hn
    have HT : Hid (PoOk p.data.toList x.data.toList = false) := hid (by unfold PoOk; rw [hn]; rfl)
    clear hn
    go_enter Tryz.func95, Tryz.ntmps95
    go_wp2_with (go_at_call 111; refine HN.out.mono ?_; rintro e w1 ⟨hb, -, h1⟩; obtain ⟨k, rfl⟩ := h1 HK.out; replace hF := hF.step hb; clear hb h1; have y1 := (hF.at 0 rfl).fl; have y2 := (hF.at 0 rfl).fh; have y3 := (hF.at 0 rfl).lo; have y4 := (hF.at 0 rfl).hi; have y6 := (hF.at 0 rfl).r0; have y7 := (hF.at 0 rfl).r1)
    refine bodyPost_ret (by simp [results, Tryz.results95, go_sem, y6, y7]; try rfl) rfl ?_
    unfold PoTold
    refine ⟨(hF.put 0 rfl _ _ rfl).below, fun h => ?_, fun _ => ⟨k, rfl⟩⟩
    rw [HT.out] at h; cases h
  · have HK := hid hn
    cases hs : Um.spOk x.data.toList
    · have HL := hid hs
      have HT : Hid (PoOk p.data.toList x.data.toList = false) := hid (by unfold PoOk; rw [hn, hs]; rfl)
      clear hn hs
      go_enter Tryz.func95, Tryz.ntmps95
      go_upto_region 4 with (go_at_call 111; refine HN.out.mono ?_; rintro e w1 ⟨hb, h1, -⟩; obtain ⟨v, rfl, hl⟩ := h1 HK.out; replace hl := owns_low hl (b' := w.heap.size + 1) (by simp); replace hF := hF.step hb; clear hb h1)
      have hm1 : HasLen w1 := HM.out.below hF.below HM.out.size
      go_wp2_with (go_at_call 79; refine (HS _ hm1).out.mono ?_; rintro e w2 ⟨hb, -, h2⟩; obtain ⟨k, rfl⟩ := h2 HL.out; replace hF := hF.step hb; clear hb h2; replace hF := hF.push 0 0 (b := w2.heap.size) rfl; have y1 := (hF.at 1 rfl).fl; have y2 := (hF.at 1 rfl).fh; have y3 := (hF.at 1 rfl).lo; have y4 := (hF.at 1 rfl).hi; have y6 := (hF.at 1 rfl).r0; have y7 := (hF.at 1 rfl).r1)
      refine bodyPost_ret (by simp [results, Tryz.results95, go_sem, y6, y7]; try rfl) rfl ?_
      unfold PoTold
      refine ⟨(hF.put 1 rfl _ _ rfl).below, fun h => ?_, fun _ => ⟨k, rfl⟩⟩
      rw [HT.out] at h; cases h
    · have HL := hid hs
      have HT : Hid (PoOk p.data.toList x.data.toList = true) := hid (by unfold PoOk; rw [hn, hs]; rfl)
      clear hn hs
      go_enter Tryz.func95, Tryz.ntmps95
      go_upto_region 4 with (go_at_call 111; refine HN.out.mono ?_; rintro e w1 ⟨hb, h1, -⟩; obtain ⟨v, rfl, hl⟩ := h1 HK.out; replace hl := owns_low hl (b' := w.heap.size + 1) (by simp); replace hF := hF.step hb; clear hb h1)
      have hm1 : HasLen w1 := HM.out.below hF.below HM.out.size
      go_upto_region 7 with (go_at_call 79; refine (HS _ hm1).out.mono ?_; rintro e w2 ⟨hb, h2, -⟩; have h3 := h2 HL.out; subst h3; replace hF := hF.step hb; replace hl := owns_keep hl hb; clear hb h2)
      replace hF := hF.push (Um.spL x.data.toList).1 (Um.spL x.data.toList).2 (b := w2.heap.size) rfl
      replace hl := hl.alloc (.cells #[.int .i64 (Um.spL x.data.toList).1, .int .i64 (Um.spL x.data.toList).2] 29)
      generalize w2.alloc (.cells #[.int .i64 (Um.spL x.data.toList).1, .int .i64 (Um.spL x.data.toList).2] 29) = X at *
      generalize w2.heap.size = B at *
      generalize hS : Um.spL x.data.toList = S at *
      replace hS := hid hS
      have x0l := (hF.at 0 rfl).lo; have x0h := (hF.at 0 rfl).hi
      have y1 := (hF.at 1 rfl).fl; have y2 := (hF.at 1 rfl).fh; have y3 := (hF.at 1 rfl).lo; have y4 := (hF.at 1 rfl).hi; have y6 := (hF.at 1 rfl).r0; have y7 := (hF.at 1 rfl).r1
      obtain ⟨a, cap, rfl⟩ := owns_slice hl
      go_region
      go_wp2
      refine bodyPost_ret (by simp [results, Tryz.results95, go_sem, y6, y7]; try rfl) rfl ?_
      unfold PoTold
      refine ⟨(hF.put 1 rfl _ _ rfl).below.drew, fun _ => ⟨_, by rw [hS.out], ?_⟩, fun h => ?_⟩
      · exact owns_low (owns_put (owns_put hl (by omega) _) (by omega) _).drew (by omega)
      · rw [HT.out] at h; cases h
end Go.Proofs.YtkfalmdckmlneaaGreatDoor
