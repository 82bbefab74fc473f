/-
  A Log in memory, and two rows of one's own beside it: the boxes that were put, and where the records end.
-/
import Derived.Test.YthgehlonjoafmaaDoorLogC
import Derived.Test.YthgehlonjoafmaaDoorLogR
import Derived.Test.YthgehlonjoafmaaDoorLogQ
namespace Go.Proofs.YthgehlonjoafmaaDoor
set_option linter.unusedSimpArgs false
open Go.RowKit

theorem Lg.grown {base : Nat} {w w' : World} {p : Nat} {k o : Option Nat} {s : Um.LogS} (h : Lg base w p k s) (hg : w.grownBy w' o) (hp : o ≠ some p) (hk : ∀ g, k = some g → o ≠ some g) : Lg base w' p k s := by
  obtain ⟨kv, e, h1, h2⟩ := h.cells
  exact ⟨h.ok, h.ge, ⟨kv, e, h1.grown hg hp, owns_blk h2 (fun g eg => hg.block g (h2.lt g eg).2 (fun e2 => hk g (e ▸ eg) e2.symm))⟩, h.apart⟩
/-- The Log in block p, the row dv of boxes dl (which lie in w), the row mv of ints ml. -/
structure Ky (w wr : World) (p : Nat) (dv mv : Value) (dl : List (List (Int × Int))) (ml : List Int) (s : Um.LogS) : Prop where
  below : Below w.heap.size w wr
  log : ∃ k, Lg w.heap.size wr p k s ∧ (∀ g, k = some g → dv.ownBlock ≠ some g) ∧ (∀ g, k = some g → mv.ownBlock ≠ some g)
  pd : dv.ownBlock ≠ some p
  pm : mv.ownBlock ≠ some p
  dm : ∀ g, dv.ownBlock = some g → mv.ownBlock ≠ some g
  done : ∃ xs : List Value, wr.ownsRow w.heap.size 29 1 dv dl.length xs ∧ ∀ j, j < dl.length → ∃ v, xs[j]? = some v ∧ Ls w.heap.size w v (dl[j]?.getD [])
  marks : wr.ownsRow w.heap.size 3 1 mv ml.length (ml.map (Value.int .i64))
theorem Ky.ok {w wr : World} {p : Nat} {dv mv : Value} {dl : List (List (Int × Int))} {ml : List Int} {s : Um.LogS} (h : Ky w wr p dv mv dl ml s) : s.Ok := by
  obtain ⟨k, hL, -⟩ := h.log
  exact hL.ok
theorem Ky.step {w wr w' : World} {p : Nat} {dv mv : Value} {dl : List (List (Int × Int))} {ml : List Int} {s : Um.LogS} (h : Ky w wr p dv mv dl ml s) (hb : Below wr.heap.size wr w') : Ky w w' p dv mv dl ml s := by
  obtain ⟨k, hL, h1, h2⟩ := h.log
  obtain ⟨xs, ho, hx⟩ := h.done
  exact ⟨h.below.trans (hb.mono h.below.size), ⟨k, hL.step hb, h1, h2⟩, h.pd, h.pm, h.dm, ⟨xs, owns_keep ho hb, hx⟩, owns_keep h.marks hb⟩
theorem Ky.alloc {w wr : World} {p : Nat} {dv mv : Value} {dl : List (List (Int × Int))} {ml : List Int} {s : Um.LogS} (h : Ky w wr p dv mv dl ml s) (o : Obj) : Ky w (wr.alloc o) p dv mv dl ml s := h.step ((Below.refl _ _).alloc (Nat.le_refl _) o)
/-- Behind a call of the Log. -/
theorem Ky.wrote {w wr w' : World} {p : Nat} {k k' : Option Nat} {dv mv : Value} {dl : List (List (Int × Int))} {ml : List Int} {s s' : Um.LogS} (h : Ky w wr p dv mv dl ml s) (hL : Lg w.heap.size wr p k s) (h1 : ∀ g, k = some g → dv.ownBlock ≠ some g) (h2 : ∀ g, k = some g → mv.ownBlock ≠ some g) (hW : Wrote wr w' p k k') (hL' : Lg w.heap.size w' p k' s') : Ky w w' p dv mv dl ml s' := by
  obtain ⟨xs, ho, hx⟩ := h.done
  have hm := h.marks
  have kd : ∀ g, dv.ownBlock = some g → w'.heap[g]? = wr.heap[g]? ∧ k' ≠ some g := fun g e => hW.other (ho.lt g e).2 (fun q => h.pd (q ▸ e)) (fun q => h1 g q e)
  have km : ∀ g, mv.ownBlock = some g → w'.heap[g]? = wr.heap[g]? ∧ k' ≠ some g := fun g e => hW.other (hm.lt g e).2 (fun q => h.pm (q ▸ e)) (fun q => h2 g q e)
  exact ⟨h.below.trans (hL.below hW), ⟨k', hL', fun g e q => (kd g q).2 e, fun g e q => (km g q).2 e⟩, h.pd, h.pm, h.dm, ⟨xs, owns_blk ho (fun g e => (kd g e).1), hx⟩, owns_blk hm (fun g e => (km g e).1)⟩
theorem Ky.put {w wr : World} {p : Nat} {dv mv : Value} {dl : List (List (Int × Int))} {ml : List Int} {s : Um.LogS} (h : Ky w wr p dv mv dl ml s) (b : List (Int × Int)) (v : Value) (hs : Ls wr.heap.size wr v b) :
    Calls Tryd.prog 8 #[.pointer (some ⟨p, 0, none⟩), v] wr fun e w' => e = .returned (errV (Um.putF s b)) ∧ Ky w w' p dv mv dl ml (Um.putS s b) := by
  obtain ⟨k, hL, h1, h2⟩ := h.log
  refine (lgPut w.heap.size p k s b v wr hL hs).mono ?_
  rintro e w' ⟨k', rfl, hL', hW⟩
  exact ⟨rfl, h.wrote hL h1 h2 hW hL'⟩
theorem Ky.sync {w wr : World} {p : Nat} {dv mv : Value} {dl : List (List (Int × Int))} {ml : List Int} {s : Um.LogS} (h : Ky w wr p dv mv dl ml s) :
    Calls Tryd.prog 10 #[.pointer (some ⟨p, 0, none⟩)] wr fun e w' => e = .returned (errV (Um.syncF s)) ∧ Ky w w' p dv mv dl ml (Um.syncS s) := by
  obtain ⟨k, hL, h1, h2⟩ := h.log
  refine (lgSync w.heap.size p k s wr hL).mono ?_
  rintro e w' ⟨rfl, hL', hW⟩
  exact ⟨rfl, h.wrote hL h1 h2 hW hL'⟩
theorem Ky.fail {w wr : World} {p : Nat} {dv mv : Value} {dl : List (List (Int × Int))} {ml : List Int} {s : Um.LogS} (h : Ky w wr p dv mv dl ml s) (n : Int) (hn : n ≤ 9223372036854775807) :
    Calls Tryd.prog 7 #[.pointer (some ⟨p, 0, none⟩), .int .i64 n] wr fun e w' => e = .returned (.tuple #[]) ∧ Ky w w' p dv mv dl ml (Um.failS s n) := by
  obtain ⟨k, hL, h1, h2⟩ := h.log
  refine (lgFail w.heap.size p k s n wr hL hn).mono ?_
  rintro e w' ⟨rfl, hL', hW⟩
  exact ⟨rfl, h.wrote hL h1 h2 hW hL'⟩
theorem Ky.crash {w wr : World} {p : Nat} {dv mv : Value} {dl : List (List (Int × Int))} {ml : List Int} {s : Um.LogS} (h : Ky w wr p dv mv dl ml s) (n : Int) :
    Calls Tryd.prog 11 #[.pointer (some ⟨p, 0, none⟩), .int .i64 n] wr fun e w' => e = .returned (.tuple #[]) ∧ Ky w w' p dv mv dl ml (Um.crashS s n) := by
  obtain ⟨k, hL, h1, h2⟩ := h.log
  refine (lgCrash w.heap.size p k s n wr hL).mono ?_
  rintro e w' ⟨k', rfl, hL', hW⟩
  exact ⟨rfl, h.wrote hL h1 h2 hW hL'⟩
theorem Ky.all {w wr : World} {p : Nat} {dv mv : Value} {dl : List (List (Int × Int))} {ml : List Int} {s : Um.LogS} (h : Ky w wr p dv mv dl ml s) :
    Calls Tryd.prog 12 #[.pointer (some ⟨p, 0, none⟩)] wr fun e w' => ∃ r, e = .returned r ∧ Lb w'.heap.size w' r s.done ∧ Below wr.heap.size wr w' := by
  obtain ⟨k, hL, -⟩ := h.log
  exact lgAll w.heap.size p k s wr hL
theorem Ky.hull {w wr : World} {p : Nat} {dv mv : Value} {dl : List (List (Int × Int))} {ml : List Int} {s : Um.LogS} (h : Ky w wr p dv mv dl ml s) :
    Calls Tryd.prog 16 #[.pointer (some ⟨p, 0, none⟩)] wr fun e w' => ∃ r, e = .returned (.tuple #[r, errV (Um.hullE s.done)]) ∧ Ls w'.heap.size w' r (Um.hullF s.done) ∧ Below wr.heap.size wr w' := by
  obtain ⟨k, hL, -⟩ := h.log
  exact lgHull w.heap.size p k s wr hL
theorem Ky.bytes {w wr : World} {p : Nat} {dv mv : Value} {dl : List (List (Int × Int))} {ml : List Int} {s : Um.LogS} (h : Ky w wr p dv mv dl ml s) :
    Calls Tryd.prog 15 #[.pointer (some ⟨p, 0, none⟩)] wr fun e w' => e = .returned (.int .i64 (s.bytes.length : Int)) ∧ w' = wr := by
  obtain ⟨k, hL, -⟩ := h.log
  exact lgBytes w.heap.size p k s wr hL
theorem Ky.safe {w wr : World} {p : Nat} {dv mv : Value} {dl : List (List (Int × Int))} {ml : List Int} {s : Um.LogS} (h : Ky w wr p dv mv dl ml s) :
    Calls Tryd.prog 14 #[.pointer (some ⟨p, 0, none⟩)] wr fun e w' => e = .returned (.int .i64 (s.safe : Int)) ∧ w' = wr := by
  obtain ⟨k, hL, -⟩ := h.log
  exact lgSafe w.heap.size p k s wr hL
/-- The row's place behind an append is none of the others'. -/
theorem place_apart {w : World} {o o' : Option Nat} {x : Nat} (hat : o' = o ∨ o' = some w.heap.size) (ho : o ≠ some x) (hx : x < w.heap.size) : o' ≠ some x := by
  rcases hat with e | e
  · rw [e]; exact ho
  · rw [e]; intro q; cases q; omega
/-- One box more. -/
theorem Ky.more {w wr w' : World} {p : Nat} {dv dv' mv x : Value} {dl : List (List (Int × Int))} {ml : List Int} {s : Um.LogS} {b : List (Int × Int)} {xs : List Value} (h : Ky w wr p dv mv dl ml s)
    (hl : xs.length = dl.length) (hx : ∀ j, j < dl.length → ∃ v, xs[j]? = some v ∧ Ls w.heap.size w v (dl[j]?.getD [])) (hv : Ls w.heap.size w x b)
    (hown : w'.ownsRow w.heap.size 29 1 dv' (dl.length + 1) (xs ++ [x])) (hg : wr.grownBy w' dv.ownBlock) (hat : dv'.ownBlock = dv.ownBlock ∨ dv'.ownBlock = some wr.heap.size) : Ky w w' p dv' mv (dl ++ [b]) ml s := by
  obtain ⟨k, hL, h1, h2⟩ := h.log
  obtain ⟨ys, ho, -⟩ := h.done
  have hm := h.marks
  refine ⟨h.below.grown hg h.below.size (fun j e => owns_from ho j e), ⟨k, hL.grown hg h.pd h1, fun g e => place_apart hat (h1 g e) (hL.from g e).2, h2⟩, place_apart hat h.pd hL.lt, h.pm, fun g e q => ?_, ⟨xs ++ [x], by rw [List.length_append]; exact hown, fun j hj => ?_⟩, owns_blk hm (fun g e => hg.block g (hm.lt g e).2 (fun q => h.dm g q.symm e))⟩
  · exact place_apart hat (fun q2 => h.dm g q2 q) (hm.lt g q).2 e
  · rw [List.length_append] at hj
    rcases (by have : j < dl.length + 1 := hj; omega : j < dl.length ∨ j = dl.length) with c | rfl
    · obtain ⟨z, hz, hl2⟩ := hx j c
      refine ⟨z, by rw [List.getElem?_append_left (by omega)]; exact hz, ?_⟩
      rw [List.getElem?_append_left c]
      exact hl2
    · refine ⟨x, by rw [List.getElem?_append_right (by omega), hl, Nat.sub_self]; rfl, ?_⟩
      rw [List.getElem?_append_right (Nat.le_refl _), Nat.sub_self]
      exact hv
/-- One mark more. -/
theorem Ky.mark {w wr w' : World} {p : Nat} {dv mv mv' : Value} {dl : List (List (Int × Int))} {ml : List Int} {s : Um.LogS} {n : Int} (h : Ky w wr p dv mv dl ml s)
    (hown : w'.ownsRow w.heap.size 3 1 mv' (ml.length + 1) (ml.map (Value.int .i64) ++ [.int .i64 n])) (hg : wr.grownBy w' mv.ownBlock) (hat : mv'.ownBlock = mv.ownBlock ∨ mv'.ownBlock = some wr.heap.size) : Ky w w' p dv mv' dl (ml ++ [n]) s := by
  obtain ⟨k, hL, h1, h2⟩ := h.log
  obtain ⟨xs, ho, hx⟩ := h.done
  have hm := h.marks
  refine ⟨h.below.grown hg h.below.size (fun j e => owns_from hm j e), ⟨k, hL.grown hg h.pm h2, h1, fun g e => place_apart hat (h2 g e) (hL.from g e).2⟩, h.pd, place_apart hat h.pm hL.lt, fun g e => place_apart hat (h.dm g e) (ho.lt g e).2, ⟨xs, owns_blk ho (fun g e => hg.block g (ho.lt g e).2 (fun q => h.dm g e q.symm)), hx⟩, ?_⟩
  rw [List.length_append, List.map_append]
  exact hown
theorem owns_less {w : World} {base E n m cap : Nat} {a : Option Addr} {xs : List Value} (h : w.ownsRow base E 1 (.slice a n cap) n xs) (hm : m ≤ n) : w.ownsRow base E 1 (.slice a m cap) m (xs.take m) := by
  rcases h.2 with ⟨e, rfl⟩ | ⟨g, cap', cur, e, hb, hg, hle, hcm, hsz, hcur⟩
  · cases e
    obtain rfl : m = 0 := by omega
    rw [List.take_zero]
    exact World.ownsRow_nil _ _ _ _
  · cases e
    have := owns_cut h hm
    rw [Nat.mul_one] at this
    exact this
theorem own_less {a : Option Addr} {n m cap : Nat} : (Value.slice a n cap).ownBlock = (Value.slice a m cap).ownBlock := by
  cases a <;> rfl
/-- Both rows cut shorter. -/
theorem Ky.cut {w wr : World} {p n m n' m' cd cm : Nat} {a a' : Option Addr} {dl : List (List (Int × Int))} {ml : List Int} {s : Um.LogS} (h : Ky w wr p (.slice a n cd) (.slice a' n' cm) dl ml s) (hn : n = dl.length) (hn' : n' = ml.length) (hm : m ≤ n) (hm' : m' ≤ n') : Ky w wr p (.slice a m cd) (.slice a' m' cm) (dl.take m) (ml.take m') s := by
  subst hn
  subst hn'
  obtain ⟨k, hL, h1, h2⟩ := h.log
  obtain ⟨xs, ho, hx⟩ := h.done
  have l1 : (dl.take m).length = m := by rw [List.length_take]; omega
  have l2 : (ml.take m').length = m' := by rw [List.length_take]; omega
  refine ⟨h.below, ⟨k, hL, fun g e => by rw [own_less (m := dl.length)]; exact h1 g e, fun g e => by rw [own_less (m := ml.length)]; exact h2 g e⟩, by rw [own_less (m := dl.length)]; exact h.pd, by rw [own_less (m := ml.length)]; exact h.pm, fun g e => by rw [own_less (m := ml.length)]; rw [own_less (m := dl.length)] at e; exact h.dm g e, ⟨xs.take m, by rw [l1]; exact owns_less ho hm, fun j hj => ?_⟩, by rw [l2, List.map_take]; exact owns_less h.marks hm'⟩
  rw [l1] at hj
  rw [List.getElem?_take_of_lt hj, List.getElem?_take_of_lt hj]
  exact hx j (by omega)
theorem Ky.lb {w wr : World} {p : Nat} {dv mv : Value} {dl : List (List (Int × Int))} {ml : List Int} {s : Um.LogS} (h : Ky w wr p dv mv dl ml s) : Lb wr.heap.size wr dv dl := by
  obtain ⟨xs, ho, hx⟩ := h.done
  rcases ho.2 with ⟨rfl, h0⟩ | ⟨g, cap, cur, rfl, _, hg, hle, _, hsz, hcur⟩
  · have : dl = [] := List.length_eq_zero_iff.1 h0
    subst this; exact Lb.nil _ _
  · refine ⟨_, _, rfl, hle, .inr ⟨g, 0, rfl, (Array.getElem?_eq_some_iff.1 hg).1, fun j hj => ?_⟩⟩
    obtain ⟨v, hv, hl⟩ := hx j hj
    refine ⟨v, ?_, (hl.keep h.below).wide h.below.size⟩
    rw [← hcur, List.getElem?_take_of_lt (by omega), Array.getElem?_toList] at hv
    simp [World.cell?, hg, hv]
theorem Ky.at {w wr : World} {p : Nat} {dv mv : Value} {dl : List (List (Int × Int))} {ml : List Int} {s : Um.LogS} (h : Ky w wr p dv mv dl ml s) (h0 : ml ≠ []) :
    ∃ g o cap, mv = .slice (some ⟨g, o, none⟩) ml.length cap ∧ ml.length ≤ cap ∧ g < wr.heap.size ∧ ∀ j, j < ml.length → wr.cell? ⟨g, o + j, none⟩ = some (.int .i64 (ml[j]?.getD 0)) := by
  rcases h.marks.2 with ⟨rfl, h1⟩ | ⟨g, cap, cur, rfl, _, hg, hle, _, hsz, hcur⟩
  · exact absurd (List.length_eq_zero_iff.1 h1) h0
  · refine ⟨g, 0, cap, rfl, hle, (Array.getElem?_eq_some_iff.1 hg).1, fun j hj => ?_⟩
    have key : (ml.map (Value.int .i64))[j]? = some (.int .i64 (ml[j]?.getD 0)) := by rw [List.getElem?_map, List.getElem?_eq_getElem hj]; rfl
    rw [← hcur, List.getElem?_take_of_lt (by omega), Array.getElem?_toList] at key
    simp [World.cell?, hg, key]
/-- At the beginning. -/
theorem Ky.new {w wn : World} {p n : Nat} (hL : Lg w.heap.size wn p none (Um.newS n)) (hB : Below w.heap.size w wn) : Ky w (wn.alloc (.cells #[.int .i64 0] 3)) p (.slice none 0 0) (.slice (some ⟨wn.heap.size, 0, none⟩) 1 1) [] [0] (Um.newS n) := by
  have hs := (Below.refl wn.heap.size wn).alloc (Nat.le_refl _) (.cells #[.int .i64 0] 3)
  refine ⟨hB.alloc hB.size _, ⟨none, hL.step hs, (fun g e => by cases e), (fun g e => by cases e)⟩, (fun e => by cases e), (fun e => ?_), (fun g e => by cases e), ⟨[], World.ownsRow_nil _ _ _ _, fun j hj => absurd hj (Nat.not_lt_zero _)⟩, ⟨rfl, .inr ⟨wn.heap.size, 1, #[.int .i64 0], rfl, hB.size, ?_, Nat.le_refl _, (by unfold maxLen; omega), rfl, rfl⟩⟩⟩
  · have := hL.lt
    have e2 : wn.heap.size = p := by simpa [Value.ownBlock] using e
    omega
  · show (wn.heap.push _)[wn.heap.size]? = _
    simp
end Go.Proofs.YthgehlonjoafmaaDoor
