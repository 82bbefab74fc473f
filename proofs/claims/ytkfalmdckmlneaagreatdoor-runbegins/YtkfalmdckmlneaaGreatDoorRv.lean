/-
  A range over a function whose closure keeps a variable of its own (strings.Lines, strings.SplitSeq): what the loop says of its own memory, and what the iterator owes.
-/
import Derived.RangeFuncNested
import Derived.RangeFuncBound
import Derived.RangeFuncCalls
import Derived.RangeFuncLeaves
namespace Go.Rv
set_option linter.unusedSimpArgs false
open Go Go.RowKit

variable {F : Fence} {n : Nat} {P : Program} {α : Type}

/-- The m blocks from V on are as they were. -/
def Same (V m : Nat) (A B : World) : Prop := ∀ k, V ≤ k → k < V + m → B.heap[k]? = A.heap[k]?

/-- What an iterator owes that has captured the m blocks from V on, and stores into V alone: whatever its loop keeps under such a store, and is told of rounds that leave these blocks alone, it brings to an end. -/
def Owes (F : Fence) (n : Nat) (P : Program) (f : Nat) (cap : Array Value) (enc : α → Array Value) (V m : Nat) (S Sp : List α → Prop) (N : Nat) (w : World) : Prop :=
  ∀ (l : Nat) (J Jx : List α → World → Prop) (W : World), Below w.heap.size w W → (∀ pre A v, J pre A → J pre (A.setCell ⟨V, 0, none⟩ v)) → (∀ pre A, J pre A → J pre A.drew) →
    (∀ pre x A, J pre A → pre.length < N → YieldAt F (n - 1) P l (enc x) A fun e B => (e = .returned (.bool true) ∧ J (pre ++ [x]) B ∧ Same V m A B) ∨ (e = .returned (.bool false) ∧ Jx (pre ++ [x]) B)) →
    J [] W → CallsIn F n P f (#[.func (.yield l) #[] #[]] ++ cap) W fun e B => (∃ v, e = .returned v) ∧ ((∃ xs, S xs ∧ J xs B) ∨ (∃ xs, Sp xs ∧ Jx xs B))

/-- How a round may end: it goes on, or it returns. -/
def Ends (D V m : Nat) (I Ix : List α → World → Prop) (xs : List α) (W : World) : Exit → Act → World → Prop
  | .normal, _, B => KeepsFrom D W B ∧ Same V m W B ∧ I xs B
  | .ret, _, B => KeepsFrom D W B ∧ Ix xs B
  | _, _, _ => False

/-- A store into a block of cells leaves what is no cells. -/
theorem set_other {W : World} {V k : Nat} {o : Obj} (v : Value) (h : W.heap[k]? = some o) (ho : o.isCells = false) : (W.setCell ⟨V, 0, none⟩ v).heap[k]? = some o := (KeepsOthers.setCell W _ v).same k o h ho

set_option maxHeartbeats 1000000 in
theorem range_any {g : Operand} {ps : Array Tmp} {assign body : Code} {Q : Exit → Act → World → Prop} {a : Act} {w : World}
    (hro : F.round = none) (h1 : 1 ≤ n) {f : Nat} {cap : Array Value} (hg : a.eval g = .func (.func f) #[] cap) (hf : F.fn f) (ef : ∀ args w, (callFunc f args).run P w = .ok (.enter f args) w)
    {enc : α → Array Value} {V m : Nat} (hV : V + m ≤ w.heap.size) {S Sp : List α → Prop} {N : Nat} (hseq : Owes F (n - 1) P f cap enc V m S Sp N w) (hps : ∀ x, (enc x).size = ps.size)
    (I Ix : List α → World → Prop) (hI : OwnFrom w.heap.size I) (hIx : OwnFrom w.heap.size Ix) (hIV : ∀ pre A v, I pre A → I pre (A.setCell ⟨V, 0, none⟩ v)) (h0 : I [] w) (b : α → Act)
    (hassign : ∀ (l : Nat) (x : α) (W : World) (K : Act → World → Prop), K (b x) W →
      assign.wpIn (F.inRound l) (n - 1 - 1) P (Exit.then K (fun _ _ _ => False)) { tmps := (ps.zip (enc x)).foldl (fun t (p, v) => t.setIfInBounds p v) a.tmps, defers := [] } W)
    (hbody : ∀ (l : Nat) (pre : List α) (x : α) (W : World), I pre W → pre.length < N → body.wpIn (F.inRound l) (n - 1 - 1) P (Ends w.heap.size V m I Ix (pre ++ [x]) W) (b x) W)
    (hdone : ∀ (D : Nat) (xs : List α) (W : World), w.heap.size ≤ D → S xs → I xs W → W.heap[D]? = some (.deferred (some [])) → Q .normal { a with defers := { target := .collected D, args := #[] } :: a.defers } W)
    (hstop : ∀ (D : Nat) (xs : List α) (W : World), w.heap.size ≤ D → Sp xs → Ix xs W → W.heap[D]? = some (.deferred (some [])) → Code.ret.wpIn F n P Q { a with defers := { target := .collected D, args := #[] } :: a.defers } W) :
    (Code.rangeFunc g ps assign body).wpIn F n P Q a w := by
  refine wpIn_rangeFunc fun fn hfn => ?_
  rw [hro]
  -- the loop's own two blocks: D (what rounds defer), L (its record)
  generalize hD : w.heap.size = D at *
  obtain ⟨R, hR⟩ : ∃ R : LoopState → Option Code → Loop, ∀ s j, R s j = { state := s, pending := j, fn, tmps := a.tmps, params := ps, assign, body, defers := D } := ⟨_, fun _ _ => rfl⟩
  let W1 : World := (w.alloc (.deferred (some []))).alloc (.loop (R .ready none))
  have s1 : W1.heap.size = D + 1 + 1 := by simp [W1, hD]
  have hL : W1.heap[D + 1]? = some (.loop (R .ready none)) := by
    have := World.alloc_heap_new (w.alloc (.deferred (some []))) (.loop (R .ready none))
    rwa [World.size_alloc, hD] at this
  have hQ : W1.heap[D]? = some (.deferred (some [])) := by
    have e := World.alloc_heap_new w (.deferred (some []))
    rw [hD] at e
    exact (Below.heap_alloc _ _ D (by simp [hD])).trans e
  have hb : Below w.heap.size w W1 := ((Below.refl _ w).alloc (Nat.le_refl _) _).alloc (by simp) _
  refine ⟨D + 1, [{ target := .collected D, args := #[] }], W1, { target := .fn (.func f) cap, args := #[.func (.yield (D + 1)) #[] #[]] }, W1, f, #[.func (.yield (D + 1)) #[] #[]] ++ cap, W1, ?_, ?_, ?_, ?_, fun _ => h1, ?_⟩
  · have e := run_enterLoop_outer (P := P) (w := w) fn a.tmps ps assign body
    rw [hD] at e
    rw [e]
    show _ = Result.ok _ ((w.alloc _).alloc (.loop (R .ready none)))
    rw [hR]
  · simp only [resolve, hg]; simp [go_sem]
  · intro q hq; simp [Target.leads] at hq; subst hq; exact hf
  · simp [invoke, go_sem, ef]
  · refine (hseq (D + 1) (fun xs W => I xs W ∧ W.heap[D + 1]? = some (.loop (R .ready none)) ∧ W.heap[D]? = some (.deferred (some [])))
      (fun xs W => Ix xs W ∧ W.heap[D + 1]? = some (.loop (R .done (some .ret))) ∧ W.heap[D]? = some (.deferred (some [])))
      W1 hb (fun pre A v h => ⟨hIV pre A v h.1, set_other v h.2.1 rfl, set_other v h.2.2 rfl⟩) (fun pre A h => ⟨hI pre A A.drew none h.1 ⟨rfl, rfl, rfl, Nat.le_refl _, fun _ _ _ => rfl⟩ (fun r e => by cases e), h.2.1, h.2.2⟩) ?_ ⟨hI.alloc _ (hI.alloc _ h0), hL, hQ⟩).mono ?_
    · rintro pre x A ⟨hi, hl, hq⟩ hlen
      have lt := (Array.getElem?_eq_some_iff.1 hl).1
      have hy := run_yield (P := P) (args := enc x) hl (by rw [hR]; exact hps x)
      rw [hR] at hy
      refine ⟨fn, _, assign, body, hy, roundIn_of_wpIn hfn (hassign _ x A _ ⟨_, run_beginRound hl (by rw [hR]), ?_⟩)⟩
      clear hy
      generalize hB : A.putObj (D + 1) (.loop { R .ready none with state := .busy }) = B
      have bl : B.heap[D + 1]? = some (.loop { R .ready none with state := .busy }) := by rw [← hB]; exact World.putObj_heap_same lt
      have bq : B.heap[D]? = some (.deferred (some [])) := by rw [← hB]; exact (World.putObj_heap_other (by omega)).trans hq
      have bv : Same V m A B := fun k h1 h2 => by rw [← hB]; exact World.putObj_heap_other (by omega)
      have bi : I pre B := by rw [← hB]; exact hI.putObj _ hi (by omega) hl rfl
      refine wpIn_mono (hbody _ pre x B bi hlen) ?_
      intro e a3 C hp
      cases e with
      | normal =>
        obtain ⟨k, kv, ki⟩ := hp
        have cl := k.same _ _ (by omega) bl rfl
        refine ⟨_, _, run_endRound none cl, .inl ⟨rfl, ⟨hI.putObj _ ki (by omega) cl rfl, ?_, (World.putObj_heap_other (by omega)).trans (k.same _ _ (Nat.le_refl _) bq rfl)⟩, fun i h1 h2 => (World.putObj_heap_other (by omega)).trans ((kv i h1 h2).trans (bv i h1 h2))⟩⟩
        rw [World.putObj_heap_same (Array.getElem?_eq_some_iff.1 cl).1]; simp [hR]
      | ret =>
        obtain ⟨k, ki⟩ := hp
        have cl := k.same _ _ (by omega) bl rfl
        refine ⟨_, _, run_endRound (some .ret) cl, .inr ⟨rfl, hIx.putObj _ ki (by omega) cl rfl, ?_, (World.putObj_heap_other (by omega)).trans (k.same _ _ (Nat.le_refl _) bq rfl)⟩⟩
        rw [World.putObj_heap_same (Array.getElem?_eq_some_iff.1 cl).1]; simp [hR]
      | exit id => exact hp.elim
      | goto t => exact hp.elim
      | panic c => exact hp.elim
      | outgrown => exact hp.elim
    · rintro e C ⟨⟨v, rfl⟩, (⟨xs, hS, hi, hl, hq⟩ | ⟨xs, hS, hi, hl, hq⟩)⟩
      · have := run_endLoop (P := P) hl (by rw [hR]; simp)
        rw [hR] at this
        exact ⟨none, _, this, hdone _ xs _ (Nat.le_refl _) hS (hI.putObj _ hi (by omega) hl rfl) ((World.putObj_heap_other (by omega)).trans hq)⟩
      · have := run_endLoop (P := P) hl (by rw [hR]; simp)
        rw [hR] at this
        exact ⟨some .ret, _, this, hstop _ xs _ (Nat.le_refl _) hS (hIx.putObj _ hi (by omega) hl rfl) ((World.putObj_heap_other (by omega)).trans hq)⟩
end Go.Rv
