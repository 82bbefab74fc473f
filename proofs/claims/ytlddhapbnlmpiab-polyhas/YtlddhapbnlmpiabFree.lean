/-
  A statement that leaves its order open, by what is carried along: whatever order its operations come in, what holds ahead of each holds behind it; then it holds behind all. One proof for each operation, not one for each order.
-/
import Derived.OrdersIn
import Derived.Orders
import Derived.Laws.World
namespace Go.Free
set_option linter.unusedSimpArgs false

/-- What must have come ahead of operation i. -/
def needs (ops : Array Oper) (i : Nat) : List Nat := match ops[i]? with
  | none => []
  | some o => (o.after.toList.filter fun e => Region.binds .any e).map (·.on)
/-- Whatever must have come ahead stands ahead in the text. -/
def down (ops : Array Oper) : Bool := (List.range ops.size).all fun i => (needs ops i).all fun j => decide (j < i)

theorem mem_ready {ops : Array Oper} {listed : Array Bool} {i : Nat} (h : i ∈ Region.ready .any ops listed) : i < ops.size ∧ listed.getD i true = false ∧ ∀ j ∈ needs ops i, listed.getD j false = true := by
  unfold Region.ready at h
  rw [List.mem_filter, List.mem_range] at h
  obtain ⟨h1, h2⟩ := h
  rw [Bool.and_eq_true] at h2
  obtain ⟨h3, h4⟩ := h2
  refine ⟨h1, by simpa using h3, ?_⟩
  unfold needs
  rw [Array.getElem?_eq_getElem h1] at h4 ⊢
  intro j hj
  obtain ⟨e, he, rfl⟩ := List.mem_map.1 hj
  obtain ⟨he1, he2⟩ := List.mem_filter.1 he
  have h5 : (ops[i].after.all fun e => !Region.binds .any e || listed.getD e.on false) = true := h4
  have := Array.all_eq_true'.1 h5 e (by simpa using he1)
  rw [he2] at this
  simpa using this
theorem ready_of {ops : Array Oper} {listed : Array Bool} {i : Nat} (h1 : i < ops.size) (h2 : listed.getD i true = false) (h3 : ∀ j ∈ needs ops i, listed.getD j false = true) : i ∈ Region.ready .any ops listed := by
  unfold Region.ready
  rw [List.mem_filter, List.mem_range]
  refine ⟨h1, ?_⟩
  rw [Bool.and_eq_true]
  refine ⟨by simpa using h2, ?_⟩
  unfold needs at h3
  rw [Array.getElem?_eq_getElem h1] at h3 ⊢
  have : (ops[i].after.all fun e => !Region.binds .any e || listed.getD e.on false) = true := by
    refine Array.all_eq_true'.2 fun e he => ?_
    cases hb : Region.binds .any e
    · rfl
    · exact h3 _ (List.mem_map.2 ⟨e, List.mem_filter.2 ⟨by simpa using he, hb⟩, rfl⟩)
  simpa using this
theorem all_listed {ops : Array Oper} {listed : Array Bool} (hd : down ops = true) (hs : listed.size = ops.size) (h : Region.ready .any ops listed = []) : ∀ i, i < ops.size → listed.getD i true = true := by
  intro i
  induction i using Nat.strongRecOn with
  | _ i ih =>
    intro hi
    cases hl : listed.getD i true
    · have hm : i ∈ Region.ready .any ops listed := ready_of hi hl fun j hj => by
        have hall := List.all_eq_true.1 (List.all_eq_true.1 hd i (List.mem_range.2 hi)) j hj
        have hlt : j < i := by simpa using hall
        have := ih j hlt (by omega)
        rw [Array.getD_eq_getD_getElem?, Array.getElem?_eq_getElem (by omega)] at this ⊢
        simpa using this
      rw [h] at hm; cases hm
    · rfl

/-- How many have not come. -/
def left (listed : Array Bool) : Nat := (listed.toList.filter (! ·)).length
theorem left_zero {listed : Array Bool} (h : left listed = 0) (i : Nat) (hi : i < listed.size) : listed.getD i true = true := by
  have h0 := List.length_eq_zero_iff.1 h
  cases hl : listed.getD i true
  · have hm : false ∈ listed.toList.filter (! ·) := List.mem_filter.2 ⟨by
      rw [Array.getD_eq_getD_getElem?, Array.getElem?_eq_getElem hi] at hl
      have hl' : listed[i] = false := by simpa using hl
      rw [← hl']; simp, rfl⟩
    rw [h0] at hm; cases hm
  · rfl
theorem left_list : ∀ (l : List Bool) (i : Nat), l[i]? = some false → ((l.set i true).filter (! ·)).length + 1 = (l.filter (! ·)).length
  | [], i, h => by simp at h
  | b :: l, 0, h => by
    have : b = false := by simpa using h
    subst this; simp
  | b :: l, i + 1, h => by
    have ih := left_list l i (by simpa using h)
    cases b <;> simp at ih ⊢ <;> omega
theorem left_set {listed : Array Bool} {i : Nat} (h : listed.getD i true = false) : left (listed.setIfInBounds i true) + 1 = left listed := by
  unfold left
  rw [Array.toList_setIfInBounds]
  refine left_list _ _ ?_
  rw [Array.getD_eq_getD_getElem?] at h
  cases he : listed[i]? with
  | none => rw [he] at h; cases h
  | some b => rw [he] at h; rw [Array.getElem?_toList, he]; simpa using h
theorem none_ready {ops : Array Oper} {listed : Array Bool} (hs : listed.size = ops.size) (h : left listed = 0) : Region.ready .any ops listed = [] := by
  rw [List.eq_nil_iff_forall_not_mem]
  intro i hi
  obtain ⟨h1, h2, _⟩ := mem_ready hi
  rw [left_zero h i (by omega)] at h2; cases h2

section
variable {F : Fence} {n : Nat} {P : Program} {ops : Array Oper} {Q : Exit → Act → World → Prop}

theorem anyIn (hd : down ops = true) (Inv : Array Bool → Act → World → Prop)
    (hs : ∀ (i : Nat) (listed : Array Bool) (a : Act) (w : World), i < ops.size → (∀ j, (needs ops i).contains j = true → listed.getD j false = true) → listed.getD i true = false → listed.size = ops.size → Inv listed a w → wpOpIn F n P ops Q i (Inv (listed.setIfInBounds i true)) a w)
    (he : ∀ (listed : Array Bool) (a : Act) (w : World), (∀ i, i < ops.size → listed.getD i true = true) → listed.size = ops.size → Inv listed a w → Q .normal a w) :
    ∀ (fuel : Nat) (listed : Array Bool) (a : Act) (w : World), listed.size = ops.size → left listed ≤ fuel → Inv listed a w → wpAnyIn F n P .any ops Q fuel listed a w
  | 0, listed, a, w, hz, hl, hI => ⟨none_ready hz (by omega), he listed a w (fun i hi => left_zero (by omega) i (by omega)) hz hI⟩
  | fuel + 1, listed, a, w, hz, hl, hI => by
    refine ⟨fun h => he listed a w (all_listed hd hz h) hz hI, fun i hi => ?_⟩
    obtain ⟨h1, h2, h3⟩ := mem_ready hi
    have := left_set h2
    exact wpOpIn_mono (fun a' w' h' => anyIn hd Inv hs he fuel _ a' w' (by simpa using hz) (by omega) h') (hs i listed a w h1 (fun j hj => h3 j (by simpa using hj)) h2 hz hI)
/-- Whatever order: in a fence. -/
theorem regionIn {id : Nat} {a : Act} {w : World} (hm : P.follows .mixedOrders = true) (hd : down ops = true) (Inv : Array Bool → Act → World → Prop)
    (h0 : Inv (Array.replicate ops.size false) a w.drew)
    (hs : ∀ (i : Nat) (listed : Array Bool) (a : Act) (w : World), i < ops.size → (∀ j, (needs ops i).contains j = true → listed.getD j false = true) → listed.getD i true = false → listed.size = ops.size → Inv listed a w → wpOpIn F n P ops Q i (Inv (listed.setIfInBounds i true)) a w)
    (he : ∀ (listed : Array Bool) (a : Act) (w : World), (∀ i, i < ops.size → listed.getD i true = true) → listed.size = ops.size → Inv listed a w → Q .normal a w) : (Code.region id ops true).wpIn F n P Q a w :=
  wpIn_region_any hm (anyIn hd Inv hs he _ _ _ _ (by simp) (by unfold left; refine Nat.le_trans (List.length_filter_le _ _) ?_; simp) h0)
theorem opIn {i : Nat} {o : Oper} {K : Act → World → Prop} {a : Act} {w : World} (ho : ops[i]? = some o) (hg : o.guard = none) (h : ∀ K' : Act → World → Prop, (∀ a w, K a w → K' a w) → o.wpIn F n P a w K' Q) : wpOpIn F n P ops Q i K a w := by
  unfold wpOpIn
  rw [ho]
  simp only [Region.wanted, hg, if_true]
  exact h _ (fun _ _ h => h)

theorem any (hd : down ops = true) (Inv : Array Bool → Act → World → Prop)
    (hs : ∀ (i : Nat) (listed : Array Bool) (a : Act) (w : World), i < ops.size → (∀ j, (needs ops i).contains j = true → listed.getD j false = true) → listed.getD i true = false → listed.size = ops.size → Inv listed a w → wpOp P ops Q i (Inv (listed.setIfInBounds i true)) a w)
    (he : ∀ (listed : Array Bool) (a : Act) (w : World), (∀ i, i < ops.size → listed.getD i true = true) → listed.size = ops.size → Inv listed a w → Q .normal a w) :
    ∀ (fuel : Nat) (listed : Array Bool) (a : Act) (w : World), listed.size = ops.size → left listed ≤ fuel → Inv listed a w → wpAny P .any ops Q fuel listed a w
  | 0, listed, a, w, hz, hl, hI => ⟨none_ready hz (by omega), he listed a w (fun i hi => left_zero (by omega) i (by omega)) hz hI⟩
  | fuel + 1, listed, a, w, hz, hl, hI => by
    refine ⟨fun h => he listed a w (all_listed hd hz h) hz hI, fun i hi => ?_⟩
    obtain ⟨h1, h2, h3⟩ := mem_ready hi
    have := left_set h2
    exact wpOp_mono (fun a' w' h' => any hd Inv hs he fuel _ a' w' (by simpa using hz) (by omega) h') (hs i listed a w h1 (fun j hj => h3 j (by simpa using hj)) h2 hz hI)
/-- Whatever order. -/
theorem region {id : Nat} {a : Act} {w : World} (hm : P.follows .mixedOrders = true) (hd : down ops = true) (Inv : Array Bool → Act → World → Prop)
    (h0 : Inv (Array.replicate ops.size false) a w.drew)
    (hs : ∀ (i : Nat) (listed : Array Bool) (a : Act) (w : World), i < ops.size → (∀ j, (needs ops i).contains j = true → listed.getD j false = true) → listed.getD i true = false → listed.size = ops.size → Inv listed a w → wpOp P ops Q i (Inv (listed.setIfInBounds i true)) a w)
    (he : ∀ (listed : Array Bool) (a : Act) (w : World), (∀ i, i < ops.size → listed.getD i true = true) → listed.size = ops.size → Inv listed a w → Q .normal a w) : (Code.region id ops true).wp P Q a w :=
  wp_region_any hm (any hd Inv hs he _ _ _ _ (by simp) (by unfold left; refine Nat.le_trans (List.length_filter_le _ _) ?_; simp) h0)
theorem op {i : Nat} {o : Oper} {K : Act → World → Prop} {a : Act} {w : World} (ho : ops[i]? = some o) (hg : o.guard = none) (h : ∀ K' : Act → World → Prop, (∀ a w, K a w → K' a w) → o.wp P a w K' Q) : wpOp P ops Q i K a w := by
  unfold wpOp
  rw [ho]
  simp only [Region.wanted, hg, if_true]
  exact .inl (h _ (fun _ _ h => h))
end
/-- One more has come: what was listed, and the new one. -/
theorem set_same {listed : Array Bool} {i : Nat} (h : i < listed.size) : (listed.setIfInBounds i true).getD i false = true := by
  rw [Array.getD_eq_getD_getElem?, Array.getElem?_setIfInBounds_self_of_lt h]; rfl
theorem set_other {listed : Array Bool} {i j : Nat} (hne : i ≠ j) (d : Bool) : (listed.setIfInBounds i true).getD j d = listed.getD j d := by
  rw [Array.getD_eq_getD_getElem?, Array.getElem?_setIfInBounds_ne hne, Array.getD_eq_getD_getElem?]
theorem of_set {listed : Array Bool} {i j : Nat} (hne : i ≠ j) {p : Prop} (h : listed.getD j false = true → p) : (listed.setIfInBounds i true).getD j false = true → p := fun e => h ((set_other hne false).symm.trans e)
theorem listed_of {ops : Array Oper} {listed : Array Bool} (h : ∀ i, i < ops.size → listed.getD i true = true) (hs : listed.size = ops.size) (i : Nat) (hi : i < ops.size) : listed.getD i false = true := by
  have := h i hi
  rw [Array.getD_eq_getD_getElem?, Array.getElem?_eq_getElem (by omega)] at this ⊢
  simpa using this
theorem none_yet (n i : Nat) : (Array.replicate n false).getD i false = false := by
  rw [Array.getD_eq_getD_getElem?]
  cases h : (Array.replicate n false)[i]? with
  | none => rfl
  | some b => rw [Array.getElem?_replicate] at h; split at h <;> cases h; rfl
theorem not_yet {n i : Nat} {p : Prop} (e : (Array.replicate n false).getD i false = true) : p := by rw [none_yet] at e; cases e
theorem off {listed : Array Bool} {i : Nat} (h : listed.getD i true = false) : listed.getD i false = false := by
  rw [Array.getD_eq_getD_getElem?] at h ⊢
  cases e : listed[i]? with
  | none => rfl
  | some b => rw [e] at h; simpa using h
end Go.Free
