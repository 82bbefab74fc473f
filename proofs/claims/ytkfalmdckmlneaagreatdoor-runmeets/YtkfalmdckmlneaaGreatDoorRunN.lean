/-
  What package run reads: a number, a digit, numbers with commas between.
-/
import Derived.Test.YtkfalmdckmlneaaGreatDoorItr
import Derived.Test.YtkfalmdckmlneaaGreatDoorAsU
import Derived.Test.YtkfalmdckmlneaaGreatDoorMems
import Derived.Test.YtkfalmdckmlneaaGreatDoorPrint
import Derived.RangeFuncBox
import Derived.Maps.AppendAt
namespace Go.Proofs.YtkfalmdckmlneaaGreatDoor
set_option linter.unusedSimpArgs false
open Go.RowKit Go.Shelf
attribute [local go_sem] Oper.semAt_some

theorem parse_few (l : List UInt8) : 0 ≤ (Um.parseR l).2 ∧ (Um.parseR l).2 ≤ 8 := by
  unfold Um.parseR
  split
  · decide
  · split
    · decide
    · split
      · exact ⟨Int.le_refl _, (by decide : (0 : Int) ≤ 8)⟩
      · decide
theorem unV_is {k : Int} (h : ¬ k = 0) : Value.iface 87 (.agg #[errV k]) = unV k := by rw [errV_some h]

/-- A number that can be read, and one that cannot. -/
theorem number_yes (s : ByteArray) (w : World) (hs : s.size ≤ 3000) (hm : HasLen w) (h : (Um.parseR s.data.toList).2 = 0) :
    Calls Tryz.prog 99 #[.string s] w fun e w' => e = .returned (.tuple #[.int .i64 (Um.parseR s.data.toList).1, .nilIface]) ∧ Below w.heap.size w w' := by
  have q1 := errG
  have q2 := errGn
  have q3 := errE
  have q4 := errN
  have HP := hid (parse_any s w (by unfold maxLen; omega) hm)
  generalize (Um.parseR s.data.toList).1 = x at *
  generalize (Um.parseR s.data.toList).2 = k at *
  have k0 : (k != 0) = false := by rw [h]; rfl
  clear h hm
  go_enter Tryz.func99, Tryz.ntmps99
  go_wp2_with (go_at_call 124; refine HP.out.mono ?_; rintro e w1 ⟨rfl, hb⟩)
  go_ret2
  exact ⟨rfl, hb⟩
theorem number_no (s : ByteArray) (w : World) (hs : s.size ≤ 3000) (hm : HasLen w) (h : ¬ (Um.parseR s.data.toList).2 = 0) :
    Calls Tryz.prog 99 #[.string s] w fun e w' => ∃ k, e = .returned (.tuple #[.int .i64 0, unV k]) ∧ Below w.heap.size w w' := by
  have q1 := errG
  have q2 := errGn
  have q3 := errE
  have q4 := errN
  have HP := hid (parse_any s w (by unfold maxLen; omega) hm)
  generalize (Um.parseR s.data.toList).1 = x at *
  generalize (Um.parseR s.data.toList).2 = k at *
  rw [errV_some h] at HP
  clear h hm
  go_enter Tryz.func99, Tryz.ntmps99
  go_wp2_with (go_at_call 124; refine HP.out.mono ?_; rintro e w1 ⟨rfl, hb⟩)
  go_ret2
  exact ⟨k, rfl, hb⟩

/-- A digit. -/
theorem dig_parts {s : ByteArray} (h : Um.digOk s.data.toList = true) : ∃ c : UInt8, s = ⟨#[c]⟩ ∧ Um.isDig c = true := by
  unfold Um.digOk at h
  rw [Bool.and_eq_true] at h
  obtain ⟨h1, h2⟩ := h
  replace h1 := of_decide_eq_true h1
  match hl : s.data.toList, h1 with
  | [c], _ =>
    refine ⟨c, str_ext (by rw [hl]), ?_⟩
    rw [hl] at h2
    exact h2
theorem digit_yes (s : ByteArray) (w : World) (h : Um.digOk s.data.toList = true) :
    Calls Tryz.prog 93 #[.string s] w fun e w' => e = .returned (.tuple #[.int .i64 (Um.digR s.data.toList : Nat), .nilIface]) ∧ w' = w := by
  obtain ⟨c, rfl, hc⟩ := dig_parts h
  obtain ⟨c1, c2⟩ := (Um.isDig_iff c).1 hc
  have e : ((Um.digR (⟨#[c]⟩ : ByteArray).data.toList : Nat) : Int) = (c.toNat : Int) - 48 := by
    show ((c.toNat - 48 : Nat) : Int) = _
    omega
  rw [e]
  have d1 : decide ((c.toNat : Int) < 48) = false := decide_eq_false (by omega)
  have d2 : decide ((57 : Int) < (c.toNat : Int)) = false := decide_eq_false (by omega)
  have d3 : (48 : Int) ≤ (c.toNat : Int) := by omega
  have d4 : (c.toNat : Int) ≤ 57 := by omega
  clear h hc e
  go_enter Tryz.func93, Tryz.ntmps93
  go_wp2
  · rename_i h5 h6
    exact absurd h6 (by show ¬ ((c.toNat : Int) < 48 ∨ 57 < (c.toNat : Int)); omega)
  · go_ret2
    exact ⟨rfl, rfl⟩
theorem digit_no (s : ByteArray) (w : World) (h : Um.digOk s.data.toList = false) :
    Calls Tryz.prog 93 #[.string s] w fun e w' => ∃ k, e = .returned (.tuple #[.int .i64 0, unV k]) ∧ w' = w := by
  by_cases h1 : s.size = 1
  · obtain ⟨c, rfl⟩ := Lib.one_byte s h1
    have hc : ¬ (48 ≤ (c.toNat : Int) ∧ (c.toNat : Int) ≤ 57) := fun hh => by
      have : Um.isDig c = true := (Um.isDig_iff c).2 (by omega)
      have : Um.digOk (⟨#[c]⟩ : ByteArray).data.toList = true := this
      rw [this] at h
      cases h
    clear h
    go_enter Tryz.func93, Tryz.ntmps93
    go_wp2
    · go_ret2
      exact ⟨2, rfl, rfl⟩
    · go_ret2
      exact ⟨⟨2, rfl⟩, rfl⟩
  · have n1 : ((s.size : Int) != 1) = true := by simp; omega
    clear h
    go_enter Tryz.func93, Tryz.ntmps93
    go_wp2
    go_ret2
    exact ⟨2, rfl, rfl⟩

/-- Numbers with commas between: what has come so far. -/
def numOf (x : Str) : Int := (Um.parseR (bytesOf x)).1
def faultOf (x : Str) : Int := (Um.parseR (bytesOf x)).2
structure Ni (w W : World) (xs : List Str) : Prop where
  ok : ∀ x ∈ xs, faultOf x = 0
  row : ∃ v, Boxed W (w.heap.size + 1 + 1) 52 v ∧ W.ownsRow (w.heap.size + 6) 3 1 v xs.length ((xs.map numOf).map (Value.int .i64))
  res : Boxed W w.heap.size 52 (.slice none 0 0)
  err : Boxed W (w.heap.size + 1) 39 .nilIface
  var : ∃ u, Boxed W (w.heap.size + 1 + 1 + 1) 9 u
  below : Below w.heap.size w W
  size : w.heap.size + 6 ≤ W.heap.size
structure Nx (w W : World) (xs : List Str) : Prop where
  no : ∃ x ∈ xs, ¬ faultOf x = 0
  res : Boxed W w.heap.size 52 (.slice none 0 0)
  err : ∃ k, Boxed W (w.heap.size + 1) 39 (unV k)
  below : Below w.heap.size w W
theorem box_own {W W' : World} {row : Option Nat} {B : Nat} {T : TypeId} {v : Value} (h : Boxed W B T v) (hg : W.grownBy W' row) (hr : ∀ r, row = some r → ∃ o : Obj, W.heap[r]? = some o ∧ o.isCells = false) : Boxed W' B T v :=
  h.kept hg (fun e => by obtain ⟨o, ho, hc⟩ := hr B e.symm; rw [show W.heap[B]? = _ from h] at ho; cases ho; cases hc)
theorem box_step {w w' : World} {k : Nat} {T : TypeId} {v : Value} (h : Boxed w k T v) (hb : Below w.heap.size w w') : Boxed w' k T v := box_below h hb h.lt
theorem keeps_below {B : Nat} {W W' : World} (hb : Below W.heap.size W W') : KeepsFrom B W W' := ⟨hb.size, fun k _ _ hk _ => (hb.block k (Array.getElem?_eq_some_iff.1 hk).1).trans hk⟩
theorem Ni.own {w : World} {B : Nat} (hB : w.heap.size ≤ B) : OwnFrom B (fun s W => Ni w W s) := fun s A C row hs hg hr => by
  obtain ⟨v, hv, ho⟩ := hs.row
  have hr2 := fun r e => (hr r e).2
  obtain ⟨v2, hv2, ho2, -⟩ := holdsRow_own (β := Unit) (w.heap.size + 6) (w.heap.size + 1 + 1) 52 3 1 (fun _ => s.length) (fun _ => (s.map numOf).map (Value.int .i64)) (fun _ _ => True) () A C row ⟨v, hv, ho, trivial⟩ hg hr2
  exact ⟨hs.ok, ⟨v2, hv2, ho2⟩, box_own hs.res hg hr2, box_own hs.err hg hr2, hs.var.imp fun u hu => box_own hu hg hr2, ownFrom_below (β := Unit) (Nat.le_refl _) hB () A C row hs.below hg hr, Nat.le_trans hs.size hg.size⟩
theorem Nx.own {w : World} {B : Nat} (hB : w.heap.size ≤ B) : OwnFrom B (fun s W => Nx w W s) := fun s A C row hs hg hr => by
  have hr2 := fun r e => (hr r e).2
  obtain ⟨k, hk⟩ := hs.err
  exact ⟨hs.no, box_own hs.res hg hr2, ⟨k, box_own hk hg hr2⟩, ownFrom_below (β := Unit) (Nat.le_refl _) hB () A C row hs.below hg hr⟩
theorem owns_other {W : World} {base E size n b : Nat} {v : Value} {xs : List Value} (h : W.ownsRow base E size v n xs) (T : TypeId) (u : Value) (hT : T ≠ E) (hb : Boxed W b T u) (z : Value) : (W.setCell ⟨b, 0, none⟩ z).ownsRow base E size v n xs :=
  h.kept (grownBy_setCell' W b z) (.inr (hb.not_row hT h).symm)
/-- The iterator's own stores. -/
theorem Ni.set {w W : World} {xs : List Str} (h : Ni w W xs) (z : Value) : Ni w (W.setCell ⟨w.heap.size + 1 + 1 + 1, 0, none⟩ z) xs := by
  obtain ⟨v, hv, ho⟩ := h.row
  obtain ⟨u, hu⟩ := h.var
  exact ⟨h.ok, ⟨v, hv.other (by omega) _, owns_other ho _ _ (by decide) hu z⟩, h.res.other (by omega) _, h.err.other (by omega) _, ⟨z, hu.set z⟩, h.below.setCell (p := ⟨w.heap.size + 1 + 1 + 1, 0, none⟩) (by simp only []; omega) _, Nat.le_trans h.size (KeepsOthers.setCell _ _ _).size⟩

theorem owns_put {W : World} {base E size n b o : Nat} {v : Value} {xs : List Value} (h : W.ownsRow base E size v n xs) (hb : b < base) (z : Value) : (W.setCell ⟨b, o, none⟩ z).ownsRow base E size v n xs := by
  refine ⟨h.1, ?_⟩
  rcases h.2 with h2 | ⟨g, cap, cur, e, hg, hh, h3⟩
  · exact .inl h2
  · exact .inr ⟨g, cap, cur, e, hg, (Below.heap_setCell _ _ _ g (by show g ≠ b; omega)).trans hh, h3⟩
theorem owns_low {W : World} {b b' E size n : Nat} {v : Value} {xs : List Value} (h : W.ownsRow b E size v n xs) (hb : b' ≤ b) : W.ownsRow b' E size v n xs := by
  refine ⟨h.1, ?_⟩
  rcases h.2 with h2 | ⟨g, cap, cur, e, hg, h3⟩
  · exact .inl h2
  · exact .inr ⟨g, cap, cur, e, by omega, h3⟩
theorem nums_all {l : List UInt8} {xs : List Str} (h : xs.map bytesOf = Um.cutL 44 l) (hok : ∀ x ∈ xs, faultOf x = 0) : Um.numsOk l = true ∧ Um.numsL l = xs.map numOf := by
  constructor
  · unfold Um.numsOk
    rw [← h, List.all_map, List.all_eq_true]
    intro x hx
    have := hok x hx
    show ((Um.parseR (bytesOf x)).2 == 0) = true
    unfold faultOf at this
    rw [this]; rfl
  · unfold Um.numsL
    rw [← h, List.map_map]
    rfl
theorem nums_not {l : List UInt8} {xs : List Str} {r : List (List UInt8)} (h : Um.cutL 44 l = xs.map bytesOf ++ r) (hno : ∃ x ∈ xs, ¬ faultOf x = 0) : Um.numsOk l = false := by
  obtain ⟨x, hx, hf⟩ := hno
  unfold Um.numsOk
  rw [h, List.all_append, List.all_map]
  have : (xs.all ((fun x => (Um.parseR x).2 == 0) ∘ bytesOf)) = false := by
    rw [List.all_eq_false]
    refine ⟨x, hx, ?_⟩
    show ¬ ((Um.parseR (bytesOf x)).2 == 0) = true
    unfold faultOf at hf
    simpa using hf
  rw [this]; rfl

set_option maxRecDepth 100000 in
set_option maxHeartbeats 4000000 in
theorem numbers_any (t : ByteArray) (w : World) (ht : t.size ≤ 3000) (hm : HasLen w) :
    Calls Tryz.prog 111 #[.string t] w fun e w' => Below w.heap.size w w' ∧ (Um.numsOk t.data.toList = true → ∃ v, e = .returned (.tuple #[v, .nilIface]) ∧ w'.ownsRow w.heap.size 3 1 v (Um.numsL t.data.toList).length ((Um.numsL t.data.toList).map (Value.int .i64))) ∧ (Um.numsOk t.data.toList = false → ∃ k, e = .returned (.tuple #[.slice none 0 0, unV k])) := by
  obtain ⟨i0, hi0, hz0, hz1, hz2⟩ := info_parts info_int
  have hlen : (Um.cutL 44 t.data.toList).length ≤ 3001 := by
    have := Um.cutL_length 44 t.data.toList
    have h9 : t.data.toList.length = t.size := by rw [← str_size, str_back]
    omega
  refine (callsIn_wide (n := 6)).1 ?_
  refine callsIn_of_wp_marks Tryz.func111 rfl trivial ?_ rfl
  simp only [Tryz.ntmps111, List.size_toArray, List.length_cons, List.length_nil, Nat.reduceAdd, Nat.reduceSub, Array.replicate_succ, Array.replicate_zero, List.push_toArray, List.append_toArray, List.nil_append, List.cons_append]
  gi_wp2_with (refine ⟨trivial, ?_⟩; gi_at_call 137; refine (callsIn_wide.2 (split_make _ _ _)).mono ?_; rintro e w2 ⟨rfl, rfl⟩)
  obtain ⟨W0, hW0⟩ : ∃ W0, ((((((w.alloc (.cells #[.slice none 0 0] 52)).alloc (.cells #[.nilIface] 39)).alloc (.cells #[.slice none 0 0] 52)).alloc (.cells #[.string t] 9)).alloc (.cells #[.string ⟨#[44]⟩] 9)).alloc (.cells #[.int .i64 0] 3)) = W0 := ⟨_, rfl⟩
  have z0 : W0.heap.size = w.heap.size + 6 := by rw [← hW0]; simp
  have hB0 : Below w.heap.size w W0 := by rw [← hW0]; go_grown
  have b0 : Boxed W0 w.heap.size 52 (.slice none 0 0) := by rw [← hW0]; exact (((((Boxed.new w _ _).alloc _).alloc _).alloc _).alloc _).alloc _
  have b1 : Boxed W0 (w.heap.size + 1) 39 .nilIface := by rw [← hW0]; simpa using ((((Boxed.new (w.alloc (.cells #[.slice none 0 0] 52)) 39 .nilIface).alloc _).alloc _).alloc _).alloc _
  have b2 : Boxed W0 (w.heap.size + 1 + 1) 52 (.slice none 0 0) := by rw [← hW0]; simpa using (((Boxed.new ((w.alloc (.cells #[.slice none 0 0] 52)).alloc (.cells #[.nilIface] 39)) 52 (.slice none 0 0)).alloc _).alloc _).alloc _
  have b3 : Boxed W0 (w.heap.size + 1 + 1 + 1) 9 (.string t) := by rw [← hW0]; simpa using ((Boxed.new (((w.alloc (.cells #[.slice none 0 0] 52)).alloc (.cells #[.nilIface] 39)).alloc (.cells #[.slice none 0 0] 52)) 9 (.string t)).alloc _).alloc _
  have b4 : Boxed W0 (w.heap.size + 1 + 1 + 1 + 1) 9 (.string ⟨#[44]⟩) := by rw [← hW0]; simpa using (Boxed.new ((((w.alloc (.cells #[.slice none 0 0] 52)).alloc (.cells #[.nilIface] 39)).alloc (.cells #[.slice none 0 0] 52)).alloc (.cells #[.string t] 9)) 9 (.string ⟨#[44]⟩)).alloc _
  have b5 : Boxed W0 (w.heap.size + 1 + 1 + 1 + 1 + 1) 3 (.int .i64 0) := by rw [← hW0]; simpa using (Boxed.new (((((w.alloc (.cells #[.slice none 0 0] 52)).alloc (.cells #[.nilIface] 39)).alloc (.cells #[.slice none 0 0] 52)).alloc (.cells #[.string t] 9)).alloc (.cells #[.string ⟨#[44]⟩] 9)) 3 (.int .i64 0))
  rw [hW0]
  clear hW0
  have HL := hid hlen
  have HM := hid hm
  clear hlen hm
  refine Rv.range_any rfl (by omega) (f := 164) (cap := #[.pointer (some ⟨w.heap.size + 1 + 1 + 1 + 1, 0, none⟩), .pointer (some ⟨w.heap.size + 1 + 1 + 1, 0, none⟩), .pointer (some ⟨w.heap.size + 1 + 1 + 1 + 1 + 1, 0, none⟩)]) rfl trivial (enters_of Tryz.func164 (by kernel_rfl) rfl)
    (V := w.heap.size + 1 + 1 + 1) (m := 3) (by omega) (split_owes _ (by omega) _ t ht W0 b3 b4 b5) (fun _ => rfl)
    (fun xs W => Ni w W xs) (fun xs W => Nx w W xs) (Ni.own (by omega)) (Nx.own (by omega)) (fun pre A v h => h.set v)
    ⟨fun x hx => (by cases hx), ⟨_, b2, World.ownsRow_nil _ _ _ _⟩, b0, b1, ⟨_, b3⟩, hB0, by omega⟩
    (fun x => { tmps := #[.string t, undef, .pointer (some ⟨w.heap.size, 0, none⟩), .pointer (some ⟨w.heap.size + 1, 0, none⟩), .pointer (some ⟨w.heap.size + 1 + 1, 0, none⟩), .string x.1, undef, undef, .string t, .func (.func 164) #[] #[.pointer (some ⟨w.heap.size + 1 + 1 + 1 + 1, 0, none⟩), .pointer (some ⟨w.heap.size + 1 + 1 + 1, 0, none⟩), .pointer (some ⟨w.heap.size + 1 + 1 + 1 + 1 + 1, 0, none⟩)], .string x.1, undef, undef, undef, undef, undef, undef, undef, undef, undef, undef, undef, undef, undef], defers := [] }) ?assign ?body ?done ?stop
  case assign =>
    intro l x W K hK
    gi_wp2
    exact hK
  case body =>
    rintro l pre x W hI hlen
    have hmW : HasLen W := HM.out.below hI.below HM.out.size
    by_cases hf : faultOf x = 0
    · have HN := hid (number_yes x.1 W x.2 hmW hf)
      obtain ⟨v, hv, ho⟩ := hI.row
      obtain ⟨a, cap, rfl⟩ := owns_slice ho
      have hl9 := HL.out
      have HZ := hid hI.size
      have HU := hid hI.below.size
      have HF := hid hf
      clear hf hmW
      gi_wp2_with (first
        | (refine ⟨trivial, ?_⟩; gi_at_call 99; refine (CallsIn.inRound l (callsIn_wide.2 HN.out)).mono ?_; rintro e w1 ⟨rfl, hb⟩; have hv1 := box_step hv hb; have ho1 := owns_keep ho hb; have c1 := hv1.cell; have HB1 := hid hb; have HS1 := hid hb.size; clear hb)
        | (gi_at_builtin; refine wpListIn_append_own _ rfl _ _ 52 rfl (w.heap.size + 6) 3 i0 (.int .i64 0) 1 8 Tryz.underlying52 hi0 hz0 hz1 hz2 rfl (by decide) _ _ _ rfl (ho1.alloc _) ⟨w1.heap.size, 0, none⟩ 1 1 [.int .i64 (numOf x)] rfl rfl (cell_one_new _ _ _) (by simp [Value.oneCell']) (by unfold maxLen; omega) (by omega) (by have q1 := HZ.out; have q2 := HS1.out; simp; omega) ?_; intro v' w2 hown' hgrow _; obtain ⟨g', cap', rfl⟩ := ownsRow_succ hown'; obtain ⟨hv3, hv4, hr4, hk4, hb4⟩ := hv1.appended (by decide) (owns_low ho1 (b' := w.heap.size) (by omega)) (by have q1 := HU.out; have q2 := HS1.out; omega) (by omega) (owns_low hown' (b' := w.heap.size) (by omega)) hgrow; have hc1 := hv3.cell; have hf1 := hv3.frozen))
      have HG : (w1.alloc (.cells #[.int .i64 (Um.parseR x.1.data.toList).1] 3)).grownBy w2 (Value.slice a pre.length cap).ownBlock := hgrow
      have q1 := HZ.out
      have q2 := HS1.out
      have keep : ∀ k, k < w.heap.size + 6 → ¬ k = w.heap.size + 1 + 1 → (w2.setCell ⟨w.heap.size + 1 + 1, 0, none⟩ (.slice (some ⟨g', 0, none⟩) (pre.length + 1) cap')).heap[k]? = W.heap[k]? := fun k h1 h2 =>
        ((Below.heap_setCell _ _ _ k h2).trans ((HG.block k (by simp; omega) (fun e => by have := own_from ho1 k e.symm; omega)).trans (Below.heap_alloc _ _ k (by omega)))).trans (HB1.out.block k (by omega))
      obtain ⟨u, hu⟩ := hI.var
      refine ⟨(keeps_below HB1.out).trans (hk4.from _), fun k h1 h2 => keep k (by omega) (by omega), ⟨?_, ⟨_, hv4, ?_⟩, (keep _ (by omega) (by omega)).trans hI.res, (keep _ (by omega) (by omega)).trans hI.err, ⟨u, (keep _ (by omega) (by omega)).trans hu⟩, (hI.below.trans (HB1.out.mono (by omega))).trans hb4, ?_⟩⟩
      · intro y hy
        rcases List.mem_append.1 hy with h | h
        · exact hI.ok y h
        · rw [List.mem_singleton.1 h]; exact HF.out
      · have o4 := owns_other hown' _ _ (by decide) hv3 (.slice (some ⟨g', 0, none⟩) (pre.length + 1) cap')
        have e1 : (pre ++ [x]).length = pre.length + 1 := by simp
        have e2 : ((pre ++ [x]).map numOf).map (Value.int .i64) = (pre.map numOf).map (Value.int .i64) ++ [.int .i64 (numOf x)] := by simp
        rw [e1, e2]
        exact o4
      · exact Nat.le_trans (Nat.le_trans q1 q2) hk4.size
    · have HN := hid (number_no x.1 W x.2 hmW hf)
      have HF := hid hf
      clear hf hmW
      gi_wp2_with (refine ⟨trivial, ?_⟩; gi_at_call 99; refine (CallsIn.inRound l (callsIn_wide.2 HN.out)).mono ?_; rintro e w1 ⟨k, rfl, hb⟩; have r1 := box_step hI.res hb; have r2 := box_step hI.err hb; have c1 := r1.cell; have c2 := r1.frozen; have c3 := r2.cell; have c4 := r2.frozen; have HB1 := hid hb; clear hb)
      have hB1 := HB1.out
      have q1 := hI.below.size
      refine ⟨((keeps_below hB1).trans ((KeepsOthers.setCell _ _ _).from _)).trans ((KeepsOthers.setCell _ _ _).from _), ⟨⟨x, by simp, HF.out⟩, (r1.set _).other (by omega) _, ⟨k, (r2.other (by omega) _).set _⟩, (((hI.below.trans (hB1.mono q1)).setCell (p := ⟨w.heap.size, 0, none⟩) (Nat.le_refl _) _).setCell (p := ⟨w.heap.size + 1, 0, none⟩) (by simp only []; omega) _)⟩⟩
  case done =>
    rintro D xs W hD hS hI hK
    obtain ⟨h1, h2⟩ := nums_all hS hI.ok
    obtain ⟨v, hv, ho⟩ := hI.row
    have H1 := hid h1
    have H2 := hid h2
    clear h1 h2
    obtain ⟨a, cap, rfl⟩ := owns_slice ho
    have c1 := hv.cell
    have c2 := hI.res.cell
    have c3 := hI.res.frozen
    have c4 := hI.err.cell
    have c5 := hI.err.frozen
    gi_wp2
    have hK' := ((KeepsOthers.setCell W ⟨w.heap.size, 0, none⟩ (.slice a xs.length cap)).trans (KeepsOthers.setCell _ ⟨w.heap.size + 1, 0, none⟩ .nilIface)).same D _ hK rfl
    have o3 := ownsRow_putObj (owns_other (owns_other ho _ _ (by decide) hI.res (.slice a xs.length cap)) _ _ (by decide) (hI.err.other (B' := w.heap.size) (by omega) _) .nilIface) (.deferred none) hK' rfl
    have hl3 := owns_low (by simpa using o3 : World.ownsRow _ (w.heap.size + 6) 3 1 (.slice a xs.length cap) (xs.map numOf).length ((xs.map numOf).map (Value.int .i64))) (b' := w.heap.size) (by omega)
    have s3 := box_own ((hI.res.set (.slice a xs.length cap)).other (B' := w.heap.size + 1) (by omega) .nilIface) (grownBy_putObj' _ D (.deferred none)) (fun r e => by cases e; exact ⟨_, hK', rfl⟩)
    have s4 := box_own ((hI.err.other (B' := w.heap.size) (by omega) (.slice a xs.length cap)).set .nilIface) (grownBy_putObj' _ D (.deferred none)) (fun r e => by cases e; exact ⟨_, hK', rfl⟩)
    have d1 := s3.cell
    have d2 := s4.cell
    refine ⟨by simp, .inl ⟨_, _, rfl, run_takeDeferred hK', ?_⟩⟩
    refine ⟨.tuple #[.slice a xs.length cap, .nilIface], ?_, ((hI.below.setCell (p := ⟨w.heap.size, 0, none⟩) (Nat.le_refl _) _).setCell (p := ⟨w.heap.size + 1, 0, none⟩) (by simp only []; omega) _).trans (belowK_b (w := w) (Nat.le_refl _) _ D _ _ (by omega) hK' rfl rfl), fun _ => ⟨_, rfl, ?_⟩, fun h => ?_⟩
    · simp [results, Tryz.f111, go_sem, d1, d2]
    · rw [H2.out]; exact hl3
    · rw [H1.out] at h; cases h
  case stop =>
    rintro D xs W hD ⟨r, hr⟩ hI hK
    have HN := hid (nums_not hr hI.no)
    obtain ⟨k, hk⟩ := hI.err
    gi_wp2
    refine ⟨by simp, .inl ⟨_, _, rfl, run_takeDeferred hK, ?_⟩⟩
    have s3 := box_own hI.res (grownBy_putObj' _ D (.deferred none)) (fun r e => by cases e; exact ⟨_, hK, rfl⟩)
    have s4 := box_own hk (grownBy_putObj' _ D (.deferred none)) (fun r e => by cases e; exact ⟨_, hK, rfl⟩)
    have d1 := s3.cell
    have d2 := s4.cell
    refine ⟨.tuple #[.slice none 0 0, unV k], ?_, hI.below.trans (belowK_b (w := w) (Nat.le_refl _) _ D _ _ (by omega) hK rfl rfl), fun h => ?_, fun _ => ⟨k, rfl⟩⟩
    · simp [results, Tryz.f111, go_sem, d1, d2]
    · rw [HN.out] at h; cases h
end Go.Proofs.YtkfalmdckmlneaaGreatDoor
