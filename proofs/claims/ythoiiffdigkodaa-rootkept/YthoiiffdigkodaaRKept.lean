/-
  The walk over 'spanlaw1.RootKept': for all p, x, least, n it returns true.
-/
import Derived.Test.YthoiiffdigkodaaRootF
import Derived.Test.YthoiiffdigkodaaRefVal
import Derived.Deep.CutRange
namespace Go.Proofs.Ythoiiffdigkodaa.RKept
set_option linter.unusedSimpArgs false
open Go.RowKit

theorem fr_drew {w wr : World} {l : List (Nat × Int × Int)} (h : Fr w wr l) (q : Nat) : Fr w (wr.drewN q) l := h.step (below_drewN (Below.refl _ _) q)
theorem vb {a b : Bool} (h : a = b) : Value.bool a = .bool b := by rw [h]

set_option maxRecDepth 100000 in
set_option maxHeartbeats 8000000 in
theorem walk_err (p : List Int) (v : Value) (lo hi least n : Int) (w : World) (hl : Li w.heap.size w v p) (h : ¬ (Um.monoAll p lo hi).2.2 = 0) :
    Calls Try.prog 5 #[v, .agg #[.int .i64 lo, .int .i64 hi], .int .i64 least, .int .i64 n] w fun e w' => e = .returned (.bool true) ∧ Below w.heap.size w w' := by
  have v0 := errV_none
  have q1 := errG
  have q2 := errGn
  have q3 := errE
  have q4 := errN
  have HF0 := fun v w hl => hid (find_any [-2000, 1000] v 0 8000 1000 w hl)
  rw [Um.find_fact] at HF0
  have HM := fun w hl => hid (may_any p v lo hi w hl)
  have k : ((Um.monoAll p lo hi).2.2 != 0) = true := by simpa using h
  clear h
  generalize Um.monoAll p lo hi = M at *
  generalize Um.mayB p lo hi = Y at *
  have hF := (Fr.start w).push lo hi rfl
  obtain ⟨ap, capp, rfl, -⟩ := (id hl)
  go_enter Try.func5, Try.ntmps5
  go_wp2_with (first | (go_at_call 13; refine (HF0 _ _ (Li.lit (p := [-2000, 1000]) (by simp) two_cells)).out.mono ?_; rintro e wn ⟨u, rfl, hs, hb⟩; replace hF := (hF.alloc _).step hb; clear hb; clear HF0; obtain ⟨b0, off0, cap0, rfl, hcap0, hA0⟩ := hs.open (by simp); clear hs; have z0 := hA0.lo 0 rfl (o := off0) rfl; have z1 := hA0.hi 0 rfl (o := off0 + 1) rfl; have x0l := (hF.at 0 rfl).lo; have x0h := (hF.at 0 rfl).hi) | (go_at_call 14; refine (HM _ (hF.li hl)).out.mono ?_; rintro e wn ⟨rfl, hb⟩; replace hF := hF.step hb; clear hb; clear z0 z1; clear x0l x0h; have x0l := (hF.at 0 rfl).lo; have x0h := (hF.at 0 rfl).hi))
  go_returns
  exact ⟨rfl, hF.below⟩

set_option maxRecDepth 100000 in
set_option maxHeartbeats 8000000 in
theorem walk_false_err (p : List Int) (v : Value) (lo hi least n : Int) (w : World) (hl : Li w.heap.size w v p) (h : (Um.monoAll p lo hi).2.2 = 0) (hR : ¬ (Um.findAll p lo hi least).2 = 0) (hnb : false = (Um.small p n && (decide (lo ≤ n) && (decide (n ≤ hi) && (Um.exN n p p.length == 0))))) :
    Calls Try.prog 5 #[v, .agg #[.int .i64 lo, .int .i64 hi], .int .i64 least, .int .i64 n] w fun e w' => e = .returned (.bool true) ∧ Below w.heap.size w w' := by
  have v0 := errV_none
  have q1 := errG
  have q2 := errGn
  have q3 := errE
  have q4 := errN
  have HF0 := fun v w hl => hid (find_any [-2000, 1000] v 0 8000 1000 w hl)
  rw [Um.find_fact] at HF0
  have HM := fun w hl => hid (may_any p v lo hi w hl)
  have HS := fun w hl => hid (rSmall_any p v n w hl)
  have HF := fun w hl => hid (find_any p v lo hi least w hl)
  have HU := fun w hl => hid (sure_any p v lo hi w hl)
  have HI0 := hid trivial
  have HE := fun s w hl => hid (rExact_any p v n w hl s)
  have HNB := hid hnb
  have HR0 := hid trivial
  have kR : ((Um.findAll p lo hi least).2 != 0) = true := by simpa using hR
  clear hR
  have k : ((Um.monoAll p lo hi).2.2 != 0) = false := by simpa using h
  clear h hnb
  generalize Um.small p n = Sm at *
  generalize Um.monoAll p lo hi = M at *
  generalize Um.mayB p lo hi = Y at *
  generalize Um.sureB p lo hi = Z at *
  generalize Um.findAll p lo hi least = R at *
  have hF := (Fr.start w).push lo hi rfl
  obtain ⟨ap, capp, rfl, -⟩ := (id hl)
  go_enter Try.func5, Try.ntmps5
  go_upto_region 8 with (first | (go_at_call 13; refine (HF0 _ _ (Li.lit (p := [-2000, 1000]) (by simp) two_cells)).out.mono ?_; rintro e wn ⟨u, rfl, hs, hb⟩; replace hF := (hF.alloc _).step hb; clear hb; clear HF0; obtain ⟨b0, off0, cap0, rfl, hcap0, hA0⟩ := hs.open (by simp); clear hs; have z0 := hA0.lo 0 rfl (o := off0) rfl; have z1 := hA0.hi 0 rfl (o := off0 + 1) rfl; have x0l := (hF.at 0 rfl).lo; have x0h := (hF.at 0 rfl).hi) | (go_at_call 14; refine (HM _ (hF.li hl)).out.mono ?_; rintro e wn ⟨rfl, hb⟩; replace hF := hF.step hb; clear hb; clear z0 z1; clear x0l x0h; have x0l := (hF.at 0 rfl).lo; have x0h := (hF.at 0 rfl).hi) | (go_at_call 8; refine (HS _ (hF.li hl)).out.mono ?_; rintro e wn ⟨rfl, rfl⟩))
  go_cut [14] from 58 to 76 (fun v wr => v = .bool false ∧ Fr w wr [(w.heap.size, lo, hi)])
  case first =>
    clear HF HU HI0 HM
    try clear HR0
    try clear HNQ
    cases Sm
    · go_wp2
      go_meet
      case rel => exact ⟨rfl, hF⟩
    · replace HE := fun w hl => HE rfl w hl
      by_cases n1 : lo ≤ n
      · have t1 : decide (lo ≤ n) = true := by simpa using n1
        rw [t1] at HNB
        by_cases n2 : n ≤ hi
        · have t2 : decide (n ≤ hi) = true := by simpa using n2
          rw [t2] at HNB
          clear n1 n2
          generalize Um.exN n p p.length = E at *
          have HNE2 : Hid ((E == 0) = false) := HNB.out.symm
          go_wp2_with (go_at_call 15; refine (HE _ (hF.li hl)).out.mono ?_; rintro e wn ⟨rfl, rfl⟩)
          go_meet
          case rel => exact ⟨vb HNE2.out, hF⟩
        · have t2 : decide (n ≤ hi) = false := by simpa using n2
          rw [t2] at HNB
          clear n1 n2 HE
          go_wp2
          go_meet
          case rel => exact ⟨rfl, hF⟩
      · have t1 : decide (lo ≤ n) = false := by simpa using n1
        rw [t1] at HNB
        clear n1 HE
        go_wp2
        go_meet
        case rel => exact ⟨rfl, hF⟩
  case rest =>
    clear hF x0l x0h HE
    obtain ⟨rfl, hF⟩ := hcut
    have x0l := (hF.at 0 rfl).lo
    have x0h := (hF.at 0 rfl).hi
    clear HNB
    skip
    clear HR0 HI0 HU
    go_wp2_with (go_at_call 13; refine (HF _ (hF.li hl)).out.mono ?_; rintro e wn ⟨u, rfl, hs, hb⟩; replace hF := hF.step hb; clear hb; clear HF; clear x0l x0h; obtain ⟨a1, cap1, rfl, -⟩ := (id hs); have x0l := (hF.at 0 rfl).lo; have x0h := (hF.at 0 rfl).hi)
    go_returns
    exact ⟨rfl, hF.below⟩

set_option maxRecDepth 100000 in
set_option maxHeartbeats 8000000 in
theorem walk_false_empty (p : List Int) (v : Value) (lo hi least n : Int) (w : World) (hl : Li w.heap.size w v p) (h : (Um.monoAll p lo hi).2.2 = 0) (hR : (Um.findAll p lo hi least).2 = 0) (h0 : (Um.findAll p lo hi least).1.length = 0) (hnb : false = (Um.small p n && (decide (lo ≤ n) && (decide (n ≤ hi) && (Um.exN n p p.length == 0))))) :
    Calls Try.prog 5 #[v, .agg #[.int .i64 lo, .int .i64 hi], .int .i64 least, .int .i64 n] w fun e w' => e = .returned (.bool true) ∧ Below w.heap.size w w' := by
  have v0 := errV_none
  have q1 := errG
  have q2 := errGn
  have q3 := errE
  have q4 := errN
  have HF0 := fun v w hl => hid (find_any [-2000, 1000] v 0 8000 1000 w hl)
  rw [Um.find_fact] at HF0
  have HM := fun w hl => hid (may_any p v lo hi w hl)
  have HS := fun w hl => hid (rSmall_any p v n w hl)
  have HF := fun w hl => hid (find_any p v lo hi least w hl)
  have HU := fun w hl => hid (sure_any p v lo hi w hl)
  have HI0 := fun h1 h2 h3 => hid (Um.nought_in (p := p) (lo := lo) (hi := hi) (least := least) (n := n) hR h1 h2 h3)
  have HE := fun s w hl => hid (rExact_any p v n w hl s)
  have HNB := hid hnb
  have HR0 := hid (Um.find_row hR)
  have H32 := Um.find_most p lo hi least
  have kR : ((Um.findAll p lo hi least).2 != 0) = false := by simpa using hR
  have hZ : Um.sureB p lo hi = false := by
    cases e : Um.sureB p lo hi
    · rfl
    · have := Um.sure_some hR e; omega
  rw [hZ] at HU
  clear hZ hR
  have k : ((Um.monoAll p lo hi).2.2 != 0) = false := by simpa using h
  clear h hnb
  generalize Um.small p n = Sm at *
  generalize Um.monoAll p lo hi = M at *
  generalize Um.mayB p lo hi = Y at *
  generalize Um.findAll p lo hi least = R at *
  have hF := (Fr.start w).push lo hi rfl
  obtain ⟨ap, capp, rfl, -⟩ := (id hl)
  go_enter Try.func5, Try.ntmps5
  go_upto_region 8 with (first | (go_at_call 13; refine (HF0 _ _ (Li.lit (p := [-2000, 1000]) (by simp) two_cells)).out.mono ?_; rintro e wn ⟨u, rfl, hs, hb⟩; replace hF := (hF.alloc _).step hb; clear hb; clear HF0; obtain ⟨b0, off0, cap0, rfl, hcap0, hA0⟩ := hs.open (by simp); clear hs; have z0 := hA0.lo 0 rfl (o := off0) rfl; have z1 := hA0.hi 0 rfl (o := off0 + 1) rfl; have x0l := (hF.at 0 rfl).lo; have x0h := (hF.at 0 rfl).hi) | (go_at_call 14; refine (HM _ (hF.li hl)).out.mono ?_; rintro e wn ⟨rfl, hb⟩; replace hF := hF.step hb; clear hb; clear z0 z1; clear x0l x0h; have x0l := (hF.at 0 rfl).lo; have x0h := (hF.at 0 rfl).hi) | (go_at_call 8; refine (HS _ (hF.li hl)).out.mono ?_; rintro e wn ⟨rfl, rfl⟩))
  go_cut [14] from 58 to 76 (fun v wr => v = .bool false ∧ Fr w wr [(w.heap.size, lo, hi)])
  case first =>
    clear HF HU HI0 HM
    try clear HR0
    try clear HNQ
    cases Sm
    · go_wp2
      go_meet
      case rel => exact ⟨rfl, hF⟩
    · replace HE := fun w hl => HE rfl w hl
      by_cases n1 : lo ≤ n
      · have t1 : decide (lo ≤ n) = true := by simpa using n1
        rw [t1] at HNB
        by_cases n2 : n ≤ hi
        · have t2 : decide (n ≤ hi) = true := by simpa using n2
          rw [t2] at HNB
          clear n1 n2
          generalize Um.exN n p p.length = E at *
          have HNE2 : Hid ((E == 0) = false) := HNB.out.symm
          go_wp2_with (go_at_call 15; refine (HE _ (hF.li hl)).out.mono ?_; rintro e wn ⟨rfl, rfl⟩)
          go_meet
          case rel => exact ⟨vb HNE2.out, hF⟩
        · have t2 : decide (n ≤ hi) = false := by simpa using n2
          rw [t2] at HNB
          clear n1 n2 HE
          go_wp2
          go_meet
          case rel => exact ⟨rfl, hF⟩
      · have t1 : decide (lo ≤ n) = false := by simpa using n1
        rw [t1] at HNB
        clear n1 HE
        go_wp2
        go_meet
        case rel => exact ⟨rfl, hF⟩
  case rest =>
    clear hF x0l x0h HE
    obtain ⟨rfl, hF⟩ := hcut
    have x0l := (hF.at 0 rfl).lo
    have x0h := (hF.at 0 rfl).hi
    clear HNB
    skip
    clear HR0 HI0
    cases Y
    · go_wp2_with (go_at_call 13; refine (HF _ (hF.li hl)).out.mono ?_; rintro e wn ⟨u, rfl, hs, hb⟩; replace hF := hF.step hb; clear hb; clear HF; clear x0l x0h; obtain ⟨a1, cap1, rfl, -⟩ := (id hs); rw [h0] at *; have x0l := (hF.at 0 rfl).lo; have x0h := (hF.at 0 rfl).hi)
      refine wp_loop_rounds 1 ?_
      rw [rounds_succ]
      go_wp2_with (go_at_call 16; refine (HU _ (hF.li hl)).out.mono ?_; rintro e wn ⟨rfl, hb⟩; replace hF := hF.step hb; clear hb; clear HU)
      go_returns
      exact ⟨rfl, hF.below⟩
    · go_wp2_with (go_at_call 13; refine (HF _ (hF.li hl)).out.mono ?_; rintro e wn ⟨u, rfl, hs, hb⟩; replace hF := hF.step hb; clear hb; clear HF; clear x0l x0h; obtain ⟨a1, cap1, rfl, -⟩ := (id hs); rw [h0] at *; have x0l := (hF.at 0 rfl).lo; have x0h := (hF.at 0 rfl).hi)
      refine wp_loop_rounds 1 ?_
      rw [rounds_succ]
      go_wp2_with (go_at_call 16; refine (HU _ (hF.li hl)).out.mono ?_; rintro e wn ⟨rfl, hb⟩; replace hF := hF.step hb; clear hb; clear HU)
      go_returns
      exact ⟨rfl, hF.below⟩

set_option maxRecDepth 100000 in
set_option maxHeartbeats 8000000 in
theorem walk_false_some (p : List Int) (v : Value) (lo hi least n : Int) (w : World) (hl : Li w.heap.size w v p) (h : (Um.monoAll p lo hi).2.2 = 0) (hR : (Um.findAll p lo hi least).2 = 0) (h0 : ¬ (Um.findAll p lo hi least).1.length = 0) (hnb : false = (Um.small p n && (decide (lo ≤ n) && (decide (n ≤ hi) && (Um.exN n p p.length == 0))))) :
    Calls Try.prog 5 #[v, .agg #[.int .i64 lo, .int .i64 hi], .int .i64 least, .int .i64 n] w fun e w' => e = .returned (.bool true) ∧ Below w.heap.size w w' := by
  have v0 := errV_none
  have q1 := errG
  have q2 := errGn
  have q3 := errE
  have q4 := errN
  have HF0 := fun v w hl => hid (find_any [-2000, 1000] v 0 8000 1000 w hl)
  rw [Um.find_fact] at HF0
  have HM := fun w hl => hid (may_any p v lo hi w hl)
  have HS := fun w hl => hid (rSmall_any p v n w hl)
  have HF := fun w hl => hid (find_any p v lo hi least w hl)
  have HU := fun w hl => hid (sure_any p v lo hi w hl)
  have HI0 := fun h1 h2 h3 => hid (Um.nought_in (p := p) (lo := lo) (hi := hi) (least := least) (n := n) hR h1 h2 h3)
  have HE := fun s w hl => hid (rExact_any p v n w hl s)
  have HNB := hid hnb
  have HR0 := hid (Um.find_row hR)
  have H32 := Um.find_most p lo hi least
  have kR : ((Um.findAll p lo hi least).2 != 0) = false := by simpa using hR
  have hY : Um.mayB p lo hi = true := by
    cases e : Um.mayB p lo hi
    · have := Um.may_none h hR e; omega
    · rfl
  rw [hY] at HM
  have HNE : Hid ((Um.findAll p lo hi least).1 ≠ []) := fun e => h0 (by rw [e]; rfl)
  obtain ⟨bl1, bh2⟩ : -1000000000 ≤ lo ∧ hi ≤ 1000000000 := by
    obtain ⟨m1, m2, -⟩ := Um.chk_ok.1 (Um.over_ok.1 (Um.find_some hR).1).2
    exact ⟨((Um.may_iff _).1 m1).1, ((Um.may_iff _).1 m2).2⟩
  clear hR
  have k : ((Um.monoAll p lo hi).2.2 != 0) = false := by simpa using h
  clear h hnb
  clear hY
  generalize Um.small p n = Sm at *
  generalize Um.monoAll p lo hi = M at *
  generalize Um.sureB p lo hi = Z at *
  generalize Um.findAll p lo hi least = R at *
  have hF := (Fr.start w).push lo hi rfl
  obtain ⟨ap, capp, rfl, -⟩ := (id hl)
  go_enter Try.func5, Try.ntmps5
  go_upto_region 8 with (first | (go_at_call 13; refine (HF0 _ _ (Li.lit (p := [-2000, 1000]) (by simp) two_cells)).out.mono ?_; rintro e wn ⟨u, rfl, hs, hb⟩; replace hF := (hF.alloc _).step hb; clear hb; clear HF0; obtain ⟨b0, off0, cap0, rfl, hcap0, hA0⟩ := hs.open (by simp); clear hs; have z0 := hA0.lo 0 rfl (o := off0) rfl; have z1 := hA0.hi 0 rfl (o := off0 + 1) rfl; have x0l := (hF.at 0 rfl).lo; have x0h := (hF.at 0 rfl).hi) | (go_at_call 14; refine (HM _ (hF.li hl)).out.mono ?_; rintro e wn ⟨rfl, hb⟩; replace hF := hF.step hb; clear hb; clear z0 z1; clear x0l x0h; have x0l := (hF.at 0 rfl).lo; have x0h := (hF.at 0 rfl).hi) | (go_at_call 8; refine (HS _ (hF.li hl)).out.mono ?_; rintro e wn ⟨rfl, rfl⟩))
  go_cut [14] from 58 to 76 (fun v wr => v = .bool false ∧ Fr w wr [(w.heap.size, lo, hi)])
  case first =>
    clear HF HU HI0 HM
    try clear HR0
    try clear HNQ
    cases Sm
    · go_wp2
      go_meet
      case rel => exact ⟨rfl, hF⟩
    · replace HE := fun w hl => HE rfl w hl
      by_cases n1 : lo ≤ n
      · have t1 : decide (lo ≤ n) = true := by simpa using n1
        rw [t1] at HNB
        by_cases n2 : n ≤ hi
        · have t2 : decide (n ≤ hi) = true := by simpa using n2
          rw [t2] at HNB
          clear n1 n2
          generalize Um.exN n p p.length = E at *
          have HNE2 : Hid ((E == 0) = false) := HNB.out.symm
          go_wp2_with (go_at_call 15; refine (HE _ (hF.li hl)).out.mono ?_; rintro e wn ⟨rfl, rfl⟩)
          go_meet
          case rel => exact ⟨vb HNE2.out, hF⟩
        · have t2 : decide (n ≤ hi) = false := by simpa using n2
          rw [t2] at HNB
          clear n1 n2 HE
          go_wp2
          go_meet
          case rel => exact ⟨rfl, hF⟩
      · have t1 : decide (lo ≤ n) = false := by simpa using n1
        rw [t1] at HNB
        clear n1 HE
        go_wp2
        go_meet
        case rel => exact ⟨rfl, hF⟩
  case rest =>
    clear hF x0l x0h HE
    obtain ⟨rfl, hF⟩ := hcut
    have x0l := (hF.at 0 rfl).lo
    have x0h := (hF.at 0 rfl).hi
    clear HNB
    skip
    skip
    clear HI0
    go_wp2_with (go_at_call 13; refine (HF _ (hF.li hl)).out.mono ?_; rintro e wn ⟨u, rfl, hs, hb⟩; replace hF := hF.step hb; clear hb; clear HF; clear x0l x0h; obtain ⟨b1, off1, cap1, rfl, hcap1, hA⟩ := hs.open HNE.out; clear hs HNE)
    go_loopw [16, 17] (fun u i wr => ∃ k : Nat, k ≤ R.1.length ∧ i = .int .i64 k ∧ u = .bool (Um.inL R.1 n k) ∧ Fr w wr [(w.heap.size, lo, hi)] ∧ LsAt wr b1 off1 R.1) (fun _ i _ => R.1.length - (intOf i).toNat)
    case atStart => exact ⟨0, Nat.zero_le _, rfl, rfl, hF, hA⟩
    case round =>
      clear hF hA
      obtain ⟨k, hk, rfl, rfl, hF, hA⟩ := hrel
      by_cases hkl : k < R.1.length
      · have HF2 := hid hF
        have HL := hid hA
        have HB := hid (Um.inL_succ R.1 n k)
        have x0l := (hF.at 0 rfl).lo
        have x0h := (hF.at 0 rfl).hi
        have hkk : (k : Int) < (R.1.length : Int) := by omega
        obtain ⟨⟨C0, C1⟩, hs⟩ : ∃ s, R.1[k]? = some s := ⟨_, List.getElem?_eq_getElem hkl⟩
        have e : R.1[k]?.getD (0, 0) = (C0, C1) := by rw [hs]; rfl
        rw [e] at HB
        obtain ⟨g1, g2, g3, g4⟩ := HR0.out.1 k _ hs
        simp only at g1 g2 g3 g4 HB
        have t1 : decide (C0 < lo) = false := decide_eq_false (by omega)
        have t2 : decide (hi < C1) = false := decide_eq_false (by omega)
        have t3 : decide (C1 < C0) = false := decide_eq_false (by omega)
        have t4 : decide (least < C1 - C0) = false := decide_eq_false (by omega)
        have w1 : IntKind.i64.wrap (C1 - C0) = C1 - C0 := by rw [IntKind.wrap_i64]; omega
        by_cases hk0 : k = 0
        · subst hk0
          have z0 : wr.cell? ⟨b1, off1, none⟩ = some (.int .i64 C0) := hA.lo 0 hs rfl
          have z1 : wr.cell? ⟨b1, off1 + 1, none⟩ = some (.int .i64 C1) := hA.hi 0 hs rfl
          have e0 : Um.inL R.1 n 0 = false := rfl
          rw [e0] at HB ⊢
          clear hF hA HR0 e0 e g1 g2 g3 g4 hs HU
          go_wp2
          go_quiet (fail)
          by_cases u1 : C0 ≤ n
          · have t6 : decide (C0 ≤ n) = true := by simpa using u1
            have t7 : decide (n < C0) = false := by simpa using u1
            by_cases u2 : n ≤ C1
            · have t8 : decide (n ≤ C1) = true := by simpa using u2
              have t9 : decide (C1 < n) = false := by simpa using u2
              rw [t6, t8] at HB
              clear u1 u2
              go_wp2
              exact ⟨⟨0 + 1, by omega, by simp, by first | (rw [HB.out]; done) | (rw [HB.out]; simp), fr_drew HF2.out _, HL.out.drewN _⟩, by simp [intOf] <;> omega⟩
            · have t8 : decide (n ≤ C1) = false := by simpa using u2
              have t9 : decide (C1 < n) = true := by simpa using u2
              rw [t6, t8] at HB
              clear u1 u2
              go_wp2
              exact ⟨⟨0 + 1, by omega, by simp, by first | (rw [HB.out]; done) | (rw [HB.out]; simp), fr_drew HF2.out _, HL.out.drewN _⟩, by simp [intOf] <;> omega⟩
          · have t6 : decide (C0 ≤ n) = false := by simpa using u1
            have t7 : decide (n < C0) = true := by simpa using u1
            rw [t6] at HB
            clear u1
            go_wp2
            exact ⟨⟨0 + 1, by omega, by simp, by first | (rw [HB.out]; done) | (rw [HB.out]; simp), fr_drew HF2.out _, HL.out.drewN _⟩, by simp [intOf] <;> omega⟩
        · obtain ⟨j, rfl⟩ : ∃ j, k = j + 1 := ⟨k - 1, by omega⟩
          obtain ⟨⟨T0, T1⟩, ht⟩ : ∃ s, R.1[j]? = some s := ⟨_, List.getElem?_eq_getElem (by omega)⟩
          have z0 := hA.lo (j + 1) hs rfl
          have z1 := hA.hi (j + 1) hs rfl
          have z2 := hA.hi j ht rfl
          have g5 := HR0.out.2 j _ _ ht hs
          simp only at g5 z0 z1 z2
          have t5 : decide (C0 < T1) = false := decide_eq_false (by omega)
          have t0 : decide ((0 : Int) < (j : Int) + 1) = true := decide_eq_true (by omega)
          have w2 : IntKind.i64.wrap ((j : Int) + 1 - 1) = j := by rw [IntKind.wrap_i64]; omega
          clear hF hA HR0 e g1 g2 g3 g4 g5 hs ht HU
          generalize Um.inL R.1 n (j + 1) = H at *
          go_wp2
          go_quiet (fail)
          cases H
          · skip
            by_cases u1 : C0 ≤ n
            · have t6 : decide (C0 ≤ n) = true := by simpa using u1
              have t7 : decide (n < C0) = false := by simpa using u1
              by_cases u2 : n ≤ C1
              · have t8 : decide (n ≤ C1) = true := by simpa using u2
                have t9 : decide (C1 < n) = false := by simpa using u2
                rw [t6, t8] at HB
                clear u1 u2
                go_wp2
                exact ⟨⟨(j + 1) + 1, by omega, by simp, by first | (rw [HB.out]; done) | (rw [HB.out]; simp), fr_drew HF2.out _, HL.out.drewN _⟩, by simp [intOf] <;> omega⟩
              · have t8 : decide (n ≤ C1) = false := by simpa using u2
                have t9 : decide (C1 < n) = true := by simpa using u2
                rw [t6, t8] at HB
                clear u1 u2
                go_wp2
                exact ⟨⟨(j + 1) + 1, by omega, by simp, by first | (rw [HB.out]; done) | (rw [HB.out]; simp), fr_drew HF2.out _, HL.out.drewN _⟩, by simp [intOf] <;> omega⟩
            · have t6 : decide (C0 ≤ n) = false := by simpa using u1
              have t7 : decide (n < C0) = true := by simpa using u1
              rw [t6] at HB
              clear u1
              go_wp2
              exact ⟨⟨(j + 1) + 1, by omega, by simp, by first | (rw [HB.out]; done) | (rw [HB.out]; simp), fr_drew HF2.out _, HL.out.drewN _⟩, by simp [intOf] <;> omega⟩
          · rw [Bool.true_or] at HB
            go_wp2
            exact ⟨⟨(j + 1) + 1, by omega, by simp, by first | (rw [HB.out]; done) | (rw [HB.out]; simp), fr_drew HF2.out _, HL.out.drewN _⟩, by simp [intOf] <;> omega⟩
      · obtain rfl : k = R.1.length := by omega
        clear hA HR0
        have tL : decide ((R.1.length : Int) ≤ 32) = true := decide_eq_true (by omega)
        have tP : decide ((0 : Int) < (R.1.length : Int)) = true := decide_eq_true (by omega)
        have tQ : ((R.1.length : Int) == 0) = false := beq_false_of_ne (by omega)
        have x0l := (hF.at 0 rfl).lo
        have x0h := (hF.at 0 rfl).hi
        generalize Um.inL R.1 n R.1.length = I at *
        cases Z
        · go_wp2_with (go_at_call 16; refine (HU _ (hF.li hl)).out.mono ?_; rintro e wn ⟨rfl, hb⟩; replace hF := hF.step hb; clear hb; clear HU)
          go_returns
          exact ⟨rfl, hF.below⟩
        · go_wp2_with (go_at_call 16; refine (HU _ (hF.li hl)).out.mono ?_; rintro e wn ⟨rfl, hb⟩; replace hF := hF.step hb; clear hb; clear HU)
          go_returns
          exact ⟨rfl, hF.below⟩

set_option maxRecDepth 100000 in
set_option maxHeartbeats 8000000 in
theorem walk_true_err (p : List Int) (v : Value) (lo hi least n : Int) (w : World) (hl : Li w.heap.size w v p) (h : (Um.monoAll p lo hi).2.2 = 0) (hR : ¬ (Um.findAll p lo hi least).2 = 0) (hnb : true = (Um.small p n && (decide (lo ≤ n) && (decide (n ≤ hi) && (Um.exN n p p.length == 0))))) :
    Calls Try.prog 5 #[v, .agg #[.int .i64 lo, .int .i64 hi], .int .i64 least, .int .i64 n] w fun e w' => e = .returned (.bool true) ∧ Below w.heap.size w w' := by
  have v0 := errV_none
  have q1 := errG
  have q2 := errGn
  have q3 := errE
  have q4 := errN
  have HF0 := fun v w hl => hid (find_any [-2000, 1000] v 0 8000 1000 w hl)
  rw [Um.find_fact] at HF0
  have HM := fun w hl => hid (may_any p v lo hi w hl)
  have HS := fun w hl => hid (rSmall_any p v n w hl)
  have HF := fun w hl => hid (find_any p v lo hi least w hl)
  have HU := fun w hl => hid (sure_any p v lo hi w hl)
  have HI0 := hid trivial
  have HE := fun s w hl => hid (rExact_any p v n w hl s)
  have HNB := hid hnb
  have HNQ : Hid (lo ≤ n ∧ n ≤ hi ∧ Um.exN n p p.length = 0) := by
    have e := hnb
    simp at e
    exact e.2
  have hY : Um.mayB p lo hi = true := Um.nought_may h HNQ.out.1 HNQ.out.2.1 HNQ.out.2.2
  rw [hY] at HM
  have HR0 := hid trivial
  have kR : ((Um.findAll p lo hi least).2 != 0) = true := by simpa using hR
  clear hR
  have k : ((Um.monoAll p lo hi).2.2 != 0) = false := by simpa using h
  clear h hnb
  clear hY
  generalize Um.small p n = Sm at *
  generalize Um.monoAll p lo hi = M at *
  generalize Um.sureB p lo hi = Z at *
  generalize Um.findAll p lo hi least = R at *
  have hF := (Fr.start w).push lo hi rfl
  obtain ⟨ap, capp, rfl, -⟩ := (id hl)
  go_enter Try.func5, Try.ntmps5
  go_upto_region 8 with (first | (go_at_call 13; refine (HF0 _ _ (Li.lit (p := [-2000, 1000]) (by simp) two_cells)).out.mono ?_; rintro e wn ⟨u, rfl, hs, hb⟩; replace hF := (hF.alloc _).step hb; clear hb; clear HF0; obtain ⟨b0, off0, cap0, rfl, hcap0, hA0⟩ := hs.open (by simp); clear hs; have z0 := hA0.lo 0 rfl (o := off0) rfl; have z1 := hA0.hi 0 rfl (o := off0 + 1) rfl; have x0l := (hF.at 0 rfl).lo; have x0h := (hF.at 0 rfl).hi) | (go_at_call 14; refine (HM _ (hF.li hl)).out.mono ?_; rintro e wn ⟨rfl, hb⟩; replace hF := hF.step hb; clear hb; clear z0 z1; clear x0l x0h; have x0l := (hF.at 0 rfl).lo; have x0h := (hF.at 0 rfl).hi) | (go_at_call 8; refine (HS _ (hF.li hl)).out.mono ?_; rintro e wn ⟨rfl, rfl⟩))
  go_cut [14] from 58 to 76 (fun v wr => v = .bool true ∧ Fr w wr [(w.heap.size, lo, hi)])
  case first =>
    clear HF HU HI0 HM
    try clear HR0
    try clear HNQ
    cases Sm
    · cases HNB.out
    · replace HE := fun w hl => HE rfl w hl
      by_cases n1 : lo ≤ n
      · have t1 : decide (lo ≤ n) = true := by simpa using n1
        rw [t1] at HNB
        by_cases n2 : n ≤ hi
        · have t2 : decide (n ≤ hi) = true := by simpa using n2
          rw [t2] at HNB
          clear n1 n2
          generalize Um.exN n p p.length = E at *
          have HNE2 : Hid ((E == 0) = true) := HNB.out.symm
          go_wp2_with (go_at_call 15; refine (HE _ (hF.li hl)).out.mono ?_; rintro e wn ⟨rfl, rfl⟩)
          go_meet
          case rel => exact ⟨vb HNE2.out, hF⟩
        · have t2 : decide (n ≤ hi) = false := by simpa using n2
          rw [t2] at HNB
          clear n1 n2 HE
          cases HNB.out
      · have t1 : decide (lo ≤ n) = false := by simpa using n1
        rw [t1] at HNB
        clear n1 HE
        cases HNB.out
  case rest =>
    clear hF x0l x0h HE
    obtain ⟨rfl, hF⟩ := hcut
    have x0l := (hF.at 0 rfl).lo
    have x0h := (hF.at 0 rfl).hi
    have HNB : Hid (lo ≤ n ∧ n ≤ hi ∧ Um.exN n p p.length = 0) := HNQ
    clear HNQ
    clear HR0 HI0 HU
    go_wp2_with (go_at_call 13; refine (HF _ (hF.li hl)).out.mono ?_; rintro e wn ⟨u, rfl, hs, hb⟩; replace hF := hF.step hb; clear hb; clear HF; clear x0l x0h; obtain ⟨a1, cap1, rfl, -⟩ := (id hs); have x0l := (hF.at 0 rfl).lo; have x0h := (hF.at 0 rfl).hi)
    go_returns
    exact ⟨rfl, hF.below⟩

set_option maxRecDepth 100000 in
set_option maxHeartbeats 8000000 in
theorem walk_true_some (p : List Int) (v : Value) (lo hi least n : Int) (w : World) (hl : Li w.heap.size w v p) (h : (Um.monoAll p lo hi).2.2 = 0) (hR : (Um.findAll p lo hi least).2 = 0) (h0 : ¬ (Um.findAll p lo hi least).1.length = 0) (hnb : true = (Um.small p n && (decide (lo ≤ n) && (decide (n ≤ hi) && (Um.exN n p p.length == 0))))) :
    Calls Try.prog 5 #[v, .agg #[.int .i64 lo, .int .i64 hi], .int .i64 least, .int .i64 n] w fun e w' => e = .returned (.bool true) ∧ Below w.heap.size w w' := by
  have v0 := errV_none
  have q1 := errG
  have q2 := errGn
  have q3 := errE
  have q4 := errN
  have HF0 := fun v w hl => hid (find_any [-2000, 1000] v 0 8000 1000 w hl)
  rw [Um.find_fact] at HF0
  have HM := fun w hl => hid (may_any p v lo hi w hl)
  have HS := fun w hl => hid (rSmall_any p v n w hl)
  have HF := fun w hl => hid (find_any p v lo hi least w hl)
  have HU := fun w hl => hid (sure_any p v lo hi w hl)
  have HI0 := fun h1 h2 h3 => hid (Um.nought_in (p := p) (lo := lo) (hi := hi) (least := least) (n := n) hR h1 h2 h3)
  have HE := fun s w hl => hid (rExact_any p v n w hl s)
  have HNB := hid hnb
  have HNQ : Hid (lo ≤ n ∧ n ≤ hi ∧ Um.exN n p p.length = 0) := by
    have e := hnb
    simp at e
    exact e.2
  have hY : Um.mayB p lo hi = true := Um.nought_may h HNQ.out.1 HNQ.out.2.1 HNQ.out.2.2
  rw [hY] at HM
  have HR0 := hid (Um.find_row hR)
  have H32 := Um.find_most p lo hi least
  have kR : ((Um.findAll p lo hi least).2 != 0) = false := by simpa using hR
  have HNE : Hid ((Um.findAll p lo hi least).1 ≠ []) := fun e => h0 (by rw [e]; rfl)
  obtain ⟨bl1, bh2⟩ : -1000000000 ≤ lo ∧ hi ≤ 1000000000 := by
    obtain ⟨m1, m2, -⟩ := Um.chk_ok.1 (Um.over_ok.1 (Um.find_some hR).1).2
    exact ⟨((Um.may_iff _).1 m1).1, ((Um.may_iff _).1 m2).2⟩
  clear hR
  have k : ((Um.monoAll p lo hi).2.2 != 0) = false := by simpa using h
  clear h hnb
  clear hY
  generalize Um.small p n = Sm at *
  generalize Um.monoAll p lo hi = M at *
  generalize Um.sureB p lo hi = Z at *
  generalize Um.findAll p lo hi least = R at *
  have hF := (Fr.start w).push lo hi rfl
  obtain ⟨ap, capp, rfl, -⟩ := (id hl)
  go_enter Try.func5, Try.ntmps5
  go_upto_region 8 with (first | (go_at_call 13; refine (HF0 _ _ (Li.lit (p := [-2000, 1000]) (by simp) two_cells)).out.mono ?_; rintro e wn ⟨u, rfl, hs, hb⟩; replace hF := (hF.alloc _).step hb; clear hb; clear HF0; obtain ⟨b0, off0, cap0, rfl, hcap0, hA0⟩ := hs.open (by simp); clear hs; have z0 := hA0.lo 0 rfl (o := off0) rfl; have z1 := hA0.hi 0 rfl (o := off0 + 1) rfl; have x0l := (hF.at 0 rfl).lo; have x0h := (hF.at 0 rfl).hi) | (go_at_call 14; refine (HM _ (hF.li hl)).out.mono ?_; rintro e wn ⟨rfl, hb⟩; replace hF := hF.step hb; clear hb; clear z0 z1; clear x0l x0h; have x0l := (hF.at 0 rfl).lo; have x0h := (hF.at 0 rfl).hi) | (go_at_call 8; refine (HS _ (hF.li hl)).out.mono ?_; rintro e wn ⟨rfl, rfl⟩))
  go_cut [14] from 58 to 76 (fun v wr => v = .bool true ∧ Fr w wr [(w.heap.size, lo, hi)])
  case first =>
    clear HF HU HI0 HM
    try clear HR0
    try clear HNQ
    cases Sm
    · cases HNB.out
    · replace HE := fun w hl => HE rfl w hl
      by_cases n1 : lo ≤ n
      · have t1 : decide (lo ≤ n) = true := by simpa using n1
        rw [t1] at HNB
        by_cases n2 : n ≤ hi
        · have t2 : decide (n ≤ hi) = true := by simpa using n2
          rw [t2] at HNB
          clear n1 n2
          generalize Um.exN n p p.length = E at *
          have HNE2 : Hid ((E == 0) = true) := HNB.out.symm
          go_wp2_with (go_at_call 15; refine (HE _ (hF.li hl)).out.mono ?_; rintro e wn ⟨rfl, rfl⟩)
          go_meet
          case rel => exact ⟨vb HNE2.out, hF⟩
        · have t2 : decide (n ≤ hi) = false := by simpa using n2
          rw [t2] at HNB
          clear n1 n2 HE
          cases HNB.out
      · have t1 : decide (lo ≤ n) = false := by simpa using n1
        rw [t1] at HNB
        clear n1 HE
        cases HNB.out
  case rest =>
    clear hF x0l x0h HE
    obtain ⟨rfl, hF⟩ := hcut
    have x0l := (hF.at 0 rfl).lo
    have x0h := (hF.at 0 rfl).hi
    have HNB : Hid (lo ≤ n ∧ n ≤ hi ∧ Um.exN n p p.length = 0) := HNQ
    clear HNQ
    have HI := HI0 HNB.out.1 HNB.out.2.1 HNB.out.2.2
    clear HI0
    go_wp2_with (go_at_call 13; refine (HF _ (hF.li hl)).out.mono ?_; rintro e wn ⟨u, rfl, hs, hb⟩; replace hF := hF.step hb; clear hb; clear HF; clear x0l x0h; obtain ⟨b1, off1, cap1, rfl, hcap1, hA⟩ := hs.open HNE.out; clear hs HNE)
    go_loopw [16, 17] (fun u i wr => ∃ k : Nat, k ≤ R.1.length ∧ i = .int .i64 k ∧ u = .bool (Um.inL R.1 n k) ∧ Fr w wr [(w.heap.size, lo, hi)] ∧ LsAt wr b1 off1 R.1) (fun _ i _ => R.1.length - (intOf i).toNat)
    case atStart => exact ⟨0, Nat.zero_le _, rfl, rfl, hF, hA⟩
    case round =>
      clear hF hA
      obtain ⟨k, hk, rfl, rfl, hF, hA⟩ := hrel
      by_cases hkl : k < R.1.length
      · have HF2 := hid hF
        have HL := hid hA
        have HB := hid (Um.inL_succ R.1 n k)
        have x0l := (hF.at 0 rfl).lo
        have x0h := (hF.at 0 rfl).hi
        have hkk : (k : Int) < (R.1.length : Int) := by omega
        obtain ⟨⟨C0, C1⟩, hs⟩ : ∃ s, R.1[k]? = some s := ⟨_, List.getElem?_eq_getElem hkl⟩
        have e : R.1[k]?.getD (0, 0) = (C0, C1) := by rw [hs]; rfl
        rw [e] at HB
        obtain ⟨g1, g2, g3, g4⟩ := HR0.out.1 k _ hs
        simp only at g1 g2 g3 g4 HB
        have t1 : decide (C0 < lo) = false := decide_eq_false (by omega)
        have t2 : decide (hi < C1) = false := decide_eq_false (by omega)
        have t3 : decide (C1 < C0) = false := decide_eq_false (by omega)
        have t4 : decide (least < C1 - C0) = false := decide_eq_false (by omega)
        have w1 : IntKind.i64.wrap (C1 - C0) = C1 - C0 := by rw [IntKind.wrap_i64]; omega
        by_cases hk0 : k = 0
        · subst hk0
          have z0 : wr.cell? ⟨b1, off1, none⟩ = some (.int .i64 C0) := hA.lo 0 hs rfl
          have z1 : wr.cell? ⟨b1, off1 + 1, none⟩ = some (.int .i64 C1) := hA.hi 0 hs rfl
          have e0 : Um.inL R.1 n 0 = false := rfl
          rw [e0] at HB ⊢
          clear hF hA HR0 e0 e g1 g2 g3 g4 hs HU
          go_wp2
          go_quiet (fail)
          by_cases u1 : C0 ≤ n
          · have t6 : decide (C0 ≤ n) = true := by simpa using u1
            have t7 : decide (n < C0) = false := by simpa using u1
            by_cases u2 : n ≤ C1
            · have t8 : decide (n ≤ C1) = true := by simpa using u2
              have t9 : decide (C1 < n) = false := by simpa using u2
              rw [t6, t8] at HB
              clear u1 u2
              go_wp2
              exact ⟨⟨0 + 1, by omega, by simp, by first | (rw [HB.out]; done) | (rw [HB.out]; simp), fr_drew HF2.out _, HL.out.drewN _⟩, by simp [intOf] <;> omega⟩
            · have t8 : decide (n ≤ C1) = false := by simpa using u2
              have t9 : decide (C1 < n) = true := by simpa using u2
              rw [t6, t8] at HB
              clear u1 u2
              go_wp2
              exact ⟨⟨0 + 1, by omega, by simp, by first | (rw [HB.out]; done) | (rw [HB.out]; simp), fr_drew HF2.out _, HL.out.drewN _⟩, by simp [intOf] <;> omega⟩
          · have t6 : decide (C0 ≤ n) = false := by simpa using u1
            have t7 : decide (n < C0) = true := by simpa using u1
            rw [t6] at HB
            clear u1
            go_wp2
            exact ⟨⟨0 + 1, by omega, by simp, by first | (rw [HB.out]; done) | (rw [HB.out]; simp), fr_drew HF2.out _, HL.out.drewN _⟩, by simp [intOf] <;> omega⟩
        · obtain ⟨j, rfl⟩ : ∃ j, k = j + 1 := ⟨k - 1, by omega⟩
          obtain ⟨⟨T0, T1⟩, ht⟩ : ∃ s, R.1[j]? = some s := ⟨_, List.getElem?_eq_getElem (by omega)⟩
          have z0 := hA.lo (j + 1) hs rfl
          have z1 := hA.hi (j + 1) hs rfl
          have z2 := hA.hi j ht rfl
          have g5 := HR0.out.2 j _ _ ht hs
          simp only at g5 z0 z1 z2
          have t5 : decide (C0 < T1) = false := decide_eq_false (by omega)
          have t0 : decide ((0 : Int) < (j : Int) + 1) = true := decide_eq_true (by omega)
          have w2 : IntKind.i64.wrap ((j : Int) + 1 - 1) = j := by rw [IntKind.wrap_i64]; omega
          clear hF hA HR0 e g1 g2 g3 g4 g5 hs ht HU
          generalize Um.inL R.1 n (j + 1) = H at *
          go_wp2
          go_quiet (fail)
          cases H
          · skip
            by_cases u1 : C0 ≤ n
            · have t6 : decide (C0 ≤ n) = true := by simpa using u1
              have t7 : decide (n < C0) = false := by simpa using u1
              by_cases u2 : n ≤ C1
              · have t8 : decide (n ≤ C1) = true := by simpa using u2
                have t9 : decide (C1 < n) = false := by simpa using u2
                rw [t6, t8] at HB
                clear u1 u2
                go_wp2
                exact ⟨⟨(j + 1) + 1, by omega, by simp, by first | (rw [HB.out]; done) | (rw [HB.out]; simp), fr_drew HF2.out _, HL.out.drewN _⟩, by simp [intOf] <;> omega⟩
              · have t8 : decide (n ≤ C1) = false := by simpa using u2
                have t9 : decide (C1 < n) = true := by simpa using u2
                rw [t6, t8] at HB
                clear u1 u2
                go_wp2
                exact ⟨⟨(j + 1) + 1, by omega, by simp, by first | (rw [HB.out]; done) | (rw [HB.out]; simp), fr_drew HF2.out _, HL.out.drewN _⟩, by simp [intOf] <;> omega⟩
            · have t6 : decide (C0 ≤ n) = false := by simpa using u1
              have t7 : decide (n < C0) = true := by simpa using u1
              rw [t6] at HB
              clear u1
              go_wp2
              exact ⟨⟨(j + 1) + 1, by omega, by simp, by first | (rw [HB.out]; done) | (rw [HB.out]; simp), fr_drew HF2.out _, HL.out.drewN _⟩, by simp [intOf] <;> omega⟩
          · rw [Bool.true_or] at HB
            go_wp2
            exact ⟨⟨(j + 1) + 1, by omega, by simp, by first | (rw [HB.out]; done) | (rw [HB.out]; simp), fr_drew HF2.out _, HL.out.drewN _⟩, by simp [intOf] <;> omega⟩
      · obtain rfl : k = R.1.length := by omega
        clear hA HR0
        have tL : decide ((R.1.length : Int) ≤ 32) = true := decide_eq_true (by omega)
        have tP : decide ((0 : Int) < (R.1.length : Int)) = true := decide_eq_true (by omega)
        have tQ : ((R.1.length : Int) == 0) = false := beq_false_of_ne (by omega)
        have x0l := (hF.at 0 rfl).lo
        have x0h := (hF.at 0 rfl).hi
        have hin := HI.out
        rw [hin]
        clear hin HI
        cases Z
        · go_wp2_with (go_at_call 16; refine (HU _ (hF.li hl)).out.mono ?_; rintro e wn ⟨rfl, hb⟩; replace hF := hF.step hb; clear hb; clear HU)
          go_returns
          exact ⟨rfl, hF.below⟩
        · go_wp2_with (go_at_call 16; refine (HU _ (hF.li hl)).out.mono ?_; rintro e wn ⟨rfl, hb⟩; replace hF := hF.step hb; clear hb; clear HU)
          go_returns
          exact ⟨rfl, hF.below⟩

theorem walk (p : List Int) (v : Value) (lo hi least n : Int) (w : World) (hl : Li w.heap.size w v p) :
    Calls Try.prog 5 #[v, .agg #[.int .i64 lo, .int .i64 hi], .int .i64 least, .int .i64 n] w fun e w' => e = .returned (.bool true) ∧ Below w.heap.size w w' := by
  by_cases h : (Um.monoAll p lo hi).2.2 = 0
  · by_cases hR : (Um.findAll p lo hi least).2 = 0
    · by_cases h0 : (Um.findAll p lo hi least).1.length = 0
      · cases hnb : (Um.small p n && (decide (lo ≤ n) && (decide (n ≤ hi) && (Um.exN n p p.length == 0))))
        · exact walk_false_empty p v lo hi least n w hl h hR h0 hnb.symm
        · cases s : Um.small p n
          · rw [s] at hnb; cases hnb
          · rw [s] at hnb
            simp at hnb
            have := Um.nought_in hR hnb.1 hnb.2.1 hnb.2.2
            rw [h0] at this
            cases this
      · cases hnb : (Um.small p n && (decide (lo ≤ n) && (decide (n ≤ hi) && (Um.exN n p p.length == 0))))
        · exact walk_false_some p v lo hi least n w hl h hR h0 hnb.symm
        · exact walk_true_some p v lo hi least n w hl h hR h0 hnb.symm
    · cases hnb : (Um.small p n && (decide (lo ≤ n) && (decide (n ≤ hi) && (Um.exN n p p.length == 0))))
      · exact walk_false_err p v lo hi least n w hl h hR hnb.symm
      · exact walk_true_err p v lo hi least n w hl h hR hnb.symm
  · exact walk_err p v lo hi least n w hl h
end Go.Proofs.Ythoiiffdigkodaa.RKept
