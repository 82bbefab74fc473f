/-
  What package log answers: Bytes, Safe.
-/
import Derived.Test.YthgehlonjoafmaaDoorLogW
namespace Go.Proofs.YthgehlonjoafmaaDoor
set_option linter.unusedSimpArgs false
open Go.RowKit

set_option maxRecDepth 100000 in
set_option maxHeartbeats 8000000 in
theorem lgBytes (base p : Nat) (k : Option Nat) (s : Um.LogS) (w : World) (hL : Lg base w p k s) :
    Calls Tryd.prog 15 #[.pointer (some ⟨p, 0, none⟩)] w fun e w' => e = .returned (.int .i64 (s.bytes.length : Int)) ∧ w' = w := by
  have ve := errV_none
  have q1 := errG
  have q2 := errGn
  have q3 := errE
  have q4 := errN
  obtain ⟨kv, rfl, hb, ho⟩ := (id hL).cells
  have x1 : w.cell? ⟨p, 1, none⟩ = some (kv) := hb.cell 1 rfl
  obtain ⟨ak, ck, rfl⟩ := owns_slice ho
  generalize s.bytes.length = N at *
  go_enter Tryd.func15, Tryd.ntmps15
  go_wp2
  go_returns
  exact ⟨rfl, rfl⟩

set_option maxRecDepth 100000 in
set_option maxHeartbeats 8000000 in
theorem lgSafe (base p : Nat) (k : Option Nat) (s : Um.LogS) (w : World) (hL : Lg base w p k s) :
    Calls Tryd.prog 14 #[.pointer (some ⟨p, 0, none⟩)] w fun e w' => e = .returned (.int .i64 (s.safe : Int)) ∧ w' = w := by
  have ve := errV_none
  have q1 := errG
  have q2 := errGn
  have q3 := errE
  have q4 := errN
  obtain ⟨kv, rfl, hb, ho⟩ := (id hL).cells
  have x2 : w.cell? ⟨p, 2, none⟩ = some (.int .i64 (s.safe : Int)) := hb.cell 2 rfl
  generalize s.safe = N at *
  go_enter Tryd.func14, Tryd.ntmps14
  go_wp2
  go_returns
  exact ⟨rfl, rfl⟩
end Go.Proofs.YthgehlonjoafmaaDoor
