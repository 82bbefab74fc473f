/-
  The loops of 'spanlaw3.LogKeeps', and what is carried through them.
-/
import Derived.Test.YthgehlonjoafmaaDoorLk
import Derived.Test.YthgehlonjoafmaaDoorLkeep
import Derived.LoopTactic
import Derived.Deep.CutRange
namespace Go.Proofs.YthgehlonjoafmaaDoor.LgKeeps
set_option linter.unusedSimpArgs false
open Go.RowKit

/-- The loops of a code that lie in no other loop. -/
def loopsOf : Code → List Code
  | .loop c => [c]
  | .seq a b => loopsOf a ++ loopsOf b
  | .block _ c => loopsOf c
  | .scope c => loopsOf c
  | .cond _ a b => loopsOf a ++ loopsOf b
  | _ => []
def IsOuter (B : Code) : Prop := (Tryd.f5.body.bind fun c => (loopsOf c)[0]?) = some B
def IsInner (i : Nat) (B : Code) : Prop := ((Tryd.f5.body.bind fun c => (loopsOf c)[0]?).bind fun c => (loopsOf c)[i]?) = some B
/-- A statement by its test's slot, and a region by its number. -/
def condsOf (t : Nat) : Code → List Code
  | .cond (.tmp i) a b => if i = t then [.cond (.tmp i) a b] else condsOf t a ++ condsOf t b
  | .cond _ a b => condsOf t a ++ condsOf t b
  | .seq a b => condsOf t a ++ condsOf t b
  | .block _ c => condsOf t c
  | .scope c => condsOf t c
  | .loop c => condsOf t c
  | _ => []
def regionsOf (k : Nat) : Code → List Code
  | .region i ops dr => if i = k then [.region i ops dr] else []
  | .cond _ a b => regionsOf k a ++ regionsOf k b
  | .seq a b => regionsOf k a ++ regionsOf k b
  | .block _ c => regionsOf k c
  | .scope c => regionsOf k c
  | .loop c => regionsOf k c
  | _ => []
def IsCond (t : Nat) (C : Code) : Prop := (Tryd.f5.body.bind fun c => (condsOf t c)[0]?) = some C
def IsRegion (k : Nat) (C : Code) : Prop := (Tryd.f5.body.bind fun c => (regionsOf k c)[0]?) = some C
/-- A Log of n sides, its boxes as the law knows them, and where their records end. -/
structure Kz (w wr : World) (p n : Nat) (dv mv : Value) (s : Um.LogS) : Prop where
  ky : Ky w wr p dv mv s.done (Um.marksN (1 + 8 * n) s.done.length) s
  sides : s.sides = n
theorem Kz.step {w wr w' : World} {p n : Nat} {dv mv : Value} {s : Um.LogS} (h : Kz w wr p n dv mv s) (hb : Below wr.heap.size wr w') : Kz w w' p n dv mv s := ⟨h.ky.step hb, h.sides⟩
theorem Kz.len {w wr : World} {p n : Nat} {dv mv : Value} {s : Um.LogS} (h : Kz w wr p n dv mv s) : s.len = 1 + 8 * n := by unfold Um.LogS.len; rw [h.sides]
theorem Kz.ok {w wr : World} {p n : Nat} {dv mv : Value} {s : Um.LogS} (h : Kz w wr p n dv mv s) : s.Ok := h.ky.ok
end Go.Proofs.YthgehlonjoafmaaDoor.LgKeeps
