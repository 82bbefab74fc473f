/-
  Pieces of a function's code, taken out of the translation: its loops, a statement by its test's slot, a region by its number.
-/
import Derived.Test.YtkfalmdckmlneaaGreatDoorProg
import Derived.WalkKit
namespace Go.Proofs.YtkfalmdckmlneaaGreatDoor
set_option linter.unusedSimpArgs false

/-- The loops of a code that lie in no other loop. -/
def cdLoops : Code → List Code
  | .loop c => [c]
  | .seq a b => cdLoops a ++ cdLoops b
  | .block _ c => cdLoops c
  | .scope c => cdLoops c
  | .cond _ a b => cdLoops a ++ cdLoops b
  | _ => []
def cdConds (t : Nat) : Code → List Code
  | .cond (.tmp i) a b => if i = t then [.cond (.tmp i) a b] else cdConds t a ++ cdConds t b
  | .cond _ a b => cdConds t a ++ cdConds t b
  | .seq a b => cdConds t a ++ cdConds t b
  | .block _ c => cdConds t c
  | .scope c => cdConds t c
  | .loop c => cdConds t c
  | _ => []
def cdRegions (k : Nat) : Code → List Code
  | .region i ops dr => if i = k then [.region i ops dr] else []
  | .cond _ a b => cdRegions k a ++ cdRegions k b
  | .seq a b => cdRegions k a ++ cdRegions k b
  | .block _ c => cdRegions k c
  | .scope c => cdRegions k c
  | .loop c => cdRegions k c
  | _ => []
/-- B is the i-th loop of the code f; its statement with the test in slot t; its region k. -/
def IsLoopOf (f : Option Code) (i : Nat) (B : Code) : Prop := (f.bind fun c => (cdLoops c)[i]?) = some B
def IsCondOf (f : Option Code) (t : Nat) (B : Code) : Prop := (f.bind fun c => (cdConds t c)[0]?) = some B
def IsRegionOf (f : Option Code) (k : Nat) (B : Code) : Prop := (f.bind fun c => (cdRegions k c)[0]?) = some B
end Go.Proofs.YtkfalmdckmlneaaGreatDoor
