import Derived.Test.YtmnmeaeicjhkhaaGreatDoorGTy
import Derived.Test.YtmnmeaeicjhkhaaGreatDoorGXay
import Derived.Deep.LoopGhost
import Derived.Test.YtmnmeaeicjhkhaaGreatDoorGXcy
namespace Go.Proofs.YtmnmeaeicjhkhaaGreatDoor
open Go.RowKit
end Go.Proofs.YtmnmeaeicjhkhaaGreatDoor
namespace Go.Proofs.YtmnmeaeicjhkhaaGreatDoor
open Go.RowKit
end Go.Proofs.YtmnmeaeicjhkhaaGreatDoor
namespace Go.Proofs.YtmnmeaeicjhkhaaGreatDoor
open Go.RowKit
theorem tlCells_get:∀ (l:List Tl) (i:Nat) (x:Tl),l[i]?=some x→(tlCells l)[i * 6]?=some (.int .i64 x.at_)∧(tlCells l)[i * 6 + 1]?=some (.int .i64 x.d.code)∧(tlCells l)[i * 6 + 2]?=some (.int .i64 x.d.num)∧(tlCells l)[i * 6 + 3]?=some (.string x.d.text)∧(tlCells l)[i * 6 + 4]?=some x.v5∧(tlCells l)[i * 6 + 5]?=some x.v6
 | x :: r,0,y,h=>by cases h;exact ⟨rfl,rfl,rfl,rfl,rfl,rfl⟩
 | x :: r,i + 1,y,h=>by
  have ih:=tlCells_get r i y h
  have e:tlCells (x :: r)=.int .i64 x.at_ :: .int .i64 x.d.code :: .int .i64 x.d.num :: .string x.d.text :: x.v5 :: x.v6 :: tlCells r:=rfl
  rw [e,show (i + 1) * 6=i * 6 + 1 + 1 + 1 + 1 + 1 + 1 by omega]
  simpa only [List.getElem?_cons_succ] using ih
section
variable {B:Nat} {w w':World} {v:Value} {l:List Tl} {j:Nat} {x y:Tl}
end
end Go.Proofs.YtmnmeaeicjhkhaaGreatDoor
namespace Go.Proofs.YtmnmeaeicjhkhaaGreatDoor
open Go.RowKit
end Go.Proofs.YtmnmeaeicjhkhaaGreatDoor
namespace Go.Proofs.YtmnmeaeicjhkhaaGreatDoor
open Go.RowKit
end Go.Proofs.YtmnmeaeicjhkhaaGreatDoor
