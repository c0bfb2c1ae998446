import Derived.Test.YtmnmeaeicjhkhaaGreatDoorGBy
import Derived.Test.YtmnmeaeicjhkhaaGreatDoorGScy
import Derived.Test.YtmnmeaeicjhkhaaGreatDoorGIdy
import Derived.Deep.AppendLies
namespace Go.Proofs.YtmnmeaeicjhkhaaGreatDoor
open Go.RowKit
end Go.Proofs.YtmnmeaeicjhkhaaGreatDoor
namespace Go.Proofs.YtmnmeaeicjhkhaaGreatDoor
open Go.RowKit
def runs (f:Nat→M) (k:Nat):List Fr:=(St.after f k).tasks (St.after f k).cur
structure Rows (e:TypeId) (b:Nat) (w:World) (z n:Nat) (F:Nat→Nat→Int):Prop where
 ty:∃ cs fr,w.heap[b]?=some (.cells cs e fr)
 cell:∀ i j,i < n→j < z→w.cell? ⟨b,i * z + j,none⟩=some (.int .i64 (F i j))∧w.frozen? ⟨b,i * z + j,none⟩=false
end Go.Proofs.YtmnmeaeicjhkhaaGreatDoor
namespace Go.Proofs.YtmnmeaeicjhkhaaGreatDoor
open Go.RowKit
end Go.Proofs.YtmnmeaeicjhkhaaGreatDoor
namespace Go.Proofs.YtmnmeaeicjhkhaaGreatDoor
open Go.RowKit
end Go.Proofs.YtmnmeaeicjhkhaaGreatDoor
namespace Go.Proofs.YtmnmeaeicjhkhaaGreatDoor
open Go.RowKit
theorem owns_typed {w:World} {B:Nat} {e:TypeId} {z:Nat} {v:Value} {n:Nat} {xs:List Value} (h:w.ownsRow B e z v n xs):∀ g,v.ownBlock=some g→B≤g∧∃ cs fr,w.heap[g]?=some (.cells cs e fr):=by
 intro g hg
 rcases h.2 with ⟨e1,_⟩ | ⟨g',cap,cur,e1,hB,hh,_⟩
 ·rw [e1] at hg;cases hg
 ·rw [e1] at hg;cases hg;exact ⟨hB,cur,_,hh⟩
end Go.Proofs.YtmnmeaeicjhkhaaGreatDoor
namespace Go.Proofs.YtmnmeaeicjhkhaaGreatDoor
open Go.RowKit
end Go.Proofs.YtmnmeaeicjhkhaaGreatDoor
