import Derived.Test.YtmnmeaeicjhkhaaGreatDoorGZay
import Derived.Test.YtmnmeaeicjhkhaaGreatDoorGXcy
import Derived.Test.YtmnmeaeicjhkhaaGreatDoorGEey
import Derived.Test.YtmnmeaeicjhkhaaGreatDoorGTy
namespace Go.Proofs.YtmnmeaeicjhkhaaGreatDoor
open Go.RowKit
end Go.Proofs.YtmnmeaeicjhkhaaGreatDoor
namespace Go.Proofs.YtmnmeaeicjhkhaaGreatDoor
open Go.RowKit
theorem info_Ask:(Tryz.prog.info? 47).map (fun i=>(i.zero,i.size,i.bytes))=some (some (.agg #[.int .i64 0,.int .i64 0,.string ByteArray.empty,.int .i64 0,.int .i64 0,.int .i64 0,.string ByteArray.empty]),7,72):=by kernel_rfl
end Go.Proofs.YtmnmeaeicjhkhaaGreatDoor
namespace Go.Proofs.YtmnmeaeicjhkhaaGreatDoor
open Go.RowKit
section
variable {nf:Nat} {fns:Nat→ByteArray} {n:Nat} {f:Nat→M} {na:Nat} {A:Nat→Ak} {ts us:List Tl}
end
end Go.Proofs.YtmnmeaeicjhkhaaGreatDoor
