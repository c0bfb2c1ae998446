import Derived.Test.YtmnmeaeicjhkhaaGreatDoorShelfPx
import Derived.Test.YtmnmeaeicjhkhaaGreatDoorGCbx
namespace Go.Proofs.YtmnmeaeicjhkhaaGreatDoor
theorem sortsInts:zT:=fun blk off cap zs w h1 h2 h3=>Tryz.slices_Sort_int blk off cap zs w h1 h2 h3
theorem compactsInts:rU:=fun blk off cap zs w h1 h2 h3=>Tryz.slices_Compact_int blk off cap zs w h1 h2 h3
end Go.Proofs.YtmnmeaeicjhkhaaGreatDoor
