import Derived.Test.YtmnmeaeicjhkhaaGreatDoorShelfPz
import Derived.Test.YtmnmeaeicjhkhaaGreatDoorGCbz
namespace Go.Proofs.YtmnmeaeicjhkhaaGreatDoor

theorem sortsInts : SortsInts := fun blk off cap zs w h1 h2 h3 => Tryz.slices_Sort_int blk off cap zs w h1 h2 h3

theorem compactsInts : CompactsInts := fun blk off cap zs w h1 h2 h3 => Tryz.slices_Compact_int blk off cap zs w h1 h2 h3
end Go.Proofs.YtmnmeaeicjhkhaaGreatDoor
