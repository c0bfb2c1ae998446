import Derived.Test.YtoiacbdnkkolmaaShelfPz
import Derived.Test.YtoiacbdnkkolmaaGCbz
namespace Go.Proofs.Ytoiacbdnkkolmaa

theorem sortsInts : SortsInts := fun blk off cap zs w h1 h2 h3 => Try.slices_Sort_int blk off cap zs w h1 h2 h3

theorem compactsInts : CompactsInts := fun blk off cap zs w h1 h2 h3 => Try.slices_Compact_int blk off cap zs w h1 h2 h3
end Go.Proofs.Ytoiacbdnkkolmaa
