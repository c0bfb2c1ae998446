import Derived.Test.YtmnmeaeicjhkhaaGreatDoorGAy
import Derived.Deep.RegionHeld3
import Derived.Deep.QuietTactic
import Derived.BigQuiet
import Derived.WalkSmall
namespace Go.Proofs.YtmnmeaeicjhkhaaGreatDoor
open Go.RowKit
end Go.Proofs.YtmnmeaeicjhkhaaGreatDoor
