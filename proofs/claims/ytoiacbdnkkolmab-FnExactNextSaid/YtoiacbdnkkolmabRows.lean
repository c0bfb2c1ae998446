/-
  No cell of these rows narrows 'for every input' (looked for: loops, veiled, ifaces, maps, wideKeys, modest, calm, conditions, laid).
  DERIVED. THE GIVEN ROWS OF THIS SEAT. 12 by the template 'for every input the law returns true; each argument reads behind the call as it read before'; 0 by the template 'total and deterministic' (their statements: YtoiacbdnkkolmabTotals.lean).
  GIVEN WITH THE SEED: the statements are not yours to turn. If you find one false, say at which input.
  Laid BY PROGRAM, IN A SANDBOX (cutbox-rows.mjs): the forced cells as the released guide's own fill.sh prints them over the translation a4871e0d7a593b4c… (all of the seat's roots in one cut). By AI agents, Wed Nov 11 2026. No macro, syntax, notation, axiom, sorry.
-/
import Derived.Test.YtoiacbdnkkolmabChecked
import GoSem.Claim
import GoSem.ClaimJoined
import GoSem.ClaimMapViews
import Derived.JoinedTies
import Derived.KernelRfl
namespace Go.Proofs.Ytoiacbdnkkolmab
/- THE CELL 'sum', in the pinned program and in every row, IS THE sha256 OF THE DUMP (.gsa) THAT YtoiacbdnkkolmabProg.lean LOADS. Nothing in Lean hashes anything: it is a label: what it is worth is what the hold of that sum in a sandbox is worth. -/
noncomputable def Try.pinned : Pinned := { name := "ytoiacbdnkkolmab", sum := "a4871e0d7a593b4c9fda5014ec0fd10916764ea79581d8ac5390852fc07f6eb0", checked := Try.checked }
namespace Rows
def none {H : Type} : Left H := { results := [], args := [] }

/-- 'laws.FnExactLineCounts': WHATEVER THE INPUT: true; the input reads as it did. -/
def fnExactLineCountsSpec : ChangeSpec := { name := "fnExactLineCounts", fn := fun _ => fun
  | [d] => { results := [.lit (.bool true)], args := [d] }
  | _ => none }
def fnExactLineCountsRow : OpenClaim := { program := "ytoiacbdnkkolmab", sum := "a4871e0d7a593b4c9fda5014ec0fd10916764ea79581d8ac5390852fc07f6eb0", func := "loop.example/lens/laws.FnExactLineCounts", spec := "fnExactLineCounts", unfollowed := true, recurses := true, plainKeys := false, apart := false }
def FnExactLineCountsSaid : Prop := fnExactLineCountsRow.holds Try.pinned (OpenSpec.ofChange fnExactLineCountsSpec)

/-- ITS FALSE NEIGHBOUR: 'it returns false'. Refute it at one input. -/
def fnExactLineCountsWrong : ChangeSpec := { name := "fnExactLineCounts", fn := fun _ => fun
  | [d] => { results := [.lit (.bool false)], args := [d] }
  | _ => none }
def FnExactLineCountsWrongFalsely : Prop := fnExactLineCountsRow.holds Try.pinned (OpenSpec.ofChange fnExactLineCountsWrong)

/-- 'laws.FnExactFnCounts': WHATEVER THE INPUT: true; the input reads as it did. -/
def fnExactFnCountsSpec : ChangeSpec := { name := "fnExactFnCounts", fn := fun _ => fun
  | [d] => { results := [.lit (.bool true)], args := [d] }
  | _ => none }
def fnExactFnCountsRow : OpenClaim := { program := "ytoiacbdnkkolmab", sum := "a4871e0d7a593b4c9fda5014ec0fd10916764ea79581d8ac5390852fc07f6eb0", func := "loop.example/lens/laws.FnExactFnCounts", spec := "fnExactFnCounts", unfollowed := true, recurses := true, plainKeys := false, apart := false }
def FnExactFnCountsSaid : Prop := fnExactFnCountsRow.holds Try.pinned (OpenSpec.ofChange fnExactFnCountsSpec)

/-- ITS FALSE NEIGHBOUR: 'it returns false'. Refute it at one input. -/
def fnExactFnCountsWrong : ChangeSpec := { name := "fnExactFnCounts", fn := fun _ => fun
  | [d] => { results := [.lit (.bool false)], args := [d] }
  | _ => none }
def FnExactFnCountsWrongFalsely : Prop := fnExactFnCountsRow.holds Try.pinned (OpenSpec.ofChange fnExactFnCountsWrong)

/-- 'laws.FnExactCallTree': WHATEVER THE INPUT: true; the input reads as it did. -/
def fnExactCallTreeSpec : ChangeSpec := { name := "fnExactCallTree", fn := fun _ => fun
  | [d] => { results := [.lit (.bool true)], args := [d] }
  | _ => none }
def fnExactCallTreeRow : OpenClaim := { program := "ytoiacbdnkkolmab", sum := "a4871e0d7a593b4c9fda5014ec0fd10916764ea79581d8ac5390852fc07f6eb0", func := "loop.example/lens/laws.FnExactCallTree", spec := "fnExactCallTree", unfollowed := true, recurses := true, plainKeys := false, apart := false }
def FnExactCallTreeSaid : Prop := fnExactCallTreeRow.holds Try.pinned (OpenSpec.ofChange fnExactCallTreeSpec)

/-- ITS FALSE NEIGHBOUR: 'it returns false'. Refute it at one input. -/
def fnExactCallTreeWrong : ChangeSpec := { name := "fnExactCallTree", fn := fun _ => fun
  | [d] => { results := [.lit (.bool false)], args := [d] }
  | _ => none }
def FnExactCallTreeWrongFalsely : Prop := fnExactCallTreeRow.holds Try.pinned (OpenSpec.ofChange fnExactCallTreeWrong)

/-- 'laws.FnExactStopOk': WHATEVER THE INPUT: true; the input reads as it did. -/
def fnExactStopOkSpec : ChangeSpec := { name := "fnExactStopOk", fn := fun _ => fun
  | [d] => { results := [.lit (.bool true)], args := [d] }
  | _ => none }
def fnExactStopOkRow : OpenClaim := { program := "ytoiacbdnkkolmab", sum := "a4871e0d7a593b4c9fda5014ec0fd10916764ea79581d8ac5390852fc07f6eb0", func := "loop.example/lens/laws.FnExactStopOk", spec := "fnExactStopOk", plainKeys := false, apart := false }
def FnExactStopOkSaid : Prop := fnExactStopOkRow.holds Try.pinned (OpenSpec.ofChange fnExactStopOkSpec)

/-- ITS FALSE NEIGHBOUR: 'it returns false'. Refute it at one input. -/
def fnExactStopOkWrong : ChangeSpec := { name := "fnExactStopOk", fn := fun _ => fun
  | [d] => { results := [.lit (.bool false)], args := [d] }
  | _ => none }
def FnExactStopOkWrongFalsely : Prop := fnExactStopOkRow.holds Try.pinned (OpenSpec.ofChange fnExactStopOkWrong)

/-- 'laws.FnExactStopsAt': WHATEVER THE INPUT: true; the input reads as it did. -/
def fnExactStopsAtSpec : ChangeSpec := { name := "fnExactStopsAt", fn := fun _ => fun
  | [d1, d2, d3] => { results := [.lit (.bool true)], args := [d1, d2, d3] }
  | _ => none }
def fnExactStopsAtRow : OpenClaim := { program := "ytoiacbdnkkolmab", sum := "a4871e0d7a593b4c9fda5014ec0fd10916764ea79581d8ac5390852fc07f6eb0", func := "loop.example/lens/laws.FnExactStopsAt", spec := "fnExactStopsAt", unfollowed := true, recurses := true, plainKeys := false, apart := false }
def FnExactStopsAtSaid : Prop := fnExactStopsAtRow.holds Try.pinned (OpenSpec.ofChange fnExactStopsAtSpec)

/-- ITS FALSE NEIGHBOUR: 'it returns false'. Refute it at one input. -/
def fnExactStopsAtWrong : ChangeSpec := { name := "fnExactStopsAt", fn := fun _ => fun
  | [d1, d2, d3] => { results := [.lit (.bool false)], args := [d1, d2, d3] }
  | _ => none }
def FnExactStopsAtWrongFalsely : Prop := fnExactStopsAtRow.holds Try.pinned (OpenSpec.ofChange fnExactStopsAtWrong)

/-- 'laws.FnExactHits': WHATEVER THE INPUT: true; the input reads as it did. -/
def fnExactHitsSpec : ChangeSpec := { name := "fnExactHits", fn := fun _ => fun
  | [d1, d2] => { results := [.lit (.bool true)], args := [d1, d2] }
  | _ => none }
def fnExactHitsRow : OpenClaim := { program := "ytoiacbdnkkolmab", sum := "a4871e0d7a593b4c9fda5014ec0fd10916764ea79581d8ac5390852fc07f6eb0", func := "loop.example/lens/laws.FnExactHits", spec := "fnExactHits", unfollowed := true, recurses := true, plainKeys := false, apart := false }
def FnExactHitsSaid : Prop := fnExactHitsRow.holds Try.pinned (OpenSpec.ofChange fnExactHitsSpec)

/-- ITS FALSE NEIGHBOUR: 'it returns false'. Refute it at one input. -/
def fnExactHitsWrong : ChangeSpec := { name := "fnExactHits", fn := fun _ => fun
  | [d1, d2] => { results := [.lit (.bool false)], args := [d1, d2] }
  | _ => none }
def FnExactHitsWrongFalsely : Prop := fnExactHitsRow.holds Try.pinned (OpenSpec.ofChange fnExactHitsWrong)

/-- 'laws.FnExactNext': WHATEVER THE INPUT: true; the input reads as it did. -/
def fnExactNextSpec : ChangeSpec := { name := "fnExactNext", fn := fun _ => fun
  | [d1, d2, d3] => { results := [.lit (.bool true)], args := [d1, d2, d3] }
  | _ => none }
def fnExactNextRow : OpenClaim := { program := "ytoiacbdnkkolmab", sum := "a4871e0d7a593b4c9fda5014ec0fd10916764ea79581d8ac5390852fc07f6eb0", func := "loop.example/lens/laws.FnExactNext", spec := "fnExactNext", unfollowed := true, recurses := true, plainKeys := false, apart := false }
def FnExactNextSaid : Prop := fnExactNextRow.holds Try.pinned (OpenSpec.ofChange fnExactNextSpec)

/-- ITS FALSE NEIGHBOUR: 'it returns false'. Refute it at one input. -/
def fnExactNextWrong : ChangeSpec := { name := "fnExactNext", fn := fun _ => fun
  | [d1, d2, d3] => { results := [.lit (.bool false)], args := [d1, d2, d3] }
  | _ => none }
def FnExactNextWrongFalsely : Prop := fnExactNextRow.holds Try.pinned (OpenSpec.ofChange fnExactNextWrong)

/-- 'laws.FnExactLast': WHATEVER THE INPUT: true; the input reads as it did. -/
def fnExactLastSpec : ChangeSpec := { name := "fnExactLast", fn := fun _ => fun
  | [d1, d2, d3] => { results := [.lit (.bool true)], args := [d1, d2, d3] }
  | _ => none }
def fnExactLastRow : OpenClaim := { program := "ytoiacbdnkkolmab", sum := "a4871e0d7a593b4c9fda5014ec0fd10916764ea79581d8ac5390852fc07f6eb0", func := "loop.example/lens/laws.FnExactLast", spec := "fnExactLast", unfollowed := true, recurses := true, plainKeys := false, apart := false }
def FnExactLastSaid : Prop := fnExactLastRow.holds Try.pinned (OpenSpec.ofChange fnExactLastSpec)

/-- ITS FALSE NEIGHBOUR: 'it returns false'. Refute it at one input. -/
def fnExactLastWrong : ChangeSpec := { name := "fnExactLast", fn := fun _ => fun
  | [d1, d2, d3] => { results := [.lit (.bool false)], args := [d1, d2, d3] }
  | _ => none }
def FnExactLastWrongFalsely : Prop := fnExactLastRow.holds Try.pinned (OpenSpec.ofChange fnExactLastWrong)

/-- 'laws.FnExactInto': WHATEVER THE INPUT: true; the input reads as it did. -/
def fnExactIntoSpec : ChangeSpec := { name := "fnExactInto", fn := fun _ => fun
  | [d1, d2] => { results := [.lit (.bool true)], args := [d1, d2] }
  | _ => none }
def fnExactIntoRow : OpenClaim := { program := "ytoiacbdnkkolmab", sum := "a4871e0d7a593b4c9fda5014ec0fd10916764ea79581d8ac5390852fc07f6eb0", func := "loop.example/lens/laws.FnExactInto", spec := "fnExactInto", unfollowed := true, recurses := true, plainKeys := false, apart := false }
def FnExactIntoSaid : Prop := fnExactIntoRow.holds Try.pinned (OpenSpec.ofChange fnExactIntoSpec)

/-- ITS FALSE NEIGHBOUR: 'it returns false'. Refute it at one input. -/
def fnExactIntoWrong : ChangeSpec := { name := "fnExactInto", fn := fun _ => fun
  | [d1, d2] => { results := [.lit (.bool false)], args := [d1, d2] }
  | _ => none }
def FnExactIntoWrongFalsely : Prop := fnExactIntoRow.holds Try.pinned (OpenSpec.ofChange fnExactIntoWrong)

/-- 'laws.FnExactOver': WHATEVER THE INPUT: true; the input reads as it did. -/
def fnExactOverSpec : ChangeSpec := { name := "fnExactOver", fn := fun _ => fun
  | [d1, d2] => { results := [.lit (.bool true)], args := [d1, d2] }
  | _ => none }
def fnExactOverRow : OpenClaim := { program := "ytoiacbdnkkolmab", sum := "a4871e0d7a593b4c9fda5014ec0fd10916764ea79581d8ac5390852fc07f6eb0", func := "loop.example/lens/laws.FnExactOver", spec := "fnExactOver", unfollowed := true, recurses := true, plainKeys := false, apart := false }
def FnExactOverSaid : Prop := fnExactOverRow.holds Try.pinned (OpenSpec.ofChange fnExactOverSpec)

/-- ITS FALSE NEIGHBOUR: 'it returns false'. Refute it at one input. -/
def fnExactOverWrong : ChangeSpec := { name := "fnExactOver", fn := fun _ => fun
  | [d1, d2] => { results := [.lit (.bool false)], args := [d1, d2] }
  | _ => none }
def FnExactOverWrongFalsely : Prop := fnExactOverRow.holds Try.pinned (OpenSpec.ofChange fnExactOverWrong)

/-- 'laws.FnExactOut': WHATEVER THE INPUT: true; the input reads as it did. -/
def fnExactOutSpec : ChangeSpec := { name := "fnExactOut", fn := fun _ => fun
  | [d1, d2] => { results := [.lit (.bool true)], args := [d1, d2] }
  | _ => none }
def fnExactOutRow : OpenClaim := { program := "ytoiacbdnkkolmab", sum := "a4871e0d7a593b4c9fda5014ec0fd10916764ea79581d8ac5390852fc07f6eb0", func := "loop.example/lens/laws.FnExactOut", spec := "fnExactOut", unfollowed := true, recurses := true, plainKeys := false, apart := false }
def FnExactOutSaid : Prop := fnExactOutRow.holds Try.pinned (OpenSpec.ofChange fnExactOutSpec)

/-- ITS FALSE NEIGHBOUR: 'it returns false'. Refute it at one input. -/
def fnExactOutWrong : ChangeSpec := { name := "fnExactOut", fn := fun _ => fun
  | [d1, d2] => { results := [.lit (.bool false)], args := [d1, d2] }
  | _ => none }
def FnExactOutWrongFalsely : Prop := fnExactOutRow.holds Try.pinned (OpenSpec.ofChange fnExactOutWrong)

/-- 'laws.FnExactBefore': WHATEVER THE INPUT: true; the input reads as it did. -/
def fnExactBeforeSpec : ChangeSpec := { name := "fnExactBefore", fn := fun _ => fun
  | [d1, d2] => { results := [.lit (.bool true)], args := [d1, d2] }
  | _ => none }
def fnExactBeforeRow : OpenClaim := { program := "ytoiacbdnkkolmab", sum := "a4871e0d7a593b4c9fda5014ec0fd10916764ea79581d8ac5390852fc07f6eb0", func := "loop.example/lens/laws.FnExactBefore", spec := "fnExactBefore", unfollowed := true, recurses := true, plainKeys := false, apart := false }
def FnExactBeforeSaid : Prop := fnExactBeforeRow.holds Try.pinned (OpenSpec.ofChange fnExactBeforeSpec)

/-- ITS FALSE NEIGHBOUR: 'it returns false'. Refute it at one input. -/
def fnExactBeforeWrong : ChangeSpec := { name := "fnExactBefore", fn := fun _ => fun
  | [d1, d2] => { results := [.lit (.bool false)], args := [d1, d2] }
  | _ => none }
def FnExactBeforeWrongFalsely : Prop := fnExactBeforeRow.holds Try.pinned (OpenSpec.ofChange fnExactBeforeWrong)

/- THE SECOND FORM. 'bulk': how many values and letters a reading holds, each counted each time it is reached (what is shared counts as often as it is met; a slice's spare places count too). A statement '..UptoSaid' is the law's where the arguments, and the package variables that the reading takes, are together of bulk at most 1048576: NARROWER than '..Said'. Prove '..Said' where nothing that the law and all that it calls make is longer than what came in: it says more and counts as full. Else prove '..UptoSaid'. A law counts once. -/
mutual
def uptoBulk {H : Type} : DataW H → Nat
  | .lit (.string bytes) => bytes.length + 1
  | .lit _ => 1
  | .nil => 1
  | .ptr d => uptoBulk d + 1
  | .slice elems spare => uptoBulkAll elems + uptoBulkAll spare + 1
  | .agg parts => uptoBulkAll parts + 1
  | .iface _ d => uptoBulk d + 1
  | .map entries => uptoBulkEntries entries + 1
  | .held _ => 1
def uptoBulkAll {H : Type} : List (DataW H) → Nat
  | [] => 0
  | d :: r => uptoBulk d + uptoBulkAll r
def uptoBulkEntries {H : Type} : List (Lit × DataW H) → Nat
  | [] => 0
  | x :: r => uptoBulkEntry x + uptoBulkEntries r
def uptoBulkEntry {H : Type} : Lit × DataW H → Nat
  | (.string bytes, d) => bytes.length + uptoBulk d + 1
  | (_, d) => uptoBulk d + 1
 end
def uptoSmall : (H : Type) → List (DataW H) → Bool := fun _ ds => decide (uptoBulkAll ds ≤ 1048576)
def OpenSpec.upto (s : _root_.Go.ChangeSpec) : _root_.Go.OpenSpec := { _root_.Go.OpenSpec.ofChange s with cond := some uptoSmall }

/-- 'laws.FnExactLineCounts', WHERE WHAT IT READS IS OF BULK AT MOST 1048576: true; the input reads as it did. -/
def fnExactLineCountsUptoRow : OpenClaim := { program := "ytoiacbdnkkolmab", sum := "a4871e0d7a593b4c9fda5014ec0fd10916764ea79581d8ac5390852fc07f6eb0", func := "loop.example/lens/laws.FnExactLineCounts", spec := "fnExactLineCounts", unfollowed := true, recurses := true, plainKeys := false, apart := false, narrowed := true }
def FnExactLineCountsUptoSaid : Prop := fnExactLineCountsUptoRow.holds Try.pinned (OpenSpec.upto fnExactLineCountsSpec)

/-- 'laws.FnExactFnCounts', WHERE WHAT IT READS IS OF BULK AT MOST 1048576: true; the input reads as it did. -/
def fnExactFnCountsUptoRow : OpenClaim := { program := "ytoiacbdnkkolmab", sum := "a4871e0d7a593b4c9fda5014ec0fd10916764ea79581d8ac5390852fc07f6eb0", func := "loop.example/lens/laws.FnExactFnCounts", spec := "fnExactFnCounts", unfollowed := true, recurses := true, plainKeys := false, apart := false, narrowed := true }
def FnExactFnCountsUptoSaid : Prop := fnExactFnCountsUptoRow.holds Try.pinned (OpenSpec.upto fnExactFnCountsSpec)

/-- 'laws.FnExactCallTree', WHERE WHAT IT READS IS OF BULK AT MOST 1048576: true; the input reads as it did. -/
def fnExactCallTreeUptoRow : OpenClaim := { program := "ytoiacbdnkkolmab", sum := "a4871e0d7a593b4c9fda5014ec0fd10916764ea79581d8ac5390852fc07f6eb0", func := "loop.example/lens/laws.FnExactCallTree", spec := "fnExactCallTree", unfollowed := true, recurses := true, plainKeys := false, apart := false, narrowed := true }
def FnExactCallTreeUptoSaid : Prop := fnExactCallTreeUptoRow.holds Try.pinned (OpenSpec.upto fnExactCallTreeSpec)

/-- 'laws.FnExactStopOk', WHERE WHAT IT READS IS OF BULK AT MOST 1048576: true; the input reads as it did. -/
def fnExactStopOkUptoRow : OpenClaim := { program := "ytoiacbdnkkolmab", sum := "a4871e0d7a593b4c9fda5014ec0fd10916764ea79581d8ac5390852fc07f6eb0", func := "loop.example/lens/laws.FnExactStopOk", spec := "fnExactStopOk", plainKeys := false, apart := false, narrowed := true }
def FnExactStopOkUptoSaid : Prop := fnExactStopOkUptoRow.holds Try.pinned (OpenSpec.upto fnExactStopOkSpec)

/-- 'laws.FnExactStopsAt', WHERE WHAT IT READS IS OF BULK AT MOST 1048576: true; the input reads as it did. -/
def fnExactStopsAtUptoRow : OpenClaim := { program := "ytoiacbdnkkolmab", sum := "a4871e0d7a593b4c9fda5014ec0fd10916764ea79581d8ac5390852fc07f6eb0", func := "loop.example/lens/laws.FnExactStopsAt", spec := "fnExactStopsAt", unfollowed := true, recurses := true, plainKeys := false, apart := false, narrowed := true }
def FnExactStopsAtUptoSaid : Prop := fnExactStopsAtUptoRow.holds Try.pinned (OpenSpec.upto fnExactStopsAtSpec)

/-- 'laws.FnExactHits', WHERE WHAT IT READS IS OF BULK AT MOST 1048576: true; the input reads as it did. -/
def fnExactHitsUptoRow : OpenClaim := { program := "ytoiacbdnkkolmab", sum := "a4871e0d7a593b4c9fda5014ec0fd10916764ea79581d8ac5390852fc07f6eb0", func := "loop.example/lens/laws.FnExactHits", spec := "fnExactHits", unfollowed := true, recurses := true, plainKeys := false, apart := false, narrowed := true }
def FnExactHitsUptoSaid : Prop := fnExactHitsUptoRow.holds Try.pinned (OpenSpec.upto fnExactHitsSpec)

/-- 'laws.FnExactNext', WHERE WHAT IT READS IS OF BULK AT MOST 1048576: true; the input reads as it did. -/
def fnExactNextUptoRow : OpenClaim := { program := "ytoiacbdnkkolmab", sum := "a4871e0d7a593b4c9fda5014ec0fd10916764ea79581d8ac5390852fc07f6eb0", func := "loop.example/lens/laws.FnExactNext", spec := "fnExactNext", unfollowed := true, recurses := true, plainKeys := false, apart := false, narrowed := true }
def FnExactNextUptoSaid : Prop := fnExactNextUptoRow.holds Try.pinned (OpenSpec.upto fnExactNextSpec)

/-- 'laws.FnExactLast', WHERE WHAT IT READS IS OF BULK AT MOST 1048576: true; the input reads as it did. -/
def fnExactLastUptoRow : OpenClaim := { program := "ytoiacbdnkkolmab", sum := "a4871e0d7a593b4c9fda5014ec0fd10916764ea79581d8ac5390852fc07f6eb0", func := "loop.example/lens/laws.FnExactLast", spec := "fnExactLast", unfollowed := true, recurses := true, plainKeys := false, apart := false, narrowed := true }
def FnExactLastUptoSaid : Prop := fnExactLastUptoRow.holds Try.pinned (OpenSpec.upto fnExactLastSpec)

/-- 'laws.FnExactInto', WHERE WHAT IT READS IS OF BULK AT MOST 1048576: true; the input reads as it did. -/
def fnExactIntoUptoRow : OpenClaim := { program := "ytoiacbdnkkolmab", sum := "a4871e0d7a593b4c9fda5014ec0fd10916764ea79581d8ac5390852fc07f6eb0", func := "loop.example/lens/laws.FnExactInto", spec := "fnExactInto", unfollowed := true, recurses := true, plainKeys := false, apart := false, narrowed := true }
def FnExactIntoUptoSaid : Prop := fnExactIntoUptoRow.holds Try.pinned (OpenSpec.upto fnExactIntoSpec)

/-- 'laws.FnExactOver', WHERE WHAT IT READS IS OF BULK AT MOST 1048576: true; the input reads as it did. -/
def fnExactOverUptoRow : OpenClaim := { program := "ytoiacbdnkkolmab", sum := "a4871e0d7a593b4c9fda5014ec0fd10916764ea79581d8ac5390852fc07f6eb0", func := "loop.example/lens/laws.FnExactOver", spec := "fnExactOver", unfollowed := true, recurses := true, plainKeys := false, apart := false, narrowed := true }
def FnExactOverUptoSaid : Prop := fnExactOverUptoRow.holds Try.pinned (OpenSpec.upto fnExactOverSpec)

/-- 'laws.FnExactOut', WHERE WHAT IT READS IS OF BULK AT MOST 1048576: true; the input reads as it did. -/
def fnExactOutUptoRow : OpenClaim := { program := "ytoiacbdnkkolmab", sum := "a4871e0d7a593b4c9fda5014ec0fd10916764ea79581d8ac5390852fc07f6eb0", func := "loop.example/lens/laws.FnExactOut", spec := "fnExactOut", unfollowed := true, recurses := true, plainKeys := false, apart := false, narrowed := true }
def FnExactOutUptoSaid : Prop := fnExactOutUptoRow.holds Try.pinned (OpenSpec.upto fnExactOutSpec)

/-- 'laws.FnExactBefore', WHERE WHAT IT READS IS OF BULK AT MOST 1048576: true; the input reads as it did. -/
def fnExactBeforeUptoRow : OpenClaim := { program := "ytoiacbdnkkolmab", sum := "a4871e0d7a593b4c9fda5014ec0fd10916764ea79581d8ac5390852fc07f6eb0", func := "loop.example/lens/laws.FnExactBefore", spec := "fnExactBefore", unfollowed := true, recurses := true, plainKeys := false, apart := false, narrowed := true }
def FnExactBeforeUptoSaid : Prop := fnExactBeforeUptoRow.holds Try.pinned (OpenSpec.upto fnExactBeforeSpec)

end Rows
end Go.Proofs.Ytoiacbdnkkolmab
