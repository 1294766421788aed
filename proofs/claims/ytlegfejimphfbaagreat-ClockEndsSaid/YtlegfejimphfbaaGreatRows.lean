/-
  No cell of these rows narrows 'for every input' (looked for: loops, veiled, ifaces, maps, wideKeys, modest, calm, conditions, laid).
  DERIVED. THE GIVEN ROWS OF THIS SEAT. 11 by the template 'for every input the law returns true; each argument reads behind the call as it read before'; 0 by the template 'total and deterministic' (their statements: YtlegfejimphfbaaGreatTotals.lean).
  GIVEN WITH THE SEED: the statements are not yours to turn. If you find one false, say at which input.
  Laid BY PROGRAM, IN A SANDBOX (cutbox-rows.mjs): the forced cells as the released guide's own fill.sh prints them over the translation ed0f299ae61a0a9b… (all of the seat's roots in one cut). By AI agents, Wed Nov 11 2026. No macro, syntax, notation, axiom, sorry.
-/
import Derived.Test.YtlegfejimphfbaaGreatChecked
import GoSem.Claim
import GoSem.ClaimJoined
import GoSem.ClaimMapViews
import Derived.JoinedTies
import Derived.KernelRfl
namespace Go.Proofs.YtlegfejimphfbaaGreat
/- THE CELL 'sum', in the pinned program and in every row, IS THE sha256 OF THE DUMP (.gsa) THAT YtlegfejimphfbaaGreatProg.lean LOADS. Nothing in Lean hashes anything: it is a label: what it is worth is what the hold of that sum in a sandbox is worth. -/
noncomputable def Tryz.pinned : Pinned := { name := "ytlegfejimphfbaagreat", sum := "ed0f299ae61a0a9ba6741c4ac60e9ffc2caa7c3f5760bcfc949734be90fef0ce", checked := Tryz.checked }
namespace Rows
def none {H : Type} : Left H := { results := [], args := [] }

/-- 'octantlaw07.ClockCones': WHATEVER THE INPUT: true; the input reads as it did. -/
def clockConesSpec : ChangeSpec := { name := "clockCones", fn := fun _ => fun
  | [d1, d2, d3] => { results := [.lit (.bool true)], args := [d1, d2, d3] }
  | _ => none }
def clockConesRow : OpenClaim := { program := "ytlegfejimphfbaagreat", sum := "ed0f299ae61a0a9ba6741c4ac60e9ffc2caa7c3f5760bcfc949734be90fef0ce", func := "octant/octantlaw07.ClockCones", spec := "clockCones", unfollowed := true, recurses := true, plainKeys := false, apart := false }
def ClockConesSaid : Prop := clockConesRow.holds Tryz.pinned (OpenSpec.ofChange clockConesSpec)

/-- ITS FALSE NEIGHBOUR: 'it returns false'. Refute it at one input. -/
def clockConesWrong : ChangeSpec := { name := "clockCones", fn := fun _ => fun
  | [d1, d2, d3] => { results := [.lit (.bool false)], args := [d1, d2, d3] }
  | _ => none }
def ClockConesWrongFalsely : Prop := clockConesRow.holds Tryz.pinned (OpenSpec.ofChange clockConesWrong)

/-- 'octantlaw07.ClockErrors': WHATEVER THE INPUT: true; the input reads as it did. -/
def clockErrorsSpec : ChangeSpec := { name := "clockErrors", fn := fun _ => fun
  | [d1, d2, d3] => { results := [.lit (.bool true)], args := [d1, d2, d3] }
  | _ => none }
def clockErrorsRow : OpenClaim := { program := "ytlegfejimphfbaagreat", sum := "ed0f299ae61a0a9ba6741c4ac60e9ffc2caa7c3f5760bcfc949734be90fef0ce", func := "octant/octantlaw07.ClockErrors", spec := "clockErrors", unfollowed := true, recurses := true, plainKeys := false, apart := false }
def ClockErrorsSaid : Prop := clockErrorsRow.holds Tryz.pinned (OpenSpec.ofChange clockErrorsSpec)

/-- ITS FALSE NEIGHBOUR: 'it returns false'. Refute it at one input. -/
def clockErrorsWrong : ChangeSpec := { name := "clockErrors", fn := fun _ => fun
  | [d1, d2, d3] => { results := [.lit (.bool false)], args := [d1, d2, d3] }
  | _ => none }
def ClockErrorsWrongFalsely : Prop := clockErrorsRow.holds Tryz.pinned (OpenSpec.ofChange clockErrorsWrong)

/-- 'octantlaw07.ClockRanks': WHATEVER THE INPUT: true; the input reads as it did. -/
def clockRanksSpec : ChangeSpec := { name := "clockRanks", fn := fun _ => fun
  | [d] => { results := [.lit (.bool true)], args := [d] }
  | _ => none }
def clockRanksRow : OpenClaim := { program := "ytlegfejimphfbaagreat", sum := "ed0f299ae61a0a9ba6741c4ac60e9ffc2caa7c3f5760bcfc949734be90fef0ce", func := "octant/octantlaw07.ClockRanks", spec := "clockRanks", unfollowed := true, recurses := true, plainKeys := false, apart := false }
def ClockRanksSaid : Prop := clockRanksRow.holds Tryz.pinned (OpenSpec.ofChange clockRanksSpec)

/-- ITS FALSE NEIGHBOUR: 'it returns false'. Refute it at one input. -/
def clockRanksWrong : ChangeSpec := { name := "clockRanks", fn := fun _ => fun
  | [d] => { results := [.lit (.bool false)], args := [d] }
  | _ => none }
def ClockRanksWrongFalsely : Prop := clockRanksRow.holds Tryz.pinned (OpenSpec.ofChange clockRanksWrong)

/-- 'octantlaw07.ClockWatches': WHATEVER THE INPUT: true; the input reads as it did. -/
def clockWatchesSpec : ChangeSpec := { name := "clockWatches", fn := fun _ => fun
  | [d] => { results := [.lit (.bool true)], args := [d] }
  | _ => none }
def clockWatchesRow : OpenClaim := { program := "ytlegfejimphfbaagreat", sum := "ed0f299ae61a0a9ba6741c4ac60e9ffc2caa7c3f5760bcfc949734be90fef0ce", func := "octant/octantlaw07.ClockWatches", spec := "clockWatches", unfollowed := true, recurses := true, plainKeys := false, apart := false }
def ClockWatchesSaid : Prop := clockWatchesRow.holds Tryz.pinned (OpenSpec.ofChange clockWatchesSpec)

/-- ITS FALSE NEIGHBOUR: 'it returns false'. Refute it at one input. -/
def clockWatchesWrong : ChangeSpec := { name := "clockWatches", fn := fun _ => fun
  | [d] => { results := [.lit (.bool false)], args := [d] }
  | _ => none }
def ClockWatchesWrongFalsely : Prop := clockWatchesRow.holds Tryz.pinned (OpenSpec.ofChange clockWatchesWrong)

/-- 'octantlaw07.ClockHolds': WHATEVER THE INPUT: true; the input reads as it did. -/
def clockHoldsSpec : ChangeSpec := { name := "clockHolds", fn := fun _ => fun
  | [d1, d2, d3] => { results := [.lit (.bool true)], args := [d1, d2, d3] }
  | _ => none }
def clockHoldsRow : OpenClaim := { program := "ytlegfejimphfbaagreat", sum := "ed0f299ae61a0a9ba6741c4ac60e9ffc2caa7c3f5760bcfc949734be90fef0ce", func := "octant/octantlaw07.ClockHolds", spec := "clockHolds", unfollowed := true, recurses := true, plainKeys := false, apart := false }
def ClockHoldsSaid : Prop := clockHoldsRow.holds Tryz.pinned (OpenSpec.ofChange clockHoldsSpec)

/-- ITS FALSE NEIGHBOUR: 'it returns false'. Refute it at one input. -/
def clockHoldsWrong : ChangeSpec := { name := "clockHolds", fn := fun _ => fun
  | [d1, d2, d3] => { results := [.lit (.bool false)], args := [d1, d2, d3] }
  | _ => none }
def ClockHoldsWrongFalsely : Prop := clockHoldsRow.holds Tryz.pinned (OpenSpec.ofChange clockHoldsWrong)

/-- 'octantlaw07.ClockEnds': WHATEVER THE INPUT: true; the input reads as it did. -/
def clockEndsSpec : ChangeSpec := { name := "clockEnds", fn := fun _ => fun
  | [d1, d2] => { results := [.lit (.bool true)], args := [d1, d2] }
  | _ => none }
def clockEndsRow : OpenClaim := { program := "ytlegfejimphfbaagreat", sum := "ed0f299ae61a0a9ba6741c4ac60e9ffc2caa7c3f5760bcfc949734be90fef0ce", func := "octant/octantlaw07.ClockEnds", spec := "clockEnds", unfollowed := true, recurses := true, plainKeys := false, apart := false }
def ClockEndsSaid : Prop := clockEndsRow.holds Tryz.pinned (OpenSpec.ofChange clockEndsSpec)

/-- ITS FALSE NEIGHBOUR: 'it returns false'. Refute it at one input. -/
def clockEndsWrong : ChangeSpec := { name := "clockEnds", fn := fun _ => fun
  | [d1, d2] => { results := [.lit (.bool false)], args := [d1, d2] }
  | _ => none }
def ClockEndsWrongFalsely : Prop := clockEndsRow.holds Tryz.pinned (OpenSpec.ofChange clockEndsWrong)

/-- 'octantlaw07.ClockNarrow': WHATEVER THE INPUT: true; the input reads as it did. -/
def clockNarrowSpec : ChangeSpec := { name := "clockNarrow", fn := fun _ => fun
  | [d1, d2, d3] => { results := [.lit (.bool true)], args := [d1, d2, d3] }
  | _ => none }
def clockNarrowRow : OpenClaim := { program := "ytlegfejimphfbaagreat", sum := "ed0f299ae61a0a9ba6741c4ac60e9ffc2caa7c3f5760bcfc949734be90fef0ce", func := "octant/octantlaw07.ClockNarrow", spec := "clockNarrow", unfollowed := true, recurses := true, plainKeys := false, apart := false }
def ClockNarrowSaid : Prop := clockNarrowRow.holds Tryz.pinned (OpenSpec.ofChange clockNarrowSpec)

/-- ITS FALSE NEIGHBOUR: 'it returns false'. Refute it at one input. -/
def clockNarrowWrong : ChangeSpec := { name := "clockNarrow", fn := fun _ => fun
  | [d1, d2, d3] => { results := [.lit (.bool false)], args := [d1, d2, d3] }
  | _ => none }
def ClockNarrowWrongFalsely : Prop := clockNarrowRow.holds Tryz.pinned (OpenSpec.ofChange clockNarrowWrong)

/-- 'octantlaw07.ClockRule': WHATEVER THE INPUT: true; the input reads as it did. -/
def clockRuleSpec : ChangeSpec := { name := "clockRule", fn := fun _ => fun
  | [d1, d2] => { results := [.lit (.bool true)], args := [d1, d2] }
  | _ => none }
def clockRuleRow : OpenClaim := { program := "ytlegfejimphfbaagreat", sum := "ed0f299ae61a0a9ba6741c4ac60e9ffc2caa7c3f5760bcfc949734be90fef0ce", func := "octant/octantlaw07.ClockRule", spec := "clockRule", unfollowed := true, recurses := true, plainKeys := false, apart := false }
def ClockRuleSaid : Prop := clockRuleRow.holds Tryz.pinned (OpenSpec.ofChange clockRuleSpec)

/-- ITS FALSE NEIGHBOUR: 'it returns false'. Refute it at one input. -/
def clockRuleWrong : ChangeSpec := { name := "clockRule", fn := fun _ => fun
  | [d1, d2] => { results := [.lit (.bool false)], args := [d1, d2] }
  | _ => none }
def ClockRuleWrongFalsely : Prop := clockRuleRow.holds Tryz.pinned (OpenSpec.ofChange clockRuleWrong)

/-- 'octantlaw07.ClockSteady': WHATEVER THE INPUT: true; the input reads as it did. -/
def clockSteadySpec : ChangeSpec := { name := "clockSteady", fn := fun _ => fun
  | [d1, d2] => { results := [.lit (.bool true)], args := [d1, d2] }
  | _ => none }
def clockSteadyRow : OpenClaim := { program := "ytlegfejimphfbaagreat", sum := "ed0f299ae61a0a9ba6741c4ac60e9ffc2caa7c3f5760bcfc949734be90fef0ce", func := "octant/octantlaw07.ClockSteady", spec := "clockSteady", unfollowed := true, recurses := true, plainKeys := false, apart := false }
def ClockSteadySaid : Prop := clockSteadyRow.holds Tryz.pinned (OpenSpec.ofChange clockSteadySpec)

/-- ITS FALSE NEIGHBOUR: 'it returns false'. Refute it at one input. -/
def clockSteadyWrong : ChangeSpec := { name := "clockSteady", fn := fun _ => fun
  | [d1, d2] => { results := [.lit (.bool false)], args := [d1, d2] }
  | _ => none }
def ClockSteadyWrongFalsely : Prop := clockSteadyRow.holds Tryz.pinned (OpenSpec.ofChange clockSteadyWrong)

/-- 'octantlaw07.ClockConvicts': WHATEVER THE INPUT: true; the input reads as it did. -/
def clockConvictsSpec : ChangeSpec := { name := "clockConvicts", fn := fun _ => fun
  | [d1, d2, d3, d4] => { results := [.lit (.bool true)], args := [d1, d2, d3, d4] }
  | _ => none }
def clockConvictsRow : OpenClaim := { program := "ytlegfejimphfbaagreat", sum := "ed0f299ae61a0a9ba6741c4ac60e9ffc2caa7c3f5760bcfc949734be90fef0ce", func := "octant/octantlaw07.ClockConvicts", spec := "clockConvicts", unfollowed := true, recurses := true, plainKeys := false, apart := false }
def ClockConvictsSaid : Prop := clockConvictsRow.holds Tryz.pinned (OpenSpec.ofChange clockConvictsSpec)

/-- ITS FALSE NEIGHBOUR: 'it returns false'. Refute it at one input. -/
def clockConvictsWrong : ChangeSpec := { name := "clockConvicts", fn := fun _ => fun
  | [d1, d2, d3, d4] => { results := [.lit (.bool false)], args := [d1, d2, d3, d4] }
  | _ => none }
def ClockConvictsWrongFalsely : Prop := clockConvictsRow.holds Tryz.pinned (OpenSpec.ofChange clockConvictsWrong)

/-- 'octantlaw07.ClockLonger': WHATEVER THE INPUT: true; the input reads as it did. -/
def clockLongerSpec : ChangeSpec := { name := "clockLonger", fn := fun _ => fun
  | [d1, d2] => { results := [.lit (.bool true)], args := [d1, d2] }
  | _ => none }
def clockLongerRow : OpenClaim := { program := "ytlegfejimphfbaagreat", sum := "ed0f299ae61a0a9ba6741c4ac60e9ffc2caa7c3f5760bcfc949734be90fef0ce", func := "octant/octantlaw07.ClockLonger", spec := "clockLonger", unfollowed := true, recurses := true, plainKeys := false, apart := false }
def ClockLongerSaid : Prop := clockLongerRow.holds Tryz.pinned (OpenSpec.ofChange clockLongerSpec)

/-- ITS FALSE NEIGHBOUR: 'it returns false'. Refute it at one input. -/
def clockLongerWrong : ChangeSpec := { name := "clockLonger", fn := fun _ => fun
  | [d1, d2] => { results := [.lit (.bool false)], args := [d1, d2] }
  | _ => none }
def ClockLongerWrongFalsely : Prop := clockLongerRow.holds Tryz.pinned (OpenSpec.ofChange clockLongerWrong)

/- THE SECOND FORM. 'bulk': how many values and letters a reading holds, each counted each time it is reached (what is shared counts as often as it is met; a slice's spare places count too). A statement '..UptoSaid' is the law's where the arguments, and the package variables that the reading takes, are together of bulk at most 1048576: NARROWER than '..Said'. Prove '..Said' where nothing that the law and all that it calls make is longer than what came in: it says more and counts as full. Else prove '..UptoSaid'. A law counts once. -/
mutual
def uptoBulk {H : Type} : DataW H → Nat
  | .lit (.string bytes) => bytes.length + 1
  | .lit _ => 1
  | .nil => 1
  | .ptr d => uptoBulk d + 1
  | .slice elems spare => uptoBulkAll elems + uptoBulkAll spare + 1
  | .agg parts => uptoBulkAll parts + 1
  | .iface _ d => uptoBulk d + 1
  | .map entries => uptoBulkEntries entries + 1
  | .held _ => 1
def uptoBulkAll {H : Type} : List (DataW H) → Nat
  | [] => 0
  | d :: r => uptoBulk d + uptoBulkAll r
def uptoBulkEntries {H : Type} : List (Lit × DataW H) → Nat
  | [] => 0
  | x :: r => uptoBulkEntry x + uptoBulkEntries r
def uptoBulkEntry {H : Type} : Lit × DataW H → Nat
  | (.string bytes, d) => bytes.length + uptoBulk d + 1
  | (_, d) => uptoBulk d + 1
 end
def uptoSmall : (H : Type) → List (DataW H) → Bool := fun _ ds => decide (uptoBulkAll ds ≤ 1048576)
def OpenSpec.upto (s : _root_.Go.ChangeSpec) : _root_.Go.OpenSpec := { _root_.Go.OpenSpec.ofChange s with cond := some uptoSmall }

/-- 'octantlaw07.ClockCones', WHERE WHAT IT READS IS OF BULK AT MOST 1048576: true; the input reads as it did. -/
def clockConesUptoRow : OpenClaim := { program := "ytlegfejimphfbaagreat", sum := "ed0f299ae61a0a9ba6741c4ac60e9ffc2caa7c3f5760bcfc949734be90fef0ce", func := "octant/octantlaw07.ClockCones", spec := "clockCones", unfollowed := true, recurses := true, plainKeys := false, apart := false, narrowed := true }
def ClockConesUptoSaid : Prop := clockConesUptoRow.holds Tryz.pinned (OpenSpec.upto clockConesSpec)

/-- 'octantlaw07.ClockErrors', WHERE WHAT IT READS IS OF BULK AT MOST 1048576: true; the input reads as it did. -/
def clockErrorsUptoRow : OpenClaim := { program := "ytlegfejimphfbaagreat", sum := "ed0f299ae61a0a9ba6741c4ac60e9ffc2caa7c3f5760bcfc949734be90fef0ce", func := "octant/octantlaw07.ClockErrors", spec := "clockErrors", unfollowed := true, recurses := true, plainKeys := false, apart := false, narrowed := true }
def ClockErrorsUptoSaid : Prop := clockErrorsUptoRow.holds Tryz.pinned (OpenSpec.upto clockErrorsSpec)

/-- 'octantlaw07.ClockRanks', WHERE WHAT IT READS IS OF BULK AT MOST 1048576: true; the input reads as it did. -/
def clockRanksUptoRow : OpenClaim := { program := "ytlegfejimphfbaagreat", sum := "ed0f299ae61a0a9ba6741c4ac60e9ffc2caa7c3f5760bcfc949734be90fef0ce", func := "octant/octantlaw07.ClockRanks", spec := "clockRanks", unfollowed := true, recurses := true, plainKeys := false, apart := false, narrowed := true }
def ClockRanksUptoSaid : Prop := clockRanksUptoRow.holds Tryz.pinned (OpenSpec.upto clockRanksSpec)

/-- 'octantlaw07.ClockWatches', WHERE WHAT IT READS IS OF BULK AT MOST 1048576: true; the input reads as it did. -/
def clockWatchesUptoRow : OpenClaim := { program := "ytlegfejimphfbaagreat", sum := "ed0f299ae61a0a9ba6741c4ac60e9ffc2caa7c3f5760bcfc949734be90fef0ce", func := "octant/octantlaw07.ClockWatches", spec := "clockWatches", unfollowed := true, recurses := true, plainKeys := false, apart := false, narrowed := true }
def ClockWatchesUptoSaid : Prop := clockWatchesUptoRow.holds Tryz.pinned (OpenSpec.upto clockWatchesSpec)

/-- 'octantlaw07.ClockHolds', WHERE WHAT IT READS IS OF BULK AT MOST 1048576: true; the input reads as it did. -/
def clockHoldsUptoRow : OpenClaim := { program := "ytlegfejimphfbaagreat", sum := "ed0f299ae61a0a9ba6741c4ac60e9ffc2caa7c3f5760bcfc949734be90fef0ce", func := "octant/octantlaw07.ClockHolds", spec := "clockHolds", unfollowed := true, recurses := true, plainKeys := false, apart := false, narrowed := true }
def ClockHoldsUptoSaid : Prop := clockHoldsUptoRow.holds Tryz.pinned (OpenSpec.upto clockHoldsSpec)

/-- 'octantlaw07.ClockEnds', WHERE WHAT IT READS IS OF BULK AT MOST 1048576: true; the input reads as it did. -/
def clockEndsUptoRow : OpenClaim := { program := "ytlegfejimphfbaagreat", sum := "ed0f299ae61a0a9ba6741c4ac60e9ffc2caa7c3f5760bcfc949734be90fef0ce", func := "octant/octantlaw07.ClockEnds", spec := "clockEnds", unfollowed := true, recurses := true, plainKeys := false, apart := false, narrowed := true }
def ClockEndsUptoSaid : Prop := clockEndsUptoRow.holds Tryz.pinned (OpenSpec.upto clockEndsSpec)

/-- 'octantlaw07.ClockNarrow', WHERE WHAT IT READS IS OF BULK AT MOST 1048576: true; the input reads as it did. -/
def clockNarrowUptoRow : OpenClaim := { program := "ytlegfejimphfbaagreat", sum := "ed0f299ae61a0a9ba6741c4ac60e9ffc2caa7c3f5760bcfc949734be90fef0ce", func := "octant/octantlaw07.ClockNarrow", spec := "clockNarrow", unfollowed := true, recurses := true, plainKeys := false, apart := false, narrowed := true }
def ClockNarrowUptoSaid : Prop := clockNarrowUptoRow.holds Tryz.pinned (OpenSpec.upto clockNarrowSpec)

/-- 'octantlaw07.ClockRule', WHERE WHAT IT READS IS OF BULK AT MOST 1048576: true; the input reads as it did. -/
def clockRuleUptoRow : OpenClaim := { program := "ytlegfejimphfbaagreat", sum := "ed0f299ae61a0a9ba6741c4ac60e9ffc2caa7c3f5760bcfc949734be90fef0ce", func := "octant/octantlaw07.ClockRule", spec := "clockRule", unfollowed := true, recurses := true, plainKeys := false, apart := false, narrowed := true }
def ClockRuleUptoSaid : Prop := clockRuleUptoRow.holds Tryz.pinned (OpenSpec.upto clockRuleSpec)

/-- 'octantlaw07.ClockSteady', WHERE WHAT IT READS IS OF BULK AT MOST 1048576: true; the input reads as it did. -/
def clockSteadyUptoRow : OpenClaim := { program := "ytlegfejimphfbaagreat", sum := "ed0f299ae61a0a9ba6741c4ac60e9ffc2caa7c3f5760bcfc949734be90fef0ce", func := "octant/octantlaw07.ClockSteady", spec := "clockSteady", unfollowed := true, recurses := true, plainKeys := false, apart := false, narrowed := true }
def ClockSteadyUptoSaid : Prop := clockSteadyUptoRow.holds Tryz.pinned (OpenSpec.upto clockSteadySpec)

/-- 'octantlaw07.ClockConvicts', WHERE WHAT IT READS IS OF BULK AT MOST 1048576: true; the input reads as it did. -/
def clockConvictsUptoRow : OpenClaim := { program := "ytlegfejimphfbaagreat", sum := "ed0f299ae61a0a9ba6741c4ac60e9ffc2caa7c3f5760bcfc949734be90fef0ce", func := "octant/octantlaw07.ClockConvicts", spec := "clockConvicts", unfollowed := true, recurses := true, plainKeys := false, apart := false, narrowed := true }
def ClockConvictsUptoSaid : Prop := clockConvictsUptoRow.holds Tryz.pinned (OpenSpec.upto clockConvictsSpec)

/-- 'octantlaw07.ClockLonger', WHERE WHAT IT READS IS OF BULK AT MOST 1048576: true; the input reads as it did. -/
def clockLongerUptoRow : OpenClaim := { program := "ytlegfejimphfbaagreat", sum := "ed0f299ae61a0a9ba6741c4ac60e9ffc2caa7c3f5760bcfc949734be90fef0ce", func := "octant/octantlaw07.ClockLonger", spec := "clockLonger", unfollowed := true, recurses := true, plainKeys := false, apart := false, narrowed := true }
def ClockLongerUptoSaid : Prop := clockLongerUptoRow.holds Tryz.pinned (OpenSpec.upto clockLongerSpec)

end Rows
end Go.Proofs.YtlegfejimphfbaaGreat
