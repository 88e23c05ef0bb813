/-
  No cell of these rows narrows 'for every input' (looked for: loops, veiled, ifaces, maps, wideKeys, modest, calm, conditions, laid).
  DERIVED. THE GIVEN ROWS OF THIS SEAT. 11 by the template 'for every input the law returns true; each argument reads behind the call as it read before'; 0 by the template 'total and deterministic' (their statements: YtnkbcapikenbbaaTotals.lean).
  GIVEN WITH THE SEED: the statements are not yours to turn. If you find one false, say at which input.
  Laid BY PROGRAM, IN A SANDBOX (cutbox-rows.mjs): the forced cells as the released guide's own fill.sh prints them over the translation 22c36c7ef7bcb2bc… (all of the seat's roots in one cut). By AI agents, Wed Nov 11 2026. No macro, syntax, notation, axiom, sorry.
-/
import Derived.Test.YtnkbcapikenbbaaChecked
import GoSem.Claim
import GoSem.ClaimJoined
import GoSem.ClaimMapViews
import Derived.JoinedTies
import Derived.KernelRfl
namespace Go.Proofs.Ytnkbcapikenbbaa
/- THE CELL 'sum', in the pinned program and in every row, IS THE sha256 OF THE DUMP (.gsa) THAT YtnkbcapikenbbaaProg.lean LOADS. Nothing in Lean hashes anything: it is a label: what it is worth is what the hold of that sum in a sandbox is worth. -/
noncomputable def Try.pinned : Pinned := { name := "ytnkbcapikenbbaa", sum := "22c36c7ef7bcb2bca7634639d438911d5d1420ad1a8b818449594489a10734f8", checked := Try.checked }
namespace Rows
def none {H : Type} : Left H := { results := [], args := [] }

/-- 'clavendierlaw01.ClockReads': WHATEVER THE INPUT: true; the input reads as it did. -/
def clockReadsSpec : ChangeSpec := { name := "clockReads", fn := fun _ => fun
  | [d1, d2] => { results := [.lit (.bool true)], args := [d1, d2] }
  | _ => none }
def clockReadsRow : OpenClaim := { program := "ytnkbcapikenbbaa", sum := "22c36c7ef7bcb2bca7634639d438911d5d1420ad1a8b818449594489a10734f8", func := "clavendier/clavendierlaw01.ClockReads", spec := "clockReads", unfollowed := true, recurses := true, plainKeys := false, apart := false }
def ClockReadsSaid : Prop := clockReadsRow.holds Try.pinned (OpenSpec.ofChange clockReadsSpec)

/-- ITS FALSE NEIGHBOUR: 'it returns false'. Refute it at one input. -/
def clockReadsWrong : ChangeSpec := { name := "clockReads", fn := fun _ => fun
  | [d1, d2] => { results := [.lit (.bool false)], args := [d1, d2] }
  | _ => none }
def ClockReadsWrongFalsely : Prop := clockReadsRow.holds Try.pinned (OpenSpec.ofChange clockReadsWrong)

/-- 'clavendierlaw01.ClockFirsts': WHATEVER THE INPUT: true; the input reads as it did. -/
def clockFirstsSpec : ChangeSpec := { name := "clockFirsts", fn := fun _ => fun
  | [d1, d2, d3] => { results := [.lit (.bool true)], args := [d1, d2, d3] }
  | _ => none }
def clockFirstsRow : OpenClaim := { program := "ytnkbcapikenbbaa", sum := "22c36c7ef7bcb2bca7634639d438911d5d1420ad1a8b818449594489a10734f8", func := "clavendier/clavendierlaw01.ClockFirsts", spec := "clockFirsts", unfollowed := true, recurses := true, plainKeys := false, apart := false }
def ClockFirstsSaid : Prop := clockFirstsRow.holds Try.pinned (OpenSpec.ofChange clockFirstsSpec)

/-- ITS FALSE NEIGHBOUR: 'it returns false'. Refute it at one input. -/
def clockFirstsWrong : ChangeSpec := { name := "clockFirsts", fn := fun _ => fun
  | [d1, d2, d3] => { results := [.lit (.bool false)], args := [d1, d2, d3] }
  | _ => none }
def ClockFirstsWrongFalsely : Prop := clockFirstsRow.holds Try.pinned (OpenSpec.ofChange clockFirstsWrong)

/-- 'clavendierlaw01.ClockBooks': WHATEVER THE INPUT: true; the input reads as it did. -/
def clockBooksSpec : ChangeSpec := { name := "clockBooks", fn := fun _ => fun
  | [d1, d2] => { results := [.lit (.bool true)], args := [d1, d2] }
  | _ => none }
def clockBooksRow : OpenClaim := { program := "ytnkbcapikenbbaa", sum := "22c36c7ef7bcb2bca7634639d438911d5d1420ad1a8b818449594489a10734f8", func := "clavendier/clavendierlaw01.ClockBooks", spec := "clockBooks", unfollowed := true, recurses := true, plainKeys := false, apart := false }
def ClockBooksSaid : Prop := clockBooksRow.holds Try.pinned (OpenSpec.ofChange clockBooksSpec)

/-- ITS FALSE NEIGHBOUR: 'it returns false'. Refute it at one input. -/
def clockBooksWrong : ChangeSpec := { name := "clockBooks", fn := fun _ => fun
  | [d1, d2] => { results := [.lit (.bool false)], args := [d1, d2] }
  | _ => none }
def ClockBooksWrongFalsely : Prop := clockBooksRow.holds Try.pinned (OpenSpec.ofChange clockBooksWrong)

/-- 'clavendierlaw01.ClockTrue': WHATEVER THE INPUT: true; the input reads as it did. -/
def clockTrueSpec : ChangeSpec := { name := "clockTrue", fn := fun _ => fun
  | [d1, d2, d3] => { results := [.lit (.bool true)], args := [d1, d2, d3] }
  | _ => none }
def clockTrueRow : OpenClaim := { program := "ytnkbcapikenbbaa", sum := "22c36c7ef7bcb2bca7634639d438911d5d1420ad1a8b818449594489a10734f8", func := "clavendier/clavendierlaw01.ClockTrue", spec := "clockTrue", unfollowed := true, recurses := true, plainKeys := false, apart := false }
def ClockTrueSaid : Prop := clockTrueRow.holds Try.pinned (OpenSpec.ofChange clockTrueSpec)

/-- ITS FALSE NEIGHBOUR: 'it returns false'. Refute it at one input. -/
def clockTrueWrong : ChangeSpec := { name := "clockTrue", fn := fun _ => fun
  | [d1, d2, d3] => { results := [.lit (.bool false)], args := [d1, d2, d3] }
  | _ => none }
def ClockTrueWrongFalsely : Prop := clockTrueRow.holds Try.pinned (OpenSpec.ofChange clockTrueWrong)

/-- 'clavendierlaw01.ClockEnds': WHATEVER THE INPUT: true; the input reads as it did. -/
def clockEndsSpec : ChangeSpec := { name := "clockEnds", fn := fun _ => fun
  | [d1, d2] => { results := [.lit (.bool true)], args := [d1, d2] }
  | _ => none }
def clockEndsRow : OpenClaim := { program := "ytnkbcapikenbbaa", sum := "22c36c7ef7bcb2bca7634639d438911d5d1420ad1a8b818449594489a10734f8", func := "clavendier/clavendierlaw01.ClockEnds", spec := "clockEnds", unfollowed := true, recurses := true, plainKeys := false, apart := false }
def ClockEndsSaid : Prop := clockEndsRow.holds Try.pinned (OpenSpec.ofChange clockEndsSpec)

/-- ITS FALSE NEIGHBOUR: 'it returns false'. Refute it at one input. -/
def clockEndsWrong : ChangeSpec := { name := "clockEnds", fn := fun _ => fun
  | [d1, d2] => { results := [.lit (.bool false)], args := [d1, d2] }
  | _ => none }
def ClockEndsWrongFalsely : Prop := clockEndsRow.holds Try.pinned (OpenSpec.ofChange clockEndsWrong)

/-- 'clavendierlaw01.ClockWritten': WHATEVER THE INPUT: true; the input reads as it did. -/
def clockWrittenSpec : ChangeSpec := { name := "clockWritten", fn := fun _ => fun
  | [d1, d2, d3] => { results := [.lit (.bool true)], args := [d1, d2, d3] }
  | _ => none }
def clockWrittenRow : OpenClaim := { program := "ytnkbcapikenbbaa", sum := "22c36c7ef7bcb2bca7634639d438911d5d1420ad1a8b818449594489a10734f8", func := "clavendier/clavendierlaw01.ClockWritten", spec := "clockWritten", unfollowed := true, recurses := true, plainKeys := false, apart := false }
def ClockWrittenSaid : Prop := clockWrittenRow.holds Try.pinned (OpenSpec.ofChange clockWrittenSpec)

/-- ITS FALSE NEIGHBOUR: 'it returns false'. Refute it at one input. -/
def clockWrittenWrong : ChangeSpec := { name := "clockWritten", fn := fun _ => fun
  | [d1, d2, d3] => { results := [.lit (.bool false)], args := [d1, d2, d3] }
  | _ => none }
def ClockWrittenWrongFalsely : Prop := clockWrittenRow.holds Try.pinned (OpenSpec.ofChange clockWrittenWrong)

/-- 'clavendierlaw01.ClockMore': WHATEVER THE INPUT: true; the input reads as it did. -/
def clockMoreSpec : ChangeSpec := { name := "clockMore", fn := fun _ => fun
  | [d1, d2, d3] => { results := [.lit (.bool true)], args := [d1, d2, d3] }
  | _ => none }
def clockMoreRow : OpenClaim := { program := "ytnkbcapikenbbaa", sum := "22c36c7ef7bcb2bca7634639d438911d5d1420ad1a8b818449594489a10734f8", func := "clavendier/clavendierlaw01.ClockMore", spec := "clockMore", unfollowed := true, recurses := true, plainKeys := false, apart := false }
def ClockMoreSaid : Prop := clockMoreRow.holds Try.pinned (OpenSpec.ofChange clockMoreSpec)

/-- ITS FALSE NEIGHBOUR: 'it returns false'. Refute it at one input. -/
def clockMoreWrong : ChangeSpec := { name := "clockMore", fn := fun _ => fun
  | [d1, d2, d3] => { results := [.lit (.bool false)], args := [d1, d2, d3] }
  | _ => none }
def ClockMoreWrongFalsely : Prop := clockMoreRow.holds Try.pinned (OpenSpec.ofChange clockMoreWrong)

/-- 'clavendierlaw01.ClockWrong': WHATEVER THE INPUT: true; the input reads as it did. -/
def clockWrongSpec : ChangeSpec := { name := "clockWrong", fn := fun _ => fun
  | [d1, d2, d3] => { results := [.lit (.bool true)], args := [d1, d2, d3] }
  | _ => none }
def clockWrongRow : OpenClaim := { program := "ytnkbcapikenbbaa", sum := "22c36c7ef7bcb2bca7634639d438911d5d1420ad1a8b818449594489a10734f8", func := "clavendier/clavendierlaw01.ClockWrong", spec := "clockWrong", unfollowed := true, recurses := true, plainKeys := false, apart := false }
def ClockWrongSaid : Prop := clockWrongRow.holds Try.pinned (OpenSpec.ofChange clockWrongSpec)

/-- ITS FALSE NEIGHBOUR: 'it returns false'. Refute it at one input. -/
def clockWrongWrong : ChangeSpec := { name := "clockWrong", fn := fun _ => fun
  | [d1, d2, d3] => { results := [.lit (.bool false)], args := [d1, d2, d3] }
  | _ => none }
def ClockWrongWrongFalsely : Prop := clockWrongRow.holds Try.pinned (OpenSpec.ofChange clockWrongWrong)

/-- 'clavendierlaw01.ClockBefore': WHATEVER THE INPUT: true; the input reads as it did. -/
def clockBeforeSpec : ChangeSpec := { name := "clockBefore", fn := fun _ => fun
  | [d1, d2, d3, d4] => { results := [.lit (.bool true)], args := [d1, d2, d3, d4] }
  | _ => none }
def clockBeforeRow : OpenClaim := { program := "ytnkbcapikenbbaa", sum := "22c36c7ef7bcb2bca7634639d438911d5d1420ad1a8b818449594489a10734f8", func := "clavendier/clavendierlaw01.ClockBefore", spec := "clockBefore", unfollowed := true, recurses := true, plainKeys := false, apart := false }
def ClockBeforeSaid : Prop := clockBeforeRow.holds Try.pinned (OpenSpec.ofChange clockBeforeSpec)

/-- ITS FALSE NEIGHBOUR: 'it returns false'. Refute it at one input. -/
def clockBeforeWrong : ChangeSpec := { name := "clockBefore", fn := fun _ => fun
  | [d1, d2, d3, d4] => { results := [.lit (.bool false)], args := [d1, d2, d3, d4] }
  | _ => none }
def ClockBeforeWrongFalsely : Prop := clockBeforeRow.holds Try.pinned (OpenSpec.ofChange clockBeforeWrong)

/-- 'clavendierlaw01.ClockPlain': WHATEVER THE INPUT: true; the input reads as it did. -/
def clockPlainSpec : ChangeSpec := { name := "clockPlain", fn := fun _ => fun
  | [d1, d2] => { results := [.lit (.bool true)], args := [d1, d2] }
  | _ => none }
def clockPlainRow : OpenClaim := { program := "ytnkbcapikenbbaa", sum := "22c36c7ef7bcb2bca7634639d438911d5d1420ad1a8b818449594489a10734f8", func := "clavendier/clavendierlaw01.ClockPlain", spec := "clockPlain", unfollowed := true, recurses := true, plainKeys := false, apart := false }
def ClockPlainSaid : Prop := clockPlainRow.holds Try.pinned (OpenSpec.ofChange clockPlainSpec)

/-- ITS FALSE NEIGHBOUR: 'it returns false'. Refute it at one input. -/
def clockPlainWrong : ChangeSpec := { name := "clockPlain", fn := fun _ => fun
  | [d1, d2] => { results := [.lit (.bool false)], args := [d1, d2] }
  | _ => none }
def ClockPlainWrongFalsely : Prop := clockPlainRow.holds Try.pinned (OpenSpec.ofChange clockPlainWrong)

/-- 'clavendierlaw01.ClockKnown': WHATEVER THE INPUT: true; the input reads as it did. -/
def clockKnownSpec : ChangeSpec := { name := "clockKnown", fn := fun _ => fun
  | [] => { results := [.lit (.bool true)], args := [] }
  | _ => none }
def clockKnownRow : OpenClaim := { program := "ytnkbcapikenbbaa", sum := "22c36c7ef7bcb2bca7634639d438911d5d1420ad1a8b818449594489a10734f8", func := "clavendier/clavendierlaw01.ClockKnown", spec := "clockKnown", unfollowed := true, recurses := true, plainKeys := false, apart := false }
def ClockKnownSaid : Prop := clockKnownRow.holds Try.pinned (OpenSpec.ofChange clockKnownSpec)

/-- ITS FALSE NEIGHBOUR: 'it returns false'. Refute it at one input. -/
def clockKnownWrong : ChangeSpec := { name := "clockKnown", fn := fun _ => fun
  | [] => { results := [.lit (.bool false)], args := [] }
  | _ => none }
def ClockKnownWrongFalsely : Prop := clockKnownRow.holds Try.pinned (OpenSpec.ofChange clockKnownWrong)

/- THE SECOND FORM. 'bulk': how many values and letters a reading holds, each counted each time it is reached (what is shared counts as often as it is met; a slice's spare places count too). A statement '..UptoSaid' is the law's where the arguments, and the package variables that the reading takes, are together of bulk at most 1048576: NARROWER than '..Said'. Prove '..Said' where nothing that the law and all that it calls make is longer than what came in: it says more and counts as full. Else prove '..UptoSaid'. A law counts once. -/
mutual
def uptoBulk {H : Type} : DataW H → Nat
  | .lit (.string bytes) => bytes.length + 1
  | .lit _ => 1
  | .nil => 1
  | .ptr d => uptoBulk d + 1
  | .slice elems spare => uptoBulkAll elems + uptoBulkAll spare + 1
  | .agg parts => uptoBulkAll parts + 1
  | .iface _ d => uptoBulk d + 1
  | .map entries => uptoBulkEntries entries + 1
  | .held _ => 1
def uptoBulkAll {H : Type} : List (DataW H) → Nat
  | [] => 0
  | d :: r => uptoBulk d + uptoBulkAll r
def uptoBulkEntries {H : Type} : List (Lit × DataW H) → Nat
  | [] => 0
  | x :: r => uptoBulkEntry x + uptoBulkEntries r
def uptoBulkEntry {H : Type} : Lit × DataW H → Nat
  | (.string bytes, d) => bytes.length + uptoBulk d + 1
  | (_, d) => uptoBulk d + 1
 end
def uptoSmall : (H : Type) → List (DataW H) → Bool := fun _ ds => decide (uptoBulkAll ds ≤ 1048576)
def OpenSpec.upto (s : _root_.Go.ChangeSpec) : _root_.Go.OpenSpec := { _root_.Go.OpenSpec.ofChange s with cond := some uptoSmall }

/-- 'clavendierlaw01.ClockReads', WHERE WHAT IT READS IS OF BULK AT MOST 1048576: true; the input reads as it did. -/
def clockReadsUptoRow : OpenClaim := { program := "ytnkbcapikenbbaa", sum := "22c36c7ef7bcb2bca7634639d438911d5d1420ad1a8b818449594489a10734f8", func := "clavendier/clavendierlaw01.ClockReads", spec := "clockReads", unfollowed := true, recurses := true, plainKeys := false, apart := false, narrowed := true }
def ClockReadsUptoSaid : Prop := clockReadsUptoRow.holds Try.pinned (OpenSpec.upto clockReadsSpec)

/-- 'clavendierlaw01.ClockFirsts', WHERE WHAT IT READS IS OF BULK AT MOST 1048576: true; the input reads as it did. -/
def clockFirstsUptoRow : OpenClaim := { program := "ytnkbcapikenbbaa", sum := "22c36c7ef7bcb2bca7634639d438911d5d1420ad1a8b818449594489a10734f8", func := "clavendier/clavendierlaw01.ClockFirsts", spec := "clockFirsts", unfollowed := true, recurses := true, plainKeys := false, apart := false, narrowed := true }
def ClockFirstsUptoSaid : Prop := clockFirstsUptoRow.holds Try.pinned (OpenSpec.upto clockFirstsSpec)

/-- 'clavendierlaw01.ClockBooks', WHERE WHAT IT READS IS OF BULK AT MOST 1048576: true; the input reads as it did. -/
def clockBooksUptoRow : OpenClaim := { program := "ytnkbcapikenbbaa", sum := "22c36c7ef7bcb2bca7634639d438911d5d1420ad1a8b818449594489a10734f8", func := "clavendier/clavendierlaw01.ClockBooks", spec := "clockBooks", unfollowed := true, recurses := true, plainKeys := false, apart := false, narrowed := true }
def ClockBooksUptoSaid : Prop := clockBooksUptoRow.holds Try.pinned (OpenSpec.upto clockBooksSpec)

/-- 'clavendierlaw01.ClockTrue', WHERE WHAT IT READS IS OF BULK AT MOST 1048576: true; the input reads as it did. -/
def clockTrueUptoRow : OpenClaim := { program := "ytnkbcapikenbbaa", sum := "22c36c7ef7bcb2bca7634639d438911d5d1420ad1a8b818449594489a10734f8", func := "clavendier/clavendierlaw01.ClockTrue", spec := "clockTrue", unfollowed := true, recurses := true, plainKeys := false, apart := false, narrowed := true }
def ClockTrueUptoSaid : Prop := clockTrueUptoRow.holds Try.pinned (OpenSpec.upto clockTrueSpec)

/-- 'clavendierlaw01.ClockEnds', WHERE WHAT IT READS IS OF BULK AT MOST 1048576: true; the input reads as it did. -/
def clockEndsUptoRow : OpenClaim := { program := "ytnkbcapikenbbaa", sum := "22c36c7ef7bcb2bca7634639d438911d5d1420ad1a8b818449594489a10734f8", func := "clavendier/clavendierlaw01.ClockEnds", spec := "clockEnds", unfollowed := true, recurses := true, plainKeys := false, apart := false, narrowed := true }
def ClockEndsUptoSaid : Prop := clockEndsUptoRow.holds Try.pinned (OpenSpec.upto clockEndsSpec)

/-- 'clavendierlaw01.ClockWritten', WHERE WHAT IT READS IS OF BULK AT MOST 1048576: true; the input reads as it did. -/
def clockWrittenUptoRow : OpenClaim := { program := "ytnkbcapikenbbaa", sum := "22c36c7ef7bcb2bca7634639d438911d5d1420ad1a8b818449594489a10734f8", func := "clavendier/clavendierlaw01.ClockWritten", spec := "clockWritten", unfollowed := true, recurses := true, plainKeys := false, apart := false, narrowed := true }
def ClockWrittenUptoSaid : Prop := clockWrittenUptoRow.holds Try.pinned (OpenSpec.upto clockWrittenSpec)

/-- 'clavendierlaw01.ClockMore', WHERE WHAT IT READS IS OF BULK AT MOST 1048576: true; the input reads as it did. -/
def clockMoreUptoRow : OpenClaim := { program := "ytnkbcapikenbbaa", sum := "22c36c7ef7bcb2bca7634639d438911d5d1420ad1a8b818449594489a10734f8", func := "clavendier/clavendierlaw01.ClockMore", spec := "clockMore", unfollowed := true, recurses := true, plainKeys := false, apart := false, narrowed := true }
def ClockMoreUptoSaid : Prop := clockMoreUptoRow.holds Try.pinned (OpenSpec.upto clockMoreSpec)

/-- 'clavendierlaw01.ClockWrong', WHERE WHAT IT READS IS OF BULK AT MOST 1048576: true; the input reads as it did. -/
def clockWrongUptoRow : OpenClaim := { program := "ytnkbcapikenbbaa", sum := "22c36c7ef7bcb2bca7634639d438911d5d1420ad1a8b818449594489a10734f8", func := "clavendier/clavendierlaw01.ClockWrong", spec := "clockWrong", unfollowed := true, recurses := true, plainKeys := false, apart := false, narrowed := true }
def ClockWrongUptoSaid : Prop := clockWrongUptoRow.holds Try.pinned (OpenSpec.upto clockWrongSpec)

/-- 'clavendierlaw01.ClockBefore', WHERE WHAT IT READS IS OF BULK AT MOST 1048576: true; the input reads as it did. -/
def clockBeforeUptoRow : OpenClaim := { program := "ytnkbcapikenbbaa", sum := "22c36c7ef7bcb2bca7634639d438911d5d1420ad1a8b818449594489a10734f8", func := "clavendier/clavendierlaw01.ClockBefore", spec := "clockBefore", unfollowed := true, recurses := true, plainKeys := false, apart := false, narrowed := true }
def ClockBeforeUptoSaid : Prop := clockBeforeUptoRow.holds Try.pinned (OpenSpec.upto clockBeforeSpec)

/-- 'clavendierlaw01.ClockPlain', WHERE WHAT IT READS IS OF BULK AT MOST 1048576: true; the input reads as it did. -/
def clockPlainUptoRow : OpenClaim := { program := "ytnkbcapikenbbaa", sum := "22c36c7ef7bcb2bca7634639d438911d5d1420ad1a8b818449594489a10734f8", func := "clavendier/clavendierlaw01.ClockPlain", spec := "clockPlain", unfollowed := true, recurses := true, plainKeys := false, apart := false, narrowed := true }
def ClockPlainUptoSaid : Prop := clockPlainUptoRow.holds Try.pinned (OpenSpec.upto clockPlainSpec)

/-- 'clavendierlaw01.ClockKnown', WHERE WHAT IT READS IS OF BULK AT MOST 1048576: true; the input reads as it did. -/
def clockKnownUptoRow : OpenClaim := { program := "ytnkbcapikenbbaa", sum := "22c36c7ef7bcb2bca7634639d438911d5d1420ad1a8b818449594489a10734f8", func := "clavendier/clavendierlaw01.ClockKnown", spec := "clockKnown", unfollowed := true, recurses := true, plainKeys := false, apart := false, narrowed := true }
def ClockKnownUptoSaid : Prop := clockKnownUptoRow.holds Try.pinned (OpenSpec.upto clockKnownSpec)

end Rows
end Go.Proofs.Ytnkbcapikenbbaa
