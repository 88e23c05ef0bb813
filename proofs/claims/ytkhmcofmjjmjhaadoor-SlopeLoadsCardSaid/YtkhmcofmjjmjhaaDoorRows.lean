/-
  NARROWER THAN 'FOR EVERY INPUT', by the rows' own cells (each row's printed sentence says how): SlopeLoads: laid · SlopeHours: laid · SlopeFalls: laid · SlopeTrue: laid · SlopeEnds: laid · SlopeSaid: laid · SlopeCrossed: laid · SlopeMore: laid · SlopeHolds: laid · SlopeWrong: laid · SlopeKnown: laid.
  DERIVED. THE GIVEN ROWS OF THIS SEAT. 11 by the template 'for every input the law returns true; each argument reads behind the call as it read before'; 0 by the template 'total and deterministic' (their statements: YtkhmcofmjjmjhaaDoorTotals.lean).
  GIVEN WITH THE SEED: the statements are not yours to turn. If you find one false, say at which input.
  Laid BY PROGRAM, IN A SANDBOX (cutbox-rows.mjs): the forced cells as the released guide's own fill.sh prints them over the translation 7f53f92c78e66ee1… (all of the seat's roots in one cut). By AI agents, Wed Nov 11 2026. No macro, syntax, notation, axiom, sorry.
-/
import Derived.Test.YtkhmcofmjjmjhaaDoorChecked
import GoSem.Claim
import GoSem.ClaimJoined
import GoSem.ClaimMapViews
import Derived.JoinedTies
import Derived.KernelRfl
namespace Go.Proofs.YtkhmcofmjjmjhaaDoor
/- THE CELL 'sum', in the pinned program and in every row, IS THE sha256 OF THE DUMP (.gsa) THAT YtkhmcofmjjmjhaaDoorProg.lean LOADS. Nothing in Lean hashes anything: it is a label: what it is worth is what the hold of that sum in a sandbox is worth. -/
noncomputable def Tryd.pinned : Pinned := { name := "ytkhmcofmjjmjhaadoor", sum := "7f53f92c78e66ee198a4a12220c445cca3a2351596930f05e593df9964fddeb8", checked := Tryd.checked }
namespace Rows
def none {H : Type} : Left H := { results := [], args := [] }

/- WHAT THE LISTED PACKAGE-LEVEL VARIABLES READ AS WHEN THE CALL BEGINS. Each datum BY PROGRAM (the guide's laid-datum.mjs) off the statement by which the dump's own 'gosem.cut.vars' lays the variable. In a bare row this is a premise. The card (YtkhmcofmjjmjhaaDoorCards.lean) ties it to the program's text. -/
def laid_math_bits_deBruijn32tab {H : Type} : DataW H := .agg [.lit (.int .u8 0), .lit (.int .u8 1), .lit (.int .u8 28), .lit (.int .u8 2), .lit (.int .u8 29), .lit (.int .u8 14), .lit (.int .u8 24), .lit (.int .u8 3), .lit (.int .u8 30), .lit (.int .u8 22), .lit (.int .u8 20), .lit (.int .u8 15), .lit (.int .u8 25), .lit (.int .u8 17), .lit (.int .u8 4), .lit (.int .u8 8), .lit (.int .u8 31), .lit (.int .u8 27), .lit (.int .u8 13), .lit (.int .u8 23), .lit (.int .u8 21), .lit (.int .u8 19), .lit (.int .u8 16), .lit (.int .u8 7), .lit (.int .u8 26), .lit (.int .u8 12), .lit (.int .u8 18), .lit (.int .u8 6), .lit (.int .u8 11), .lit (.int .u8 5), .lit (.int .u8 10), .lit (.int .u8 9)]
def laid_math_bits_deBruijn64tab {H : Type} : DataW H := .agg [.lit (.int .u8 0), .lit (.int .u8 1), .lit (.int .u8 56), .lit (.int .u8 2), .lit (.int .u8 57), .lit (.int .u8 49), .lit (.int .u8 28), .lit (.int .u8 3), .lit (.int .u8 61), .lit (.int .u8 58), .lit (.int .u8 42), .lit (.int .u8 50), .lit (.int .u8 38), .lit (.int .u8 29), .lit (.int .u8 17), .lit (.int .u8 4), .lit (.int .u8 62), .lit (.int .u8 47), .lit (.int .u8 59), .lit (.int .u8 36), .lit (.int .u8 45), .lit (.int .u8 43), .lit (.int .u8 51), .lit (.int .u8 22), .lit (.int .u8 53), .lit (.int .u8 39), .lit (.int .u8 33), .lit (.int .u8 30), .lit (.int .u8 24), .lit (.int .u8 18), .lit (.int .u8 12), .lit (.int .u8 5), .lit (.int .u8 63), .lit (.int .u8 55), .lit (.int .u8 48), .lit (.int .u8 27), .lit (.int .u8 60), .lit (.int .u8 41), .lit (.int .u8 37), .lit (.int .u8 16), .lit (.int .u8 46), .lit (.int .u8 35), .lit (.int .u8 44), .lit (.int .u8 21), .lit (.int .u8 52), .lit (.int .u8 32), .lit (.int .u8 23), .lit (.int .u8 11), .lit (.int .u8 54), .lit (.int .u8 26), .lit (.int .u8 40), .lit (.int .u8 15), .lit (.int .u8 34), .lit (.int .u8 20), .lit (.int .u8 31), .lit (.int .u8 10), .lit (.int .u8 25), .lit (.int .u8 14), .lit (.int .u8 19), .lit (.int .u8 9), .lit (.int .u8 13), .lit (.int .u8 8), .lit (.int .u8 7), .lit (.int .u8 6)]

/-- 'clavendierlaw03.SlopeLoads': WHATEVER THE INPUT: true; the input reads as it did. -/
def slopeLoadsSpec : ChangeSpec := { name := "slopeLoads", fn := fun _ => fun
  | [d1, d2] => { results := [.lit (.bool true)], args := [d1, d2] }
  | _ => none }
def slopeLoadsRow : OpenClaim := { program := "ytkhmcofmjjmjhaadoor", sum := "7f53f92c78e66ee198a4a12220c445cca3a2351596930f05e593df9964fddeb8", func := "clavendier/clavendierlaw03.SlopeLoads", spec := "slopeLoads", unfollowed := true, recurses := true, named := ["math/bits.deBruijn32tab", "math/bits.deBruijn64tab"], plainKeys := false, apart := false, laid := [("math/bits.deBruijn32tab", laid_math_bits_deBruijn32tab), ("math/bits.deBruijn64tab", laid_math_bits_deBruijn64tab)] }
def SlopeLoadsSaid : Prop := slopeLoadsRow.holds Tryd.pinned (OpenSpec.ofChange slopeLoadsSpec)

/-- ITS FALSE NEIGHBOUR: 'it returns false'. Refute it at one input. -/
def slopeLoadsWrong : ChangeSpec := { name := "slopeLoads", fn := fun _ => fun
  | [d1, d2] => { results := [.lit (.bool false)], args := [d1, d2] }
  | _ => none }
def SlopeLoadsWrongFalsely : Prop := slopeLoadsRow.holds Tryd.pinned (OpenSpec.ofChange slopeLoadsWrong)

/-- 'clavendierlaw03.SlopeHours': WHATEVER THE INPUT: true; the input reads as it did. -/
def slopeHoursSpec : ChangeSpec := { name := "slopeHours", fn := fun _ => fun
  | [d1, d2] => { results := [.lit (.bool true)], args := [d1, d2] }
  | _ => none }
def slopeHoursRow : OpenClaim := { program := "ytkhmcofmjjmjhaadoor", sum := "7f53f92c78e66ee198a4a12220c445cca3a2351596930f05e593df9964fddeb8", func := "clavendier/clavendierlaw03.SlopeHours", spec := "slopeHours", unfollowed := true, recurses := true, named := ["math/bits.deBruijn32tab", "math/bits.deBruijn64tab"], plainKeys := false, apart := false, laid := [("math/bits.deBruijn32tab", laid_math_bits_deBruijn32tab), ("math/bits.deBruijn64tab", laid_math_bits_deBruijn64tab)] }
def SlopeHoursSaid : Prop := slopeHoursRow.holds Tryd.pinned (OpenSpec.ofChange slopeHoursSpec)

/-- ITS FALSE NEIGHBOUR: 'it returns false'. Refute it at one input. -/
def slopeHoursWrong : ChangeSpec := { name := "slopeHours", fn := fun _ => fun
  | [d1, d2] => { results := [.lit (.bool false)], args := [d1, d2] }
  | _ => none }
def SlopeHoursWrongFalsely : Prop := slopeHoursRow.holds Tryd.pinned (OpenSpec.ofChange slopeHoursWrong)

/-- 'clavendierlaw03.SlopeFalls': WHATEVER THE INPUT: true; the input reads as it did. -/
def slopeFallsSpec : ChangeSpec := { name := "slopeFalls", fn := fun _ => fun
  | [d] => { results := [.lit (.bool true)], args := [d] }
  | _ => none }
def slopeFallsRow : OpenClaim := { program := "ytkhmcofmjjmjhaadoor", sum := "7f53f92c78e66ee198a4a12220c445cca3a2351596930f05e593df9964fddeb8", func := "clavendier/clavendierlaw03.SlopeFalls", spec := "slopeFalls", unfollowed := true, recurses := true, named := ["math/bits.deBruijn32tab", "math/bits.deBruijn64tab"], plainKeys := false, apart := false, laid := [("math/bits.deBruijn32tab", laid_math_bits_deBruijn32tab), ("math/bits.deBruijn64tab", laid_math_bits_deBruijn64tab)] }
def SlopeFallsSaid : Prop := slopeFallsRow.holds Tryd.pinned (OpenSpec.ofChange slopeFallsSpec)

/-- ITS FALSE NEIGHBOUR: 'it returns false'. Refute it at one input. -/
def slopeFallsWrong : ChangeSpec := { name := "slopeFalls", fn := fun _ => fun
  | [d] => { results := [.lit (.bool false)], args := [d] }
  | _ => none }
def SlopeFallsWrongFalsely : Prop := slopeFallsRow.holds Tryd.pinned (OpenSpec.ofChange slopeFallsWrong)

/-- 'clavendierlaw03.SlopeTrue': WHATEVER THE INPUT: true; the input reads as it did. -/
def slopeTrueSpec : ChangeSpec := { name := "slopeTrue", fn := fun _ => fun
  | [d1, d2] => { results := [.lit (.bool true)], args := [d1, d2] }
  | _ => none }
def slopeTrueRow : OpenClaim := { program := "ytkhmcofmjjmjhaadoor", sum := "7f53f92c78e66ee198a4a12220c445cca3a2351596930f05e593df9964fddeb8", func := "clavendier/clavendierlaw03.SlopeTrue", spec := "slopeTrue", unfollowed := true, recurses := true, named := ["math/bits.deBruijn32tab", "math/bits.deBruijn64tab"], plainKeys := false, apart := false, laid := [("math/bits.deBruijn32tab", laid_math_bits_deBruijn32tab), ("math/bits.deBruijn64tab", laid_math_bits_deBruijn64tab)] }
def SlopeTrueSaid : Prop := slopeTrueRow.holds Tryd.pinned (OpenSpec.ofChange slopeTrueSpec)

/-- ITS FALSE NEIGHBOUR: 'it returns false'. Refute it at one input. -/
def slopeTrueWrong : ChangeSpec := { name := "slopeTrue", fn := fun _ => fun
  | [d1, d2] => { results := [.lit (.bool false)], args := [d1, d2] }
  | _ => none }
def SlopeTrueWrongFalsely : Prop := slopeTrueRow.holds Tryd.pinned (OpenSpec.ofChange slopeTrueWrong)

/-- 'clavendierlaw03.SlopeEnds': WHATEVER THE INPUT: true; the input reads as it did. -/
def slopeEndsSpec : ChangeSpec := { name := "slopeEnds", fn := fun _ => fun
  | [d1, d2] => { results := [.lit (.bool true)], args := [d1, d2] }
  | _ => none }
def slopeEndsRow : OpenClaim := { program := "ytkhmcofmjjmjhaadoor", sum := "7f53f92c78e66ee198a4a12220c445cca3a2351596930f05e593df9964fddeb8", func := "clavendier/clavendierlaw03.SlopeEnds", spec := "slopeEnds", unfollowed := true, recurses := true, named := ["math/bits.deBruijn32tab", "math/bits.deBruijn64tab"], plainKeys := false, apart := false, laid := [("math/bits.deBruijn32tab", laid_math_bits_deBruijn32tab), ("math/bits.deBruijn64tab", laid_math_bits_deBruijn64tab)] }
def SlopeEndsSaid : Prop := slopeEndsRow.holds Tryd.pinned (OpenSpec.ofChange slopeEndsSpec)

/-- ITS FALSE NEIGHBOUR: 'it returns false'. Refute it at one input. -/
def slopeEndsWrong : ChangeSpec := { name := "slopeEnds", fn := fun _ => fun
  | [d1, d2] => { results := [.lit (.bool false)], args := [d1, d2] }
  | _ => none }
def SlopeEndsWrongFalsely : Prop := slopeEndsRow.holds Tryd.pinned (OpenSpec.ofChange slopeEndsWrong)

/-- 'clavendierlaw03.SlopeSaid': WHATEVER THE INPUT: true; the input reads as it did. -/
def slopeSaidSpec : ChangeSpec := { name := "slopeSaid", fn := fun _ => fun
  | [d1, d2] => { results := [.lit (.bool true)], args := [d1, d2] }
  | _ => none }
def slopeSaidRow : OpenClaim := { program := "ytkhmcofmjjmjhaadoor", sum := "7f53f92c78e66ee198a4a12220c445cca3a2351596930f05e593df9964fddeb8", func := "clavendier/clavendierlaw03.SlopeSaid", spec := "slopeSaid", unfollowed := true, recurses := true, named := ["math/bits.deBruijn32tab", "math/bits.deBruijn64tab"], plainKeys := false, apart := false, laid := [("math/bits.deBruijn32tab", laid_math_bits_deBruijn32tab), ("math/bits.deBruijn64tab", laid_math_bits_deBruijn64tab)] }
def SlopeSaidSaid : Prop := slopeSaidRow.holds Tryd.pinned (OpenSpec.ofChange slopeSaidSpec)

/-- ITS FALSE NEIGHBOUR: 'it returns false'. Refute it at one input. -/
def slopeSaidWrong : ChangeSpec := { name := "slopeSaid", fn := fun _ => fun
  | [d1, d2] => { results := [.lit (.bool false)], args := [d1, d2] }
  | _ => none }
def SlopeSaidWrongFalsely : Prop := slopeSaidRow.holds Tryd.pinned (OpenSpec.ofChange slopeSaidWrong)

/-- 'clavendierlaw03.SlopeCrossed': WHATEVER THE INPUT: true; the input reads as it did. -/
def slopeCrossedSpec : ChangeSpec := { name := "slopeCrossed", fn := fun _ => fun
  | [d1, d2] => { results := [.lit (.bool true)], args := [d1, d2] }
  | _ => none }
def slopeCrossedRow : OpenClaim := { program := "ytkhmcofmjjmjhaadoor", sum := "7f53f92c78e66ee198a4a12220c445cca3a2351596930f05e593df9964fddeb8", func := "clavendier/clavendierlaw03.SlopeCrossed", spec := "slopeCrossed", unfollowed := true, recurses := true, named := ["math/bits.deBruijn32tab", "math/bits.deBruijn64tab"], plainKeys := false, apart := false, laid := [("math/bits.deBruijn32tab", laid_math_bits_deBruijn32tab), ("math/bits.deBruijn64tab", laid_math_bits_deBruijn64tab)] }
def SlopeCrossedSaid : Prop := slopeCrossedRow.holds Tryd.pinned (OpenSpec.ofChange slopeCrossedSpec)

/-- ITS FALSE NEIGHBOUR: 'it returns false'. Refute it at one input. -/
def slopeCrossedWrong : ChangeSpec := { name := "slopeCrossed", fn := fun _ => fun
  | [d1, d2] => { results := [.lit (.bool false)], args := [d1, d2] }
  | _ => none }
def SlopeCrossedWrongFalsely : Prop := slopeCrossedRow.holds Tryd.pinned (OpenSpec.ofChange slopeCrossedWrong)

/-- 'clavendierlaw03.SlopeMore': WHATEVER THE INPUT: true; the input reads as it did. -/
def slopeMoreSpec : ChangeSpec := { name := "slopeMore", fn := fun _ => fun
  | [d1, d2, d3] => { results := [.lit (.bool true)], args := [d1, d2, d3] }
  | _ => none }
def slopeMoreRow : OpenClaim := { program := "ytkhmcofmjjmjhaadoor", sum := "7f53f92c78e66ee198a4a12220c445cca3a2351596930f05e593df9964fddeb8", func := "clavendier/clavendierlaw03.SlopeMore", spec := "slopeMore", unfollowed := true, recurses := true, named := ["math/bits.deBruijn32tab", "math/bits.deBruijn64tab"], plainKeys := false, apart := false, laid := [("math/bits.deBruijn32tab", laid_math_bits_deBruijn32tab), ("math/bits.deBruijn64tab", laid_math_bits_deBruijn64tab)] }
def SlopeMoreSaid : Prop := slopeMoreRow.holds Tryd.pinned (OpenSpec.ofChange slopeMoreSpec)

/-- ITS FALSE NEIGHBOUR: 'it returns false'. Refute it at one input. -/
def slopeMoreWrong : ChangeSpec := { name := "slopeMore", fn := fun _ => fun
  | [d1, d2, d3] => { results := [.lit (.bool false)], args := [d1, d2, d3] }
  | _ => none }
def SlopeMoreWrongFalsely : Prop := slopeMoreRow.holds Tryd.pinned (OpenSpec.ofChange slopeMoreWrong)

/-- 'clavendierlaw03.SlopeHolds': WHATEVER THE INPUT: true; the input reads as it did. -/
def slopeHoldsSpec : ChangeSpec := { name := "slopeHolds", fn := fun _ => fun
  | [d1, d2] => { results := [.lit (.bool true)], args := [d1, d2] }
  | _ => none }
def slopeHoldsRow : OpenClaim := { program := "ytkhmcofmjjmjhaadoor", sum := "7f53f92c78e66ee198a4a12220c445cca3a2351596930f05e593df9964fddeb8", func := "clavendier/clavendierlaw03.SlopeHolds", spec := "slopeHolds", unfollowed := true, recurses := true, named := ["math/bits.deBruijn32tab", "math/bits.deBruijn64tab"], plainKeys := false, apart := false, laid := [("math/bits.deBruijn32tab", laid_math_bits_deBruijn32tab), ("math/bits.deBruijn64tab", laid_math_bits_deBruijn64tab)] }
def SlopeHoldsSaid : Prop := slopeHoldsRow.holds Tryd.pinned (OpenSpec.ofChange slopeHoldsSpec)

/-- ITS FALSE NEIGHBOUR: 'it returns false'. Refute it at one input. -/
def slopeHoldsWrong : ChangeSpec := { name := "slopeHolds", fn := fun _ => fun
  | [d1, d2] => { results := [.lit (.bool false)], args := [d1, d2] }
  | _ => none }
def SlopeHoldsWrongFalsely : Prop := slopeHoldsRow.holds Tryd.pinned (OpenSpec.ofChange slopeHoldsWrong)

/-- 'clavendierlaw03.SlopeWrong': WHATEVER THE INPUT: true; the input reads as it did. -/
def slopeWrongSpec : ChangeSpec := { name := "slopeWrong", fn := fun _ => fun
  | [d1, d2] => { results := [.lit (.bool true)], args := [d1, d2] }
  | _ => none }
def slopeWrongRow : OpenClaim := { program := "ytkhmcofmjjmjhaadoor", sum := "7f53f92c78e66ee198a4a12220c445cca3a2351596930f05e593df9964fddeb8", func := "clavendier/clavendierlaw03.SlopeWrong", spec := "slopeWrong", unfollowed := true, recurses := true, named := ["math/bits.deBruijn32tab", "math/bits.deBruijn64tab"], plainKeys := false, apart := false, laid := [("math/bits.deBruijn32tab", laid_math_bits_deBruijn32tab), ("math/bits.deBruijn64tab", laid_math_bits_deBruijn64tab)] }
def SlopeWrongSaid : Prop := slopeWrongRow.holds Tryd.pinned (OpenSpec.ofChange slopeWrongSpec)

/-- ITS FALSE NEIGHBOUR: 'it returns false'. Refute it at one input. -/
def slopeWrongWrong : ChangeSpec := { name := "slopeWrong", fn := fun _ => fun
  | [d1, d2] => { results := [.lit (.bool false)], args := [d1, d2] }
  | _ => none }
def SlopeWrongWrongFalsely : Prop := slopeWrongRow.holds Tryd.pinned (OpenSpec.ofChange slopeWrongWrong)

/-- 'clavendierlaw03.SlopeKnown': WHATEVER THE INPUT: true; the input reads as it did. -/
def slopeKnownSpec : ChangeSpec := { name := "slopeKnown", fn := fun _ => fun
  | [] => { results := [.lit (.bool true)], args := [] }
  | _ => none }
def slopeKnownRow : OpenClaim := { program := "ytkhmcofmjjmjhaadoor", sum := "7f53f92c78e66ee198a4a12220c445cca3a2351596930f05e593df9964fddeb8", func := "clavendier/clavendierlaw03.SlopeKnown", spec := "slopeKnown", unfollowed := true, recurses := true, named := ["math/bits.deBruijn32tab", "math/bits.deBruijn64tab"], plainKeys := false, apart := false, laid := [("math/bits.deBruijn32tab", laid_math_bits_deBruijn32tab), ("math/bits.deBruijn64tab", laid_math_bits_deBruijn64tab)] }
def SlopeKnownSaid : Prop := slopeKnownRow.holds Tryd.pinned (OpenSpec.ofChange slopeKnownSpec)

/-- ITS FALSE NEIGHBOUR: 'it returns false'. Refute it at one input. -/
def slopeKnownWrong : ChangeSpec := { name := "slopeKnown", fn := fun _ => fun
  | [] => { results := [.lit (.bool false)], args := [] }
  | _ => none }
def SlopeKnownWrongFalsely : Prop := slopeKnownRow.holds Tryd.pinned (OpenSpec.ofChange slopeKnownWrong)

/- THE SECOND FORM. 'bulk': how many values and letters a reading holds, each counted each time it is reached (what is shared counts as often as it is met; a slice's spare places count too). A statement '..UptoSaid' is the law's where the arguments, and the package variables that the reading takes, are together of bulk at most 1048576: NARROWER than '..Said'. Prove '..Said' where nothing that the law and all that it calls make is longer than what came in: it says more and counts as full. Else prove '..UptoSaid'. A law counts once. -/
mutual
def uptoBulk {H : Type} : DataW H → Nat
  | .lit (.string bytes) => bytes.length + 1
  | .lit _ => 1
  | .nil => 1
  | .ptr d => uptoBulk d + 1
  | .slice elems spare => uptoBulkAll elems + uptoBulkAll spare + 1
  | .agg parts => uptoBulkAll parts + 1
  | .iface _ d => uptoBulk d + 1
  | .map entries => uptoBulkEntries entries + 1
  | .held _ => 1
def uptoBulkAll {H : Type} : List (DataW H) → Nat
  | [] => 0
  | d :: r => uptoBulk d + uptoBulkAll r
def uptoBulkEntries {H : Type} : List (Lit × DataW H) → Nat
  | [] => 0
  | x :: r => uptoBulkEntry x + uptoBulkEntries r
def uptoBulkEntry {H : Type} : Lit × DataW H → Nat
  | (.string bytes, d) => bytes.length + uptoBulk d + 1
  | (_, d) => uptoBulk d + 1
 end
def uptoSmall : (H : Type) → List (DataW H) → Bool := fun _ ds => decide (uptoBulkAll ds ≤ 1048576)
def OpenSpec.upto (s : _root_.Go.ChangeSpec) : _root_.Go.OpenSpec := { _root_.Go.OpenSpec.ofChange s with cond := some uptoSmall }

/-- 'clavendierlaw03.SlopeLoads', WHERE WHAT IT READS IS OF BULK AT MOST 1048576: true; the input reads as it did. -/
def slopeLoadsUptoRow : OpenClaim := { program := "ytkhmcofmjjmjhaadoor", sum := "7f53f92c78e66ee198a4a12220c445cca3a2351596930f05e593df9964fddeb8", func := "clavendier/clavendierlaw03.SlopeLoads", spec := "slopeLoads", unfollowed := true, recurses := true, named := ["math/bits.deBruijn32tab", "math/bits.deBruijn64tab"], plainKeys := false, apart := false, laid := [("math/bits.deBruijn32tab", laid_math_bits_deBruijn32tab), ("math/bits.deBruijn64tab", laid_math_bits_deBruijn64tab)], narrowed := true }
def SlopeLoadsUptoSaid : Prop := slopeLoadsUptoRow.holds Tryd.pinned (OpenSpec.upto slopeLoadsSpec)

/-- 'clavendierlaw03.SlopeHours', WHERE WHAT IT READS IS OF BULK AT MOST 1048576: true; the input reads as it did. -/
def slopeHoursUptoRow : OpenClaim := { program := "ytkhmcofmjjmjhaadoor", sum := "7f53f92c78e66ee198a4a12220c445cca3a2351596930f05e593df9964fddeb8", func := "clavendier/clavendierlaw03.SlopeHours", spec := "slopeHours", unfollowed := true, recurses := true, named := ["math/bits.deBruijn32tab", "math/bits.deBruijn64tab"], plainKeys := false, apart := false, laid := [("math/bits.deBruijn32tab", laid_math_bits_deBruijn32tab), ("math/bits.deBruijn64tab", laid_math_bits_deBruijn64tab)], narrowed := true }
def SlopeHoursUptoSaid : Prop := slopeHoursUptoRow.holds Tryd.pinned (OpenSpec.upto slopeHoursSpec)

/-- 'clavendierlaw03.SlopeFalls', WHERE WHAT IT READS IS OF BULK AT MOST 1048576: true; the input reads as it did. -/
def slopeFallsUptoRow : OpenClaim := { program := "ytkhmcofmjjmjhaadoor", sum := "7f53f92c78e66ee198a4a12220c445cca3a2351596930f05e593df9964fddeb8", func := "clavendier/clavendierlaw03.SlopeFalls", spec := "slopeFalls", unfollowed := true, recurses := true, named := ["math/bits.deBruijn32tab", "math/bits.deBruijn64tab"], plainKeys := false, apart := false, laid := [("math/bits.deBruijn32tab", laid_math_bits_deBruijn32tab), ("math/bits.deBruijn64tab", laid_math_bits_deBruijn64tab)], narrowed := true }
def SlopeFallsUptoSaid : Prop := slopeFallsUptoRow.holds Tryd.pinned (OpenSpec.upto slopeFallsSpec)

/-- 'clavendierlaw03.SlopeTrue', WHERE WHAT IT READS IS OF BULK AT MOST 1048576: true; the input reads as it did. -/
def slopeTrueUptoRow : OpenClaim := { program := "ytkhmcofmjjmjhaadoor", sum := "7f53f92c78e66ee198a4a12220c445cca3a2351596930f05e593df9964fddeb8", func := "clavendier/clavendierlaw03.SlopeTrue", spec := "slopeTrue", unfollowed := true, recurses := true, named := ["math/bits.deBruijn32tab", "math/bits.deBruijn64tab"], plainKeys := false, apart := false, laid := [("math/bits.deBruijn32tab", laid_math_bits_deBruijn32tab), ("math/bits.deBruijn64tab", laid_math_bits_deBruijn64tab)], narrowed := true }
def SlopeTrueUptoSaid : Prop := slopeTrueUptoRow.holds Tryd.pinned (OpenSpec.upto slopeTrueSpec)

/-- 'clavendierlaw03.SlopeEnds', WHERE WHAT IT READS IS OF BULK AT MOST 1048576: true; the input reads as it did. -/
def slopeEndsUptoRow : OpenClaim := { program := "ytkhmcofmjjmjhaadoor", sum := "7f53f92c78e66ee198a4a12220c445cca3a2351596930f05e593df9964fddeb8", func := "clavendier/clavendierlaw03.SlopeEnds", spec := "slopeEnds", unfollowed := true, recurses := true, named := ["math/bits.deBruijn32tab", "math/bits.deBruijn64tab"], plainKeys := false, apart := false, laid := [("math/bits.deBruijn32tab", laid_math_bits_deBruijn32tab), ("math/bits.deBruijn64tab", laid_math_bits_deBruijn64tab)], narrowed := true }
def SlopeEndsUptoSaid : Prop := slopeEndsUptoRow.holds Tryd.pinned (OpenSpec.upto slopeEndsSpec)

/-- 'clavendierlaw03.SlopeSaid', WHERE WHAT IT READS IS OF BULK AT MOST 1048576: true; the input reads as it did. -/
def slopeSaidUptoRow : OpenClaim := { program := "ytkhmcofmjjmjhaadoor", sum := "7f53f92c78e66ee198a4a12220c445cca3a2351596930f05e593df9964fddeb8", func := "clavendier/clavendierlaw03.SlopeSaid", spec := "slopeSaid", unfollowed := true, recurses := true, named := ["math/bits.deBruijn32tab", "math/bits.deBruijn64tab"], plainKeys := false, apart := false, laid := [("math/bits.deBruijn32tab", laid_math_bits_deBruijn32tab), ("math/bits.deBruijn64tab", laid_math_bits_deBruijn64tab)], narrowed := true }
def SlopeSaidUptoSaid : Prop := slopeSaidUptoRow.holds Tryd.pinned (OpenSpec.upto slopeSaidSpec)

/-- 'clavendierlaw03.SlopeCrossed', WHERE WHAT IT READS IS OF BULK AT MOST 1048576: true; the input reads as it did. -/
def slopeCrossedUptoRow : OpenClaim := { program := "ytkhmcofmjjmjhaadoor", sum := "7f53f92c78e66ee198a4a12220c445cca3a2351596930f05e593df9964fddeb8", func := "clavendier/clavendierlaw03.SlopeCrossed", spec := "slopeCrossed", unfollowed := true, recurses := true, named := ["math/bits.deBruijn32tab", "math/bits.deBruijn64tab"], plainKeys := false, apart := false, laid := [("math/bits.deBruijn32tab", laid_math_bits_deBruijn32tab), ("math/bits.deBruijn64tab", laid_math_bits_deBruijn64tab)], narrowed := true }
def SlopeCrossedUptoSaid : Prop := slopeCrossedUptoRow.holds Tryd.pinned (OpenSpec.upto slopeCrossedSpec)

/-- 'clavendierlaw03.SlopeMore', WHERE WHAT IT READS IS OF BULK AT MOST 1048576: true; the input reads as it did. -/
def slopeMoreUptoRow : OpenClaim := { program := "ytkhmcofmjjmjhaadoor", sum := "7f53f92c78e66ee198a4a12220c445cca3a2351596930f05e593df9964fddeb8", func := "clavendier/clavendierlaw03.SlopeMore", spec := "slopeMore", unfollowed := true, recurses := true, named := ["math/bits.deBruijn32tab", "math/bits.deBruijn64tab"], plainKeys := false, apart := false, laid := [("math/bits.deBruijn32tab", laid_math_bits_deBruijn32tab), ("math/bits.deBruijn64tab", laid_math_bits_deBruijn64tab)], narrowed := true }
def SlopeMoreUptoSaid : Prop := slopeMoreUptoRow.holds Tryd.pinned (OpenSpec.upto slopeMoreSpec)

/-- 'clavendierlaw03.SlopeHolds', WHERE WHAT IT READS IS OF BULK AT MOST 1048576: true; the input reads as it did. -/
def slopeHoldsUptoRow : OpenClaim := { program := "ytkhmcofmjjmjhaadoor", sum := "7f53f92c78e66ee198a4a12220c445cca3a2351596930f05e593df9964fddeb8", func := "clavendier/clavendierlaw03.SlopeHolds", spec := "slopeHolds", unfollowed := true, recurses := true, named := ["math/bits.deBruijn32tab", "math/bits.deBruijn64tab"], plainKeys := false, apart := false, laid := [("math/bits.deBruijn32tab", laid_math_bits_deBruijn32tab), ("math/bits.deBruijn64tab", laid_math_bits_deBruijn64tab)], narrowed := true }
def SlopeHoldsUptoSaid : Prop := slopeHoldsUptoRow.holds Tryd.pinned (OpenSpec.upto slopeHoldsSpec)

/-- 'clavendierlaw03.SlopeWrong', WHERE WHAT IT READS IS OF BULK AT MOST 1048576: true; the input reads as it did. -/
def slopeWrongUptoRow : OpenClaim := { program := "ytkhmcofmjjmjhaadoor", sum := "7f53f92c78e66ee198a4a12220c445cca3a2351596930f05e593df9964fddeb8", func := "clavendier/clavendierlaw03.SlopeWrong", spec := "slopeWrong", unfollowed := true, recurses := true, named := ["math/bits.deBruijn32tab", "math/bits.deBruijn64tab"], plainKeys := false, apart := false, laid := [("math/bits.deBruijn32tab", laid_math_bits_deBruijn32tab), ("math/bits.deBruijn64tab", laid_math_bits_deBruijn64tab)], narrowed := true }
def SlopeWrongUptoSaid : Prop := slopeWrongUptoRow.holds Tryd.pinned (OpenSpec.upto slopeWrongSpec)

/-- 'clavendierlaw03.SlopeKnown', WHERE WHAT IT READS IS OF BULK AT MOST 1048576: true; the input reads as it did. -/
def slopeKnownUptoRow : OpenClaim := { program := "ytkhmcofmjjmjhaadoor", sum := "7f53f92c78e66ee198a4a12220c445cca3a2351596930f05e593df9964fddeb8", func := "clavendier/clavendierlaw03.SlopeKnown", spec := "slopeKnown", unfollowed := true, recurses := true, named := ["math/bits.deBruijn32tab", "math/bits.deBruijn64tab"], plainKeys := false, apart := false, laid := [("math/bits.deBruijn32tab", laid_math_bits_deBruijn32tab), ("math/bits.deBruijn64tab", laid_math_bits_deBruijn64tab)], narrowed := true }
def SlopeKnownUptoSaid : Prop := slopeKnownUptoRow.holds Tryd.pinned (OpenSpec.upto slopeKnownSpec)

end Rows
end Go.Proofs.YtkhmcofmjjmjhaaDoor
