/-
  No cell of these rows narrows 'for every input' (looked for: loops, veiled, ifaces, maps, wideKeys, modest, calm, conditions, laid).
  DERIVED. THE GIVEN ROWS OF THIS SEAT. 8 by the template 'for every input the law returns true; each argument reads behind the call as it read before'; 0 by the template 'total and deterministic' (their statements: YtbimkcjdodgojaaTotals.lean).
  GIVEN WITH THE SEED: the statements are not yours to turn. If you find one false, say at which input.
  Laid BY PROGRAM, IN A SANDBOX (cutbox-rows.mjs): the forced cells as the released guide's own fill.sh prints them over the translation 7c8f63d89ac56fed… (all of the seat's roots in one cut). By AI agents, Wed Nov 11 2026. No macro, syntax, notation, axiom, sorry.
-/
import Derived.Test.YtbimkcjdodgojaaChecked
import GoSem.Claim
import GoSem.ClaimJoined
import GoSem.ClaimMapViews
import Derived.JoinedTies
import Derived.KernelRfl
namespace Go.Proofs.Ytbimkcjdodgojaa
/- THE CELL 'sum', in the pinned program and in every row, IS THE sha256 OF THE DUMP (.gsa) THAT YtbimkcjdodgojaaProg.lean LOADS. Nothing in Lean hashes anything: it is a label: what it is worth is what the hold of that sum in a sandbox is worth. -/
noncomputable def Try.pinned : Pinned := { name := "ytbimkcjdodgojaa", sum := "7c8f63d89ac56fedc05530254977cef8bf9b20b3af1addd6ece4ab90dc1748aa", checked := Try.checked }
namespace Rows
def none {H : Type} : Left H := { results := [], args := [] }

/-- 'clavendierlaw02.NameNears': WHATEVER THE INPUT: true; the input reads as it did. -/
def nameNearsSpec : ChangeSpec := { name := "nameNears", fn := fun _ => fun
  | [d1, d2, d3] => { results := [.lit (.bool true)], args := [d1, d2, d3] }
  | _ => none }
def nameNearsRow : OpenClaim := { program := "ytbimkcjdodgojaa", sum := "7c8f63d89ac56fedc05530254977cef8bf9b20b3af1addd6ece4ab90dc1748aa", func := "clavendier/clavendierlaw02.NameNears", spec := "nameNears", inPlace := ["internal/bytealg.IndexByteString", "internal/abi.NoEscape", "internal/bytealg.MakeNoZero"], unfollowed := true, recurses := true, plainKeys := false, apart := false }
def NameNearsSaid : Prop := nameNearsRow.holds Try.pinned (OpenSpec.ofChange nameNearsSpec)

/-- ITS FALSE NEIGHBOUR: 'it returns false'. Refute it at one input. -/
def nameNearsWrong : ChangeSpec := { name := "nameNears", fn := fun _ => fun
  | [d1, d2, d3] => { results := [.lit (.bool false)], args := [d1, d2, d3] }
  | _ => none }
def NameNearsWrongFalsely : Prop := nameNearsRow.holds Try.pinned (OpenSpec.ofChange nameNearsWrong)

/-- 'clavendierlaw02.NameTrue': WHATEVER THE INPUT: true; the input reads as it did. -/
def nameTrueSpec : ChangeSpec := { name := "nameTrue", fn := fun _ => fun
  | [d1, d2] => { results := [.lit (.bool true)], args := [d1, d2] }
  | _ => none }
def nameTrueRow : OpenClaim := { program := "ytbimkcjdodgojaa", sum := "7c8f63d89ac56fedc05530254977cef8bf9b20b3af1addd6ece4ab90dc1748aa", func := "clavendier/clavendierlaw02.NameTrue", spec := "nameTrue", inPlace := ["internal/bytealg.IndexByteString", "internal/abi.NoEscape", "internal/bytealg.MakeNoZero"], unfollowed := true, recurses := true, plainKeys := false, apart := false }
def NameTrueSaid : Prop := nameTrueRow.holds Try.pinned (OpenSpec.ofChange nameTrueSpec)

/-- ITS FALSE NEIGHBOUR: 'it returns false'. Refute it at one input. -/
def nameTrueWrong : ChangeSpec := { name := "nameTrue", fn := fun _ => fun
  | [d1, d2] => { results := [.lit (.bool false)], args := [d1, d2] }
  | _ => none }
def NameTrueWrongFalsely : Prop := nameTrueRow.holds Try.pinned (OpenSpec.ofChange nameTrueWrong)

/-- 'clavendierlaw02.NameEars': WHATEVER THE INPUT: true; the input reads as it did. -/
def nameEarsSpec : ChangeSpec := { name := "nameEars", fn := fun _ => fun
  | [d1, d2, d3, d4] => { results := [.lit (.bool true)], args := [d1, d2, d3, d4] }
  | _ => none }
def nameEarsRow : OpenClaim := { program := "ytbimkcjdodgojaa", sum := "7c8f63d89ac56fedc05530254977cef8bf9b20b3af1addd6ece4ab90dc1748aa", func := "clavendier/clavendierlaw02.NameEars", spec := "nameEars", inPlace := ["internal/bytealg.IndexByteString", "internal/abi.NoEscape", "internal/bytealg.MakeNoZero"], unfollowed := true, recurses := true, plainKeys := false, apart := false }
def NameEarsSaid : Prop := nameEarsRow.holds Try.pinned (OpenSpec.ofChange nameEarsSpec)

/-- ITS FALSE NEIGHBOUR: 'it returns false'. Refute it at one input. -/
def nameEarsWrong : ChangeSpec := { name := "nameEars", fn := fun _ => fun
  | [d1, d2, d3, d4] => { results := [.lit (.bool false)], args := [d1, d2, d3, d4] }
  | _ => none }
def NameEarsWrongFalsely : Prop := nameEarsRow.holds Try.pinned (OpenSpec.ofChange nameEarsWrong)

/-- 'clavendierlaw02.NameTruths': WHATEVER THE INPUT: true; the input reads as it did. -/
def nameTruthsSpec : ChangeSpec := { name := "nameTruths", fn := fun _ => fun
  | [d1, d2] => { results := [.lit (.bool true)], args := [d1, d2] }
  | _ => none }
def nameTruthsRow : OpenClaim := { program := "ytbimkcjdodgojaa", sum := "7c8f63d89ac56fedc05530254977cef8bf9b20b3af1addd6ece4ab90dc1748aa", func := "clavendier/clavendierlaw02.NameTruths", spec := "nameTruths", inPlace := ["internal/bytealg.IndexByteString", "internal/abi.NoEscape", "internal/bytealg.MakeNoZero"], unfollowed := true, recurses := true, plainKeys := false, apart := false }
def NameTruthsSaid : Prop := nameTruthsRow.holds Try.pinned (OpenSpec.ofChange nameTruthsSpec)

/-- ITS FALSE NEIGHBOUR: 'it returns false'. Refute it at one input. -/
def nameTruthsWrong : ChangeSpec := { name := "nameTruths", fn := fun _ => fun
  | [d1, d2] => { results := [.lit (.bool false)], args := [d1, d2] }
  | _ => none }
def NameTruthsWrongFalsely : Prop := nameTruthsRow.holds Try.pinned (OpenSpec.ofChange nameTruthsWrong)

/-- 'clavendierlaw02.NameWrong': WHATEVER THE INPUT: true; the input reads as it did. -/
def nameWrongSpec : ChangeSpec := { name := "nameWrong", fn := fun _ => fun
  | [d1, d2] => { results := [.lit (.bool true)], args := [d1, d2] }
  | _ => none }
def nameWrongRow : OpenClaim := { program := "ytbimkcjdodgojaa", sum := "7c8f63d89ac56fedc05530254977cef8bf9b20b3af1addd6ece4ab90dc1748aa", func := "clavendier/clavendierlaw02.NameWrong", spec := "nameWrong", inPlace := ["internal/bytealg.IndexByteString", "internal/abi.NoEscape", "internal/bytealg.MakeNoZero"], unfollowed := true, recurses := true, plainKeys := false, apart := false }
def NameWrongSaid : Prop := nameWrongRow.holds Try.pinned (OpenSpec.ofChange nameWrongSpec)

/-- ITS FALSE NEIGHBOUR: 'it returns false'. Refute it at one input. -/
def nameWrongWrong : ChangeSpec := { name := "nameWrong", fn := fun _ => fun
  | [d1, d2] => { results := [.lit (.bool false)], args := [d1, d2] }
  | _ => none }
def NameWrongWrongFalsely : Prop := nameWrongRow.holds Try.pinned (OpenSpec.ofChange nameWrongWrong)

/-- 'clavendierlaw02.NameWider': WHATEVER THE INPUT: true; the input reads as it did. -/
def nameWiderSpec : ChangeSpec := { name := "nameWider", fn := fun _ => fun
  | [d1, d2, d3] => { results := [.lit (.bool true)], args := [d1, d2, d3] }
  | _ => none }
def nameWiderRow : OpenClaim := { program := "ytbimkcjdodgojaa", sum := "7c8f63d89ac56fedc05530254977cef8bf9b20b3af1addd6ece4ab90dc1748aa", func := "clavendier/clavendierlaw02.NameWider", spec := "nameWider", inPlace := ["internal/bytealg.IndexByteString", "internal/abi.NoEscape", "internal/bytealg.MakeNoZero"], unfollowed := true, recurses := true, plainKeys := false, apart := false }
def NameWiderSaid : Prop := nameWiderRow.holds Try.pinned (OpenSpec.ofChange nameWiderSpec)

/-- ITS FALSE NEIGHBOUR: 'it returns false'. Refute it at one input. -/
def nameWiderWrong : ChangeSpec := { name := "nameWider", fn := fun _ => fun
  | [d1, d2, d3] => { results := [.lit (.bool false)], args := [d1, d2, d3] }
  | _ => none }
def NameWiderWrongFalsely : Prop := nameWiderRow.holds Try.pinned (OpenSpec.ofChange nameWiderWrong)

/-- 'clavendierlaw02.NameAsk': WHATEVER THE INPUT: true; the input reads as it did. -/
def nameAskSpec : ChangeSpec := { name := "nameAsk", fn := fun _ => fun
  | [d1, d2] => { results := [.lit (.bool true)], args := [d1, d2] }
  | _ => none }
def nameAskRow : OpenClaim := { program := "ytbimkcjdodgojaa", sum := "7c8f63d89ac56fedc05530254977cef8bf9b20b3af1addd6ece4ab90dc1748aa", func := "clavendier/clavendierlaw02.NameAsk", spec := "nameAsk", inPlace := ["internal/bytealg.IndexByteString", "internal/abi.NoEscape", "internal/bytealg.MakeNoZero"], unfollowed := true, recurses := true, plainKeys := false, apart := false }
def NameAskSaid : Prop := nameAskRow.holds Try.pinned (OpenSpec.ofChange nameAskSpec)

/-- ITS FALSE NEIGHBOUR: 'it returns false'. Refute it at one input. -/
def nameAskWrong : ChangeSpec := { name := "nameAsk", fn := fun _ => fun
  | [d1, d2] => { results := [.lit (.bool false)], args := [d1, d2] }
  | _ => none }
def NameAskWrongFalsely : Prop := nameAskRow.holds Try.pinned (OpenSpec.ofChange nameAskWrong)

/-- 'clavendierlaw02.NameKnown': WHATEVER THE INPUT: true; the input reads as it did. -/
def nameKnownSpec : ChangeSpec := { name := "nameKnown", fn := fun _ => fun
  | [] => { results := [.lit (.bool true)], args := [] }
  | _ => none }
def nameKnownRow : OpenClaim := { program := "ytbimkcjdodgojaa", sum := "7c8f63d89ac56fedc05530254977cef8bf9b20b3af1addd6ece4ab90dc1748aa", func := "clavendier/clavendierlaw02.NameKnown", spec := "nameKnown", inPlace := ["internal/bytealg.IndexByteString", "internal/abi.NoEscape", "internal/bytealg.MakeNoZero"], unfollowed := true, recurses := true, plainKeys := false, apart := false }
def NameKnownSaid : Prop := nameKnownRow.holds Try.pinned (OpenSpec.ofChange nameKnownSpec)

/-- ITS FALSE NEIGHBOUR: 'it returns false'. Refute it at one input. -/
def nameKnownWrong : ChangeSpec := { name := "nameKnown", fn := fun _ => fun
  | [] => { results := [.lit (.bool false)], args := [] }
  | _ => none }
def NameKnownWrongFalsely : Prop := nameKnownRow.holds Try.pinned (OpenSpec.ofChange nameKnownWrong)

/- THE SECOND FORM. 'bulk': how many values and letters a reading holds, each counted each time it is reached (what is shared counts as often as it is met; a slice's spare places count too). A statement '..UptoSaid' is the law's where the arguments, and the package variables that the reading takes, are together of bulk at most 1048576: NARROWER than '..Said'. Prove '..Said' where nothing that the law and all that it calls make is longer than what came in: it says more and counts as full. Else prove '..UptoSaid'. A law counts once. -/
mutual
def uptoBulk {H : Type} : DataW H → Nat
  | .lit (.string bytes) => bytes.length + 1
  | .lit _ => 1
  | .nil => 1
  | .ptr d => uptoBulk d + 1
  | .slice elems spare => uptoBulkAll elems + uptoBulkAll spare + 1
  | .agg parts => uptoBulkAll parts + 1
  | .iface _ d => uptoBulk d + 1
  | .map entries => uptoBulkEntries entries + 1
  | .held _ => 1
def uptoBulkAll {H : Type} : List (DataW H) → Nat
  | [] => 0
  | d :: r => uptoBulk d + uptoBulkAll r
def uptoBulkEntries {H : Type} : List (Lit × DataW H) → Nat
  | [] => 0
  | x :: r => uptoBulkEntry x + uptoBulkEntries r
def uptoBulkEntry {H : Type} : Lit × DataW H → Nat
  | (.string bytes, d) => bytes.length + uptoBulk d + 1
  | (_, d) => uptoBulk d + 1
 end
def uptoSmall : (H : Type) → List (DataW H) → Bool := fun _ ds => decide (uptoBulkAll ds ≤ 1048576)
def OpenSpec.upto (s : _root_.Go.ChangeSpec) : _root_.Go.OpenSpec := { _root_.Go.OpenSpec.ofChange s with cond := some uptoSmall }

/-- 'clavendierlaw02.NameNears', WHERE WHAT IT READS IS OF BULK AT MOST 1048576: true; the input reads as it did. -/
def nameNearsUptoRow : OpenClaim := { program := "ytbimkcjdodgojaa", sum := "7c8f63d89ac56fedc05530254977cef8bf9b20b3af1addd6ece4ab90dc1748aa", func := "clavendier/clavendierlaw02.NameNears", spec := "nameNears", inPlace := ["internal/bytealg.IndexByteString", "internal/abi.NoEscape", "internal/bytealg.MakeNoZero"], unfollowed := true, recurses := true, plainKeys := false, apart := false, narrowed := true }
def NameNearsUptoSaid : Prop := nameNearsUptoRow.holds Try.pinned (OpenSpec.upto nameNearsSpec)

/-- 'clavendierlaw02.NameTrue', WHERE WHAT IT READS IS OF BULK AT MOST 1048576: true; the input reads as it did. -/
def nameTrueUptoRow : OpenClaim := { program := "ytbimkcjdodgojaa", sum := "7c8f63d89ac56fedc05530254977cef8bf9b20b3af1addd6ece4ab90dc1748aa", func := "clavendier/clavendierlaw02.NameTrue", spec := "nameTrue", inPlace := ["internal/bytealg.IndexByteString", "internal/abi.NoEscape", "internal/bytealg.MakeNoZero"], unfollowed := true, recurses := true, plainKeys := false, apart := false, narrowed := true }
def NameTrueUptoSaid : Prop := nameTrueUptoRow.holds Try.pinned (OpenSpec.upto nameTrueSpec)

/-- 'clavendierlaw02.NameEars', WHERE WHAT IT READS IS OF BULK AT MOST 1048576: true; the input reads as it did. -/
def nameEarsUptoRow : OpenClaim := { program := "ytbimkcjdodgojaa", sum := "7c8f63d89ac56fedc05530254977cef8bf9b20b3af1addd6ece4ab90dc1748aa", func := "clavendier/clavendierlaw02.NameEars", spec := "nameEars", inPlace := ["internal/bytealg.IndexByteString", "internal/abi.NoEscape", "internal/bytealg.MakeNoZero"], unfollowed := true, recurses := true, plainKeys := false, apart := false, narrowed := true }
def NameEarsUptoSaid : Prop := nameEarsUptoRow.holds Try.pinned (OpenSpec.upto nameEarsSpec)

/-- 'clavendierlaw02.NameTruths', WHERE WHAT IT READS IS OF BULK AT MOST 1048576: true; the input reads as it did. -/
def nameTruthsUptoRow : OpenClaim := { program := "ytbimkcjdodgojaa", sum := "7c8f63d89ac56fedc05530254977cef8bf9b20b3af1addd6ece4ab90dc1748aa", func := "clavendier/clavendierlaw02.NameTruths", spec := "nameTruths", inPlace := ["internal/bytealg.IndexByteString", "internal/abi.NoEscape", "internal/bytealg.MakeNoZero"], unfollowed := true, recurses := true, plainKeys := false, apart := false, narrowed := true }
def NameTruthsUptoSaid : Prop := nameTruthsUptoRow.holds Try.pinned (OpenSpec.upto nameTruthsSpec)

/-- 'clavendierlaw02.NameWrong', WHERE WHAT IT READS IS OF BULK AT MOST 1048576: true; the input reads as it did. -/
def nameWrongUptoRow : OpenClaim := { program := "ytbimkcjdodgojaa", sum := "7c8f63d89ac56fedc05530254977cef8bf9b20b3af1addd6ece4ab90dc1748aa", func := "clavendier/clavendierlaw02.NameWrong", spec := "nameWrong", inPlace := ["internal/bytealg.IndexByteString", "internal/abi.NoEscape", "internal/bytealg.MakeNoZero"], unfollowed := true, recurses := true, plainKeys := false, apart := false, narrowed := true }
def NameWrongUptoSaid : Prop := nameWrongUptoRow.holds Try.pinned (OpenSpec.upto nameWrongSpec)

/-- 'clavendierlaw02.NameWider', WHERE WHAT IT READS IS OF BULK AT MOST 1048576: true; the input reads as it did. -/
def nameWiderUptoRow : OpenClaim := { program := "ytbimkcjdodgojaa", sum := "7c8f63d89ac56fedc05530254977cef8bf9b20b3af1addd6ece4ab90dc1748aa", func := "clavendier/clavendierlaw02.NameWider", spec := "nameWider", inPlace := ["internal/bytealg.IndexByteString", "internal/abi.NoEscape", "internal/bytealg.MakeNoZero"], unfollowed := true, recurses := true, plainKeys := false, apart := false, narrowed := true }
def NameWiderUptoSaid : Prop := nameWiderUptoRow.holds Try.pinned (OpenSpec.upto nameWiderSpec)

/-- 'clavendierlaw02.NameAsk', WHERE WHAT IT READS IS OF BULK AT MOST 1048576: true; the input reads as it did. -/
def nameAskUptoRow : OpenClaim := { program := "ytbimkcjdodgojaa", sum := "7c8f63d89ac56fedc05530254977cef8bf9b20b3af1addd6ece4ab90dc1748aa", func := "clavendier/clavendierlaw02.NameAsk", spec := "nameAsk", inPlace := ["internal/bytealg.IndexByteString", "internal/abi.NoEscape", "internal/bytealg.MakeNoZero"], unfollowed := true, recurses := true, plainKeys := false, apart := false, narrowed := true }
def NameAskUptoSaid : Prop := nameAskUptoRow.holds Try.pinned (OpenSpec.upto nameAskSpec)

/-- 'clavendierlaw02.NameKnown', WHERE WHAT IT READS IS OF BULK AT MOST 1048576: true; the input reads as it did. -/
def nameKnownUptoRow : OpenClaim := { program := "ytbimkcjdodgojaa", sum := "7c8f63d89ac56fedc05530254977cef8bf9b20b3af1addd6ece4ab90dc1748aa", func := "clavendier/clavendierlaw02.NameKnown", spec := "nameKnown", inPlace := ["internal/bytealg.IndexByteString", "internal/abi.NoEscape", "internal/bytealg.MakeNoZero"], unfollowed := true, recurses := true, plainKeys := false, apart := false, narrowed := true }
def NameKnownUptoSaid : Prop := nameKnownUptoRow.holds Try.pinned (OpenSpec.upto nameKnownSpec)

end Rows
end Go.Proofs.Ytbimkcjdodgojaa
