/-
  No cell of these rows narrows 'for every input' (looked for: loops, veiled, ifaces, maps, wideKeys, modest, calm, conditions, laid).
  DERIVED. THE GIVEN ROWS OF THIS SEAT. 3 by the template 'for every input the law returns true; each argument reads behind the call as it read before'; 0 by the template 'total and deterministic' (their statements: YtbimkcjdodgojaaGreatTotals.lean).
  GIVEN WITH THE SEED: the statements are not yours to turn. If you find one false, say at which input.
  Laid BY PROGRAM, IN A SANDBOX (cutbox-rows.mjs): the forced cells as the released guide's own fill.sh prints them over the translation 27bc5ef4fc2da059… (all of the seat's roots in one cut). By AI agents, Wed Nov 11 2026. No macro, syntax, notation, axiom, sorry.
-/
import Derived.Test.YtbimkcjdodgojaaGreatChecked
import GoSem.Claim
import GoSem.ClaimJoined
import GoSem.ClaimMapViews
import Derived.JoinedTies
import Derived.KernelRfl
namespace Go.Proofs.YtbimkcjdodgojaaGreat
/- THE CELL 'sum', in the pinned program and in every row, IS THE sha256 OF THE DUMP (.gsa) THAT YtbimkcjdodgojaaGreatProg.lean LOADS. Nothing in Lean hashes anything: it is a label: what it is worth is what the hold of that sum in a sandbox is worth. -/
noncomputable def Tryz.pinned : Pinned := { name := "ytbimkcjdodgojaagreat", sum := "27bc5ef4fc2da059fdc8b9e3a769b0b75f0903acec2f6a9356cc255faa3d17f0", checked := Tryz.checked }
namespace Rows
def none {H : Type} : Left H := { results := [], args := [] }

/-- 'clavendierlaw02.NameCans': WHATEVER THE INPUT: true; the input reads as it did. -/
def nameCansSpec : ChangeSpec := { name := "nameCans", fn := fun _ => fun
  | [d1, d2, d3] => { results := [.lit (.bool true)], args := [d1, d2, d3] }
  | _ => none }
def nameCansRow : OpenClaim := { program := "ytbimkcjdodgojaagreat", sum := "27bc5ef4fc2da059fdc8b9e3a769b0b75f0903acec2f6a9356cc255faa3d17f0", func := "clavendier/clavendierlaw02.NameCans", spec := "nameCans", inPlace := ["internal/bytealg.IndexByteString", "internal/abi.NoEscape", "internal/bytealg.MakeNoZero"], unfollowed := true, recurses := true, plainKeys := false, apart := false }
def NameCansSaid : Prop := nameCansRow.holds Tryz.pinned (OpenSpec.ofChange nameCansSpec)

/-- ITS FALSE NEIGHBOUR: 'it returns false'. Refute it at one input. -/
def nameCansWrong : ChangeSpec := { name := "nameCans", fn := fun _ => fun
  | [d1, d2, d3] => { results := [.lit (.bool false)], args := [d1, d2, d3] }
  | _ => none }
def NameCansWrongFalsely : Prop := nameCansRow.holds Tryz.pinned (OpenSpec.ofChange nameCansWrong)

/-- 'clavendierlaw02.NameKinds': WHATEVER THE INPUT: true; the input reads as it did. -/
def nameKindsSpec : ChangeSpec := { name := "nameKinds", fn := fun _ => fun
  | [d1, d2] => { results := [.lit (.bool true)], args := [d1, d2] }
  | _ => none }
def nameKindsRow : OpenClaim := { program := "ytbimkcjdodgojaagreat", sum := "27bc5ef4fc2da059fdc8b9e3a769b0b75f0903acec2f6a9356cc255faa3d17f0", func := "clavendier/clavendierlaw02.NameKinds", spec := "nameKinds", inPlace := ["internal/bytealg.IndexByteString", "internal/abi.NoEscape", "internal/bytealg.MakeNoZero"], unfollowed := true, recurses := true, plainKeys := false, apart := false }
def NameKindsSaid : Prop := nameKindsRow.holds Tryz.pinned (OpenSpec.ofChange nameKindsSpec)

/-- ITS FALSE NEIGHBOUR: 'it returns false'. Refute it at one input. -/
def nameKindsWrong : ChangeSpec := { name := "nameKinds", fn := fun _ => fun
  | [d1, d2] => { results := [.lit (.bool false)], args := [d1, d2] }
  | _ => none }
def NameKindsWrongFalsely : Prop := nameKindsRow.holds Tryz.pinned (OpenSpec.ofChange nameKindsWrong)

/-- 'clavendierlaw02.NameWrongs': WHATEVER THE INPUT: true; the input reads as it did. -/
def nameWrongsSpec : ChangeSpec := { name := "nameWrongs", fn := fun _ => fun
  | [d] => { results := [.lit (.bool true)], args := [d] }
  | _ => none }
def nameWrongsRow : OpenClaim := { program := "ytbimkcjdodgojaagreat", sum := "27bc5ef4fc2da059fdc8b9e3a769b0b75f0903acec2f6a9356cc255faa3d17f0", func := "clavendier/clavendierlaw02.NameWrongs", spec := "nameWrongs", inPlace := ["internal/bytealg.IndexByteString", "internal/abi.NoEscape", "internal/bytealg.MakeNoZero"], unfollowed := true, recurses := true, plainKeys := false, apart := false }
def NameWrongsSaid : Prop := nameWrongsRow.holds Tryz.pinned (OpenSpec.ofChange nameWrongsSpec)

/-- ITS FALSE NEIGHBOUR: 'it returns false'. Refute it at one input. -/
def nameWrongsWrong : ChangeSpec := { name := "nameWrongs", fn := fun _ => fun
  | [d] => { results := [.lit (.bool false)], args := [d] }
  | _ => none }
def NameWrongsWrongFalsely : Prop := nameWrongsRow.holds Tryz.pinned (OpenSpec.ofChange nameWrongsWrong)

/- THE SECOND FORM. 'bulk': how many values and letters a reading holds, each counted each time it is reached (what is shared counts as often as it is met; a slice's spare places count too). A statement '..UptoSaid' is the law's where the arguments, and the package variables that the reading takes, are together of bulk at most 1048576: NARROWER than '..Said'. Prove '..Said' where nothing that the law and all that it calls make is longer than what came in: it says more and counts as full. Else prove '..UptoSaid'. A law counts once. -/
mutual
def uptoBulk {H : Type} : DataW H → Nat
  | .lit (.string bytes) => bytes.length + 1
  | .lit _ => 1
  | .nil => 1
  | .ptr d => uptoBulk d + 1
  | .slice elems spare => uptoBulkAll elems + uptoBulkAll spare + 1
  | .agg parts => uptoBulkAll parts + 1
  | .iface _ d => uptoBulk d + 1
  | .map entries => uptoBulkEntries entries + 1
  | .held _ => 1
def uptoBulkAll {H : Type} : List (DataW H) → Nat
  | [] => 0
  | d :: r => uptoBulk d + uptoBulkAll r
def uptoBulkEntries {H : Type} : List (Lit × DataW H) → Nat
  | [] => 0
  | x :: r => uptoBulkEntry x + uptoBulkEntries r
def uptoBulkEntry {H : Type} : Lit × DataW H → Nat
  | (.string bytes, d) => bytes.length + uptoBulk d + 1
  | (_, d) => uptoBulk d + 1
 end
def uptoSmall : (H : Type) → List (DataW H) → Bool := fun _ ds => decide (uptoBulkAll ds ≤ 1048576)
def OpenSpec.upto (s : _root_.Go.ChangeSpec) : _root_.Go.OpenSpec := { _root_.Go.OpenSpec.ofChange s with cond := some uptoSmall }

/-- 'clavendierlaw02.NameCans', WHERE WHAT IT READS IS OF BULK AT MOST 1048576: true; the input reads as it did. -/
def nameCansUptoRow : OpenClaim := { program := "ytbimkcjdodgojaagreat", sum := "27bc5ef4fc2da059fdc8b9e3a769b0b75f0903acec2f6a9356cc255faa3d17f0", func := "clavendier/clavendierlaw02.NameCans", spec := "nameCans", inPlace := ["internal/bytealg.IndexByteString", "internal/abi.NoEscape", "internal/bytealg.MakeNoZero"], unfollowed := true, recurses := true, plainKeys := false, apart := false, narrowed := true }
def NameCansUptoSaid : Prop := nameCansUptoRow.holds Tryz.pinned (OpenSpec.upto nameCansSpec)

/-- 'clavendierlaw02.NameKinds', WHERE WHAT IT READS IS OF BULK AT MOST 1048576: true; the input reads as it did. -/
def nameKindsUptoRow : OpenClaim := { program := "ytbimkcjdodgojaagreat", sum := "27bc5ef4fc2da059fdc8b9e3a769b0b75f0903acec2f6a9356cc255faa3d17f0", func := "clavendier/clavendierlaw02.NameKinds", spec := "nameKinds", inPlace := ["internal/bytealg.IndexByteString", "internal/abi.NoEscape", "internal/bytealg.MakeNoZero"], unfollowed := true, recurses := true, plainKeys := false, apart := false, narrowed := true }
def NameKindsUptoSaid : Prop := nameKindsUptoRow.holds Tryz.pinned (OpenSpec.upto nameKindsSpec)

/-- 'clavendierlaw02.NameWrongs', WHERE WHAT IT READS IS OF BULK AT MOST 1048576: true; the input reads as it did. -/
def nameWrongsUptoRow : OpenClaim := { program := "ytbimkcjdodgojaagreat", sum := "27bc5ef4fc2da059fdc8b9e3a769b0b75f0903acec2f6a9356cc255faa3d17f0", func := "clavendier/clavendierlaw02.NameWrongs", spec := "nameWrongs", inPlace := ["internal/bytealg.IndexByteString", "internal/abi.NoEscape", "internal/bytealg.MakeNoZero"], unfollowed := true, recurses := true, plainKeys := false, apart := false, narrowed := true }
def NameWrongsUptoSaid : Prop := nameWrongsUptoRow.holds Tryz.pinned (OpenSpec.upto nameWrongsSpec)

end Rows
end Go.Proofs.YtbimkcjdodgojaaGreat
