/-
  DERIVED. GIVEN WITH THE SEED: THE CARDS: each row of YtkhmcofmjjmjhaaDoorRows.lean that lists a variable, with what it lists TIED to the program's text (the seventh form; the later family's looks); each row that meets fmt, with fmt's text TOLD by the authors' own Lean function (tested against real Go, not proved from fmt's source: count such statements apart). THE CARD IS WHAT COUNTS. Prove the row's statement (the work); the ties are given (YtkhmcofmjjmjhaaDoorTie.lean); close each card by the builder's one call (the guide's Derived/Test/ToyasCard.lean, 'card_holds'). Laid BY PROGRAM, IN A SANDBOX (cutbox-door.mjs). By AI agents, Wed Nov 11 2026. No macro, syntax, notation, axiom, sorry.
-/
import Derived.Test.YtkhmcofmjjmjhaaDoorRows
import GoSem.ClaimSeven
namespace Go.Proofs.YtkhmcofmjjmjhaaDoor
namespace Rows

/-- THE TIED CARD OF 'clavendierlaw03.SlopeLoads'. -/
def slopeLoadsCard : Claim7 := { stood := { row := slopeLoadsRow, standIns := [], harness := (true, "5a4db90a74dba2ed7c34bbde1bee0f66e91c834ea53cff6ec51b82b3c3fdd143"), looks := false }, kinds := [], alts := [], laidByText := true, laidKinds := [.data, .data], laidTests := true, laidLooks := .later }
def SlopeLoadsCardSaid : Prop := Claim7.holds Tryd.pinned (.plain (OpenSpec.ofChange slopeLoadsSpec)) slopeLoadsCard

/-- THE TIED CARD OF 'clavendierlaw03.SlopeHours'. -/
def slopeHoursCard : Claim7 := { stood := { row := slopeHoursRow, standIns := [], harness := (true, "5a4db90a74dba2ed7c34bbde1bee0f66e91c834ea53cff6ec51b82b3c3fdd143"), looks := false }, kinds := [], alts := [], laidByText := true, laidKinds := [.data, .data], laidTests := true, laidLooks := .later }
def SlopeHoursCardSaid : Prop := Claim7.holds Tryd.pinned (.plain (OpenSpec.ofChange slopeHoursSpec)) slopeHoursCard

/-- THE TIED CARD OF 'clavendierlaw03.SlopeFalls'. -/
def slopeFallsCard : Claim7 := { stood := { row := slopeFallsRow, standIns := [], harness := (true, "5a4db90a74dba2ed7c34bbde1bee0f66e91c834ea53cff6ec51b82b3c3fdd143"), looks := false }, kinds := [], alts := [], laidByText := true, laidKinds := [.data, .data], laidTests := true, laidLooks := .later }
def SlopeFallsCardSaid : Prop := Claim7.holds Tryd.pinned (.plain (OpenSpec.ofChange slopeFallsSpec)) slopeFallsCard

/-- THE TIED CARD OF 'clavendierlaw03.SlopeTrue'. -/
def slopeTrueCard : Claim7 := { stood := { row := slopeTrueRow, standIns := [], harness := (true, "5a4db90a74dba2ed7c34bbde1bee0f66e91c834ea53cff6ec51b82b3c3fdd143"), looks := false }, kinds := [], alts := [], laidByText := true, laidKinds := [.data, .data], laidTests := true, laidLooks := .later }
def SlopeTrueCardSaid : Prop := Claim7.holds Tryd.pinned (.plain (OpenSpec.ofChange slopeTrueSpec)) slopeTrueCard

/-- THE TIED CARD OF 'clavendierlaw03.SlopeEnds'. -/
def slopeEndsCard : Claim7 := { stood := { row := slopeEndsRow, standIns := [], harness := (true, "5a4db90a74dba2ed7c34bbde1bee0f66e91c834ea53cff6ec51b82b3c3fdd143"), looks := false }, kinds := [], alts := [], laidByText := true, laidKinds := [.data, .data], laidTests := true, laidLooks := .later }
def SlopeEndsCardSaid : Prop := Claim7.holds Tryd.pinned (.plain (OpenSpec.ofChange slopeEndsSpec)) slopeEndsCard

/-- THE TIED CARD OF 'clavendierlaw03.SlopeSaid'. -/
def slopeSaidCard : Claim7 := { stood := { row := slopeSaidRow, standIns := [], harness := (true, "5a4db90a74dba2ed7c34bbde1bee0f66e91c834ea53cff6ec51b82b3c3fdd143"), looks := false }, kinds := [], alts := [], laidByText := true, laidKinds := [.data, .data], laidTests := true, laidLooks := .later }
def SlopeSaidCardSaid : Prop := Claim7.holds Tryd.pinned (.plain (OpenSpec.ofChange slopeSaidSpec)) slopeSaidCard

/-- THE TIED CARD OF 'clavendierlaw03.SlopeCrossed'. -/
def slopeCrossedCard : Claim7 := { stood := { row := slopeCrossedRow, standIns := [], harness := (true, "5a4db90a74dba2ed7c34bbde1bee0f66e91c834ea53cff6ec51b82b3c3fdd143"), looks := false }, kinds := [], alts := [], laidByText := true, laidKinds := [.data, .data], laidTests := true, laidLooks := .later }
def SlopeCrossedCardSaid : Prop := Claim7.holds Tryd.pinned (.plain (OpenSpec.ofChange slopeCrossedSpec)) slopeCrossedCard

/-- THE TIED CARD OF 'clavendierlaw03.SlopeMore'. -/
def slopeMoreCard : Claim7 := { stood := { row := slopeMoreRow, standIns := [], harness := (true, "5a4db90a74dba2ed7c34bbde1bee0f66e91c834ea53cff6ec51b82b3c3fdd143"), looks := false }, kinds := [], alts := [], laidByText := true, laidKinds := [.data, .data], laidTests := true, laidLooks := .later }
def SlopeMoreCardSaid : Prop := Claim7.holds Tryd.pinned (.plain (OpenSpec.ofChange slopeMoreSpec)) slopeMoreCard

/-- THE TIED CARD OF 'clavendierlaw03.SlopeHolds'. -/
def slopeHoldsCard : Claim7 := { stood := { row := slopeHoldsRow, standIns := [], harness := (true, "5a4db90a74dba2ed7c34bbde1bee0f66e91c834ea53cff6ec51b82b3c3fdd143"), looks := false }, kinds := [], alts := [], laidByText := true, laidKinds := [.data, .data], laidTests := true, laidLooks := .later }
def SlopeHoldsCardSaid : Prop := Claim7.holds Tryd.pinned (.plain (OpenSpec.ofChange slopeHoldsSpec)) slopeHoldsCard

/-- THE TIED CARD OF 'clavendierlaw03.SlopeWrong'. -/
def slopeWrongCard : Claim7 := { stood := { row := slopeWrongRow, standIns := [], harness := (true, "5a4db90a74dba2ed7c34bbde1bee0f66e91c834ea53cff6ec51b82b3c3fdd143"), looks := false }, kinds := [], alts := [], laidByText := true, laidKinds := [.data, .data], laidTests := true, laidLooks := .later }
def SlopeWrongCardSaid : Prop := Claim7.holds Tryd.pinned (.plain (OpenSpec.ofChange slopeWrongSpec)) slopeWrongCard

/-- THE TIED CARD OF 'clavendierlaw03.SlopeKnown'. -/
def slopeKnownCard : Claim7 := { stood := { row := slopeKnownRow, standIns := [], harness := (true, "5a4db90a74dba2ed7c34bbde1bee0f66e91c834ea53cff6ec51b82b3c3fdd143"), looks := false }, kinds := [], alts := [], laidByText := true, laidKinds := [.data, .data], laidTests := true, laidLooks := .later }
def SlopeKnownCardSaid : Prop := Claim7.holds Tryd.pinned (.plain (OpenSpec.ofChange slopeKnownSpec)) slopeKnownCard

/-- THE SECOND FORM's CARD OF 'clavendierlaw03.SlopeLoads'. -/
def slopeLoadsUptoCard : Claim7 := { stood := { row := slopeLoadsUptoRow, standIns := [], harness := (true, "5a4db90a74dba2ed7c34bbde1bee0f66e91c834ea53cff6ec51b82b3c3fdd143"), looks := false }, kinds := [], alts := [], laidByText := true, laidKinds := [.data, .data], laidTests := true, laidLooks := .later }
def SlopeLoadsUptoCardSaid : Prop := Claim7.holds Tryd.pinned (.plain (OpenSpec.upto slopeLoadsSpec)) slopeLoadsUptoCard

/-- THE SECOND FORM's CARD OF 'clavendierlaw03.SlopeHours'. -/
def slopeHoursUptoCard : Claim7 := { stood := { row := slopeHoursUptoRow, standIns := [], harness := (true, "5a4db90a74dba2ed7c34bbde1bee0f66e91c834ea53cff6ec51b82b3c3fdd143"), looks := false }, kinds := [], alts := [], laidByText := true, laidKinds := [.data, .data], laidTests := true, laidLooks := .later }
def SlopeHoursUptoCardSaid : Prop := Claim7.holds Tryd.pinned (.plain (OpenSpec.upto slopeHoursSpec)) slopeHoursUptoCard

/-- THE SECOND FORM's CARD OF 'clavendierlaw03.SlopeFalls'. -/
def slopeFallsUptoCard : Claim7 := { stood := { row := slopeFallsUptoRow, standIns := [], harness := (true, "5a4db90a74dba2ed7c34bbde1bee0f66e91c834ea53cff6ec51b82b3c3fdd143"), looks := false }, kinds := [], alts := [], laidByText := true, laidKinds := [.data, .data], laidTests := true, laidLooks := .later }
def SlopeFallsUptoCardSaid : Prop := Claim7.holds Tryd.pinned (.plain (OpenSpec.upto slopeFallsSpec)) slopeFallsUptoCard

/-- THE SECOND FORM's CARD OF 'clavendierlaw03.SlopeTrue'. -/
def slopeTrueUptoCard : Claim7 := { stood := { row := slopeTrueUptoRow, standIns := [], harness := (true, "5a4db90a74dba2ed7c34bbde1bee0f66e91c834ea53cff6ec51b82b3c3fdd143"), looks := false }, kinds := [], alts := [], laidByText := true, laidKinds := [.data, .data], laidTests := true, laidLooks := .later }
def SlopeTrueUptoCardSaid : Prop := Claim7.holds Tryd.pinned (.plain (OpenSpec.upto slopeTrueSpec)) slopeTrueUptoCard

/-- THE SECOND FORM's CARD OF 'clavendierlaw03.SlopeEnds'. -/
def slopeEndsUptoCard : Claim7 := { stood := { row := slopeEndsUptoRow, standIns := [], harness := (true, "5a4db90a74dba2ed7c34bbde1bee0f66e91c834ea53cff6ec51b82b3c3fdd143"), looks := false }, kinds := [], alts := [], laidByText := true, laidKinds := [.data, .data], laidTests := true, laidLooks := .later }
def SlopeEndsUptoCardSaid : Prop := Claim7.holds Tryd.pinned (.plain (OpenSpec.upto slopeEndsSpec)) slopeEndsUptoCard

/-- THE SECOND FORM's CARD OF 'clavendierlaw03.SlopeSaid'. -/
def slopeSaidUptoCard : Claim7 := { stood := { row := slopeSaidUptoRow, standIns := [], harness := (true, "5a4db90a74dba2ed7c34bbde1bee0f66e91c834ea53cff6ec51b82b3c3fdd143"), looks := false }, kinds := [], alts := [], laidByText := true, laidKinds := [.data, .data], laidTests := true, laidLooks := .later }
def SlopeSaidUptoCardSaid : Prop := Claim7.holds Tryd.pinned (.plain (OpenSpec.upto slopeSaidSpec)) slopeSaidUptoCard

/-- THE SECOND FORM's CARD OF 'clavendierlaw03.SlopeCrossed'. -/
def slopeCrossedUptoCard : Claim7 := { stood := { row := slopeCrossedUptoRow, standIns := [], harness := (true, "5a4db90a74dba2ed7c34bbde1bee0f66e91c834ea53cff6ec51b82b3c3fdd143"), looks := false }, kinds := [], alts := [], laidByText := true, laidKinds := [.data, .data], laidTests := true, laidLooks := .later }
def SlopeCrossedUptoCardSaid : Prop := Claim7.holds Tryd.pinned (.plain (OpenSpec.upto slopeCrossedSpec)) slopeCrossedUptoCard

/-- THE SECOND FORM's CARD OF 'clavendierlaw03.SlopeMore'. -/
def slopeMoreUptoCard : Claim7 := { stood := { row := slopeMoreUptoRow, standIns := [], harness := (true, "5a4db90a74dba2ed7c34bbde1bee0f66e91c834ea53cff6ec51b82b3c3fdd143"), looks := false }, kinds := [], alts := [], laidByText := true, laidKinds := [.data, .data], laidTests := true, laidLooks := .later }
def SlopeMoreUptoCardSaid : Prop := Claim7.holds Tryd.pinned (.plain (OpenSpec.upto slopeMoreSpec)) slopeMoreUptoCard

/-- THE SECOND FORM's CARD OF 'clavendierlaw03.SlopeHolds'. -/
def slopeHoldsUptoCard : Claim7 := { stood := { row := slopeHoldsUptoRow, standIns := [], harness := (true, "5a4db90a74dba2ed7c34bbde1bee0f66e91c834ea53cff6ec51b82b3c3fdd143"), looks := false }, kinds := [], alts := [], laidByText := true, laidKinds := [.data, .data], laidTests := true, laidLooks := .later }
def SlopeHoldsUptoCardSaid : Prop := Claim7.holds Tryd.pinned (.plain (OpenSpec.upto slopeHoldsSpec)) slopeHoldsUptoCard

/-- THE SECOND FORM's CARD OF 'clavendierlaw03.SlopeWrong'. -/
def slopeWrongUptoCard : Claim7 := { stood := { row := slopeWrongUptoRow, standIns := [], harness := (true, "5a4db90a74dba2ed7c34bbde1bee0f66e91c834ea53cff6ec51b82b3c3fdd143"), looks := false }, kinds := [], alts := [], laidByText := true, laidKinds := [.data, .data], laidTests := true, laidLooks := .later }
def SlopeWrongUptoCardSaid : Prop := Claim7.holds Tryd.pinned (.plain (OpenSpec.upto slopeWrongSpec)) slopeWrongUptoCard

/-- THE SECOND FORM's CARD OF 'clavendierlaw03.SlopeKnown'. -/
def slopeKnownUptoCard : Claim7 := { stood := { row := slopeKnownUptoRow, standIns := [], harness := (true, "5a4db90a74dba2ed7c34bbde1bee0f66e91c834ea53cff6ec51b82b3c3fdd143"), looks := false }, kinds := [], alts := [], laidByText := true, laidKinds := [.data, .data], laidTests := true, laidLooks := .later }
def SlopeKnownUptoCardSaid : Prop := Claim7.holds Tryd.pinned (.plain (OpenSpec.upto slopeKnownSpec)) slopeKnownUptoCard
end Rows
end Go.Proofs.YtkhmcofmjjmjhaaDoor
