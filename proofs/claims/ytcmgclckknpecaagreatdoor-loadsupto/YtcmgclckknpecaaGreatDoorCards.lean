/-
  DERIVED. GIVEN WITH THE SEED: THE CARDS: each row of YtcmgclckknpecaaGreatDoorRows.lean that lists a variable, with what it lists TIED to the program's text (the seventh form; the later family's looks); each row that meets fmt, with fmt's text TOLD by the authors' own Lean function (tested against real Go, not proved from fmt's source: count such statements apart). THE CARD IS WHAT COUNTS. Prove the row's statement (the work); the ties are given (YtcmgclckknpecaaGreatDoorTie.lean); close each card by the builder's one call (the guide's Derived/Test/ToyasCard.lean, 'card_holds'). Laid BY PROGRAM, IN A SANDBOX (cutbox-door.mjs). By AI agents, Wed Nov 11 2026. No macro, syntax, notation, axiom, sorry.
-/
import Derived.Test.YtcmgclckknpecaaGreatDoorRows
import GoSem.ClaimSeven
namespace Go.Proofs.YtcmgclckknpecaaGreatDoor
namespace Rows

/-- THE TIED CARD OF 'seeklaw.Analyses'. -/
def analysesCard : Claim7 := { stood := { row := analysesRow, standIns := [], harness := (true, "a166f52cb560712c154543ad5317f07111c69d8e866c0e235ec38b91c734967b"), looks := true }, kinds := [], alts := [], goes := true, laidByText := true, laidKinds := [.data], laidTests := true, laidLooks := .later }
def AnalysesCardSaid : Prop := Claim7.holds Tryz.pinned (.plain (OpenSpec.ofChange analysesSpec)) analysesCard

/-- THE TIED CARD OF 'seeklaw.Bounds'. -/
def boundsCard : Claim7 := { stood := { row := boundsRow, standIns := [], harness := (true, "a166f52cb560712c154543ad5317f07111c69d8e866c0e235ec38b91c734967b"), looks := true }, kinds := [], alts := [], goes := true, laidByText := true, laidKinds := [.data], laidTests := true, laidLooks := .later }
def BoundsCardSaid : Prop := Claim7.holds Tryz.pinned (.plain (OpenSpec.ofChange boundsSpec)) boundsCard

/-- THE TIED CARD OF 'seeklaw.Alone'. -/
def aloneCard : Claim7 := { stood := { row := aloneRow, standIns := [], harness := (true, "a166f52cb560712c154543ad5317f07111c69d8e866c0e235ec38b91c734967b"), looks := true }, kinds := [], alts := [], goes := true, laidByText := true, laidKinds := [.data], laidTests := true, laidLooks := .later }
def AloneCardSaid : Prop := Claim7.holds Tryz.pinned (.plain (OpenSpec.ofChange aloneSpec)) aloneCard

/-- THE TIED CARD OF 'seeklaw.Puts'. -/
def putsCard : Claim7 := { stood := { row := putsRow, standIns := [], harness := (true, "a166f52cb560712c154543ad5317f07111c69d8e866c0e235ec38b91c734967b"), looks := true }, kinds := [], alts := [], goes := true, laidByText := true, laidKinds := [.data, .data, .data, .data, .sentinel, .sentinel, .data, .pinned, .pinned, .pinned, .pinned, .pinned, .pinned], laidTests := true, laidLooks := .later }
def PutsCardSaid : Prop := Claim7.holds Tryz.pinned (.plain (OpenSpec.ofChange putsSpec)) putsCard

/-- THE TIED CARD OF 'seeklaw.Finds'. -/
def findsCard : Claim7 := { stood := { row := findsRow, standIns := [], harness := (true, "a166f52cb560712c154543ad5317f07111c69d8e866c0e235ec38b91c734967b"), looks := true }, kinds := [], alts := [], goes := true, laidByText := true, laidKinds := [.data, .data, .data, .data, .sentinel, .sentinel, .data, .pinned, .pinned, .pinned, .pinned, .pinned, .pinned], laidTests := true, laidLooks := .later }
def FindsCardSaid : Prop := Claim7.holds Tryz.pinned (.plain (OpenSpec.ofChange findsSpec)) findsCard

/-- THE TIED CARD OF 'seeklaw.Logic'. -/
def logicCard : Claim7 := { stood := { row := logicRow, standIns := [], harness := (true, "a166f52cb560712c154543ad5317f07111c69d8e866c0e235ec38b91c734967b"), looks := true }, kinds := [], alts := [], goes := true, laidByText := true, laidKinds := [.data, .data, .data, .data, .sentinel, .sentinel, .data, .pinned, .pinned, .pinned, .pinned, .pinned, .pinned], laidTests := true, laidLooks := .later }
def LogicCardSaid : Prop := Claim7.holds Tryz.pinned (.plain (OpenSpec.ofChange logicSpec)) logicCard

/-- THE TIED CARD OF 'seeklaw.Marks'. -/
def marksCard : Claim7 := { stood := { row := marksRow, standIns := [], harness := (true, "a166f52cb560712c154543ad5317f07111c69d8e866c0e235ec38b91c734967b"), looks := true }, kinds := [], alts := [], goes := true, laidByText := true, laidKinds := [.data, .data, .data, .data, .sentinel, .sentinel, .data, .pinned, .pinned, .pinned, .pinned, .pinned, .pinned], laidTests := true, laidLooks := .later }
def MarksCardSaid : Prop := Claim7.holds Tryz.pinned (.plain (OpenSpec.ofChange marksSpec)) marksCard

/-- THE TIED CARD OF 'seeklaw.Marked'. -/
def markedCard : Claim7 := { stood := { row := markedRow, standIns := [], harness := (true, "a166f52cb560712c154543ad5317f07111c69d8e866c0e235ec38b91c734967b"), looks := true }, kinds := [], alts := [], goes := true, laidByText := true, laidKinds := [.data, .data, .data, .data, .sentinel, .sentinel, .data, .pinned, .pinned, .pinned, .pinned, .pinned, .pinned], laidTests := true, laidLooks := .later }
def MarkedCardSaid : Prop := Claim7.holds Tryz.pinned (.plain (OpenSpec.ofChange markedSpec)) markedCard

/-- THE TIED CARD OF 'seeklaw.Traces'. -/
def tracesCard : Claim7 := { stood := { row := tracesRow, standIns := [], harness := (true, "a166f52cb560712c154543ad5317f07111c69d8e866c0e235ec38b91c734967b"), looks := true }, kinds := [], alts := [], goes := true, laidByText := true, laidKinds := [.data, .data, .data, .data, .sentinel, .sentinel, .data, .pinned, .pinned, .pinned, .pinned, .pinned, .pinned], laidTests := true, laidLooks := .later }
def TracesCardSaid : Prop := Claim7.holds Tryz.pinned (.plain (OpenSpec.ofChange tracesSpec)) tracesCard

/-- THE TIED CARD OF 'seeklaw.Loads'. -/
def loadsCard : Claim7 := { stood := { row := loadsRow, standIns := [], harness := (true, "a166f52cb560712c154543ad5317f07111c69d8e866c0e235ec38b91c734967b"), looks := true }, kinds := [], alts := [], goes := true, laidByText := true, laidKinds := [.data, .data, .data, .data, .sentinel, .sentinel, .data, .pinned, .pinned, .pinned, .pinned, .pinned, .pinned], laidTests := true, laidLooks := .later }
def LoadsCardSaid : Prop := Claim7.holds Tryz.pinned (.plain (OpenSpec.ofChange loadsSpec)) loadsCard

/-- THE SECOND FORM's CARD OF 'seeklaw.Analyses'. -/
def analysesUptoCard : Claim7 := { stood := { row := analysesUptoRow, standIns := [], harness := (true, "a166f52cb560712c154543ad5317f07111c69d8e866c0e235ec38b91c734967b"), looks := true }, kinds := [], alts := [], goes := true, laidByText := true, laidKinds := [.data], laidTests := true, laidLooks := .later }
def AnalysesUptoCardSaid : Prop := Claim7.holds Tryz.pinned (.plain (OpenSpec.upto analysesSpec)) analysesUptoCard

/-- THE SECOND FORM's CARD OF 'seeklaw.Bounds'. -/
def boundsUptoCard : Claim7 := { stood := { row := boundsUptoRow, standIns := [], harness := (true, "a166f52cb560712c154543ad5317f07111c69d8e866c0e235ec38b91c734967b"), looks := true }, kinds := [], alts := [], goes := true, laidByText := true, laidKinds := [.data], laidTests := true, laidLooks := .later }
def BoundsUptoCardSaid : Prop := Claim7.holds Tryz.pinned (.plain (OpenSpec.upto boundsSpec)) boundsUptoCard

/-- THE SECOND FORM's CARD OF 'seeklaw.Alone'. -/
def aloneUptoCard : Claim7 := { stood := { row := aloneUptoRow, standIns := [], harness := (true, "a166f52cb560712c154543ad5317f07111c69d8e866c0e235ec38b91c734967b"), looks := true }, kinds := [], alts := [], goes := true, laidByText := true, laidKinds := [.data], laidTests := true, laidLooks := .later }
def AloneUptoCardSaid : Prop := Claim7.holds Tryz.pinned (.plain (OpenSpec.upto aloneSpec)) aloneUptoCard

/-- THE SECOND FORM's CARD OF 'seeklaw.Puts'. -/
def putsUptoCard : Claim7 := { stood := { row := putsUptoRow, standIns := [], harness := (true, "a166f52cb560712c154543ad5317f07111c69d8e866c0e235ec38b91c734967b"), looks := true }, kinds := [], alts := [], goes := true, laidByText := true, laidKinds := [.data, .data, .data, .data, .sentinel, .sentinel, .data, .pinned, .pinned, .pinned, .pinned, .pinned, .pinned], laidTests := true, laidLooks := .later }
def PutsUptoCardSaid : Prop := Claim7.holds Tryz.pinned (.plain (OpenSpec.upto putsSpec)) putsUptoCard

/-- THE SECOND FORM's CARD OF 'seeklaw.Finds'. -/
def findsUptoCard : Claim7 := { stood := { row := findsUptoRow, standIns := [], harness := (true, "a166f52cb560712c154543ad5317f07111c69d8e866c0e235ec38b91c734967b"), looks := true }, kinds := [], alts := [], goes := true, laidByText := true, laidKinds := [.data, .data, .data, .data, .sentinel, .sentinel, .data, .pinned, .pinned, .pinned, .pinned, .pinned, .pinned], laidTests := true, laidLooks := .later }
def FindsUptoCardSaid : Prop := Claim7.holds Tryz.pinned (.plain (OpenSpec.upto findsSpec)) findsUptoCard

/-- THE SECOND FORM's CARD OF 'seeklaw.Logic'. -/
def logicUptoCard : Claim7 := { stood := { row := logicUptoRow, standIns := [], harness := (true, "a166f52cb560712c154543ad5317f07111c69d8e866c0e235ec38b91c734967b"), looks := true }, kinds := [], alts := [], goes := true, laidByText := true, laidKinds := [.data, .data, .data, .data, .sentinel, .sentinel, .data, .pinned, .pinned, .pinned, .pinned, .pinned, .pinned], laidTests := true, laidLooks := .later }
def LogicUptoCardSaid : Prop := Claim7.holds Tryz.pinned (.plain (OpenSpec.upto logicSpec)) logicUptoCard

/-- THE SECOND FORM's CARD OF 'seeklaw.Marks'. -/
def marksUptoCard : Claim7 := { stood := { row := marksUptoRow, standIns := [], harness := (true, "a166f52cb560712c154543ad5317f07111c69d8e866c0e235ec38b91c734967b"), looks := true }, kinds := [], alts := [], goes := true, laidByText := true, laidKinds := [.data, .data, .data, .data, .sentinel, .sentinel, .data, .pinned, .pinned, .pinned, .pinned, .pinned, .pinned], laidTests := true, laidLooks := .later }
def MarksUptoCardSaid : Prop := Claim7.holds Tryz.pinned (.plain (OpenSpec.upto marksSpec)) marksUptoCard

/-- THE SECOND FORM's CARD OF 'seeklaw.Marked'. -/
def markedUptoCard : Claim7 := { stood := { row := markedUptoRow, standIns := [], harness := (true, "a166f52cb560712c154543ad5317f07111c69d8e866c0e235ec38b91c734967b"), looks := true }, kinds := [], alts := [], goes := true, laidByText := true, laidKinds := [.data, .data, .data, .data, .sentinel, .sentinel, .data, .pinned, .pinned, .pinned, .pinned, .pinned, .pinned], laidTests := true, laidLooks := .later }
def MarkedUptoCardSaid : Prop := Claim7.holds Tryz.pinned (.plain (OpenSpec.upto markedSpec)) markedUptoCard

/-- THE SECOND FORM's CARD OF 'seeklaw.Traces'. -/
def tracesUptoCard : Claim7 := { stood := { row := tracesUptoRow, standIns := [], harness := (true, "a166f52cb560712c154543ad5317f07111c69d8e866c0e235ec38b91c734967b"), looks := true }, kinds := [], alts := [], goes := true, laidByText := true, laidKinds := [.data, .data, .data, .data, .sentinel, .sentinel, .data, .pinned, .pinned, .pinned, .pinned, .pinned, .pinned], laidTests := true, laidLooks := .later }
def TracesUptoCardSaid : Prop := Claim7.holds Tryz.pinned (.plain (OpenSpec.upto tracesSpec)) tracesUptoCard

/-- THE SECOND FORM's CARD OF 'seeklaw.Loads'. -/
def loadsUptoCard : Claim7 := { stood := { row := loadsUptoRow, standIns := [], harness := (true, "a166f52cb560712c154543ad5317f07111c69d8e866c0e235ec38b91c734967b"), looks := true }, kinds := [], alts := [], goes := true, laidByText := true, laidKinds := [.data, .data, .data, .data, .sentinel, .sentinel, .data, .pinned, .pinned, .pinned, .pinned, .pinned, .pinned], laidTests := true, laidLooks := .later }
def LoadsUptoCardSaid : Prop := Claim7.holds Tryz.pinned (.plain (OpenSpec.upto loadsSpec)) loadsUptoCard
end Rows
end Go.Proofs.YtcmgclckknpecaaGreatDoor
