/-
  DERIVED. GIVEN WITH THE SEED: THE CARDS: each row of YtmjmpdbkijhkiaaDoorRows.lean that lists a variable, with what it lists TIED to the program's text (the seventh form; the later family's looks); each row that meets fmt, with fmt's text TOLD by the authors' own Lean function (tested against real Go, not proved from fmt's source: count such statements apart). THE CARD IS WHAT COUNTS. Prove the row's statement (the work); the ties are given (YtmjmpdbkijhkiaaDoorTie.lean); close each card by the builder's one call (the guide's Derived/Test/ToyasCard.lean, 'card_holds'). Laid BY PROGRAM, IN A SANDBOX (cutbox-door.mjs). By AI agents, Wed Nov 11 2026. No macro, syntax, notation, axiom, sorry.
-/
import Derived.Test.YtmjmpdbkijhkiaaDoorRows
import GoSem.ClaimSeven
namespace Go.Proofs.YtmjmpdbkijhkiaaDoor
namespace Rows

/-- THE TIED CARD OF 'annuitantlaw03.CalendarDays'. -/
def calendarDaysCard : Claim7 := { stood := { row := calendarDaysRow, standIns := [], harness := (true, "7e671f7d64bc71fda0ff57534a6d0249ecd0404d9adbf847097f3a5b00f567b5"), looks := false }, kinds := [], alts := [], laidByText := true, laidKinds := [.data], laidTests := true, laidLooks := .later }
def CalendarDaysCardSaid : Prop := Claim7.holds Tryd.pinned (.plain (OpenSpec.ofChange calendarDaysSpec)) calendarDaysCard

/-- THE TIED CARD OF 'annuitantlaw03.CalendarTells'. -/
def calendarTellsCard : Claim7 := { stood := { row := calendarTellsRow, standIns := [], harness := (true, "7e671f7d64bc71fda0ff57534a6d0249ecd0404d9adbf847097f3a5b00f567b5"), looks := false }, kinds := [], alts := [], laidByText := true, laidKinds := [.data], laidTests := true, laidLooks := .later }
def CalendarTellsCardSaid : Prop := Claim7.holds Tryd.pinned (.plain (OpenSpec.ofChange calendarTellsSpec)) calendarTellsCard

/-- THE TIED CARD OF 'annuitantlaw03.CalendarMoves'. -/
def calendarMovesCard : Claim7 := { stood := { row := calendarMovesRow, standIns := [], harness := (true, "7e671f7d64bc71fda0ff57534a6d0249ecd0404d9adbf847097f3a5b00f567b5"), looks := false }, kinds := [], alts := [], laidByText := true, laidKinds := [.data], laidTests := true, laidLooks := .later }
def CalendarMovesCardSaid : Prop := Claim7.holds Tryd.pinned (.plain (OpenSpec.ofChange calendarMovesSpec)) calendarMovesCard

/-- THE TIED CARD OF 'annuitantlaw03.CalendarReads'. -/
def calendarReadsCard : Claim7 := { stood := { row := calendarReadsRow, standIns := [], harness := (true, "7e671f7d64bc71fda0ff57534a6d0249ecd0404d9adbf847097f3a5b00f567b5"), looks := false }, kinds := [], alts := [], laidByText := true, laidKinds := [.data], laidTests := true, laidLooks := .later }
def CalendarReadsCardSaid : Prop := Claim7.holds Tryd.pinned (.plain (OpenSpec.ofChange calendarReadsSpec)) calendarReadsCard

/-- THE TIED CARD OF 'annuitantlaw03.CalendarSmall'. -/
def calendarSmallCard : Claim7 := { stood := { row := calendarSmallRow, standIns := [], harness := (true, "7e671f7d64bc71fda0ff57534a6d0249ecd0404d9adbf847097f3a5b00f567b5"), looks := false }, kinds := [], alts := [], laidByText := true, laidKinds := [.data], laidTests := true, laidLooks := .later }
def CalendarSmallCardSaid : Prop := Claim7.holds Tryd.pinned (.plain (OpenSpec.ofChange calendarSmallSpec)) calendarSmallCard

/-- THE TIED CARD OF 'annuitantlaw03.CalendarNext'. -/
def calendarNextCard : Claim7 := { stood := { row := calendarNextRow, standIns := [], harness := (true, "7e671f7d64bc71fda0ff57534a6d0249ecd0404d9adbf847097f3a5b00f567b5"), looks := false }, kinds := [], alts := [], laidByText := true, laidKinds := [.data], laidTests := true, laidLooks := .later }
def CalendarNextCardSaid : Prop := Claim7.holds Tryd.pinned (.plain (OpenSpec.ofChange calendarNextSpec)) calendarNextCard

/-- THE TIED CARD OF 'annuitantlaw03.CalendarYears'. -/
def calendarYearsCard : Claim7 := { stood := { row := calendarYearsRow, standIns := [], harness := (true, "7e671f7d64bc71fda0ff57534a6d0249ecd0404d9adbf847097f3a5b00f567b5"), looks := false }, kinds := [], alts := [], laidByText := true, laidKinds := [.data], laidTests := true, laidLooks := .later }
def CalendarYearsCardSaid : Prop := Claim7.holds Tryd.pinned (.plain (OpenSpec.ofChange calendarYearsSpec)) calendarYearsCard

/-- THE TIED CARD OF 'annuitantlaw03.CalendarLater'. -/
def calendarLaterCard : Claim7 := { stood := { row := calendarLaterRow, standIns := [], harness := (true, "7e671f7d64bc71fda0ff57534a6d0249ecd0404d9adbf847097f3a5b00f567b5"), looks := false }, kinds := [], alts := [], laidByText := true, laidKinds := [.data], laidTests := true, laidLooks := .later }
def CalendarLaterCardSaid : Prop := Claim7.holds Tryd.pinned (.plain (OpenSpec.ofChange calendarLaterSpec)) calendarLaterCard

/-- THE TIED CARD OF 'annuitantlaw03.CalendarWhole'. -/
def calendarWholeCard : Claim7 := { stood := { row := calendarWholeRow, standIns := [], harness := (true, "7e671f7d64bc71fda0ff57534a6d0249ecd0404d9adbf847097f3a5b00f567b5"), looks := false }, kinds := [], alts := [], laidByText := true, laidKinds := [.data], laidTests := true, laidLooks := .later }
def CalendarWholeCardSaid : Prop := Claim7.holds Tryd.pinned (.plain (OpenSpec.ofChange calendarWholeSpec)) calendarWholeCard

/-- THE TIED CARD OF 'annuitantlaw03.CalendarBirthdays'. -/
def calendarBirthdaysCard : Claim7 := { stood := { row := calendarBirthdaysRow, standIns := [], harness := (true, "7e671f7d64bc71fda0ff57534a6d0249ecd0404d9adbf847097f3a5b00f567b5"), looks := false }, kinds := [], alts := [], laidByText := true, laidKinds := [.data], laidTests := true, laidLooks := .later }
def CalendarBirthdaysCardSaid : Prop := Claim7.holds Tryd.pinned (.plain (OpenSpec.ofChange calendarBirthdaysSpec)) calendarBirthdaysCard

/-- THE TIED CARD OF 'annuitantlaw03.CalendarTexts'. -/
def calendarTextsCard : Claim7 := { stood := { row := calendarTextsRow, standIns := [], harness := (true, "7e671f7d64bc71fda0ff57534a6d0249ecd0404d9adbf847097f3a5b00f567b5"), looks := false }, kinds := [], alts := [], laidByText := true, laidKinds := [.data], laidTests := true, laidLooks := .later }
def CalendarTextsCardSaid : Prop := Claim7.holds Tryd.pinned (.plain (OpenSpec.ofChange calendarTextsSpec)) calendarTextsCard

/-- THE TIED CARD OF 'annuitantlaw03.CalendarWrong'. -/
def calendarWrongCard : Claim7 := { stood := { row := calendarWrongRow, standIns := [], harness := (true, "7e671f7d64bc71fda0ff57534a6d0249ecd0404d9adbf847097f3a5b00f567b5"), looks := false }, kinds := [], alts := [], laidByText := true, laidKinds := [.data], laidTests := true, laidLooks := .later }
def CalendarWrongCardSaid : Prop := Claim7.holds Tryd.pinned (.plain (OpenSpec.ofChange calendarWrongSpec)) calendarWrongCard

/-- THE SECOND FORM's CARD OF 'annuitantlaw03.CalendarDays'. -/
def calendarDaysUptoCard : Claim7 := { stood := { row := calendarDaysUptoRow, standIns := [], harness := (true, "7e671f7d64bc71fda0ff57534a6d0249ecd0404d9adbf847097f3a5b00f567b5"), looks := false }, kinds := [], alts := [], laidByText := true, laidKinds := [.data], laidTests := true, laidLooks := .later }
def CalendarDaysUptoCardSaid : Prop := Claim7.holds Tryd.pinned (.plain (OpenSpec.upto calendarDaysSpec)) calendarDaysUptoCard

/-- THE SECOND FORM's CARD OF 'annuitantlaw03.CalendarTells'. -/
def calendarTellsUptoCard : Claim7 := { stood := { row := calendarTellsUptoRow, standIns := [], harness := (true, "7e671f7d64bc71fda0ff57534a6d0249ecd0404d9adbf847097f3a5b00f567b5"), looks := false }, kinds := [], alts := [], laidByText := true, laidKinds := [.data], laidTests := true, laidLooks := .later }
def CalendarTellsUptoCardSaid : Prop := Claim7.holds Tryd.pinned (.plain (OpenSpec.upto calendarTellsSpec)) calendarTellsUptoCard

/-- THE SECOND FORM's CARD OF 'annuitantlaw03.CalendarMoves'. -/
def calendarMovesUptoCard : Claim7 := { stood := { row := calendarMovesUptoRow, standIns := [], harness := (true, "7e671f7d64bc71fda0ff57534a6d0249ecd0404d9adbf847097f3a5b00f567b5"), looks := false }, kinds := [], alts := [], laidByText := true, laidKinds := [.data], laidTests := true, laidLooks := .later }
def CalendarMovesUptoCardSaid : Prop := Claim7.holds Tryd.pinned (.plain (OpenSpec.upto calendarMovesSpec)) calendarMovesUptoCard

/-- THE SECOND FORM's CARD OF 'annuitantlaw03.CalendarReads'. -/
def calendarReadsUptoCard : Claim7 := { stood := { row := calendarReadsUptoRow, standIns := [], harness := (true, "7e671f7d64bc71fda0ff57534a6d0249ecd0404d9adbf847097f3a5b00f567b5"), looks := false }, kinds := [], alts := [], laidByText := true, laidKinds := [.data], laidTests := true, laidLooks := .later }
def CalendarReadsUptoCardSaid : Prop := Claim7.holds Tryd.pinned (.plain (OpenSpec.upto calendarReadsSpec)) calendarReadsUptoCard

/-- THE SECOND FORM's CARD OF 'annuitantlaw03.CalendarSmall'. -/
def calendarSmallUptoCard : Claim7 := { stood := { row := calendarSmallUptoRow, standIns := [], harness := (true, "7e671f7d64bc71fda0ff57534a6d0249ecd0404d9adbf847097f3a5b00f567b5"), looks := false }, kinds := [], alts := [], laidByText := true, laidKinds := [.data], laidTests := true, laidLooks := .later }
def CalendarSmallUptoCardSaid : Prop := Claim7.holds Tryd.pinned (.plain (OpenSpec.upto calendarSmallSpec)) calendarSmallUptoCard

/-- THE SECOND FORM's CARD OF 'annuitantlaw03.CalendarNext'. -/
def calendarNextUptoCard : Claim7 := { stood := { row := calendarNextUptoRow, standIns := [], harness := (true, "7e671f7d64bc71fda0ff57534a6d0249ecd0404d9adbf847097f3a5b00f567b5"), looks := false }, kinds := [], alts := [], laidByText := true, laidKinds := [.data], laidTests := true, laidLooks := .later }
def CalendarNextUptoCardSaid : Prop := Claim7.holds Tryd.pinned (.plain (OpenSpec.upto calendarNextSpec)) calendarNextUptoCard

/-- THE SECOND FORM's CARD OF 'annuitantlaw03.CalendarYears'. -/
def calendarYearsUptoCard : Claim7 := { stood := { row := calendarYearsUptoRow, standIns := [], harness := (true, "7e671f7d64bc71fda0ff57534a6d0249ecd0404d9adbf847097f3a5b00f567b5"), looks := false }, kinds := [], alts := [], laidByText := true, laidKinds := [.data], laidTests := true, laidLooks := .later }
def CalendarYearsUptoCardSaid : Prop := Claim7.holds Tryd.pinned (.plain (OpenSpec.upto calendarYearsSpec)) calendarYearsUptoCard

/-- THE SECOND FORM's CARD OF 'annuitantlaw03.CalendarLater'. -/
def calendarLaterUptoCard : Claim7 := { stood := { row := calendarLaterUptoRow, standIns := [], harness := (true, "7e671f7d64bc71fda0ff57534a6d0249ecd0404d9adbf847097f3a5b00f567b5"), looks := false }, kinds := [], alts := [], laidByText := true, laidKinds := [.data], laidTests := true, laidLooks := .later }
def CalendarLaterUptoCardSaid : Prop := Claim7.holds Tryd.pinned (.plain (OpenSpec.upto calendarLaterSpec)) calendarLaterUptoCard

/-- THE SECOND FORM's CARD OF 'annuitantlaw03.CalendarWhole'. -/
def calendarWholeUptoCard : Claim7 := { stood := { row := calendarWholeUptoRow, standIns := [], harness := (true, "7e671f7d64bc71fda0ff57534a6d0249ecd0404d9adbf847097f3a5b00f567b5"), looks := false }, kinds := [], alts := [], laidByText := true, laidKinds := [.data], laidTests := true, laidLooks := .later }
def CalendarWholeUptoCardSaid : Prop := Claim7.holds Tryd.pinned (.plain (OpenSpec.upto calendarWholeSpec)) calendarWholeUptoCard

/-- THE SECOND FORM's CARD OF 'annuitantlaw03.CalendarBirthdays'. -/
def calendarBirthdaysUptoCard : Claim7 := { stood := { row := calendarBirthdaysUptoRow, standIns := [], harness := (true, "7e671f7d64bc71fda0ff57534a6d0249ecd0404d9adbf847097f3a5b00f567b5"), looks := false }, kinds := [], alts := [], laidByText := true, laidKinds := [.data], laidTests := true, laidLooks := .later }
def CalendarBirthdaysUptoCardSaid : Prop := Claim7.holds Tryd.pinned (.plain (OpenSpec.upto calendarBirthdaysSpec)) calendarBirthdaysUptoCard

/-- THE SECOND FORM's CARD OF 'annuitantlaw03.CalendarTexts'. -/
def calendarTextsUptoCard : Claim7 := { stood := { row := calendarTextsUptoRow, standIns := [], harness := (true, "7e671f7d64bc71fda0ff57534a6d0249ecd0404d9adbf847097f3a5b00f567b5"), looks := false }, kinds := [], alts := [], laidByText := true, laidKinds := [.data], laidTests := true, laidLooks := .later }
def CalendarTextsUptoCardSaid : Prop := Claim7.holds Tryd.pinned (.plain (OpenSpec.upto calendarTextsSpec)) calendarTextsUptoCard

/-- THE SECOND FORM's CARD OF 'annuitantlaw03.CalendarWrong'. -/
def calendarWrongUptoCard : Claim7 := { stood := { row := calendarWrongUptoRow, standIns := [], harness := (true, "7e671f7d64bc71fda0ff57534a6d0249ecd0404d9adbf847097f3a5b00f567b5"), looks := false }, kinds := [], alts := [], laidByText := true, laidKinds := [.data], laidTests := true, laidLooks := .later }
def CalendarWrongUptoCardSaid : Prop := Claim7.holds Tryd.pinned (.plain (OpenSpec.upto calendarWrongSpec)) calendarWrongUptoCard
end Rows
end Go.Proofs.YtmjmpdbkijhkiaaDoor
