/-
  DERIVED. GIVEN WITH THE SEED: THE CARDS: each row of YtffdkniahdekjaaDoorRows.lean that lists a variable, with what it lists TIED to the program's text (the seventh form; the later family's looks); each row that meets fmt, with fmt's text TOLD by the authors' own Lean function (tested against real Go, not proved from fmt's source: count such statements apart). THE CARD IS WHAT COUNTS. Prove the row's statement (the work); the ties are given (YtffdkniahdekjaaDoorTie.lean); close each card by the builder's one call (the guide's Derived/Test/ToyasCard.lean, 'card_holds'). Laid BY PROGRAM, IN A SANDBOX (cutbox-door.mjs). By AI agents, Wed Nov 11 2026. No macro, syntax, notation, axiom, sorry.
-/
import Derived.Test.YtffdkniahdekjaaDoorRows
import GoSem.ClaimSeven
namespace Go.Proofs.YtffdkniahdekjaaDoor
namespace Rows

/-- THE TIED CARD OF 'hoarstonelaw01.SumDigests'. -/
def sumDigestsCard : Claim7 := { stood := { row := sumDigestsRow, standIns := [], harness := (true, "6246c9adc519aefa69dd00d9fae8bde5f5b23fff6abdc38496ff9adc8e693e81"), looks := false }, kinds := [], alts := [], laidByText := true, laidKinds := [.data], laidTests := true, laidLooks := .later }
def SumDigestsCardSaid : Prop := Claim7.holds Tryd.pinned (.plain (OpenSpec.ofChange sumDigestsSpec)) sumDigestsCard

/-- THE TIED CARD OF 'hoarstonelaw01.SumPieces'. -/
def sumPiecesCard : Claim7 := { stood := { row := sumPiecesRow, standIns := [], harness := (true, "6246c9adc519aefa69dd00d9fae8bde5f5b23fff6abdc38496ff9adc8e693e81"), looks := false }, kinds := [], alts := [], laidByText := true, laidKinds := [.data], laidTests := true, laidLooks := .later }
def SumPiecesCardSaid : Prop := Claim7.holds Tryd.pinned (.plain (OpenSpec.ofChange sumPiecesSpec)) sumPiecesCard

/-- THE TIED CARD OF 'hoarstonelaw01.SumDigits'. -/
def sumDigitsCard : Claim7 := { stood := { row := sumDigitsRow, standIns := [], harness := (true, "6246c9adc519aefa69dd00d9fae8bde5f5b23fff6abdc38496ff9adc8e693e81"), looks := false }, kinds := [], alts := [], laidByText := true, laidKinds := [.data], laidTests := true, laidLooks := .later }
def SumDigitsCardSaid : Prop := Claim7.holds Tryd.pinned (.plain (OpenSpec.ofChange sumDigitsSpec)) sumDigitsCard

/-- THE TIED CARD OF 'hoarstonelaw01.SumLists'. -/
def sumListsCard : Claim7 := { stood := { row := sumListsRow, standIns := [], harness := (true, "6246c9adc519aefa69dd00d9fae8bde5f5b23fff6abdc38496ff9adc8e693e81"), looks := false }, kinds := [], alts := [], laidByText := true, laidKinds := [.data], laidTests := true, laidLooks := .later }
def SumListsCardSaid : Prop := Claim7.holds Tryd.pinned (.plain (OpenSpec.ofChange sumListsSpec)) sumListsCard

/-- THE TIED CARD OF 'hoarstonelaw01.SumTrees'. -/
def sumTreesCard : Claim7 := { stood := { row := sumTreesRow, standIns := [], harness := (true, "6246c9adc519aefa69dd00d9fae8bde5f5b23fff6abdc38496ff9adc8e693e81"), looks := false }, kinds := [], alts := [], laidByText := true, laidKinds := [.data], laidTests := true, laidLooks := .later }
def SumTreesCardSaid : Prop := Claim7.holds Tryd.pinned (.plain (OpenSpec.ofChange sumTreesSpec)) sumTreesCard

/-- THE TIED CARD OF 'hoarstonelaw01.SumVerifies'. -/
def sumVerifiesCard : Claim7 := { stood := { row := sumVerifiesRow, standIns := [], harness := (true, "6246c9adc519aefa69dd00d9fae8bde5f5b23fff6abdc38496ff9adc8e693e81"), looks := false }, kinds := [], alts := [], laidByText := true, laidKinds := [.data], laidTests := true, laidLooks := .later }
def SumVerifiesCardSaid : Prop := Claim7.holds Tryd.pinned (.plain (OpenSpec.ofChange sumVerifiesSpec)) sumVerifiesCard

/-- THE TIED CARD OF 'hoarstonelaw01.SumShort'. -/
def sumShortCard : Claim7 := { stood := { row := sumShortRow, standIns := [], harness := (true, "6246c9adc519aefa69dd00d9fae8bde5f5b23fff6abdc38496ff9adc8e693e81"), looks := false }, kinds := [], alts := [], laidByText := true, laidKinds := [.data], laidTests := true, laidLooks := .later }
def SumShortCardSaid : Prop := Claim7.holds Tryd.pinned (.plain (OpenSpec.ofChange sumShortSpec)) sumShortCard

/-- THE TIED CARD OF 'hoarstonelaw01.SumJoins'. -/
def sumJoinsCard : Claim7 := { stood := { row := sumJoinsRow, standIns := [], harness := (true, "6246c9adc519aefa69dd00d9fae8bde5f5b23fff6abdc38496ff9adc8e693e81"), looks := false }, kinds := [], alts := [], laidByText := true, laidKinds := [.data], laidTests := true, laidLooks := .later }
def SumJoinsCardSaid : Prop := Claim7.holds Tryd.pinned (.plain (OpenSpec.ofChange sumJoinsSpec)) sumJoinsCard

/-- THE TIED CARD OF 'hoarstonelaw01.SumReads'. -/
def sumReadsCard : Claim7 := { stood := { row := sumReadsRow, standIns := [], harness := (true, "6246c9adc519aefa69dd00d9fae8bde5f5b23fff6abdc38496ff9adc8e693e81"), looks := false }, kinds := [], alts := [], laidByText := true, laidKinds := [.data], laidTests := true, laidLooks := .later }
def SumReadsCardSaid : Prop := Claim7.holds Tryd.pinned (.plain (OpenSpec.ofChange sumReadsSpec)) sumReadsCard

/-- THE TIED CARD OF 'hoarstonelaw01.SumGrows'. -/
def sumGrowsCard : Claim7 := { stood := { row := sumGrowsRow, standIns := [], harness := (true, "6246c9adc519aefa69dd00d9fae8bde5f5b23fff6abdc38496ff9adc8e693e81"), looks := false }, kinds := [], alts := [], laidByText := true, laidKinds := [.data], laidTests := true, laidLooks := .later }
def SumGrowsCardSaid : Prop := Claim7.holds Tryd.pinned (.plain (OpenSpec.ofChange sumGrowsSpec)) sumGrowsCard

/-- THE TIED CARD OF 'hoarstonelaw01.SumBinds'. -/
def sumBindsCard : Claim7 := { stood := { row := sumBindsRow, standIns := [], harness := (true, "6246c9adc519aefa69dd00d9fae8bde5f5b23fff6abdc38496ff9adc8e693e81"), looks := false }, kinds := [], alts := [], laidByText := true, laidKinds := [.data], laidTests := true, laidLooks := .later }
def SumBindsCardSaid : Prop := Claim7.holds Tryd.pinned (.plain (OpenSpec.ofChange sumBindsSpec)) sumBindsCard

/-- THE TIED CARD OF 'hoarstonelaw01.SumNames'. -/
def sumNamesCard : Claim7 := { stood := { row := sumNamesRow, standIns := [], harness := (true, "6246c9adc519aefa69dd00d9fae8bde5f5b23fff6abdc38496ff9adc8e693e81"), looks := false }, kinds := [], alts := [], laidByText := true, laidKinds := [.data], laidTests := true, laidLooks := .later }
def SumNamesCardSaid : Prop := Claim7.holds Tryd.pinned (.plain (OpenSpec.ofChange sumNamesSpec)) sumNamesCard

/-- THE SECOND FORM's CARD OF 'hoarstonelaw01.SumDigests'. -/
def sumDigestsUptoCard : Claim7 := { stood := { row := sumDigestsUptoRow, standIns := [], harness := (true, "6246c9adc519aefa69dd00d9fae8bde5f5b23fff6abdc38496ff9adc8e693e81"), looks := false }, kinds := [], alts := [], laidByText := true, laidKinds := [.data], laidTests := true, laidLooks := .later }
def SumDigestsUptoCardSaid : Prop := Claim7.holds Tryd.pinned (.plain (OpenSpec.upto sumDigestsSpec)) sumDigestsUptoCard

/-- THE SECOND FORM's CARD OF 'hoarstonelaw01.SumPieces'. -/
def sumPiecesUptoCard : Claim7 := { stood := { row := sumPiecesUptoRow, standIns := [], harness := (true, "6246c9adc519aefa69dd00d9fae8bde5f5b23fff6abdc38496ff9adc8e693e81"), looks := false }, kinds := [], alts := [], laidByText := true, laidKinds := [.data], laidTests := true, laidLooks := .later }
def SumPiecesUptoCardSaid : Prop := Claim7.holds Tryd.pinned (.plain (OpenSpec.upto sumPiecesSpec)) sumPiecesUptoCard

/-- THE SECOND FORM's CARD OF 'hoarstonelaw01.SumDigits'. -/
def sumDigitsUptoCard : Claim7 := { stood := { row := sumDigitsUptoRow, standIns := [], harness := (true, "6246c9adc519aefa69dd00d9fae8bde5f5b23fff6abdc38496ff9adc8e693e81"), looks := false }, kinds := [], alts := [], laidByText := true, laidKinds := [.data], laidTests := true, laidLooks := .later }
def SumDigitsUptoCardSaid : Prop := Claim7.holds Tryd.pinned (.plain (OpenSpec.upto sumDigitsSpec)) sumDigitsUptoCard

/-- THE SECOND FORM's CARD OF 'hoarstonelaw01.SumLists'. -/
def sumListsUptoCard : Claim7 := { stood := { row := sumListsUptoRow, standIns := [], harness := (true, "6246c9adc519aefa69dd00d9fae8bde5f5b23fff6abdc38496ff9adc8e693e81"), looks := false }, kinds := [], alts := [], laidByText := true, laidKinds := [.data], laidTests := true, laidLooks := .later }
def SumListsUptoCardSaid : Prop := Claim7.holds Tryd.pinned (.plain (OpenSpec.upto sumListsSpec)) sumListsUptoCard

/-- THE SECOND FORM's CARD OF 'hoarstonelaw01.SumTrees'. -/
def sumTreesUptoCard : Claim7 := { stood := { row := sumTreesUptoRow, standIns := [], harness := (true, "6246c9adc519aefa69dd00d9fae8bde5f5b23fff6abdc38496ff9adc8e693e81"), looks := false }, kinds := [], alts := [], laidByText := true, laidKinds := [.data], laidTests := true, laidLooks := .later }
def SumTreesUptoCardSaid : Prop := Claim7.holds Tryd.pinned (.plain (OpenSpec.upto sumTreesSpec)) sumTreesUptoCard

/-- THE SECOND FORM's CARD OF 'hoarstonelaw01.SumVerifies'. -/
def sumVerifiesUptoCard : Claim7 := { stood := { row := sumVerifiesUptoRow, standIns := [], harness := (true, "6246c9adc519aefa69dd00d9fae8bde5f5b23fff6abdc38496ff9adc8e693e81"), looks := false }, kinds := [], alts := [], laidByText := true, laidKinds := [.data], laidTests := true, laidLooks := .later }
def SumVerifiesUptoCardSaid : Prop := Claim7.holds Tryd.pinned (.plain (OpenSpec.upto sumVerifiesSpec)) sumVerifiesUptoCard

/-- THE SECOND FORM's CARD OF 'hoarstonelaw01.SumShort'. -/
def sumShortUptoCard : Claim7 := { stood := { row := sumShortUptoRow, standIns := [], harness := (true, "6246c9adc519aefa69dd00d9fae8bde5f5b23fff6abdc38496ff9adc8e693e81"), looks := false }, kinds := [], alts := [], laidByText := true, laidKinds := [.data], laidTests := true, laidLooks := .later }
def SumShortUptoCardSaid : Prop := Claim7.holds Tryd.pinned (.plain (OpenSpec.upto sumShortSpec)) sumShortUptoCard

/-- THE SECOND FORM's CARD OF 'hoarstonelaw01.SumJoins'. -/
def sumJoinsUptoCard : Claim7 := { stood := { row := sumJoinsUptoRow, standIns := [], harness := (true, "6246c9adc519aefa69dd00d9fae8bde5f5b23fff6abdc38496ff9adc8e693e81"), looks := false }, kinds := [], alts := [], laidByText := true, laidKinds := [.data], laidTests := true, laidLooks := .later }
def SumJoinsUptoCardSaid : Prop := Claim7.holds Tryd.pinned (.plain (OpenSpec.upto sumJoinsSpec)) sumJoinsUptoCard

/-- THE SECOND FORM's CARD OF 'hoarstonelaw01.SumReads'. -/
def sumReadsUptoCard : Claim7 := { stood := { row := sumReadsUptoRow, standIns := [], harness := (true, "6246c9adc519aefa69dd00d9fae8bde5f5b23fff6abdc38496ff9adc8e693e81"), looks := false }, kinds := [], alts := [], laidByText := true, laidKinds := [.data], laidTests := true, laidLooks := .later }
def SumReadsUptoCardSaid : Prop := Claim7.holds Tryd.pinned (.plain (OpenSpec.upto sumReadsSpec)) sumReadsUptoCard

/-- THE SECOND FORM's CARD OF 'hoarstonelaw01.SumGrows'. -/
def sumGrowsUptoCard : Claim7 := { stood := { row := sumGrowsUptoRow, standIns := [], harness := (true, "6246c9adc519aefa69dd00d9fae8bde5f5b23fff6abdc38496ff9adc8e693e81"), looks := false }, kinds := [], alts := [], laidByText := true, laidKinds := [.data], laidTests := true, laidLooks := .later }
def SumGrowsUptoCardSaid : Prop := Claim7.holds Tryd.pinned (.plain (OpenSpec.upto sumGrowsSpec)) sumGrowsUptoCard

/-- THE SECOND FORM's CARD OF 'hoarstonelaw01.SumBinds'. -/
def sumBindsUptoCard : Claim7 := { stood := { row := sumBindsUptoRow, standIns := [], harness := (true, "6246c9adc519aefa69dd00d9fae8bde5f5b23fff6abdc38496ff9adc8e693e81"), looks := false }, kinds := [], alts := [], laidByText := true, laidKinds := [.data], laidTests := true, laidLooks := .later }
def SumBindsUptoCardSaid : Prop := Claim7.holds Tryd.pinned (.plain (OpenSpec.upto sumBindsSpec)) sumBindsUptoCard

/-- THE SECOND FORM's CARD OF 'hoarstonelaw01.SumNames'. -/
def sumNamesUptoCard : Claim7 := { stood := { row := sumNamesUptoRow, standIns := [], harness := (true, "6246c9adc519aefa69dd00d9fae8bde5f5b23fff6abdc38496ff9adc8e693e81"), looks := false }, kinds := [], alts := [], laidByText := true, laidKinds := [.data], laidTests := true, laidLooks := .later }
def SumNamesUptoCardSaid : Prop := Claim7.holds Tryd.pinned (.plain (OpenSpec.upto sumNamesSpec)) sumNamesUptoCard
end Rows
end Go.Proofs.YtffdkniahdekjaaDoor
