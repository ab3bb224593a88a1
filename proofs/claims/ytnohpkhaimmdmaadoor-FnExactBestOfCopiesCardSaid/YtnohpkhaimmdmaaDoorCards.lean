/-
  DERIVED. GIVEN WITH THE SEED: THE CARDS: each row of YtnohpkhaimmdmaaDoorRows.lean that lists a variable, with what it lists TIED to the program's text (the seventh form; the later family's looks); each row that meets fmt, with fmt's text TOLD by the authors' own Lean function (tested against real Go, not proved from fmt's source: count such statements apart). THE CARD IS WHAT COUNTS. Prove the row's statement (the work); the ties are given (YtnohpkhaimmdmaaDoorTie.lean); close each card by the builder's one call (the guide's Derived/Test/ToyasCard.lean, 'card_holds'). Laid BY PROGRAM, IN A SANDBOX (cutbox-door.mjs). By AI agents, Wed Nov 11 2026. No macro, syntax, notation, axiom, sorry.
-/
import Derived.Test.YtnohpkhaimmdmaaDoorRows
import GoSem.ClaimSeven
namespace Go.Proofs.YtnohpkhaimmdmaaDoor
namespace Rows

/-- THE TIED CARD OF 'laws.FnExactDustIn'. -/
def fnExactDustInCard : Claim7 := { stood := { row := fnExactDustInRow, standIns := [], harness := (true, "81e3b97e8cc5f163f70297cd9eec731424b1a76776b63bab6ca4bf0b21d79c2c"), looks := true }, kinds := [], alts := [], laidByText := true, laidKinds := [.sentinel, .sentinel, .sentinel, .sentinel, .sentinel, .sentinel], laidTests := true, laidLooks := .later }
def FnExactDustInCardSaid : Prop := Claim7.holds Tryd.pinned (.plain (OpenSpec.ofChange fnExactDustInSpec)) fnExactDustInCard

/-- THE TIED CARD OF 'laws.FnExactCleanestCopy'. -/
def fnExactCleanestCopyCard : Claim7 := { stood := { row := fnExactCleanestCopyRow, standIns := [], harness := (true, "81e3b97e8cc5f163f70297cd9eec731424b1a76776b63bab6ca4bf0b21d79c2c"), looks := true }, kinds := [], alts := [], laidByText := true, laidKinds := [.sentinel, .sentinel, .sentinel, .sentinel, .sentinel, .sentinel], laidTests := true, laidLooks := .later }
def FnExactCleanestCopyCardSaid : Prop := Claim7.holds Tryd.pinned (.plain (OpenSpec.ofChange fnExactCleanestCopySpec)) fnExactCleanestCopyCard

/-- THE TIED CARD OF 'laws.FnExactBestOfCopies'. -/
def fnExactBestOfCopiesCard : Claim7 := { stood := { row := fnExactBestOfCopiesRow, standIns := [], harness := (true, "81e3b97e8cc5f163f70297cd9eec731424b1a76776b63bab6ca4bf0b21d79c2c"), looks := true }, kinds := [], alts := [], laidByText := true, laidKinds := [.data, .sentinel, .sentinel, .sentinel, .sentinel, .sentinel, .sentinel], laidTests := true, laidLooks := .later }
def FnExactBestOfCopiesCardSaid : Prop := Claim7.holds Tryd.pinned (.plain (OpenSpec.ofChange fnExactBestOfCopiesSpec)) fnExactBestOfCopiesCard

/-- THE SECOND FORM's CARD OF 'laws.FnExactDustIn'. -/
def fnExactDustInUptoCard : Claim7 := { stood := { row := fnExactDustInUptoRow, standIns := [], harness := (true, "81e3b97e8cc5f163f70297cd9eec731424b1a76776b63bab6ca4bf0b21d79c2c"), looks := true }, kinds := [], alts := [], laidByText := true, laidKinds := [.sentinel, .sentinel, .sentinel, .sentinel, .sentinel, .sentinel], laidTests := true, laidLooks := .later }
def FnExactDustInUptoCardSaid : Prop := Claim7.holds Tryd.pinned (.plain (OpenSpec.upto fnExactDustInSpec)) fnExactDustInUptoCard

/-- THE SECOND FORM's CARD OF 'laws.FnExactCleanestCopy'. -/
def fnExactCleanestCopyUptoCard : Claim7 := { stood := { row := fnExactCleanestCopyUptoRow, standIns := [], harness := (true, "81e3b97e8cc5f163f70297cd9eec731424b1a76776b63bab6ca4bf0b21d79c2c"), looks := true }, kinds := [], alts := [], laidByText := true, laidKinds := [.sentinel, .sentinel, .sentinel, .sentinel, .sentinel, .sentinel], laidTests := true, laidLooks := .later }
def FnExactCleanestCopyUptoCardSaid : Prop := Claim7.holds Tryd.pinned (.plain (OpenSpec.upto fnExactCleanestCopySpec)) fnExactCleanestCopyUptoCard

/-- THE SECOND FORM's CARD OF 'laws.FnExactBestOfCopies'. -/
def fnExactBestOfCopiesUptoCard : Claim7 := { stood := { row := fnExactBestOfCopiesUptoRow, standIns := [], harness := (true, "81e3b97e8cc5f163f70297cd9eec731424b1a76776b63bab6ca4bf0b21d79c2c"), looks := true }, kinds := [], alts := [], laidByText := true, laidKinds := [.data, .sentinel, .sentinel, .sentinel, .sentinel, .sentinel, .sentinel], laidTests := true, laidLooks := .later }
def FnExactBestOfCopiesUptoCardSaid : Prop := Claim7.holds Tryd.pinned (.plain (OpenSpec.upto fnExactBestOfCopiesSpec)) fnExactBestOfCopiesUptoCard
end Rows
end Go.Proofs.YtnohpkhaimmdmaaDoor
