/-
  DERIVED. GIVEN WITH THE SEED: THE CARDS: each row of YtnlcjbobfhmnmabGreatDoorRows.lean that lists a variable, with what it lists TIED to the program's text (the seventh form; the later family's looks); each row that meets fmt, with fmt's text TOLD by the authors' own Lean function (tested against real Go, not proved from fmt's source: count such statements apart). THE CARD IS WHAT COUNTS. Prove the row's statement (the work); the ties are given (YtnlcjbobfhmnmabGreatDoorTie.lean); close each card by the builder's one call (the guide's Derived/Test/ToyasCard.lean, 'card_holds'). Laid BY PROGRAM, IN A SANDBOX (cutbox-door.mjs). By AI agents, Wed Nov 11 2026. No macro, syntax, notation, axiom, sorry.
-/
import Derived.Test.YtnlcjbobfhmnmabGreatDoorRows
import GoSem.ClaimSeven
namespace Go.Proofs.YtnlcjbobfhmnmabGreatDoor
namespace Rows

/-- THE TIED CARD OF 'laws.FnBands'. -/
def fnBandsCard : Claim7 := { stood := { row := fnBandsRow, standIns := [], harness := (true, "39e73d6c93854578b62f95212b2bb5748bd6f906d695bcf7ffb051c82e039750"), looks := true }, kinds := [], alts := [], laidByText := true, laidKinds := [.data, .data, .data, .sentinel, .sentinel, .sentinel, .sentinel, .sentinel, .sentinel, .sentinel, .sentinel, .data], laidTests := true, laidLooks := .later }
def FnBandsCardSaid : Prop := Claim7.holds Tryz.pinned (.plain (OpenSpec.ofChange fnBandsSpec)) fnBandsCard

/-- THE SECOND FORM's CARD OF 'laws.FnBands'. -/
def fnBandsUptoCard : Claim7 := { stood := { row := fnBandsUptoRow, standIns := [], harness := (true, "39e73d6c93854578b62f95212b2bb5748bd6f906d695bcf7ffb051c82e039750"), looks := true }, kinds := [], alts := [], laidByText := true, laidKinds := [.data, .data, .data, .sentinel, .sentinel, .sentinel, .sentinel, .sentinel, .sentinel, .sentinel, .sentinel, .data], laidTests := true, laidLooks := .later }
def FnBandsUptoCardSaid : Prop := Claim7.holds Tryz.pinned (.plain (OpenSpec.upto fnBandsSpec)) fnBandsUptoCard
end Rows
end Go.Proofs.YtnlcjbobfhmnmabGreatDoor
