/-
  DERIVED. GIVEN WITH THE SEED: THE CARDS: each row of YtkeigoighebjpaaDoorRows.lean that lists a variable, with what it lists TIED to the program's text (the seventh form; the later family's looks); each row that meets fmt, with fmt's text TOLD by the authors' own Lean function (tested against real Go, not proved from fmt's source: count such statements apart). THE CARD IS WHAT COUNTS. Prove the row's statement (the work); the ties are given (YtkeigoighebjpaaDoorTie.lean); close each card by the builder's one call (the guide's Derived/Test/ToyasCard.lean, 'card_holds'). Laid BY PROGRAM, IN A SANDBOX (cutbox-door.mjs). By AI agents, Wed Nov 11 2026. No macro, syntax, notation, axiom, sorry.
-/
import Derived.Test.YtkeigoighebjpaaDoorRows
import GoSem.ClaimSeven
namespace Go.Proofs.YtkeigoighebjpaaDoor
namespace Rows

/-- THE TIED CARD OF 'laws.FnExactMisfitOf'. -/
def fnExactMisfitOfCard : Claim7 := { stood := { row := fnExactMisfitOfRow, standIns := [], harness := (true, "4ff1fc06e8674676407ef3e567454248128eab36ea736dd3e69dc52f06331ab0"), looks := true }, kinds := [], alts := [], laidByText := true, laidKinds := [.sentinel, .sentinel, .sentinel, .sentinel, .sentinel, .sentinel], laidTests := true, laidLooks := .later }
def FnExactMisfitOfCardSaid : Prop := Claim7.holds Tryd.pinned (.plain (OpenSpec.ofChange fnExactMisfitOfSpec)) fnExactMisfitOfCard

/-- THE TIED CARD OF 'laws.FnExactBlackTime'. -/
def fnExactBlackTimeCard : Claim7 := { stood := { row := fnExactBlackTimeRow, standIns := [], harness := (true, "4ff1fc06e8674676407ef3e567454248128eab36ea736dd3e69dc52f06331ab0"), looks := true }, kinds := [], alts := [], laidByText := true, laidKinds := [.sentinel, .sentinel, .sentinel, .sentinel, .sentinel, .sentinel], laidTests := true, laidLooks := .later }
def FnExactBlackTimeCardSaid : Prop := Claim7.holds Tryd.pinned (.plain (OpenSpec.ofChange fnExactBlackTimeSpec)) fnExactBlackTimeCard

/-- THE TIED CARD OF 'laws.FnExactOrderGrades'. -/
def fnExactOrderGradesCard : Claim7 := { stood := { row := fnExactOrderGradesRow, standIns := [], harness := (true, "4ff1fc06e8674676407ef3e567454248128eab36ea736dd3e69dc52f06331ab0"), looks := true }, kinds := [], alts := [], laidByText := true, laidKinds := [.sentinel, .sentinel, .sentinel, .sentinel, .sentinel, .sentinel], laidTests := true, laidLooks := .later }
def FnExactOrderGradesCardSaid : Prop := Claim7.holds Tryd.pinned (.plain (OpenSpec.ofChange fnExactOrderGradesSpec)) fnExactOrderGradesCard

/-- THE TIED CARD OF 'laws.FnExactStripText'. -/
def fnExactStripTextCard : Claim7 := { stood := { row := fnExactStripTextRow, standIns := [], harness := (true, "4ff1fc06e8674676407ef3e567454248128eab36ea736dd3e69dc52f06331ab0"), looks := true }, kinds := [], alts := [], laidByText := true, laidKinds := [.data, .data, .data], laidTests := true, laidLooks := .later }
def FnExactStripTextCardSaid : Prop := Claim7.holds Tryd.pinned (.plain (OpenSpec.ofChange fnExactStripTextSpec)) fnExactStripTextCard

/-- THE TIED CARD OF 'laws.FnExactReadStrip'. -/
def fnExactReadStripCard : Claim7 := { stood := { row := fnExactReadStripRow, standIns := [], harness := (true, "4ff1fc06e8674676407ef3e567454248128eab36ea736dd3e69dc52f06331ab0"), looks := true }, kinds := [], alts := [], laidByText := true, laidKinds := [.data, .data, .data, .sentinel, .sentinel, .sentinel, .sentinel, .sentinel, .sentinel, .sentinel, .sentinel], laidTests := true, laidLooks := .later }
def FnExactReadStripCardSaid : Prop := Claim7.holds Tryd.pinned (.plain (OpenSpec.ofChange fnExactReadStripSpec)) fnExactReadStripCard

/-- THE SECOND FORM's CARD OF 'laws.FnExactMisfitOf'. -/
def fnExactMisfitOfUptoCard : Claim7 := { stood := { row := fnExactMisfitOfUptoRow, standIns := [], harness := (true, "4ff1fc06e8674676407ef3e567454248128eab36ea736dd3e69dc52f06331ab0"), looks := true }, kinds := [], alts := [], laidByText := true, laidKinds := [.sentinel, .sentinel, .sentinel, .sentinel, .sentinel, .sentinel], laidTests := true, laidLooks := .later }
def FnExactMisfitOfUptoCardSaid : Prop := Claim7.holds Tryd.pinned (.plain (OpenSpec.upto fnExactMisfitOfSpec)) fnExactMisfitOfUptoCard

/-- THE SECOND FORM's CARD OF 'laws.FnExactBlackTime'. -/
def fnExactBlackTimeUptoCard : Claim7 := { stood := { row := fnExactBlackTimeUptoRow, standIns := [], harness := (true, "4ff1fc06e8674676407ef3e567454248128eab36ea736dd3e69dc52f06331ab0"), looks := true }, kinds := [], alts := [], laidByText := true, laidKinds := [.sentinel, .sentinel, .sentinel, .sentinel, .sentinel, .sentinel], laidTests := true, laidLooks := .later }
def FnExactBlackTimeUptoCardSaid : Prop := Claim7.holds Tryd.pinned (.plain (OpenSpec.upto fnExactBlackTimeSpec)) fnExactBlackTimeUptoCard

/-- THE SECOND FORM's CARD OF 'laws.FnExactOrderGrades'. -/
def fnExactOrderGradesUptoCard : Claim7 := { stood := { row := fnExactOrderGradesUptoRow, standIns := [], harness := (true, "4ff1fc06e8674676407ef3e567454248128eab36ea736dd3e69dc52f06331ab0"), looks := true }, kinds := [], alts := [], laidByText := true, laidKinds := [.sentinel, .sentinel, .sentinel, .sentinel, .sentinel, .sentinel], laidTests := true, laidLooks := .later }
def FnExactOrderGradesUptoCardSaid : Prop := Claim7.holds Tryd.pinned (.plain (OpenSpec.upto fnExactOrderGradesSpec)) fnExactOrderGradesUptoCard

/-- THE SECOND FORM's CARD OF 'laws.FnExactStripText'. -/
def fnExactStripTextUptoCard : Claim7 := { stood := { row := fnExactStripTextUptoRow, standIns := [], harness := (true, "4ff1fc06e8674676407ef3e567454248128eab36ea736dd3e69dc52f06331ab0"), looks := true }, kinds := [], alts := [], laidByText := true, laidKinds := [.data, .data, .data], laidTests := true, laidLooks := .later }
def FnExactStripTextUptoCardSaid : Prop := Claim7.holds Tryd.pinned (.plain (OpenSpec.upto fnExactStripTextSpec)) fnExactStripTextUptoCard

/-- THE SECOND FORM's CARD OF 'laws.FnExactReadStrip'. -/
def fnExactReadStripUptoCard : Claim7 := { stood := { row := fnExactReadStripUptoRow, standIns := [], harness := (true, "4ff1fc06e8674676407ef3e567454248128eab36ea736dd3e69dc52f06331ab0"), looks := true }, kinds := [], alts := [], laidByText := true, laidKinds := [.data, .data, .data, .sentinel, .sentinel, .sentinel, .sentinel, .sentinel, .sentinel, .sentinel, .sentinel], laidTests := true, laidLooks := .later }
def FnExactReadStripUptoCardSaid : Prop := Claim7.holds Tryd.pinned (.plain (OpenSpec.upto fnExactReadStripSpec)) fnExactReadStripUptoCard
end Rows
end Go.Proofs.YtkeigoighebjpaaDoor
