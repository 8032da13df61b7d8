/-
  DERIVED. GIVEN WITH THE SEED: THE CARDS: each row of YtaebknkjhhcneaaGreatDoorRows.lean that lists a variable, with what it lists TIED to the program's text (the seventh form; the later family's looks); each row that meets fmt, with fmt's text TOLD by the authors' own Lean function (tested against real Go, not proved from fmt's source: count such statements apart). THE CARD IS WHAT COUNTS. Prove the row's statement (the work); the ties are given (YtaebknkjhhcneaaGreatDoorTie.lean); close each card by the builder's one call (the guide's Derived/Test/ToyasCard.lean, 'card_holds'). Laid BY PROGRAM, IN A SANDBOX (cutbox-door.mjs). By AI agents, Wed Nov 11 2026. No macro, syntax, notation, axiom, sorry.
-/
import Derived.Test.YtaebknkjhhcneaaGreatDoorRows
import GoSem.ClaimSeven
namespace Go.Proofs.YtaebknkjhhcneaaGreatDoor
namespace Rows

/-- THE TIED CARD OF 'ferrymanlaw11.RulesChecks'. -/
def rulesChecksCard : Claim7 := { stood := { row := rulesChecksRow, standIns := [], harness := (true, "6aade459649dd7df6776fc5494a950d928fdb999ab323bb195a364fa0e305471"), looks := true }, kinds := [], alts := [], laidByText := true, laidKinds := [.data, .data, .data, .sentinel, .sentinel, .data], laidTests := true, laidLooks := .later }
def RulesChecksCardSaid : Prop := Claim7.holds Tryz.pinned (.plain (OpenSpec.ofChange rulesChecksSpec)) rulesChecksCard

/-- THE TIED CARD OF 'ferrymanlaw11.RulesParses'. -/
def rulesParsesCard : Claim7 := { stood := { row := rulesParsesRow, standIns := [], harness := (true, "6aade459649dd7df6776fc5494a950d928fdb999ab323bb195a364fa0e305471"), looks := true }, kinds := [], alts := [], laidByText := true, laidKinds := [.data, .data, .data, .sentinel, .sentinel, .data], laidTests := true, laidLooks := .later }
def RulesParsesCardSaid : Prop := Claim7.holds Tryz.pinned (.plain (OpenSpec.ofChange rulesParsesSpec)) rulesParsesCard

/-- THE TIED CARD OF 'ferrymanlaw11.RulesBack'. -/
def rulesBackCard : Claim7 := { stood := { row := rulesBackRow, standIns := [], harness := (true, "6aade459649dd7df6776fc5494a950d928fdb999ab323bb195a364fa0e305471"), looks := true }, kinds := [], alts := [], laidByText := true, laidKinds := [.data, .data, .data, .sentinel, .sentinel, .data], laidTests := true, laidLooks := .later }
def RulesBackCardSaid : Prop := Claim7.holds Tryz.pinned (.plain (OpenSpec.ofChange rulesBackSpec)) rulesBackCard

/-- THE TIED CARD OF 'ferrymanlaw11.RulesBest'. -/
def rulesBestCard : Claim7 := { stood := { row := rulesBestRow, standIns := [], harness := (true, "6aade459649dd7df6776fc5494a950d928fdb999ab323bb195a364fa0e305471"), looks := true }, kinds := [], alts := [], laidByText := true, laidKinds := [.data, .data, .data, .sentinel, .sentinel, .data], laidTests := true, laidLooks := .later }
def RulesBestCardSaid : Prop := Claim7.holds Tryz.pinned (.plain (OpenSpec.ofChange rulesBestSpec)) rulesBestCard

/-- THE TIED CARD OF 'ferrymanlaw11.RulesOwner'. -/
def rulesOwnerCard : Claim7 := { stood := { row := rulesOwnerRow, standIns := [], harness := (true, "6aade459649dd7df6776fc5494a950d928fdb999ab323bb195a364fa0e305471"), looks := true }, kinds := [], alts := [], laidByText := true, laidKinds := [.data, .data, .data, .sentinel, .sentinel, .data], laidTests := true, laidLooks := .later }
def RulesOwnerCardSaid : Prop := Claim7.holds Tryz.pinned (.plain (OpenSpec.ofChange rulesOwnerSpec)) rulesOwnerCard

/-- THE SECOND FORM's CARD OF 'ferrymanlaw11.RulesChecks'. -/
def rulesChecksUptoCard : Claim7 := { stood := { row := rulesChecksUptoRow, standIns := [], harness := (true, "6aade459649dd7df6776fc5494a950d928fdb999ab323bb195a364fa0e305471"), looks := true }, kinds := [], alts := [], laidByText := true, laidKinds := [.data, .data, .data, .sentinel, .sentinel, .data], laidTests := true, laidLooks := .later }
def RulesChecksUptoCardSaid : Prop := Claim7.holds Tryz.pinned (.plain (OpenSpec.upto rulesChecksSpec)) rulesChecksUptoCard

/-- THE SECOND FORM's CARD OF 'ferrymanlaw11.RulesParses'. -/
def rulesParsesUptoCard : Claim7 := { stood := { row := rulesParsesUptoRow, standIns := [], harness := (true, "6aade459649dd7df6776fc5494a950d928fdb999ab323bb195a364fa0e305471"), looks := true }, kinds := [], alts := [], laidByText := true, laidKinds := [.data, .data, .data, .sentinel, .sentinel, .data], laidTests := true, laidLooks := .later }
def RulesParsesUptoCardSaid : Prop := Claim7.holds Tryz.pinned (.plain (OpenSpec.upto rulesParsesSpec)) rulesParsesUptoCard

/-- THE SECOND FORM's CARD OF 'ferrymanlaw11.RulesBack'. -/
def rulesBackUptoCard : Claim7 := { stood := { row := rulesBackUptoRow, standIns := [], harness := (true, "6aade459649dd7df6776fc5494a950d928fdb999ab323bb195a364fa0e305471"), looks := true }, kinds := [], alts := [], laidByText := true, laidKinds := [.data, .data, .data, .sentinel, .sentinel, .data], laidTests := true, laidLooks := .later }
def RulesBackUptoCardSaid : Prop := Claim7.holds Tryz.pinned (.plain (OpenSpec.upto rulesBackSpec)) rulesBackUptoCard

/-- THE SECOND FORM's CARD OF 'ferrymanlaw11.RulesBest'. -/
def rulesBestUptoCard : Claim7 := { stood := { row := rulesBestUptoRow, standIns := [], harness := (true, "6aade459649dd7df6776fc5494a950d928fdb999ab323bb195a364fa0e305471"), looks := true }, kinds := [], alts := [], laidByText := true, laidKinds := [.data, .data, .data, .sentinel, .sentinel, .data], laidTests := true, laidLooks := .later }
def RulesBestUptoCardSaid : Prop := Claim7.holds Tryz.pinned (.plain (OpenSpec.upto rulesBestSpec)) rulesBestUptoCard

/-- THE SECOND FORM's CARD OF 'ferrymanlaw11.RulesOwner'. -/
def rulesOwnerUptoCard : Claim7 := { stood := { row := rulesOwnerUptoRow, standIns := [], harness := (true, "6aade459649dd7df6776fc5494a950d928fdb999ab323bb195a364fa0e305471"), looks := true }, kinds := [], alts := [], laidByText := true, laidKinds := [.data, .data, .data, .sentinel, .sentinel, .data], laidTests := true, laidLooks := .later }
def RulesOwnerUptoCardSaid : Prop := Claim7.holds Tryz.pinned (.plain (OpenSpec.upto rulesOwnerSpec)) rulesOwnerUptoCard
end Rows
end Go.Proofs.YtaebknkjhhcneaaGreatDoor
