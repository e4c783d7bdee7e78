/-
  DERIVED. GIVEN WITH THE SEED: THE CARDS: each row of YtkpcjnamoejjjaaDoorRows.lean that lists a variable, with what it lists TIED to the program's text (the seventh form; the later family's looks); each row that meets fmt, with fmt's text TOLD by the authors' own Lean function (tested against real Go, not proved from fmt's source: count such statements apart). THE CARD IS WHAT COUNTS. Prove the row's statement (the work); the ties are given (YtkpcjnamoejjjaaDoorTie.lean); close each card by the builder's one call (the guide's Derived/Test/ToyasCard.lean, 'card_holds'). Laid BY PROGRAM, IN A SANDBOX (cutbox-door.mjs). By AI agents, Wed Nov 11 2026. No macro, syntax, notation, axiom, sorry.
-/
import Derived.Test.YtkpcjnamoejjjaaDoorRows
import GoSem.ClaimSeven
namespace Go.Proofs.YtkpcjnamoejjjaaDoor
namespace Rows

/-- THE TIED CARD OF 'laws.FnConfs'. -/
def fnConfsCard : Claim7 := { stood := { row := fnConfsRow, standIns := [], harness := (true, "e04fac0486b77c06eaf1ead519f8edaf558a7e483dfdebf5bfc2ce1ad98c229a"), looks := true }, kinds := [], alts := [], laidByText := true, laidKinds := [.data, .data, .data, .handle], laidTests := true, laidLooks := .later }
def FnConfsCardSaid : Prop := Claim7.holds Tryd.pinned (.plain (OpenSpec.ofChange fnConfsSpec)) fnConfsCard

/-- THE TIED CARD OF 'laws.FnExactConfText'. -/
def fnExactConfTextCard : Claim7 := { stood := { row := fnExactConfTextRow, standIns := [], harness := (true, "e04fac0486b77c06eaf1ead519f8edaf558a7e483dfdebf5bfc2ce1ad98c229a"), looks := true }, kinds := [], alts := [], laidByText := true, laidKinds := [.data, .data, .data], laidTests := true, laidLooks := .later }
def FnExactConfTextCardSaid : Prop := Claim7.holds Tryd.pinned (.plain (OpenSpec.ofChange fnExactConfTextSpec)) fnExactConfTextCard

/-- THE TIED CARD OF 'laws.FnExactParseConf'. -/
def fnExactParseConfCard : Claim7 := { stood := { row := fnExactParseConfRow, standIns := [], harness := (true, "e04fac0486b77c06eaf1ead519f8edaf558a7e483dfdebf5bfc2ce1ad98c229a"), looks := true }, kinds := [], alts := [], laidByText := true, laidKinds := [.data, .data, .data, .handle], laidTests := true, laidLooks := .later }
def FnExactParseConfCardSaid : Prop := Claim7.holds Tryd.pinned (.plain (OpenSpec.ofChange fnExactParseConfSpec)) fnExactParseConfCard

/-- THE SECOND FORM's CARD OF 'laws.FnConfs'. -/
def fnConfsUptoCard : Claim7 := { stood := { row := fnConfsUptoRow, standIns := [], harness := (true, "e04fac0486b77c06eaf1ead519f8edaf558a7e483dfdebf5bfc2ce1ad98c229a"), looks := true }, kinds := [], alts := [], laidByText := true, laidKinds := [.data, .data, .data, .handle], laidTests := true, laidLooks := .later }
def FnConfsUptoCardSaid : Prop := Claim7.holds Tryd.pinned (.plain (OpenSpec.upto fnConfsSpec)) fnConfsUptoCard

/-- THE SECOND FORM's CARD OF 'laws.FnExactConfText'. -/
def fnExactConfTextUptoCard : Claim7 := { stood := { row := fnExactConfTextUptoRow, standIns := [], harness := (true, "e04fac0486b77c06eaf1ead519f8edaf558a7e483dfdebf5bfc2ce1ad98c229a"), looks := true }, kinds := [], alts := [], laidByText := true, laidKinds := [.data, .data, .data], laidTests := true, laidLooks := .later }
def FnExactConfTextUptoCardSaid : Prop := Claim7.holds Tryd.pinned (.plain (OpenSpec.upto fnExactConfTextSpec)) fnExactConfTextUptoCard

/-- THE SECOND FORM's CARD OF 'laws.FnExactParseConf'. -/
def fnExactParseConfUptoCard : Claim7 := { stood := { row := fnExactParseConfUptoRow, standIns := [], harness := (true, "e04fac0486b77c06eaf1ead519f8edaf558a7e483dfdebf5bfc2ce1ad98c229a"), looks := true }, kinds := [], alts := [], laidByText := true, laidKinds := [.data, .data, .data, .handle], laidTests := true, laidLooks := .later }
def FnExactParseConfUptoCardSaid : Prop := Claim7.holds Tryd.pinned (.plain (OpenSpec.upto fnExactParseConfSpec)) fnExactParseConfUptoCard
end Rows
end Go.Proofs.YtkpcjnamoejjjaaDoor
