/-
  DERIVED. GIVEN WITH THE SEED: THE CARDS: each row of YtecbhhfncklefaaDoorRows.lean that lists a variable, with what it lists TIED to the program's text (the seventh form; the later family's looks); each row that meets fmt, with fmt's text TOLD by the authors' own Lean function (tested against real Go, not proved from fmt's source: count such statements apart). THE CARD IS WHAT COUNTS. Prove the row's statement (the work); the ties are given (YtecbhhfncklefaaDoorTie.lean); close each card by the builder's one call (the guide's Derived/Test/ToyasCard.lean, 'card_holds'). Laid BY PROGRAM, IN A SANDBOX (cutbox-door.mjs). By AI agents, Wed Nov 11 2026. No macro, syntax, notation, axiom, sorry.
-/
import Derived.Test.YtecbhhfncklefaaDoorRows
import GoSem.ClaimSeven
namespace Go.Proofs.YtecbhhfncklefaaDoor
namespace Rows

/-- THE TIED CARD OF 'wharfingerlaw10.AttrsPuts'. -/
def attrsPutsCard : Claim7 := { stood := { row := attrsPutsRow, standIns := [], harness := (true, "c727870d513928fe5d6c65cff085b18e0f57843840048321c7a52ac7f5e8576d"), looks := true }, kinds := [], alts := [], laidByText := true, laidKinds := [.data, .data, .data], laidTests := true, laidLooks := .later }
def AttrsPutsCardSaid : Prop := Claim7.holds Tryd.pinned (.plain (OpenSpec.ofChange attrsPutsSpec)) attrsPutsCard

/-- THE TIED CARD OF 'wharfingerlaw10.AttrsPutsSet'. -/
def attrsPutsSetCard : Claim7 := { stood := { row := attrsPutsSetRow, standIns := [], harness := (true, "c727870d513928fe5d6c65cff085b18e0f57843840048321c7a52ac7f5e8576d"), looks := true }, kinds := [], alts := [], laidByText := true, laidKinds := [.data, .data, .data], laidTests := true, laidLooks := .later }
def AttrsPutsSetCardSaid : Prop := Claim7.holds Tryd.pinned (.plain (OpenSpec.ofChange attrsPutsSetSpec)) attrsPutsSetCard

/-- THE TIED CARD OF 'wharfingerlaw10.AttrsPutsWeak'. -/
def attrsPutsWeakCard : Claim7 := { stood := { row := attrsPutsWeakRow, standIns := [], harness := (true, "c727870d513928fe5d6c65cff085b18e0f57843840048321c7a52ac7f5e8576d"), looks := true }, kinds := [], alts := [], laidByText := true, laidKinds := [.data, .data, .data], laidTests := true, laidLooks := .later }
def AttrsPutsWeakCardSaid : Prop := Claim7.holds Tryd.pinned (.plain (OpenSpec.ofChange attrsPutsWeakSpec)) attrsPutsWeakCard

/-- THE SECOND FORM's CARD OF 'wharfingerlaw10.AttrsPuts'. -/
def attrsPutsUptoCard : Claim7 := { stood := { row := attrsPutsUptoRow, standIns := [], harness := (true, "c727870d513928fe5d6c65cff085b18e0f57843840048321c7a52ac7f5e8576d"), looks := true }, kinds := [], alts := [], laidByText := true, laidKinds := [.data, .data, .data], laidTests := true, laidLooks := .later }
def AttrsPutsUptoCardSaid : Prop := Claim7.holds Tryd.pinned (.plain (OpenSpec.upto attrsPutsSpec)) attrsPutsUptoCard

/-- THE SECOND FORM's CARD OF 'wharfingerlaw10.AttrsPutsSet'. -/
def attrsPutsSetUptoCard : Claim7 := { stood := { row := attrsPutsSetUptoRow, standIns := [], harness := (true, "c727870d513928fe5d6c65cff085b18e0f57843840048321c7a52ac7f5e8576d"), looks := true }, kinds := [], alts := [], laidByText := true, laidKinds := [.data, .data, .data], laidTests := true, laidLooks := .later }
def AttrsPutsSetUptoCardSaid : Prop := Claim7.holds Tryd.pinned (.plain (OpenSpec.upto attrsPutsSetSpec)) attrsPutsSetUptoCard

/-- THE SECOND FORM's CARD OF 'wharfingerlaw10.AttrsPutsWeak'. -/
def attrsPutsWeakUptoCard : Claim7 := { stood := { row := attrsPutsWeakUptoRow, standIns := [], harness := (true, "c727870d513928fe5d6c65cff085b18e0f57843840048321c7a52ac7f5e8576d"), looks := true }, kinds := [], alts := [], laidByText := true, laidKinds := [.data, .data, .data], laidTests := true, laidLooks := .later }
def AttrsPutsWeakUptoCardSaid : Prop := Claim7.holds Tryd.pinned (.plain (OpenSpec.upto attrsPutsWeakSpec)) attrsPutsWeakUptoCard
end Rows
end Go.Proofs.YtecbhhfncklefaaDoor
