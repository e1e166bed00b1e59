/-
  DERIVED. GIVEN WITH THE SEED: THE CARDS: each row of YtlodahlinncpcaaDoorRows.lean that lists a variable, with what it lists TIED to the program's text (the seventh form; the later family's looks); each row that meets fmt, with fmt's text TOLD by the authors' own Lean function (tested against real Go, not proved from fmt's source: count such statements apart). THE CARD IS WHAT COUNTS. Prove the row's statement (the work); the ties are given (YtlodahlinncpcaaDoorTie.lean); close each card by the builder's one call (the guide's Derived/Test/ToyasCard.lean, 'card_holds'). Laid BY PROGRAM, IN A SANDBOX (cutbox-door.mjs). By AI agents, Wed Nov 11 2026. No macro, syntax, notation, axiom, sorry.
-/
import Derived.Test.YtlodahlinncpcaaDoorRows
import GoSem.ClaimSeven
namespace Go.Proofs.YtlodahlinncpcaaDoor
namespace Rows

/-- THE TIED CARD OF 'tenementlaw03.ShaSums'. -/
def shaSumsCard : Claim7 := { stood := { row := shaSumsRow, standIns := [], harness := (true, "c3f02235a5c8936071e86a9ae7aa79e17e833cfa5899781aa712a46466ace81f"), looks := false }, kinds := [], alts := [], laidByText := true, laidKinds := [.data], laidTests := true, laidLooks := .later }
def ShaSumsCardSaid : Prop := Claim7.holds Tryd.pinned (.plain (OpenSpec.ofChange shaSumsSpec)) shaSumsCard

/-- THE TIED CARD OF 'tenementlaw03.ShaBlocks'. -/
def shaBlocksCard : Claim7 := { stood := { row := shaBlocksRow, standIns := [], harness := (true, "c3f02235a5c8936071e86a9ae7aa79e17e833cfa5899781aa712a46466ace81f"), looks := false }, kinds := [], alts := [], laidByText := true, laidKinds := [.data], laidTests := true, laidLooks := .later }
def ShaBlocksCardSaid : Prop := Claim7.holds Tryd.pinned (.plain (OpenSpec.ofChange shaBlocksSpec)) shaBlocksCard

/-- THE TIED CARD OF 'tenementlaw04.MacSums'. -/
def macSumsCard : Claim7 := { stood := { row := macSumsRow, standIns := [], harness := (true, "c3f02235a5c8936071e86a9ae7aa79e17e833cfa5899781aa712a46466ace81f"), looks := false }, kinds := [], alts := [], laidByText := true, laidKinds := [.data], laidTests := true, laidLooks := .later }
def MacSumsCardSaid : Prop := Claim7.holds Tryd.pinned (.plain (OpenSpec.ofChange macSumsSpec)) macSumsCard

/-- THE TIED CARD OF 'tenementlaw04.MacOpens'. -/
def macOpensCard : Claim7 := { stood := { row := macOpensRow, standIns := [], harness := (true, "c3f02235a5c8936071e86a9ae7aa79e17e833cfa5899781aa712a46466ace81f"), looks := false }, kinds := [], alts := [], laidByText := true, laidKinds := [.data], laidTests := true, laidLooks := .later }
def MacOpensCardSaid : Prop := Claim7.holds Tryd.pinned (.plain (OpenSpec.ofChange macOpensSpec)) macOpensCard

/-- THE TIED CARD OF 'tenementlaw04.MacBack'. -/
def macBackCard : Claim7 := { stood := { row := macBackRow, standIns := [], harness := (true, "c3f02235a5c8936071e86a9ae7aa79e17e833cfa5899781aa712a46466ace81f"), looks := false }, kinds := [], alts := [], laidByText := true, laidKinds := [.data], laidTests := true, laidLooks := .later }
def MacBackCardSaid : Prop := Claim7.holds Tryd.pinned (.plain (OpenSpec.ofChange macBackSpec)) macBackCard

/-- THE TIED CARD OF 'tenementlaw04.MacKeys'. -/
def macKeysCard : Claim7 := { stood := { row := macKeysRow, standIns := [], harness := (true, "c3f02235a5c8936071e86a9ae7aa79e17e833cfa5899781aa712a46466ace81f"), looks := false }, kinds := [], alts := [], laidByText := true, laidKinds := [.data], laidTests := true, laidLooks := .later }
def MacKeysCardSaid : Prop := Claim7.holds Tryd.pinned (.plain (OpenSpec.ofChange macKeysSpec)) macKeysCard

/-- THE TIED CARD OF 'tenementlaw04.MacRights'. -/
def macRightsCard : Claim7 := { stood := { row := macRightsRow, standIns := [], harness := (true, "c3f02235a5c8936071e86a9ae7aa79e17e833cfa5899781aa712a46466ace81f"), looks := false }, kinds := [], alts := [], laidByText := true, laidKinds := [.data], laidTests := true, laidLooks := .later }
def MacRightsCardSaid : Prop := Claim7.holds Tryd.pinned (.plain (OpenSpec.ofChange macRightsSpec)) macRightsCard

/-- THE TIED CARD OF 'tenementlaw04.MacBounds'. -/
def macBoundsCard : Claim7 := { stood := { row := macBoundsRow, standIns := [], harness := (true, "c3f02235a5c8936071e86a9ae7aa79e17e833cfa5899781aa712a46466ace81f"), looks := false }, kinds := [], alts := [], laidByText := true, laidKinds := [.data], laidTests := true, laidLooks := .later }
def MacBoundsCardSaid : Prop := Claim7.holds Tryd.pinned (.plain (OpenSpec.ofChange macBoundsSpec)) macBoundsCard

/-- THE TIED CARD OF 'tenementlaw04.MacLong'. -/
def macLongCard : Claim7 := { stood := { row := macLongRow, standIns := [], harness := (true, "c3f02235a5c8936071e86a9ae7aa79e17e833cfa5899781aa712a46466ace81f"), looks := false }, kinds := [], alts := [], laidByText := true, laidKinds := [.data], laidTests := true, laidLooks := .later }
def MacLongCardSaid : Prop := Claim7.holds Tryd.pinned (.plain (OpenSpec.ofChange macLongSpec)) macLongCard

/-- THE SECOND FORM's CARD OF 'tenementlaw03.ShaSums'. -/
def shaSumsUptoCard : Claim7 := { stood := { row := shaSumsUptoRow, standIns := [], harness := (true, "c3f02235a5c8936071e86a9ae7aa79e17e833cfa5899781aa712a46466ace81f"), looks := false }, kinds := [], alts := [], laidByText := true, laidKinds := [.data], laidTests := true, laidLooks := .later }
def ShaSumsUptoCardSaid : Prop := Claim7.holds Tryd.pinned (.plain (OpenSpec.upto shaSumsSpec)) shaSumsUptoCard

/-- THE SECOND FORM's CARD OF 'tenementlaw03.ShaBlocks'. -/
def shaBlocksUptoCard : Claim7 := { stood := { row := shaBlocksUptoRow, standIns := [], harness := (true, "c3f02235a5c8936071e86a9ae7aa79e17e833cfa5899781aa712a46466ace81f"), looks := false }, kinds := [], alts := [], laidByText := true, laidKinds := [.data], laidTests := true, laidLooks := .later }
def ShaBlocksUptoCardSaid : Prop := Claim7.holds Tryd.pinned (.plain (OpenSpec.upto shaBlocksSpec)) shaBlocksUptoCard

/-- THE SECOND FORM's CARD OF 'tenementlaw04.MacSums'. -/
def macSumsUptoCard : Claim7 := { stood := { row := macSumsUptoRow, standIns := [], harness := (true, "c3f02235a5c8936071e86a9ae7aa79e17e833cfa5899781aa712a46466ace81f"), looks := false }, kinds := [], alts := [], laidByText := true, laidKinds := [.data], laidTests := true, laidLooks := .later }
def MacSumsUptoCardSaid : Prop := Claim7.holds Tryd.pinned (.plain (OpenSpec.upto macSumsSpec)) macSumsUptoCard

/-- THE SECOND FORM's CARD OF 'tenementlaw04.MacOpens'. -/
def macOpensUptoCard : Claim7 := { stood := { row := macOpensUptoRow, standIns := [], harness := (true, "c3f02235a5c8936071e86a9ae7aa79e17e833cfa5899781aa712a46466ace81f"), looks := false }, kinds := [], alts := [], laidByText := true, laidKinds := [.data], laidTests := true, laidLooks := .later }
def MacOpensUptoCardSaid : Prop := Claim7.holds Tryd.pinned (.plain (OpenSpec.upto macOpensSpec)) macOpensUptoCard

/-- THE SECOND FORM's CARD OF 'tenementlaw04.MacBack'. -/
def macBackUptoCard : Claim7 := { stood := { row := macBackUptoRow, standIns := [], harness := (true, "c3f02235a5c8936071e86a9ae7aa79e17e833cfa5899781aa712a46466ace81f"), looks := false }, kinds := [], alts := [], laidByText := true, laidKinds := [.data], laidTests := true, laidLooks := .later }
def MacBackUptoCardSaid : Prop := Claim7.holds Tryd.pinned (.plain (OpenSpec.upto macBackSpec)) macBackUptoCard

/-- THE SECOND FORM's CARD OF 'tenementlaw04.MacKeys'. -/
def macKeysUptoCard : Claim7 := { stood := { row := macKeysUptoRow, standIns := [], harness := (true, "c3f02235a5c8936071e86a9ae7aa79e17e833cfa5899781aa712a46466ace81f"), looks := false }, kinds := [], alts := [], laidByText := true, laidKinds := [.data], laidTests := true, laidLooks := .later }
def MacKeysUptoCardSaid : Prop := Claim7.holds Tryd.pinned (.plain (OpenSpec.upto macKeysSpec)) macKeysUptoCard

/-- THE SECOND FORM's CARD OF 'tenementlaw04.MacRights'. -/
def macRightsUptoCard : Claim7 := { stood := { row := macRightsUptoRow, standIns := [], harness := (true, "c3f02235a5c8936071e86a9ae7aa79e17e833cfa5899781aa712a46466ace81f"), looks := false }, kinds := [], alts := [], laidByText := true, laidKinds := [.data], laidTests := true, laidLooks := .later }
def MacRightsUptoCardSaid : Prop := Claim7.holds Tryd.pinned (.plain (OpenSpec.upto macRightsSpec)) macRightsUptoCard

/-- THE SECOND FORM's CARD OF 'tenementlaw04.MacBounds'. -/
def macBoundsUptoCard : Claim7 := { stood := { row := macBoundsUptoRow, standIns := [], harness := (true, "c3f02235a5c8936071e86a9ae7aa79e17e833cfa5899781aa712a46466ace81f"), looks := false }, kinds := [], alts := [], laidByText := true, laidKinds := [.data], laidTests := true, laidLooks := .later }
def MacBoundsUptoCardSaid : Prop := Claim7.holds Tryd.pinned (.plain (OpenSpec.upto macBoundsSpec)) macBoundsUptoCard

/-- THE SECOND FORM's CARD OF 'tenementlaw04.MacLong'. -/
def macLongUptoCard : Claim7 := { stood := { row := macLongUptoRow, standIns := [], harness := (true, "c3f02235a5c8936071e86a9ae7aa79e17e833cfa5899781aa712a46466ace81f"), looks := false }, kinds := [], alts := [], laidByText := true, laidKinds := [.data], laidTests := true, laidLooks := .later }
def MacLongUptoCardSaid : Prop := Claim7.holds Tryd.pinned (.plain (OpenSpec.upto macLongSpec)) macLongUptoCard
end Rows
end Go.Proofs.YtlodahlinncpcaaDoor
