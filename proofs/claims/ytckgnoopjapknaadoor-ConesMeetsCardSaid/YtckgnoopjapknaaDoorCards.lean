/-
  DERIVED. GIVEN WITH THE SEED: THE CARDS: each row of YtckgnoopjapknaaDoorRows.lean that lists a variable, with what it lists TIED to the program's text (the seventh form; the later family's looks); each row that meets fmt, with fmt's text TOLD by the authors' own Lean function (tested against real Go, not proved from fmt's source: count such statements apart). THE CARD IS WHAT COUNTS. Prove the row's statement (the work); the ties are given (YtckgnoopjapknaaDoorTie.lean); close each card by the builder's one call (the guide's Derived/Test/ToyasCard.lean, 'card_holds'). Laid BY PROGRAM, IN A SANDBOX (cutbox-door.mjs). By AI agents, Wed Nov 11 2026. No macro, syntax, notation, axiom, sorry.
-/
import Derived.Test.YtckgnoopjapknaaDoorRows
import GoSem.ClaimSeven
namespace Go.Proofs.YtckgnoopjapknaaDoor
namespace Rows

/-- THE TIED CARD OF 'probecardlaw05.ConesErrors'. -/
def conesErrorsCard : Claim7 := { stood := { row := conesErrorsRow, standIns := [], harness := (true, "42e68148f37fa499520dab1965d7e90d9a18f4da090913b10791f9382dfb9111"), looks := false }, kinds := [], alts := [], laidByText := true, laidKinds := [.data], laidTests := true, laidLooks := .later }
def ConesErrorsCardSaid : Prop := Claim7.holds Tryd.pinned (.plain (OpenSpec.ofChange conesErrorsSpec)) conesErrorsCard

/-- THE TIED CARD OF 'probecardlaw05.ConesSets'. -/
def conesSetsCard : Claim7 := { stood := { row := conesSetsRow, standIns := [], harness := (true, "42e68148f37fa499520dab1965d7e90d9a18f4da090913b10791f9382dfb9111"), looks := false }, kinds := [], alts := [], laidByText := true, laidKinds := [.data], laidTests := true, laidLooks := .later }
def ConesSetsCardSaid : Prop := Claim7.holds Tryd.pinned (.plain (OpenSpec.ofChange conesSetsSpec)) conesSetsCard

/-- THE TIED CARD OF 'probecardlaw05.ConesDominators'. -/
def conesDominatorsCard : Claim7 := { stood := { row := conesDominatorsRow, standIns := [], harness := (true, "42e68148f37fa499520dab1965d7e90d9a18f4da090913b10791f9382dfb9111"), looks := false }, kinds := [], alts := [], laidByText := true, laidKinds := [.data], laidTests := true, laidLooks := .later }
def ConesDominatorsCardSaid : Prop := Claim7.holds Tryd.pinned (.plain (OpenSpec.ofChange conesDominatorsSpec)) conesDominatorsCard

/-- THE TIED CARD OF 'probecardlaw05.ConesBlock'. -/
def conesBlockCard : Claim7 := { stood := { row := conesBlockRow, standIns := [], harness := (true, "42e68148f37fa499520dab1965d7e90d9a18f4da090913b10791f9382dfb9111"), looks := false }, kinds := [], alts := [], laidByText := true, laidKinds := [.data], laidTests := true, laidLooks := .later }
def ConesBlockCardSaid : Prop := Claim7.holds Tryd.pinned (.plain (OpenSpec.ofChange conesBlockSpec)) conesBlockCard

/-- THE TIED CARD OF 'probecardlaw05.ConesRegions'. -/
def conesRegionsCard : Claim7 := { stood := { row := conesRegionsRow, standIns := [], harness := (true, "42e68148f37fa499520dab1965d7e90d9a18f4da090913b10791f9382dfb9111"), looks := false }, kinds := [], alts := [], laidByText := true, laidKinds := [.data], laidTests := true, laidLooks := .later }
def ConesRegionsCardSaid : Prop := Claim7.holds Tryd.pinned (.plain (OpenSpec.ofChange conesRegionsSpec)) conesRegionsCard

/-- THE TIED CARD OF 'probecardlaw05.ConesMeets'. -/
def conesMeetsCard : Claim7 := { stood := { row := conesMeetsRow, standIns := [], harness := (true, "42e68148f37fa499520dab1965d7e90d9a18f4da090913b10791f9382dfb9111"), looks := false }, kinds := [], alts := [], laidByText := true, laidKinds := [.data], laidTests := true, laidLooks := .later }
def ConesMeetsCardSaid : Prop := Claim7.holds Tryd.pinned (.plain (OpenSpec.ofChange conesMeetsSpec)) conesMeetsCard

/-- THE TIED CARD OF 'probecardlaw05.ConesAgain'. -/
def conesAgainCard : Claim7 := { stood := { row := conesAgainRow, standIns := [], harness := (true, "42e68148f37fa499520dab1965d7e90d9a18f4da090913b10791f9382dfb9111"), looks := false }, kinds := [], alts := [], laidByText := true, laidKinds := [.data], laidTests := true, laidLooks := .later }
def ConesAgainCardSaid : Prop := Claim7.holds Tryd.pinned (.plain (OpenSpec.ofChange conesAgainSpec)) conesAgainCard

/-- THE SECOND FORM's CARD OF 'probecardlaw05.ConesErrors'. -/
def conesErrorsUptoCard : Claim7 := { stood := { row := conesErrorsUptoRow, standIns := [], harness := (true, "42e68148f37fa499520dab1965d7e90d9a18f4da090913b10791f9382dfb9111"), looks := false }, kinds := [], alts := [], laidByText := true, laidKinds := [.data], laidTests := true, laidLooks := .later }
def ConesErrorsUptoCardSaid : Prop := Claim7.holds Tryd.pinned (.plain (OpenSpec.upto conesErrorsSpec)) conesErrorsUptoCard

/-- THE SECOND FORM's CARD OF 'probecardlaw05.ConesSets'. -/
def conesSetsUptoCard : Claim7 := { stood := { row := conesSetsUptoRow, standIns := [], harness := (true, "42e68148f37fa499520dab1965d7e90d9a18f4da090913b10791f9382dfb9111"), looks := false }, kinds := [], alts := [], laidByText := true, laidKinds := [.data], laidTests := true, laidLooks := .later }
def ConesSetsUptoCardSaid : Prop := Claim7.holds Tryd.pinned (.plain (OpenSpec.upto conesSetsSpec)) conesSetsUptoCard

/-- THE SECOND FORM's CARD OF 'probecardlaw05.ConesDominators'. -/
def conesDominatorsUptoCard : Claim7 := { stood := { row := conesDominatorsUptoRow, standIns := [], harness := (true, "42e68148f37fa499520dab1965d7e90d9a18f4da090913b10791f9382dfb9111"), looks := false }, kinds := [], alts := [], laidByText := true, laidKinds := [.data], laidTests := true, laidLooks := .later }
def ConesDominatorsUptoCardSaid : Prop := Claim7.holds Tryd.pinned (.plain (OpenSpec.upto conesDominatorsSpec)) conesDominatorsUptoCard

/-- THE SECOND FORM's CARD OF 'probecardlaw05.ConesBlock'. -/
def conesBlockUptoCard : Claim7 := { stood := { row := conesBlockUptoRow, standIns := [], harness := (true, "42e68148f37fa499520dab1965d7e90d9a18f4da090913b10791f9382dfb9111"), looks := false }, kinds := [], alts := [], laidByText := true, laidKinds := [.data], laidTests := true, laidLooks := .later }
def ConesBlockUptoCardSaid : Prop := Claim7.holds Tryd.pinned (.plain (OpenSpec.upto conesBlockSpec)) conesBlockUptoCard

/-- THE SECOND FORM's CARD OF 'probecardlaw05.ConesRegions'. -/
def conesRegionsUptoCard : Claim7 := { stood := { row := conesRegionsUptoRow, standIns := [], harness := (true, "42e68148f37fa499520dab1965d7e90d9a18f4da090913b10791f9382dfb9111"), looks := false }, kinds := [], alts := [], laidByText := true, laidKinds := [.data], laidTests := true, laidLooks := .later }
def ConesRegionsUptoCardSaid : Prop := Claim7.holds Tryd.pinned (.plain (OpenSpec.upto conesRegionsSpec)) conesRegionsUptoCard

/-- THE SECOND FORM's CARD OF 'probecardlaw05.ConesMeets'. -/
def conesMeetsUptoCard : Claim7 := { stood := { row := conesMeetsUptoRow, standIns := [], harness := (true, "42e68148f37fa499520dab1965d7e90d9a18f4da090913b10791f9382dfb9111"), looks := false }, kinds := [], alts := [], laidByText := true, laidKinds := [.data], laidTests := true, laidLooks := .later }
def ConesMeetsUptoCardSaid : Prop := Claim7.holds Tryd.pinned (.plain (OpenSpec.upto conesMeetsSpec)) conesMeetsUptoCard

/-- THE SECOND FORM's CARD OF 'probecardlaw05.ConesAgain'. -/
def conesAgainUptoCard : Claim7 := { stood := { row := conesAgainUptoRow, standIns := [], harness := (true, "42e68148f37fa499520dab1965d7e90d9a18f4da090913b10791f9382dfb9111"), looks := false }, kinds := [], alts := [], laidByText := true, laidKinds := [.data], laidTests := true, laidLooks := .later }
def ConesAgainUptoCardSaid : Prop := Claim7.holds Tryd.pinned (.plain (OpenSpec.upto conesAgainSpec)) conesAgainUptoCard
end Rows
end Go.Proofs.YtckgnoopjapknaaDoor
