/- PbTxtS: PTxtS, PTxtS2, PTxtS3. -/
import Derived.Test.YtblliefejffhoaaGreatDoorPbTxt
import Derived.Deep.RegionHeld3
/- l3List, l3Type, l3FunText of the model: the lines of a program. -/
namespace Go.Proofs.YtblliefejffhoaaGreatDoor
open Go.ChangeShapes Go.WideShapes Go.ChangeAt Go.RowKit
set_option linter.unusedVariables false

end Go.Proofs.YtblliefejffhoaaGreatDoor

/- l3FunText of the model: the lines of a function. -/
namespace Go.Proofs.YtblliefejffhoaaGreatDoor
open Go.ChangeShapes Go.WideShapes Go.ChangeAt Go.RowKit
set_option linter.unusedVariables false

end Go.Proofs.YtblliefejffhoaaGreatDoor

/- ProgText of the model. -/
namespace Go.Proofs.YtblliefejffhoaaGreatDoor
open Go.ChangeShapes Go.WideShapes Go.ChangeAt Go.RowKit
set_option linter.unusedVariables false

end Go.Proofs.YtblliefejffhoaaGreatDoor
