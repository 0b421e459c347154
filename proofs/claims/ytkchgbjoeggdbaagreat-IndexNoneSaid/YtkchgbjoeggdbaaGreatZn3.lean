import Derived.Test.YtkchgbjoeggdbaaGreatRows
import Derived.Test.YtkchgbjoeggdbaaGreatZn2
import Derived.OpenShut
import Derived.Stop.Joined
namespace Go.Proofs.YtkchgbjoeggdbaaGreat
open Go.Proofs.Tryz
open Go Go.ChangeShapes Go.WideShapes Go.ChangeAt Go.RowKit
theorem own:ownKnob prog.godebug=none:=by kernel_rfl
