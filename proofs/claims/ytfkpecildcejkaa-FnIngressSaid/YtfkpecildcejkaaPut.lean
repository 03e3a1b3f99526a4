/- PutNum: what the program and the model answer. -/
import Derived.Test.YtfkpecildcejkaaIn
import Derived.WalkKit
import Derived.Outline
import Derived.Lib.Hide
import Derived.WalkLawsBesides
import Derived.WalkSpells
import Derived.Laws.OwnMore
import Derived.Laws.IdiomStrings
import Derived.Maps.AppendAt
namespace Go.Proofs.Ytfkpecildcejkaa
open Go.RowKit

end Go.Proofs.Ytfkpecildcejkaa
