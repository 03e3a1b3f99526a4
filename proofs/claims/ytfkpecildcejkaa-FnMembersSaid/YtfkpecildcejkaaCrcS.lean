/- Crc of the model. -/
import Derived.Test.YtfkpecildcejkaaCrcL
import Derived.Test.YtfkpecildcejkaaIn
import Derived.WalkKit
import Derived.Outline
import Derived.Lib.Hide
import Derived.WalkLawsBesides
import Derived.WalkSpells
namespace Go.Proofs.Ytfkpecildcejkaa
open Go.RowKit

end Go.Proofs.Ytfkpecildcejkaa
