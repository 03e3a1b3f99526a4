/- strings.IndexRune at an ASCII string: what it answers at every rune that a range over a string can give. -/
import Derived.Test.YtbcpfciegamaeaaDoorRows
import Derived.WalkKit
import Derived.Outline
import Derived.Lib.Hide
import Derived.Lib.Bytealg
import Derived.WalkLawsBesides
import Derived.WalkSpells
import Derived.Laws.Runes
import Derived.WalkMore
import Derived.Deep.QuietTactic
import Derived.BigQuiet
namespace Go.Proofs.YtbcpfciegamaeaaDoor
open Go.RowKit

end Go.Proofs.YtbcpfciegamaeaaDoor
