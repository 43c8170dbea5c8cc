import Derived.Test.YtglmmodkflkkkaaXIy
import Derived.Test.YtglmmodkflkkkaaXNp
import Derived.Test.YtglmmodkflkkkaaXJb
import Derived.Test.YtglmmodkflkkkaaXPri
set_option linter.unusedVariables false
set_option linter.unusedSimpArgs false
set_option maxRecDepth 100000
namespace Go.Proofs.Ytglmmodkflkkkaa
open Go.RowKit Limbs
theorem md0 : md 0 = mP := rfl
end Go.Proofs.Ytglmmodkflkkkaa
