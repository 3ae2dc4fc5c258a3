/- What CertRaw's walk stands on. -/
import Derived.Test.YtglphddjinmhoaaKG4
import Derived.Test.YtglphddjinmhoaaRefW
import Derived.Test.YtglphddjinmhoaaShaRr
import Derived.Test.YtglphddjinmhoaaRefTx
import Derived.Test.YtglphddjinmhoaaOpen
import Derived.Test.YtglphddjinmhoaaActs
set_option maxRecDepth 100000

namespace Go.Proofs.Ytglphddjinmhoaa
end Go.Proofs.Ytglphddjinmhoaa
