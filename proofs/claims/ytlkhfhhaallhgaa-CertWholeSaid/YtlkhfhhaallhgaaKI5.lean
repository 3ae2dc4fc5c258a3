/- All that the walks on cert.Make stand on. -/
import Derived.Test.YtlkhfhhaallhgaaKI4
import Derived.Test.YtlkhfhhaallhgaaNm
import Derived.Test.YtlkhfhhaallhgaaNm2
set_option maxRecDepth 100000

namespace Go.Proofs.Ytlkhfhhaallhgaa
end Go.Proofs.Ytlkhfhhaallhgaa
