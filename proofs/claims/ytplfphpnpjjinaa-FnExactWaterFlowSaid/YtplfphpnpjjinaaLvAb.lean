/- What the exact laws of levels stand on. -/
import Derived.Test.YtplfphpnpjjinaaM1
import Derived.Test.YtplfphpnpjjinaaLvM
import Derived.Test.YtplfphpnpjjinaaM2
namespace Go.Proofs.Ytplfphpnpjjinaa
end Go.Proofs.Ytplfphpnpjjinaa
