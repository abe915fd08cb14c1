/- What the exact laws of levels stand on. -/
import Derived.Test.YtplfphpnpjjinabM1
import Derived.Test.YtplfphpnpjjinabLvM
import Derived.Test.YtplfphpnpjjinabM2
namespace Go.Proofs.Ytplfphpnpjjinab
end Go.Proofs.Ytplfphpnpjjinab
