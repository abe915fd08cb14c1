/- What the exact laws of levels stand on. -/
import Derived.Test.YthcgoncgbhphiabM1
import Derived.Test.YthcgoncgbhphiabLvM
import Derived.Test.YthcgoncgbhphiabM2
namespace Go.Proofs.Ythcgoncgbhphiab
end Go.Proofs.Ythcgoncgbhphiab
