/- What the exact laws of levels stand on. -/
import Derived.Test.YtdjlobppnhokoaaLawV
import Derived.Test.YtdjlobppnhokoaaLst
import Derived.Test.YtdjlobppnhokoaaLvM
import Derived.Test.YtdjlobppnhokoaaImplD
namespace Go.Proofs.Ytdjlobppnhokoaa
end Go.Proofs.Ytdjlobppnhokoaa
