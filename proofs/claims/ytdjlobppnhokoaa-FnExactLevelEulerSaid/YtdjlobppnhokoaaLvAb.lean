/- What the exact laws of levels stand on. -/
import Derived.Test.YtdjlobppnhokoaaM1
import Derived.Test.YtdjlobppnhokoaaLvM
import Derived.Test.YtdjlobppnhokoaaM2
namespace Go.Proofs.Ytdjlobppnhokoaa
end Go.Proofs.Ytdjlobppnhokoaa
