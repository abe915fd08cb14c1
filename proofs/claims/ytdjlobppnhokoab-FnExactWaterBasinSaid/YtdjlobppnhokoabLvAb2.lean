/- What exact laws with a number as their answer stand on. -/
import Derived.Test.YtdjlobppnhokoabLawV
import Derived.Test.YtdjlobppnhokoabLst
import Derived.Test.YtdjlobppnhokoabImplD
namespace Go.Proofs.Ytdjlobppnhokoab
end Go.Proofs.Ytdjlobppnhokoab
