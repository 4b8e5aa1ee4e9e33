/- Chapter 12: the program's contracts of IsCatalogue, BestKind, DensityBound, BestValue. -/
import Derived.Test.YtbhofhobnbhhhaaBcKi
import Derived.Test.YtbhofhobnbhhhaaBcBv
import Derived.Test.YtbhofhobnbhhhaaBpTs
namespace Go.Proofs.Ytbhofhobnbhhhaa
end Go.Proofs.Ytbhofhobnbhhhaa
