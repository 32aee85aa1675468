/- The program's contracts, together. -/
import Derived.Test.YtahpfbmaaccejaaDoorLexV
import Derived.Test.YtahpfbmaaccejaaDoorLexW
import Derived.Test.YtahpfbmaaccejaaDoorLexK
namespace Go.Proofs.YtahpfbmaaccejaaDoor
end Go.Proofs.YtahpfbmaaccejaaDoor
