/-
  Package span: Scale, Dec.
-/
import Derived.Test.YtnfapdmbkpkkdaaGreatSpF
namespace Go.Proofs.YtnfapdmbkpkkdaaGreat
open Go.RowKit

def sScaleR (a b n d : Int) : Int × Int × Int := if ckS a b = 0 then (if n < 0 then btw (scaleR false b n d) (scaleR true a n d) else btw (scaleR false a n d) (scaleR true b n d)) else (0, 0, 20)
def sDecR (n k : Int) : Int × Int × Int := if (decR n k).2.2 = 0 then ofR (decR n k).1 (decR n k).2.1 else (0, 0, (decR n k).2.2)
end Go.Proofs.YtnfapdmbkpkkdaaGreat
