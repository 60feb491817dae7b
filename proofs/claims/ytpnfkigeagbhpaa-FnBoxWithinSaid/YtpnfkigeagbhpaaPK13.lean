/- The answers of the pair functions as plain tuples; a pair is the same as itself. -/
import Derived.Test.YtpnfkigeagbhpaaPK08
import Derived.Test.YtpnfkigeagbhpaaPK12
import Derived.Test.YtpnfkigeagbhpaaPK03
import Derived.Test.YtpnfkigeagbhpaaPK01
import Derived.Test.YtpnfkigeagbhpaaPK11
import Derived.Deep.RegionWith
namespace Go.Proofs.Ytpnfkigeagbhpaa
open Go.RowKit

theorem pairV_eq (r : Bool) (x y : Int) : pairV r x y = .tuple #[.agg #[.int .i64 (if r then x else 0), .int .i64 (if r then y else 0)], .bool r] := by cases r <;> rfl
end Go.Proofs.Ytpnfkigeagbhpaa
