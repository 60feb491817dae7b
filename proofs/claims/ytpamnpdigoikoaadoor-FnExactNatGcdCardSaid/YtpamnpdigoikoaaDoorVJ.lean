/- The program's division for common divisors: the divisor and the rest. Conditions: digits, no needless noughts in the divisor. -/
import Derived.Test.YtpamnpdigoikoaaDoorVD
import Derived.Test.YtpamnpdigoikoaaDoorVI
namespace Go.Proofs.YtpamnpdigoikoaaDoor
open Go.RowKit
set_option linter.unusedVariables false
set_option maxRecDepth 100000

set_option maxHeartbeats 2000000 in
theorem iDivided (a b : Option Addr) (la lb ca cb : Nat) (xs ys : List Int) (w : World) (hA : InI w a la ca xs) (hB : InI w b lb cb ys) (hx : digs xs) (hy : digs ys) (ty : topped ys) (hla : la ≤ 65536) (hlb : lb ≤ 65536) (h0 : 0 < lb) :
    Calls Tryd.prog 73 #[.slice a la ca, .slice b lb cb] w fun e w' => (∃ av cv, e = .returned (.tuple #[.slice b lb cb, .slice av (natL (val xs % val ys)).length cv]) ∧ OI w' w.heap.size av cv (natL (val xs % val ys))) ∧ Below w.heap.size w w' := by
  have C := hd (iCut a b la lb ca cb xs ys w hA hB hx hy ty hla hlb h0)
  generalize natL (val xs / val ys) = ql at *
  generalize natL (val xs % val ys) = rl at *
  go_enter Tryd.func73, Tryd.ntmps73
  go_wp2_with fail
  refine C.out.mono ?_
  rintro e w1 ⟨⟨av, cv, av2, cv2, rfl, hO, hO2, -⟩, hb1⟩
  go_wp2
  go_ret2
  exact ⟨⟨_, _, rfl, hO2⟩, hb1⟩
end Go.Proofs.YtpamnpdigoikoaaDoor
