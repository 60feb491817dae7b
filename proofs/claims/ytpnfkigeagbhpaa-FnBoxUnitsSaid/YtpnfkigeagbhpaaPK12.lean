/- Bounds of pairs that are ones. No condition. -/
import Derived.Test.YtpnfkigeagbhpaaPK07
import Derived.Test.YtpnfkigeagbhpaaPK11
import Derived.Deep.RegionHeld3
namespace Go.Proofs.Ytpnfkigeagbhpaa
theorem okB_mid {wd a b m : Int} (h1 : okB wd a = true) (h2 : okB wd b = true) (ha : a ≤ m) (hb : m ≤ b) : okB wd m = true := by
  have k1 := okB_in h1
  have k2 := okB_in h2
  unfold okB
  simp only [decide_eq_true_eq]
  exact ⟨k1.1, by omega, by omega⟩
end Go.Proofs.Ytpnfkigeagbhpaa
