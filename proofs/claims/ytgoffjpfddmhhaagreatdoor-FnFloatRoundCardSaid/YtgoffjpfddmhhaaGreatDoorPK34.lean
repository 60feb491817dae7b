/- PairOk of the specification; inner, PairIs, PairMeet and PairHull of both, at all pairs; nothing that was there is written. -/
import Derived.Test.YtgoffjpfddmhhaaGreatDoorPK22
import Derived.Deep.RegionWith
namespace Go.Proofs.YtgoffjpfddmhhaaGreatDoor
open Go.RowKit

theorem ret_p {a b a' b' : Int} (h : a = a') (g : b = b') : Ending.returned (.agg #[.int .i64 a, .int .i64 b]) = .returned (.agg #[.int .i64 a', .int .i64 b']) := by rw [h, g]
set_option maxHeartbeats 400000 in
theorem iInner (a b c d : Int) (w : World) :
    Calls Tryz.prog 155 #[.agg #[.int .i64 a, .int .i64 b], .agg #[.int .i64 c, .int .i64 d]] w fun e w' => e = .returned (.agg #[.int .i64 (max a c), .int .i64 (min b d)]) ∧ Below w.heap.size w w' := by
  go_enter Tryz.func155, Tryz.ntmps155
  go_wp2
  all_goals
    refine bodyPost_ret (v := .agg #[.int .i64 _, .int .i64 _]) (by simp [results, Tryz.results155, go_sem]; exact ⟨rfl, rfl⟩) rfl ⟨ret_p ?_ ?_, (by repeat (first | exact Below.refl _ _ | refine Below.drew ?_ | refine Below.setCell ?_ (by first | (simp; done) | omega | (simp; omega)) _ | refine old_alloc ?_ _ | refine old_trans ?_ (by assumption)))⟩
    · first | rfl | omega
    · first | rfl | omega

end Go.Proofs.YtgoffjpfddmhhaaGreatDoor
