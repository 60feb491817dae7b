/- The reader's method ord: a number, the reader some places further, all other old memory as it was. -/
import Derived.Test.YtpnfkigeagbhpaaPK03
namespace Go.Proofs.Ytpnfkigeagbhpaa
open Go.RowKit


set_option maxHeartbeats 2000000 in
theorem ordT_no (wd : Int) (g1 : wd ≠ 32) (g2 : wd ≠ 64) (rb k : Nat) (w : World) (h : Rk w rb (k + 13)) :
    Calls Try.prog 87 #[.pointer (some ⟨rb, 0, none⟩), .int .i64 wd] w fun e w' => (∃ v : Int, (-9218868437227405315 ≤ v ∧ v ≤ 9218868437227405315) ∧ e = .returned (.int .i64 v)) ∧ Rk w' rb k ∧ But rb w w' := by
  have t3 : (wd == 32) = false := by simp; omega
  go_enter Try.func87, Try.ntmps87
  go_wp2_with (go_at_call 64; refine (sBitTop_no wd _ g1 g2).mono ?_; rintro e w0 ⟨rfl, rfl⟩)
  refine (pick_k rb _ _ _ h (by decide)).mono ?_
  rintro e w1 ⟨⟨v0, ⟨va, vb⟩, rfl⟩, hR1, hB1⟩
  have h6 : v0 = 0 ∨ v0 = 1 ∨ v0 = 2 ∨ v0 = 3 ∨ v0 = 4 ∨ 5 ≤ v0 := by omega
  clear h
  rcases h6 with rfl | rfl | rfl | rfl | rfl | h5
  · go_wp2_with (first | (go_at_call 26; refine (pick_k rb _ _ _ (by assumption) (by decide)).mono ?_; rintro e wx ⟨⟨v, ⟨va, vb⟩, rfl⟩, hR, hB⟩) | (go_at_call 85; refine (big_k rb _ _ (by assumption)).mono ?_; rintro e wx ⟨⟨v, ⟨va, vb⟩, rfl⟩, hR, hB⟩))
    all_goals
      go_ret
      refine ⟨⟨_, ?_, rfl⟩, Rk.mono (by assumption) (by omega), (by repeat (first | exact But.refl _ _ | assumption | refine But.drew ?_ | refine But.alloc ?_ _ | refine But.trans ?_ (by assumption)))⟩
      first | omega | (simp only [wrap64]; omega)
  · go_wp2_with (first | (go_at_call 26; refine (pick_k rb _ _ _ (by assumption) (by decide)).mono ?_; rintro e wx ⟨⟨v, ⟨va, vb⟩, rfl⟩, hR, hB⟩) | (go_at_call 85; refine (big_k rb _ _ (by assumption)).mono ?_; rintro e wx ⟨⟨v, ⟨va, vb⟩, rfl⟩, hR, hB⟩))
    all_goals
      go_ret
      refine ⟨⟨_, ?_, rfl⟩, Rk.mono (by assumption) (by omega), (by repeat (first | exact But.refl _ _ | assumption | refine But.drew ?_ | refine But.alloc ?_ _ | refine But.trans ?_ (by assumption)))⟩
      first | omega | (simp only [wrap64]; omega)
  · go_wp2_with (first | (go_at_call 26; refine (pick_k rb _ _ _ (by assumption) (by decide)).mono ?_; rintro e wx ⟨⟨v, ⟨va, vb⟩, rfl⟩, hR, hB⟩) | (go_at_call 85; refine (big_k rb _ _ (by assumption)).mono ?_; rintro e wx ⟨⟨v, ⟨va, vb⟩, rfl⟩, hR, hB⟩))
    all_goals
      go_ret
      refine ⟨⟨_, ?_, rfl⟩, Rk.mono (by assumption) (by omega), (by repeat (first | exact But.refl _ _ | assumption | refine But.drew ?_ | refine But.alloc ?_ _ | refine But.trans ?_ (by assumption)))⟩
      first | omega | (simp only [wrap64]; omega)
  · go_wp2_with (first | (go_at_call 26; refine (pick_k rb _ _ _ (by assumption) (by decide)).mono ?_; rintro e wx ⟨⟨v, ⟨va, vb⟩, rfl⟩, hR, hB⟩) | (go_at_call 85; refine (big_k rb _ _ (by assumption)).mono ?_; rintro e wx ⟨⟨v, ⟨va, vb⟩, rfl⟩, hR, hB⟩))
    all_goals
      go_ret
      refine ⟨⟨_, ?_, rfl⟩, Rk.mono (by assumption) (by omega), (by repeat (first | exact But.refl _ _ | assumption | refine But.drew ?_ | refine But.alloc ?_ _ | refine But.trans ?_ (by assumption)))⟩
      first | omega | (simp only [wrap64]; omega)
  · go_wp2_with (first | (go_at_call 26; refine (pick_k rb _ _ _ (by assumption) (by decide)).mono ?_; rintro e wx ⟨⟨v, ⟨va, vb⟩, rfl⟩, hR, hB⟩) | (go_at_call 85; refine (big_k rb _ _ (by assumption)).mono ?_; rintro e wx ⟨⟨v, ⟨va, vb⟩, rfl⟩, hR, hB⟩))
    all_goals
      go_ret
      refine ⟨⟨_, ?_, rfl⟩, Rk.mono (by assumption) (by omega), (by repeat (first | exact But.refl _ _ | assumption | refine But.drew ?_ | refine But.alloc ?_ _ | refine But.trans ?_ (by assumption)))⟩
      first | omega | (simp only [wrap64]; omega)
  · have f0 : (v0 == 0) = false := by simp; omega
    have f1 : (v0 == 1) = false := by simp; omega
    have f2 : (v0 == 2) = false := by simp; omega
    have f3 : (v0 == 3) = false := by simp; omega
    have f4 : (v0 == 4) = false := by simp; omega
    go_wp2_with (first | (go_at_call 26; refine (pick_k rb _ _ _ (by assumption) (by decide)).mono ?_; rintro e wx ⟨⟨v, ⟨va, vb⟩, rfl⟩, hR, hB⟩) | (go_at_call 85; refine (big_k rb _ _ (by assumption)).mono ?_; rintro e wx ⟨⟨v, ⟨va, vb⟩, rfl⟩, hR, hB⟩))
    all_goals
      go_ret
      refine ⟨⟨_, ?_, rfl⟩, Rk.mono (by assumption) (by omega), (by repeat (first | exact But.refl _ _ | assumption | refine But.drew ?_ | refine But.alloc ?_ _ | refine But.trans ?_ (by assumption)))⟩
      first | omega | (simp only [wrap64]; omega)
end Go.Proofs.Ytpnfkigeagbhpaa
