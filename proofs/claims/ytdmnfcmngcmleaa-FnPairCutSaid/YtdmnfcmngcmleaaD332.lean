/- The reader's method ord: a number, the reader some places further, all other old memory as it was. -/
import Derived.Test.YtdmnfcmngcmleaaD2
namespace Go.Proofs.Ytdmnfcmngcmleaa
open Go.RowKit


set_option maxHeartbeats 2000000 in
theorem ord_32 (rb k : Nat) (w : World) (h : Rk w rb (k + 13)) :
    Calls Try.prog 32 #[.pointer (some ⟨rb, 0, none⟩), .int .i64 32] w fun e w' => (∃ v : Int, (-9223372036854775808 ≤ v ∧ v ≤ 9223372036854775807) ∧ e = .returned (.int .i64 v)) ∧ Rk w' rb k ∧ But rb w w' := by
  go_enter Try.func32, Try.ntmps32
  go_wp2_with (go_at_call 26; refine (sBitTop_32 _).mono ?_; rintro e w0 ⟨rfl, rfl⟩)
  refine (pick_k rb _ _ _ h (by decide)).mono ?_
  rintro e w1 ⟨⟨v0, ⟨va, vb⟩, rfl⟩, hR1, hB1⟩
  have h6 : v0 = 0 ∨ v0 = 1 ∨ v0 = 2 ∨ v0 = 3 ∨ v0 = 4 ∨ 5 ≤ v0 := by omega
  clear h
  rcases h6 with rfl | rfl | rfl | rfl | rfl | h5
  · go_wp2_with (first | (go_at_call 15; refine (pick_k rb _ _ _ (by assumption) (by decide)).mono ?_; rintro e wx ⟨⟨v, ⟨va, vb⟩, rfl⟩, hR, hB⟩) | (go_at_call 34; refine (big_k rb _ _ (by assumption)).mono ?_; rintro e wx ⟨⟨v, ⟨va, vb⟩, rfl⟩, hR, hB⟩))
    all_goals
      go_ret
      refine ⟨⟨_, ?_, rfl⟩, Rk.mono (by assumption) (by omega), (by repeat (first | exact But.refl _ _ | assumption | refine But.drew ?_ | refine But.alloc ?_ _ | refine But.trans ?_ (by assumption)))⟩
      first | omega | (simp only [wrap64]; omega)
  · go_wp2_with (first | (go_at_call 15; refine (pick_k rb _ _ _ (by assumption) (by decide)).mono ?_; rintro e wx ⟨⟨v, ⟨va, vb⟩, rfl⟩, hR, hB⟩) | (go_at_call 34; refine (big_k rb _ _ (by assumption)).mono ?_; rintro e wx ⟨⟨v, ⟨va, vb⟩, rfl⟩, hR, hB⟩))
    all_goals
      go_ret
      refine ⟨⟨_, ?_, rfl⟩, Rk.mono (by assumption) (by omega), (by repeat (first | exact But.refl _ _ | assumption | refine But.drew ?_ | refine But.alloc ?_ _ | refine But.trans ?_ (by assumption)))⟩
      first | omega | (simp only [wrap64]; omega)
  · go_wp2_with (first | (go_at_call 15; refine (pick_k rb _ _ _ (by assumption) (by decide)).mono ?_; rintro e wx ⟨⟨v, ⟨va, vb⟩, rfl⟩, hR, hB⟩) | (go_at_call 34; refine (big_k rb _ _ (by assumption)).mono ?_; rintro e wx ⟨⟨v, ⟨va, vb⟩, rfl⟩, hR, hB⟩))
    all_goals
      go_ret
      refine ⟨⟨_, ?_, rfl⟩, Rk.mono (by assumption) (by omega), (by repeat (first | exact But.refl _ _ | assumption | refine But.drew ?_ | refine But.alloc ?_ _ | refine But.trans ?_ (by assumption)))⟩
      first | omega | (simp only [wrap64]; omega)
  · go_wp2_with (first | (go_at_call 15; refine (pick_k rb _ _ _ (by assumption) (by decide)).mono ?_; rintro e wx ⟨⟨v, ⟨va, vb⟩, rfl⟩, hR, hB⟩) | (go_at_call 34; refine (big_k rb _ _ (by assumption)).mono ?_; rintro e wx ⟨⟨v, ⟨va, vb⟩, rfl⟩, hR, hB⟩))
    all_goals
      go_ret
      refine ⟨⟨_, ?_, rfl⟩, Rk.mono (by assumption) (by omega), (by repeat (first | exact But.refl _ _ | assumption | refine But.drew ?_ | refine But.alloc ?_ _ | refine But.trans ?_ (by assumption)))⟩
      first | omega | (simp only [wrap64]; omega)
  · go_wp2_with (first | (go_at_call 15; refine (pick_k rb _ _ _ (by assumption) (by decide)).mono ?_; rintro e wx ⟨⟨v, ⟨va, vb⟩, rfl⟩, hR, hB⟩) | (go_at_call 34; refine (big_k rb _ _ (by assumption)).mono ?_; rintro e wx ⟨⟨v, ⟨va, vb⟩, rfl⟩, hR, hB⟩))
    all_goals
      go_ret
      refine ⟨⟨_, ?_, rfl⟩, Rk.mono (by assumption) (by omega), (by repeat (first | exact But.refl _ _ | assumption | refine But.drew ?_ | refine But.alloc ?_ _ | refine But.trans ?_ (by assumption)))⟩
      first | omega | (simp only [wrap64]; omega)
  · have f0 : (v0 == 0) = false := by simp; omega
    have f1 : (v0 == 1) = false := by simp; omega
    have f2 : (v0 == 2) = false := by simp; omega
    have f3 : (v0 == 3) = false := by simp; omega
    have f4 : (v0 == 4) = false := by simp; omega
    go_wp2_with (first | (go_at_call 15; refine (pick_k rb _ _ _ (by assumption) (by decide)).mono ?_; rintro e wx ⟨⟨v, ⟨va, vb⟩, rfl⟩, hR, hB⟩) | (go_at_call 34; refine (big_k rb _ _ (by assumption)).mono ?_; rintro e wx ⟨⟨v, ⟨va, vb⟩, rfl⟩, hR, hB⟩))
    all_goals
      go_ret
      refine ⟨⟨_, ?_, rfl⟩, Rk.mono (by assumption) (by omega), (by repeat (first | exact But.refl _ _ | assumption | refine But.drew ?_ | refine But.alloc ?_ _ | refine But.trans ?_ (by assumption)))⟩
      first | omega | (simp only [wrap64]; omega)
end Go.Proofs.Ytdmnfcmngcmleaa
