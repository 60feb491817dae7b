/- Draws of a narrow order number and of a wide one: nothing that was there is written. -/
import Derived.Test.YtljmmaaaeojbpaaD4
import Derived.Test.YtljmmaaaeojbpaaW10
namespace Go.Proofs.Ytljmmaaaeojbpaa
open Go.RowKit


set_option maxHeartbeats 1000000 in
theorem wide_k (rb k : Nat) (w : World) (h : Rk w rb (k + 15)) :
    Calls Try.prog 61 #[.pointer (some ⟨rb, 0, none⟩)] w fun e w' => (∃ v : Int, (-9223372036854775808 ≤ v ∧ v ≤ 9223372036854775807) ∧ e = .returned (.int .i64 v)) ∧ Rk w' rb k ∧ But rb w w' := by
  go_enter Try.func61, Try.ntmps61
  go_wp2_with fail
  refine (pick_k rb _ _ _ h (by decide)).mono ?_
  rintro e w1 ⟨⟨v, ⟨va, vb⟩, rfl⟩, hR1, hB1⟩
  clear h
  by_cases c : 0 < v
  · go_wp2_with fail
    refine (ord_32 rb (k + 1) _ hR1).mono ?_
    rintro e w2 ⟨⟨o, ⟨o1, o2⟩, rfl⟩, hR2, hB2⟩
    clear hR1
    go_wp2_with fail
    by_cases co : -2139095040 ≤ o ∧ o ≤ 2139095040
    · obtain ⟨g1, g2⟩ := widI_bd co.1 co.2
      refine (sBitWiden o co.1 co.2 _).mono ?_
      rintro e w3 ⟨rfl, hb3⟩
      replace hR2 := hR2.old hb3
      go_wp2_with fail
      refine (pick_k rb k _ _ hR2 (by decide)).mono ?_
      rintro e w4 ⟨⟨u, ⟨ua, ub⟩, rfl⟩, hR4, hB4⟩
      clear hR2
      generalize widI o = x at *
      go_wp2
      go_ret
      exact ⟨⟨_, ⟨by omega, by omega⟩, rfl⟩, hR4, ((hB1.trans hB2).trans (But.of hb3)).trans hB4⟩
    · refine (sBitWiden_out o co _).mono ?_
      rintro e w3 ⟨rfl, hb3⟩
      replace hR2 := hR2.old hb3
      go_wp2_with fail
      refine (pick_k rb k _ _ hR2 (by decide)).mono ?_
      rintro e w4 ⟨⟨u, ⟨ua, ub⟩, rfl⟩, hR4, hB4⟩
      clear hR2
      go_wp2
      go_ret
      exact ⟨⟨_, ⟨by omega, by omega⟩, rfl⟩, hR4, ((hB1.trans hB2).trans (But.of hb3)).trans hB4⟩
  · go_wp2_with fail
    refine (ord_64 rb (k + 1) _ hR1).mono ?_
    rintro e w2 ⟨⟨o, ⟨o1, o2⟩, rfl⟩, hR2, hB2⟩
    go_wp2
    go_ret
    exact ⟨⟨o, ⟨o1, o2⟩, rfl⟩, hR2.mono (by omega), hB1.trans hB2⟩
set_option maxHeartbeats 400000 in
theorem drawBelow (w : World) (c : Option Addr) (len cap : Nat) (h : IsCode w c len cap) :
    Calls Try.prog 29 #[.slice c len cap] w fun e w' => (∃ v : Int, (-9223372036854775808 ≤ v ∧ v ≤ 9223372036854775807) ∧ e = .returned (.int .i64 v)) ∧ Below w.heap.size w w' := by
  go_enter Try.func29, Try.ntmps29
  go_wp2_with fail
  refine (open_k w c len cap h).mono ?_
  rintro e w1 ⟨rfl, o, rfl, hR⟩
  go_wp2_with fail
  refine (wide_k _ _ _ hR).mono ?_
  rintro e w2 ⟨⟨v, hv, rfl⟩, hR2, hB2⟩
  go_wp2
  go_ret
  exact ⟨⟨v, hv, rfl⟩, hB2.below⟩
set_option maxHeartbeats 400000 in
theorem drawWiden (w : World) (c : Option Addr) (len cap : Nat) (h : IsCode w c len cap) :
    Calls Try.prog 33 #[.slice c len cap] w fun e w' => (∃ v : Int, (-9223372036854775808 ≤ v ∧ v ≤ 9223372036854775807) ∧ e = .returned (.int .i64 v)) ∧ Below w.heap.size w w' := by
  go_enter Try.func33, Try.ntmps33
  go_wp2_with fail
  refine (open_k w c len cap h).mono ?_
  rintro e w1 ⟨rfl, o, rfl, hR⟩
  go_wp2_with fail
  refine (ord_32 _ _ _ hR).mono ?_
  rintro e w2 ⟨⟨v, hv, rfl⟩, hR2, hB2⟩
  go_wp2
  go_ret
  exact ⟨⟨v, hv, rfl⟩, hB2.below⟩
end Go.Proofs.Ytljmmaaaeojbpaa
