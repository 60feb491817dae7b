/- The reader's method pair, and the draw of two numbers: nothing that was there is written. -/
import Derived.Test.YtmllcpcbaojipaaDoorPK06
import Derived.Deep.DeepCutAuto
namespace Go.Proofs.YtmllcpcbaojipaaDoor
open Go.RowKit


theorem ordT_any (wd : Int) (rb k : Nat) (w : World) (h : Rk w rb (k + 13)) :
    Calls Tryd.prog 50 #[.pointer (some ⟨rb, 0, none⟩), .int .i64 wd] w fun e w' => (∃ v : Int, (-9218868437227405315 ≤ v ∧ v ≤ 9218868437227405315) ∧ e = .returned (.int .i64 v)) ∧ Rk w' rb k ∧ But rb w w' := by
  by_cases c1 : wd = 32
  · subst c1; exact ordT_32 rb k w h
  by_cases c2 : wd = 64
  · subst c2; exact ordT_64 rb k w h
  exact ordT_no wd c1 c2 rb k w h


set_option maxHeartbeats 2000000 in
theorem pairT_k (rb k : Nat) (wd : Int) (w : World) (h : Rk w rb (k + 29)) :
    Calls Tryd.prog 48 #[.pointer (some ⟨rb, 0, none⟩), .int .i64 wd] w fun e w' => (∃ a b : Int, ((-9218868437227406400 ≤ a ∧ a ≤ 9218868437227406400) ∧ -9218868437227406400 ≤ b ∧ b ≤ 9218868437227406400) ∧ e = .returned (.agg #[.int .i64 a, .int .i64 b])) ∧ Rk w' rb k ∧ But rb w w' := by
  have hlt := h.lt
  have hne : w.heap.size ≠ rb := by omega
  have hT : Two (w.alloc (.cells #[.int .i64 0, .int .i64 0] 40)) w.heap.size := ⟨.int .i64 0, .int .i64 0, by simp, by simp, by simp, by simp, by simp⟩
  have hA : But rb w (w.alloc (.cells #[.int .i64 0, .int .i64 0] 40)) := (But.refl _ _).alloc _
  go_enter Tryd.func48, Tryd.ntmps48
  go_wp2_with fail
  refine (ordT_any wd rb (k + 16) _ (h.alloc _)).mono ?_
  rintro e w1 ⟨⟨a, ⟨a1, a2⟩, rfl⟩, hR1, hB1⟩
  replace hT := hT.but hB1 hne
  clear h
  go_wp2_with fail
  refine (ordT_any wd rb (k + 3) _ hR1).mono ?_
  rintro e w2 ⟨⟨b, ⟨b1, b2⟩, rfl⟩, hR2, hB2⟩
  replace hT := hT.but hB2 hne
  clear hR1
  go_wp2_with fail
  refine (pick_k rb _ _ _ hR2 (by decide)).mono ?_
  rintro e w3 ⟨⟨v0, ⟨va, vb⟩, rfl⟩, hR3, hB3⟩
  replace hT := hT.but hB3 hne
  clear hR2
  have hB : But rb w w3 := ((hA.trans hB1).trans hB2).trans hB3
  clear hA hB1 hB2 hB3
  have h6 : v0 = 0 ∨ v0 = 1 ∨ v0 = 2 ∨ 3 ≤ v0 := by omega
  rcases h6 with rfl | rfl | rfl | h5
  · go_upto_region 12 with ((go_at_call 27; refine (pick_k rb _ _ _ (by assumption) (by decide)).mono ?_; rintro e wx ⟨⟨v, ⟨va, vb⟩, rfl⟩, hR, hB⟩; replace hT := hT.but hB hne))
    all_goals
      obtain ⟨x, y, c1, c2, c3, c4, c5⟩ := hT
      go_wp2
      refine bodyPost_ret (v := .agg #[.int .i64 _, .int .i64 _]) (by simp [results, Tryd.results48, go_sem, c1, c2]; exact ⟨rfl, rfl⟩) rfl ⟨⟨_, _, ?_, rfl⟩, ((Rk.mono (by assumption) (by omega)).far _ _ hlt _).far _ _ hlt _, (by repeat (first | exact But.refl _ _ | assumption | refine But.drew ?_ | refine But.far ?_ (by simp) _ | refine But.alloc ?_ _ | refine But.trans ?_ (by assumption)))⟩
      first | omega | (simp only [wrap64]; omega)
  · go_upto_region 12 with ((go_at_call 27; refine (pick_k rb _ _ _ (by assumption) (by decide)).mono ?_; rintro e wx ⟨⟨v, ⟨va, vb⟩, rfl⟩, hR, hB⟩; replace hT := hT.but hB hne))
    all_goals
      obtain ⟨x, y, c1, c2, c3, c4, c5⟩ := hT
      go_wp2
      refine bodyPost_ret (v := .agg #[.int .i64 _, .int .i64 _]) (by simp [results, Tryd.results48, go_sem, c1, c2]; exact ⟨rfl, rfl⟩) rfl ⟨⟨_, _, ?_, rfl⟩, ((Rk.mono (by assumption) (by omega)).far _ _ hlt _).far _ _ hlt _, (by repeat (first | exact But.refl _ _ | assumption | refine But.drew ?_ | refine But.far ?_ (by simp) _ | refine But.alloc ?_ _ | refine But.trans ?_ (by assumption)))⟩
      first | omega | (simp only [wrap64]; omega)
  · go_upto_region 12 with ((go_at_call 27; refine (pick_k rb _ _ _ (by assumption) (by decide)).mono ?_; rintro e wx ⟨⟨v, ⟨va, vb⟩, rfl⟩, hR, hB⟩; replace hT := hT.but hB hne))
    all_goals
      obtain ⟨x, y, c1, c2, c3, c4, c5⟩ := hT
      go_wp2
      refine bodyPost_ret (v := .agg #[.int .i64 _, .int .i64 _]) (by simp [results, Tryd.results48, go_sem, c1, c2]; exact ⟨rfl, rfl⟩) rfl ⟨⟨_, _, ?_, rfl⟩, ((Rk.mono (by assumption) (by omega)).far _ _ hlt _).far _ _ hlt _, (by repeat (first | exact But.refl _ _ | assumption | refine But.drew ?_ | refine But.far ?_ (by simp) _ | refine But.alloc ?_ _ | refine But.trans ?_ (by assumption)))⟩
      first | omega | (simp only [wrap64]; omega)
  · have f0 : (v0 == 0) = false := by simp; omega
    have f1 : (v0 == 1) = false := by simp; omega
    have f2 : (v0 == 2) = false := by simp; omega
    go_upto_region 12 with ((go_at_call 27; refine (pick_k rb _ _ _ (by assumption) (by decide)).mono ?_; rintro e wx ⟨⟨v, ⟨va, vb⟩, rfl⟩, hR, hB⟩; replace hT := hT.but hB hne))
    all_goals
      obtain ⟨x, y, c1, c2, c3, c4, c5⟩ := hT
      go_wp2
      refine bodyPost_ret (v := .agg #[.int .i64 _, .int .i64 _]) (by simp [results, Tryd.results48, go_sem, c1, c2]; exact ⟨rfl, rfl⟩) rfl ⟨⟨_, _, ?_, rfl⟩, ((Rk.mono (by assumption) (by omega)).far _ _ hlt _).far _ _ hlt _, (by repeat (first | exact But.refl _ _ | assumption | refine But.drew ?_ | refine But.far ?_ (by simp) _ | refine But.alloc ?_ _ | refine But.trans ?_ (by assumption)))⟩
      first | omega | (simp only [wrap64]; omega)
end Go.Proofs.YtmllcpcbaojipaaDoor
