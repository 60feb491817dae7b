/- The reader's methods big, width and ord: a number each, the reader some places further, all other old memory as it was. -/
import Derived.Test.YtcfbdibjjhifpaaGreatDoorPK22
namespace Go.Proofs.YtcfbdibjjhifpaaGreatDoor
open Go.RowKit


/-- a reader that can still be read k times -/
def Rk (w : World) (rb : Nat) (k : Nat) : Prop := ∃ p : Int, (0 ≤ p ∧ p + k ≤ 1000000) ∧ Rd w rb p
theorem Rk.mono {w : World} {rb k j : Nat} (h : Rk w rb k) (hj : j ≤ k) : Rk w rb j := by
  obtain ⟨p, hp, hr⟩ := h
  exact ⟨p, by omega, hr⟩
theorem Rk.old {w w' : World} {rb k : Nat} (h : Rk w rb k) (b : Below w.heap.size w w') : Rk w' rb k := by
  obtain ⟨p, hp, hr⟩ := h
  exact ⟨p, hp, hr.old b⟩
theorem Rk.alloc {w : World} {rb k : Nat} (h : Rk w rb k) (o : Obj) : Rk (w.alloc o) rb k := h.old ((Below.refl _ _).alloc (Nat.le_refl _) o)
theorem Rk.lt {w : World} {rb k : Nat} (h : Rk w rb k) : rb < w.heap.size := by
  obtain ⟨p, _, a, len, cap, h0, _⟩ := h
  exact h0
theorem Rk.far {w : World} {rb k : Nat} (h : Rk w rb k) (b i : Nat) (hb : rb < b) (v : Value) : Rk (w.setCell ⟨b, i, none⟩ v) rb k := by
  obtain ⟨p, hp, hr⟩ := h
  exact ⟨p, hp, hr.far b i hb v⟩
/-- two cells of another block than the reader's, that can be written -/
def Two (w : World) (b : Nat) : Prop := ∃ x y : Value, w.cell? ⟨b, 0, none⟩ = some x ∧ w.cell? ⟨b, 1, none⟩ = some y ∧ w.frozen? ⟨b, 0, none⟩ = false ∧ w.frozen? ⟨b, 1, none⟩ = false ∧ b < w.heap.size
theorem Two.but {w w' : World} {b rb : Nat} (h : Two w b) (k : But rb w w') (hne : b ≠ rb) : Two w' b := by
  obtain ⟨x, y, h1, h2, h3, h4, h5⟩ := h
  have e := k.block b h5 hne
  exact ⟨x, y, (World.cell?_of_block (w := w) (a := ⟨b, 0, none⟩) e).trans h1, (World.cell?_of_block (w := w) (a := ⟨b, 1, none⟩) e).trans h2, (World.frozen?_of_block (w := w) (a := ⟨b, 0, none⟩) e).trans h3, (World.frozen?_of_block (w := w) (a := ⟨b, 1, none⟩) e).trans h4, Nat.lt_of_lt_of_le h5 k.size⟩
theorem pick_k (rb k : Nat) (n : Int) (w : World) (h : Rk w rb (k + 1)) (n1 : 1 ≤ n) :
    Calls Tryz.prog 37 #[.pointer (some ⟨rb, 0, none⟩), .int .i64 n] w fun e w' => (∃ v : Int, (0 ≤ v ∧ v < n) ∧ e = .returned (.int .i64 v)) ∧ Rk w' rb k ∧ But rb w w' := by
  obtain ⟨p, hp, hr⟩ := h
  refine (pick_any rb p n w hr hp.1 (by omega) n1).mono ?_
  rintro e w' ⟨hv, hr', hb⟩
  exact ⟨hv, ⟨p + 1, by omega, hr'⟩, hb⟩

set_option maxHeartbeats 400000 in
theorem big_k (rb k : Nat) (w : World) (h : Rk w rb (k + 8)) :
    Calls Tryz.prog 65 #[.pointer (some ⟨rb, 0, none⟩)] w fun e w' => (∃ v : Int, (0 ≤ v ∧ v < 18446744073709551616) ∧ e = .returned (.int .u64 v)) ∧ Rk w' rb k ∧ But rb w w' := by
  go_enter Tryz.func65, Tryz.ntmps65
  go_wp2
  go_loopw [3, 4] (fun a b wr => ∃ (j : Nat) (v : Int), j ≤ 8 ∧ Hid (0 ≤ v ∧ v < 18446744073709551616) ∧ a = .int .u64 v ∧ b = .int .i64 j ∧ Rk wr rb (k + (8 - j)) ∧ But rb w wr) (fun _ b _ => 8 - (intOf b).toNat)
  case atStart => exact ⟨0, 0, by omega, ⟨by omega, by omega⟩, rfl, rfl, h, But.refl _ _⟩
  case round =>
    obtain ⟨j, v, hj, hv, rfl, rfl, hR0, hB0⟩ := hrel
    by_cases hlt : j < 8
    · have hR1 : Rk wr rb (k + (8 - (j + 1)) + 1) := by rw [show k + (8 - (j + 1)) + 1 = k + (8 - j) by omega]; exact hR0
      clear hR0
      go_wp2_with (go_at_call 37; refine (pick_k rb _ _ _ (by assumption) (by decide)).mono ?_; rintro e wx ⟨⟨u, ⟨va, vb⟩, rfl⟩, hR, hB⟩)
      go_roundw
      case rel => exact ⟨j + 1, _, by omega, by show _ ∧ _; rw [IntKind.wrap_u64]; omega, rfl, by go_num, hR, But.trans hB0 hB⟩
      case measure => simp [intOf]; omega
    · have e : j = 8 := by omega
      subst e
      go_wp2
      go_ret
      exact ⟨⟨v, hv, rfl⟩, hR0, hB0⟩

set_option maxHeartbeats 400000 in
theorem width_k (rb k : Nat) (w : World) (h : Rk w rb (k + 2)) :
    Calls Tryz.prog 36 #[.pointer (some ⟨rb, 0, none⟩)] w fun e w' => (∃ v : Int, (-64 ≤ v ∧ v ≤ 64) ∧ e = .returned (.int .i64 v)) ∧ Rk w' rb k ∧ But rb w w' := by
  go_enter Tryz.func36, Tryz.ntmps36
  go_wp2_with fail
  refine (pick_k rb _ _ _ h (by decide)).mono ?_
  rintro e w1 ⟨⟨v, ⟨va, vb⟩, rfl⟩, hR, hB⟩
  by_cases c1 : v < 15
  · go_wp2
    go_ret
    exact ⟨⟨32, by omega, rfl⟩, hR.mono (by omega), hB⟩
  by_cases c2 : v < 30
  · go_wp2
    go_ret
    exact ⟨⟨64, by omega, rfl⟩, hR.mono (by omega), hB⟩
  go_wp2_with fail
  have hlt := hR.lt
  refine (pick_k rb k _ _ (hR.alloc _) (by decide)).mono ?_
  rintro e w2 ⟨⟨u, ⟨ua, ub⟩, rfl⟩, hR2, hB2⟩
  have hc : ∀ i, w2.cell? ⟨w1.heap.size, i, none⟩ = (#[Value.int IntKind.i64 0, Value.int IntKind.i64 63, Value.int IntKind.i64 16, Value.int IntKind.i64 (-64)] : Array Value)[i]? := fun i =>
    (World.cell?_of_block (w := w1.alloc (.cells #[Value.int IntKind.i64 0, Value.int IntKind.i64 63, Value.int IntKind.i64 16, Value.int IntKind.i64 (-64)] 3)) (hB2.block w1.heap.size (by simp) (by omega))).trans (by simp)
  have fin : ∀ x : Int, -64 ≤ x → x ≤ 64 → (∃ v : Int, (-64 ≤ v ∧ v ≤ 64) ∧ Ending.returned (.int .i64 x) = .returned (.int .i64 v)) ∧ Rk w2 rb k ∧ But rb w w2 := fun x a b => ⟨⟨x, ⟨a, b⟩, rfl⟩, hR2, (hB.alloc _).trans hB2⟩
  have h4 : u = 0 ∨ u = 1 ∨ u = 2 ∨ u = 3 := by omega
  clear hR hB hR2 hB2 hlt c1 c2 va vb h
  rcases h4 with rfl | rfl | rfl | rfl
  · go_wp2
    go_ret
    exact fin _ (by decide) (by decide)
  · go_wp2
    go_ret
    exact fin _ (by decide) (by decide)
  · go_wp2
    go_ret
    exact fin _ (by decide) (by decide)
  · go_wp2
    go_ret
    exact fin _ (by decide) (by decide)
end Go.Proofs.YtcfbdibjjhifpaaGreatDoor

/- The reader's method ord: a number, the reader some places further, all other old memory as it was. -/
namespace Go.Proofs.YtcfbdibjjhifpaaGreatDoor
open Go.RowKit


set_option maxHeartbeats 2000000 in
theorem ord_32 (rb k : Nat) (w : World) (h : Rk w rb (k + 13)) :
    Calls Tryz.prog 38 #[.pointer (some ⟨rb, 0, none⟩), .int .i64 32] w fun e w' => (∃ v : Int, (-9223372036854775808 ≤ v ∧ v ≤ 9223372036854775807) ∧ e = .returned (.int .i64 v)) ∧ Rk w' rb k ∧ But rb w w' := by
  go_enter Tryz.func38, Tryz.ntmps38
  go_wp2_with (go_at_call 27; refine (sBitTop_32 _).mono ?_; rintro e w0 ⟨rfl, rfl⟩)
  refine (pick_k rb _ _ _ h (by decide)).mono ?_
  rintro e w1 ⟨⟨v0, ⟨va, vb⟩, rfl⟩, hR1, hB1⟩
  have h6 : v0 = 0 ∨ v0 = 1 ∨ v0 = 2 ∨ v0 = 3 ∨ v0 = 4 ∨ 5 ≤ v0 := by omega
  clear h
  rcases h6 with rfl | rfl | rfl | rfl | rfl | h5
  · go_wp2_with (first | (go_at_call 37; refine (pick_k rb _ _ _ (by assumption) (by decide)).mono ?_; rintro e wx ⟨⟨v, ⟨va, vb⟩, rfl⟩, hR, hB⟩) | (go_at_call 65; refine (big_k rb _ _ (by assumption)).mono ?_; rintro e wx ⟨⟨v, ⟨va, vb⟩, rfl⟩, hR, hB⟩))
    all_goals
      go_ret
      refine ⟨⟨_, ?_, rfl⟩, Rk.mono (by assumption) (by omega), (by repeat (first | exact But.refl _ _ | assumption | refine But.drew ?_ | refine But.alloc ?_ _ | refine But.trans ?_ (by assumption)))⟩
      first | omega | (simp only [wrap64]; omega)
  · go_wp2_with (first | (go_at_call 37; refine (pick_k rb _ _ _ (by assumption) (by decide)).mono ?_; rintro e wx ⟨⟨v, ⟨va, vb⟩, rfl⟩, hR, hB⟩) | (go_at_call 65; refine (big_k rb _ _ (by assumption)).mono ?_; rintro e wx ⟨⟨v, ⟨va, vb⟩, rfl⟩, hR, hB⟩))
    all_goals
      go_ret
      refine ⟨⟨_, ?_, rfl⟩, Rk.mono (by assumption) (by omega), (by repeat (first | exact But.refl _ _ | assumption | refine But.drew ?_ | refine But.alloc ?_ _ | refine But.trans ?_ (by assumption)))⟩
      first | omega | (simp only [wrap64]; omega)
  · go_wp2_with (first | (go_at_call 37; refine (pick_k rb _ _ _ (by assumption) (by decide)).mono ?_; rintro e wx ⟨⟨v, ⟨va, vb⟩, rfl⟩, hR, hB⟩) | (go_at_call 65; refine (big_k rb _ _ (by assumption)).mono ?_; rintro e wx ⟨⟨v, ⟨va, vb⟩, rfl⟩, hR, hB⟩))
    all_goals
      go_ret
      refine ⟨⟨_, ?_, rfl⟩, Rk.mono (by assumption) (by omega), (by repeat (first | exact But.refl _ _ | assumption | refine But.drew ?_ | refine But.alloc ?_ _ | refine But.trans ?_ (by assumption)))⟩
      first | omega | (simp only [wrap64]; omega)
  · go_wp2_with (first | (go_at_call 37; refine (pick_k rb _ _ _ (by assumption) (by decide)).mono ?_; rintro e wx ⟨⟨v, ⟨va, vb⟩, rfl⟩, hR, hB⟩) | (go_at_call 65; refine (big_k rb _ _ (by assumption)).mono ?_; rintro e wx ⟨⟨v, ⟨va, vb⟩, rfl⟩, hR, hB⟩))
    all_goals
      go_ret
      refine ⟨⟨_, ?_, rfl⟩, Rk.mono (by assumption) (by omega), (by repeat (first | exact But.refl _ _ | assumption | refine But.drew ?_ | refine But.alloc ?_ _ | refine But.trans ?_ (by assumption)))⟩
      first | omega | (simp only [wrap64]; omega)
  · go_wp2_with (first | (go_at_call 37; refine (pick_k rb _ _ _ (by assumption) (by decide)).mono ?_; rintro e wx ⟨⟨v, ⟨va, vb⟩, rfl⟩, hR, hB⟩) | (go_at_call 65; refine (big_k rb _ _ (by assumption)).mono ?_; rintro e wx ⟨⟨v, ⟨va, vb⟩, rfl⟩, hR, hB⟩))
    all_goals
      go_ret
      refine ⟨⟨_, ?_, rfl⟩, Rk.mono (by assumption) (by omega), (by repeat (first | exact But.refl _ _ | assumption | refine But.drew ?_ | refine But.alloc ?_ _ | refine But.trans ?_ (by assumption)))⟩
      first | omega | (simp only [wrap64]; omega)
  · have f0 : (v0 == 0) = false := by simp; omega
    have f1 : (v0 == 1) = false := by simp; omega
    have f2 : (v0 == 2) = false := by simp; omega
    have f3 : (v0 == 3) = false := by simp; omega
    have f4 : (v0 == 4) = false := by simp; omega
    go_wp2_with (first | (go_at_call 37; refine (pick_k rb _ _ _ (by assumption) (by decide)).mono ?_; rintro e wx ⟨⟨v, ⟨va, vb⟩, rfl⟩, hR, hB⟩) | (go_at_call 65; refine (big_k rb _ _ (by assumption)).mono ?_; rintro e wx ⟨⟨v, ⟨va, vb⟩, rfl⟩, hR, hB⟩))
    all_goals
      go_ret
      refine ⟨⟨_, ?_, rfl⟩, Rk.mono (by assumption) (by omega), (by repeat (first | exact But.refl _ _ | assumption | refine But.drew ?_ | refine But.alloc ?_ _ | refine But.trans ?_ (by assumption)))⟩
      first | omega | (simp only [wrap64]; omega)
end Go.Proofs.YtcfbdibjjhifpaaGreatDoor

/- The reader's method ord: a number, the reader some places further, all other old memory as it was. -/
namespace Go.Proofs.YtcfbdibjjhifpaaGreatDoor
open Go.RowKit


set_option maxHeartbeats 2000000 in
theorem ord_64 (rb k : Nat) (w : World) (h : Rk w rb (k + 13)) :
    Calls Tryz.prog 38 #[.pointer (some ⟨rb, 0, none⟩), .int .i64 64] w fun e w' => (∃ v : Int, (-9223372036854775808 ≤ v ∧ v ≤ 9223372036854775807) ∧ e = .returned (.int .i64 v)) ∧ Rk w' rb k ∧ But rb w w' := by
  go_enter Tryz.func38, Tryz.ntmps38
  go_wp2_with (go_at_call 27; refine (sBitTop_64 _).mono ?_; rintro e w0 ⟨rfl, rfl⟩)
  refine (pick_k rb _ _ _ h (by decide)).mono ?_
  rintro e w1 ⟨⟨v0, ⟨va, vb⟩, rfl⟩, hR1, hB1⟩
  have h6 : v0 = 0 ∨ v0 = 1 ∨ v0 = 2 ∨ v0 = 3 ∨ v0 = 4 ∨ 5 ≤ v0 := by omega
  clear h
  rcases h6 with rfl | rfl | rfl | rfl | rfl | h5
  · go_wp2_with (first | (go_at_call 37; refine (pick_k rb _ _ _ (by assumption) (by decide)).mono ?_; rintro e wx ⟨⟨v, ⟨va, vb⟩, rfl⟩, hR, hB⟩) | (go_at_call 65; refine (big_k rb _ _ (by assumption)).mono ?_; rintro e wx ⟨⟨v, ⟨va, vb⟩, rfl⟩, hR, hB⟩))
    all_goals
      go_ret
      refine ⟨⟨_, ?_, rfl⟩, Rk.mono (by assumption) (by omega), (by repeat (first | exact But.refl _ _ | assumption | refine But.drew ?_ | refine But.alloc ?_ _ | refine But.trans ?_ (by assumption)))⟩
      first | omega | (simp only [wrap64]; omega)
  · go_wp2_with (first | (go_at_call 37; refine (pick_k rb _ _ _ (by assumption) (by decide)).mono ?_; rintro e wx ⟨⟨v, ⟨va, vb⟩, rfl⟩, hR, hB⟩) | (go_at_call 65; refine (big_k rb _ _ (by assumption)).mono ?_; rintro e wx ⟨⟨v, ⟨va, vb⟩, rfl⟩, hR, hB⟩))
    all_goals
      go_ret
      refine ⟨⟨_, ?_, rfl⟩, Rk.mono (by assumption) (by omega), (by repeat (first | exact But.refl _ _ | assumption | refine But.drew ?_ | refine But.alloc ?_ _ | refine But.trans ?_ (by assumption)))⟩
      first | omega | (simp only [wrap64]; omega)
  · go_wp2_with (first | (go_at_call 37; refine (pick_k rb _ _ _ (by assumption) (by decide)).mono ?_; rintro e wx ⟨⟨v, ⟨va, vb⟩, rfl⟩, hR, hB⟩) | (go_at_call 65; refine (big_k rb _ _ (by assumption)).mono ?_; rintro e wx ⟨⟨v, ⟨va, vb⟩, rfl⟩, hR, hB⟩))
    all_goals
      go_ret
      refine ⟨⟨_, ?_, rfl⟩, Rk.mono (by assumption) (by omega), (by repeat (first | exact But.refl _ _ | assumption | refine But.drew ?_ | refine But.alloc ?_ _ | refine But.trans ?_ (by assumption)))⟩
      first | omega | (simp only [wrap64]; omega)
  · go_wp2_with (first | (go_at_call 37; refine (pick_k rb _ _ _ (by assumption) (by decide)).mono ?_; rintro e wx ⟨⟨v, ⟨va, vb⟩, rfl⟩, hR, hB⟩) | (go_at_call 65; refine (big_k rb _ _ (by assumption)).mono ?_; rintro e wx ⟨⟨v, ⟨va, vb⟩, rfl⟩, hR, hB⟩))
    all_goals
      go_ret
      refine ⟨⟨_, ?_, rfl⟩, Rk.mono (by assumption) (by omega), (by repeat (first | exact But.refl _ _ | assumption | refine But.drew ?_ | refine But.alloc ?_ _ | refine But.trans ?_ (by assumption)))⟩
      first | omega | (simp only [wrap64]; omega)
  · go_wp2_with (first | (go_at_call 37; refine (pick_k rb _ _ _ (by assumption) (by decide)).mono ?_; rintro e wx ⟨⟨v, ⟨va, vb⟩, rfl⟩, hR, hB⟩) | (go_at_call 65; refine (big_k rb _ _ (by assumption)).mono ?_; rintro e wx ⟨⟨v, ⟨va, vb⟩, rfl⟩, hR, hB⟩))
    all_goals
      go_ret
      refine ⟨⟨_, ?_, rfl⟩, Rk.mono (by assumption) (by omega), (by repeat (first | exact But.refl _ _ | assumption | refine But.drew ?_ | refine But.alloc ?_ _ | refine But.trans ?_ (by assumption)))⟩
      first | omega | (simp only [wrap64]; omega)
  · have f0 : (v0 == 0) = false := by simp; omega
    have f1 : (v0 == 1) = false := by simp; omega
    have f2 : (v0 == 2) = false := by simp; omega
    have f3 : (v0 == 3) = false := by simp; omega
    have f4 : (v0 == 4) = false := by simp; omega
    go_wp2_with (first | (go_at_call 37; refine (pick_k rb _ _ _ (by assumption) (by decide)).mono ?_; rintro e wx ⟨⟨v, ⟨va, vb⟩, rfl⟩, hR, hB⟩) | (go_at_call 65; refine (big_k rb _ _ (by assumption)).mono ?_; rintro e wx ⟨⟨v, ⟨va, vb⟩, rfl⟩, hR, hB⟩))
    all_goals
      go_ret
      refine ⟨⟨_, ?_, rfl⟩, Rk.mono (by assumption) (by omega), (by repeat (first | exact But.refl _ _ | assumption | refine But.drew ?_ | refine But.alloc ?_ _ | refine But.trans ?_ (by assumption)))⟩
      first | omega | (simp only [wrap64]; omega)
end Go.Proofs.YtcfbdibjjhifpaaGreatDoor

/- The reader's method ord: a number, the reader some places further, all other old memory as it was. -/
namespace Go.Proofs.YtcfbdibjjhifpaaGreatDoor
open Go.RowKit


set_option maxHeartbeats 2000000 in
theorem ord_no (wd : Int) (g1 : wd ≠ 32) (g2 : wd ≠ 64) (rb k : Nat) (w : World) (h : Rk w rb (k + 13)) :
    Calls Tryz.prog 38 #[.pointer (some ⟨rb, 0, none⟩), .int .i64 wd] w fun e w' => (∃ v : Int, (-9223372036854775808 ≤ v ∧ v ≤ 9223372036854775807) ∧ e = .returned (.int .i64 v)) ∧ Rk w' rb k ∧ But rb w w' := by
  have t3 : (wd == 32) = false := by simp; omega
  go_enter Tryz.func38, Tryz.ntmps38
  go_wp2_with (go_at_call 27; refine (sBitTop_no wd _ g1 g2).mono ?_; rintro e w0 ⟨rfl, rfl⟩)
  refine (pick_k rb _ _ _ h (by decide)).mono ?_
  rintro e w1 ⟨⟨v0, ⟨va, vb⟩, rfl⟩, hR1, hB1⟩
  have h6 : v0 = 0 ∨ v0 = 1 ∨ v0 = 2 ∨ v0 = 3 ∨ v0 = 4 ∨ 5 ≤ v0 := by omega
  clear h
  rcases h6 with rfl | rfl | rfl | rfl | rfl | h5
  · go_wp2_with (first | (go_at_call 37; refine (pick_k rb _ _ _ (by assumption) (by decide)).mono ?_; rintro e wx ⟨⟨v, ⟨va, vb⟩, rfl⟩, hR, hB⟩) | (go_at_call 65; refine (big_k rb _ _ (by assumption)).mono ?_; rintro e wx ⟨⟨v, ⟨va, vb⟩, rfl⟩, hR, hB⟩))
    all_goals
      go_ret
      refine ⟨⟨_, ?_, rfl⟩, Rk.mono (by assumption) (by omega), (by repeat (first | exact But.refl _ _ | assumption | refine But.drew ?_ | refine But.alloc ?_ _ | refine But.trans ?_ (by assumption)))⟩
      first | omega | (simp only [wrap64]; omega)
  · go_wp2_with (first | (go_at_call 37; refine (pick_k rb _ _ _ (by assumption) (by decide)).mono ?_; rintro e wx ⟨⟨v, ⟨va, vb⟩, rfl⟩, hR, hB⟩) | (go_at_call 65; refine (big_k rb _ _ (by assumption)).mono ?_; rintro e wx ⟨⟨v, ⟨va, vb⟩, rfl⟩, hR, hB⟩))
    all_goals
      go_ret
      refine ⟨⟨_, ?_, rfl⟩, Rk.mono (by assumption) (by omega), (by repeat (first | exact But.refl _ _ | assumption | refine But.drew ?_ | refine But.alloc ?_ _ | refine But.trans ?_ (by assumption)))⟩
      first | omega | (simp only [wrap64]; omega)
  · go_wp2_with (first | (go_at_call 37; refine (pick_k rb _ _ _ (by assumption) (by decide)).mono ?_; rintro e wx ⟨⟨v, ⟨va, vb⟩, rfl⟩, hR, hB⟩) | (go_at_call 65; refine (big_k rb _ _ (by assumption)).mono ?_; rintro e wx ⟨⟨v, ⟨va, vb⟩, rfl⟩, hR, hB⟩))
    all_goals
      go_ret
      refine ⟨⟨_, ?_, rfl⟩, Rk.mono (by assumption) (by omega), (by repeat (first | exact But.refl _ _ | assumption | refine But.drew ?_ | refine But.alloc ?_ _ | refine But.trans ?_ (by assumption)))⟩
      first | omega | (simp only [wrap64]; omega)
  · go_wp2_with (first | (go_at_call 37; refine (pick_k rb _ _ _ (by assumption) (by decide)).mono ?_; rintro e wx ⟨⟨v, ⟨va, vb⟩, rfl⟩, hR, hB⟩) | (go_at_call 65; refine (big_k rb _ _ (by assumption)).mono ?_; rintro e wx ⟨⟨v, ⟨va, vb⟩, rfl⟩, hR, hB⟩))
    all_goals
      go_ret
      refine ⟨⟨_, ?_, rfl⟩, Rk.mono (by assumption) (by omega), (by repeat (first | exact But.refl _ _ | assumption | refine But.drew ?_ | refine But.alloc ?_ _ | refine But.trans ?_ (by assumption)))⟩
      first | omega | (simp only [wrap64]; omega)
  · go_wp2_with (first | (go_at_call 37; refine (pick_k rb _ _ _ (by assumption) (by decide)).mono ?_; rintro e wx ⟨⟨v, ⟨va, vb⟩, rfl⟩, hR, hB⟩) | (go_at_call 65; refine (big_k rb _ _ (by assumption)).mono ?_; rintro e wx ⟨⟨v, ⟨va, vb⟩, rfl⟩, hR, hB⟩))
    all_goals
      go_ret
      refine ⟨⟨_, ?_, rfl⟩, Rk.mono (by assumption) (by omega), (by repeat (first | exact But.refl _ _ | assumption | refine But.drew ?_ | refine But.alloc ?_ _ | refine But.trans ?_ (by assumption)))⟩
      first | omega | (simp only [wrap64]; omega)
  · have f0 : (v0 == 0) = false := by simp; omega
    have f1 : (v0 == 1) = false := by simp; omega
    have f2 : (v0 == 2) = false := by simp; omega
    have f3 : (v0 == 3) = false := by simp; omega
    have f4 : (v0 == 4) = false := by simp; omega
    go_wp2_with (first | (go_at_call 37; refine (pick_k rb _ _ _ (by assumption) (by decide)).mono ?_; rintro e wx ⟨⟨v, ⟨va, vb⟩, rfl⟩, hR, hB⟩) | (go_at_call 65; refine (big_k rb _ _ (by assumption)).mono ?_; rintro e wx ⟨⟨v, ⟨va, vb⟩, rfl⟩, hR, hB⟩))
    all_goals
      go_ret
      refine ⟨⟨_, ?_, rfl⟩, Rk.mono (by assumption) (by omega), (by repeat (first | exact But.refl _ _ | assumption | refine But.drew ?_ | refine But.alloc ?_ _ | refine But.trans ?_ (by assumption)))⟩
      first | omega | (simp only [wrap64]; omega)
end Go.Proofs.YtcfbdibjjhifpaaGreatDoor

/- Draws of a width and an order number off a code: two numbers, nothing that was there is written. -/
namespace Go.Proofs.YtcfbdibjjhifpaaGreatDoor
open Go.RowKit


/-- a code: a slice of bytes that came in -/
def IsCode (w : World) (a : Option Addr) (len cap : Nat) : Prop :=
  len ≤ cap ∧ (cap : Int) ≤ 9223372036854775807 ∧ (len = 0 ∨ ∃ bb off : Nat, a = some ⟨bb, off, none⟩ ∧ bb < w.heap.size ∧ ∀ i, i < len → ∃ z : Int, 0 ≤ z ∧ z ≤ 255 ∧ w.cell? ⟨bb, off + i, none⟩ = some (.int .u8 z))
theorem IsCode.old {w w' : World} {a : Option Addr} {len cap : Nat} (h : IsCode w a len cap) (b : Below w.heap.size w w') : IsCode w' a len cap := by
  obtain ⟨h1, h2, h3⟩ := h
  refine ⟨h1, h2, ?_⟩
  rcases h3 with h3 | ⟨bb, off, q1, q2, q3⟩
  · exact .inl h3
  · refine .inr ⟨bb, off, q1, Nat.lt_of_lt_of_le q2 b.size, fun i hi => ?_⟩
    obtain ⟨z, z0, z1, hz⟩ := q3 i hi
    exact ⟨z, z0, z1, (b.cell (p := ⟨bb, off + i, none⟩) q2).trans hz⟩

theorem made_rk (w : World) (a : Option Addr) (len len' cap : Nat) (h : IsCode w a len cap) (hl : len' ≤ len) (h2 : len' ≤ 2000) : Rk (w.alloc (.cells #[.slice a len' cap, .int .i64 0] 110)) w.heap.size 1000 := by
  obtain ⟨h1, _, h3⟩ := h
  refine ⟨0, by omega, a, len', cap, by simp, by simp, by simp, by simp, h2, by omega, ?_⟩
  rcases h3 with h3 | ⟨bb, off, q1, q2, q3⟩
  · exact .inl (by omega)
  · refine .inr ⟨bb, off, q1, q2, by simp; omega, fun i hi => ?_⟩
    obtain ⟨z, z0, z1, hz⟩ := q3 i (by omega)
    exact ⟨z, z0, z1, (World.cell?_alloc_lt _ _ _ q2).trans hz⟩

set_option maxHeartbeats 400000 in
theorem open_few (w : World) (a : Option Addr) (len cap : Nat) (h : (len : Int) ≤ 2000) :
    Calls Tryz.prog 35 #[.slice a len cap] w fun e w' => e = .returned (.pointer (some ⟨w.heap.size, 0, none⟩)) ∧ w' = w.alloc (.cells #[.slice a len cap, .int .i64 0] 110) := by
  have t1 : decide ((2000 : Int) < (len : Int)) = false := by simp; omega
  go_enter Tryz.func35, Tryz.ntmps35
  go_wp2
  go_ret
  exact ⟨rfl, rfl⟩
set_option maxHeartbeats 400000 in
theorem open_many (w : World) (bb off len cap : Nat) (h : (2000 : Int) < (len : Int)) (hc : (len : Int) ≤ (cap : Int)) (hm : (cap : Int) ≤ 9223372036854775807) :
    Calls Tryz.prog 35 #[.slice (some ⟨bb, off, none⟩) len cap] w fun e w' => e = .returned (.pointer (some ⟨w.heap.size, 0, none⟩)) ∧ w' = w.alloc (.cells #[.slice (some ⟨bb, off, none⟩) 2000 cap, .int .i64 0] 110) := by
  have t1 : decide ((2000 : Int) < (len : Int)) = true := by simp; omega
  have t2 : (2000 : Int) ≤ (cap : Int) := by omega
  go_enter Tryz.func35, Tryz.ntmps35
  go_wp2
  go_ret
  exact ⟨rfl, rfl⟩
theorem open_k (w : World) (a : Option Addr) (len cap : Nat) (h : IsCode w a len cap) :
    Calls Tryz.prog 35 #[.slice a len cap] w fun e w' => e = .returned (.pointer (some ⟨w.heap.size, 0, none⟩)) ∧ ∃ o, w' = w.alloc o ∧ Rk (w.alloc o) w.heap.size 1000 := by
  by_cases hl : len ≤ 2000
  · refine (open_few w a len cap (by omega)).mono ?_
    rintro e w' ⟨rfl, rfl⟩
    exact ⟨rfl, _, rfl, made_rk w a len len cap h (Nat.le_refl _) hl⟩
  · have h' := h
    obtain ⟨h1, h2, h3⟩ := h'
    rcases h3 with h3 | ⟨bb, off, rfl, q2, q3⟩
    · omega
    · refine (open_many w bb off len cap (by omega) (by omega) h2).mono ?_
      rintro e w' ⟨rfl, rfl⟩
      exact ⟨rfl, _, rfl, made_rk w _ len 2000 cap h (by omega) (by omega)⟩

theorem ord_any (wd : Int) (rb k : Nat) (w : World) (h : Rk w rb (k + 13)) :
    Calls Tryz.prog 38 #[.pointer (some ⟨rb, 0, none⟩), .int .i64 wd] w fun e w' => (∃ v : Int, (-9223372036854775808 ≤ v ∧ v ≤ 9223372036854775807) ∧ e = .returned (.int .i64 v)) ∧ Rk w' rb k ∧ But rb w w' := by
  by_cases c1 : wd = 32
  · subst c1; exact ord_32 rb k w h
  by_cases c2 : wd = 64
  · subst c2; exact ord_64 rb k w h
  exact ord_no wd c1 c2 rb k w h

end Go.Proofs.YtcfbdibjjhifpaaGreatDoor

/- The draw of a width and a float. Nothing that was there is written. -/
namespace Go.Proofs.YtcfbdibjjhifpaaGreatDoor
open Go.RowKit
set_option linter.unusedVariables false
set_option maxRecDepth 100000

set_option maxHeartbeats 400000 in
theorem drawFloatFrac (w : World) (a : Option Addr) (len cap : Nat) (h : IsCode w a len cap) :
    Calls Tryz.prog 19 #[.slice a len cap] w fun e w' => (∃ wd n : Int, (-64 ≤ wd ∧ wd ≤ 64 ∧ -9223372036854775808 ≤ n ∧ n ≤ 9223372036854775807) ∧ e = .returned (.tuple #[.int .i64 wd, .int .i64 n])) ∧ Below w.heap.size w w' := by
  go_enter Tryz.func19, Tryz.ntmps19
  go_wp2_with fail
  refine (open_k w a len cap h).mono ?_
  rintro e w1 ⟨rfl, o, rfl, hR⟩
  go_wp2_with fail
  refine (width_k _ _ _ hR).mono ?_
  rintro e w2 ⟨⟨wd, ⟨d1, d2⟩, rfl⟩, hR2, hB2⟩
  go_wp2_with fail
  refine (ord_any wd _ _ _ hR2).mono ?_
  rintro e w3 ⟨⟨n, ⟨n1, n2⟩, rfl⟩, hR3, hB3⟩
  go_wp2
  go_ret2
  exact ⟨⟨wd, n, ⟨d1, d2, n1, n2⟩, rfl⟩, (hB2.trans hB3).below⟩
end Go.Proofs.YtcfbdibjjhifpaaGreatDoor
