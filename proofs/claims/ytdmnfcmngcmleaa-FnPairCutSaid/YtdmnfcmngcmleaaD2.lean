/- The reader's methods big, width and ord: a number each, the reader some places further, all other old memory as it was. -/
import Derived.Test.YtdmnfcmngcmleaaD1
namespace Go.Proofs.Ytdmnfcmngcmleaa
open Go.RowKit


/-- a reader that can still be read k times -/
def Rk (w : World) (rb : Nat) (k : Nat) : Prop := ∃ p : Int, (0 ≤ p ∧ p + k ≤ 1000000) ∧ Rd w rb p
theorem Rk.mono {w : World} {rb k j : Nat} (h : Rk w rb k) (hj : j ≤ k) : Rk w rb j := by
  obtain ⟨p, hp, hr⟩ := h
  exact ⟨p, by omega, hr⟩
theorem Rk.old {w w' : World} {rb k : Nat} (h : Rk w rb k) (b : Below w.heap.size w w') : Rk w' rb k := by
  obtain ⟨p, hp, hr⟩ := h
  exact ⟨p, hp, hr.old b⟩
theorem Rk.alloc {w : World} {rb k : Nat} (h : Rk w rb k) (o : Obj) : Rk (w.alloc o) rb k := h.old ((Below.refl _ _).alloc (Nat.le_refl _) o)
theorem Rk.lt {w : World} {rb k : Nat} (h : Rk w rb k) : rb < w.heap.size := by
  obtain ⟨p, _, a, len, cap, h0, _⟩ := h
  exact h0
theorem Rk.far {w : World} {rb k : Nat} (h : Rk w rb k) (b i : Nat) (hb : rb < b) (v : Value) : Rk (w.setCell ⟨b, i, none⟩ v) rb k := by
  obtain ⟨p, hp, hr⟩ := h
  exact ⟨p, hp, hr.far b i hb v⟩
/-- two cells of another block than the reader's, that can be written -/
def Two (w : World) (b : Nat) : Prop := ∃ x y : Value, w.cell? ⟨b, 0, none⟩ = some x ∧ w.cell? ⟨b, 1, none⟩ = some y ∧ w.frozen? ⟨b, 0, none⟩ = false ∧ w.frozen? ⟨b, 1, none⟩ = false ∧ b < w.heap.size
theorem Two.but {w w' : World} {b rb : Nat} (h : Two w b) (k : But rb w w') (hne : b ≠ rb) : Two w' b := by
  obtain ⟨x, y, h1, h2, h3, h4, h5⟩ := h
  have e := k.block b h5 hne
  exact ⟨x, y, (World.cell?_of_block (w := w) (a := ⟨b, 0, none⟩) e).trans h1, (World.cell?_of_block (w := w) (a := ⟨b, 1, none⟩) e).trans h2, (World.frozen?_of_block (w := w) (a := ⟨b, 0, none⟩) e).trans h3, (World.frozen?_of_block (w := w) (a := ⟨b, 1, none⟩) e).trans h4, Nat.lt_of_lt_of_le h5 k.size⟩
theorem pick_k (rb k : Nat) (n : Int) (w : World) (h : Rk w rb (k + 1)) (n1 : 1 ≤ n) :
    Calls Try.prog 15 #[.pointer (some ⟨rb, 0, none⟩), .int .i64 n] w fun e w' => (∃ v : Int, (0 ≤ v ∧ v < n) ∧ e = .returned (.int .i64 v)) ∧ Rk w' rb k ∧ But rb w w' := by
  obtain ⟨p, hp, hr⟩ := h
  refine (pick_any rb p n w hr hp.1 (by omega) n1).mono ?_
  rintro e w' ⟨hv, hr', hb⟩
  exact ⟨hv, ⟨p + 1, by omega, hr'⟩, hb⟩

set_option maxHeartbeats 400000 in
theorem big_k (rb k : Nat) (w : World) (h : Rk w rb (k + 8)) :
    Calls Try.prog 34 #[.pointer (some ⟨rb, 0, none⟩)] w fun e w' => (∃ v : Int, (0 ≤ v ∧ v < 18446744073709551616) ∧ e = .returned (.int .u64 v)) ∧ Rk w' rb k ∧ But rb w w' := by
  go_enter Try.func34, Try.ntmps34
  go_wp2
  go_loopw [3, 4] (fun a b wr => ∃ (j : Nat) (v : Int), j ≤ 8 ∧ Hid (0 ≤ v ∧ v < 18446744073709551616) ∧ a = .int .u64 v ∧ b = .int .i64 j ∧ Rk wr rb (k + (8 - j)) ∧ But rb w wr) (fun _ b _ => 8 - (intOf b).toNat)
  case atStart => exact ⟨0, 0, by omega, ⟨by omega, by omega⟩, rfl, rfl, h, But.refl _ _⟩
  case round =>
    obtain ⟨j, v, hj, hv, rfl, rfl, hR0, hB0⟩ := hrel
    by_cases hlt : j < 8
    · have hR1 : Rk wr rb (k + (8 - (j + 1)) + 1) := by rw [show k + (8 - (j + 1)) + 1 = k + (8 - j) by omega]; exact hR0
      clear hR0
      go_wp2_with (go_at_call 15; refine (pick_k rb _ _ _ (by assumption) (by decide)).mono ?_; rintro e wx ⟨⟨u, ⟨va, vb⟩, rfl⟩, hR, hB⟩)
      go_roundw
      case rel => exact ⟨j + 1, _, by omega, by show _ ∧ _; rw [IntKind.wrap_u64]; omega, rfl, by go_num, hR, But.trans hB0 hB⟩
      case measure => simp [intOf]; omega
    · have e : j = 8 := by omega
      subst e
      go_wp2
      go_ret
      exact ⟨⟨v, hv, rfl⟩, hR0, hB0⟩

set_option maxHeartbeats 400000 in
theorem width_k (rb k : Nat) (w : World) (h : Rk w rb (k + 2)) :
    Calls Try.prog 30 #[.pointer (some ⟨rb, 0, none⟩)] w fun e w' => (∃ v : Int, (-64 ≤ v ∧ v ≤ 64) ∧ e = .returned (.int .i64 v)) ∧ Rk w' rb k ∧ But rb w w' := by
  go_enter Try.func30, Try.ntmps30
  go_wp2_with fail
  refine (pick_k rb _ _ _ h (by decide)).mono ?_
  rintro e w1 ⟨⟨v, ⟨va, vb⟩, rfl⟩, hR, hB⟩
  by_cases c1 : v < 15
  · go_wp2
    go_ret
    exact ⟨⟨32, by omega, rfl⟩, hR.mono (by omega), hB⟩
  by_cases c2 : v < 30
  · go_wp2
    go_ret
    exact ⟨⟨64, by omega, rfl⟩, hR.mono (by omega), hB⟩
  go_wp2_with fail
  have hlt := hR.lt
  refine (pick_k rb k _ _ (hR.alloc _) (by decide)).mono ?_
  rintro e w2 ⟨⟨u, ⟨ua, ub⟩, rfl⟩, hR2, hB2⟩
  have hc : ∀ i, w2.cell? ⟨w1.heap.size, i, none⟩ = (#[Value.int IntKind.i64 0, Value.int IntKind.i64 63, Value.int IntKind.i64 16, Value.int IntKind.i64 (-64)] : Array Value)[i]? := fun i =>
    (World.cell?_of_block (w := w1.alloc (.cells #[Value.int IntKind.i64 0, Value.int IntKind.i64 63, Value.int IntKind.i64 16, Value.int IntKind.i64 (-64)] 3)) (hB2.block w1.heap.size (by simp) (by omega))).trans (by simp)
  have fin : ∀ x : Int, -64 ≤ x → x ≤ 64 → (∃ v : Int, (-64 ≤ v ∧ v ≤ 64) ∧ Ending.returned (.int .i64 x) = .returned (.int .i64 v)) ∧ Rk w2 rb k ∧ But rb w w2 := fun x a b => ⟨⟨x, ⟨a, b⟩, rfl⟩, hR2, (hB.alloc _).trans hB2⟩
  have h4 : u = 0 ∨ u = 1 ∨ u = 2 ∨ u = 3 := by omega
  clear hR hB hR2 hB2 hlt c1 c2 va vb h
  rcases h4 with rfl | rfl | rfl | rfl
  · go_wp2
    go_ret
    exact fin _ (by decide) (by decide)
  · go_wp2
    go_ret
    exact fin _ (by decide) (by decide)
  · go_wp2
    go_ret
    exact fin _ (by decide) (by decide)
  · go_wp2
    go_ret
    exact fin _ (by decide) (by decide)
end Go.Proofs.Ytdmnfcmngcmleaa
