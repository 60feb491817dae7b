/- Whether a box lies within another one: by the specification's loop, and by the program's search. No condition. -/
import Derived.Test.YtmeijbiohbpgpaaB4
namespace Go.Proofs.Ytmeijbiohbpgpaa
open Go.RowKit
set_option linter.unusedVariables false

def allI (n : Nat) (p : Nat → Bool) : Bool := (List.range n).all p
theorem allI_no {n k : Nat} {p : Nat → Bool} (hk : k < n) (h : p k = false) : allI n p = false := by
  unfold allI; rw [List.all_eq_false]; exact ⟨k, List.mem_range.2 hk, by simp [h]⟩
theorem allI_yes {n : Nat} {p : Nat → Bool} (h : ∀ k, k < n → p k = true) : allI n p = true := by
  unfold allI; rw [List.all_eq_true]; intro k hk; exact h k (List.mem_range.1 hk)
theorem firstI_all {n : Nat} {p q : Nat → Bool} (h : ∀ k, k < n → p k = !q k) : decide (firstI n p < 0) = allI n q := by
  rw [firstI_neg]
  cases e : allI n q
  · unfold allI at e
    rw [List.all_eq_false] at e
    obtain ⟨k, hk, hn⟩ := e
    rw [List.all_eq_false]
    exact ⟨k, hk, by rw [h k (List.mem_range.1 hk)]; simpa using hn⟩
  · unfold allI at e
    rw [List.all_eq_true] at e
    rw [List.all_eq_true]
    intro k hk
    rw [h k (List.mem_range.1 hk), e k hk]; rfl

def isAt (ps qs : List (Int × Int)) (k : Nat) : Bool := isB (ps.getD k (0, 0)).1 (ps.getD k (0, 0)).2 (qs.getD k (0, 0)).1 (qs.getD k (0, 0)).2
def isRow (ps qs : List (Int × Int)) : Bool := decide (ps.length = qs.length) && allI ps.length (isAt ps qs)
theorem isAt_eq {ps qs : List (Int × Int)} {k : Nat} {x y u v : Int} (h1 : ps.getD k (0, 0) = (x, y)) (h2 : qs.getD k (0, 0) = (u, v)) : isAt ps qs k = isB x y u v := by unfold isAt; rw [h1, h2]

set_option maxHeartbeats 2000000 in
theorem sBoxIs (a a' : Option Addr) (len len' cap cap' : Nat) (ps qs : List (Int × Int)) (w : World) (hR : InRow w a len cap ps) (hR' : InRow w a' len' cap' qs) :
    Calls Try.prog 20 #[.agg #[.slice a len cap], .agg #[.slice a' len' cap']] w fun e w' => e = .returned (.bool (isRow ps qs)) ∧ Below w.heap.size w w' := by
  have hlen : len ≤ maxLen := Nat.le_trans hR.2.1 hR.2.2.1
  have hp := hR.1
  have hq := hR'.1
  unfold maxLen at hlen
  by_cases c1 : len = len'
  case neg =>
    have c2 : ((len : Int) != (len' : Int)) = true := by rw [bne_iff_ne]; omega
    have hno : Hid (isRow ps qs = false) := by show _ = _; unfold isRow; simp [show ¬ ps.length = qs.length by omega]
    go_enter Try.func20, Try.ntmps20
    go_wp2
    go_ret
    exact ⟨by rw [hno.out]; rfl, (by repeat (first | exact Below.refl _ _ | refine Below.drew ?_ | refine old_alloc ?_ _ | refine old_trans ?_ (by assumption)))⟩
  subst c1
  have hr : Hid (isRow ps qs = allI len (isAt ps qs)) := by show _ = _; unfold isRow; simp [hp, hq]
  have b2 : Cel1 ((w.alloc (.cells #[.slice a len cap] 29)).alloc (.cells #[.slice a' len cap'] 29)) w.heap.size (.slice a len cap) := (Cel1.made w _ rfl _ _).alloc _
  have b3 : Cel1 ((w.alloc (.cells #[.slice a len cap] 29)).alloc (.cells #[.slice a' len cap'] 29)) (w.heap.size + 1) (.slice a' len cap') := Cel1.made _ _ (by simp) _ _
  have hb3 : Below w.heap.size w ((w.alloc (.cells #[.slice a len cap] 29)).alloc (.cells #[.slice a' len cap'] 29)) := ((Below.refl _ w).alloc (Nat.le_refl _) _).alloc (by simp) _
  have hR3 := hR.old hb3
  have hR3' := hR'.old hb3
  go_enter Try.func20, Try.ntmps20
  go_wp2
  go_loopw [5] (fun i wr => ∃ k : Nat, k ≤ len ∧ i = .int .i64 k ∧ Hid (∀ j, j < k → isAt ps qs j = true) ∧ Cel1 wr w.heap.size (.slice a len cap) ∧ Cel1 wr (w.heap.size + 1) (.slice a' len cap') ∧ InRow wr a len cap ps ∧ InRow wr a' len cap' qs ∧ Below w.heap.size w wr) (fun b _ => len - (intOf b).toNat)
  case atStart => exact ⟨0, by omega, rfl, fun j hj => absurd hj (by omega), b2, b3, hR3, hR3', hb3⟩
  case round =>
    obtain ⟨k, hk, rfl, hall, K, M, hRr, hRr', hb⟩ := hrel
    obtain ⟨k0, k1, k2⟩ := id K
    obtain ⟨m0, m1, m2⟩ := id M
    by_cases hlt : k < len
    · obtain ⟨b, off, x, y, rfl, hbl, hx, -, c0, c1'⟩ := hRr.at hlt
      obtain ⟨b', off', x', y', rfl, hbl', hx', -, d0, d1'⟩ := hRr'.at hlt
      have E := hd (sPairIs x y x' y')
      have hi := isAt_eq hx hx'
      cases hpk : isB x y x' y'
      · rw [hpk] at E hi
        have hno : Hid (isRow ps qs = false) := hr.out.trans (allI_no hlt hi)
        clear hpk hi
        go_wp2_with fail
        go_region_with (go_at_call 52; refine (E.out _).mono ?_; rintro e w1 ⟨rfl, hb1⟩)
        all_goals
          go_wp2
          go_ret
          exact ⟨by rw [hno.out]; rfl, (by repeat (first | exact hb | exact Below.refl _ _ | refine Below.drew ?_ | refine old_alloc ?_ _ | refine old_trans ?_ (by assumption)))⟩
      · rw [hpk] at E hi
        have hall' : Hid (∀ j, j < k + 1 → isAt ps qs j = true) := by
          intro j hj
          by_cases e : j = k
          · subst e; exact hi
          · exact hall j (by omega)
        clear hpk hi
        go_wp2_with fail
        go_region_with (go_at_call 52; refine (E.out _).mono ?_; rintro e w1 ⟨rfl, hb1⟩)
        all_goals
          go_wp2
          go_roundw
          case rel => exact ⟨k + 1, by omega, by go_num, hall', by first | exact K.later hb1 | exact K.drew.later hb1, by first | exact M.later hb1 | exact M.drew.later hb1, by first | exact hRr.old hb1 | exact hRr.drew.old hb1, by first | exact hRr'.old hb1 | exact hRr'.drew.old hb1, (by repeat (first | exact hb | exact Below.refl _ _ | refine Below.drew ?_ | refine old_alloc ?_ _ | refine old_trans ?_ (by assumption)))⟩
          case measure => simp [intOf]; omega
    · obtain rfl : k = len := by omega
      have hyes : Hid (isRow ps qs = true) := hr.out.trans (allI_yes hall)
      go_wp2
      go_ret
      exact ⟨by rw [hyes.out]; rfl, hb⟩

set_option maxHeartbeats 2000000 in
theorem iBoxIs1 (a a' : Option Addr) (len cap cap' : Nat) (ps qs : List (Int × Int)) (B C k : Nat) (hk : k < len) (w : World) (hR : InRow w a len cap ps) (hR' : InRow w a' len cap' qs) (hB : w.cell? ⟨B, 0, none⟩ = some (.slice a len cap)) (hC : w.cell? ⟨C, 0, none⟩ = some (.slice a' len cap')) :
    Calls Try.prog 53 #[.int .i64 (k : Int), .pointer (some ⟨B, 0, none⟩), .pointer (some ⟨C, 0, none⟩)] w fun e w' => e = .returned (.bool (!isAt ps qs k)) ∧ Below w.heap.size w w' := by
  have hlen : len ≤ maxLen := Nat.le_trans hR.2.1 hR.2.2.1
  unfold maxLen at hlen
  obtain ⟨b, off, x, y, rfl, hbl, hx, -, c0, c1⟩ := hR.at hk
  obtain ⟨b', off', x', y', rfl, hbl', hx', -, d0, d1⟩ := hR'.at hk
  rw [isAt_eq hx hx']
  have E := hd (iPairIs x y x' y')
  generalize isB x y x' y' = r at *
  go_enter Try.func53, Try.ntmps53
  go_wp2_with fail
  go_region_with (go_at_call 54; refine (E.out _).mono ?_; rintro e w1 ⟨rfl, hb1⟩)
  all_goals
    go_wp2
    go_ret
    exact ⟨rfl, (by repeat (first | exact Below.refl _ _ | refine Below.drew ?_ | refine old_alloc ?_ _ | refine old_trans ?_ (by assumption)))⟩

set_option maxHeartbeats 2000000 in
theorem iBoxIs (a a' : Option Addr) (len len' cap cap' : Nat) (ps qs : List (Int × Int)) (w : World) (hR : InRow w a len cap ps) (hR' : InRow w a' len' cap' qs) :
    Calls Try.prog 21 #[.agg #[.slice a len cap], .agg #[.slice a' len' cap']] w fun e w' => e = .returned (.bool (isRow ps qs)) ∧ Below w.heap.size w w' := by
  have hlen : len ≤ maxLen := Nat.le_trans hR.2.1 hR.2.2.1
  have hlen' := hlen
  have hp := hR.1
  have hq := hR'.1
  unfold maxLen at hlen
  by_cases c1 : len = len'
  case neg =>
    have c2 : ((len : Int) != (len' : Int)) = true := by rw [bne_iff_ne]; omega
    have hno : Hid (isRow ps qs = false) := by show _ = _; unfold isRow; simp [show ¬ ps.length = qs.length by omega]
    go_enter Try.func21, Try.ntmps21
    go_wp2
    go_ret
    exact ⟨by rw [hno.out]; rfl, (by repeat (first | exact Below.refl _ _ | refine Below.drew ?_ | refine old_alloc ?_ _ | refine old_trans ?_ (by assumption)))⟩
  subst c1
  have hr : Hid (isRow ps qs = allI len (isAt ps qs)) := by show _ = _; unfold isRow; simp [hp, hq]
  have hz : Hid (decide (firstI len (fun k => !isAt ps qs k) < 0) = isRow ps qs) := (firstI_all (fun k _ => rfl)).trans hr.out.symm
  have b2 : Cel1 ((w.alloc (.cells #[.slice a len cap] 29)).alloc (.cells #[.slice a' len cap'] 29)) w.heap.size (.slice a len cap) := (Cel1.made w _ rfl _ _).alloc _
  have b3 : Cel1 ((w.alloc (.cells #[.slice a len cap] 29)).alloc (.cells #[.slice a' len cap'] 29)) (w.heap.size + 1) (.slice a' len cap') := Cel1.made _ _ (by simp) _ _
  have hb3 : Below w.heap.size w ((w.alloc (.cells #[.slice a len cap] 29)).alloc (.cells #[.slice a' len cap'] 29)) := ((Below.refl _ w).alloc (Nat.le_refl _) _).alloc (by simp) _
  have hR3 := hR.old hb3
  have hR3' := hR'.old hb3
  have H := hd (coordThat 53 #[.pointer (some ⟨w.heap.size, 0, none⟩), .pointer (some ⟨w.heap.size + 1, 0, none⟩)] a len cap hlen' (fun k => !isAt ps qs k) _ (enters_of Try.func53 (by kernel_rfl) rfl)
    (fun k W hk hW => iBoxIs1 a a' len cap cap' ps qs w.heap.size (w.heap.size + 1) k hk W (hR3.old hW) (hR3'.old hW) (b2.later hW).1 (b3.later hW).1))
  generalize firstI len _ = r at *
  go_enter Try.func21, Try.ntmps21
  go_wp2_with (go_at_call 48; refine H.out.mono ?_; rintro e w1 ⟨rfl, hb1⟩)
  go_ret
  exact ⟨by rw [← hz.out]; rfl, (by repeat (first | exact Below.refl _ _ | refine Below.drew ?_ | refine old_alloc ?_ _ | refine old_trans ?_ (by assumption)))⟩
end Go.Proofs.Ytmeijbiohbpgpaa
