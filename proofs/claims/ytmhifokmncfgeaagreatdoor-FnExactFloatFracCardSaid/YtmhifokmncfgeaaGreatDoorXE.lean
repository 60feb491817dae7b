/- A fraction times a power of two as a fraction alone, by the program; nothing that was there is written. -/
import Derived.Test.YtmhifokmncfgeaaGreatDoorXD
import Derived.Test.YtmhifokmncfgeaaGreatDoorFK
namespace Go.Proofs.YtmhifokmncfgeaaGreatDoor
open Go.RowKit
set_option linter.unusedVariables false
set_option maxRecDepth 100000

theorem pow_16 (P q : Nat) : 65536 ^ P * 2 ^ q = 2 ^ (16 * P + q) := by
  rw [Nat.pow_add, Nat.pow_mul]
theorem iUpN (a : Option Addr) (cap o k : Nat) (hk : k ≤ 2000) (ho : (natL o).length ≤ 1048576) (w : World) (hR : InI w a (natL o).length cap (natL o)) :
    Calls Tryz.prog 88 #[.slice a (natL o).length cap, .int .i64 (k : Int)] w fun e w' => (∃ av cv, e = .returned (.slice av (natL (2 ^ k * o)).length cv) ∧ OI w' w.heap.size av cv (natL (2 ^ k * o))) ∧ Below w.heap.size w w' := by
  have h := iUp a (natL o).length cap (natL o) (k / 16) (k % 16) w hR (digs_natL o) (by omega) (by omega) ho
  have e1 : (16 * ((k / 16 : Nat) : Int) + ((k % 16 : Nat) : Int)) = (k : Int) := by omega
  have e2 : 65536 ^ (k / 16) * 2 ^ (k % 16) * val (natL o) = 2 ^ k * o := by
    rw [pow_16, val_natL, show 16 * (k / 16) + k % 16 = k by omega]
  rw [e1, e2] at h
  exact h
theorem resUns {W : World} {b : Nat} {v0 v1 v2 : Value} {tmps : Array Value} (h : Cel3 W b v0 v1 v2) (ht : tmps[2]? = some (.pointer (some ⟨b, 0, none⟩))) : (results Tryz.f46 tmps).run Tryz.prog W = .ok (.agg #[v0, v1, v2]) W := by
  obtain ⟨-, ⟨a0, a1, a2⟩, -⟩ := h
  simp [results, Tryz.results46, go_sem, a0, a1, a2, ht]
theorem natL_small {o : Nat} (h : o < 9007199254740992) : (natL o).length ≤ 4 := by
  have e : (65536 : Nat) ^ 4 = 18446744073709551616 := by decide
  exact natL_len.2 (by omega)
set_option maxHeartbeats 4000000 in
theorem iUnscaled (bl : Bool) (a b : Option Addr) (ca cb o : Nat) (p : Int) (w : World) (hA : InI w a (natL o).length ca (natL o)) (hB : InI w b (natL 1).length cb (natL 1)) (ho : o < 9007199254740992) (hp : -2000 ≤ p ∧ p ≤ 2000) :
    Calls Tryz.prog 46 #[.agg #[.bool bl, .slice a (natL o).length ca, .slice b (natL 1).length cb, .int .i64 p]] w fun e w' => (∃ av cv bv dv, e = .returned (.agg #[.bool bl, .slice av (natL (vA o p)).length cv, .slice bv (natL (vB p)).length dv]) ∧ InI w' av (natL (vA o p)).length cv (natL (vA o p)) ∧ InI w' bv (natL (vB p)).length dv (natL (vB p))) ∧ Below w.heap.size w w' := by
  have hlo := natL_small ho
  have hl1 := natL_small (o := 1) (by omega)
  have e3 : Below w.heap.size w (((w.alloc (.cells #[.bool bl, .slice a (natL o).length ca, .slice b (natL 1).length cb, .int .i64 p] 84)).alloc (.cells #[.bool false, .slice none 0 0, .slice none 0 0] 82)).alloc (.cells #[.bool bl, .slice a (natL o).length ca, .slice b (natL 1).length cb] 82)) := (by repeat (first | exact Below.refl _ _ | refine Below.drew ?_ | refine old_alloc ?_ _ | refine old_trans ?_ (by assumption)))
  have K2 := (Cel3.new (w.alloc (.cells #[.bool bl, .slice a (natL o).length ca, .slice b (natL 1).length cb, .int .i64 p] 84)) (.bool false) (.slice none 0 0) (.slice none 0 0) 82).old (old_alloc (Below.refl _ _) (.cells #[.bool bl, .slice a (natL o).length ca, .slice b (natL 1).length cb] 82))
  have K3 := Cel3.new ((w.alloc (.cells #[.bool bl, .slice a (natL o).length ca, .slice b (natL 1).length cb, .int .i64 p] 84)).alloc (.cells #[.bool false, .slice none 0 0, .slice none 0 0] 82)) (.bool bl) (.slice a (natL o).length ca) (.slice b (natL 1).length cb) 82
  simp only [World.size_alloc] at K2 K3
  by_cases c : p < 0
  · have U1 := hd True.intro
    have hA0 : vA o p = o := by unfold vA; rw [if_neg (by omega)]
    have e2 : vB p = 2 ^ (-p).toNat * 1 := by unfold vB; rw [if_neg (by omega), Nat.mul_one]
    have U2 := fun w h => iUpN b cb 1 (-p).toNat (by omega) (by omega) w h
    rw [← e2, Int.toNat_of_nonneg (by omega)] at U2
    replace U2 := hd U2
    clear e2
    go_enter Tryz.func46, Tryz.ntmps46
    go_wp2_with fail
    refine (U2.out _ (hB.old e3)).mono ?_
    rintro e w1 ⟨⟨av, cv, rfl, O⟩, hb1⟩
    have K := K2.old hb1
    have M := K3.old hb1
    have hB1 := old_trans e3 hb1
    have M' := M.set2 (.slice av (natL (vB p)).length cv)
    have K' := (K.far (c := w.heap.size + 1 + 1) (i := 2) (v := .slice av (natL (vB p)).length cv) (by omega)).setAll (.bool bl) (.slice a (natL o).length ca) (.slice av (natL (vB p)).length cv)
    have o1 := oi_set3 (b := w.heap.size + 1) (v0 := .bool bl) (v1 := .slice a (natL o).length ca) (v2 := .slice av (natL (vB p)).length cv) (oi_setFar (b := w.heap.size + 1 + 1) (i := 2) (v := .slice av (natL (vB p)).length cv) O (by simp)) (by simp)
    have hBF : Below w.heap.size w ((((w1.setCell ⟨w.heap.size + 1 + 1, 2, none⟩ (.slice av (natL (vB p)).length cv)).setCell ⟨w.heap.size + 1, 0, none⟩ (.bool bl)).setCell ⟨w.heap.size + 1, 1, none⟩ (.slice a (natL o).length ca)).setCell ⟨w.heap.size + 1, 2, none⟩ (.slice av (natL (vB p)).length cv)) := below_set (below_set (below_set (below_set hB1 (show w.heap.size ≤ w.heap.size + 1 + 1 by omega) _) (show w.heap.size ≤ w.heap.size + 1 by omega) _) (show w.heap.size ≤ w.heap.size + 1 by omega) _) (show w.heap.size ≤ w.heap.size + 1 by omega) _
    clear O hb1 U1 U2
    obtain ⟨m1, ⟨m2, m3, m4⟩, m5, m6, m7⟩ := id M
    obtain ⟨k1, ⟨k2, k3, k4⟩, k5, k6, k7⟩ := id K
    obtain ⟨n1, ⟨n2, n3, n4⟩, n5, n6, n7⟩ := id M'
    have z1 : w.heap.size + 1 ≠ w.heap.size + 1 + 1 := by omega
    have z2 : w.heap.size + 1 + 1 ≠ w.heap.size + 1 := by omega
    go_wp2
    exact bodyPost_ret (resUns K' rfl) rfl ⟨⟨a, ca, av, cv, by rw [hA0], by rw [hA0]; exact hA.old hBF, o1.inI⟩, hBF⟩
  · have U2 := hd True.intro
    have hB0 : vB p = 1 := by unfold vB; rw [if_pos (by omega)]
    have e2 : vA o p = 2 ^ p.toNat * o := by unfold vA; rw [if_pos (by omega)]
    have U1 := fun w h => iUpN a ca o p.toNat (by omega) (by omega) w h
    rw [← e2, Int.toNat_of_nonneg (by omega)] at U1
    replace U1 := hd U1
    clear e2
    go_enter Tryz.func46, Tryz.ntmps46
    go_wp2_with fail
    refine (U1.out _ (hA.old e3)).mono ?_
    rintro e w1 ⟨⟨av, cv, rfl, O⟩, hb1⟩
    have K := K2.old hb1
    have M := K3.old hb1
    have hB1 := old_trans e3 hb1
    have M' := M.set1 (.slice av (natL (vA o p)).length cv)
    have K' := (K.far (c := w.heap.size + 1 + 1) (i := 1) (v := .slice av (natL (vA o p)).length cv) (by omega)).setAll (.bool bl) (.slice av (natL (vA o p)).length cv) (.slice b (natL 1).length cb)
    have o1 := oi_set3 (b := w.heap.size + 1) (v0 := .bool bl) (v1 := .slice av (natL (vA o p)).length cv) (v2 := .slice b (natL 1).length cb) (oi_setFar (b := w.heap.size + 1 + 1) (i := 1) (v := .slice av (natL (vA o p)).length cv) O (by simp)) (by simp)
    have hBF : Below w.heap.size w ((((w1.setCell ⟨w.heap.size + 1 + 1, 1, none⟩ (.slice av (natL (vA o p)).length cv)).setCell ⟨w.heap.size + 1, 0, none⟩ (.bool bl)).setCell ⟨w.heap.size + 1, 1, none⟩ (.slice av (natL (vA o p)).length cv)).setCell ⟨w.heap.size + 1, 2, none⟩ (.slice b (natL 1).length cb)) := below_set (below_set (below_set (below_set hB1 (show w.heap.size ≤ w.heap.size + 1 + 1 by omega) _) (show w.heap.size ≤ w.heap.size + 1 by omega) _) (show w.heap.size ≤ w.heap.size + 1 by omega) _) (show w.heap.size ≤ w.heap.size + 1 by omega) _
    clear O hb1 U1 U2
    obtain ⟨m1, ⟨m2, m3, m4⟩, m5, m6, m7⟩ := id M
    obtain ⟨k1, ⟨k2, k3, k4⟩, k5, k6, k7⟩ := id K
    obtain ⟨n1, ⟨n2, n3, n4⟩, n5, n6, n7⟩ := id M'
    have z1 : w.heap.size + 1 ≠ w.heap.size + 1 + 1 := by omega
    have z2 : w.heap.size + 1 + 1 ≠ w.heap.size + 1 := by omega
    go_wp2
    exact bodyPost_ret (resUns K' rfl) rfl ⟨⟨av, cv, b, cb, by rw [hB0], o1.inI, by rw [hB0]; exact hB.old hBF⟩, hBF⟩
end Go.Proofs.YtmhifokmncfgeaaGreatDoor
