/- PairDec of the program and of the specification, at every width and every text: the pair around the fraction that the literal stands for. Conditions, of the program: the library's tables and its handle of errors lie as their texts lay them; of the specification: the text's length. Nothing that was there is written. -/
import Derived.Test.YtbecopdoibonkaaGreatDoorPK27
import Derived.Test.YtbecopdoibonkaaGreatDoorPK34
namespace Go.Proofs.YtbecopdoibonkaaGreatDoor
open Go.RowKit
set_option linter.unusedVariables false
set_option maxRecDepth 100000

def pdOk (wd : Int) (s : ByteArray) : Bool := if dcOk s then pfOk wd (fS true false (dcA s)) (fT true (dcA s) (dcB s)) (fU true (dcA s) (dcB s)) else false
def pdL (wd : Int) (s : ByteArray) : Int := if dcOk s then pfL wd (fS true false (dcA s)) (fT true (dcA s) (dcB s)) (fU true (dcA s) (dcB s)) else 0
def pdH (wd : Int) (s : ByteArray) : Int := if dcOk s then pfH wd (fS true false (dcA s)) (fT true (dcA s) (dcB s)) (fU true (dcA s) (dcB s)) else 0
set_option maxRecDepth 100000 in
set_option maxHeartbeats 4000000 in
theorem iPairDec (wd : Int) (s : ByteArray) (w : World) (hT : Tab w) (hE : ET w) :
    Calls Tryz.prog 5 #[.int .i64 wd, .string s] w fun e w' => e = .returned (.tuple #[.agg #[.int .i64 (pdL wd s), .int .i64 (pdH wd s)], .bool (pdOk wd s)]) ∧ Below w.heap.size w w' := by
  have e0 : Below w.heap.size w (w.alloc (.cells #[.int .i64 0, .int .i64 0] 23)) := old_alloc (Below.refl _ _) _
  have k4 : (w.alloc (.cells #[.int .i64 0, .int .i64 0] 23)).cell? ⟨w.heap.size, 0, none⟩ = some (.int .i64 0) := by simp
  have k5 : (w.alloc (.cells #[.int .i64 0, .int .i64 0] 23)).cell? ⟨w.heap.size, 1, none⟩ = some (.int .i64 0) := by simp
  have f4 : (w.alloc (.cells #[.int .i64 0, .int .i64 0] 23)).frozen? ⟨w.heap.size, 0, none⟩ = false := by simp
  have f5 : (w.alloc (.cells #[.int .i64 0, .int .i64 0] 23)).frozen? ⟨w.heap.size, 1, none⟩ = false := by simp
  have hz : w.heap.size < (w.alloc (.cells #[.int .i64 0, .int .i64 0] 23)).heap.size := by simp
  have DF := hd (fun w' (h : Below w.heap.size w w') => iDecFrac s w' (hT.old h) (hE.old h))
  cases hok : dcOk s
  · have q1 : Hid (pdL wd s = 0 ∧ pdH wd s = 0 ∧ pdOk wd s = false) := by show _ ∧ _; unfold pdL pdH pdOk; rw [hok]; exact ⟨rfl, rfl, rfl⟩
    rw [hok] at DF
    rw [q1.out.1, q1.out.2.1, q1.out.2.2]
    clear hok q1
    go_enter Tryz.func5, Tryz.ntmps5
    generalize hW0 : (w.alloc (.cells #[.int .i64 0, .int .i64 0] 23)) = W0 at *
    go_wp2_with fail
    clear hW0
    refine (DF.out _ e0).mono ?_
    rintro e w1 ⟨⟨av, cv, av', cv', rfl, OA, OB, sp⟩, hb1⟩
    have hB1 := old_trans e0 hb1
    replace k4 := cell_later hb1 k4
    replace k5 := cell_later hb1 k5
    replace f4 := (hb1.frozen (p := ⟨w.heap.size, 0, none⟩) hz).trans f4
    replace f5 := (hb1.frozen (p := ⟨w.heap.size, 1, none⟩) hz).trans f5
    replace hz := Nat.lt_of_lt_of_le hz hb1.size
    have hal : Below w1.heap.size w1 (w1.alloc (.cells #[.bool (fS false false (dcA s)), .slice av (fT false (dcA s) (dcB s)).length cv, .slice av' (fU false (dcA s) (dcB s)).length cv'] 30)) := old_alloc (Below.refl _ _) _
    replace hB1 := old_trans hB1 hal
    replace k4 := cell_later hal k4
    replace k5 := cell_later hal k5
    replace f4 := (hal.frozen (p := ⟨w.heap.size, 0, none⟩) hz).trans f4
    replace f5 := (hal.frozen (p := ⟨w.heap.size, 1, none⟩) hz).trans f5
    replace hz := Nat.lt_of_lt_of_le hz hal.size
    clear hal hb1 OA OB sp
    go_wp2
    refine bodyPost_ret (v := .tuple #[.agg #[.int .i64 0, .int .i64 0], .bool false]) ?_ rfl ⟨rfl, below_set (below_set hB1 (by omega) _) (by omega) _⟩
    simp [results, Tryz.results5, go_sem, k4, k5]
  · have q1 : Hid (pdL wd s = pfL wd (fS true false (dcA s)) (fT true (dcA s) (dcB s)) (fU true (dcA s) (dcB s)) ∧ pdH wd s = pfH wd (fS true false (dcA s)) (fT true (dcA s) (dcB s)) (fU true (dcA s) (dcB s)) ∧ pdOk wd s = pfOk wd (fS true false (dcA s)) (fT true (dcA s) (dcB s)) (fU true (dcA s) (dcB s))) := by show _ ∧ _; unfold pdL pdH pdOk; rw [hok]; exact ⟨rfl, rfl, rfl⟩
    rw [hok] at DF
    have PF := hd (fun w' (h : Below w.heap.size w w') av cv av' cv' (oa : OI w' w.heap.size av cv (fT true (dcA s) (dcB s))) (ob : OI w' w.heap.size av' cv' (fU true (dcA s) (dcB s))) => iPairFrac wd (fS true false (dcA s)) av av' _ _ cv cv' _ _ w' oa.inI ob.inI (hT.old h) (hE.old h))
    rw [q1.out.1, q1.out.2.1, q1.out.2.2]
    clear hok q1
    generalize pfL wd (fS true false (dcA s)) (fT true (dcA s) (dcB s)) (fU true (dcA s) (dcB s)) = lo at *
    generalize pfH wd (fS true false (dcA s)) (fT true (dcA s) (dcB s)) (fU true (dcA s) (dcB s)) = hi at *
    generalize pfOk wd (fS true false (dcA s)) (fT true (dcA s) (dcB s)) (fU true (dcA s) (dcB s)) = ok at *
    go_enter Tryz.func5, Tryz.ntmps5
    generalize hW0 : (w.alloc (.cells #[.int .i64 0, .int .i64 0] 23)) = W0 at *
    go_wp2_with fail
    clear hW0
    refine (DF.out _ e0).mono ?_
    rintro e w1 ⟨⟨av, cv, av', cv', rfl, OA, OB, sp⟩, hb1⟩
    have hB1 := old_trans e0 hb1
    replace k4 := cell_later hb1 k4
    replace k5 := cell_later hb1 k5
    replace f4 := (hb1.frozen (p := ⟨w.heap.size, 0, none⟩) hz).trans f4
    replace f5 := (hb1.frozen (p := ⟨w.heap.size, 1, none⟩) hz).trans f5
    replace hz := Nat.lt_of_lt_of_le hz hb1.size
    have hal : Below w1.heap.size w1 (w1.alloc (.cells #[.bool (fS true false (dcA s)), .slice av (fT true (dcA s) (dcB s)).length cv, .slice av' (fU true (dcA s) (dcB s)).length cv'] 30)) := old_alloc (Below.refl _ _) _
    have c0 : (w1.alloc (.cells #[.bool (fS true false (dcA s)), .slice av (fT true (dcA s) (dcB s)).length cv, .slice av' (fU true (dcA s) (dcB s)).length cv'] 30)).cell? ⟨w1.heap.size, 0, none⟩ = some (.bool (fS true false (dcA s))) := by simp
    have c1 : (w1.alloc (.cells #[.bool (fS true false (dcA s)), .slice av (fT true (dcA s) (dcB s)).length cv, .slice av' (fU true (dcA s) (dcB s)).length cv'] 30)).cell? ⟨w1.heap.size, 1, none⟩ = some (.slice av (fT true (dcA s) (dcB s)).length cv) := by simp
    have c2 : (w1.alloc (.cells #[.bool (fS true false (dcA s)), .slice av (fT true (dcA s) (dcB s)).length cv, .slice av' (fU true (dcA s) (dcB s)).length cv'] 30)).cell? ⟨w1.heap.size, 2, none⟩ = some (.slice av' (fU true (dcA s) (dcB s)).length cv') := by simp
    replace OA := OI.mono (OA.later hal) e0.size
    replace OB := OI.mono (OB.later hal) e0.size
    replace hB1 := old_trans hB1 hal
    replace k4 := cell_later hal k4
    replace k5 := cell_later hal k5
    replace f4 := (hal.frozen (p := ⟨w.heap.size, 0, none⟩) hz).trans f4
    replace f5 := (hal.frozen (p := ⟨w.heap.size, 1, none⟩) hz).trans f5
    replace hz := Nat.lt_of_lt_of_le hz hal.size
    clear hal hb1 sp
    go_wp2_with fail
    refine (PF.out _ hB1 _ _ _ _ OA OB).mono ?_
    rintro e w2 ⟨rfl, hb2⟩
    replace hB1 := old_trans hB1 hb2
    replace k4 := cell_later hb2 k4
    replace k5 := cell_later hb2 k5
    replace f4 := (hb2.frozen (p := ⟨w.heap.size, 0, none⟩) hz).trans f4
    replace f5 := (hb2.frozen (p := ⟨w.heap.size, 1, none⟩) hz).trans f5
    replace hz := Nat.lt_of_lt_of_le hz hb2.size
    clear hb2 OA OB c0 c1 c2
    go_wp2
    refine bodyPost_ret (v := .tuple #[.agg #[.int .i64 lo, .int .i64 hi], .bool ok]) ?_ rfl ⟨rfl, below_set (below_set hB1 (by omega) _) (by omega) _⟩
    simp [results, Tryz.results5, go_sem, k4, k5]
set_option maxRecDepth 100000 in
set_option maxHeartbeats 4000000 in
theorem sPairDec (wd : Int) (s : ByteArray) (w : World) (hs : s.size ≤ maxLen) :
    Calls Tryz.prog 4 #[.int .i64 wd, .string s] w fun e w' => e = .returned (.tuple #[.agg #[.int .i64 (pdL wd s), .int .i64 (pdH wd s)], .bool (pdOk wd s)]) ∧ Below w.heap.size w w' := by
  have e0 : Below w.heap.size w (w.alloc (.cells #[.int .i64 0, .int .i64 0] 23)) := old_alloc (Below.refl _ _) _
  have k4 : (w.alloc (.cells #[.int .i64 0, .int .i64 0] 23)).cell? ⟨w.heap.size, 0, none⟩ = some (.int .i64 0) := by simp
  have k5 : (w.alloc (.cells #[.int .i64 0, .int .i64 0] 23)).cell? ⟨w.heap.size, 1, none⟩ = some (.int .i64 0) := by simp
  have f4 : (w.alloc (.cells #[.int .i64 0, .int .i64 0] 23)).frozen? ⟨w.heap.size, 0, none⟩ = false := by simp
  have f5 : (w.alloc (.cells #[.int .i64 0, .int .i64 0] 23)).frozen? ⟨w.heap.size, 1, none⟩ = false := by simp
  have hz : w.heap.size < (w.alloc (.cells #[.int .i64 0, .int .i64 0] 23)).heap.size := by simp
  have DF := hd (fun w' (h : Below w.heap.size w w') => sDecFrac s hs w')
  cases hok : dcOk s
  · have q1 : Hid (pdL wd s = 0 ∧ pdH wd s = 0 ∧ pdOk wd s = false) := by show _ ∧ _; unfold pdL pdH pdOk; rw [hok]; exact ⟨rfl, rfl, rfl⟩
    rw [hok] at DF
    rw [q1.out.1, q1.out.2.1, q1.out.2.2]
    clear hok q1
    go_enter Tryz.func4, Tryz.ntmps4
    generalize hW0 : (w.alloc (.cells #[.int .i64 0, .int .i64 0] 23)) = W0 at *
    go_wp2_with fail
    clear hW0
    refine (DF.out _ e0).mono ?_
    rintro e w1 ⟨⟨av, cv, av', cv', rfl, OA, OB, sp⟩, hb1⟩
    have hB1 := old_trans e0 hb1
    replace k4 := cell_later hb1 k4
    replace k5 := cell_later hb1 k5
    replace f4 := (hb1.frozen (p := ⟨w.heap.size, 0, none⟩) hz).trans f4
    replace f5 := (hb1.frozen (p := ⟨w.heap.size, 1, none⟩) hz).trans f5
    replace hz := Nat.lt_of_lt_of_le hz hb1.size
    have hal : Below w1.heap.size w1 (w1.alloc (.cells #[.bool (fS false false (dcA s)), .slice av (fT false (dcA s) (dcB s)).length cv, .slice av' (fU false (dcA s) (dcB s)).length cv'] 30)) := old_alloc (Below.refl _ _) _
    replace hB1 := old_trans hB1 hal
    replace k4 := cell_later hal k4
    replace k5 := cell_later hal k5
    replace f4 := (hal.frozen (p := ⟨w.heap.size, 0, none⟩) hz).trans f4
    replace f5 := (hal.frozen (p := ⟨w.heap.size, 1, none⟩) hz).trans f5
    replace hz := Nat.lt_of_lt_of_le hz hal.size
    clear hal hb1 OA OB sp
    go_wp2
    refine bodyPost_ret (v := .tuple #[.agg #[.int .i64 0, .int .i64 0], .bool false]) ?_ rfl ⟨rfl, below_set (below_set hB1 (by omega) _) (by omega) _⟩
    simp [results, Tryz.results4, go_sem, k4, k5]
  · have q1 : Hid (pdL wd s = pfL wd (fS true false (dcA s)) (fT true (dcA s) (dcB s)) (fU true (dcA s) (dcB s)) ∧ pdH wd s = pfH wd (fS true false (dcA s)) (fT true (dcA s) (dcB s)) (fU true (dcA s) (dcB s)) ∧ pdOk wd s = pfOk wd (fS true false (dcA s)) (fT true (dcA s) (dcB s)) (fU true (dcA s) (dcB s))) := by show _ ∧ _; unfold pdL pdH pdOk; rw [hok]; exact ⟨rfl, rfl, rfl⟩
    rw [hok] at DF
    have PF := hd (fun w' (h : Below w.heap.size w w') av cv av' cv' (oa : OI w' w.heap.size av cv (fT true (dcA s) (dcB s))) (ob : OI w' w.heap.size av' cv' (fU true (dcA s) (dcB s))) => sPairFrac wd (fS true false (dcA s)) av av' _ _ cv cv' _ _ w' oa.inI ob.inI)
    rw [q1.out.1, q1.out.2.1, q1.out.2.2]
    clear hok q1
    generalize pfL wd (fS true false (dcA s)) (fT true (dcA s) (dcB s)) (fU true (dcA s) (dcB s)) = lo at *
    generalize pfH wd (fS true false (dcA s)) (fT true (dcA s) (dcB s)) (fU true (dcA s) (dcB s)) = hi at *
    generalize pfOk wd (fS true false (dcA s)) (fT true (dcA s) (dcB s)) (fU true (dcA s) (dcB s)) = ok at *
    go_enter Tryz.func4, Tryz.ntmps4
    generalize hW0 : (w.alloc (.cells #[.int .i64 0, .int .i64 0] 23)) = W0 at *
    go_wp2_with fail
    clear hW0
    refine (DF.out _ e0).mono ?_
    rintro e w1 ⟨⟨av, cv, av', cv', rfl, OA, OB, sp⟩, hb1⟩
    have hB1 := old_trans e0 hb1
    replace k4 := cell_later hb1 k4
    replace k5 := cell_later hb1 k5
    replace f4 := (hb1.frozen (p := ⟨w.heap.size, 0, none⟩) hz).trans f4
    replace f5 := (hb1.frozen (p := ⟨w.heap.size, 1, none⟩) hz).trans f5
    replace hz := Nat.lt_of_lt_of_le hz hb1.size
    have hal : Below w1.heap.size w1 (w1.alloc (.cells #[.bool (fS true false (dcA s)), .slice av (fT true (dcA s) (dcB s)).length cv, .slice av' (fU true (dcA s) (dcB s)).length cv'] 30)) := old_alloc (Below.refl _ _) _
    have c0 : (w1.alloc (.cells #[.bool (fS true false (dcA s)), .slice av (fT true (dcA s) (dcB s)).length cv, .slice av' (fU true (dcA s) (dcB s)).length cv'] 30)).cell? ⟨w1.heap.size, 0, none⟩ = some (.bool (fS true false (dcA s))) := by simp
    have c1 : (w1.alloc (.cells #[.bool (fS true false (dcA s)), .slice av (fT true (dcA s) (dcB s)).length cv, .slice av' (fU true (dcA s) (dcB s)).length cv'] 30)).cell? ⟨w1.heap.size, 1, none⟩ = some (.slice av (fT true (dcA s) (dcB s)).length cv) := by simp
    have c2 : (w1.alloc (.cells #[.bool (fS true false (dcA s)), .slice av (fT true (dcA s) (dcB s)).length cv, .slice av' (fU true (dcA s) (dcB s)).length cv'] 30)).cell? ⟨w1.heap.size, 2, none⟩ = some (.slice av' (fU true (dcA s) (dcB s)).length cv') := by simp
    replace OA := OI.mono (OA.later hal) e0.size
    replace OB := OI.mono (OB.later hal) e0.size
    replace hB1 := old_trans hB1 hal
    replace k4 := cell_later hal k4
    replace k5 := cell_later hal k5
    replace f4 := (hal.frozen (p := ⟨w.heap.size, 0, none⟩) hz).trans f4
    replace f5 := (hal.frozen (p := ⟨w.heap.size, 1, none⟩) hz).trans f5
    replace hz := Nat.lt_of_lt_of_le hz hal.size
    clear hal hb1 sp
    go_wp2_with fail
    refine (PF.out _ hB1 _ _ _ _ OA OB).mono ?_
    rintro e w2 ⟨rfl, hb2⟩
    replace hB1 := old_trans hB1 hb2
    replace k4 := cell_later hb2 k4
    replace k5 := cell_later hb2 k5
    replace f4 := (hb2.frozen (p := ⟨w.heap.size, 0, none⟩) hz).trans f4
    replace f5 := (hb2.frozen (p := ⟨w.heap.size, 1, none⟩) hz).trans f5
    replace hz := Nat.lt_of_lt_of_le hz hb2.size
    clear hb2 OA OB c0 c1 c2
    go_wp2
    refine bodyPost_ret (v := .tuple #[.agg #[.int .i64 lo, .int .i64 hi], .bool ok]) ?_ rfl ⟨rfl, below_set (below_set hB1 (by omega) _) (by omega) _⟩
    simp [results, Tryz.results4, go_sem, k4, k5]
theorem eqPairS (x y : Int) (w : World) :
    Calls Tryz.prog 6 #[.agg #[.int .i64 x, .int .i64 y], .agg #[.int .i64 x, .int .i64 y]] w fun e w' => e = .returned (.bool true) ∧ Below w.heap.size w w' := by
  go_enter Tryz.func6, Tryz.ntmps6
  go_wp2
  go_ret
  exact ⟨rfl, (by repeat (first | with_reducible exact Below.refl _ _ | with_reducible refine Below.drew ?_ | ((with_reducible refine Below.setCell ?_ ?_ _); rotate_left; (focus (first | (simp; done) | omega | (simp; omega)))) | with_reducible refine old_alloc ?_ _ | with_reducible refine old_trans ?_ (by with_reducible assumption)))⟩
end Go.Proofs.YtbecopdoibonkaaGreatDoor
