/- The draw of a pair that is one. Nothing that was there is written. -/
import Derived.Test.YtmllcpcbaojipaaDoorPK06
import Derived.Deep.DeepCutAuto
import Derived.Test.YtmllcpcbaojipaaDoorPK08
import Derived.Test.YtmllcpcbaojipaaDoorPK09
import Derived.Test.YtmllcpcbaojipaaDoorPK17
import Derived.Test.YtmllcpcbaojipaaDoorPK21
import Derived.Test.YtmllcpcbaojipaaDoorPK01
import Derived.Test.YtmllcpcbaojipaaDoorPK04
import Derived.Deep.QuietTactic
import Derived.BigQuiet
namespace Go.Proofs.YtmllcpcbaojipaaDoor
open Go.RowKit
set_option linter.unusedVariables false
set_option maxRecDepth 100000

theorem Cel2.but {w w' : World} {b rb : Nat} {x y : Value} (h : Cel2 w b x y) (k : But rb w w') (hne : b ≠ rb) : Cel2 w' b x y := by
  obtain ⟨h1, h2, h3, h4, h5⟩ := h
  have e := k.block b h5 hne
  exact ⟨(World.cell?_of_block (a := ⟨b, 0, none⟩) e).trans h1, (World.cell?_of_block (a := ⟨b, 1, none⟩) e).trans h2, (World.frozen?_of_block (a := ⟨b, 0, none⟩) e).trans h3, (World.frozen?_of_block (a := ⟨b, 1, none⟩) e).trans h4, Nat.lt_of_lt_of_le h5 k.size⟩

end Go.Proofs.YtmllcpcbaojipaaDoor

/- The draw of a pair within tight bounds, and of one within another. Nothing that was there is written. -/
namespace Go.Proofs.YtmllcpcbaojipaaDoor
open Go.RowKit
set_option linter.unusedVariables false
set_option maxRecDepth 100000

set_option maxHeartbeats 4000000 in
theorem goodT_k (rb k : Nat) (wd : Int) (w : World) (h : Rk w rb (k + 174)) :
    Calls Tryd.prog 49 #[.pointer (some ⟨rb, 0, none⟩), .int .i64 wd] w fun e w' => (∃ a b : Int, ((-9218868437227406400 ≤ a ∧ a ≤ 9218868437227406400) ∧ -9218868437227406400 ≤ b ∧ b ≤ 9218868437227406400) ∧ e = .returned (.agg #[.int .i64 a, .int .i64 b])) ∧ Rk w' rb k ∧ But rb w w' := by
  have hlt := h.lt
  have hne : w.heap.size ≠ rb := by omega
  have T : Cel2 (w.alloc (.cells #[.int .i64 0, .int .i64 0] 40)) w.heap.size (.int .i64 0) (.int .i64 0) := Cel2.made w _ rfl _ _ _
  have hA : But rb w (w.alloc (.cells #[.int .i64 0, .int .i64 0] 40)) := (But.refl _ _).alloc _
  go_enter Tryd.func49, Tryd.ntmps49
  go_wp2_with fail
  refine (pairT_k rb (k + 145) wd _ (h.alloc _)).mono ?_
  rintro e w1 ⟨⟨a, b, hab, rfl⟩, hR1, hB1⟩
  replace T := T.but hB1 hne
  have hB : But rb w w1 := hA.trans hB1
  clear h hA hB1
  have hs1 : w.heap.size < w1.heap.size := T.2.2.2.2
  have N : Cel2 (w1.alloc (.cells #[.int .i64 a, .int .i64 b] 40)) w1.heap.size (.int .i64 a) (.int .i64 b) := Cel2.made _ _ rfl _ _ _
  have hR := hR1.alloc (.cells #[.int .i64 a, .int .i64 b] 40)
  have hBB := hB.alloc (.cells #[.int .i64 a, .int .i64 b] 40)
  replace T := T.alloc (.cells #[.int .i64 a, .int .i64 b] 40)
  have hlt1 := hR1.lt
  go_wp2
  go_loopw [6] (fun i wr => ∃ (j : Nat) (x y : Int), j ≤ 5 ∧ i = .int .i64 j ∧ ((-9218868437227406400 ≤ x ∧ x ≤ 9218868437227406400) ∧ -9218868437227406400 ≤ y ∧ y ≤ 9218868437227406400) ∧ Cel2 wr w1.heap.size (.int .i64 x) (.int .i64 y) ∧ Cel2 wr w.heap.size (.int .i64 0) (.int .i64 0) ∧ Rk wr rb (k + 29 * (5 - j)) ∧ But rb w wr) (fun i _ => 5 - (intOf i).toNat)
  case atStart => exact ⟨0, a, b, by omega, rfl, hab, N, T, hR, hBB⟩
  case round =>
    clear N T hR hBB hB hR1
    obtain ⟨j, x, y, hj, rfl, hxy, N, T, hR, hB⟩ := hrel
    obtain ⟨n0, n1, n2, n3, n4⟩ := id N
    obtain ⟨t0, t1, t2, t3, t4⟩ := id T
    have hltr := hR.lt
    by_cases hlt5 : j < 5
    · have E := hd (sPairOk wd x y)
      cases hok : pokB wd x y
      · rw [hok] at E
        clear hok
        go_wp2_with fail
        refine (E.out _).mono ?_
        rintro e w2 ⟨rfl, hb2⟩
        replace hR := hR.old hb2
        replace hB := hB.trans (But.of hb2)
        replace N := N.later hb2
        replace T := T.later hb2
        go_wp2_with fail
        refine (pairT_k rb (k + 29 * (5 - (j + 1))) wd _ (hR.mono (by omega))).mono ?_
        rintro e w3 ⟨⟨u, v, huv, rfl⟩, hR3, hB3⟩
        replace N := N.but hB3 (by omega)
        replace T := T.but hB3 hne
        replace hB := hB.trans hB3
        clear n0 n1 n2 n3 n4 t0 t1 t2 t3 t4
        obtain ⟨n0, n1, n2, n3, n4⟩ := id N
        go_wp2
        go_roundw
        case rel => exact ⟨j + 1, u, v, by omega, by go_num, huv, N.stored _ _, T.others _ (by omega) _ _, (hR3.far _ _ (by omega) _).far _ _ (by omega) _, (hB.far (p := ⟨w1.heap.size, 0, none⟩) (by simp; omega) _).far (p := ⟨w1.heap.size, 1, none⟩) (by simp; omega) _⟩
        case measure => simp [intOf]; omega
      · rw [hok] at E
        clear hok
        go_wp2_with fail
        refine (E.out _).mono ?_
        rintro e w2 ⟨rfl, hb2⟩
        replace hR := hR.old hb2
        replace hB := hB.trans (But.of hb2)
        replace N := N.later hb2
        replace T := T.later hb2
        clear n0 n1 n2 n3 n4 t0 t1 t2 t3 t4
        obtain ⟨n0, n1, n2, n3, n4⟩ := id N
        obtain ⟨t0, t1, t2, t3, t4⟩ := id T
        go_wp2
        refine bodyPost_ret (v := .agg #[.int .i64 x, .int .i64 y]) ?_ rfl ⟨⟨x, y, hxy, rfl⟩, ((hR.mono (by omega)).far _ _ (by omega) _).far _ _ (by omega) _, (hB.far (p := ⟨w.heap.size, 0, none⟩) (by simp) _).far (p := ⟨w.heap.size, 1, none⟩) (by simp) _⟩
        have T2 := T.stored (.int .i64 x) (.int .i64 y)
        simp [results, Tryd.results49, go_sem, T2.1, T2.2.1]
    · obtain rfl : j = 5 := by omega
      go_wp2
      refine bodyPost_ret (v := .agg #[.int .i64 x, .int .i64 y]) ?_ rfl ⟨⟨x, y, hxy, rfl⟩, ((hR.mono (by omega)).far _ _ (by omega) _).far _ _ (by omega) _, (hB.far (p := ⟨w.heap.size, 0, none⟩) (by simp) _).far (p := ⟨w.heap.size, 1, none⟩) (by simp) _⟩
      have T2 := T.stored (.int .i64 x) (.int .i64 y)
      simp [results, Tryd.results49, go_sem, T2.1, T2.2.1]

end Go.Proofs.YtmllcpcbaojipaaDoor

/- The draw of a width and two pairs. Nothing that was there is written. -/
namespace Go.Proofs.YtmllcpcbaojipaaDoor
open Go.RowKit
set_option linter.unusedVariables false
set_option maxRecDepth 100000

theorem Rk.drewd {w : World} {rb k : Nat} (h : Rk w rb k) : Rk w.drew rb k := h.old (Below.drew (Below.refl _ _))
theorem old_but {w w1 w2 : World} {rb : Nat} (h : Below w.heap.size w w1) (k : But rb w1 w2) (hn : w.heap.size ≤ rb) : Below w.heap.size w w2 :=
  h.grown (row := some rb) ⟨k.os, k.tape, k.output, k.size, fun i hi hne => k.block i hi (fun e => hne (by rw [e]))⟩ h.size (fun i e => by cases e; exact hn)
end Go.Proofs.YtmllcpcbaojipaaDoor
