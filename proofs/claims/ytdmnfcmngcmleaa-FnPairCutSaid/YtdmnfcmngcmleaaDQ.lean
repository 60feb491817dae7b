/- The draw of a width and a pair that is one: for every code. Nothing that was there is written. -/
import Derived.Test.YtdmnfcmngcmleaaDP
import Derived.Deep.QuietTactic
import Derived.BigQuiet
namespace Go.Proofs.Ytdmnfcmngcmleaa
open Go.RowKit
set_option linter.unusedVariables false

set_option maxHeartbeats 4000000 in
theorem goodPair (w : World) (c : Option Addr) (len cap : Nat) (h : IsCode w c len cap) :
    Calls Try.prog 5 #[.slice c len cap] w fun e w' => (∃ wd a b : Int, (wd = 32 ∨ wd = 64) ∧ pokB wd a b = true ∧ e = .returned (.tuple #[.int .i64 wd, .agg #[.int .i64 a, .int .i64 b]])) ∧ Below w.heap.size w w' := by
  have T : Cel2 (w.alloc (.cells #[.int .i64 0, .int .i64 0] 24)) w.heap.size (.int .i64 0) (.int .i64 0) := Cel2.made w _ rfl _ _ _
  have hb0 : Below w.heap.size w (w.alloc (.cells #[.int .i64 0, .int .i64 0] 24)) := (Below.refl _ w).alloc (Nat.le_refl _) _
  have hs0 : w.heap.size < (w.alloc (.cells #[.int .i64 0, .int .i64 0] 24)).heap.size := by simp
  replace h := h.old hb0
  go_enter Try.func5, Try.ntmps5
  go_wp2_with fail
  generalize w.alloc (.cells #[.int .i64 0, .int .i64 0] 24) = wz at *
  refine (open_k wz c len cap h).mono ?_
  rintro e w1 ⟨rfl, o, rfl, hR⟩
  replace T := T.alloc o
  clear h
  have hlt0 := hR.lt
  go_upto_region 2 with fail
  go_cut [5] (fun s wx => ∃ wd : Int, (wd = 32 ∨ wd = 64) ∧ s = .int .i64 wd ∧ Rk wx wz.heap.size 900 ∧ But wz.heap.size (wz.alloc o) wx ∧ Cel2 wx w.heap.size (.int .i64 0) (.int .i64 0))
  case first =>
    go_wp2_with fail
    refine (pick_k wz.heap.size 999 _ _ (hR.alloc _) (by decide)).mono ?_
    rintro e w2 ⟨⟨u, ⟨ua, ub⟩, rfl⟩, hR2, hB2⟩
    have hc : ∀ i, w2.cell? ⟨wz.heap.size + 1, i, none⟩ = (#[Value.int IntKind.i64 32, Value.int IntKind.i64 64] : Array Value)[i]? := fun i =>
      (World.cell?_of_block (w := (wz.alloc o).alloc (.cells #[Value.int IntKind.i64 32, Value.int IntKind.i64 64] 3)) (hB2.block (wz.heap.size + 1) (by simp) (by omega))).trans (by rw [show wz.heap.size + 1 = (wz.alloc o).heap.size by simp]; simp)
    have hB : But wz.heap.size (wz.alloc o) w2 := ((But.refl _ _).alloc _).trans hB2
    replace T := (T.alloc (.cells #[Value.int IntKind.i64 32, Value.int IntKind.i64 64] 3)).but hB2 (by omega)
    have h2 : u = 0 ∨ u = 1 := by omega
    rcases h2 with rfl | rfl
    all_goals
      go_wp2_with fail
      go_meet
      first | exact ⟨32, .inl rfl, rfl, hR2.mono (by omega), hB, T⟩ | exact ⟨64, .inr rfl, rfl, hR2.mono (by omega), hB, T⟩
  case rest =>
    clear hR T
    obtain ⟨wd, hwd, rfl, hR2, hB, T⟩ := hcut
    have h59 : pokB wd (-5) 9 = true := by rcases hwd with rfl | rfl <;> decide +kernel
    go_wp2_with fail
    refine (good_k wz.heap.size 100 _ _ (Rk.mono hR2 (by omega))).mono ?_
    rintro e w3 ⟨⟨a, b, hab, rfl⟩, hR3, hB3⟩
    replace T := T.but hB3 (by omega)
    replace hB := hB.trans hB3
    clear hB3 hR2
    have hBel : Below wz.heap.size wz w3 := hB.below
    have hBw : Below w.heap.size w w3 := hb0.trans (hBel.mono (by omega))
    have N : Cel2 (w3.alloc (.cells #[.int .i64 a, .int .i64 b] 24)) w3.heap.size (.int .i64 a) (.int .i64 b) := Cel2.made _ _ rfl _ _ _
    replace T := T.alloc (.cells #[.int .i64 a, .int .i64 b] 24)
    have hb3 : Below w.heap.size w (w3.alloc (.cells #[.int .i64 a, .int .i64 b] 24)) := old_alloc hBw _
    have hlt : w.heap.size < w3.heap.size := by have := hBel.size; omega
    cases hok : pokB wd a b
    · have E := hd (sPairOk wd a b)
      rw [hok] at E
      go_wp2_with fail
      refine (E.out _).mono ?_
      rintro e w4 ⟨rfl, hb4⟩
      replace N := N.later hb4
      replace T := T.later hb4
      replace hb3 := old_trans hb3 hb4
      have hz4 := hb3.size
      obtain ⟨n0, n1, n2, n3, n4⟩ := id N
      obtain ⟨t0, t1, t2, t3, t4⟩ := id T
      have ne1 : w.heap.size ≠ w3.heap.size := by omega
      have ne2 : w3.heap.size ≠ w.heap.size := by omega
      have N2 := N.stored (.int .i64 (-5)) (.int .i64 9)
      have T2 := T.others w3.heap.size (by omega) (.int .i64 (-5)) (.int .i64 9)
      obtain ⟨n0', n1', n2', n3', n4'⟩ := id N2
      obtain ⟨t0', t1', t2', t3', t4'⟩ := id T2
      go_wp2_with fail
      go_region
      all_goals
        go_wp2
        refine bodyPost_ret (v := .tuple #[.int .i64 wd, .agg #[.int .i64 (-5), .int .i64 9]]) ?_ rfl ⟨⟨wd, -5, 9, hwd, h59, rfl⟩, ?_⟩
        · have T3 := T2.stored (.int .i64 (-5)) (.int .i64 9)
          simp [results, Try.results5, go_sem, T3.1, T3.2.1]
        · repeat (first | with_reducible exact hb3 | with_reducible refine Below.drew ?_ | (refine Below.setCell ?_ ?_ _; rotate_left; (first | exact Nat.le_refl _ | exact Nat.le_of_lt hlt | omega)))
    · have E := hd (sPairOk wd a b)
      rw [hok] at E
      go_wp2_with fail
      refine (E.out _).mono ?_
      rintro e w4 ⟨rfl, hb4⟩
      replace N := N.later hb4
      replace T := T.later hb4
      replace hb3 := old_trans hb3 hb4
      have hz4 := hb3.size
      obtain ⟨n0, n1, n2, n3, n4⟩ := id N
      obtain ⟨t0, t1, t2, t3, t4⟩ := id T
      have ne1 : w.heap.size ≠ w3.heap.size := by omega
      have ne2 : w3.heap.size ≠ w.heap.size := by omega
      go_wp2_with fail
      go_region
      all_goals
        go_wp2
        refine bodyPost_ret (v := .tuple #[.int .i64 wd, .agg #[.int .i64 a, .int .i64 b]]) ?_ rfl ⟨⟨wd, a, b, hwd, hok, rfl⟩, ?_⟩
        · have T3 := T.stored (.int .i64 a) (.int .i64 b)
          simp [results, Try.results5, go_sem, T3.1, T3.2.1]
        · repeat (first | with_reducible exact hb3 | with_reducible refine Below.drew ?_ | (refine Below.setCell ?_ ?_ _; rotate_left; (first | exact Nat.le_refl _ | exact Nat.le_of_lt hlt | omega)))
end Go.Proofs.Ytdmnfcmngcmleaa
