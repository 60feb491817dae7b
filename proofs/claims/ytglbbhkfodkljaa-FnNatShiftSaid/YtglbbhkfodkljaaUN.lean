/- Draws of a number's digits and a power: a list and a number from -1 to 65. -/
import Derived.Test.YtglbbhkfodkljaaUK
import Derived.Deep.RegionHeld3
namespace Go.Proofs.Ytglbbhkfodkljaa
open Go.RowKit
set_option linter.unusedVariables false

theorem pick8 (t u : Int) (t0 : 0 ≤ t) (t1 : t < 30) (u0 : 0 ≤ u) (u1 : u < 8) : ∃ x : Int, (-1 ≤ x ∧ x ≤ 65) ∧ (#[Value.int .i64 0, Value.int .i64 1, Value.int .i64 2, Value.int .i64 3, Value.int .i64 t, Value.int .i64 64, Value.int .i64 65, Value.int .i64 (-1)] : Array Value)[u.toNat]? = some (.int .i64 x) := by
  have h : u = 0 ∨ u = 1 ∨ u = 2 ∨ u = 3 ∨ u = 4 ∨ u = 5 ∨ u = 6 ∨ u = 7 := by omega
  rcases h with rfl | rfl | rfl | rfl | rfl | rfl | rfl | rfl
  all_goals exact ⟨_, ⟨by omega, by omega⟩, rfl⟩
theorem But.sizeD {rb : Nat} {w w' : World} (h : But rb w.drew w') : w.heap.size ≤ w'.heap.size := h.size
theorem But.ofD {rb : Nat} {w w' : World} (h : But rb w.drew w') : But rb w w' := ⟨h.os, h.tape, h.output, h.size, h.block⟩
theorem Rk.drewd {w : World} {rb k : Nat} (h : Rk w rb k) : Rk w.drew rb k := h
theorem cell_built {w w' : World} {rb i : Nat} {arr : Array Value} {ty : TypeId} {v : Value} (B : But rb (w.alloc (.cells arr ty)) w') (hX : arr[i]? = some v) (hne : w.heap.size ≠ rb) : w'.cell? ⟨w.heap.size, i, none⟩ = some v :=
  (World.cell?_of_block (w := w.alloc (.cells arr ty)) (a := ⟨w.heap.size, i, none⟩) (B.block w.heap.size (by simp) hne)).trans (by simp [hX])
theorem cell_made {i : Nat} {arr : Array Value} {v : Value} (w : World) (ty : TypeId) (hX : arr[i]? = some v) : (w.alloc (.cells arr ty)).cell? ⟨w.heap.size, i, none⟩ = some v := by simp [hX]
/-- a list in new memory, and a number -/
def LiN (w : World) (base : Nat) (lo hi : Int) (e : Ending) : Prop := ∃ av cv xs, ∃ k : Int, e = .returned (.tuple #[.slice av (List.length xs) cv, .int .i64 k]) ∧ OI w base av cv xs ∧ List.length xs ≤ 257 ∧ lo ≤ k ∧ k ≤ hi
set_option maxHeartbeats 4000000 in
theorem drawNatPow (w : World) (a : Option Addr) (len cap : Nat) (h : IsCode w a len cap) :
    Calls Try.prog 20 #[.slice a len cap] w fun e w' => LiN w' w.heap.size (-1) 65 e ∧ Below w.heap.size w w' := by
  have hop := hd (open_kB w a len cap h)
  go_enter Try.func20, Try.ntmps20
  go_wp2_with fail
  refine hop.out.mono ?_
  rintro e w1 ⟨rfl, o, rfl, hR⟩
  have hsz0 : (w.alloc o).heap.size = w.heap.size + 1 := by simp
  generalize hrb : w.heap.size = rb at *
  clear hop h
  go_wp2_with fail
  refine (raw_k rb 90000 _ (hR.mono (by omega))).mono ?_
  rintro e w2 ⟨⟨v, xs, rfl, G, F_, hl_⟩, R2, B2⟩
  have F := hd F_
  have hl := hd hl_
  have hs2 := B2.size
  clear hR F_ hl_
  go_wp2_with fail
  refine (pick_k rb 89999 _ _ R2 (by decide)).mono ?_
  rintro e w3 ⟨⟨q, ⟨qa, qb⟩, rfl⟩, R3, B3⟩
  replace G := G.but B3 (by omega)
  have hs3 := B3.size
  replace B3 := B2.trans B3
  clear R2 B2
  by_cases hq : 0 < q
  · go_wp2_with fail
    refine (pick_k rb 89998 _ _ R3 (by decide)).mono ?_
    rintro e w4 ⟨⟨s, ⟨sa, sb⟩, rfl⟩, R4, B4⟩
    have hs4 := B4.size
    replace B4 := B3.trans B4
    clear R3 B3 G F hl
    obtain ⟨m, rfl⟩ := Int.eq_ofNat_of_zero_le sa
    go_wp2_with fail
    refine (sNatOfG m (by omega) _).mono ?_
    rintro e w5 ⟨⟨z, rfl, G⟩, hb5⟩
    have hl : Hid ((natL m).length ≤ 257) := Nat.le_trans (natL_len (n := 1).2 (by omega)) (by omega)
    have F := hd (natL_fits m)
    have R5 := (R4.old hb5).mono (show 70001 ≤ 89998 by omega)
    have B5 := B4.trans (But.of hb5)
    have hs5 := hb5.size
    clear R4 B4 hb5
    replace G := G.base (show (w.alloc o).heap.size ≤ _ by omega)
    have hlt5 : rb < w5.heap.size := by omega
    obtain ⟨av, cv, rfl, O⟩ := G.oi F.out
    have hO : ∀ q, av = some q → some q.block ≠ some rb := fun q e1 e2 => by injection e2 with e2; have := O.ge q e1; omega
    clear G
    go_wp2_with fail
    go_region_with (first
      | (go_at_call 36; with_reducible refine (pick_k rb 70000 30 _ (by first | exact R5 | exact R5.drewd) (by decide)).mono ?_; rintro e w6 ⟨⟨t, ⟨ta, tb⟩, rfl⟩, R6, B6⟩; have hs6 := (by first | exact B6.sizeD | exact B6.size : w5.heap.size ≤ w6.heap.size); have O6 := (by first | exact O.kept B6.grown hO | exact O.drew.kept B6.grown hO : OI w6 _ av cv _); have B56 := (by first | exact B5.trans B6 | exact B5.trans B6.ofD : But rb (w.alloc o) w6); obtain ⟨arr, hArr⟩ : ∃ arr : Array Value, (#[Value.int .i64 0, Value.int .i64 1, Value.int .i64 2, Value.int .i64 3, Value.int .i64 t, Value.int .i64 64, Value.int .i64 65, Value.int .i64 (-1)] : Array Value) = arr := ⟨_, rfl⟩)
      | (go_at_call 36; with_reducible refine (pick_k rb 69999 8 _ (by first | exact R6 | exact (R6.alloc _) | exact R6.drewd | exact (R6.alloc _).drewd | exact R6.drewd.alloc _) (by decide)).mono ?_; rintro e w7 ⟨⟨u, ⟨ua, ub⟩, rfl⟩, R7, B7⟩; obtain ⟨x, hx, hX⟩ := pick8 t u ta tb ua ub; rw [hArr] at hX; have hs7 := B7.size; (first | have hc7 := cell_built B7 hX (Nat.ne_of_gt (Nat.lt_of_lt_of_le hlt5 hs6)) | have hc7 := cell_made w7 3 hX); have O7 := (by first | exact O6.kept B7.grown hO | exact (O6.alloc _).kept B7.grown hO : OI w7 _ av cv _); have B57 := (by first | exact B56.trans B7 | exact (B56.alloc _).trans B7 : But rb (w.alloc o) w7)))
    all_goals
      subst hrb
      go_wp2
      go_ret2
      first | exact ⟨⟨av, cv, _, x, rfl, O7.mono (by omega), hl.out, hx.1, hx.2⟩, B57.below⟩ | exact ⟨⟨av, cv, _, x, rfl, (O7.alloc _).mono (by omega), hl.out, hx.1, hx.2⟩, (B57.alloc _).below⟩
  · have R5 := R3.mono (show 70001 ≤ 89999 by omega)
    have B5 := B3
    clear R3 B3
    have hlt5 : rb < w3.heap.size := by omega
    obtain ⟨av, cv, rfl, O⟩ := G.oi F.out
    have hO : ∀ q, av = some q → some q.block ≠ some rb := fun q e1 e2 => by injection e2 with e2; have := O.ge q e1; omega
    clear G
    go_wp2_with fail
    go_region_with (first
      | (go_at_call 36; with_reducible refine (pick_k rb 70000 30 _ (by first | exact R5 | exact R5.drewd) (by decide)).mono ?_; rintro e w6 ⟨⟨t, ⟨ta, tb⟩, rfl⟩, R6, B6⟩; have hs6 := (by first | exact B6.sizeD | exact B6.size : w3.heap.size ≤ w6.heap.size); have O6 := (by first | exact O.kept B6.grown hO | exact O.drew.kept B6.grown hO : OI w6 _ av cv _); have B56 := (by first | exact B5.trans B6 | exact B5.trans B6.ofD : But rb (w.alloc o) w6); obtain ⟨arr, hArr⟩ : ∃ arr : Array Value, (#[Value.int .i64 0, Value.int .i64 1, Value.int .i64 2, Value.int .i64 3, Value.int .i64 t, Value.int .i64 64, Value.int .i64 65, Value.int .i64 (-1)] : Array Value) = arr := ⟨_, rfl⟩)
      | (go_at_call 36; with_reducible refine (pick_k rb 69999 8 _ (by first | exact R6 | exact (R6.alloc _) | exact R6.drewd | exact (R6.alloc _).drewd | exact R6.drewd.alloc _) (by decide)).mono ?_; rintro e w7 ⟨⟨u, ⟨ua, ub⟩, rfl⟩, R7, B7⟩; obtain ⟨x, hx, hX⟩ := pick8 t u ta tb ua ub; rw [hArr] at hX; have hs7 := B7.size; (first | have hc7 := cell_built B7 hX (Nat.ne_of_gt (Nat.lt_of_lt_of_le hlt5 hs6)) | have hc7 := cell_made w7 3 hX); have O7 := (by first | exact O6.kept B7.grown hO | exact (O6.alloc _).kept B7.grown hO : OI w7 _ av cv _); have B57 := (by first | exact B56.trans B7 | exact (B56.alloc _).trans B7 : But rb (w.alloc o) w7)))
    all_goals
      subst hrb
      go_wp2
      go_ret2
      first | exact ⟨⟨av, cv, _, x, rfl, O7.mono (by omega), hl.out, hx.1, hx.2⟩, B57.below⟩ | exact ⟨⟨av, cv, _, x, rfl, (O7.alloc _).mono (by omega), hl.out, hx.1, hx.2⟩, (B57.alloc _).below⟩
end Go.Proofs.Ytglbbhkfodkljaa
