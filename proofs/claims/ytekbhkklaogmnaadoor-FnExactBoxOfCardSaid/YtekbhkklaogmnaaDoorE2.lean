/- A new box of what is made at each place; nothing, if one is not made: of whatever function that answers so at each place and writes nothing that was there. Conditions: 2^20 places at most. -/
import Derived.Test.YtekbhkklaogmnaaDoorE1
namespace Go.Proofs.YtekbhkklaogmnaaDoor
open Go.RowKit
set_option linter.unusedVariables false
set_option maxRecDepth 100000

/-- what is made at the first n places -/
def madeL (n : Nat) (x y : Nat → Int) : List (Int × Int) := (List.range n).map (fun i => (x i, y i))
theorem madeL_length (n : Nat) (x y : Nat → Int) : (madeL n x y).length = n := by simp [madeL]
theorem madeL_getD {n i : Nat} (x y : Nat → Int) (h : i < n) : (madeL n x y).getD i (0, 0) = (x i, y i) := by simp [madeL, List.getD_eq_getElem?_getD, h]
def anyNo (n : Nat) (ok : Nat → Bool) : Bool := !(List.range n).all ok

set_option maxHeartbeats 4000000 in
theorem ofEach (g : Nat) (caps : Array Value) (n : Nat) (hn : n ≤ 1048576) (x y : Nat → Int) (ok : Nat → Bool) (w : World)
    (hE : ∀ args w, (callFunc g args).run Tryd.prog w = .ok (.enter g args) w)
    (hG : ∀ (k : Nat) (W : World), k < n → Below w.heap.size w W → Calls Tryd.prog g (#[.int .i64 (k : Int)] ++ caps) W fun e W' => e = .returned (.tuple #[.agg #[.int .i64 (x k), .int .i64 (y k)], .bool (ok k)]) ∧ Below W.heap.size W W') :
    Calls Tryd.prog 23 #[.int .i64 (n : Int), .func (.func g) #[] caps] w fun e w' => ((((∀ k, k < n → ok k = true) ∧ ∃ b, e = .returned (.tuple #[.agg #[.slice (some ⟨b, 0, none⟩) n n], .bool true]) ∧ w.heap.size ≤ b ∧ Row w' b (madeL n x y)) ∨ ((∃ k, k < n ∧ ok k = false) ∧ e = .returned (.tuple #[.agg #[.slice none 0 0], .bool false])))) ∧ Below w.heap.size w w' := by
  have hmk := mkPairs (w.alloc (.cells #[.slice none 0 0] 25)) n hn
  have hr0 := Row.made (w.alloc (.cells #[.slice none 0 0] 25)) n 39
  have K : Cel1 ((w.alloc (.cells #[.slice none 0 0] 25)).alloc (.cells (madeCells #[.int .i64 0, .int .i64 0] (n * 2)) 39)) w.heap.size (.slice none 0 0) := (Cel1.made w _ rfl _ _).alloc _
  have hb0 : Below w.heap.size w ((w.alloc (.cells #[.slice none 0 0] 25)).alloc (.cells (madeCells #[.int .i64 0, .int .i64 0] (n * 2)) 39)) := ((Below.refl _ w).alloc (Nat.le_refl _) _).alloc (by simp) _
  simp only [World.size_alloc] at hmk hr0
  generalize hW0 : (w.alloc (.cells #[.slice none 0 0] 25)).alloc (.cells (madeCells #[.int .i64 0, .int .i64 0] (n * 2)) 39) = w0 at *
  clear hW0
  go_enter Tryd.func23, Tryd.ntmps23
  go_wp2
  go_loopw [13] (fun i wr => ∃ (k : Nat) (qs : List (Int × Int)), k ≤ n ∧ i = .int .i64 k ∧ Hid (∀ j, j < k → ok j = true) ∧ Upto k qs (madeL n x y) ∧ Row wr (w.heap.size + 1) qs ∧ Cel1 wr w.heap.size (.slice none 0 0) ∧ Below w.heap.size w wr) (fun b _ => n - (intOf b).toNat)
  case atStart => exact ⟨0, _, by omega, rfl, fun j hj => absurd hj (by omega), Upto.zero (madeL_length n x y), hr0, K, hb0⟩
  case round =>
    clear hr0 K hb0 hmk
    obtain ⟨k, qs, hk, rfl, hall, hu, hr, K, hb⟩ := hrel
    have hql : qs.length = n := by rw [hu.1, madeL_length]
    by_cases hlt : k < n
    · have H := hd (hG k wr hlt hb)
      have hup := hu.step (by rw [madeL_length]; omega)
      rw [madeL_getD x y hlt] at hup
      generalize x k = xk at *
      generalize y k = yk at *
      cases hok : ok k
      · rw [hok] at H
        have hno : Hid (∃ k, k < n ∧ ok k = false) := ⟨k, hlt, hok⟩
        clear hok
        go_wp2_with fail
        refine H.out.mono ?_
        rintro e w1 ⟨rfl, hb1⟩
        replace K := K.later hb1
        obtain ⟨k0, k1, k2⟩ := id K
        go_wp2
        refine bodyPost_ret (v := .tuple #[.agg #[.slice none 0 0], .bool false]) ?_ rfl ⟨.inr ⟨hno.out, rfl⟩, ?_⟩
        · have c5 := ((K.set (.slice none 0 0)).alloc (.cells #[.int .i64 xk, .int .i64 yk] 39)).1
          simp [results, Tryd.results23, go_sem, c5]
        · exact ((hb.trans (hb1.mono hb.size)).setCell (p := ⟨w.heap.size, 0, none⟩) (Nat.le_refl _) _).alloc (by have := hb.size; have := hb1.size; simp [World.setCell]; omega) _
      · rw [hok] at H
        have hall' : Hid (∀ j, j < k + 1 → ok j = true) := by
          intro j hj
          by_cases e : j = k
          · subst e; exact hok
          · exact hall j (by omega)
        clear hok
        go_wp2_with fail
        refine H.out.mono ?_
        rintro e w1 ⟨rfl, hb1⟩
        replace K := K.later hb1
        replace hr := hr.old hb1
        have hb2 : Below w.heap.size w w1 := (by repeat (first | exact hb | exact Below.refl _ _ | refine Below.drew ?_ | refine old_alloc ?_ _ | refine old_trans ?_ (by assumption)))
        obtain ⟨k0, k1, k2⟩ := id K
        have hr2 := hr.old ((Below.refl _ w1).alloc (Nat.le_refl _) (.cells #[.int .i64 xk, .int .i64 yk] 39))
        have K2 := K.alloc (.cells #[.int .i64 xk, .int .i64 yk] 39)
        have hb3 := hb2.alloc hb2.size (.cells #[.int .i64 xk, .int .i64 yk] 39)
        obtain ⟨x', y', -, d0, d1, d2, d3⟩ := hr2.at (k := k) (by omega)
        have hst := hr2.set k (by omega) xk yk
        go_wp2
        go_roundw
        case rel => exact ⟨k + 1, _, by omega, by go_num, hall', hup, hst, (K2.other ⟨w.heap.size + 1, k * 2, none⟩ (by simp) _).other ⟨w.heap.size + 1, k * 2 + 1, none⟩ (by simp) _, (hb3.setCell (p := ⟨w.heap.size + 1, k * 2, none⟩) (by simp) _).setCell (p := ⟨w.heap.size + 1, k * 2 + 1, none⟩) (by simp) _⟩
        case measure => simp [intOf]; omega
    · obtain rfl : k = n := by omega
      have hq : qs = madeL k x y := Upto.all (by rw [madeL_length]; exact hu)
      subst hq
      obtain ⟨k0, k1, k2⟩ := id K
      go_wp2
      refine bodyPost_ret (v := .tuple #[.agg #[.slice (some ⟨w.heap.size + 1, 0, none⟩) k k], .bool true]) ?_ rfl ⟨.inl ⟨hall.out, _, rfl, by omega, hr.other ⟨w.heap.size, 0, none⟩ (by simp) _⟩, hb.setCell (p := ⟨w.heap.size, 0, none⟩) (Nat.le_refl _) _⟩
      simp [results, Tryd.results23, go_sem, k0]
end Go.Proofs.YtekbhkklaogmnaaDoor
