/- A draw of digits, one in twenty no number's: some list of numbers, 257 at most, in new memory. -/
import Derived.Test.YtekhokemekaeoaaGreatDoorUI
namespace Go.Proofs.YtekhokemekaeoaaGreatDoor
open Go.RowKit
set_option linter.unusedVariables false
set_option maxRecDepth 100000

def lenV : Value → Nat
  | .slice _ n _ => n
  | _ => 0
theorem IGrows.lenV {w : World} {base : Nat} {v : Value} {xs : List Int} (h : IGrows w base v xs) : lenV v = xs.length := by
  rcases h.2 with ⟨h1, h2⟩ | ⟨g, cap, cur, h1, _⟩
  · rw [h1, h2]; rfl
  · rw [h1]; rfl
theorem IGrows.sl {w : World} {base : Nat} {v : Value} {xs : List Int} (h : IGrows w base v xs) : ∃ a c, v = .slice a xs.length c := by
  rcases h.2 with ⟨h1, h2⟩ | ⟨g, cap, cur, h1, _⟩
  · exact ⟨_, _, by rw [h1, h2]⟩
  · exact ⟨_, _, h1⟩
set_option maxHeartbeats 4000000 in
theorem raw_k (rb k : Nat) (w : World) (h : Rk w rb (k + 700)) :
    Calls Tryz.prog 74 #[.pointer (some ⟨rb, 0, none⟩)] w fun e w' => (∃ v xs, e = .returned v ∧ IGrows w' w.heap.size v xs ∧ IFits xs ∧ xs.length ≤ 257) ∧ Rk w' rb k ∧ But rb w w' := by
  obtain ⟨i0, hi, hz0, hz1, hz2⟩ := info_parts infoInt
  have hrl := h.lt
  go_enter Tryz.func74, Tryz.ntmps74
  go_wp2_with fail
  refine (nat_k rb (k + 100) _ h).mono ?_
  rintro e w1 ⟨⟨v, xs, rfl, G, F_, hl0⟩, R1, B1⟩
  have F := hd (digs_fits F_)
  clear h F_
  go_wp2_with fail
  refine (pick_k rb (k + 99) _ _ R1 (by decide)).mono ?_
  rintro e w2 ⟨⟨t0, ⟨ta, tb⟩, rfl⟩, R2, B2⟩
  replace G := G.but B2 hrl
  have B3 := B1.trans B2
  have R3 := R2.mono (show k ≤ k + 99 by omega)
  clear R1 B1 R2 B2
  by_cases t1 : t0 = 0
  · subst t1
    have G2 := G.alloc (.cells #[.int .i64 (0)] 3)
    have R2 := R3.alloc (.cells #[.int .i64 (0)] 3)
    have B2 : But rb w (w2.alloc (.cells #[.int .i64 (0)] 3)) := B3.alloc _
    have cw := cells_one w2 w2.heap.size rfl (.int .i64 (0)) 3
    have hl' : Hid ((xs ++ [(0 : Int)]).length = xs.length + 1) := by show _ = _; rw [List.length_append]; rfl
    have hF' : Hid (IFits (xs ++ [(0 : Int)])) := fits_snoc F.out ⟨by decide, by decide⟩
    have hsz := B3.size
    clear F G R3 B3
    go_wp2_with (at_builtin; refine wpList_append_own _ rfl _ _ 23 rfl w.heap.size 3 i0 _ 1 8 Tryz.underlying23 hi hz0 hz1 hz2 rfl (by decide) _ _ _ rfl G2 ⟨w2.heap.size, 0, none⟩ 1 1 [.int .i64 (0)] rfl rfl cw (by simp [Value.oneCell']) (by unfold maxLen; omega) (by omega) (by simp; omega) ?_; intro v' w6 hown hgrow _)
    have hGG : IGrows w6 w.heap.size v' (xs ++ [(0 : Int)]) := by
      unfold IGrows
      rw [ints_snoc, List.length_append]
      exact hown
    have hRR := R2.kept hgrow (fun c e => by have := (World.ownsRow.lt G2 c e).1; omega)
    have hBB := B2.owned G2 hgrow (Nat.le_refl _)
    clear G2 R2 B2 cw hgrow hown
    go_wp2
    go_ret
    exact ⟨⟨_, _, rfl, hGG, hF'.out, by have := hl'.out; omega⟩, hRR, hBB⟩
  have t1' : (t0 == 0) = false := by simpa using t1
  by_cases t2 : t0 = 1
  · subst t2
    have G2 := G.alloc (.cells #[.int .i64 (65536)] 3)
    have R2 := R3.alloc (.cells #[.int .i64 (65536)] 3)
    have B2 : But rb w (w2.alloc (.cells #[.int .i64 (65536)] 3)) := B3.alloc _
    have cw := cells_one w2 w2.heap.size rfl (.int .i64 (65536)) 3
    have hl' : Hid ((xs ++ [(65536 : Int)]).length = xs.length + 1) := by show _ = _; rw [List.length_append]; rfl
    have hF' : Hid (IFits (xs ++ [(65536 : Int)])) := fits_snoc F.out ⟨by decide, by decide⟩
    have hsz := B3.size
    clear F G R3 B3
    go_wp2_with (at_builtin; refine wpList_append_own _ rfl _ _ 23 rfl w.heap.size 3 i0 _ 1 8 Tryz.underlying23 hi hz0 hz1 hz2 rfl (by decide) _ _ _ rfl G2 ⟨w2.heap.size, 0, none⟩ 1 1 [.int .i64 (65536)] rfl rfl cw (by simp [Value.oneCell']) (by unfold maxLen; omega) (by omega) (by simp; omega) ?_; intro v' w6 hown hgrow _)
    have hGG : IGrows w6 w.heap.size v' (xs ++ [(65536 : Int)]) := by
      unfold IGrows
      rw [ints_snoc, List.length_append]
      exact hown
    have hRR := R2.kept hgrow (fun c e => by have := (World.ownsRow.lt G2 c e).1; omega)
    have hBB := B2.owned G2 hgrow (Nat.le_refl _)
    clear G2 R2 B2 cw hgrow hown
    go_wp2
    go_ret
    exact ⟨⟨_, _, rfl, hGG, hF'.out, by have := hl'.out; omega⟩, hRR, hBB⟩
  have t2' : (t0 == 1) = false := by simpa using t2
  by_cases t3 : t0 = 2
  · subst t3
    have G2 := G.alloc (.cells #[.int .i64 (-1)] 3)
    have R2 := R3.alloc (.cells #[.int .i64 (-1)] 3)
    have B2 : But rb w (w2.alloc (.cells #[.int .i64 (-1)] 3)) := B3.alloc _
    have cw := cells_one w2 w2.heap.size rfl (.int .i64 (-1)) 3
    have hl' : Hid ((xs ++ [(-1 : Int)]).length = xs.length + 1) := by show _ = _; rw [List.length_append]; rfl
    have hF' : Hid (IFits (xs ++ [(-1 : Int)])) := fits_snoc F.out ⟨by decide, by decide⟩
    have hsz := B3.size
    clear F G R3 B3
    go_wp2_with (at_builtin; refine wpList_append_own _ rfl _ _ 23 rfl w.heap.size 3 i0 _ 1 8 Tryz.underlying23 hi hz0 hz1 hz2 rfl (by decide) _ _ _ rfl G2 ⟨w2.heap.size, 0, none⟩ 1 1 [.int .i64 (-1)] rfl rfl cw (by simp [Value.oneCell']) (by unfold maxLen; omega) (by omega) (by simp; omega) ?_; intro v' w6 hown hgrow _)
    have hGG : IGrows w6 w.heap.size v' (xs ++ [(-1 : Int)]) := by
      unfold IGrows
      rw [ints_snoc, List.length_append]
      exact hown
    have hRR := R2.kept hgrow (fun c e => by have := (World.ownsRow.lt G2 c e).1; omega)
    have hBB := B2.owned G2 hgrow (Nat.le_refl _)
    clear G2 R2 B2 cw hgrow hown
    go_wp2
    go_ret
    exact ⟨⟨_, _, rfl, hGG, hF'.out, by have := hl'.out; omega⟩, hRR, hBB⟩
  have t3' : (t0 == 2) = false := by simpa using t3
  by_cases t4 : t0 = 3
  · subst t4
    go_wp2_with fail
    go_loopw [3] (fun o wr => ∃ xs : List Int, IGrows wr w.heap.size o xs ∧ Hid (IFits xs) ∧ xs.length ≤ 257 ∧ Rk wr rb k ∧ But rb w wr) (fun o _ => 257 - lenV o)
    case atStart => exact ⟨xs, G, F, by omega, R3, B3⟩
    case round =>
      clear G F R3 B3 hl0 xs
      obtain ⟨xs, G, F, hl0, R3, B3⟩ := hrel
      obtain ⟨av, cv, rfl⟩ := G.sl
      by_cases hc : xs.length ≤ 256
      · have hc' : (xs.length : Int) ≤ 256 := by omega
        have G2 := G.alloc (.cells #[.int .i64 (1)] 3)
        have R2 := R3.alloc (.cells #[.int .i64 (1)] 3)
        have B2 : But rb w (wr.alloc (.cells #[.int .i64 (1)] 3)) := B3.alloc _
        have cw := cells_one wr wr.heap.size rfl (.int .i64 (1)) 3
        have hl' : Hid ((xs ++ [(1 : Int)]).length = xs.length + 1) := by show _ = _; rw [List.length_append]; rfl
        have hF' : Hid (IFits (xs ++ [(1 : Int)])) := fits_snoc F.out ⟨by decide, by decide⟩
        have hsz := B3.size
        clear F G R3 B3
        go_wp2_with (at_builtin; refine wpList_append_own _ rfl _ _ 23 rfl w.heap.size 3 i0 _ 1 8 Tryz.underlying23 hi hz0 hz1 hz2 rfl (by decide) _ _ _ rfl G2 ⟨wr.heap.size, 0, none⟩ 1 1 [.int .i64 (1)] rfl rfl cw (by simp [Value.oneCell']) (by unfold maxLen; omega) (by omega) (by simp; omega) ?_; intro v' w6 hown hgrow _)
        have hGG : IGrows w6 w.heap.size v' (xs ++ [(1 : Int)]) := by
          unfold IGrows
          rw [ints_snoc, List.length_append]
          exact hown
        have hRR := R2.kept hgrow (fun c e => by have := (World.ownsRow.lt G2 c e).1; omega)
        have hBB := B2.owned G2 hgrow (Nat.le_refl _)
        clear G2 R2 B2 cw hgrow hown
        have hm := hGG.lenV
        go_roundw
        case rel => exact ⟨_, hGG, hF', by have := hl'.out; omega, hRR, hBB⟩
        case measure =>
          have := hl'.out
          rw [hm]
          show 257 - _ < 257 - xs.length
          omega
      · have hc' : ¬ ((xs.length : Int) ≤ 256) := by omega
        go_wp2
        go_ret
        exact ⟨⟨_, rfl, _, G, F.out, hl0⟩, R3, B3⟩
  have t4' : (t0 == 3) = false := by simpa using t4
  go_wp2
  go_ret
  first | exact ⟨⟨_, _, rfl, G, F.out, by omega⟩, R3, B3⟩ | exact ⟨⟨_, rfl, _, G, F.out, by omega⟩, R3, B3⟩
end Go.Proofs.YtekhokemekaeoaaGreatDoor
