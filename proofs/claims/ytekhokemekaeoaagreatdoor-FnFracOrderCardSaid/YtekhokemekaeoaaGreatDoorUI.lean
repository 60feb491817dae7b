/- A draw of digits: some list of numbers, 256 at most, in new memory; nothing that was there is written but the reader. -/
import Derived.Test.YtekhokemekaeoaaGreatDoorUH
import Derived.Deep.CutBlock
import Derived.Deep.Onto
namespace Go.Proofs.YtekhokemekaeoaaGreatDoor
open Go.RowKit
set_option linter.unusedVariables false
set_option maxRecDepth 100000

theorem IGrows.base {w : World} {base base' : Nat} {v : Value} {xs : List Int} (h : IGrows w base v xs) (hb : base' ≤ base) : IGrows w base' v xs :=
  World.ownsRow.mono h hb
theorem grows_stored {w : World} {base g cap n : Nat} {xs : List Int} (h : IGrows w base (.slice (some ⟨g, 0, none⟩) n cap) xs) (i : Nat) (z : Int) : IGrows (w.setCell ⟨g, i, none⟩ (.int .i64 z)) base (.slice (some ⟨g, 0, none⟩) n cap) (xs.set i z) := by
  have h2 : n = xs.length := by
    rcases h.2 with ⟨e, _⟩ | ⟨g', cap', cur, e, _⟩
    · cases e
    · injection e
  subst h2
  have := World.ownsRow.stored h i (.int .i64 z)
  unfold IGrows
  rw [List.length_set, show ints (xs.set i z) = (ints xs).set i (.int .i64 z) by simp [ints, List.map_set]]
  exact this.1
theorem fits_snoc {xs : List Int} {x : Int} (h : IFits xs) (hx : -9223372036854775808 ≤ x ∧ x ≤ 9223372036854775807) : IFits (xs ++ [x]) := by
  intro y hy
  rcases List.mem_append.1 hy with hy | hy
  · exact h y hy
  · rw [List.mem_singleton] at hy; subst hy; exact hx
theorem fits_set {xs : List Int} {x : Int} (h : IFits xs) (i : Nat) (hx : -9223372036854775808 ≤ x ∧ x ≤ 9223372036854775807) : IFits (xs.set i x) := by
  intro y hy
  rcases List.mem_or_eq_of_mem_set hy with hy | rfl
  · exact h y hy
  · exact hx
theorem digs_snoc {xs : List Int} {x : Int} (h : digs xs) (hx : 0 ≤ x ∧ x < 65536) : digs (xs ++ [x]) := digs_append.2 ⟨h, digs_cons.2 ⟨hx, digs_nil⟩⟩
theorem digs_put {xs : List Int} {x : Int} (h : digs xs) (i : Nat) (hx : 0 ≤ x ∧ x < 65536) : digs (xs.set i x) := by
  intro j hj
  rw [List.length_set] at hj
  rw [List.getD_eq_getElem?_getD, List.getElem?_set]
  by_cases e : i = j
  · subst e
    rw [if_pos rfl, if_pos hj]
    exact hx
  · rw [if_neg e, ← List.getD_eq_getElem?_getD]
    exact h j hj
theorem pow16 {i : Nat} (h : i < 16) : 0 ≤ wrap64 (2 ^ ((i : Int)).toNat) ∧ wrap64 (2 ^ ((i : Int)).toNat) < 65536 := by
  have h1 : 2 ^ i ≤ 32768 := (by decide : ∀ m : Fin 16, 2 ^ m.val ≤ 32768) ⟨i, h⟩
  rw [Int.toNat_natCast]
  have h2 : (2 : Int) ^ i = ((2 ^ i : Nat) : Int) := by rw [Int.natCast_pow]; rfl
  rw [h2]
  generalize 2 ^ i = P at *
  unfold wrap64
  omega
set_option maxHeartbeats 4000000 in
theorem nat_k (rb k : Nat) (w : World) (h : Rk w rb (k + 600)) :
    Calls Tryz.prog 57 #[.pointer (some ⟨rb, 0, none⟩)] w fun e w' => (∃ v xs, e = .returned v ∧ IGrows w' w.heap.size v xs ∧ digs xs ∧ xs.length ≤ 256) ∧ Rk w' rb k ∧ But rb w w' := by
  obtain ⟨i0, hi, hz0, hz1, hz2⟩ := info_parts infoInt
  have hrl := h.lt
  go_enter Tryz.func57, Tryz.ntmps57
  go_wp2_with fail
  refine (pick_k rb (k + 599) _ _ h (by decide)).mono ?_
  rintro e w1 ⟨⟨n0, ⟨na, nb⟩, rfl⟩, R1, B1⟩
  clear h
  go_wp2_with fail
  refine (pick_k rb (k + 598) _ _ R1 (by decide)).mono ?_
  rintro e w2 ⟨⟨t0, ⟨ta, tb⟩, rfl⟩, R2, B2⟩
  replace B2 := B1.trans B2
  clear R1 B1
  go_upto_block 0 with fail
  go_cut [3] (fun s wx => ∃ m : Nat, m ≤ 256 ∧ s = .int .i64 (m : Int) ∧ Rk wx rb (k + 590) ∧ But rb w wx)
  case first =>
    by_cases t1 : t0 = 0
    · subst t1
      go_wp2_with fail
      refine (pick_k rb (k + 597) _ _ R2 (by decide)).mono ?_
      rintro e w3 ⟨⟨n1, ⟨ma, mb⟩, rfl⟩, R3, B3⟩
      obtain ⟨m, rfl⟩ := Int.eq_ofNat_of_zero_le ma
      go_wp2_with fail
      go_meet
      exact ⟨m, by omega, rfl, R3.mono (by omega), B2.trans B3⟩
    have t1' : (t0 == 0) = false := by simpa using t1
    by_cases t2 : t0 = 1
    · subst t2
      go_wp2_with fail
      refine (pick_k rb (k + 597) _ _ R2 (by decide)).mono ?_
      rintro e w3 ⟨⟨n1, ⟨ma, mb⟩, rfl⟩, R3, B3⟩
      replace B3 := B2.trans B3
      by_cases c : n1 = 0
      · subst c
        go_wp2_with fail
        refine (pick_k rb (k + 596) _ _ R3 (by decide)).mono ?_
        rintro e w4 ⟨⟨n2, ⟨pa, pb⟩, rfl⟩, R4, B4⟩
        replace B4 := B3.trans B4
        obtain ⟨m, hm⟩ := Int.eq_ofNat_of_zero_le (show 0 ≤ 256 - n2 by omega)
        go_wp2_with fail
        go_meet
        exact ⟨m, by omega, by go_num, R4.mono (by omega), B4⟩
      · have c' : (n1 == 0) = false := by simpa using c
        obtain ⟨m, rfl⟩ := Int.eq_ofNat_of_zero_le na
        go_wp2_with fail
        go_meet
        exact ⟨m, by omega, rfl, R3.mono (by omega), B3⟩
    have t2' : (t0 == 1) = false := by simpa using t2
    by_cases t3 : t0 = 2
    · subst t3
      go_wp2_with fail
      refine (pick_k rb (k + 597) _ _ R2 (by decide)).mono ?_
      rintro e w3 ⟨⟨n1, ⟨ma, mb⟩, rfl⟩, R3, B3⟩
      replace B3 := B2.trans B3
      obtain ⟨m, rfl⟩ := Int.eq_ofNat_of_zero_le ma
      go_wp2_with fail
      refine (sNatOfG m (by omega) _).mono ?_
      rintro e w4 ⟨⟨v, rfl, G⟩, hb4⟩
      have hG := G.base B3.size
      have hl1 : (natL m).length ≤ 256 := Nat.le_trans (natL_len (n := 1).2 (by omega)) (by omega)
      have hR := (R3.old hb4).mono (show k ≤ k + 597 by omega)
      have hB := B3.trans (But.of hb4)
      clear R3 R2 B2 B3 G hb4
      go_wp2
      go_ret
      exact ⟨⟨v, _, rfl, hG, digs_natL _, hl1⟩, hR, hB⟩
    have t3' : (t0 == 2) = false := by simpa using t3
    obtain ⟨m, rfl⟩ := Int.eq_ofNat_of_zero_le na
    go_wp2_with fail
    go_meet
    exact ⟨m, by omega, rfl, R2.mono (by omega), B2⟩
  case rest =>
    clear R2 B2
    obtain ⟨n, hn, rfl, R2, B2⟩ := hcut
    go_wp2_with fail
    refine (pick_k rb (k + 589) _ _ R2 (by decide)).mono ?_
    rintro e w3 ⟨⟨kd, ⟨ka, kb⟩, rfl⟩, R3, B3⟩
    replace B3 := B2.trans B3
    clear R2 B2
    go_wp2_with fail
    go_loopw [5, 6] (fun o i wr => ∃ (j : Nat) (xs : List Int), j ≤ n ∧ i = .int .i64 (j : Int) ∧ Hid (xs.length = j) ∧ IGrows wr w.heap.size o xs ∧ Hid (digs xs) ∧ Rk wr rb (k + 20 + 2 * (n - j)) ∧ But rb w wr) (fun _ i _ => n - (intOf i).toNat)
    case atStart => exact ⟨0, [], by omega, rfl, rfl, IGrows.nil _ _, digs_nil, R3.mono (by omega), B3⟩
    case round =>
      obtain ⟨j, xs, hj, rfl, hl, G, F, R0, B0⟩ := hrel
      by_cases hlt : j < n
      · have hlt' : (j : Int) < (n : Int) := by omega
        have hxl : xs.length ≤ 255 := by have := hl.out; omega
        replace R0 : Rk wr rb (k + 20 + 2 * (n - (j + 1)) + 1 + 1) := R0.mono (by omega)
        go_wp2_with fail
        refine (pick_k rb _ _ _ R0 (by decide)).mono ?_
        rintro e w4 ⟨⟨u, ⟨ua, ub⟩, rfl⟩, R4, B4⟩
        go_wp2_with fail
        refine (pick_k rb _ _ _ R4 (by decide)).mono ?_
        rintro e w5 ⟨⟨u', ⟨ua', ub'⟩, rfl⟩, R5, B5⟩
        replace G := (G.but B4 hrl).but B5 hrl
        replace B5 := (B0.trans B4).trans B5
        have hsz := B5.size
        have hk3 : kd = 0 ∨ kd = 1 ∨ ((kd == 0) = false ∧ (kd == 1) = false) := by
          by_cases h0 : kd = 0
          · exact .inl h0
          · by_cases h1 : kd = 1
            · exact .inr (.inl h1)
            · exact .inr (.inr ⟨by simpa using h0, by simpa using h1⟩)
        rcases hk3 with rfl | rfl | ⟨hk0, hk1⟩
        · have G2 := G.alloc (.cells #[.int .i64 (65535)] 3)
          have R2 := R5.alloc (.cells #[.int .i64 (65535)] 3)
          have B2 : But rb w (w5.alloc (.cells #[.int .i64 (65535)] 3)) := B5.alloc _
          have cw := cells_one w5 w5.heap.size rfl (.int .i64 (65535)) 3
          have hl' : Hid ((xs ++ [(65535 : Int)]).length = j + 1) := by show _ = _; rw [List.length_append]; have := hl.out; simp; omega
          have hF' : Hid (digs (xs ++ [(65535 : Int)])) := digs_snoc F.out ⟨by decide, by decide⟩
          clear hl F R0 R4 B4 R3 B3 G R5 B5
          go_wp2_with (at_builtin; refine wpList_append_own _ rfl _ _ 23 rfl w.heap.size 3 i0 _ 1 8 Tryz.underlying23 hi hz0 hz1 hz2 rfl (by decide) _ _ _ rfl G2 ⟨w5.heap.size, 0, none⟩ 1 1 [.int .i64 (65535)] rfl rfl cw (by simp [Value.oneCell']) (by unfold maxLen; omega) (by omega) (by simp; omega) ?_; intro v' w6 hown hgrow _)
          go_roundw
          case rel =>
            refine ⟨j + 1, xs ++ [(65535)], by omega, by go_num, hl', ?_, hF', R2.kept hgrow (fun c e => by have := (World.ownsRow.lt G2 c e).1; omega), B2.owned G2 hgrow (Nat.le_refl _)⟩
            unfold IGrows
            rw [ints_snoc, List.length_append]
            exact hown
          case measure => simp [intOf]; omega
        · have G2 := G.alloc (.cells #[.int .i64 (0)] 3)
          have R2 := R5.alloc (.cells #[.int .i64 (0)] 3)
          have B2 : But rb w (w5.alloc (.cells #[.int .i64 (0)] 3)) := B5.alloc _
          have cw := cells_one w5 w5.heap.size rfl (.int .i64 (0)) 3
          have hl' : Hid ((xs ++ [(0 : Int)]).length = j + 1) := by show _ = _; rw [List.length_append]; have := hl.out; simp; omega
          have hF' : Hid (digs (xs ++ [(0 : Int)])) := digs_snoc F.out ⟨by decide, by decide⟩
          clear hl F R0 R4 B4 R3 B3 G R5 B5
          go_wp2_with (at_builtin; refine wpList_append_own _ rfl _ _ 23 rfl w.heap.size 3 i0 _ 1 8 Tryz.underlying23 hi hz0 hz1 hz2 rfl (by decide) _ _ _ rfl G2 ⟨w5.heap.size, 0, none⟩ 1 1 [.int .i64 (0)] rfl rfl cw (by simp [Value.oneCell']) (by unfold maxLen; omega) (by omega) (by simp; omega) ?_; intro v' w6 hown hgrow _)
          go_roundw
          case rel =>
            refine ⟨j + 1, xs ++ [(0)], by omega, by go_num, hl', ?_, hF', R2.kept hgrow (fun c e => by have := (World.ownsRow.lt G2 c e).1; omega), B2.owned G2 hgrow (Nat.le_refl _)⟩
            unfold IGrows
            rw [ints_snoc, List.length_append]
            exact hown
          case measure => simp [intOf]; omega
        · have G2 := G.alloc (.cells #[.int .i64 (u * 256 + u')] 3)
          have R2 := R5.alloc (.cells #[.int .i64 (u * 256 + u')] 3)
          have B2 : But rb w (w5.alloc (.cells #[.int .i64 (u * 256 + u')] 3)) := B5.alloc _
          have cw := cells_one w5 w5.heap.size rfl (.int .i64 (u * 256 + u')) 3
          have hl' : Hid ((xs ++ [(u * 256 + u' : Int)]).length = j + 1) := by show _ = _; rw [List.length_append]; have := hl.out; simp; omega
          have hF' : Hid (digs (xs ++ [(u * 256 + u' : Int)])) := digs_snoc F.out ⟨by omega, by omega⟩
          clear hl F R0 R4 B4 R3 B3 G R5 B5
          go_wp2_with (at_builtin; refine wpList_append_own _ rfl _ _ 23 rfl w.heap.size 3 i0 _ 1 8 Tryz.underlying23 hi hz0 hz1 hz2 rfl (by decide) _ _ _ rfl G2 ⟨w5.heap.size, 0, none⟩ 1 1 [.int .i64 (u * 256 + u')] rfl rfl cw (by simp [Value.oneCell']) (by unfold maxLen; omega) (by omega) (by simp; omega) ?_; intro v' w6 hown hgrow _)
          go_roundw
          case rel =>
            refine ⟨j + 1, xs ++ [(u * 256 + u')], by omega, by go_num, hl', ?_, hF', R2.kept hgrow (fun c e => by have := (World.ownsRow.lt G2 c e).1; omega), B2.owned G2 hgrow (Nat.le_refl _)⟩
            unfold IGrows
            rw [ints_snoc, List.length_append]
            exact hown
          case measure => simp [intOf]; omega
      · obtain rfl : j = n := by omega
        have hll := hl.out
        clear R3 B3
        by_cases h0 : j = 0
        · subst h0
          obtain rfl : xs = [] := List.length_eq_zero_iff.1 hll
          clear hl hll
          go_wp2
          go_ret
          exact ⟨⟨_, _, rfl, G, digs_nil, by simp⟩, R0.mono (by omega), B0⟩
        have hrow := G.row (by omega)
        obtain ⟨g, cap, rfl, hg1, hg2, hg3, hg4⟩ := hrow
        obtain ⟨y, hy, hyc, hyf⟩ := hg4.at (k := j - 1) (by omega)
        have hj0 : (0 : Int) < (j : Int) := by omega
        have hjw : IntKind.wrap .i64 ((j : Int) - 1) = (j : Int) - 1 := by rw [IntKind.wrap_i64]; omega
        have htn : ((j : Int) - 1).toNat = j - 1 := by omega
        have hix : (j : Int) - 1 < (xs.length : Int) := by omega
        have hix0 : 0 ≤ (j : Int) - 1 := by omega
        clear hy
        by_cases hy0 : y = 0
        · subst hy0
          go_wp2_with fail
          refine (pick_k rb (k + 19) _ _ (R0.mono (by omega)) (by decide)).mono ?_
          rintro e w4 ⟨⟨u, ⟨ua, ub⟩, rfl⟩, R4, B4⟩
          have G4 := G.but B4 hrl
          have hyc4 : w4.cell? ⟨g, j - 1, none⟩ = some (.int .i64 0) := (World.cell?_of_block (w := wr) (B4.block g (World.block_lt_of_cell? _ _ hyc) (by omega))).trans hyc
          have hyf4 : w4.frozen? ⟨g, j - 1, none⟩ = false := (World.frozen?_of_block (w := wr) (B4.block g (World.block_lt_of_cell? _ _ hyc) (by omega))).trans hyf
          clear hyc hyf
          obtain ⟨i, rfl⟩ := Int.eq_ofNat_of_zero_le ua
          have hz : 0 ≤ wrap64 (2 ^ ((i : Int)).toNat) ∧ wrap64 (2 ^ ((i : Int)).toNat) < 65536 :=
            pow16 (by omega)
          have hzh := hd hz
          clear hz
          rw [hll] at G4
          have G5 := hd (grows_stored G4 (j - 1) (wrap64 (2 ^ ((i : Int)).toNat)))
          have R5 := hd ((R4.mono (show k ≤ k + 19 by omega)).far g (j - 1) (by omega) (.int .i64 (wrap64 (2 ^ ((i : Int)).toNat))))
          have B5 := hd ((B0.trans B4).far (p := ⟨g, j - 1, none⟩) hg1 (.int .i64 (wrap64 (2 ^ ((i : Int)).toNat))))
          have F5 := hd (digs_put F.out (j - 1) hzh.out)
          clear G4 R4 B4 B0 R0 G F
          go_wp2
          go_ret
          exact ⟨⟨_, _, rfl, G5.out, F5.out, by rw [List.length_set]; have := hl.out; omega⟩, R5.out, B5.out⟩
        · have hy1 : (y == 0) = false := by simpa using hy0
          clear hll
          go_wp2
          go_ret
          exact ⟨⟨_, _, rfl, G, F.out, by have := hl.out; omega⟩, R0.mono (by omega), B0⟩
end Go.Proofs.YtekhokemekaeoaaGreatDoor
